/-
  Rows of spans compared; the closed answers of the chapter's examples.
-/
import Derived.Test.YthnjfnapjpdchaaKm10
import Derived.Test.YthnjfnapjpdchaaKm17
import Derived.Test.YthnjfnapjpdchaaKm18
namespace Go.Proofs.Ythnjfnapjpdchaa
open Go.RowKit
set_option linter.unusedVariables false

set_option maxHeartbeats 1600000 in
theorem spans_same (n b1 b2 o1 o2 c1 c2 : Nat) (zs : Nat → Int × Int) (w : World) (hn : n ≤ 100000) (h1 : SpansAt w b1 o1 n zs) (h2 : SpansAt w b2 o2 n zs) (l1 : b1 < w.heap.size) (l2 : b2 < w.heap.size) :
    Calls Try.prog 49 #[.slice (some ⟨b1, o1, none⟩) n c1, .slice (some ⟨b2, o2, none⟩) n c2] w fun e w' => e = .returned (.bool true) ∧ Below w.heap.size w w' := by
  have H1 := Lib.hid h1
  have H2 := Lib.hid h2
  clear h1 h2
  go_enter Try.func49, Try.ntmps49
  go_wp2
  go_loopw [5] (fun i wr => ∃ k : Nat, k ≤ n ∧ i = .int .i64 k ∧ Below w.heap.size w wr) (fun i _ => n - (intOf i).toNat)
  case atStart => exact ⟨0, Nat.zero_le _, rfl, Below.refl _ _⟩
  case round =>
    obtain ⟨k, hk, rfl, hbw⟩ := hrel
    by_cases hlt : k < n
    · have p1 := keepB hbw l1 (H1.out k hlt).1
      have p2 := keepB hbw l2 (H2.out k hlt).1
      have p3 := keepB hbw l1 (H1.out k hlt).2
      have p4 := keepB hbw l2 (H2.out k hlt).2
      have q0 : (0 : Int) ≤ (k : Int) := by omega
      have q1 : (k : Int) < (n : Int) := by omega
      go_wp2
      go_quiet (fail)
      go_wp2
      go_roundw
      case rel => exact ⟨k + 1, by omega, by go_num, below_drewN hbw _⟩
      case measure => simp [intOf]; omega
    · go_wp2
      go_ret
      exact ⟨rfl, hbw⟩

set_option maxHeartbeats 1600000 in
theorem spans_nil (w : World) :
    Calls Try.prog 49 #[.slice none 0 0, .slice none 0 0] w fun e w' => e = .returned (.bool true) ∧ Below w.heap.size w w' := by
  go_enter Try.func49, Try.ntmps49
  go_wp2
  go_loopw [5] (fun i wr => i = .int .i64 0 ∧ Below w.heap.size w wr) (fun i _ => 0)
  case atStart => exact ⟨rfl, Below.refl _ _⟩
  case round =>
    obtain ⟨rfl, hbw⟩ := hrel
    go_wp2
    go_ret
    exact ⟨rfl, hbw⟩

/-- the ground below the gates, made -/
def gndL (x y rose step t ray gx gy size wide high : Int) (zs : Nat → Int × Int) (j : Nat) : Int := if pixB gx gy size wide high (plX x rose step t ray j) (plY y rose step t ray j) = true then (zs (pixN gx gy size wide (plX x rose step t ray j) (plY y rose step t ray j)).toNat).1 else 0
def gndH (x y rose step t ray gx gy size wide high : Int) (zs : Nat → Int × Int) (j : Nat) : Int := if pixB gx gy size wide high (plX x rose step t ray j) (plY y rose step t ray j) = true then (zs (pixN gx gy size wide (plX x rose step t ray j) (plY y rose step t ray j)).toNat).2 else 20000
theorem gnd_is (x y rose step t ray gx gy size wide high : Int) (zs : Nat → Int × Int) (g : Nat) : GndIs x y rose step t ray gx gy size wide high zs g (gndL x y rose step t ray gx gy size wide high zs) (gndH x y rose step t ray gx gy size wide high zs) := fun j _ => by
  unfold gndL gndH
  refine ⟨fun h => ?_, fun h => ?_⟩
  · rw [if_pos h, if_pos h]; exact ⟨rfl, rfl⟩
  · rw [if_neg (by rw [h]; decide), if_neg (by rw [h]; decide)]; exact ⟨rfl, rfl⟩
/-- the pixel of a place within a grid is one of its pixels -/
theorem pixN_lt {gx gy size wide high px py : Int} (s1 : 1 ≤ size) (w1 : 1 ≤ wide) (h : pixB gx gy size wide high px py = true) : (pixN gx gy size wide px py).toNat < (wide * high).toNat := by
  unfold pixB at h
  simp only [Bool.and_eq_true] at h
  obtain ⟨hx, hy⟩ := h
  obtain ⟨x1, x2⟩ := inB_true.1 hx
  obtain ⟨y1, y2⟩ := inB_true.1 hy
  have a1 : (py - gy) / size < high := Int.ediv_lt_of_lt_mul (by omega) (by omega)
  have a0 : 0 ≤ (py - gy) / size := Int.ediv_nonneg (by omega) (by omega)
  have b1 : (px - gx) / size < wide := Int.ediv_lt_of_lt_mul (by omega) (by omega)
  have b0 : 0 ≤ (px - gx) / size := Int.ediv_nonneg (by omega) (by omega)
  unfold pixN
  have c1 : ((py - gy) / size + 1) * wide ≤ high * wide := Int.mul_le_mul_of_nonneg_right (by omega) (by omega)
  rw [Int.add_mul, Int.one_mul, Int.mul_comm high wide] at c1
  have c0 : 0 ≤ (py - gy) / size * wide := Int.mul_nonneg a0 (by omega)
  omega
theorem gnd_bd {x y rose step t ray gx gy size wide high : Int} {zs : Nat → Int × Int} {len : Nat} (s1 : 1 ≤ size) (w1 : 1 ≤ wide) (hl : (len : Int) = wide * high) (ha : AllIn len zs 0 20000) (j : Nat) :
    0 ≤ gndL x y rose step t ray gx gy size wide high zs j ∧ gndL x y rose step t ray gx gy size wide high zs j ≤ gndH x y rose step t ray gx gy size wide high zs j ∧ gndH x y rose step t ray gx gy size wide high zs j ≤ 20000 := by
  unfold gndL gndH
  by_cases h : pixB gx gy size wide high (plX x rose step t ray j) (plY y rose step t ray j) = true
  · rw [if_pos h, if_pos h]
    have := pixN_lt s1 w1 h
    have h3 := spanB_true.1 (ha _ (show (pixN gx gy size wide (plX x rose step t ray j) (plY y rose step t ray j)).toNat < len by omega))
    omega
  · rw [if_neg h, if_neg h]; decide
/-- what is surely in the way is perhaps in the way -/
theorem thr_pq {z step t width lo hi : Int} {GL GH : Nat → Int} {T g : Nat} (hT : (T : Int) = 2 * width + 1) (d1 : 0 ≤ width) (d2 : width ≤ 8) (t1 : 0 ≤ t) (t2 : t ≤ 256) (s1 : 50 ≤ step) (s2 : step ≤ 2000) (e1 : 1000000 ≤ lo) (e2 : lo ≤ hi) (hg : g ≤ 200) (hb : ∀ j, j < g → GL j ≤ GH j) :
    ∀ k j, k < T → j < g → thrP z step t width lo GL k j = true → thrQ z step t width hi GH k j = true := fun k j hk hj h => by
  have h := of_decide_eq_true h
  have := hb j hj
  have := M.rise (z := z) (step := step) (s := t - width + k) (t := t - width + k) (gate := j) (lo := lo) (hi := hi) (by omega) (by omega) (by omega) s1 s2 (by omega) (by omega) e1 e2
  exact decide_eq_true (by omega)

theorem Direction_23 (w : World) : Calls Try.prog 25 #[.int .i64 2, .int .i64 3] w fun e w' => e = .returned (.tuple #[.int .i64 3, .int .i64 (-4), .int .i64 5, .int .i64 0]) ∧ Below w.heap.size w w' := by
  have h := Direction_ok 2 3 w (by decide) (by decide) (by decide) (by decide)
  rw [show dirX 2 3 = 3 by decide, show dirY 2 3 = -4 by decide, show dirL 2 3 = 5 by decide] at h
  exact h
theorem Slant_256 (w : World) : Calls Try.prog 27 #[.int .i64 256] w fun e w' => e = .returned (.tuple #[.int .i64 196608, .int .i64 262144, .int .i64 327680, .int .i64 0]) ∧ w = w' := Slant_ok 256 w (by decide) (by decide)
theorem cS0 : codeE (siteC nmS 0 0 100 2 4 1000 1) (inB 0 (-8) 264 && spanB 1000000 1000000 1000000 100000000 && inB 1 0 (4 - 1)) = 0 := by rw [siteS]; decide
theorem cS256 : codeE (siteC nmS 0 0 100 2 4 1000 1) (inB 256 (-8) 264 && spanB 1000000 1000000 1000000 100000000 && inB 1 0 (4 - 1)) = 0 := by rw [siteS]; decide
theorem Height_S0 (w : World) : Calls Try.prog 31 #[.agg #[.string nmS, .int .i64 0, .int .i64 0, .int .i64 100, .int .i64 2, .int .i64 4, .int .i64 1000, .int .i64 1], .int .i64 0, .agg #[.int .i64 1000000, .int .i64 1000000], .int .i64 1] w fun e w' => e = .returned (.tuple #[.agg #[.int .i64 101, .int .i64 102], .int .i64 0]) ∧ Below w.heap.size w w' := by
  have h := Height_any nmS 0 0 100 2 4 1000 1 0 1000000 1000000 1 w nmS_size
  rw [cS0, val_ok, val_ok, show climbLo 100 1000 0 1 1000000 = 101 by decide +kernel, show climbHi 100 1000 0 1 1000000 = 102 by decide +kernel] at h
  exact h
theorem Height_S256 (w : World) : Calls Try.prog 31 #[.agg #[.string nmS, .int .i64 0, .int .i64 0, .int .i64 100, .int .i64 2, .int .i64 4, .int .i64 1000, .int .i64 1], .int .i64 256, .agg #[.int .i64 1000000, .int .i64 1000000], .int .i64 1] w fun e w' => e = .returned (.tuple #[.agg #[.int .i64 1300, .int .i64 1301], .int .i64 0]) ∧ Below w.heap.size w w' := by
  have h := Height_any nmS 0 0 100 2 4 1000 1 256 1000000 1000000 1 w nmS_size
  rw [cS256, val_ok, val_ok, show climbLo 100 1000 256 1 1000000 = 1300 by decide +kernel, show climbHi 100 1000 256 1 1000000 = 1301 by decide +kernel] at h
  exact h
theorem srchA : SrchIs (4 + 1) (inside (1000 * 1000 + 0 * 0) (bordI 1000 0)) 2 := by
  refine ⟨by decide, by decide +kernel, fun k h1 h2 => ?_⟩
  have : k = 2 ∨ k = 3 ∨ k = 4 := by omega
  rcases this with rfl | rfl | rfl <;> decide +kernel
theorem rayA : RayIs 2 1000 0 2 := by
  refine .inr ⟨1, 0, 1000, by decide, by decide, by decide, by decide, by decide, 1, ⟨by decide, by decide +kernel, fun k h1 h2 => ?_⟩, by decide⟩
  obtain rfl : k = 1 := by omega
  decide +kernel
theorem srchB : SrchIs (4 + 1) (inside (0 * 0 + 4000 * 4000) (bordI 1000 0)) 5 := by
  refine ⟨by decide, by decide +kernel, fun k h1 h2 => by omega⟩
theorem Find_SA (w : World) : Calls Try.prog 38 #[.agg #[.string nmS, .int .i64 0, .int .i64 0, .int .i64 100, .int .i64 2, .int .i64 4, .int .i64 1000, .int .i64 1], .int .i64 0, .int .i64 1000, .int .i64 0] w
    fun e w' => e = .returned (.tuple #[.int .i64 2, .int .i64 1, .int .i64 0]) ∧ Below w.heap.size w w' :=
  Find_in nmS 0 0 100 2 4 1000 1 0 1000 0 1000 0 (by decide) (by decide) 2 srchA w nmS_size siteS okS (by decide) (by decide) (by decide) (by decide) (by decide) 2 rayA
theorem Find_SB (w : World) : Calls Try.prog 38 #[.agg #[.string nmS, .int .i64 0, .int .i64 0, .int .i64 100, .int .i64 2, .int .i64 4, .int .i64 1000, .int .i64 1], .int .i64 0, .int .i64 0, .int .i64 4000] w
    fun e w' => e = .returned (.tuple #[.int .i64 0, .int .i64 0, .int .i64 29]) ∧ Below w.heap.size w w' :=
  Find_out nmS 0 0 100 2 4 1000 1 0 0 4000 0 4000 (by decide) (by decide) 5 srchB w nmS_size siteS okS (by decide) (by decide) (by decide) (by decide)
theorem gridG : gridC (-5000) (-5000) 5000 2 2 = 0 := gridC_zero.2 (by decide)
theorem Pixel_GA (w : World) : Calls Try.prog 40 #[.agg #[.int .i64 (-5000), .int .i64 (-5000), .int .i64 5000, .int .i64 2, .int .i64 2], .int .i64 0, .int .i64 0] w fun e w' => e = .returned (.tuple #[.int .i64 3, .int .i64 0]) ∧ Below w.heap.size w w' := by
  have h := Pixel_any (-5000) (-5000) 5000 2 2 0 0 w
  rw [gridG, show pixE 0 (pixB (-5000) (-5000) 5000 2 2 0 0) = 0 by decide +kernel, if_pos rfl, show pixN (-5000) (-5000) 5000 2 0 0 = 3 by decide +kernel] at h
  exact h
theorem Pixel_GB (w : World) : Calls Try.prog 40 #[.agg #[.int .i64 (-5000), .int .i64 (-5000), .int .i64 5000, .int .i64 2, .int .i64 2], .int .i64 (-1), .int .i64 0] w fun e w' => e = .returned (.tuple #[.int .i64 2, .int .i64 0]) ∧ Below w.heap.size w w' := by
  have h := Pixel_any (-5000) (-5000) 5000 2 2 (-1) 0 w
  rw [gridG, show pixE 0 (pixB (-5000) (-5000) 5000 2 2 (-1) 0) = 0 by decide +kernel, if_pos rfl, show pixN (-5000) (-5000) 5000 2 (-1) 0 = 2 by decide +kernel] at h
  exact h
theorem Pixel_GC (w : World) : Calls Try.prog 40 #[.agg #[.int .i64 (-5000), .int .i64 (-5000), .int .i64 5000, .int .i64 2, .int .i64 2], .int .i64 5000, .int .i64 0] w fun e w' => e = .returned (.tuple #[.int .i64 0, .int .i64 29]) ∧ Below w.heap.size w w' := by
  have h := Pixel_any (-5000) (-5000) 5000 2 2 5000 0 w
  rw [gridG, show pixE 0 (pixB (-5000) (-5000) 5000 2 2 5000 0) = 29 by decide +kernel, if_neg (by decide)] at h
  exact h
/-- what the example's grid sees -/
def viewS (k : Nat) : Int := if k = 0 then 19 else if k = 1 then 11 else if k = 2 then 27 else 3
theorem srchV (sq : Int) (h : sq = 12500000) : SrchIs (4 + 1) (inside sq (bordI 1000 0)) 4 := by
  subst h
  refine ⟨by decide, by decide +kernel, fun k h1 h2 => ?_⟩
  have : k = 4 := by omega
  subst this; decide +kernel
theorem secV (q : Nat) (s : Int) (h : s = q * (2 : Nat) + (1 : Nat) - 1) : SecIs 2 q 2500 2500 s := by
  refine ⟨1, ⟨by decide, by decide +kernel, fun k h1 h2 => ?_⟩, h⟩
  obtain rfl : k = 1 := by omega
  decide +kernel
theorem view_S (k : Nat) (hk : k < 4) : ViewIs 2 4 1000 0 (midX (-5000) 5000 2 k - 0) (midY (-5000) 5000 2 k - 0) (viewS k) := by
  have hk' : k = 0 ∨ k = 1 ∨ k = 2 ∨ k = 3 := by omega
  rcases hk' with rfl | rfl | rfl | rfl
  · exact ⟨4, srchV _ (by decide +kernel), .inr ⟨by decide, 4, .inr ⟨2, 2500, 2500, by decide, by decide, by decide, by decide +kernel, by decide +kernel, secV 2 4 (by decide)⟩, by decide +kernel⟩⟩
  · exact ⟨4, srchV _ (by decide +kernel), .inr ⟨by decide, 2, .inr ⟨1, 2500, 2500, by decide, by decide, by decide, by decide +kernel, by decide +kernel, secV 1 2 (by decide)⟩, by decide +kernel⟩⟩
  · exact ⟨4, srchV _ (by decide +kernel), .inr ⟨by decide, 6, .inr ⟨3, 2500, 2500, by decide, by decide, by decide, by decide +kernel, by decide +kernel, secV 3 6 (by decide)⟩, by decide +kernel⟩⟩
  · exact ⟨4, srchV _ (by decide +kernel), .inr ⟨by decide, 0, .inr ⟨0, 2500, 2500, by decide, by decide, by decide, by decide +kernel, by decide +kernel, secV 0 0 (by decide)⟩, by decide +kernel⟩⟩
theorem View_S (w : World) : Calls Try.prog 43 #[.agg #[.string nmS, .int .i64 0, .int .i64 0, .int .i64 100, .int .i64 2, .int .i64 4, .int .i64 1000, .int .i64 1], .int .i64 0, .agg #[.int .i64 (-5000), .int .i64 (-5000), .int .i64 5000, .int .i64 2, .int .i64 2]] w (ListRet 4 viewS w) :=
  View_ok nmS 0 0 100 2 4 1000 1 (-5000) (-5000) 5000 2 2 0 4 (by decide) viewS (fun k hk => view_S k hk) w nmS_size siteS okS gridG (by decide)
theorem hill_D : fieldC (-5000) (-5000) 5000 2 2 4 zsH 20000 = 0 := by
  rw [fieldC_spans gridG (by decide), spansC_ok]
  intro j hj
  have hj' : j = 0 ∨ j = 1 ∨ j = 2 ∨ j = 3 := by omega
  rcases hj' with rfl | rfl | rfl | rfl <;> decide
theorem hill_all : AllIn 4 zsH 0 20000 := (ground_zero hill_D).2.2
theorem Blocked_S (ray : Int) (c2 : inB ray 0 (4 * 2 - 1) = true) (L H : Nat → Int) (hL : ∀ j, j < 4 → sumsOf (thrP 100 1000 0 1 10000000 (gndL 0 0 2 1000 0 ray (-5000) (-5000) 5000 2 2 zsH)) 3 j = L j) (hH : ∀ j, j < 4 → sumsOf (thrQ 100 1000 0 1 10000000 (gndH 0 0 2 1000 0 ray (-5000) (-5000) 5000 2 2 zsH)) 3 j = H j) (b : Nat) (w : World) (hs : SliceIs w (some ⟨b, 0, none⟩) 4 4 zsH) :
    Calls Try.prog 46 #[.agg #[.string nmS, .int .i64 0, .int .i64 0, .int .i64 100, .int .i64 2, .int .i64 4, .int .i64 1000, .int .i64 1], .int .i64 0, .agg #[.int .i64 10000000, .int .i64 10000000], .agg #[.int .i64 (-5000), .int .i64 (-5000), .int .i64 5000, .int .i64 2, .int .i64 2, .slice (some ⟨b, 0, none⟩) 4 4], .int .i64 ray] w (BlkRet 4 L H w) := by
  rcases hs with ⟨h, _⟩ | ⟨b2, off, h, hb, hsp⟩
  cases h
  refine (Blocked_ok nmS 0 0 100 2 4 1000 1 10000000 10000000 (-5000) (-5000) 5000 2 2 b 0 4 4 zsH 0 ray 3 (by decide) (gndL 0 0 2 1000 0 ray (-5000) (-5000) 5000 2 2 zsH) (gndH 0 0 2 1000 0 ray (-5000) (-5000) 5000 2 2 zsH) w nmS_size (by decide) hsp hb siteS okS hill_D (by decide) (by decide) c2 (gnd_is _ _ _ _ _ _ _ _ _ _ _ _ _) (thr_pq (by decide) (by decide) (by decide) (by decide) (by decide) (by decide) (by decide) (by decide) (by decide) (by decide) (fun j _ => (gnd_bd (by decide) (by decide) (by decide) hill_all j).2.1))).mono ?_
  rintro e w' ⟨b', c, rfl, hsp', hr⟩
  refine ⟨b', c, rfl, fun i hi => ?_, hr⟩
  have := hsp' i hi
  dsimp only at this ⊢
  rw [hL i hi, hH i hi] at this
  exact this
theorem Blocked_S4 (b : Nat) (w : World) (hs : SliceIs w (some ⟨b, 0, none⟩) 4 4 zsH) :
    Calls Try.prog 46 #[.agg #[.string nmS, .int .i64 0, .int .i64 0, .int .i64 100, .int .i64 2, .int .i64 4, .int .i64 1000, .int .i64 1], .int .i64 0, .agg #[.int .i64 10000000, .int .i64 10000000], .agg #[.int .i64 (-5000), .int .i64 (-5000), .int .i64 5000, .int .i64 2, .int .i64 2, .slice (some ⟨b, 0, none⟩) 4 4], .int .i64 4] w (BlkRet 4 (fun _ => 0) (fun _ => 0) w) := by
  refine Blocked_S 4 (by decide) _ _ (fun j hj => ?_) (fun j hj => ?_) b w hs <;> (have hj' : j = 0 ∨ j = 1 ∨ j = 2 ∨ j = 3 := by omega) <;> rcases hj' with rfl | rfl | rfl | rfl <;> decide +kernel
theorem Blocked_S0 (b : Nat) (w : World) (hs : SliceIs w (some ⟨b, 0, none⟩) 4 4 zsH) :
    Calls Try.prog 46 #[.agg #[.string nmS, .int .i64 0, .int .i64 0, .int .i64 100, .int .i64 2, .int .i64 4, .int .i64 1000, .int .i64 1], .int .i64 0, .agg #[.int .i64 10000000, .int .i64 10000000], .agg #[.int .i64 (-5000), .int .i64 (-5000), .int .i64 5000, .int .i64 2, .int .i64 2, .slice (some ⟨b, 0, none⟩) 4 4], .int .i64 0] w (BlkRet 4 (fun _ => 3) (fun _ => 3) w) := by
  refine Blocked_S 0 (by decide) _ _ (fun j hj => ?_) (fun j hj => ?_) b w hs <;> (have hj' : j = 0 ∨ j = 1 ∨ j = 2 ∨ j = 3 := by omega) <;> rcases hj' with rfl | rfl | rfl | rfl <;> decide +kernel

end Go.Proofs.Ythnjfnapjpdchaa

namespace Go.Proofs.Ythnjfnapjpdchaa
open Go.RowKit
set_option linter.unusedVariables false

theorem ints_new (w : World) (el : Nat) : IntsAt (w.alloc (.cells #[.int .i64 19, .int .i64 11, .int .i64 27, .int .i64 3] el)) w.heap.size 4 viewS := fun k hk => by
  have hk' : k = 0 ∨ k = 1 ∨ k = 2 ∨ k = 3 := by omega
  rcases hk' with rfl | rfl | rfl | rfl <;> exact alloc_new rfl rfl

set_option maxRecDepth 100000 in
set_option maxHeartbeats 3200000 in
theorem known_any (w : World) :
    Calls Try.prog 13 #[] w fun e w' => e = .returned (.bool true) ∧ Below w.heap.size w w' := by
  have hmk : ∀ wx : World, (Instr.makeSlice 26 (.int .i64 4) (.int .i64 4)).run Try.prog wx = .ok (.slice (some ⟨wx.heap.size, 0, none⟩) 4 4) (wx.alloc (.cells (madeCells #[.int .i64 0, .int .i64 0] (4 * 2)) 43)) := fun wx => make_spans 4 (by omega) wx
  go_enter Try.func13, Try.ntmps13
  go_wp2_with fail
  refine (Direction_23 _).mono ?_; rintro e w1 ⟨rfl, hb1⟩
  go_wp2_with fail
  refine (Slant_256 _).mono ?_; rintro e w' ⟨rfl, rfl⟩
  go_wp2_with fail
  refine (S_any _).mono ?_; rintro e w2 ⟨rfl, hb2⟩
  have B2 := hb1.trans (hb2.mono hb1.size)
  clear hb1 hb2
  go_wp2_with fail
  refine (point_any _ _).mono ?_; rintro e w3 ⟨rfl, hb3⟩
  have B3 := B2.trans (hb3.mono B2.size)
  clear B2 hb3
  go_wp2_with fail
  refine (Height_S0 _).mono ?_; rintro e w4 ⟨rfl, hb4⟩
  have B4 := B3.trans (hb4.mono B3.size)
  clear B3 hb4
  go_wp2_with fail
  refine (S_any _).mono ?_; rintro e w5 ⟨rfl, hb5⟩
  have P1 := (PairAt.new w4 (.int .i64 101) (.int .i64 102) 43).keep hb5 (by simp)
  have Z1 := World.block_lt_of_cell? _ _ P1.c0
  have B5 : Below w.heap.size w w5 := B4.trans ((Below.trans (below_alloc w4 _) (hb5.mono (by simp))).mono B4.size)
  clear B4 hb5
  go_wp2_with fail
  refine (point_any _ _).mono ?_; rintro e w6 ⟨rfl, hb6⟩
  have P2 := P1.keep hb6 Z1
  have Z2 := World.block_lt_of_cell? _ _ P2.c0
  have B6 := B5.trans (hb6.mono B5.size)
  clear P1 Z1 B5 hb6
  go_wp2_with fail
  refine (Height_S256 _).mono ?_; rintro e w7 ⟨rfl, hb7⟩
  obtain ⟨p0, p1⟩ := P2.keep hb7 Z2
  have y1 : w4.heap.size < w7.heap.size := Nat.lt_of_lt_of_le Z2 hb7.size
  have B7 := B6.trans (hb7.mono B6.size)
  clear P2 Z2 B6 hb7
  go_wp2_with fail
  refine (S_any _).mono ?_; rintro e w8 ⟨rfl, hb8⟩
  have B8 : Below w.heap.size w w8 := B7.trans ((Below.trans (below_alloc w7 _) (hb8.mono (by simp))).mono B7.size)
  clear B7 hb8 p0 p1 y1
  go_wp2_with fail
  refine (Find_SA _).mono ?_; rintro e w9 ⟨rfl, hb9⟩
  have B9 := B8.trans (hb9.mono B8.size)
  clear B8 hb9
  go_wp2_with fail
  refine (S_any _).mono ?_; rintro e w10 ⟨rfl, hb10⟩
  have B10 := B9.trans (hb10.mono B9.size)
  clear B9 hb10
  go_wp2_with fail
  refine (Find_SB _).mono ?_; rintro e w11 ⟨rfl, hb11⟩
  have B11 := B10.trans (hb11.mono B10.size)
  clear B10 hb11
  go_wp2_with fail
  refine (G_any _).mono ?_; rintro e w12 ⟨rfl, hb12⟩
  have B12 := B11.trans (hb12.mono B11.size)
  clear B11 hb12
  go_wp2_with fail
  refine (Pixel_GA _).mono ?_; rintro e w13 ⟨rfl, hb13⟩
  have B13 := B12.trans (hb13.mono B12.size)
  clear B12 hb13
  go_wp2_with fail
  refine (G_any _).mono ?_; rintro e w14 ⟨rfl, hb14⟩
  have B14 := B13.trans (hb14.mono B13.size)
  clear B13 hb14
  go_wp2_with fail
  refine (Pixel_GB _).mono ?_; rintro e w15 ⟨rfl, hb15⟩
  have B15 := B14.trans (hb15.mono B14.size)
  clear B14 hb15
  go_wp2_with fail
  refine (G_any _).mono ?_; rintro e w16 ⟨rfl, hb16⟩
  have B16 := B15.trans (hb16.mono B15.size)
  clear B15 hb16
  go_wp2_with fail
  refine (Pixel_GC _).mono ?_; rintro e w17 ⟨rfl, hb17⟩
  have B17 := B16.trans (hb17.mono B16.size)
  clear B16 hb17
  go_wp2_with fail
  refine (S_any _).mono ?_; rintro e w18 ⟨rfl, hb18⟩
  have B18 := B17.trans (hb18.mono B17.size)
  clear B17 hb18
  go_wp2_with fail
  refine (G_any _).mono ?_; rintro e w19 ⟨rfl, hb19⟩
  have B19 := B18.trans (hb19.mono B18.size)
  clear B18 hb19
  go_wp2_with fail
  refine (View_S _).mono ?_; rintro e w20 ⟨bv, cv, rfl, V1, lv, mv, hb20⟩
  have B20 := B19.trans (hb20.mono B19.size)
  clear B19 hb20 lv
  go_wp2_with fail
  refine (S_any _).mono ?_; rintro e w21 ⟨rfl, hb21⟩
  have V21 : IntsAt w21 bv 4 viewS := fun k hk => keepB hb21 mv (V1 k hk)
  have mv21 : bv < w21.heap.size := Nat.lt_of_lt_of_le mv hb21.size
  have B21 := B20.trans (hb21.mono B20.size)
  clear B20 hb21 V1 mv
  have V1 := V21
  have mv := mv21
  clear V21 mv21
  go_wp2_with fail
  refine (point_any _ _).mono ?_; rintro e w22 ⟨rfl, hb22⟩
  have V22 : IntsAt w22 bv 4 viewS := fun k hk => keepB hb22 mv (V1 k hk)
  have mv22 : bv < w22.heap.size := Nat.lt_of_lt_of_le mv hb22.size
  have B22 := B21.trans (hb22.mono B21.size)
  clear B21 hb22 V1 mv
  have V1 := V22
  have mv := mv22
  clear V22 mv22
  go_wp2_with fail
  refine (Hill_any _).mono ?_; rintro e w23 ⟨bh, rfl, H1, hb23⟩
  have V2 : IntsAt w23 bv 4 viewS := fun k hk => keepB hb23 mv (V1 k hk)
  have mv2 : bv < w23.heap.size := Nat.lt_of_lt_of_le mv hb23.size
  have B23 := B22.trans (hb23.mono B22.size)
  clear B22 hb23 V1 mv
  go_wp2_with fail
  refine (Blocked_S4 bh _ H1).mono ?_; rintro e w24 ⟨bb, cb, rfl, F1, lb, mb, hb24⟩
  have V3 : IntsAt w24 bv 4 viewS := fun k hk => keepB hb24 mv2 (V2 k hk)
  have mv3 : bv < w24.heap.size := Nat.lt_of_lt_of_le mv2 hb24.size
  have B24 := B23.trans (hb24.mono B23.size)
  clear B23 hb24 V2 mv2 H1 lb
  go_wp2_with fail
  refine (numbers_same 4 bv w24.heap.size cv 4 viewS _ (by decide) (fun k hk => keepB (below_alloc _ _) (by omega) (V3 k hk)) (ints_new _ _) (by simp; omega) (by simp)).mono ?_; rintro e w25 ⟨rfl, hb25⟩
  have F2 : SpansAt w25 bb 0 4 (fun _ => (0, 0)) := SpansAt.keep (B := w24.heap.size) F1 (Below.trans (below_alloc _ _) (hb25.mono (by simp))) mb
  have mb2 : bb < w25.heap.size := Nat.lt_of_lt_of_le mb ((Below.trans (below_alloc _ _) (hb25.mono (by simp))).size)
  have B25 := B24.trans ((Below.trans (below_alloc _ _) (hb25.mono (by simp))).mono B24.size)
  clear B24 hb25 V3 mv3 F1 mb
  go_wp2_with fail
  refine (spans_same 4 bb w25.heap.size 0 0 cb 4 (fun _ => (0, 0)) _ (by decide) (SpansAt.keep F2 (below_alloc _ _) mb2) (SpRow.made w25 4).spans (by simp; omega) (by simp)).mono ?_; rintro e w26 ⟨rfl, hb26⟩
  have B26 := B25.trans ((Below.trans (below_alloc _ _) (hb26.mono (by simp))).mono B25.size)
  clear B25 hb26 F2 mb2
  go_wp2_with fail
  refine (works_any _).mono ?_; rintro e w27 ⟨rfl, hb27⟩
  have B27 := B26.trans (hb27.mono B26.size)
  go_wp2
  go_ret
  exact ⟨rfl, B27⟩

end Go.Proofs.Ythnjfnapjpdchaa
