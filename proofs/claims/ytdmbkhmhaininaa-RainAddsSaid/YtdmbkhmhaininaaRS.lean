/-
  Sum of the reference: records that are not valid.
-/
import Derived.Test.YtdmbkhmhaininaaR
import Derived.BigRegion
namespace Go.Proofs.Ytdmbkhmhaininaa
open Go.RowKit
set_option linter.unusedVariables false
set_option linter.unusedSimpArgs false

/-- the result's box -/
structure RsW (w W : World) : Prop where
  r0 : W.cell? ⟨w.heap.size, 0, none⟩ = some (.int .i64 0)
  r1 : W.cell? ⟨w.heap.size, 1, none⟩ = some (.int .i64 0)
  g0 : W.frozen? ⟨w.heap.size, 0, none⟩ = false
  g1 : W.frozen? ⟨w.heap.size, 1, none⟩ = false
  z : w.heap.size < W.heap.size
  b : Below w.heap.size w W
theorem RsW.keep {w W w1 : World} (R : RsW w W) (hb : Below W.heap.size W w1) : RsW w w1 :=
  ⟨keepB hb R.z R.r0, keepB hb R.z R.r1, keepF hb R.z R.g0, keepF hb R.z R.g1, Nat.lt_of_lt_of_le R.z hb.size, R.b.trans (hb.mono R.b.size)⟩
theorem RsW.new (w : World) : RsW w (w.alloc (.cells #[.int .i64 0, .int .i64 0] 24)) := ⟨alloc_new rfl rfl, alloc_new rfl rfl, alloc_newF rfl, alloc_newF rfl, by rw [World.size_alloc]; omega, below_alloc _ _⟩
theorem prod_step {n : Nat} {rs : Nat → Rc} {en : Int} (s : Int) (k : Nat) : prL n rs en (k + 1) * s = prL n rs en k * s + rlo n rs k * s * (unt n rs en k - (rs k).t) := by
  show (prL n rs en k + rlo n rs k * (unt n rs en k - (rs k).t)) * s = _
  rw [Int.add_mul, Int.mul_assoc, Int.mul_assoc, Int.mul_comm (unt n rs en k - (rs k).t) s]
theorem prod_stepH {n : Nat} {rs : Nat → Rc} {en : Int} (s : Int) (k : Nat) : prH n rs en (k + 1) * s = prH n rs en k * s + rhi n rs k * s * (unt n rs en k - (rs k).t) := by
  show (prH n rs en k + rhi n rs k * (unt n rs en k - (rs k).t)) * s = _
  rw [Int.add_mul, Int.mul_assoc, Int.mul_assoc, Int.mul_comm (unt n rs en k - (rs k).t) s]
set_option maxRecDepth 100000 in
set_option maxHeartbeats 1600000 in
theorem refSum_nil (a : Option Addr) (cap : Nat) (en sl : Int) (w : World) :
    Calls Try.prog 33 #[.slice a 0 cap, .int .i64 en, .int .i64 sl] w fun e w' => e = .returned (.tuple #[.agg #[.int .i64 0, .int .i64 0], .int .i64 18]) ∧ Below w.heap.size w w' := by
  go_enter Try.func33, Try.ntmps33
  go_wp2
  exact bodyPost_ret (v := .tuple #[.agg #[.int .i64 0, .int .i64 0], .int .i64 18]) (by simp [results, Try.results33, go_sem]) rfl ⟨rfl, below_alloc _ _⟩
def RsRel (w wr : World) (rs : Nat → Rc) (k : Nat) : Prop := RsW w wr ∧ firstE (recE rs) k = 0
set_option maxRecDepth 100000 in
set_option maxHeartbeats 6400000 in
theorem refSum_recs (b off n cap : Nat) (rs : Nat → Rc) (en sl : Int) (w : World) (h1 : 1 ≤ n) (hl : n ≤ 1000000) (hs : RecsAt w b off n rs) (hb : b < w.heap.size) (hE : firstE (recE rs) n ≠ 0) :
    Calls Try.prog 33 #[.slice (some ⟨b, off, none⟩) n cap, .int .i64 en, .int .i64 sl] w fun e w' => e = .returned (.tuple #[.agg #[.int .i64 0, .int .i64 0], .int .i64 (firstE (recE rs) n)]) ∧ Below w.heap.size w w' := by
  have HS := Lib.hid hs
  clear hs
  have d1 : ((n : Int) == 0) = false := by rw [beq_eq_false_iff_ne]; omega
  have HEn := Lib.hid hE
  clear hE
  go_enter Try.func33, Try.ntmps33
  go_wp2
  go_loopw [8] (fun i wr => ∃ k : Nat, k ≤ n ∧ i = .int .i64 k ∧ RsW w wr ∧ firstE (recE rs) k = 0) (fun i _ => n - (intOf i).toNat)
  case atStart => exact ⟨0, Nat.zero_le _, rfl, RsW.new w, rfl⟩
  case round =>
    obtain ⟨k, hk, rfl, hRW, h0⟩ := hrel
    have RW := Lib.hid hRW
    have H0 := Lib.hid h0
    clear h0
    have hbw := hRW.b
    by_cases hlt : k < n
    · have c0 := keepB hbw hb (HS.out k hlt).1
      have c1 := keepB hbw hb (HS.out k hlt).2.1
      have c2 := keepB hbw hb (HS.out k hlt).2.2
      have HC0 := Lib.hid (HS.out k hlt).1
      have HSj := Lib.hid (fun j (h : j < n) => HS.out j h)
      have HE := Lib.hid (And.intro (recE_a hlt H0.out) (And.intro (recE_b hlt H0.out) (And.intro (recE_c hlt H0.out) (recE_d H0.out))))
      have HZ : Hid (∀ W : World, Calls Try.prog 51 #[.int .i64 (rs k).t, .int .i64 0, .int .i64 4294967296] W fun e w' => e = .returned (.bool (inB (rs k).t 0 4294967296)) ∧ W = w') := Lib.hid fun W => refIn_any _ _ _ W
      have HR : Hid (∀ W : World, Calls Try.prog 53 #[.agg #[.int .i64 (rs k).lo, .int .i64 (rs k).hi], .int .i64 0, .int .i64 1000000] W fun e w' => e = .returned (.bool (spanB (rs k).lo (rs k).hi 0 1000000)) ∧ Below W.heap.size W w') := Lib.hid fun W => Valid_any _ _ _ _ W
      have q0 : (0 : Int) ≤ (k : Int) := by omega
      have q1 : (k : Int) < (n : Int) := by omega
      have i0 : IntKind.i64.wrap (k : Int) = (k : Int) := IntWalk.i64_in _ (by omega)
      have lbr : b < wr.heap.size := Nat.lt_of_lt_of_le hb hbw.size
      have Hp : Hid (∀ j, k = j + 1 → (rs (k - 1)).t = (rs j).t) := Lib.hid (fun j h => by rw [show k - 1 = j by omega])
      generalize (rs k).t = t at *
      generalize (rs k).lo = lo at *
      generalize (rs k).hi = hi at *
      generalize (rs (k - 1)).t = tp at *
      generalize inB t 0 4294967296 = bz at *
      generalize spanB lo hi 0 1000000 = br at *
      clear hbw hRW HS
      cases bz
      · have HE2 := Lib.hid (HE.out.1 rfl)
        clear HE
        go_wp2_with fail
        refine (HZ.out _).mono ?_; rintro e w' ⟨rfl, rfl⟩
        obtain ⟨r0, r1, g0, g1, hz, hbw⟩ := RW.out
        go_wp2
        exact bodyPost_ret (v := .tuple #[.agg #[.int .i64 0, .int .i64 0], .int .i64 3]) (by simp [results, Try.results33, go_sem, set_same (i := 0) (v := .int .i64 0) r0, set_other (i := 1) (j := 0) (v := .int .i64 0) (by decide) (set_same (i := 0) (v := .int .i64 0) r0), set_same (i := 1) (v := .int .i64 0) (set_other (i := 0) (j := 1) (v := .int .i64 0) (by decide) r1)]) rfl ⟨by rw [HE2.out], ((hbw.setCell (p := ⟨w.heap.size, 0, none⟩) (by dsimp only; omega) _).setCell (p := ⟨w.heap.size, 1, none⟩) (by dsimp only; omega) _)⟩
      · cases br
        · have HE2 := Lib.hid (HE.out.2.1 rfl rfl)
          clear HE
          go_wp2_with fail
          refine (HZ.out _).mono ?_; rintro e w' ⟨rfl, rfl⟩
          go_wp2_with fail
          refine (HR.out _).mono ?_; rintro e X ⟨rfl, hbX⟩
          have RX := Lib.hid (RW.out.keep hbX)
          obtain ⟨r0, r1, g0, g1, hz, hbw⟩ := RX.out
          clear hbX
          go_wp2
          exact bodyPost_ret (v := .tuple #[.agg #[.int .i64 0, .int .i64 0], .int .i64 3]) (by simp [results, Try.results33, go_sem, set_same (i := 0) (v := .int .i64 0) r0, set_other (i := 1) (j := 0) (v := .int .i64 0) (by decide) (set_same (i := 0) (v := .int .i64 0) r0), set_same (i := 1) (v := .int .i64 0) (set_other (i := 0) (j := 1) (v := .int .i64 0) (by decide) r1)]) rfl ⟨by rw [HE2.out], ((hbw.setCell (p := ⟨w.heap.size, 0, none⟩) (by dsimp only; omega) _).setCell (p := ⟨w.heap.size, 1, none⟩) (by dsimp only; omega) _)⟩
        · rcases Nat.eq_zero_or_pos k with hk0 | hk0
          · have y1 : decide (0 < (k : Int)) = false := decide_eq_false (by omega)
            have y1n : decide (0 < k) = false := decide_eq_false (by omega)
            have HE2 := Lib.hid (HE.out.2.2.2 rfl rfl (.inl hk0))
            have Hk := Lib.hid hk0
            clear HE hk0
            go_wp2_with fail
            refine (HZ.out _).mono ?_; rintro e w' ⟨rfl, rfl⟩
            go_wp2_with fail
            refine (HR.out _).mono ?_; rintro e X ⟨rfl, hbX⟩
            have RX := Lib.hid (RW.out.keep hbX)
            obtain ⟨r0, r1, g0, g1, hz, hbw⟩ := RX.out
            clear hbX
            go_wp2
            go_quiet (fail)
            go_wp2
            go_roundw
            case rel => exact ⟨k + 1, by omega, by go_num, RX.out.keep (drewN_below (Below.refl _ _) _), HE2.out⟩
            case measure => simp [intOf]; omega
          · obtain ⟨j, hj⟩ : ∃ j, k = j + 1 := ⟨k - 1, by omega⟩
            have HPj := Lib.hid (Hp.out j hj)
            have y1 : decide (0 < (k : Int)) = true := decide_eq_true (by omega)
            have y1n : decide (0 < k) = true := decide_eq_true (by omega)
            have q2 : 0 ≤ (k : Int) - 1 := by omega
            have q3 : (k : Int) - 1 < (n : Int) := by omega
            have t1 : ((k : Int) - 1).toNat = j := by omega
            have i1 : IntKind.i64.wrap ((k : Int) - 1) = (k : Int) - 1 := IntWalk.i64_in _ (by omega)
            have Hj := Lib.hid hj
            clear hj Hp
            by_cases hlt2 : tp < t
            · have x1 : decide (t ≤ tp) = false := decide_eq_false (by omega)
              have HE2 := Lib.hid (HE.out.2.2.2 rfl rfl (.inr hlt2))
              clear HE hk0
              go_wp2_with fail
              refine (HZ.out _).mono ?_; rintro e w' ⟨rfl, rfl⟩
              go_wp2_with fail
              refine (HR.out _).mono ?_; rintro e X ⟨rfl, hbX⟩
              have RX := Lib.hid (RW.out.keep hbX)
              obtain ⟨r0, r1, g0, g1, hz, hbw⟩ := RX.out
              clear hbX
              have lbX : b < X.heap.size := Nat.lt_of_lt_of_le hb hbw.size
              have p0 := keepB hbw hb (HSj.out j (by omega)).1
              rw [← HPj.out] at p0
              have c0 := keepB hbw hb HC0.out
              clear HPj
              go_wp2
              go_quiet (fail)
              go_wp2
              go_roundw
              case rel => exact ⟨k + 1, by omega, by go_num, RX.out.keep (drewN_below (Below.refl _ _) _), HE2.out⟩
              case measure => simp [intOf]; omega
            · have x1 : decide (t ≤ tp) = true := decide_eq_true (by omega)
              have HE2 := Lib.hid (HE.out.2.2.1 rfl rfl (by omega))
              clear HE hk0
              go_wp2_with fail
              refine (HZ.out _).mono ?_; rintro e w' ⟨rfl, rfl⟩
              go_wp2_with fail
              refine (HR.out _).mono ?_; rintro e X ⟨rfl, hbX⟩
              have RX := Lib.hid (RW.out.keep hbX)
              obtain ⟨r0, r1, g0, g1, hz, hbw⟩ := RX.out
              clear hbX
              have lbX : b < X.heap.size := Nat.lt_of_lt_of_le hb hbw.size
              have p0 := keepB hbw hb (HSj.out j (by omega)).1
              rw [← HPj.out] at p0
              have c0 := keepB hbw hb HC0.out
              clear HPj
              go_wp2_with fail
              go_quiet (fail)
              have RY := RX.out.keep (drewN_below (Below.refl X.heap.size X) nq)
              clear r0 r1 g0 g1 hz hbw
              obtain ⟨Y, hY⟩ : ∃ Y, Y = X.drewN nq := ⟨_, rfl⟩
              rw [← hY] at RY ⊢
              clear hY
              obtain ⟨r0, r1, g0, g1, hz, hbw⟩ := RY
              go_wp2
              exact bodyPost_ret (v := .tuple #[.agg #[.int .i64 0, .int .i64 0], .int .i64 12]) (by simp [results, Try.results33, go_sem, set_same (i := 0) (v := .int .i64 0) r0, set_other (i := 1) (j := 0) (v := .int .i64 0) (by decide) (set_same (i := 0) (v := .int .i64 0) r0), set_same (i := 1) (v := .int .i64 0) (set_other (i := 0) (j := 1) (v := .int .i64 0) (by decide) r1)]) rfl ⟨by rw [HE2.out], ((hbw.setCell (p := ⟨w.heap.size, 0, none⟩) (by dsimp only; omega) _).setCell (p := ⟨w.heap.size, 1, none⟩) (by dsimp only; omega) _)⟩
    · obtain rfl : n = k := by omega
      exact absurd H0.out HEn.out

end Go.Proofs.Ytdmbkhmhaininaa
