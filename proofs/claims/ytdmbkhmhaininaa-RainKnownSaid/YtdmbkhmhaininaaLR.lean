/-
  The factor of a band, by the reference.
-/
import Derived.Test.YtdmbkhmhaininaaL
import Derived.BigRegion
namespace Go.Proofs.Ytdmbkhmhaininaa
open Go.RowKit
set_option linter.unusedVariables false
set_option linter.unusedSimpArgs false

/-- what the loop of the reference keeps -/
structure RF (w wr : World) (la : Option Addr) (ln lc : Nat) (ra : Option Addr) (rn rc : Nat) (ml mh il ih al ah : Int) (lo hi : Int) (p q n : Nat) (zs : Nat → Int × Int) (a b : Int) (k : Nat) : Prop where
  fw : FW w wr la ln lc ra rn rc ml mh il ih al ah lo hi
  t0 : wr.cell? ⟨p, 0, none⟩ = some (.int .i64 (hu a b zs k).1)
  t1 : wr.cell? ⟨p, 1, none⟩ = some (.int .i64 (hu a b zs k).2)
  u0 : wr.frozen? ⟨p, 0, none⟩ = false
  u1 : wr.frozen? ⟨p, 1, none⟩ = false
  sp : SpansAt wr q 0 n zs
  lq : q < p
  lp : p < wr.heap.size
  lw : w.heap.size + 1 + 1 < q
theorem rf_start {w W : World} {la : Option Addr} {ln lc : Nat} {ra : Option Addr} {rn rc : Nat} {ml mh il ih al ah lo hi : Int} {q n : Nat} {zs : Nat → Int × Int} (R : FW w W la ln lc ra rn rc ml mh il ih al ah lo hi) (s : SpansAt W q 0 n zs) (h1 : w.heap.size + 1 + 1 + 1 ≤ q) (h2 : q < W.heap.size) (a b : Int) : RF w (W.alloc (.cells #[.int .i64 a, .int .i64 b] 24)) la ln lc ra rn rc ml mh il ih al ah lo hi W.heap.size q n zs a b 0 :=
  ⟨R.keep (below_alloc _ _) R.z, alloc_new rfl rfl, alloc_new rfl rfl, alloc_newF rfl, alloc_newF rfl, s.keep (below_alloc _ _) h2, h2, by rw [World.size_alloc]; omega, by omega⟩
theorem RF.keep {w W w1 : World} {la : Option Addr} {ln lc : Nat} {ra : Option Addr} {rn rc : Nat} {ml mh il ih al ah lo hi : Int} {p q n : Nat} {zs : Nat → Int × Int} {a b : Int} {k : Nat} (R : RF w W la ln lc ra rn rc ml mh il ih al ah lo hi p q n zs a b k) (hb : Below W.heap.size W w1) : RF w w1 la ln lc ra rn rc ml mh il ih al ah lo hi p q n zs a b k := by
  have l1 := R.lq
  have l2 := R.lp
  exact ⟨R.fw.keep hb R.fw.z, keepB hb l2 R.t0, keepB hb l2 R.t1, keepF hb l2 R.u0, keepF hb l2 R.u1, R.sp.keep hb (by omega), l1, Nat.lt_of_lt_of_le l2 hb.size, R.lw⟩
theorem RF.next {w W : World} {la : Option Addr} {ln lc : Nat} {ra : Option Addr} {rn rc : Nat} {ml mh il ih al ah lo hi : Int} {p q n : Nat} {zs : Nat → Int × Int} {a b : Int} {k : Nat} (R : RF w W la ln lc ra rn rc ml mh il ih al ah lo hi p q n zs a b k) : RF w ((W.setCell ⟨p, 0, none⟩ (.int .i64 (min (hu a b zs k).1 (zs k).1))).setCell ⟨p, 1, none⟩ (.int .i64 (max (hu a b zs k).2 (zs k).2))) la ln lc ra rn rc ml mh il ih al ah lo hi p q n zs a b (k + 1) := by
  have l1 := R.lq
  have l2 := R.lp
  have l3 := R.lw
  have hB : Below p W ((W.setCell ⟨p, 0, none⟩ (.int .i64 (min (hu a b zs k).1 (zs k).1))).setCell ⟨p, 1, none⟩ (.int .i64 (max (hu a b zs k).2 (zs k).2))) := ((Below.refl _ W).setCell (p := ⟨p, 0, none⟩) (Nat.le_refl _) _).setCell (p := ⟨p, 1, none⟩) (Nat.le_refl _) _
  exact ⟨R.fw.keep hB (by omega), set_other (by decide) (set_same R.t0), set_same (set_other (by decide) R.t1), by simp; exact R.u0, by simp; exact R.u1, R.sp.keep hB (by omega), l1, by simp; exact l2, l3⟩
theorem RF.keepD {w W : World} {la : Option Addr} {ln lc : Nat} {ra : Option Addr} {rn rc : Nat} {ml mh il ih al ah lo hi : Int} {p q n : Nat} {zs : Nat → Int × Int} {a b : Int} {k : Nat} (R : RF w W la ln lc ra rn rc ml mh il ih al ah lo hi p q n zs a b k) : RF w W.drew la ln lc ra rn rc ml mh il ih al ah lo hi p q n zs a b k := R.keep (Below.refl _ _).drew

set_option maxRecDepth 100000 in
set_option maxHeartbeats 6400000 in
theorem reffactor_TFF (la : Option Addr) (ln lc : Nat) (ra : Option Addr) (rn rc : Nat) (ml mh il ih al ah : Int) (lo hi : Int) (w : World) (h1 : lo < ml) (h2 : ¬ ml ≤ hi) (h3 : ¬ mh < hi) (hm : ml ≤ mh) (hb : lo ≤ hi) :
    Calls Try.prog 69 #[.agg #[.slice la ln lc, .slice ra rn rc, .int .i64 ml, .int .i64 mh, .int .i64 il, .int .i64 ih, .int .i64 al, .int .i64 ah], .agg #[.int .i64 lo, .int .i64 hi]] w fun e w' => e = .returned (.agg #[.int .i64 1000, .int .i64 1000]) ∧ Below w.heap.size w w' := by
  obtain ⟨i0, hi0, hz0, hz1, hz2⟩ := info_parts info24
  have d1 : decide (lo < ml) = true := by exact decide_eq_true h1
  have d2 : decide (lo ≤ mh) = true := by first | exact decide_eq_true (by omega) | exact decide_eq_false (by omega)
  have d3 : decide (ml ≤ hi) = false := by first | exact decide_eq_true (by omega) | exact decide_eq_false (by omega)
  have d4 : decide (mh < hi) = false := by exact decide_eq_false h3
  obtain ⟨A, hA, bA, zA, m0, m1, m2, m3, m4, m5, m6, m7, b0, b1, r0, r1, g0, g1⟩ := fac_boxes36 w la ln lc ra rn rc ml mh il ih al ah lo hi
  have R := Lib.hid (show FW w A la ln lc ra rn rc ml mh il ih al ah lo hi from ⟨m0, m1, m2, m3, m4, m5, m6, m7, b0, b1, r0, r1, g0, g1, by omega, bA⟩)
  have HW := Lib.hid (World.ownsRow_nil A (w.heap.size + 1 + 1 + 1) 24 2)
  clear m0 m1 m2 m3 m4 m5 m6 m7 b0 b1 r0 r1 g0 g1 bA zA h1 h2 h3 hm hb
  go_enter Try.func69, Try.ntmps69
  go_upto_region 3 with fail
  rw [← hA]
  clear hA
  obtain ⟨m0, m1, m2, m3, m4, m5, m6, m7, b0, b1, r0, r1, g0, g1, hz, hbw⟩ := R.out
  have hown := HW.out
  go_wp2_with (first | (at_builtin; refine wpList_append_own _ rfl _ _ 44 rfl (w.heap.size + 1 + 1 + 1) 24 i0 (.agg #[.int .i64 0, .int .i64 0]) 2 16 Try.underlying44 hi0 hz0 hz1 hz2 rfl (by decide) _ _ _ rfl (hown.alloc _) ⟨A.heap.size, 0, none⟩ 1 1 [.int .i64 1000, .int .i64 1000] rfl rfl (cell_two_new _ _ _ _) ?c20 ?c30 ?c40 ?c50 ?_) | go_in)
  case c20 => intro u hu; simp at hu; rcases hu with rfl | rfl <;> rfl
  case c30 => unfold maxLen; omega
  case c40 => omega
  case c50 => simp; omega
  intro v0 W0 hown' hgrow _
  have B7 : Below (w.heap.size + 1 + 1 + 1) A W0 := Below.grown ((Below.refl _ A).alloc (by omega) _) hgrow (by simp; omega) (fun k hk => (HW.out.lt k hk).1)
  have R := Lib.hid (R.out.keep B7 (by omega))
  have HW := Lib.hid hown'
  clear hown hown' hgrow B7 m0 m1 m2 m3 m4 m5 m6 m7 b0 b1 r0 r1 g0 g1 hz hbw
  obtain ⟨m0, m1, m2, m3, m4, m5, m6, m7, b0, b1, r0, r1, g0, g1, hz, hbw⟩ := R.out
  have zz : w.heap.size + 1 + 1 < W0.heap.size := hz
  obtain ⟨q, cap, rfl, hq1, hq2, hq3, hq4⟩ := row_form HW.out (by decide)
  unfold maxLen at hq4
  have sp : SpansAt W0 q 0 1 (fun i => (1000, 1000)) := fun i hi => by
    match i, hi with
    | 0, _ => exact ⟨by rw [Nat.zero_add]; exact HW.out.cellAt 0 (by decide), by rw [Nat.zero_add]; exact HW.out.cellAt 1 (by decide)⟩
  have HRX := Lib.hid (show (hu 1000 1000 (fun i => (1000, 1000)) 1).1 = 1000 ∧ (hu 1000 1000 (fun i => (1000, 1000)) 1).2 = 1000 from ⟨by show (min 1000 1000) = 1000; omega, by show (max 1000 1000) = 1000; omega⟩)
  have e00 : W0.cell? ⟨q, 0, none⟩ = some (.int .i64 1000) := HW.out.cellAt 0 (by decide)
  have e01 : W0.cell? ⟨q, 1, none⟩ = some (.int .i64 1000) := HW.out.cellAt 1 (by decide)
  have HST := Lib.hid (rf_start R.out sp hq1 hq2 1000 1000)
  have HZ := Lib.hid (show ∀ i, i < 1 → SpansAt W0 q 0 1 (fun i => (1000, 1000)) from fun _ _ => sp)
  clear sp HW HZ
  obtain ⟨zs, hzs⟩ : ∃ zs : Nat → Int × Int, zs = (fun i => (1000, 1000)) := ⟨_, rfl⟩
  rw [← hzs] at HRX HST
  clear hzs
  go_wp2
  go_loopw [7] (fun i wr => ∃ k : Nat, k ≤ 1 ∧ i = .int .i64 k ∧ RF w wr la ln lc ra rn rc ml mh il ih al ah lo hi W0.heap.size q 1 zs 1000 1000 k) (fun i _ => 1 - (intOf i).toNat)
  case atStart => exact ⟨0, Nat.zero_le _, rfl, HST.out⟩
  case round =>
    clear m0 m1 m2 m3 m4 m5 m6 m7 b0 b1 r0 r1 g0 g1 hz hbw
    obtain ⟨k, hk, rfl, hR⟩ := hrel
    have HR := Lib.hid hR
    have R := Lib.hid hR.fw
    obtain ⟨m0, m1, m2, m3, m4, m5, m6, m7, b0, b1, r0, r1, g0, g1, hz, hbw⟩ := R.out
    by_cases hlt : k < 1
    · have t0 := hR.t0
      have t1 := hR.t1
      have u0 := hR.u0
      have u1 := hR.u1
      have x0 := (hR.sp k hlt).1
      have x1 := (hR.sp k hlt).2
      rw [Nat.zero_add] at x0 x1
      have lq := hR.lq
      have lp := hR.lp
      have q0 : (0 : Int) ≤ (k : Int) := by omega
      have q1 : (k : Int) < 1 := by omega
      have HN := Lib.hid (hR.next.keepD)
      generalize (hu 1000 1000 zs k).1 = a at *
      generalize (hu 1000 1000 zs k).2 = b at *
      generalize (zs k).1 = u at *
      generalize (zs k).2 = v at *
      have e1 : (if a < u then a else u) = min a u := by split <;> omega
      have e2 : (if u < a then u else a) = min a u := by split <;> omega
      have e4 : (if v < b then b else v) = max b v := by split <;> omega
      have e5 : (if b < v then v else b) = max b v := by split <;> omega
      clear hR HST
      go_wp2_with fail
      go_region
      all_goals
        go_wp2
        go_roundw
        case rel => exact ⟨k + 1, by omega, by go_num, HN.out⟩
        case measure => simp [intOf]; omega
    · have hkn : k = 1 := by omega
      subst hkn
      have t0 := hR.t0
      have t1 := hR.t1
      rw [HRX.out.1] at t0
      rw [HRX.out.2] at t1
      clear hR HR HST
      obtain ⟨RX, hRX⟩ : ∃ x : Int, x = 1000 := ⟨_, rfl⟩
      obtain ⟨RY, hRY⟩ : ∃ x : Int, x = 1000 := ⟨_, rfl⟩
      rw [← hRX] at t0
      rw [← hRY] at t1
      have HRX := Lib.hid (And.intro hRX hRY)
      clear hRX hRY
      go_wp2
      exact bodyPost_ret (v := .agg #[.int .i64 RX, .int .i64 RY]) (by simp [results, Try.results69, go_sem, set_same (i := 0) (v := .int .i64 RX) r0, set_other (i := 1) (j := 0) (v := .int .i64 RY) (by decide) (set_same (i := 0) (v := .int .i64 RX) r0), set_same (i := 1) (v := .int .i64 RY) (set_other (i := 0) (j := 1) (v := .int .i64 RX) (by decide) r1)]) rfl ⟨by rw [HRX.out.1, HRX.out.2], ((hbw.setCell (p := ⟨w.heap.size + 1 + 1, 0, none⟩) (by dsimp only; omega) _).setCell (p := ⟨w.heap.size + 1 + 1, 1, none⟩) (by dsimp only; omega) _)⟩

set_option maxRecDepth 100000 in
set_option maxHeartbeats 6400000 in
theorem reffactor_TTF (la : Option Addr) (ln lc : Nat) (ra : Option Addr) (rn rc : Nat) (ml mh il ih al ah : Int) (lo hi : Int) (w : World) (h1 : lo < ml) (h2 : ml ≤ hi) (h3 : ¬ mh < hi) (hm : ml ≤ mh) (hb : lo ≤ hi) :
    Calls Try.prog 69 #[.agg #[.slice la ln lc, .slice ra rn rc, .int .i64 ml, .int .i64 mh, .int .i64 il, .int .i64 ih, .int .i64 al, .int .i64 ah], .agg #[.int .i64 lo, .int .i64 hi]] w fun e w' => e = .returned (.agg #[.int .i64 (min 1000 il), .int .i64 (max 1000 ih)]) ∧ Below w.heap.size w w' := by
  obtain ⟨i0, hi0, hz0, hz1, hz2⟩ := info_parts info24
  have d1 : decide (lo < ml) = true := by exact decide_eq_true h1
  have d2 : decide (lo ≤ mh) = true := by first | exact decide_eq_true (by omega) | exact decide_eq_false (by omega)
  have d3 : decide (ml ≤ hi) = true := by first | exact decide_eq_true (by omega) | exact decide_eq_false (by omega)
  have d4 : decide (mh < hi) = false := by exact decide_eq_false h3
  obtain ⟨A, hA, bA, zA, m0, m1, m2, m3, m4, m5, m6, m7, b0, b1, r0, r1, g0, g1⟩ := fac_boxes36 w la ln lc ra rn rc ml mh il ih al ah lo hi
  have R := Lib.hid (show FW w A la ln lc ra rn rc ml mh il ih al ah lo hi from ⟨m0, m1, m2, m3, m4, m5, m6, m7, b0, b1, r0, r1, g0, g1, by omega, bA⟩)
  have HW := Lib.hid (World.ownsRow_nil A (w.heap.size + 1 + 1 + 1) 24 2)
  clear m0 m1 m2 m3 m4 m5 m6 m7 b0 b1 r0 r1 g0 g1 bA zA h1 h2 h3 hm hb
  go_enter Try.func69, Try.ntmps69
  go_upto_region 3 with fail
  rw [← hA]
  clear hA
  obtain ⟨m0, m1, m2, m3, m4, m5, m6, m7, b0, b1, r0, r1, g0, g1, hz, hbw⟩ := R.out
  have hown := HW.out
  go_wp2_with (first | (at_builtin; refine wpList_append_own _ rfl _ _ 44 rfl (w.heap.size + 1 + 1 + 1) 24 i0 (.agg #[.int .i64 0, .int .i64 0]) 2 16 Try.underlying44 hi0 hz0 hz1 hz2 rfl (by decide) _ _ _ rfl (hown.alloc _) ⟨A.heap.size, 0, none⟩ 1 1 [.int .i64 1000, .int .i64 1000] rfl rfl (cell_two_new _ _ _ _) ?c20 ?c30 ?c40 ?c50 ?_) | go_in)
  case c20 => intro u hu; simp at hu; rcases hu with rfl | rfl <;> rfl
  case c30 => unfold maxLen; omega
  case c40 => omega
  case c50 => simp; omega
  intro v0 W0 hown' hgrow _
  have B7 : Below (w.heap.size + 1 + 1 + 1) A W0 := Below.grown ((Below.refl _ A).alloc (by omega) _) hgrow (by simp; omega) (fun k hk => (HW.out.lt k hk).1)
  have R := Lib.hid (R.out.keep B7 (by omega))
  have HW := Lib.hid hown'
  clear hown hown' hgrow B7 m0 m1 m2 m3 m4 m5 m6 m7 b0 b1 r0 r1 g0 g1 hz hbw
  obtain ⟨m0, m1, m2, m3, m4, m5, m6, m7, b0, b1, r0, r1, g0, g1, hz, hbw⟩ := R.out
  have zz : w.heap.size + 1 + 1 < W0.heap.size := hz
  have hown := HW.out
  go_wp2_with (first | (at_builtin; refine wpList_append_own _ rfl _ _ 44 rfl (w.heap.size + 1 + 1 + 1) 24 i0 (.agg #[.int .i64 0, .int .i64 0]) 2 16 Try.underlying44 hi0 hz0 hz1 hz2 rfl (by decide) _ _ _ rfl (hown.alloc _) ⟨W0.heap.size, 0, none⟩ 1 1 [.int .i64 il, .int .i64 ih] rfl rfl (cell_two_new _ _ _ _) ?c21 ?c31 ?c41 ?c51 ?_) | go_in)
  case c21 => intro u hu; simp at hu; rcases hu with rfl | rfl <;> rfl
  case c31 => unfold maxLen; omega
  case c41 => omega
  case c51 => simp; omega
  intro v1 W1 hown' hgrow _
  have B7 : Below (w.heap.size + 1 + 1 + 1) W0 W1 := Below.grown ((Below.refl _ W0).alloc (by omega) _) hgrow (by simp; omega) (fun k hk => (HW.out.lt k hk).1)
  have R := Lib.hid (R.out.keep B7 (by omega))
  have HW := Lib.hid hown'
  clear hown hown' hgrow B7 m0 m1 m2 m3 m4 m5 m6 m7 b0 b1 r0 r1 g0 g1 hz hbw
  obtain ⟨m0, m1, m2, m3, m4, m5, m6, m7, b0, b1, r0, r1, g0, g1, hz, hbw⟩ := R.out
  have zz : w.heap.size + 1 + 1 < W1.heap.size := hz
  obtain ⟨q, cap, rfl, hq1, hq2, hq3, hq4⟩ := row_form HW.out (by decide)
  unfold maxLen at hq4
  have sp : SpansAt W1 q 0 2 (fun i => if i = 0 then (1000, 1000) else (il, ih)) := fun i hi => by
    match i, hi with
    | 0, _ => exact ⟨by rw [Nat.zero_add]; exact HW.out.cellAt 0 (by decide), by rw [Nat.zero_add]; exact HW.out.cellAt 1 (by decide)⟩
    | 1, _ => exact ⟨by rw [Nat.zero_add]; exact HW.out.cellAt 2 (by decide), by rw [Nat.zero_add]; exact HW.out.cellAt 3 (by decide)⟩
  have HRX := Lib.hid (show (hu 1000 1000 (fun i => if i = 0 then (1000, 1000) else (il, ih)) 2).1 = (min 1000 il) ∧ (hu 1000 1000 (fun i => if i = 0 then (1000, 1000) else (il, ih)) 2).2 = (max 1000 ih) from ⟨by show (min (min 1000 1000) il) = (min 1000 il); omega, by show (max (max 1000 1000) ih) = (max 1000 ih); omega⟩)
  have e00 : W1.cell? ⟨q, 0, none⟩ = some (.int .i64 1000) := HW.out.cellAt 0 (by decide)
  have e01 : W1.cell? ⟨q, 1, none⟩ = some (.int .i64 1000) := HW.out.cellAt 1 (by decide)
  have HST := Lib.hid (rf_start R.out sp hq1 hq2 1000 1000)
  have HZ := Lib.hid (show ∀ i, i < 2 → SpansAt W1 q 0 2 (fun i => if i = 0 then (1000, 1000) else (il, ih)) from fun _ _ => sp)
  clear sp HW HZ
  obtain ⟨zs, hzs⟩ : ∃ zs : Nat → Int × Int, zs = (fun i => if i = 0 then (1000, 1000) else (il, ih)) := ⟨_, rfl⟩
  rw [← hzs] at HRX HST
  clear hzs
  go_wp2
  go_loopw [7] (fun i wr => ∃ k : Nat, k ≤ 2 ∧ i = .int .i64 k ∧ RF w wr la ln lc ra rn rc ml mh il ih al ah lo hi W1.heap.size q 2 zs 1000 1000 k) (fun i _ => 2 - (intOf i).toNat)
  case atStart => exact ⟨0, Nat.zero_le _, rfl, HST.out⟩
  case round =>
    clear m0 m1 m2 m3 m4 m5 m6 m7 b0 b1 r0 r1 g0 g1 hz hbw
    obtain ⟨k, hk, rfl, hR⟩ := hrel
    have HR := Lib.hid hR
    have R := Lib.hid hR.fw
    obtain ⟨m0, m1, m2, m3, m4, m5, m6, m7, b0, b1, r0, r1, g0, g1, hz, hbw⟩ := R.out
    by_cases hlt : k < 2
    · have t0 := hR.t0
      have t1 := hR.t1
      have u0 := hR.u0
      have u1 := hR.u1
      have x0 := (hR.sp k hlt).1
      have x1 := (hR.sp k hlt).2
      rw [Nat.zero_add] at x0 x1
      have lq := hR.lq
      have lp := hR.lp
      have q0 : (0 : Int) ≤ (k : Int) := by omega
      have q1 : (k : Int) < 2 := by omega
      have HN := Lib.hid (hR.next.keepD)
      generalize (hu 1000 1000 zs k).1 = a at *
      generalize (hu 1000 1000 zs k).2 = b at *
      generalize (zs k).1 = u at *
      generalize (zs k).2 = v at *
      have e1 : (if a < u then a else u) = min a u := by split <;> omega
      have e2 : (if u < a then u else a) = min a u := by split <;> omega
      have e4 : (if v < b then b else v) = max b v := by split <;> omega
      have e5 : (if b < v then v else b) = max b v := by split <;> omega
      clear hR HST
      go_wp2_with fail
      go_region
      all_goals
        go_wp2
        go_roundw
        case rel => exact ⟨k + 1, by omega, by go_num, HN.out⟩
        case measure => simp [intOf]; omega
    · have hkn : k = 2 := by omega
      subst hkn
      have t0 := hR.t0
      have t1 := hR.t1
      rw [HRX.out.1] at t0
      rw [HRX.out.2] at t1
      clear hR HR HST
      obtain ⟨RX, hRX⟩ : ∃ x : Int, x = (min 1000 il) := ⟨_, rfl⟩
      obtain ⟨RY, hRY⟩ : ∃ x : Int, x = (max 1000 ih) := ⟨_, rfl⟩
      rw [← hRX] at t0
      rw [← hRY] at t1
      have HRX := Lib.hid (And.intro hRX hRY)
      clear hRX hRY
      go_wp2
      exact bodyPost_ret (v := .agg #[.int .i64 RX, .int .i64 RY]) (by simp [results, Try.results69, go_sem, set_same (i := 0) (v := .int .i64 RX) r0, set_other (i := 1) (j := 0) (v := .int .i64 RY) (by decide) (set_same (i := 0) (v := .int .i64 RX) r0), set_same (i := 1) (v := .int .i64 RY) (set_other (i := 0) (j := 1) (v := .int .i64 RX) (by decide) r1)]) rfl ⟨by rw [HRX.out.1, HRX.out.2], ((hbw.setCell (p := ⟨w.heap.size + 1 + 1, 0, none⟩) (by dsimp only; omega) _).setCell (p := ⟨w.heap.size + 1 + 1, 1, none⟩) (by dsimp only; omega) _)⟩

set_option maxRecDepth 100000 in
set_option maxHeartbeats 6400000 in
theorem reffactor_TTT (la : Option Addr) (ln lc : Nat) (ra : Option Addr) (rn rc : Nat) (ml mh il ih al ah : Int) (lo hi : Int) (w : World) (h1 : lo < ml) (h2 : ml ≤ hi) (h3 : mh < hi) (hm : ml ≤ mh) (hb : lo ≤ hi) :
    Calls Try.prog 69 #[.agg #[.slice la ln lc, .slice ra rn rc, .int .i64 ml, .int .i64 mh, .int .i64 il, .int .i64 ih, .int .i64 al, .int .i64 ah], .agg #[.int .i64 lo, .int .i64 hi]] w fun e w' => e = .returned (.agg #[.int .i64 (min (min 1000 il) al), .int .i64 (max (max 1000 ih) ah)]) ∧ Below w.heap.size w w' := by
  obtain ⟨i0, hi0, hz0, hz1, hz2⟩ := info_parts info24
  have d1 : decide (lo < ml) = true := by exact decide_eq_true h1
  have d2 : decide (lo ≤ mh) = true := by first | exact decide_eq_true (by omega) | exact decide_eq_false (by omega)
  have d3 : decide (ml ≤ hi) = true := by first | exact decide_eq_true (by omega) | exact decide_eq_false (by omega)
  have d4 : decide (mh < hi) = true := by exact decide_eq_true h3
  obtain ⟨A, hA, bA, zA, m0, m1, m2, m3, m4, m5, m6, m7, b0, b1, r0, r1, g0, g1⟩ := fac_boxes36 w la ln lc ra rn rc ml mh il ih al ah lo hi
  have R := Lib.hid (show FW w A la ln lc ra rn rc ml mh il ih al ah lo hi from ⟨m0, m1, m2, m3, m4, m5, m6, m7, b0, b1, r0, r1, g0, g1, by omega, bA⟩)
  have HW := Lib.hid (World.ownsRow_nil A (w.heap.size + 1 + 1 + 1) 24 2)
  clear m0 m1 m2 m3 m4 m5 m6 m7 b0 b1 r0 r1 g0 g1 bA zA h1 h2 h3 hm hb
  go_enter Try.func69, Try.ntmps69
  go_upto_region 3 with fail
  rw [← hA]
  clear hA
  obtain ⟨m0, m1, m2, m3, m4, m5, m6, m7, b0, b1, r0, r1, g0, g1, hz, hbw⟩ := R.out
  have hown := HW.out
  go_wp2_with (first | (at_builtin; refine wpList_append_own _ rfl _ _ 44 rfl (w.heap.size + 1 + 1 + 1) 24 i0 (.agg #[.int .i64 0, .int .i64 0]) 2 16 Try.underlying44 hi0 hz0 hz1 hz2 rfl (by decide) _ _ _ rfl (hown.alloc _) ⟨A.heap.size, 0, none⟩ 1 1 [.int .i64 1000, .int .i64 1000] rfl rfl (cell_two_new _ _ _ _) ?c20 ?c30 ?c40 ?c50 ?_) | go_in)
  case c20 => intro u hu; simp at hu; rcases hu with rfl | rfl <;> rfl
  case c30 => unfold maxLen; omega
  case c40 => omega
  case c50 => simp; omega
  intro v0 W0 hown' hgrow _
  have B7 : Below (w.heap.size + 1 + 1 + 1) A W0 := Below.grown ((Below.refl _ A).alloc (by omega) _) hgrow (by simp; omega) (fun k hk => (HW.out.lt k hk).1)
  have R := Lib.hid (R.out.keep B7 (by omega))
  have HW := Lib.hid hown'
  clear hown hown' hgrow B7 m0 m1 m2 m3 m4 m5 m6 m7 b0 b1 r0 r1 g0 g1 hz hbw
  obtain ⟨m0, m1, m2, m3, m4, m5, m6, m7, b0, b1, r0, r1, g0, g1, hz, hbw⟩ := R.out
  have zz : w.heap.size + 1 + 1 < W0.heap.size := hz
  have hown := HW.out
  go_wp2_with (first | (at_builtin; refine wpList_append_own _ rfl _ _ 44 rfl (w.heap.size + 1 + 1 + 1) 24 i0 (.agg #[.int .i64 0, .int .i64 0]) 2 16 Try.underlying44 hi0 hz0 hz1 hz2 rfl (by decide) _ _ _ rfl (hown.alloc _) ⟨W0.heap.size, 0, none⟩ 1 1 [.int .i64 il, .int .i64 ih] rfl rfl (cell_two_new _ _ _ _) ?c21 ?c31 ?c41 ?c51 ?_) | go_in)
  case c21 => intro u hu; simp at hu; rcases hu with rfl | rfl <;> rfl
  case c31 => unfold maxLen; omega
  case c41 => omega
  case c51 => simp; omega
  intro v1 W1 hown' hgrow _
  have B7 : Below (w.heap.size + 1 + 1 + 1) W0 W1 := Below.grown ((Below.refl _ W0).alloc (by omega) _) hgrow (by simp; omega) (fun k hk => (HW.out.lt k hk).1)
  have R := Lib.hid (R.out.keep B7 (by omega))
  have HW := Lib.hid hown'
  clear hown hown' hgrow B7 m0 m1 m2 m3 m4 m5 m6 m7 b0 b1 r0 r1 g0 g1 hz hbw
  obtain ⟨m0, m1, m2, m3, m4, m5, m6, m7, b0, b1, r0, r1, g0, g1, hz, hbw⟩ := R.out
  have zz : w.heap.size + 1 + 1 < W1.heap.size := hz
  have hown := HW.out
  go_wp2_with (first | (at_builtin; refine wpList_append_own _ rfl _ _ 44 rfl (w.heap.size + 1 + 1 + 1) 24 i0 (.agg #[.int .i64 0, .int .i64 0]) 2 16 Try.underlying44 hi0 hz0 hz1 hz2 rfl (by decide) _ _ _ rfl (hown.alloc _) ⟨W1.heap.size, 0, none⟩ 1 1 [.int .i64 al, .int .i64 ah] rfl rfl (cell_two_new _ _ _ _) ?c22 ?c32 ?c42 ?c52 ?_) | go_in)
  case c22 => intro u hu; simp at hu; rcases hu with rfl | rfl <;> rfl
  case c32 => unfold maxLen; omega
  case c42 => omega
  case c52 => simp; omega
  intro v2 W2 hown' hgrow _
  have B7 : Below (w.heap.size + 1 + 1 + 1) W1 W2 := Below.grown ((Below.refl _ W1).alloc (by omega) _) hgrow (by simp; omega) (fun k hk => (HW.out.lt k hk).1)
  have R := Lib.hid (R.out.keep B7 (by omega))
  have HW := Lib.hid hown'
  clear hown hown' hgrow B7 m0 m1 m2 m3 m4 m5 m6 m7 b0 b1 r0 r1 g0 g1 hz hbw
  obtain ⟨m0, m1, m2, m3, m4, m5, m6, m7, b0, b1, r0, r1, g0, g1, hz, hbw⟩ := R.out
  have zz : w.heap.size + 1 + 1 < W2.heap.size := hz
  obtain ⟨q, cap, rfl, hq1, hq2, hq3, hq4⟩ := row_form HW.out (by decide)
  unfold maxLen at hq4
  have sp : SpansAt W2 q 0 3 (fun i => if i = 0 then (1000, 1000) else if i = 1 then (il, ih) else (al, ah)) := fun i hi => by
    match i, hi with
    | 0, _ => exact ⟨by rw [Nat.zero_add]; exact HW.out.cellAt 0 (by decide), by rw [Nat.zero_add]; exact HW.out.cellAt 1 (by decide)⟩
    | 1, _ => exact ⟨by rw [Nat.zero_add]; exact HW.out.cellAt 2 (by decide), by rw [Nat.zero_add]; exact HW.out.cellAt 3 (by decide)⟩
    | 2, _ => exact ⟨by rw [Nat.zero_add]; exact HW.out.cellAt 4 (by decide), by rw [Nat.zero_add]; exact HW.out.cellAt 5 (by decide)⟩
  have HRX := Lib.hid (show (hu 1000 1000 (fun i => if i = 0 then (1000, 1000) else if i = 1 then (il, ih) else (al, ah)) 3).1 = (min (min 1000 il) al) ∧ (hu 1000 1000 (fun i => if i = 0 then (1000, 1000) else if i = 1 then (il, ih) else (al, ah)) 3).2 = (max (max 1000 ih) ah) from ⟨by show (min (min (min 1000 1000) il) al) = (min (min 1000 il) al); omega, by show (max (max (max 1000 1000) ih) ah) = (max (max 1000 ih) ah); omega⟩)
  have e00 : W2.cell? ⟨q, 0, none⟩ = some (.int .i64 1000) := HW.out.cellAt 0 (by decide)
  have e01 : W2.cell? ⟨q, 1, none⟩ = some (.int .i64 1000) := HW.out.cellAt 1 (by decide)
  have HST := Lib.hid (rf_start R.out sp hq1 hq2 1000 1000)
  have HZ := Lib.hid (show ∀ i, i < 3 → SpansAt W2 q 0 3 (fun i => if i = 0 then (1000, 1000) else if i = 1 then (il, ih) else (al, ah)) from fun _ _ => sp)
  clear sp HW HZ
  obtain ⟨zs, hzs⟩ : ∃ zs : Nat → Int × Int, zs = (fun i => if i = 0 then (1000, 1000) else if i = 1 then (il, ih) else (al, ah)) := ⟨_, rfl⟩
  rw [← hzs] at HRX HST
  clear hzs
  go_wp2
  go_loopw [7] (fun i wr => ∃ k : Nat, k ≤ 3 ∧ i = .int .i64 k ∧ RF w wr la ln lc ra rn rc ml mh il ih al ah lo hi W2.heap.size q 3 zs 1000 1000 k) (fun i _ => 3 - (intOf i).toNat)
  case atStart => exact ⟨0, Nat.zero_le _, rfl, HST.out⟩
  case round =>
    clear m0 m1 m2 m3 m4 m5 m6 m7 b0 b1 r0 r1 g0 g1 hz hbw
    obtain ⟨k, hk, rfl, hR⟩ := hrel
    have HR := Lib.hid hR
    have R := Lib.hid hR.fw
    obtain ⟨m0, m1, m2, m3, m4, m5, m6, m7, b0, b1, r0, r1, g0, g1, hz, hbw⟩ := R.out
    by_cases hlt : k < 3
    · have t0 := hR.t0
      have t1 := hR.t1
      have u0 := hR.u0
      have u1 := hR.u1
      have x0 := (hR.sp k hlt).1
      have x1 := (hR.sp k hlt).2
      rw [Nat.zero_add] at x0 x1
      have lq := hR.lq
      have lp := hR.lp
      have q0 : (0 : Int) ≤ (k : Int) := by omega
      have q1 : (k : Int) < 3 := by omega
      have HN := Lib.hid (hR.next.keepD)
      generalize (hu 1000 1000 zs k).1 = a at *
      generalize (hu 1000 1000 zs k).2 = b at *
      generalize (zs k).1 = u at *
      generalize (zs k).2 = v at *
      have e1 : (if a < u then a else u) = min a u := by split <;> omega
      have e2 : (if u < a then u else a) = min a u := by split <;> omega
      have e4 : (if v < b then b else v) = max b v := by split <;> omega
      have e5 : (if b < v then v else b) = max b v := by split <;> omega
      clear hR HST
      go_wp2_with fail
      go_region
      all_goals
        go_wp2
        go_roundw
        case rel => exact ⟨k + 1, by omega, by go_num, HN.out⟩
        case measure => simp [intOf]; omega
    · have hkn : k = 3 := by omega
      subst hkn
      have t0 := hR.t0
      have t1 := hR.t1
      rw [HRX.out.1] at t0
      rw [HRX.out.2] at t1
      clear hR HR HST
      obtain ⟨RX, hRX⟩ : ∃ x : Int, x = (min (min 1000 il) al) := ⟨_, rfl⟩
      obtain ⟨RY, hRY⟩ : ∃ x : Int, x = (max (max 1000 ih) ah) := ⟨_, rfl⟩
      rw [← hRX] at t0
      rw [← hRY] at t1
      have HRX := Lib.hid (And.intro hRX hRY)
      clear hRX hRY
      go_wp2
      exact bodyPost_ret (v := .agg #[.int .i64 RX, .int .i64 RY]) (by simp [results, Try.results69, go_sem, set_same (i := 0) (v := .int .i64 RX) r0, set_other (i := 1) (j := 0) (v := .int .i64 RY) (by decide) (set_same (i := 0) (v := .int .i64 RX) r0), set_same (i := 1) (v := .int .i64 RY) (set_other (i := 0) (j := 1) (v := .int .i64 RX) (by decide) r1)]) rfl ⟨by rw [HRX.out.1, HRX.out.2], ((hbw.setCell (p := ⟨w.heap.size + 1 + 1, 0, none⟩) (by dsimp only; omega) _).setCell (p := ⟨w.heap.size + 1 + 1, 1, none⟩) (by dsimp only; omega) _)⟩

set_option maxRecDepth 100000 in
set_option maxHeartbeats 6400000 in
theorem reffactor_FTF (la : Option Addr) (ln lc : Nat) (ra : Option Addr) (rn rc : Nat) (ml mh il ih al ah : Int) (lo hi : Int) (w : World) (h1 : ¬ lo < ml) (h2 : lo ≤ mh) (h3 : ¬ mh < hi) (hm : ml ≤ mh) (hb : lo ≤ hi) :
    Calls Try.prog 69 #[.agg #[.slice la ln lc, .slice ra rn rc, .int .i64 ml, .int .i64 mh, .int .i64 il, .int .i64 ih, .int .i64 al, .int .i64 ah], .agg #[.int .i64 lo, .int .i64 hi]] w fun e w' => e = .returned (.agg #[.int .i64 il, .int .i64 ih]) ∧ Below w.heap.size w w' := by
  obtain ⟨i0, hi0, hz0, hz1, hz2⟩ := info_parts info24
  have d1 : decide (lo < ml) = false := by exact decide_eq_false h1
  have d2 : decide (lo ≤ mh) = true := by first | exact decide_eq_true (by omega) | exact decide_eq_false (by omega)
  have d3 : decide (ml ≤ hi) = true := by first | exact decide_eq_true (by omega) | exact decide_eq_false (by omega)
  have d4 : decide (mh < hi) = false := by exact decide_eq_false h3
  obtain ⟨A, hA, bA, zA, m0, m1, m2, m3, m4, m5, m6, m7, b0, b1, r0, r1, g0, g1⟩ := fac_boxes36 w la ln lc ra rn rc ml mh il ih al ah lo hi
  have R := Lib.hid (show FW w A la ln lc ra rn rc ml mh il ih al ah lo hi from ⟨m0, m1, m2, m3, m4, m5, m6, m7, b0, b1, r0, r1, g0, g1, by omega, bA⟩)
  have HW := Lib.hid (World.ownsRow_nil A (w.heap.size + 1 + 1 + 1) 24 2)
  clear m0 m1 m2 m3 m4 m5 m6 m7 b0 b1 r0 r1 g0 g1 bA zA h1 h2 h3 hm hb
  go_enter Try.func69, Try.ntmps69
  go_upto_region 4 with fail
  rw [← hA]
  clear hA
  obtain ⟨m0, m1, m2, m3, m4, m5, m6, m7, b0, b1, r0, r1, g0, g1, hz, hbw⟩ := R.out
  have hown := HW.out
  go_wp2_with (first | (at_builtin; refine wpList_append_own _ rfl _ _ 44 rfl (w.heap.size + 1 + 1 + 1) 24 i0 (.agg #[.int .i64 0, .int .i64 0]) 2 16 Try.underlying44 hi0 hz0 hz1 hz2 rfl (by decide) _ _ _ rfl (hown.alloc _) ⟨A.heap.size, 0, none⟩ 1 1 [.int .i64 il, .int .i64 ih] rfl rfl (cell_two_new _ _ _ _) ?c20 ?c30 ?c40 ?c50 ?_) | go_in)
  case c20 => intro u hu; simp at hu; rcases hu with rfl | rfl <;> rfl
  case c30 => unfold maxLen; omega
  case c40 => omega
  case c50 => simp; omega
  intro v0 W0 hown' hgrow _
  have B7 : Below (w.heap.size + 1 + 1 + 1) A W0 := Below.grown ((Below.refl _ A).alloc (by omega) _) hgrow (by simp; omega) (fun k hk => (HW.out.lt k hk).1)
  have R := Lib.hid (R.out.keep B7 (by omega))
  have HW := Lib.hid hown'
  clear hown hown' hgrow B7 m0 m1 m2 m3 m4 m5 m6 m7 b0 b1 r0 r1 g0 g1 hz hbw
  obtain ⟨m0, m1, m2, m3, m4, m5, m6, m7, b0, b1, r0, r1, g0, g1, hz, hbw⟩ := R.out
  have zz : w.heap.size + 1 + 1 < W0.heap.size := hz
  obtain ⟨q, cap, rfl, hq1, hq2, hq3, hq4⟩ := row_form HW.out (by decide)
  unfold maxLen at hq4
  have sp : SpansAt W0 q 0 1 (fun i => (il, ih)) := fun i hi => by
    match i, hi with
    | 0, _ => exact ⟨by rw [Nat.zero_add]; exact HW.out.cellAt 0 (by decide), by rw [Nat.zero_add]; exact HW.out.cellAt 1 (by decide)⟩
  have HRX := Lib.hid (show (hu il ih (fun i => (il, ih)) 1).1 = il ∧ (hu il ih (fun i => (il, ih)) 1).2 = ih from ⟨by show (min il il) = il; omega, by show (max ih ih) = ih; omega⟩)
  have e00 : W0.cell? ⟨q, 0, none⟩ = some (.int .i64 il) := HW.out.cellAt 0 (by decide)
  have e01 : W0.cell? ⟨q, 1, none⟩ = some (.int .i64 ih) := HW.out.cellAt 1 (by decide)
  have HST := Lib.hid (rf_start R.out sp hq1 hq2 il ih)
  have HZ := Lib.hid (show ∀ i, i < 1 → SpansAt W0 q 0 1 (fun i => (il, ih)) from fun _ _ => sp)
  clear sp HW HZ
  obtain ⟨zs, hzs⟩ : ∃ zs : Nat → Int × Int, zs = (fun i => (il, ih)) := ⟨_, rfl⟩
  rw [← hzs] at HRX HST
  clear hzs
  go_wp2
  go_loopw [7] (fun i wr => ∃ k : Nat, k ≤ 1 ∧ i = .int .i64 k ∧ RF w wr la ln lc ra rn rc ml mh il ih al ah lo hi W0.heap.size q 1 zs il ih k) (fun i _ => 1 - (intOf i).toNat)
  case atStart => exact ⟨0, Nat.zero_le _, rfl, HST.out⟩
  case round =>
    clear m0 m1 m2 m3 m4 m5 m6 m7 b0 b1 r0 r1 g0 g1 hz hbw
    obtain ⟨k, hk, rfl, hR⟩ := hrel
    have HR := Lib.hid hR
    have R := Lib.hid hR.fw
    obtain ⟨m0, m1, m2, m3, m4, m5, m6, m7, b0, b1, r0, r1, g0, g1, hz, hbw⟩ := R.out
    by_cases hlt : k < 1
    · have t0 := hR.t0
      have t1 := hR.t1
      have u0 := hR.u0
      have u1 := hR.u1
      have x0 := (hR.sp k hlt).1
      have x1 := (hR.sp k hlt).2
      rw [Nat.zero_add] at x0 x1
      have lq := hR.lq
      have lp := hR.lp
      have q0 : (0 : Int) ≤ (k : Int) := by omega
      have q1 : (k : Int) < 1 := by omega
      have HN := Lib.hid (hR.next.keepD)
      generalize (hu il ih zs k).1 = a at *
      generalize (hu il ih zs k).2 = b at *
      generalize (zs k).1 = u at *
      generalize (zs k).2 = v at *
      have e1 : (if a < u then a else u) = min a u := by split <;> omega
      have e2 : (if u < a then u else a) = min a u := by split <;> omega
      have e4 : (if v < b then b else v) = max b v := by split <;> omega
      have e5 : (if b < v then v else b) = max b v := by split <;> omega
      clear hR HST
      go_wp2_with fail
      go_region
      all_goals
        go_wp2
        go_roundw
        case rel => exact ⟨k + 1, by omega, by go_num, HN.out⟩
        case measure => simp [intOf]; omega
    · have hkn : k = 1 := by omega
      subst hkn
      have t0 := hR.t0
      have t1 := hR.t1
      rw [HRX.out.1] at t0
      rw [HRX.out.2] at t1
      clear hR HR HST
      obtain ⟨RX, hRX⟩ : ∃ x : Int, x = il := ⟨_, rfl⟩
      obtain ⟨RY, hRY⟩ : ∃ x : Int, x = ih := ⟨_, rfl⟩
      rw [← hRX] at t0
      rw [← hRY] at t1
      have HRX := Lib.hid (And.intro hRX hRY)
      clear hRX hRY
      go_wp2
      exact bodyPost_ret (v := .agg #[.int .i64 RX, .int .i64 RY]) (by simp [results, Try.results69, go_sem, set_same (i := 0) (v := .int .i64 RX) r0, set_other (i := 1) (j := 0) (v := .int .i64 RY) (by decide) (set_same (i := 0) (v := .int .i64 RX) r0), set_same (i := 1) (v := .int .i64 RY) (set_other (i := 0) (j := 1) (v := .int .i64 RX) (by decide) r1)]) rfl ⟨by rw [HRX.out.1, HRX.out.2], ((hbw.setCell (p := ⟨w.heap.size + 1 + 1, 0, none⟩) (by dsimp only; omega) _).setCell (p := ⟨w.heap.size + 1 + 1, 1, none⟩) (by dsimp only; omega) _)⟩

set_option maxRecDepth 100000 in
set_option maxHeartbeats 6400000 in
theorem reffactor_FTT (la : Option Addr) (ln lc : Nat) (ra : Option Addr) (rn rc : Nat) (ml mh il ih al ah : Int) (lo hi : Int) (w : World) (h1 : ¬ lo < ml) (h2 : lo ≤ mh) (h3 : mh < hi) (hm : ml ≤ mh) (hb : lo ≤ hi) :
    Calls Try.prog 69 #[.agg #[.slice la ln lc, .slice ra rn rc, .int .i64 ml, .int .i64 mh, .int .i64 il, .int .i64 ih, .int .i64 al, .int .i64 ah], .agg #[.int .i64 lo, .int .i64 hi]] w fun e w' => e = .returned (.agg #[.int .i64 (min il al), .int .i64 (max ih ah)]) ∧ Below w.heap.size w w' := by
  obtain ⟨i0, hi0, hz0, hz1, hz2⟩ := info_parts info24
  have d1 : decide (lo < ml) = false := by exact decide_eq_false h1
  have d2 : decide (lo ≤ mh) = true := by first | exact decide_eq_true (by omega) | exact decide_eq_false (by omega)
  have d3 : decide (ml ≤ hi) = true := by first | exact decide_eq_true (by omega) | exact decide_eq_false (by omega)
  have d4 : decide (mh < hi) = true := by exact decide_eq_true h3
  obtain ⟨A, hA, bA, zA, m0, m1, m2, m3, m4, m5, m6, m7, b0, b1, r0, r1, g0, g1⟩ := fac_boxes36 w la ln lc ra rn rc ml mh il ih al ah lo hi
  have R := Lib.hid (show FW w A la ln lc ra rn rc ml mh il ih al ah lo hi from ⟨m0, m1, m2, m3, m4, m5, m6, m7, b0, b1, r0, r1, g0, g1, by omega, bA⟩)
  have HW := Lib.hid (World.ownsRow_nil A (w.heap.size + 1 + 1 + 1) 24 2)
  clear m0 m1 m2 m3 m4 m5 m6 m7 b0 b1 r0 r1 g0 g1 bA zA h1 h2 h3 hm hb
  go_enter Try.func69, Try.ntmps69
  go_upto_region 4 with fail
  rw [← hA]
  clear hA
  obtain ⟨m0, m1, m2, m3, m4, m5, m6, m7, b0, b1, r0, r1, g0, g1, hz, hbw⟩ := R.out
  have hown := HW.out
  go_wp2_with (first | (at_builtin; refine wpList_append_own _ rfl _ _ 44 rfl (w.heap.size + 1 + 1 + 1) 24 i0 (.agg #[.int .i64 0, .int .i64 0]) 2 16 Try.underlying44 hi0 hz0 hz1 hz2 rfl (by decide) _ _ _ rfl (hown.alloc _) ⟨A.heap.size, 0, none⟩ 1 1 [.int .i64 il, .int .i64 ih] rfl rfl (cell_two_new _ _ _ _) ?c20 ?c30 ?c40 ?c50 ?_) | go_in)
  case c20 => intro u hu; simp at hu; rcases hu with rfl | rfl <;> rfl
  case c30 => unfold maxLen; omega
  case c40 => omega
  case c50 => simp; omega
  intro v0 W0 hown' hgrow _
  have B7 : Below (w.heap.size + 1 + 1 + 1) A W0 := Below.grown ((Below.refl _ A).alloc (by omega) _) hgrow (by simp; omega) (fun k hk => (HW.out.lt k hk).1)
  have R := Lib.hid (R.out.keep B7 (by omega))
  have HW := Lib.hid hown'
  clear hown hown' hgrow B7 m0 m1 m2 m3 m4 m5 m6 m7 b0 b1 r0 r1 g0 g1 hz hbw
  obtain ⟨m0, m1, m2, m3, m4, m5, m6, m7, b0, b1, r0, r1, g0, g1, hz, hbw⟩ := R.out
  have zz : w.heap.size + 1 + 1 < W0.heap.size := hz
  have hown := HW.out
  go_wp2_with (first | (at_builtin; refine wpList_append_own _ rfl _ _ 44 rfl (w.heap.size + 1 + 1 + 1) 24 i0 (.agg #[.int .i64 0, .int .i64 0]) 2 16 Try.underlying44 hi0 hz0 hz1 hz2 rfl (by decide) _ _ _ rfl (hown.alloc _) ⟨W0.heap.size, 0, none⟩ 1 1 [.int .i64 al, .int .i64 ah] rfl rfl (cell_two_new _ _ _ _) ?c21 ?c31 ?c41 ?c51 ?_) | go_in)
  case c21 => intro u hu; simp at hu; rcases hu with rfl | rfl <;> rfl
  case c31 => unfold maxLen; omega
  case c41 => omega
  case c51 => simp; omega
  intro v1 W1 hown' hgrow _
  have B7 : Below (w.heap.size + 1 + 1 + 1) W0 W1 := Below.grown ((Below.refl _ W0).alloc (by omega) _) hgrow (by simp; omega) (fun k hk => (HW.out.lt k hk).1)
  have R := Lib.hid (R.out.keep B7 (by omega))
  have HW := Lib.hid hown'
  clear hown hown' hgrow B7 m0 m1 m2 m3 m4 m5 m6 m7 b0 b1 r0 r1 g0 g1 hz hbw
  obtain ⟨m0, m1, m2, m3, m4, m5, m6, m7, b0, b1, r0, r1, g0, g1, hz, hbw⟩ := R.out
  have zz : w.heap.size + 1 + 1 < W1.heap.size := hz
  obtain ⟨q, cap, rfl, hq1, hq2, hq3, hq4⟩ := row_form HW.out (by decide)
  unfold maxLen at hq4
  have sp : SpansAt W1 q 0 2 (fun i => if i = 0 then (il, ih) else (al, ah)) := fun i hi => by
    match i, hi with
    | 0, _ => exact ⟨by rw [Nat.zero_add]; exact HW.out.cellAt 0 (by decide), by rw [Nat.zero_add]; exact HW.out.cellAt 1 (by decide)⟩
    | 1, _ => exact ⟨by rw [Nat.zero_add]; exact HW.out.cellAt 2 (by decide), by rw [Nat.zero_add]; exact HW.out.cellAt 3 (by decide)⟩
  have HRX := Lib.hid (show (hu il ih (fun i => if i = 0 then (il, ih) else (al, ah)) 2).1 = (min il al) ∧ (hu il ih (fun i => if i = 0 then (il, ih) else (al, ah)) 2).2 = (max ih ah) from ⟨by show (min (min il il) al) = (min il al); omega, by show (max (max ih ih) ah) = (max ih ah); omega⟩)
  have e00 : W1.cell? ⟨q, 0, none⟩ = some (.int .i64 il) := HW.out.cellAt 0 (by decide)
  have e01 : W1.cell? ⟨q, 1, none⟩ = some (.int .i64 ih) := HW.out.cellAt 1 (by decide)
  have HST := Lib.hid (rf_start R.out sp hq1 hq2 il ih)
  have HZ := Lib.hid (show ∀ i, i < 2 → SpansAt W1 q 0 2 (fun i => if i = 0 then (il, ih) else (al, ah)) from fun _ _ => sp)
  clear sp HW HZ
  obtain ⟨zs, hzs⟩ : ∃ zs : Nat → Int × Int, zs = (fun i => if i = 0 then (il, ih) else (al, ah)) := ⟨_, rfl⟩
  rw [← hzs] at HRX HST
  clear hzs
  go_wp2
  go_loopw [7] (fun i wr => ∃ k : Nat, k ≤ 2 ∧ i = .int .i64 k ∧ RF w wr la ln lc ra rn rc ml mh il ih al ah lo hi W1.heap.size q 2 zs il ih k) (fun i _ => 2 - (intOf i).toNat)
  case atStart => exact ⟨0, Nat.zero_le _, rfl, HST.out⟩
  case round =>
    clear m0 m1 m2 m3 m4 m5 m6 m7 b0 b1 r0 r1 g0 g1 hz hbw
    obtain ⟨k, hk, rfl, hR⟩ := hrel
    have HR := Lib.hid hR
    have R := Lib.hid hR.fw
    obtain ⟨m0, m1, m2, m3, m4, m5, m6, m7, b0, b1, r0, r1, g0, g1, hz, hbw⟩ := R.out
    by_cases hlt : k < 2
    · have t0 := hR.t0
      have t1 := hR.t1
      have u0 := hR.u0
      have u1 := hR.u1
      have x0 := (hR.sp k hlt).1
      have x1 := (hR.sp k hlt).2
      rw [Nat.zero_add] at x0 x1
      have lq := hR.lq
      have lp := hR.lp
      have q0 : (0 : Int) ≤ (k : Int) := by omega
      have q1 : (k : Int) < 2 := by omega
      have HN := Lib.hid (hR.next.keepD)
      generalize (hu il ih zs k).1 = a at *
      generalize (hu il ih zs k).2 = b at *
      generalize (zs k).1 = u at *
      generalize (zs k).2 = v at *
      have e1 : (if a < u then a else u) = min a u := by split <;> omega
      have e2 : (if u < a then u else a) = min a u := by split <;> omega
      have e4 : (if v < b then b else v) = max b v := by split <;> omega
      have e5 : (if b < v then v else b) = max b v := by split <;> omega
      clear hR HST
      go_wp2_with fail
      go_region
      all_goals
        go_wp2
        go_roundw
        case rel => exact ⟨k + 1, by omega, by go_num, HN.out⟩
        case measure => simp [intOf]; omega
    · have hkn : k = 2 := by omega
      subst hkn
      have t0 := hR.t0
      have t1 := hR.t1
      rw [HRX.out.1] at t0
      rw [HRX.out.2] at t1
      clear hR HR HST
      obtain ⟨RX, hRX⟩ : ∃ x : Int, x = (min il al) := ⟨_, rfl⟩
      obtain ⟨RY, hRY⟩ : ∃ x : Int, x = (max ih ah) := ⟨_, rfl⟩
      rw [← hRX] at t0
      rw [← hRY] at t1
      have HRX := Lib.hid (And.intro hRX hRY)
      clear hRX hRY
      go_wp2
      exact bodyPost_ret (v := .agg #[.int .i64 RX, .int .i64 RY]) (by simp [results, Try.results69, go_sem, set_same (i := 0) (v := .int .i64 RX) r0, set_other (i := 1) (j := 0) (v := .int .i64 RY) (by decide) (set_same (i := 0) (v := .int .i64 RX) r0), set_same (i := 1) (v := .int .i64 RY) (set_other (i := 0) (j := 1) (v := .int .i64 RX) (by decide) r1)]) rfl ⟨by rw [HRX.out.1, HRX.out.2], ((hbw.setCell (p := ⟨w.heap.size + 1 + 1, 0, none⟩) (by dsimp only; omega) _).setCell (p := ⟨w.heap.size + 1 + 1, 1, none⟩) (by dsimp only; omega) _)⟩

set_option maxRecDepth 100000 in
set_option maxHeartbeats 6400000 in
theorem reffactor_FFT (la : Option Addr) (ln lc : Nat) (ra : Option Addr) (rn rc : Nat) (ml mh il ih al ah : Int) (lo hi : Int) (w : World) (h1 : ¬ lo < ml) (h2 : ¬ lo ≤ mh) (h3 : mh < hi) (hm : ml ≤ mh) (hb : lo ≤ hi) :
    Calls Try.prog 69 #[.agg #[.slice la ln lc, .slice ra rn rc, .int .i64 ml, .int .i64 mh, .int .i64 il, .int .i64 ih, .int .i64 al, .int .i64 ah], .agg #[.int .i64 lo, .int .i64 hi]] w fun e w' => e = .returned (.agg #[.int .i64 al, .int .i64 ah]) ∧ Below w.heap.size w w' := by
  obtain ⟨i0, hi0, hz0, hz1, hz2⟩ := info_parts info24
  have d1 : decide (lo < ml) = false := by exact decide_eq_false h1
  have d2 : decide (lo ≤ mh) = false := by first | exact decide_eq_true (by omega) | exact decide_eq_false (by omega)
  have d3 : decide (ml ≤ hi) = true := by first | exact decide_eq_true (by omega) | exact decide_eq_false (by omega)
  have d4 : decide (mh < hi) = true := by exact decide_eq_true h3
  obtain ⟨A, hA, bA, zA, m0, m1, m2, m3, m4, m5, m6, m7, b0, b1, r0, r1, g0, g1⟩ := fac_boxes36 w la ln lc ra rn rc ml mh il ih al ah lo hi
  have R := Lib.hid (show FW w A la ln lc ra rn rc ml mh il ih al ah lo hi from ⟨m0, m1, m2, m3, m4, m5, m6, m7, b0, b1, r0, r1, g0, g1, by omega, bA⟩)
  have HW := Lib.hid (World.ownsRow_nil A (w.heap.size + 1 + 1 + 1) 24 2)
  clear m0 m1 m2 m3 m4 m5 m6 m7 b0 b1 r0 r1 g0 g1 bA zA h1 h2 h3 hm hb
  go_enter Try.func69, Try.ntmps69
  go_upto_region 4 with fail
  rw [← hA]
  clear hA
  obtain ⟨m0, m1, m2, m3, m4, m5, m6, m7, b0, b1, r0, r1, g0, g1, hz, hbw⟩ := R.out
  have hown := HW.out
  go_wp2_with (first | (at_builtin; refine wpList_append_own _ rfl _ _ 44 rfl (w.heap.size + 1 + 1 + 1) 24 i0 (.agg #[.int .i64 0, .int .i64 0]) 2 16 Try.underlying44 hi0 hz0 hz1 hz2 rfl (by decide) _ _ _ rfl (hown.alloc _) ⟨A.heap.size, 0, none⟩ 1 1 [.int .i64 al, .int .i64 ah] rfl rfl (cell_two_new _ _ _ _) ?c20 ?c30 ?c40 ?c50 ?_) | go_in)
  case c20 => intro u hu; simp at hu; rcases hu with rfl | rfl <;> rfl
  case c30 => unfold maxLen; omega
  case c40 => omega
  case c50 => simp; omega
  intro v0 W0 hown' hgrow _
  have B7 : Below (w.heap.size + 1 + 1 + 1) A W0 := Below.grown ((Below.refl _ A).alloc (by omega) _) hgrow (by simp; omega) (fun k hk => (HW.out.lt k hk).1)
  have R := Lib.hid (R.out.keep B7 (by omega))
  have HW := Lib.hid hown'
  clear hown hown' hgrow B7 m0 m1 m2 m3 m4 m5 m6 m7 b0 b1 r0 r1 g0 g1 hz hbw
  obtain ⟨m0, m1, m2, m3, m4, m5, m6, m7, b0, b1, r0, r1, g0, g1, hz, hbw⟩ := R.out
  have zz : w.heap.size + 1 + 1 < W0.heap.size := hz
  obtain ⟨q, cap, rfl, hq1, hq2, hq3, hq4⟩ := row_form HW.out (by decide)
  unfold maxLen at hq4
  have sp : SpansAt W0 q 0 1 (fun i => (al, ah)) := fun i hi => by
    match i, hi with
    | 0, _ => exact ⟨by rw [Nat.zero_add]; exact HW.out.cellAt 0 (by decide), by rw [Nat.zero_add]; exact HW.out.cellAt 1 (by decide)⟩
  have HRX := Lib.hid (show (hu al ah (fun i => (al, ah)) 1).1 = al ∧ (hu al ah (fun i => (al, ah)) 1).2 = ah from ⟨by show (min al al) = al; omega, by show (max ah ah) = ah; omega⟩)
  have e00 : W0.cell? ⟨q, 0, none⟩ = some (.int .i64 al) := HW.out.cellAt 0 (by decide)
  have e01 : W0.cell? ⟨q, 1, none⟩ = some (.int .i64 ah) := HW.out.cellAt 1 (by decide)
  have HST := Lib.hid (rf_start R.out sp hq1 hq2 al ah)
  have HZ := Lib.hid (show ∀ i, i < 1 → SpansAt W0 q 0 1 (fun i => (al, ah)) from fun _ _ => sp)
  clear sp HW HZ
  obtain ⟨zs, hzs⟩ : ∃ zs : Nat → Int × Int, zs = (fun i => (al, ah)) := ⟨_, rfl⟩
  rw [← hzs] at HRX HST
  clear hzs
  go_wp2
  go_loopw [7] (fun i wr => ∃ k : Nat, k ≤ 1 ∧ i = .int .i64 k ∧ RF w wr la ln lc ra rn rc ml mh il ih al ah lo hi W0.heap.size q 1 zs al ah k) (fun i _ => 1 - (intOf i).toNat)
  case atStart => exact ⟨0, Nat.zero_le _, rfl, HST.out⟩
  case round =>
    clear m0 m1 m2 m3 m4 m5 m6 m7 b0 b1 r0 r1 g0 g1 hz hbw
    obtain ⟨k, hk, rfl, hR⟩ := hrel
    have HR := Lib.hid hR
    have R := Lib.hid hR.fw
    obtain ⟨m0, m1, m2, m3, m4, m5, m6, m7, b0, b1, r0, r1, g0, g1, hz, hbw⟩ := R.out
    by_cases hlt : k < 1
    · have t0 := hR.t0
      have t1 := hR.t1
      have u0 := hR.u0
      have u1 := hR.u1
      have x0 := (hR.sp k hlt).1
      have x1 := (hR.sp k hlt).2
      rw [Nat.zero_add] at x0 x1
      have lq := hR.lq
      have lp := hR.lp
      have q0 : (0 : Int) ≤ (k : Int) := by omega
      have q1 : (k : Int) < 1 := by omega
      have HN := Lib.hid (hR.next.keepD)
      generalize (hu al ah zs k).1 = a at *
      generalize (hu al ah zs k).2 = b at *
      generalize (zs k).1 = u at *
      generalize (zs k).2 = v at *
      have e1 : (if a < u then a else u) = min a u := by split <;> omega
      have e2 : (if u < a then u else a) = min a u := by split <;> omega
      have e4 : (if v < b then b else v) = max b v := by split <;> omega
      have e5 : (if b < v then v else b) = max b v := by split <;> omega
      clear hR HST
      go_wp2_with fail
      go_region
      all_goals
        go_wp2
        go_roundw
        case rel => exact ⟨k + 1, by omega, by go_num, HN.out⟩
        case measure => simp [intOf]; omega
    · have hkn : k = 1 := by omega
      subst hkn
      have t0 := hR.t0
      have t1 := hR.t1
      rw [HRX.out.1] at t0
      rw [HRX.out.2] at t1
      clear hR HR HST
      obtain ⟨RX, hRX⟩ : ∃ x : Int, x = al := ⟨_, rfl⟩
      obtain ⟨RY, hRY⟩ : ∃ x : Int, x = ah := ⟨_, rfl⟩
      rw [← hRX] at t0
      rw [← hRY] at t1
      have HRX := Lib.hid (And.intro hRX hRY)
      clear hRX hRY
      go_wp2
      exact bodyPost_ret (v := .agg #[.int .i64 RX, .int .i64 RY]) (by simp [results, Try.results69, go_sem, set_same (i := 0) (v := .int .i64 RX) r0, set_other (i := 1) (j := 0) (v := .int .i64 RY) (by decide) (set_same (i := 0) (v := .int .i64 RX) r0), set_same (i := 1) (v := .int .i64 RY) (set_other (i := 0) (j := 1) (v := .int .i64 RX) (by decide) r1)]) rfl ⟨by rw [HRX.out.1, HRX.out.2], ((hbw.setCell (p := ⟨w.heap.size + 1 + 1, 0, none⟩) (by dsimp only; omega) _).setCell (p := ⟨w.heap.size + 1 + 1, 1, none⟩) (by dsimp only; omega) _)⟩

end Go.Proofs.Ytdmbkhmhaininaa
