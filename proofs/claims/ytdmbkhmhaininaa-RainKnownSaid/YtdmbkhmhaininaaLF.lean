/-
  Factor, and its reference.
-/
import Derived.Test.YtdmbkhmhaininaaLR
import Derived.Test.YtdmbkhmhaininaaI
namespace Go.Proofs.Ytdmbkhmhaininaa
open Go.RowKit
set_option linter.unusedVariables false
set_option linter.unusedSimpArgs false

theorem factor_any (la : Option Addr) (ln lc : Nat) (ra : Option Addr) (rn rc : Nat) (ml mh il ih al ah : Int) (lo hi : Int) (w : World) (hm : ml ≤ mh) (hb : lo ≤ hi) :
    Calls Try.prog 68 #[.agg #[.slice la ln lc, .slice ra rn rc, .int .i64 ml, .int .i64 mh, .int .i64 il, .int .i64 ih, .int .i64 al, .int .i64 ah], .agg #[.int .i64 lo, .int .i64 hi]] w fun e w' => e = .returned (.agg #[.int .i64 (facR ml mh il ih al ah lo hi).1, .int .i64 (facR ml mh il ih al ah lo hi).2]) ∧ Below w.heap.size w w' := by
  by_cases h1 : lo < ml
  · by_cases h2 : ml ≤ hi
    · by_cases h3 : mh < hi
      · have e : facR ml mh il ih al ah lo hi = (min (min 1000 il) al, max (max 1000 ih) ah) := by unfold facR; rw [if_pos h1, if_pos h2, if_pos h3]
        rw [e]; exact factor_TTT la ln lc ra rn rc ml mh il ih al ah lo hi w h1 h2 h3 hm hb
      · have e : facR ml mh il ih al ah lo hi = (min 1000 il, max 1000 ih) := by unfold facR; rw [if_pos h1, if_pos h2, if_neg h3]
        rw [e]; exact factor_TTF la ln lc ra rn rc ml mh il ih al ah lo hi w h1 h2 h3 hm hb
    · have e : facR ml mh il ih al ah lo hi = (1000, 1000) := by unfold facR; rw [if_pos h1, if_neg h2]
      rw [e]; exact factor_TFF la ln lc ra rn rc ml mh il ih al ah lo hi w h1 h2 (by omega) hm hb
  · by_cases h2 : lo ≤ mh
    · by_cases h3 : mh < hi
      · have e : facR ml mh il ih al ah lo hi = (min il al, max ih ah) := by unfold facR; rw [if_neg h1, if_pos h2, if_pos h3]
        rw [e]; exact factor_FTT la ln lc ra rn rc ml mh il ih al ah lo hi w h1 h2 h3 hm hb
      · have e : facR ml mh il ih al ah lo hi = (il, ih) := by unfold facR; rw [if_neg h1, if_pos h2, if_neg h3]
        rw [e]; exact factor_FTF la ln lc ra rn rc ml mh il ih al ah lo hi w h1 h2 h3 hm hb
    · have e : facR ml mh il ih al ah lo hi = (al, ah) := by unfold facR; rw [if_neg h1, if_neg h2]
      rw [e]; exact factor_FFT la ln lc ra rn rc ml mh il ih al ah lo hi w h1 h2 (by omega) hm hb

theorem reffactor_any (la : Option Addr) (ln lc : Nat) (ra : Option Addr) (rn rc : Nat) (ml mh il ih al ah : Int) (lo hi : Int) (w : World) (hm : ml ≤ mh) (hb : lo ≤ hi) :
    Calls Try.prog 69 #[.agg #[.slice la ln lc, .slice ra rn rc, .int .i64 ml, .int .i64 mh, .int .i64 il, .int .i64 ih, .int .i64 al, .int .i64 ah], .agg #[.int .i64 lo, .int .i64 hi]] w fun e w' => e = .returned (.agg #[.int .i64 (facR ml mh il ih al ah lo hi).1, .int .i64 (facR ml mh il ih al ah lo hi).2]) ∧ Below w.heap.size w w' := by
  by_cases h1 : lo < ml
  · by_cases h2 : ml ≤ hi
    · by_cases h3 : mh < hi
      · have e : facR ml mh il ih al ah lo hi = (min (min 1000 il) al, max (max 1000 ih) ah) := by unfold facR; rw [if_pos h1, if_pos h2, if_pos h3]
        rw [e]; exact reffactor_TTT la ln lc ra rn rc ml mh il ih al ah lo hi w h1 h2 h3 hm hb
      · have e : facR ml mh il ih al ah lo hi = (min 1000 il, max 1000 ih) := by unfold facR; rw [if_pos h1, if_pos h2, if_neg h3]
        rw [e]; exact reffactor_TTF la ln lc ra rn rc ml mh il ih al ah lo hi w h1 h2 h3 hm hb
    · have e : facR ml mh il ih al ah lo hi = (1000, 1000) := by unfold facR; rw [if_pos h1, if_neg h2]
      rw [e]; exact reffactor_TFF la ln lc ra rn rc ml mh il ih al ah lo hi w h1 h2 (by omega) hm hb
  · by_cases h2 : lo ≤ mh
    · by_cases h3 : mh < hi
      · have e : facR ml mh il ih al ah lo hi = (min il al, max ih ah) := by unfold facR; rw [if_neg h1, if_pos h2, if_pos h3]
        rw [e]; exact reffactor_FTT la ln lc ra rn rc ml mh il ih al ah lo hi w h1 h2 h3 hm hb
      · have e : facR ml mh il ih al ah lo hi = (il, ih) := by unfold facR; rw [if_neg h1, if_pos h2, if_neg h3]
        rw [e]; exact reffactor_FTF la ln lc ra rn rc ml mh il ih al ah lo hi w h1 h2 h3 hm hb
    · have e : facR ml mh il ih al ah lo hi = (al, ah) := by unfold facR; rw [if_neg h1, if_neg h2]
      rw [e]; exact reffactor_FFT la ln lc ra rn rc ml mh il ih al ah lo hi w h1 h2 (by omega) hm hb

/-- the answers of Factor -/
def faE (ln : Nat) (lz : Nat → Int × Int) (rn : Nat) (rz : Nat → Int × Int) (ml mh il ih al ah lo hi : Int) : Int := if mdE ln lz rn rz ml mh il ih al ah = 0 then (if lo ≤ hi then 0 else 3) else mdE ln lz rn rz ml mh il ih al ah
def faL (e : Int) (x : Int × Int) : Int := if e = 0 then x.1 else 0
def faH (e : Int) (x : Int × Int) : Int := if e = 0 then x.2 else 0
theorem mdE_melt {ln : Nat} {lz : Nat → Int × Int} {rn : Nat} {rz : Nat → Int × Int} {ml mh il ih al ah : Int} (h : mdE ln lz rn rz ml mh il ih al ah = 0) : ml ≤ mh := by
  unfold mdE at h
  by_cases h1 : tabC ln lz 32768 = 0
  · rw [if_pos h1] at h
    by_cases h2 : tabC rn rz 1000000 = 0
    · rw [if_pos h2] at h
      cases h3 : spanB ml mh 0 20000
      · rw [h3] at h; simp at h
      · exact (spanB_true.1 h3).2.1
    · rw [if_neg h2] at h; exact absurd h h2
  · rw [if_neg h1] at h; exact absurd h h1

set_option maxRecDepth 100000 in
set_option maxHeartbeats 3200000 in
theorem Factor_bad (la : Option Addr) (ln lc : Nat) (ra : Option Addr) (rn rc : Nat) (ml mh il ih al ah : Int) (lo hi e0 : Int) (w : World) (he : e0 ≠ 0) (hM : ∀ W, Below w.heap.size w W → Calls Try.prog 17 #[.agg #[.slice la ln lc, .slice ra rn rc, .int .i64 ml, .int .i64 mh, .int .i64 il, .int .i64 ih, .int .i64 al, .int .i64 ah]] W fun e w' => e = .returned (.int .i64 e0) ∧ Below W.heap.size W w') : Calls Try.prog 30 #[.agg #[.slice la ln lc, .slice ra rn rc, .int .i64 ml, .int .i64 mh, .int .i64 il, .int .i64 ih, .int .i64 al, .int .i64 ah], .agg #[.int .i64 lo, .int .i64 hi]] w fun e w' => e = .returned (.tuple #[.agg #[.int .i64 0, .int .i64 0], .int .i64 e0]) ∧ Below w.heap.size w w' := by
  have HM := Lib.hid hM
  have hne : (e0 != 0) = true := bne_iff_ne.2 he
  have hne2 : (e0 == 0) = false := beq_eq_false_iff_ne.2 he
  clear hM he
  obtain ⟨A, hA, bA, zA, m0, m1, m2, m3, m4, m5, m6, m7, b0, b1, r0, r1, g0, g1⟩ := fac_boxes26 w la ln lc ra rn rc ml mh il ih al ah lo hi
  have R := Lib.hid (show FW w A la ln lc ra rn rc ml mh il ih al ah lo hi from ⟨m0, m1, m2, m3, m4, m5, m6, m7, b0, b1, r0, r1, g0, g1, by omega, bA⟩)
  clear m0 m1 m2 m3 m4 m5 m6 m7 b0 b1 r0 r1 g0 g1 zA
  go_enter Try.func30, Try.ntmps30
  go_wp2_with fail
  rw [← hA]
  clear hA
  refine (HM.out _ bA).mono ?_; rintro e X ⟨rfl, hb1⟩
  have R := Lib.hid (R.out.keep hb1 R.out.z)
  clear hb1 bA
  obtain ⟨m0, m1, m2, m3, m4, m5, m6, m7, b0, b1, r0, r1, g0, g1, hz, hbw⟩ := R.out
  go_wp2
  exact bodyPost_ret (v := .tuple #[.agg #[.int .i64 0, .int .i64 0], .int .i64 e0]) (by simp [results, Try.results30, go_sem, set_same (i := 0) (v := .int .i64 0) r0, set_other (i := 1) (j := 0) (v := .int .i64 0) (by decide) (set_same (i := 0) (v := .int .i64 0) r0), set_same (i := 1) (v := .int .i64 0) (set_other (i := 0) (j := 1) (v := .int .i64 0) (by decide) r1)]) rfl ⟨rfl, ((hbw.setCell (p := ⟨w.heap.size + 1 + 1, 0, none⟩) (by dsimp only; omega) _).setCell (p := ⟨w.heap.size + 1 + 1, 1, none⟩) (by dsimp only; omega) _)⟩

set_option maxRecDepth 100000 in
set_option maxHeartbeats 3200000 in
theorem Factor_out (la : Option Addr) (ln lc : Nat) (ra : Option Addr) (rn rc : Nat) (ml mh il ih al ah : Int) (lo hi : Int) (w : World) (hb : ¬ lo ≤ hi) (hM : ∀ W, Below w.heap.size w W → Calls Try.prog 17 #[.agg #[.slice la ln lc, .slice ra rn rc, .int .i64 ml, .int .i64 mh, .int .i64 il, .int .i64 ih, .int .i64 al, .int .i64 ah]] W fun e w' => e = .returned (.int .i64 0) ∧ Below W.heap.size W w') : Calls Try.prog 30 #[.agg #[.slice la ln lc, .slice ra rn rc, .int .i64 ml, .int .i64 mh, .int .i64 il, .int .i64 ih, .int .i64 al, .int .i64 ah], .agg #[.int .i64 lo, .int .i64 hi]] w fun e w' => e = .returned (.tuple #[.agg #[.int .i64 0, .int .i64 0], .int .i64 3]) ∧ Below w.heap.size w w' := by
  have HM := Lib.hid hM
  have d : decide (hi < lo) = true := decide_eq_true (by omega)
  clear hM hb
  obtain ⟨A, hA, bA, zA, m0, m1, m2, m3, m4, m5, m6, m7, b0, b1, r0, r1, g0, g1⟩ := fac_boxes26 w la ln lc ra rn rc ml mh il ih al ah lo hi
  have R := Lib.hid (show FW w A la ln lc ra rn rc ml mh il ih al ah lo hi from ⟨m0, m1, m2, m3, m4, m5, m6, m7, b0, b1, r0, r1, g0, g1, by omega, bA⟩)
  clear m0 m1 m2 m3 m4 m5 m6 m7 b0 b1 r0 r1 g0 g1 zA
  go_enter Try.func30, Try.ntmps30
  go_wp2_with fail
  rw [← hA]
  clear hA
  refine (HM.out _ bA).mono ?_; rintro e X ⟨rfl, hb1⟩
  have R := Lib.hid (R.out.keep hb1 R.out.z)
  clear hb1 bA
  obtain ⟨m0, m1, m2, m3, m4, m5, m6, m7, b0, b1, r0, r1, g0, g1, hz, hbw⟩ := R.out
  go_wp2
  exact bodyPost_ret (v := .tuple #[.agg #[.int .i64 0, .int .i64 0], .int .i64 3]) (by simp [results, Try.results30, go_sem, set_same (i := 0) (v := .int .i64 0) r0, set_other (i := 1) (j := 0) (v := .int .i64 0) (by decide) (set_same (i := 0) (v := .int .i64 0) r0), set_same (i := 1) (v := .int .i64 0) (set_other (i := 0) (j := 1) (v := .int .i64 0) (by decide) r1)]) rfl ⟨rfl, ((hbw.setCell (p := ⟨w.heap.size + 1 + 1, 0, none⟩) (by dsimp only; omega) _).setCell (p := ⟨w.heap.size + 1 + 1, 1, none⟩) (by dsimp only; omega) _)⟩

set_option maxRecDepth 100000 in
set_option maxHeartbeats 3200000 in
theorem Factor_ok (la : Option Addr) (ln lc : Nat) (ra : Option Addr) (rn rc : Nat) (ml mh il ih al ah : Int) (lo hi : Int) (w : World) (hm : ml ≤ mh) (hb : lo ≤ hi) (hM : ∀ W, Below w.heap.size w W → Calls Try.prog 17 #[.agg #[.slice la ln lc, .slice ra rn rc, .int .i64 ml, .int .i64 mh, .int .i64 il, .int .i64 ih, .int .i64 al, .int .i64 ah]] W fun e w' => e = .returned (.int .i64 0) ∧ Below W.heap.size W w') : Calls Try.prog 30 #[.agg #[.slice la ln lc, .slice ra rn rc, .int .i64 ml, .int .i64 mh, .int .i64 il, .int .i64 ih, .int .i64 al, .int .i64 ah], .agg #[.int .i64 lo, .int .i64 hi]] w fun e w' => e = .returned (.tuple #[.agg #[.int .i64 (facR ml mh il ih al ah lo hi).1, .int .i64 (facR ml mh il ih al ah lo hi).2], .int .i64 0]) ∧ Below w.heap.size w w' := by
  have HM := Lib.hid hM
  have d : decide (hi < lo) = false := decide_eq_false (by omega)
  have HF := Lib.hid (fun W => factor_any la ln lc ra rn rc ml mh il ih al ah lo hi W hm hb)
  clear hM hb hm
  generalize facR ml mh il ih al ah lo hi = fr at *
  obtain ⟨A, hA, bA, zA, m0, m1, m2, m3, m4, m5, m6, m7, b0, b1, r0, r1, g0, g1⟩ := fac_boxes26 w la ln lc ra rn rc ml mh il ih al ah lo hi
  have R := Lib.hid (show FW w A la ln lc ra rn rc ml mh il ih al ah lo hi from ⟨m0, m1, m2, m3, m4, m5, m6, m7, b0, b1, r0, r1, g0, g1, by omega, bA⟩)
  clear m0 m1 m2 m3 m4 m5 m6 m7 b0 b1 r0 r1 g0 g1 zA
  go_enter Try.func30, Try.ntmps30
  go_wp2_with fail
  rw [← hA]
  clear hA
  refine (HM.out _ bA).mono ?_; rintro e X ⟨rfl, hb1⟩
  have R := Lib.hid (R.out.keep hb1 R.out.z)
  clear hb1 bA
  obtain ⟨m0, m1, m2, m3, m4, m5, m6, m7, b0, b1, r0, r1, g0, g1, hz, hbw⟩ := R.out
  go_wp2_with fail
  refine (HF.out _).mono ?_; rintro e Y ⟨rfl, hb1⟩
  have R := Lib.hid (R.out.keep hb1 R.out.z)
  clear hb1 m0 m1 m2 m3 m4 m5 m6 m7 b0 b1 r0 r1 g0 g1 hz hbw
  obtain ⟨m0, m1, m2, m3, m4, m5, m6, m7, b0, b1, r0, r1, g0, g1, hz, hbw⟩ := R.out
  go_wp2
  exact bodyPost_ret (v := .tuple #[.agg #[.int .i64 fr.1, .int .i64 fr.2], .int .i64 0]) (by simp [results, Try.results30, go_sem, set_same (i := 0) (v := .int .i64 fr.1) r0, set_other (i := 1) (j := 0) (v := .int .i64 fr.2) (by decide) (set_same (i := 0) (v := .int .i64 fr.1) r0), set_same (i := 1) (v := .int .i64 fr.2) (set_other (i := 0) (j := 1) (v := .int .i64 fr.1) (by decide) r1)]) rfl ⟨rfl, ((hbw.setCell (p := ⟨w.heap.size + 1 + 1, 0, none⟩) (by dsimp only; omega) _).setCell (p := ⟨w.heap.size + 1 + 1, 1, none⟩) (by dsimp only; omega) _)⟩

theorem Factor_any (la : Option Addr) (ln lc : Nat) (ra : Option Addr) (rn rc : Nat) (ml mh il ih al ah : Int) (lz rz : Nat → Int × Int) (lo hi : Int) (w : World) (sl : SliceIs w la ln lc lz) (sr : SliceIs w ra rn rc rz) :
    Calls Try.prog 30 #[.agg #[.slice la ln lc, .slice ra rn rc, .int .i64 ml, .int .i64 mh, .int .i64 il, .int .i64 ih, .int .i64 al, .int .i64 ah], .agg #[.int .i64 lo, .int .i64 hi]] w fun e w' => e = .returned (.tuple #[.agg #[.int .i64 (faL (faE ln lz rn rz ml mh il ih al ah lo hi) (facR ml mh il ih al ah lo hi)), .int .i64 (faH (faE ln lz rn rz ml mh il ih al ah lo hi) (facR ml mh il ih al ah lo hi))], .int .i64 (faE ln lz rn rz ml mh il ih al ah lo hi)]) ∧ Below w.heap.size w w' := by
  have hM := fun W (hW : Below w.heap.size w W) => CheckModel_any la ln lc ra rn rc ml mh il ih al ah lz rz W (sl.keep hW) (sr.keep hW)
  by_cases h : mdE ln lz rn rz ml mh il ih al ah = 0
  · have hm := mdE_melt h
    rw [h] at hM
    by_cases hb : lo ≤ hi
    · have e : faE ln lz rn rz ml mh il ih al ah lo hi = 0 := by unfold faE; rw [if_pos h, if_pos hb]
      unfold faL faH
      rw [e, if_pos rfl, if_pos rfl]
      exact Factor_ok la ln lc ra rn rc ml mh il ih al ah lo hi w hm hb hM
    · have e : faE ln lz rn rz ml mh il ih al ah lo hi = 3 := by unfold faE; rw [if_pos h, if_neg hb]
      unfold faL faH
      rw [e, if_neg (by decide), if_neg (by decide)]
      exact Factor_out la ln lc ra rn rc ml mh il ih al ah lo hi w hb hM
  · have e : faE ln lz rn rz ml mh il ih al ah lo hi = mdE ln lz rn rz ml mh il ih al ah := by unfold faE; rw [if_neg h]
    unfold faL faH
    rw [e, if_neg h, if_neg h]
    exact Factor_bad la ln lc ra rn rc ml mh il ih al ah lo hi _ w h hM

set_option maxRecDepth 100000 in
set_option maxHeartbeats 3200000 in
theorem refFactor_bad (la : Option Addr) (ln lc : Nat) (ra : Option Addr) (rn rc : Nat) (ml mh il ih al ah : Int) (lo hi e0 : Int) (w : World) (he : e0 ≠ 0) (hM : ∀ W, Below w.heap.size w W → Calls Try.prog 18 #[.agg #[.slice la ln lc, .slice ra rn rc, .int .i64 ml, .int .i64 mh, .int .i64 il, .int .i64 ih, .int .i64 al, .int .i64 ah]] W fun e w' => e = .returned (.int .i64 e0) ∧ Below W.heap.size W w') : Calls Try.prog 31 #[.agg #[.slice la ln lc, .slice ra rn rc, .int .i64 ml, .int .i64 mh, .int .i64 il, .int .i64 ih, .int .i64 al, .int .i64 ah], .agg #[.int .i64 lo, .int .i64 hi]] w fun e w' => e = .returned (.tuple #[.agg #[.int .i64 0, .int .i64 0], .int .i64 e0]) ∧ Below w.heap.size w w' := by
  have HM := Lib.hid hM
  have hne : (e0 != 0) = true := bne_iff_ne.2 he
  have hne2 : (e0 == 0) = false := beq_eq_false_iff_ne.2 he
  clear hM he
  obtain ⟨A, hA, bA, zA, m0, m1, m2, m3, m4, m5, m6, m7, b0, b1, r0, r1, g0, g1⟩ := fac_boxes36 w la ln lc ra rn rc ml mh il ih al ah lo hi
  have R := Lib.hid (show FW w A la ln lc ra rn rc ml mh il ih al ah lo hi from ⟨m0, m1, m2, m3, m4, m5, m6, m7, b0, b1, r0, r1, g0, g1, by omega, bA⟩)
  clear m0 m1 m2 m3 m4 m5 m6 m7 b0 b1 r0 r1 g0 g1 zA
  go_enter Try.func31, Try.ntmps31
  go_wp2_with fail
  rw [← hA]
  clear hA
  refine (HM.out _ bA).mono ?_; rintro e X ⟨rfl, hb1⟩
  have R := Lib.hid (R.out.keep hb1 R.out.z)
  clear hb1 bA
  obtain ⟨m0, m1, m2, m3, m4, m5, m6, m7, b0, b1, r0, r1, g0, g1, hz, hbw⟩ := R.out
  go_wp2
  exact bodyPost_ret (v := .tuple #[.agg #[.int .i64 0, .int .i64 0], .int .i64 e0]) (by simp [results, Try.results31, go_sem, set_same (i := 0) (v := .int .i64 0) r0, set_other (i := 1) (j := 0) (v := .int .i64 0) (by decide) (set_same (i := 0) (v := .int .i64 0) r0), set_same (i := 1) (v := .int .i64 0) (set_other (i := 0) (j := 1) (v := .int .i64 0) (by decide) r1)]) rfl ⟨rfl, ((hbw.setCell (p := ⟨w.heap.size + 1 + 1, 0, none⟩) (by dsimp only; omega) _).setCell (p := ⟨w.heap.size + 1 + 1, 1, none⟩) (by dsimp only; omega) _)⟩

set_option maxRecDepth 100000 in
set_option maxHeartbeats 3200000 in
theorem refFactor_out (la : Option Addr) (ln lc : Nat) (ra : Option Addr) (rn rc : Nat) (ml mh il ih al ah : Int) (lo hi : Int) (w : World) (hb : ¬ lo ≤ hi) (hM : ∀ W, Below w.heap.size w W → Calls Try.prog 18 #[.agg #[.slice la ln lc, .slice ra rn rc, .int .i64 ml, .int .i64 mh, .int .i64 il, .int .i64 ih, .int .i64 al, .int .i64 ah]] W fun e w' => e = .returned (.int .i64 0) ∧ Below W.heap.size W w') : Calls Try.prog 31 #[.agg #[.slice la ln lc, .slice ra rn rc, .int .i64 ml, .int .i64 mh, .int .i64 il, .int .i64 ih, .int .i64 al, .int .i64 ah], .agg #[.int .i64 lo, .int .i64 hi]] w fun e w' => e = .returned (.tuple #[.agg #[.int .i64 0, .int .i64 0], .int .i64 3]) ∧ Below w.heap.size w w' := by
  have HM := Lib.hid hM
  have d : decide (hi < lo) = true := decide_eq_true (by omega)
  clear hM hb
  obtain ⟨A, hA, bA, zA, m0, m1, m2, m3, m4, m5, m6, m7, b0, b1, r0, r1, g0, g1⟩ := fac_boxes36 w la ln lc ra rn rc ml mh il ih al ah lo hi
  have R := Lib.hid (show FW w A la ln lc ra rn rc ml mh il ih al ah lo hi from ⟨m0, m1, m2, m3, m4, m5, m6, m7, b0, b1, r0, r1, g0, g1, by omega, bA⟩)
  clear m0 m1 m2 m3 m4 m5 m6 m7 b0 b1 r0 r1 g0 g1 zA
  go_enter Try.func31, Try.ntmps31
  go_wp2_with fail
  rw [← hA]
  clear hA
  refine (HM.out _ bA).mono ?_; rintro e X ⟨rfl, hb1⟩
  have R := Lib.hid (R.out.keep hb1 R.out.z)
  clear hb1 bA
  obtain ⟨m0, m1, m2, m3, m4, m5, m6, m7, b0, b1, r0, r1, g0, g1, hz, hbw⟩ := R.out
  go_wp2
  exact bodyPost_ret (v := .tuple #[.agg #[.int .i64 0, .int .i64 0], .int .i64 3]) (by simp [results, Try.results31, go_sem, set_same (i := 0) (v := .int .i64 0) r0, set_other (i := 1) (j := 0) (v := .int .i64 0) (by decide) (set_same (i := 0) (v := .int .i64 0) r0), set_same (i := 1) (v := .int .i64 0) (set_other (i := 0) (j := 1) (v := .int .i64 0) (by decide) r1)]) rfl ⟨rfl, ((hbw.setCell (p := ⟨w.heap.size + 1 + 1, 0, none⟩) (by dsimp only; omega) _).setCell (p := ⟨w.heap.size + 1 + 1, 1, none⟩) (by dsimp only; omega) _)⟩

set_option maxRecDepth 100000 in
set_option maxHeartbeats 3200000 in
theorem refFactor_ok (la : Option Addr) (ln lc : Nat) (ra : Option Addr) (rn rc : Nat) (ml mh il ih al ah : Int) (lo hi : Int) (w : World) (hm : ml ≤ mh) (hb : lo ≤ hi) (hM : ∀ W, Below w.heap.size w W → Calls Try.prog 18 #[.agg #[.slice la ln lc, .slice ra rn rc, .int .i64 ml, .int .i64 mh, .int .i64 il, .int .i64 ih, .int .i64 al, .int .i64 ah]] W fun e w' => e = .returned (.int .i64 0) ∧ Below W.heap.size W w') : Calls Try.prog 31 #[.agg #[.slice la ln lc, .slice ra rn rc, .int .i64 ml, .int .i64 mh, .int .i64 il, .int .i64 ih, .int .i64 al, .int .i64 ah], .agg #[.int .i64 lo, .int .i64 hi]] w fun e w' => e = .returned (.tuple #[.agg #[.int .i64 (facR ml mh il ih al ah lo hi).1, .int .i64 (facR ml mh il ih al ah lo hi).2], .int .i64 0]) ∧ Below w.heap.size w w' := by
  have HM := Lib.hid hM
  have d : decide (hi < lo) = false := decide_eq_false (by omega)
  have HF := Lib.hid (fun W => reffactor_any la ln lc ra rn rc ml mh il ih al ah lo hi W hm hb)
  clear hM hb hm
  generalize facR ml mh il ih al ah lo hi = fr at *
  obtain ⟨A, hA, bA, zA, m0, m1, m2, m3, m4, m5, m6, m7, b0, b1, r0, r1, g0, g1⟩ := fac_boxes36 w la ln lc ra rn rc ml mh il ih al ah lo hi
  have R := Lib.hid (show FW w A la ln lc ra rn rc ml mh il ih al ah lo hi from ⟨m0, m1, m2, m3, m4, m5, m6, m7, b0, b1, r0, r1, g0, g1, by omega, bA⟩)
  clear m0 m1 m2 m3 m4 m5 m6 m7 b0 b1 r0 r1 g0 g1 zA
  go_enter Try.func31, Try.ntmps31
  go_wp2_with fail
  rw [← hA]
  clear hA
  refine (HM.out _ bA).mono ?_; rintro e X ⟨rfl, hb1⟩
  have R := Lib.hid (R.out.keep hb1 R.out.z)
  clear hb1 bA
  obtain ⟨m0, m1, m2, m3, m4, m5, m6, m7, b0, b1, r0, r1, g0, g1, hz, hbw⟩ := R.out
  go_wp2_with fail
  refine (HF.out _).mono ?_; rintro e Y ⟨rfl, hb1⟩
  have R := Lib.hid (R.out.keep hb1 R.out.z)
  clear hb1 m0 m1 m2 m3 m4 m5 m6 m7 b0 b1 r0 r1 g0 g1 hz hbw
  obtain ⟨m0, m1, m2, m3, m4, m5, m6, m7, b0, b1, r0, r1, g0, g1, hz, hbw⟩ := R.out
  go_wp2
  exact bodyPost_ret (v := .tuple #[.agg #[.int .i64 fr.1, .int .i64 fr.2], .int .i64 0]) (by simp [results, Try.results31, go_sem, set_same (i := 0) (v := .int .i64 fr.1) r0, set_other (i := 1) (j := 0) (v := .int .i64 fr.2) (by decide) (set_same (i := 0) (v := .int .i64 fr.1) r0), set_same (i := 1) (v := .int .i64 fr.2) (set_other (i := 0) (j := 1) (v := .int .i64 fr.1) (by decide) r1)]) rfl ⟨rfl, ((hbw.setCell (p := ⟨w.heap.size + 1 + 1, 0, none⟩) (by dsimp only; omega) _).setCell (p := ⟨w.heap.size + 1 + 1, 1, none⟩) (by dsimp only; omega) _)⟩

theorem refFactor_any (la : Option Addr) (ln lc : Nat) (ra : Option Addr) (rn rc : Nat) (ml mh il ih al ah : Int) (lz rz : Nat → Int × Int) (lo hi : Int) (w : World) (sl : SliceIs w la ln lc lz) (sr : SliceIs w ra rn rc rz) :
    Calls Try.prog 31 #[.agg #[.slice la ln lc, .slice ra rn rc, .int .i64 ml, .int .i64 mh, .int .i64 il, .int .i64 ih, .int .i64 al, .int .i64 ah], .agg #[.int .i64 lo, .int .i64 hi]] w fun e w' => e = .returned (.tuple #[.agg #[.int .i64 (faL (faE ln lz rn rz ml mh il ih al ah lo hi) (facR ml mh il ih al ah lo hi)), .int .i64 (faH (faE ln lz rn rz ml mh il ih al ah lo hi) (facR ml mh il ih al ah lo hi))], .int .i64 (faE ln lz rn rz ml mh il ih al ah lo hi)]) ∧ Below w.heap.size w w' := by
  have hM := fun W (hW : Below w.heap.size w W) => refCheckModel_any la ln lc ra rn rc ml mh il ih al ah lz rz W (sl.keep hW) (sr.keep hW)
  by_cases h : mdE ln lz rn rz ml mh il ih al ah = 0
  · have hm := mdE_melt h
    rw [h] at hM
    by_cases hb : lo ≤ hi
    · have e : faE ln lz rn rz ml mh il ih al ah lo hi = 0 := by unfold faE; rw [if_pos h, if_pos hb]
      unfold faL faH
      rw [e, if_pos rfl, if_pos rfl]
      exact refFactor_ok la ln lc ra rn rc ml mh il ih al ah lo hi w hm hb hM
    · have e : faE ln lz rn rz ml mh il ih al ah lo hi = 3 := by unfold faE; rw [if_pos h, if_neg hb]
      unfold faL faH
      rw [e, if_neg (by decide), if_neg (by decide)]
      exact refFactor_out la ln lc ra rn rc ml mh il ih al ah lo hi w hb hM
  · have e : faE ln lz rn rz ml mh il ih al ah lo hi = mdE ln lz rn rz ml mh il ih al ah := by unfold faE; rw [if_neg h]
    unfold faL faH
    rw [e, if_neg h, if_neg h]
    exact refFactor_bad la ln lc ra rn rc ml mh il ih al ah lo hi _ w h hM

end Go.Proofs.Ytdmbkhmhaininaa
