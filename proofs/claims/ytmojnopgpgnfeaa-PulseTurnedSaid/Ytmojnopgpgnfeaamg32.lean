/-
  Means of numbers that go together, with lesser slacks: plain mathematics.
-/
import Derived.Test.Ytmojnopgpgnfeaamg31
import Derived.Test.Ytmojnopgpgnfeaamg15
namespace Go.Proofs.Ytmojnopgpgnfeaa
set_option linter.unusedVariables false

theorem span_turn {l h L H : Int} (h1 : L ≤ l) (h2 : l ≤ h) (h3 : h ≤ H) (h4 : H - L ≤ 65536) : turnP (unw l) (unw l + h - l) (unw L) (unw L + H - L) := by
  obtain ⟨k, k1, k2, k3⟩ := unw_move (x := l) (y := L) (by omega)
  have e : unw l + k * 65536 - unw L = l - L := k3
  exact ⟨k, by omega, by omega, by omega, by omega, by omega⟩
theorem up_le {a n q : Int} (hn : 0 < n) (h : a ≤ q * n) : -(-a / n) ≤ q := by
  have : -q ≤ -a / n := by
    refine Int.le_ediv_of_mul_le hn ?_
    have e : -q * n = -(q * n) := Int.neg_mul ..
    omega
  omega
theorem mean_width {S sl M n : Int} (hn : 0 < n) (h0 : 0 ≤ sl) (h1 : sl ≤ M * n) : (S - sl) / n ≤ -(-(S + sl) / n) ∧ -(-(S + sl) / n) - (S - sl) / n ≤ 2 * M + 1 := by
  have q1 := down_up (a := S - sl) hn
  have q2 : -(-(S - sl) / n) ≤ -(-(S + sl) / n) := by
    have : -(S + sl) / n ≤ -(S - sl) / n := Int.ediv_le_ediv hn (by omega)
    omega
  have q3 := Int.lt_ediv_add_one_mul_self (S - sl) hn
  have q4 : -(-(S + sl) / n) ≤ (S - sl) / n + 1 + 2 * M := by
    refine up_le hn ?_
    have e : ((S - sl) / n + 1 + 2 * M) * n = ((S - sl) / n + 1) * n + 2 * (M * n) := by rw [Int.add_mul, Int.mul_assoc]
    omega
  omega
theorem mean_turnB {b sl : Int} {xs : List Int} (h0 : 0 ≤ sl) (h1 : sl ≤ 8192 * xs.length) : turnB (meanLo b xs sl) (meanHi b xs sl) = true := by
  unfold turnB
  rw [Bool.and_eq_true, inB_true, inB_true]
  unfold meanLo meanHi
  by_cases h : xs = []
  · rw [if_pos h, if_pos h]; omega
  · have hl : 0 < (xs.length : Int) := by have := List.length_pos_iff.2 h; omega
    rw [if_neg h, if_neg h]
    have q := mean_width (S := sumT b xs xs.length) hl h0 h1
    have u : -32768 ≤ unw ((sumT b xs xs.length - sl) / xs.length) ∧ unw ((sumT b xs xs.length - sl) / xs.length) ≤ 32767 := by unfold unw; omega
    omega
theorem mean_less {b sl sl' : Int} {xs : List Int} (h0 : 0 ≤ sl') (h2 : sl' ≤ sl) (h1 : sl ≤ 8192 * xs.length) : turnP (meanLo b xs sl') (meanHi b xs sl') (meanLo b xs sl) (meanHi b xs sl) := by
  unfold meanLo meanHi
  by_cases h : xs = []
  · rw [if_pos h, if_pos h, if_pos h, if_pos h]; exact ⟨0, by decide, by decide, by decide, by decide, by decide⟩
  · have hl : 0 < (xs.length : Int) := by have := List.length_pos_iff.2 h; omega
    rw [if_neg h, if_neg h, if_neg h, if_neg h]
    have q := mean_width (S := sumT b xs xs.length) hl (show 0 ≤ sl by omega) h1
    have q2 := mean_width (S := sumT b xs xs.length) (M := 8192) hl h0 (by omega)
    have q3 : (sumT b xs xs.length - sl) / xs.length ≤ (sumT b xs xs.length - sl') / xs.length := Int.ediv_le_ediv hl (by omega)
    have q4 : -(sumT b xs xs.length + sl) / xs.length ≤ -(sumT b xs xs.length + sl') / xs.length := Int.ediv_le_ediv hl (by omega)
    exact span_turn q3 q2.1 (by omega) (by omega)
theorem slk_le {kd ph : Int} {xs : List Int} (hp : 0 ≤ ph ∧ ph ≤ 4096) : 0 ≤ slk kd ph xs ∧ (xs ≠ [] → slk kd ph xs ≤ 8192 * xs.length) := by
  unfold slk
  have p1 := Int.mul_le_mul_of_nonneg_right (show 2 * ph ≤ 8192 by omega) (show 0 ≤ (xs.length : Int) by omega)
  have p2 := Int.mul_nonneg (show 0 ≤ 2 * ph by omega) (show 0 ≤ (xs.length : Int) by omega)
  refine ⟨by split <;> omega, fun h => ?_⟩
  have hl : 0 < (xs.length : Int) := by have := List.length_pos_iff.2 h; omega
  split <;> omega
theorem mean_turnB' {b kd ph : Int} {xs : List Int} (hp : 0 ≤ ph ∧ ph ≤ 4096) : turnB (meanLo b xs (slk kd ph xs)) (meanHi b xs (slk kd ph xs)) = true := by
  by_cases h : xs = []
  · unfold meanLo meanHi
    rw [if_pos h, if_pos h]; rfl
  · exact mean_turnB (slk_le hp).1 ((slk_le hp).2 h)
theorem slk_mono {kd ph ph' : Int} {xs : List Int} (h : ph' ≤ ph) : slk kd ph' xs ≤ slk kd ph xs := by
  unfold slk
  have p1 := Int.mul_le_mul_of_nonneg_right (show 2 * ph' ≤ 2 * ph by omega) (show 0 ≤ (xs.length : Int) by omega)
  split <;> omega
theorem mean_less' {b kd ph ph' : Int} {xs : List Int} (h0 : 0 ≤ ph') (h : ph' ≤ ph) (hp : ph ≤ 4096) : turnP (meanLo b xs (slk kd ph' xs)) (meanHi b xs (slk kd ph' xs)) (meanLo b xs (slk kd ph xs)) (meanHi b xs (slk kd ph xs)) := by
  by_cases hx : xs = []
  · unfold meanLo meanHi
    rw [if_pos hx, if_pos hx, if_pos hx, if_pos hx]; exact ⟨0, by decide, by decide, by decide, by decide, by decide⟩
  · exact mean_less (slk_le ⟨h0, by omega⟩).1 (slk_mono h) ((slk_le ⟨by omega, hp⟩).2 hx)
theorem trn_le {ph c : Int} {xs : List Int} (hp : 0 ≤ ph ∧ ph ≤ 4096) (hc : (xs.length : Int) = c) : 0 ≤ 2 * ph * c ∧ 2 * ph * c ≤ 8192 * xs.length := by
  rw [← hc]
  exact ⟨Int.mul_nonneg (by omega) (by omega), Int.mul_le_mul_of_nonneg_right (by omega) (by omega)⟩
theorem means_of {kd ph c : Int} {x0 x1 x2 : List Int} (hp : 0 ≤ ph ∧ ph ≤ 4096) (hc : (x2.length : Int) = c) : Means kd ph c x0 x1 x2 :=
  ⟨mean_turnB' hp, mean_turnB' hp, mean_turnB (trn_le hp hc).1 (trn_le hp hc).2⟩
theorem phW_less {kd ph ph' c : Int} {x0 x1 x2 : List Int} (h0 : 0 ≤ ph') (h : ph' ≤ ph) (hp : ph ≤ 4096) (hc : (x2.length : Int) = c) (ht : togB ph x0 x1 x2 = true) : PhW kd ph c x0 x1 x2 ph' x0 x1 x2 := by
  rw [togB_true] at ht
  refine ⟨togB_true.2 (by omega), mean_less' h0 h hp, mean_less' h0 h hp, mean_less (trn_le ⟨h0, by omega⟩ hc).1 ?_ (trn_le ⟨by omega, hp⟩ hc).2⟩
  rw [← hc]
  exact Int.mul_le_mul_of_nonneg_right (by omega) (by omega)

/-- the amounts of samples -/
theorem amt_of {lv c n0 n1 : Int} {n : Nat} {zs : Nat → Smp} (hl : 0 ≤ lv ∧ lv ≤ 64) (hc : 1 ≤ c) (hn : (n : Int) = c) (hn2 : n ≤ 64) (hz : LevOk n zs) (h0 : 0 ≤ n0 ∧ n0 ≤ n1) :
    Amt (mx (sumF (sqH zs (-lv)) n / c - n1)) (mx (sumF (sqV zs (-lv)) n / c - n1)) (mx (-(-sumF (sqH zs lv) n / c) - n0)) (mx (-(-sumF (sqV zs lv) n / c) - n0)) (sumF (sqH zs (-lv)) n) (sumF (sqV zs (-lv)) n) (sumF (prd zs (-lv)) n) (sumF (sqH zs lv) n) (sumF (sqV zs lv) n) (sumF (prd zs lv) n) := by
  have s := Sums.of (zs := zs) (n := n) hl.1
  have p1 := pow_nest (S := sumF (sqH zs (-lv)) n) (T := sumF (sqH zs lv) n) (S' := sumF (sqH zs (-lv)) n) (T' := sumF (sqH zs lv) n) (n0 := n0) (n1 := n1) (n0' := n0) (n1' := n1) hc s.a.1 (Int.le_refl _) s.a.2 (Int.le_refl _) (Int.le_refl _) h0.2 (Int.le_refl _)
  have p2 := pow_nest (S := sumF (sqV zs (-lv)) n) (T := sumF (sqV zs lv) n) (S' := sumF (sqV zs (-lv)) n) (T' := sumF (sqV zs lv) n) (n0 := n0) (n1 := n1) (n0' := n0) (n1' := n1) hc s.b.1 (Int.le_refl _) s.b.2 (Int.le_refl _) (Int.le_refl _) h0.2 (Int.le_refl _)
  refine ⟨⟨p1.1, p1.2.2.1, ?_⟩, ⟨p2.1, p2.2.2.1⟩, s⟩
  have b := sumF_bd (f := sqH zs lv) (m := 1181569) (k := n) fun i hi => sq_bd (mg_bd (by omega) (hz i hi).2.1) (mg_bd (by omega) (hz i hi).2.1)
  have b2 : -(-sumF (sqH zs lv) n / c) ≤ 1181569 := up_le (by omega) (by rw [← hn]; exact b.2)
  unfold mx; split <;> omega

end Go.Proofs.Ytmojnopgpgnfeaa

namespace Go.Proofs.Ytmojnopgpgnfeaa
open Go.RowKit
set_option linter.unusedVariables false
set_option linter.unusedSimpArgs false

/-- the error of a train, or else that of a receiver -/
def ckC (l kd f s c lv ph n0 n1 : Int) : Int := if trainC l kd f s c = 0 then recvC lv ph n0 n1 else trainC l kd f s c
theorem ckC_0 {l kd f s c lv ph n0 n1 : Int} (h : ckC l kd f s c lv ph n0 n1 = 0) : trainC l kd f s c = 0 ∧ recvC lv ph n0 n1 = 0 := by
  unfold ckC at h
  split at h
  · exact ⟨by assumption, h⟩
  · exact absurd h (by assumption)

set_option maxRecDepth 100000 in
set_option maxHeartbeats 8000000 in
theorem Hear_err1 (l kd f s c lv ph n0 n1 : Int) (a : Option Addr) (n cap : Nat) (e0 : Int) (w : World) (h0 : ckC l kd f s c lv ph n0 n1 = e0) (hne : e0 ≠ 0) :
    Calls Try.prog 27 #[.agg #[.int .i64 l, .int .i64 kd, .int .i64 f, .int .i64 s, .int .i64 c], .agg #[.int .i64 lv, .int .i64 ph, .int .i64 n0, .int .i64 n1], .slice a n cap] w fun e' w' => e' = .returned (.tuple #[.agg #[.int .i64 0, .int .i64 0, .int .i64 0, .int .i64 0, .int .i64 0, .int .i64 0, .int .i64 0, .int .i64 0, .int .i64 0, .int .i64 0, .int .i64 0, .int .i64 0, .int .i64 0, .int .i64 0], .int .i64 e0]) ∧ Below w.heap.size w w' := by
  have H1 : Hid (∀ W : World, Calls Try.prog 61 #[.agg #[.int .i64 l, .int .i64 kd, .int .i64 f, .int .i64 s, .int .i64 c], .agg #[.int .i64 lv, .int .i64 ph, .int .i64 n0, .int .i64 n1]] W fun e w' => e = .returned (.int .i64 e0) ∧ Below W.heap.size W w') := Lib.hid fun W => by
    have h := check_any l kd f s c lv ph n0 n1 W
    rw [← h0]; exact h
  have e1 : (e0 == 0) = false := beq_eq_false_iff_ne.2 hne
  have e2 : (e0 != 0) = true := by simpa using hne
  clear h0 hne
  have HP := Lib.hid (HrP.new w l kd f s c lv ph n0 n1)
  go_enter Try.func27, Try.ntmps27
  go_wp2_with fail
  obtain ⟨U, hU⟩ : ∃ U, U = ((w.alloc (.cells #[.int .i64 l, .int .i64 kd, .int .i64 f, .int .i64 s, .int .i64 c] 23)).alloc (.cells #[.int .i64 lv, .int .i64 ph, .int .i64 n0, .int .i64 n1] 27)).alloc (.cells #[.int .i64 0, .int .i64 0, .int .i64 0, .int .i64 0, .int .i64 0, .int .i64 0, .int .i64 0, .int .i64 0, .int .i64 0, .int .i64 0, .int .i64 0, .int .i64 0, .int .i64 0, .int .i64 0] 30) := ⟨_, rfl⟩
  rw [← hU] at HP ⊢
  clear hU
  refine (H1.out _).mono ?_; rintro e' X1 ⟨rfl, hb1⟩
  have P1 := Lib.hid (HP.out.keep hb1 HP.out.z)
  clear hb1 HP
  obtain ⟨t0, t1, t2, t3, t4, r0, r1, r2, r3, oo, hzz, hbw⟩ := P1.out
  have HO := Lib.hid oo
  have y2 : w.heap.size + 1 + 1 < X1.heap.size := by omega
  have oc0 := HO.out.c 0 (by decide)
  have of0 := HO.out.f 0 (by decide)
  have oc1 := HO.out.c 1 (by decide)
  have of1 := HO.out.f 1 (by decide)
  have oc2 := HO.out.c 2 (by decide)
  have of2 := HO.out.f 2 (by decide)
  have oc3 := HO.out.c 3 (by decide)
  have of3 := HO.out.f 3 (by decide)
  have oc4 := HO.out.c 4 (by decide)
  have of4 := HO.out.f 4 (by decide)
  have oc5 := HO.out.c 5 (by decide)
  have of5 := HO.out.f 5 (by decide)
  have oc6 := HO.out.c 6 (by decide)
  have of6 := HO.out.f 6 (by decide)
  have oc7 := HO.out.c 7 (by decide)
  have of7 := HO.out.f 7 (by decide)
  have oc8 := HO.out.c 8 (by decide)
  have of8 := HO.out.f 8 (by decide)
  have oc9 := HO.out.c 9 (by decide)
  have of9 := HO.out.f 9 (by decide)
  have oc10 := HO.out.c 10 (by decide)
  have of10 := HO.out.f 10 (by decide)
  have oc11 := HO.out.c 11 (by decide)
  have of11 := HO.out.f 11 (by decide)
  have oc12 := HO.out.c 12 (by decide)
  have of12 := HO.out.f 12 (by decide)
  have oc13 := HO.out.c 13 (by decide)
  have of13 := HO.out.f 13 (by decide)
  clear oo P1
  go_wp2
  obtain ⟨Z, hZ⟩ : ∃ Z, Z = ((((((((((((((X1.setCell ⟨w.heap.size + 1 + 1, 0, none⟩ (.int .i64 (0))).setCell ⟨w.heap.size + 1 + 1, 1, none⟩ (.int .i64 (0))).setCell ⟨w.heap.size + 1 + 1, 2, none⟩ (.int .i64 (0))).setCell ⟨w.heap.size + 1 + 1, 3, none⟩ (.int .i64 (0))).setCell ⟨w.heap.size + 1 + 1, 4, none⟩ (.int .i64 (0))).setCell ⟨w.heap.size + 1 + 1, 5, none⟩ (.int .i64 (0))).setCell ⟨w.heap.size + 1 + 1, 6, none⟩ (.int .i64 (0))).setCell ⟨w.heap.size + 1 + 1, 7, none⟩ (.int .i64 (0))).setCell ⟨w.heap.size + 1 + 1, 8, none⟩ (.int .i64 (0))).setCell ⟨w.heap.size + 1 + 1, 9, none⟩ (.int .i64 (0))).setCell ⟨w.heap.size + 1 + 1, 10, none⟩ (.int .i64 (0))).setCell ⟨w.heap.size + 1 + 1, 11, none⟩ (.int .i64 (0))).setCell ⟨w.heap.size + 1 + 1, 12, none⟩ (.int .i64 (0))).setCell ⟨w.heap.size + 1 + 1, 13, none⟩ (.int .i64 (0))) := ⟨_, rfl⟩
  rw [← hZ]
  have EZ := ((((((((((((((HO.out.set (k := 0) (v := 0)).set (k := 1) (v := 0)).set (k := 2) (v := 0)).set (k := 3) (v := 0)).set (k := 4) (v := 0)).set (k := 5) (v := 0)).set (k := 6) (v := 0)).set (k := 7) (v := 0)).set (k := 8) (v := 0)).set (k := 9) (v := 0)).set (k := 10) (v := 0)).set (k := 11) (v := 0)).set (k := 12) (v := 0)).set (k := 13) (v := 0))
  rw [← hZ] at EZ
  have bZ : Below w.heap.size w Z := by rw [hZ]; exact ((((((((((((((hbw.setCell (p := ⟨w.heap.size + 1 + 1, 0, none⟩) (by dsimp only; omega) _).setCell (p := ⟨w.heap.size + 1 + 1, 1, none⟩) (by dsimp only; omega) _).setCell (p := ⟨w.heap.size + 1 + 1, 2, none⟩) (by dsimp only; omega) _).setCell (p := ⟨w.heap.size + 1 + 1, 3, none⟩) (by dsimp only; omega) _).setCell (p := ⟨w.heap.size + 1 + 1, 4, none⟩) (by dsimp only; omega) _).setCell (p := ⟨w.heap.size + 1 + 1, 5, none⟩) (by dsimp only; omega) _).setCell (p := ⟨w.heap.size + 1 + 1, 6, none⟩) (by dsimp only; omega) _).setCell (p := ⟨w.heap.size + 1 + 1, 7, none⟩) (by dsimp only; omega) _).setCell (p := ⟨w.heap.size + 1 + 1, 8, none⟩) (by dsimp only; omega) _).setCell (p := ⟨w.heap.size + 1 + 1, 9, none⟩) (by dsimp only; omega) _).setCell (p := ⟨w.heap.size + 1 + 1, 10, none⟩) (by dsimp only; omega) _).setCell (p := ⟨w.heap.size + 1 + 1, 11, none⟩) (by dsimp only; omega) _).setCell (p := ⟨w.heap.size + 1 + 1, 12, none⟩) (by dsimp only; omega) _).setCell (p := ⟨w.heap.size + 1 + 1, 13, none⟩) (by dsimp only; omega) _)
  clear hZ
  have h0 : Z.cell? ⟨w.heap.size + 1 + 1, 0, none⟩ = some (.int .i64 (0)) := EZ.c 0 (by decide)
  have h1 : Z.cell? ⟨w.heap.size + 1 + 1, 1, none⟩ = some (.int .i64 (0)) := EZ.c 1 (by decide)
  have h2 : Z.cell? ⟨w.heap.size + 1 + 1, 2, none⟩ = some (.int .i64 (0)) := EZ.c 2 (by decide)
  have h3 : Z.cell? ⟨w.heap.size + 1 + 1, 3, none⟩ = some (.int .i64 (0)) := EZ.c 3 (by decide)
  have h4 : Z.cell? ⟨w.heap.size + 1 + 1, 4, none⟩ = some (.int .i64 (0)) := EZ.c 4 (by decide)
  have h5 : Z.cell? ⟨w.heap.size + 1 + 1, 5, none⟩ = some (.int .i64 (0)) := EZ.c 5 (by decide)
  have h6 : Z.cell? ⟨w.heap.size + 1 + 1, 6, none⟩ = some (.int .i64 (0)) := EZ.c 6 (by decide)
  have h7 : Z.cell? ⟨w.heap.size + 1 + 1, 7, none⟩ = some (.int .i64 (0)) := EZ.c 7 (by decide)
  have h8 : Z.cell? ⟨w.heap.size + 1 + 1, 8, none⟩ = some (.int .i64 (0)) := EZ.c 8 (by decide)
  have h9 : Z.cell? ⟨w.heap.size + 1 + 1, 9, none⟩ = some (.int .i64 (0)) := EZ.c 9 (by decide)
  have h10 : Z.cell? ⟨w.heap.size + 1 + 1, 10, none⟩ = some (.int .i64 (0)) := EZ.c 10 (by decide)
  have h11 : Z.cell? ⟨w.heap.size + 1 + 1, 11, none⟩ = some (.int .i64 (0)) := EZ.c 11 (by decide)
  have h12 : Z.cell? ⟨w.heap.size + 1 + 1, 12, none⟩ = some (.int .i64 (0)) := EZ.c 12 (by decide)
  have h13 : Z.cell? ⟨w.heap.size + 1 + 1, 13, none⟩ = some (.int .i64 (0)) := EZ.c 13 (by decide)
  clear EZ
  exact bodyPost_ret (v := .tuple #[.agg #[.int .i64 (0), .int .i64 (0), .int .i64 (0), .int .i64 (0), .int .i64 (0), .int .i64 (0), .int .i64 (0), .int .i64 (0), .int .i64 (0), .int .i64 (0), .int .i64 (0), .int .i64 (0), .int .i64 (0), .int .i64 (0)], .int .i64 e0]) (by simp [results, Try.results27, go_sem, h0, h1, h2, h3, h4, h5, h6, h7, h8, h9, h10, h11, h12, h13]) rfl ⟨rfl, bZ⟩

set_option maxRecDepth 100000 in
set_option maxHeartbeats 8000000 in
theorem Hear_err2 (l kd f s c lv ph n0 n1 : Int) (a : Option Addr) (n cap : Nat) (e0 : Int) (w : World) (h0 : ckC l kd f s c lv ph n0 n1 = 0) (hne : e0 ≠ 0) (H2 : Hid (∀ W : World, Below w.heap.size w W → Calls Try.prog 62 #[.agg #[.int .i64 l, .int .i64 kd, .int .i64 f, .int .i64 s, .int .i64 c], .slice a n cap] W fun e w' => e = .returned (.int .i64 e0) ∧ Below W.heap.size W w')) :
    Calls Try.prog 27 #[.agg #[.int .i64 l, .int .i64 kd, .int .i64 f, .int .i64 s, .int .i64 c], .agg #[.int .i64 lv, .int .i64 ph, .int .i64 n0, .int .i64 n1], .slice a n cap] w fun e' w' => e' = .returned (.tuple #[.agg #[.int .i64 0, .int .i64 0, .int .i64 0, .int .i64 0, .int .i64 0, .int .i64 0, .int .i64 0, .int .i64 0, .int .i64 0, .int .i64 0, .int .i64 0, .int .i64 0, .int .i64 0, .int .i64 0], .int .i64 e0]) ∧ Below w.heap.size w w' := by
  have H1 : Hid (∀ W : World, Calls Try.prog 61 #[.agg #[.int .i64 l, .int .i64 kd, .int .i64 f, .int .i64 s, .int .i64 c], .agg #[.int .i64 lv, .int .i64 ph, .int .i64 n0, .int .i64 n1]] W fun e w' => e = .returned (.int .i64 0) ∧ Below W.heap.size W w') := Lib.hid fun W => by
    have h := check_any l kd f s c lv ph n0 n1 W
    rw [← h0]; exact h
  have e1 : (e0 == 0) = false := beq_eq_false_iff_ne.2 hne
  have e2 : (e0 != 0) = true := by simpa using hne
  clear h0 hne
  have HP := Lib.hid (HrP.new w l kd f s c lv ph n0 n1)
  go_enter Try.func27, Try.ntmps27
  go_wp2_with fail
  obtain ⟨U, hU⟩ : ∃ U, U = ((w.alloc (.cells #[.int .i64 l, .int .i64 kd, .int .i64 f, .int .i64 s, .int .i64 c] 23)).alloc (.cells #[.int .i64 lv, .int .i64 ph, .int .i64 n0, .int .i64 n1] 27)).alloc (.cells #[.int .i64 0, .int .i64 0, .int .i64 0, .int .i64 0, .int .i64 0, .int .i64 0, .int .i64 0, .int .i64 0, .int .i64 0, .int .i64 0, .int .i64 0, .int .i64 0, .int .i64 0, .int .i64 0] 30) := ⟨_, rfl⟩
  rw [← hU] at HP ⊢
  clear hU
  refine (H1.out _).mono ?_; rintro e' X1 ⟨rfl, hb1⟩
  have P1 := Lib.hid (HP.out.keep hb1 HP.out.z)
  clear hb1 HP
  obtain ⟨t0, t1, t2, t3, t4, r0, r1, r2, r3, oo, hzz, hbw⟩ := P1.out
  go_wp2_with fail
  refine (H2.out _ hbw).mono ?_; rintro e' X2 ⟨rfl, hb2⟩
  have P2 := Lib.hid (P1.out.keep hb2 P1.out.z)
  clear hb2 P1 t0 t1 t2 t3 t4 r0 r1 r2 r3 oo hzz hbw
  obtain ⟨t0, t1, t2, t3, t4, r0, r1, r2, r3, oo, hzz, hbw⟩ := P2.out
  have HO := Lib.hid oo
  have y2 : w.heap.size + 1 + 1 < X2.heap.size := by omega
  have oc0 := HO.out.c 0 (by decide)
  have of0 := HO.out.f 0 (by decide)
  have oc1 := HO.out.c 1 (by decide)
  have of1 := HO.out.f 1 (by decide)
  have oc2 := HO.out.c 2 (by decide)
  have of2 := HO.out.f 2 (by decide)
  have oc3 := HO.out.c 3 (by decide)
  have of3 := HO.out.f 3 (by decide)
  have oc4 := HO.out.c 4 (by decide)
  have of4 := HO.out.f 4 (by decide)
  have oc5 := HO.out.c 5 (by decide)
  have of5 := HO.out.f 5 (by decide)
  have oc6 := HO.out.c 6 (by decide)
  have of6 := HO.out.f 6 (by decide)
  have oc7 := HO.out.c 7 (by decide)
  have of7 := HO.out.f 7 (by decide)
  have oc8 := HO.out.c 8 (by decide)
  have of8 := HO.out.f 8 (by decide)
  have oc9 := HO.out.c 9 (by decide)
  have of9 := HO.out.f 9 (by decide)
  have oc10 := HO.out.c 10 (by decide)
  have of10 := HO.out.f 10 (by decide)
  have oc11 := HO.out.c 11 (by decide)
  have of11 := HO.out.f 11 (by decide)
  have oc12 := HO.out.c 12 (by decide)
  have of12 := HO.out.f 12 (by decide)
  have oc13 := HO.out.c 13 (by decide)
  have of13 := HO.out.f 13 (by decide)
  clear oo P2
  go_wp2
  obtain ⟨Z, hZ⟩ : ∃ Z, Z = ((((((((((((((X2.setCell ⟨w.heap.size + 1 + 1, 0, none⟩ (.int .i64 (0))).setCell ⟨w.heap.size + 1 + 1, 1, none⟩ (.int .i64 (0))).setCell ⟨w.heap.size + 1 + 1, 2, none⟩ (.int .i64 (0))).setCell ⟨w.heap.size + 1 + 1, 3, none⟩ (.int .i64 (0))).setCell ⟨w.heap.size + 1 + 1, 4, none⟩ (.int .i64 (0))).setCell ⟨w.heap.size + 1 + 1, 5, none⟩ (.int .i64 (0))).setCell ⟨w.heap.size + 1 + 1, 6, none⟩ (.int .i64 (0))).setCell ⟨w.heap.size + 1 + 1, 7, none⟩ (.int .i64 (0))).setCell ⟨w.heap.size + 1 + 1, 8, none⟩ (.int .i64 (0))).setCell ⟨w.heap.size + 1 + 1, 9, none⟩ (.int .i64 (0))).setCell ⟨w.heap.size + 1 + 1, 10, none⟩ (.int .i64 (0))).setCell ⟨w.heap.size + 1 + 1, 11, none⟩ (.int .i64 (0))).setCell ⟨w.heap.size + 1 + 1, 12, none⟩ (.int .i64 (0))).setCell ⟨w.heap.size + 1 + 1, 13, none⟩ (.int .i64 (0))) := ⟨_, rfl⟩
  rw [← hZ]
  have EZ := ((((((((((((((HO.out.set (k := 0) (v := 0)).set (k := 1) (v := 0)).set (k := 2) (v := 0)).set (k := 3) (v := 0)).set (k := 4) (v := 0)).set (k := 5) (v := 0)).set (k := 6) (v := 0)).set (k := 7) (v := 0)).set (k := 8) (v := 0)).set (k := 9) (v := 0)).set (k := 10) (v := 0)).set (k := 11) (v := 0)).set (k := 12) (v := 0)).set (k := 13) (v := 0))
  rw [← hZ] at EZ
  have bZ : Below w.heap.size w Z := by rw [hZ]; exact ((((((((((((((hbw.setCell (p := ⟨w.heap.size + 1 + 1, 0, none⟩) (by dsimp only; omega) _).setCell (p := ⟨w.heap.size + 1 + 1, 1, none⟩) (by dsimp only; omega) _).setCell (p := ⟨w.heap.size + 1 + 1, 2, none⟩) (by dsimp only; omega) _).setCell (p := ⟨w.heap.size + 1 + 1, 3, none⟩) (by dsimp only; omega) _).setCell (p := ⟨w.heap.size + 1 + 1, 4, none⟩) (by dsimp only; omega) _).setCell (p := ⟨w.heap.size + 1 + 1, 5, none⟩) (by dsimp only; omega) _).setCell (p := ⟨w.heap.size + 1 + 1, 6, none⟩) (by dsimp only; omega) _).setCell (p := ⟨w.heap.size + 1 + 1, 7, none⟩) (by dsimp only; omega) _).setCell (p := ⟨w.heap.size + 1 + 1, 8, none⟩) (by dsimp only; omega) _).setCell (p := ⟨w.heap.size + 1 + 1, 9, none⟩) (by dsimp only; omega) _).setCell (p := ⟨w.heap.size + 1 + 1, 10, none⟩) (by dsimp only; omega) _).setCell (p := ⟨w.heap.size + 1 + 1, 11, none⟩) (by dsimp only; omega) _).setCell (p := ⟨w.heap.size + 1 + 1, 12, none⟩) (by dsimp only; omega) _).setCell (p := ⟨w.heap.size + 1 + 1, 13, none⟩) (by dsimp only; omega) _)
  clear hZ
  have h0 : Z.cell? ⟨w.heap.size + 1 + 1, 0, none⟩ = some (.int .i64 (0)) := EZ.c 0 (by decide)
  have h1 : Z.cell? ⟨w.heap.size + 1 + 1, 1, none⟩ = some (.int .i64 (0)) := EZ.c 1 (by decide)
  have h2 : Z.cell? ⟨w.heap.size + 1 + 1, 2, none⟩ = some (.int .i64 (0)) := EZ.c 2 (by decide)
  have h3 : Z.cell? ⟨w.heap.size + 1 + 1, 3, none⟩ = some (.int .i64 (0)) := EZ.c 3 (by decide)
  have h4 : Z.cell? ⟨w.heap.size + 1 + 1, 4, none⟩ = some (.int .i64 (0)) := EZ.c 4 (by decide)
  have h5 : Z.cell? ⟨w.heap.size + 1 + 1, 5, none⟩ = some (.int .i64 (0)) := EZ.c 5 (by decide)
  have h6 : Z.cell? ⟨w.heap.size + 1 + 1, 6, none⟩ = some (.int .i64 (0)) := EZ.c 6 (by decide)
  have h7 : Z.cell? ⟨w.heap.size + 1 + 1, 7, none⟩ = some (.int .i64 (0)) := EZ.c 7 (by decide)
  have h8 : Z.cell? ⟨w.heap.size + 1 + 1, 8, none⟩ = some (.int .i64 (0)) := EZ.c 8 (by decide)
  have h9 : Z.cell? ⟨w.heap.size + 1 + 1, 9, none⟩ = some (.int .i64 (0)) := EZ.c 9 (by decide)
  have h10 : Z.cell? ⟨w.heap.size + 1 + 1, 10, none⟩ = some (.int .i64 (0)) := EZ.c 10 (by decide)
  have h11 : Z.cell? ⟨w.heap.size + 1 + 1, 11, none⟩ = some (.int .i64 (0)) := EZ.c 11 (by decide)
  have h12 : Z.cell? ⟨w.heap.size + 1 + 1, 12, none⟩ = some (.int .i64 (0)) := EZ.c 12 (by decide)
  have h13 : Z.cell? ⟨w.heap.size + 1 + 1, 13, none⟩ = some (.int .i64 (0)) := EZ.c 13 (by decide)
  clear EZ
  exact bodyPost_ret (v := .tuple #[.agg #[.int .i64 (0), .int .i64 (0), .int .i64 (0), .int .i64 (0), .int .i64 (0), .int .i64 (0), .int .i64 (0), .int .i64 (0), .int .i64 (0), .int .i64 (0), .int .i64 (0), .int .i64 (0), .int .i64 (0), .int .i64 (0)], .int .i64 e0]) (by simp [results, Try.results27, go_sem, h0, h1, h2, h3, h4, h5, h6, h7, h8, h9, h10, h11, h12, h13]) rfl ⟨rfl, bZ⟩


/-- samples, in a slice -/
def SmpsIs (w : World) (a : Option Addr) (n : Nat) (zs : Nat → Smp) : Prop := n = 0 ∨ ∃ b off, a = some ⟨b, off, none⟩ ∧ b < w.heap.size ∧ SmpsAt w b off n zs
theorem SmpsIs.keep {W w1 : World} {a : Option Addr} {n : Nat} {zs : Nat → Smp} (h : SmpsIs W a n zs) (hb : Below W.heap.size W w1) : SmpsIs w1 a n zs := by
  rcases h with h | ⟨b, off, h, h1, h2⟩
  · exact .inl h
  · exact .inr ⟨b, off, h, Nat.lt_of_lt_of_le h1 hb.size, h2.keep hb h1⟩
/-- the error of Hear -/
def herE (l kd f s c lv ph n0 n1 : Int) (n : Nat) (zs : Nat → Smp) : Int := if ckC l kd f s c lv ph n0 n1 = 0 then samC zs n c else ckC l kd f s c lv ph n0 n1
/-- the echo that Hear returns -/
def herV (l kd f s c lv ph n0 n1 : Int) (n : Nat) (zs : Nat → Smp) : Nat → Int := if herE l kd f s c lv ph n0 n1 n zs = 0 then hearOf l kd c lv ph n0 n1 n zs else fun _ => 0
theorem herE_0 {l kd f s c lv ph n0 n1 : Int} {n : Nat} {zs : Nat → Smp} (h : herE l kd f s c lv ph n0 n1 n zs = 0) : trainC l kd f s c = 0 ∧ recvC lv ph n0 n1 = 0 ∧ (n : Int) = c ∧ allS zs n = true := by
  unfold herE at h
  split at h
  · rename_i h1
    obtain ⟨h2, h3⟩ := ckC_0 h1
    refine ⟨h2, h3, ?_⟩
    unfold samC at h
    split at h
    · rename_i h4
      split at h
      · rename_i h5; exact ⟨h4, h5⟩
      · omega
    · omega
  · exact absurd h (by assumption)
set_option maxHeartbeats 1000000 in
theorem Hear_any (l kd f s c lv ph n0 n1 : Int) (a : Option Addr) (n cap : Nat) (zs : Nat → Smp) (w : World) (hS : SmpsIs w a n zs) :
    Calls Try.prog 27 #[.agg #[.int .i64 l, .int .i64 kd, .int .i64 f, .int .i64 s, .int .i64 c], .agg #[.int .i64 lv, .int .i64 ph, .int .i64 n0, .int .i64 n1], .slice a n cap] w fun e' w' => e' = .returned (.tuple #[.agg #[.int .i64 ((herV l kd f s c lv ph n0 n1 n zs) 0), .int .i64 ((herV l kd f s c lv ph n0 n1 n zs) 1), .int .i64 ((herV l kd f s c lv ph n0 n1 n zs) 2), .int .i64 ((herV l kd f s c lv ph n0 n1 n zs) 3), .int .i64 ((herV l kd f s c lv ph n0 n1 n zs) 4), .int .i64 ((herV l kd f s c lv ph n0 n1 n zs) 5), .int .i64 ((herV l kd f s c lv ph n0 n1 n zs) 6), .int .i64 ((herV l kd f s c lv ph n0 n1 n zs) 7), .int .i64 ((herV l kd f s c lv ph n0 n1 n zs) 8), .int .i64 ((herV l kd f s c lv ph n0 n1 n zs) 9), .int .i64 ((herV l kd f s c lv ph n0 n1 n zs) 10), .int .i64 ((herV l kd f s c lv ph n0 n1 n zs) 11), .int .i64 ((herV l kd f s c lv ph n0 n1 n zs) 12), .int .i64 ((herV l kd f s c lv ph n0 n1 n zs) 13)], .int .i64 (herE l kd f s c lv ph n0 n1 n zs)]) ∧ Below w.heap.size w w' := by
  by_cases hE : herE l kd f s c lv ph n0 n1 n zs = 0
  · obtain ⟨h1, h2, h3, h4⟩ := herE_0 hE
    have h5 := (train_ok h1).1
    rcases hS with h | ⟨b, off, rfl, hb, hs⟩
    · omega
    · have h := Hear_ok l kd f s c lv ph n0 n1 b off n cap zs w h1 h2 h3 h4 hs hb
      have e : herV l kd f s c lv ph n0 n1 n zs = hearOf l kd c lv ph n0 n1 n zs := by unfold herV; rw [if_pos hE]
      rw [e, hE]; exact h
  · have e : herV l kd f s c lv ph n0 n1 n zs = fun _ => 0 := by unfold herV; rw [if_neg hE]
    rw [e]
    by_cases hc : ckC l kd f s c lv ph n0 n1 = 0
    · have e2 : herE l kd f s c lv ph n0 n1 n zs = samC zs n c := by unfold herE; rw [if_pos hc]
      rw [e2] at hE ⊢
      refine Hear_err2 l kd f s c lv ph n0 n1 a n cap _ w hc hE (Lib.hid fun W hW => ?_)
      unfold samC
      by_cases hn : (n : Int) = c
      · rw [if_pos hn]
        have h5 := (train_ok (ckC_0 hc).1).1
        rcases hS with h | ⟨b, off, rfl, hb, hs⟩
        · omega
        · exact checkSamples_all l kd f s c b off n cap zs W hn (by omega) (hs.keep hW hb) (Nat.lt_of_lt_of_le hb hW.size)
      · rw [if_neg hn]
        exact checkSamples_shape l kd f s c a n cap W hn
    · have e2 : herE l kd f s c lv ph n0 n1 n zs = ckC l kd f s c lv ph n0 n1 := by unfold herE; rw [if_neg hc]
      rw [e2] at hE ⊢
      exact Hear_err1 l kd f s c lv ph n0 n1 a n cap _ w rfl hE

end Go.Proofs.Ytmojnopgpgnfeaa

namespace Go.Proofs.Ytmojnopgpgnfeaa
set_option linter.unusedVariables false

theorem lev_ok {zs : Nat → Smp} {n : Nat} (h : allS zs n = true) : LevOk n zs := fun i hi => by
  have h1 := smpB_true (allS_at h hi)
  omega
theorem sp_hear {wH wV sH sV A1 B1 C1 A2 B2 C2 kd ph c : Int} {x0 x1 x2 : List Int} (h : 0 ≤ wH ∧ wH ≤ sH) : hearE wH wV sH sV A1 B1 C1 A2 B2 C2 kd ph c x0 x1 x2 0 = 1 ∨ (wH ≠ 0 ∧ hearE wH wV sH sV A1 B1 C1 A2 B2 C2 kd ph c x0 x1 x2 7 = mxx (arcW x0) (arcW x1)) := by
  rw [hearE_eq h]
  by_cases h0 : wH = 0
  · rw [if_pos h0]; exact .inl rfl
  · rw [if_neg h0, phG_eq]
    split <;> exact .inr ⟨h0, rfl⟩
theorem better {l kd f s c lv ph n0 n1 lv' ph' n0' n1' : Int} {n : Nat} {zs : Nat → Smp} (ht : trainC l kd f s c = 0) (hr : recvC lv ph n0 n1 = 0) (hn : (n : Int) = c) (ha : allS zs n = true)
    (h1 : 0 ≤ lv' ∧ lv' ≤ lv) (h2 : 0 ≤ ph' ∧ ph' ≤ ph) (h3 : n0 ≤ n0' ∧ n0' ≤ n1' ∧ n1' ≤ n1) :
    recvC lv' ph' n0' n1' = 0 ∧ WithinP (hearOf l kd c lv' ph' n0' n1' n zs) (hearOf l kd c lv ph n0 n1 n zs) ∧ (hearOf l kd c lv ph n0 n1 n zs 0 = 1 ∨ hearOf l kd c lv' ph' n0' n1' n zs 7 = hearOf l kd c lv ph n0 n1 n zs 7) := by
  obtain ⟨⟨t1, t2⟩, _⟩ := train_ok ht
  obtain ⟨r1, r2, r3⟩ := recv_ok hr
  have hz := lev_ok ha
  have hl := trnTo_len zs n
  have hlc : ((trnTo zs n).length : Int) = c := by rw [hl]; exact hn
  have ay := amt_of (zs := zs) (c := c) (n0 := n0) (n1 := n1) r1 (by omega) hn (by omega) hz ⟨by omega, by omega⟩
  have ax := amt_of (zs := zs) (c := c) (n0 := n0') (n1 := n1') (lv := lv') ⟨h1.1, by omega⟩ (by omega) hn (by omega) hz ⟨by omega, by omega⟩
  have m1 : ∀ x, mg (-lv) x ≤ mg (-lv') x := fun x => mx_mono (by omega)
  have m2 : ∀ x, mg lv' x ≤ mg lv x := fun x => mx_mono (by omega)
  have nest : Nest (sumF (sqH zs (-lv)) n) (sumF (sqV zs (-lv)) n) (sumF (prd zs (-lv)) n) (sumF (sqH zs lv) n) (sumF (sqV zs lv) n) (sumF (prd zs lv) n) (sumF (sqH zs (-lv')) n) (sumF (sqV zs (-lv')) n) (sumF (prd zs (-lv')) n) (sumF (sqH zs lv') n) (sumF (sqV zs lv') n) (sumF (prd zs lv') n) :=
    ⟨ax.s, ay.s, ⟨sumF_mono fun i _ => sq_le (mx_nn _) (m1 _), sumF_mono fun i _ => sq_le (mx_nn _) (m2 _)⟩, ⟨sumF_mono fun i _ => sq_le (mx_nn _) (m1 _), sumF_mono fun i _ => sq_le (mx_nn _) (m2 _)⟩,
      ⟨sumF_mono fun i _ => Int.mul_le_mul (m1 _) (m1 _) (mx_nn _) (mx_nn _), sumF_mono fun i _ => Int.mul_le_mul (m2 _) (m2 _) (mx_nn _) (mx_nn _)⟩⟩
  have pH := pow_nest (c := c) (n0 := n0) (n1 := n1) (n0' := n0') (n1' := n1') (by omega) ay.s.a.1 nest.a.1 ax.s.a.2 nest.a.2 h3.1 h3.2.1 h3.2.2
  have pV := pow_nest (c := c) (n0 := n0) (n1 := n1) (n0' := n0') (n1' := n1') (by omega) ay.s.b.1 nest.b.1 ax.s.b.2 nest.b.2 h3.1 h3.2.1 h3.2.2
  refine ⟨?_, within_nest ay ax ⟨pH.2.1, pH.2.2.2⟩ ⟨pV.2.1, pV.2.2.2⟩ nest (fun _ => means_of r2 hlc) (fun _ => means_of ⟨h2.1, by omega⟩ hlc) (fun h => phW_less h2.1 h2.2 r2.2 hlc h), ?_⟩
  · unfold recvC
    rw [if_pos]
    unfold rcv
    omega
  · unfold hearOf
    rcases sp_hear (kd := kd) (ph := ph) (c := c) (wV := mx (sumF (sqV zs (-lv)) n / c - n1)) (sV := mx (-(-sumF (sqV zs lv) n / c) - n0)) (A1 := sumF (sqH zs (-lv)) n) (B1 := sumF (sqV zs (-lv)) n) (C1 := sumF (prd zs (-lv)) n) (A2 := sumF (sqH zs lv) n) (B2 := sumF (sqV zs lv) n) (C2 := sumF (prd zs lv) n) (x0 := valsB (stpTo zs kd c (n - 1)) false) (x1 := valsB (stpTo zs kd c (n - 1)) true) (x2 := trnTo zs n) ⟨ay.h.1, ay.h.2.1⟩ with e | ⟨e0, e⟩
    · exact .inl e
    · right
      rw [e]
      have e0' : mx (sumF (sqH zs (-lv')) n / c - n1') ≠ 0 := by have := pH.2.1; have := pH.1; omega
      rw [hearE_eq ⟨ax.h.1, ax.h.2.1⟩, if_neg e0', phG_eq]
      split <;> rfl

end Go.Proofs.Ytmojnopgpgnfeaa
