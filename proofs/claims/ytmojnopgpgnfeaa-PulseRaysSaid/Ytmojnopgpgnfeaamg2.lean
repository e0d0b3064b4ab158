/-
  Times, folds and reaches of trains.
-/
import Derived.StillTail
import Derived.Deep.RegionHeld
import Derived.Test.Ytmojnopgpgnfeaamg1
namespace Go.Proofs.Ytmojnopgpgnfeaa
open Go.RowKit
set_option linter.unusedVariables false

/-- the error of a time of a train -/
def timE (l k f s c wh : Int) : Int := if trainC l k f s c = 0 then (if wh = 0 then 0 else if wh = 1 ∧ ¬ k = 1 then 0 else 2) else trainC l k f s c
/-- a time of a train; 0 beside an error -/
def timV (l k f s c wh : Int) : Int := if timE l k f s c wh = 0 then (if wh = 0 then f else s) else 0
theorem tim_err {l k f s c wh : Int} (h : ¬ trainC l k f s c = 0) : timE l k f s c wh = trainC l k f s c ∧ timV l k f s c wh = 0 := by
  have e : timE l k f s c wh = trainC l k f s c := if_neg h
  exact ⟨e, by unfold timV; rw [if_neg (by rw [e]; exact h)]⟩
theorem tim_0 {l k f s c : Int} (h : trainC l k f s c = 0) : timE l k f s c 0 = 0 ∧ timV l k f s c 0 = f := by
  have e : timE l k f s c 0 = 0 := by unfold timE; rw [if_pos h, if_pos rfl]
  exact ⟨e, by unfold timV; rw [if_pos e, if_pos rfl]⟩
theorem tim_1 {l k f s c : Int} (h : trainC l k f s c = 0) (hk : ¬ k = 1) : timE l k f s c 1 = 0 ∧ timV l k f s c 1 = s := by
  have e : timE l k f s c 1 = 0 := by unfold timE; rw [if_pos h, if_neg (by decide), if_pos ⟨rfl, hk⟩]
  exact ⟨e, by unfold timV; rw [if_pos e, if_neg (by decide)]⟩
theorem tim_2 {l k f s c wh : Int} (h : trainC l k f s c = 0) (h0 : ¬ wh = 0) (h1 : ¬ (wh = 1 ∧ ¬ k = 1)) : timE l k f s c wh = 2 ∧ timV l k f s c wh = 0 := by
  have e : timE l k f s c wh = 2 := by unfold timE; rw [if_pos h, if_neg h0, if_neg h1]
  exact ⟨e, by unfold timV; rw [if_neg (by rw [e]; decide)]⟩
/-- the ranges of a valid train -/
theorem train_bd {l k f s c : Int} (h : trainC l k f s c = 0) : (10000 ≤ l ∧ l ≤ 1000000) ∧ (200 ≤ f ∧ f ≤ 5000) ∧ (0 ≤ s ∧ s ≤ 5000) ∧ (2 ≤ c ∧ c ≤ 64) ∧ (¬ k = 1 → 200 ≤ s) ∧ (k = 1 ∨ k = 2 ∨ k = 3) := by
  unfold trainC at h
  split at h
  · split at h
    · rename_i h2; unfold one at h2; omega
    · cases h
  · split at h
    · split at h
      · rename_i h2; unfold two at h2; omega
      · cases h
    · split at h
      · split at h
        · rename_i h2; unfold thr at h2; omega
        · cases h
      · cases h
theorem tim_bd {l k f s c wh : Int} (h : timE l k f s c wh = 0) : (10000 ≤ l ∧ l ≤ 1000000) ∧ 200 ≤ timV l k f s c wh ∧ timV l k f s c wh ≤ 5000 := by
  by_cases h0 : trainC l k f s c = 0
  · obtain ⟨b1, b2, b3, b4, b5, b6⟩ := train_bd h0
    by_cases w0 : wh = 0
    · subst w0; rw [(tim_0 h0).2]; omega
    · by_cases w1 : wh = 1 ∧ ¬ k = 1
      · obtain ⟨rfl, hk⟩ := w1
        rw [(tim_1 h0 hk).2]
        have := b5 hk
        omega
      · rw [(tim_2 h0 w0 w1).1] at h; cases h
  · rw [(tim_err h0).1] at h; exact absurd h h0

set_option maxHeartbeats 1600000 in
theorem timeOf_err (l k f s c wh : Int) (w : World) (h : ¬ trainC l k f s c = 0) :
    Calls Try.prog 75 #[.agg #[.int .i64 l, .int .i64 k, .int .i64 f, .int .i64 s, .int .i64 c], .int .i64 wh] w fun e w' => e = .returned (.tuple #[.int .i64 (timV l k f s c wh), .int .i64 (timE l k f s c wh)]) ∧ Below w.heap.size w w' := by
  rw [(tim_err h).1, (tim_err h).2]
  have hne : (trainC l k f s c != 0) = true := bne_iff_ne.2 h
  go_enter Try.func75, Try.ntmps75
  go_wp2_with fail
  refine (CheckTrain_any _ _ _ _ _ _).mono ?_; rintro e w1 ⟨rfl, hb1⟩
  have q0 : w1.cell? ⟨w.heap.size, 0, none⟩ = some (.int .i64 l) := keepB hb1 (by simp) (alloc_new rfl rfl)
  have q1 : w1.cell? ⟨w.heap.size, 1, none⟩ = some (.int .i64 k) := keepB hb1 (by simp) (alloc_new rfl rfl)
  have q2 : w1.cell? ⟨w.heap.size, 2, none⟩ = some (.int .i64 f) := keepB hb1 (by simp) (alloc_new rfl rfl)
  have q3 : w1.cell? ⟨w.heap.size, 3, none⟩ = some (.int .i64 s) := keepB hb1 (by simp) (alloc_new rfl rfl)
  have q4 : w1.cell? ⟨w.heap.size, 4, none⟩ = some (.int .i64 c) := keepB hb1 (by simp) (alloc_new rfl rfl)
  have hz : w.heap.size < w1.heap.size := by have := hb1.size; simp at this; omega
  have hbw : Below w.heap.size w w1 := Below.trans (below_alloc _ _) (hb1.mono (by simp))
  clear hb1
  go_wp2
  go_ret2
  exact ⟨rfl, hbw⟩

set_option maxHeartbeats 1600000 in
theorem timeOf_0 (l k f s c : Int) (w : World) (h : trainC l k f s c = 0) :
    Calls Try.prog 75 #[.agg #[.int .i64 l, .int .i64 k, .int .i64 f, .int .i64 s, .int .i64 c], .int .i64 0] w fun e w' => e = .returned (.tuple #[.int .i64 (timV l k f s c 0), .int .i64 (timE l k f s c 0)]) ∧ Below w.heap.size w w' := by
  rw [(tim_0 h).1, (tim_0 h).2]
  have H := Lib.hid h
  clear h
  go_enter Try.func75, Try.ntmps75
  go_wp2_with fail
  refine (CheckTrain_any _ _ _ _ _ _).mono ?_; rintro e w1 ⟨rfl, hb1⟩
  rw [H.out]
  have q0 : w1.cell? ⟨w.heap.size, 0, none⟩ = some (.int .i64 l) := keepB hb1 (by simp) (alloc_new rfl rfl)
  have q1 : w1.cell? ⟨w.heap.size, 1, none⟩ = some (.int .i64 k) := keepB hb1 (by simp) (alloc_new rfl rfl)
  have q2 : w1.cell? ⟨w.heap.size, 2, none⟩ = some (.int .i64 f) := keepB hb1 (by simp) (alloc_new rfl rfl)
  have q3 : w1.cell? ⟨w.heap.size, 3, none⟩ = some (.int .i64 s) := keepB hb1 (by simp) (alloc_new rfl rfl)
  have q4 : w1.cell? ⟨w.heap.size, 4, none⟩ = some (.int .i64 c) := keepB hb1 (by simp) (alloc_new rfl rfl)
  have hz : w.heap.size < w1.heap.size := by have := hb1.size; simp at this; omega
  have hbw : Below w.heap.size w w1 := Below.trans (below_alloc _ _) (hb1.mono (by simp))
  clear hb1
  go_wp2
  go_ret2
  exact ⟨rfl, hbw⟩

set_option maxHeartbeats 1600000 in
theorem timeOf_1 (l k f s c : Int) (w : World) (h : trainC l k f s c = 0) (hk : ¬ k = 1) :
    Calls Try.prog 75 #[.agg #[.int .i64 l, .int .i64 k, .int .i64 f, .int .i64 s, .int .i64 c], .int .i64 1] w fun e w' => e = .returned (.tuple #[.int .i64 (timV l k f s c 1), .int .i64 (timE l k f s c 1)]) ∧ Below w.heap.size w w' := by
  rw [(tim_1 h hk).1, (tim_1 h hk).2]
  have H := Lib.hid h
  clear h
  have k1 : (k != 1) = true := bne_iff_ne.2 hk
  have k2 : (k == 1) = false := beq_eq_false_iff_ne.2 hk
  go_enter Try.func75, Try.ntmps75
  go_wp2_with fail
  refine (CheckTrain_any _ _ _ _ _ _).mono ?_; rintro e w1 ⟨rfl, hb1⟩
  rw [H.out]
  have q0 : w1.cell? ⟨w.heap.size, 0, none⟩ = some (.int .i64 l) := keepB hb1 (by simp) (alloc_new rfl rfl)
  have q1 : w1.cell? ⟨w.heap.size, 1, none⟩ = some (.int .i64 k) := keepB hb1 (by simp) (alloc_new rfl rfl)
  have q2 : w1.cell? ⟨w.heap.size, 2, none⟩ = some (.int .i64 f) := keepB hb1 (by simp) (alloc_new rfl rfl)
  have q3 : w1.cell? ⟨w.heap.size, 3, none⟩ = some (.int .i64 s) := keepB hb1 (by simp) (alloc_new rfl rfl)
  have q4 : w1.cell? ⟨w.heap.size, 4, none⟩ = some (.int .i64 c) := keepB hb1 (by simp) (alloc_new rfl rfl)
  have hz : w.heap.size < w1.heap.size := by have := hb1.size; simp at this; omega
  have hbw : Below w.heap.size w w1 := Below.trans (below_alloc _ _) (hb1.mono (by simp))
  clear hb1
  go_wp2
  go_ret2
  exact ⟨rfl, hbw⟩

set_option maxHeartbeats 1600000 in
theorem timeOf_2 (l k f s c wh : Int) (w : World) (h : trainC l k f s c = 0) (h0 : ¬ wh = 0) (h1 : ¬ (wh = 1 ∧ ¬ k = 1)) :
    Calls Try.prog 75 #[.agg #[.int .i64 l, .int .i64 k, .int .i64 f, .int .i64 s, .int .i64 c], .int .i64 wh] w fun e w' => e = .returned (.tuple #[.int .i64 (timV l k f s c wh), .int .i64 (timE l k f s c wh)]) ∧ Below w.heap.size w w' := by
  rw [(tim_2 h h0 h1).1, (tim_2 h h0 h1).2]
  have H := Lib.hid h
  clear h
  have z0 : (wh == 0) = false := beq_eq_false_iff_ne.2 h0
  by_cases w1 : wh = 1
  · subst w1
    have hk : k = 1 := Classical.byContradiction fun hk => h1 ⟨rfl, hk⟩
    have k1 : (k != 1) = false := bne_eq_false_iff_eq.2 hk
    have k2 : (k == 1) = true := beq_iff_eq.2 hk
    clear hk h1
    go_enter Try.func75, Try.ntmps75
    go_wp2_with fail
    refine (CheckTrain_any _ _ _ _ _ _).mono ?_; rintro e w1 ⟨rfl, hb1⟩
    rw [H.out]
    have q0 : w1.cell? ⟨w.heap.size, 0, none⟩ = some (.int .i64 l) := keepB hb1 (by simp) (alloc_new rfl rfl)
    have q1 : w1.cell? ⟨w.heap.size, 1, none⟩ = some (.int .i64 k) := keepB hb1 (by simp) (alloc_new rfl rfl)
    have q2 : w1.cell? ⟨w.heap.size, 2, none⟩ = some (.int .i64 f) := keepB hb1 (by simp) (alloc_new rfl rfl)
    have q3 : w1.cell? ⟨w.heap.size, 3, none⟩ = some (.int .i64 s) := keepB hb1 (by simp) (alloc_new rfl rfl)
    have q4 : w1.cell? ⟨w.heap.size, 4, none⟩ = some (.int .i64 c) := keepB hb1 (by simp) (alloc_new rfl rfl)
    have hz : w.heap.size < w1.heap.size := by have := hb1.size; simp at this; omega
    have hbw : Below w.heap.size w w1 := Below.trans (below_alloc _ _) (hb1.mono (by simp))
    clear hb1
    go_wp2
    go_ret2
    exact ⟨rfl, hbw⟩
  · have z1 : (wh == 1) = false := beq_eq_false_iff_ne.2 w1
    have z2 : (wh != 1) = true := bne_iff_ne.2 w1
    go_enter Try.func75, Try.ntmps75
    go_wp2_with fail
    refine (CheckTrain_any _ _ _ _ _ _).mono ?_; rintro e w3 ⟨rfl, hb1⟩
    rw [H.out]
    have q0 : w3.cell? ⟨w.heap.size, 0, none⟩ = some (.int .i64 l) := keepB hb1 (by simp) (alloc_new rfl rfl)
    have q1 : w3.cell? ⟨w.heap.size, 1, none⟩ = some (.int .i64 k) := keepB hb1 (by simp) (alloc_new rfl rfl)
    have q2 : w3.cell? ⟨w.heap.size, 2, none⟩ = some (.int .i64 f) := keepB hb1 (by simp) (alloc_new rfl rfl)
    have q3 : w3.cell? ⟨w.heap.size, 3, none⟩ = some (.int .i64 s) := keepB hb1 (by simp) (alloc_new rfl rfl)
    have q4 : w3.cell? ⟨w.heap.size, 4, none⟩ = some (.int .i64 c) := keepB hb1 (by simp) (alloc_new rfl rfl)
    have hz : w.heap.size < w3.heap.size := by have := hb1.size; simp at this; omega
    have hbw : Below w.heap.size w w3 := Below.trans (below_alloc _ _) (hb1.mono (by simp))
    clear hb1
    go_wp2
    go_ret2
    exact ⟨rfl, hbw⟩

theorem timeOf_any (l k f s c wh : Int) (w : World) : Calls Try.prog 75 #[.agg #[.int .i64 l, .int .i64 k, .int .i64 f, .int .i64 s, .int .i64 c], .int .i64 wh] w fun e w' => e = .returned (.tuple #[.int .i64 (timV l k f s c wh), .int .i64 (timE l k f s c wh)]) ∧ Below w.heap.size w w' := by
  by_cases h : trainC l k f s c = 0
  · by_cases h0 : wh = 0
    · subst h0; exact timeOf_0 l k f s c w h
    · by_cases h1 : wh = 1 ∧ ¬ k = 1
      · obtain ⟨rfl, hk⟩ := h1
        exact timeOf_1 l k f s c w h hk
      · exact timeOf_2 l k f s c wh w h h0 h1
  · exact timeOf_err l k f s c wh w h

set_option maxHeartbeats 1600000 in
theorem reftime_err (l k f s c wh : Int) (w : World) (h : ¬ trainC l k f s c = 0) :
    Calls Try.prog 73 #[.agg #[.int .i64 l, .int .i64 k, .int .i64 f, .int .i64 s, .int .i64 c], .int .i64 wh] w fun e w' => e = .returned (.tuple #[.int .i64 (timV l k f s c wh), .int .i64 (timE l k f s c wh)]) ∧ Below w.heap.size w w' := by
  rw [(tim_err h).1, (tim_err h).2]
  have hne : (trainC l k f s c != 0) = true := bne_iff_ne.2 h
  go_enter Try.func73, Try.ntmps73
  go_wp2_with fail
  refine (refCheckTrain_any _ _ _ _ _ _).mono ?_; rintro e w1 ⟨rfl, hb1⟩
  have q0 : w1.cell? ⟨w.heap.size, 0, none⟩ = some (.int .i64 l) := keepB hb1 (by simp) (alloc_new rfl rfl)
  have q1 : w1.cell? ⟨w.heap.size, 1, none⟩ = some (.int .i64 k) := keepB hb1 (by simp) (alloc_new rfl rfl)
  have q2 : w1.cell? ⟨w.heap.size, 2, none⟩ = some (.int .i64 f) := keepB hb1 (by simp) (alloc_new rfl rfl)
  have q3 : w1.cell? ⟨w.heap.size, 3, none⟩ = some (.int .i64 s) := keepB hb1 (by simp) (alloc_new rfl rfl)
  have q4 : w1.cell? ⟨w.heap.size, 4, none⟩ = some (.int .i64 c) := keepB hb1 (by simp) (alloc_new rfl rfl)
  have hz : w.heap.size < w1.heap.size := by have := hb1.size; simp at this; omega
  have hbw : Below w.heap.size w w1 := Below.trans (below_alloc _ _) (hb1.mono (by simp))
  clear hb1
  go_wp2
  go_ret2
  exact ⟨rfl, hbw⟩

set_option maxHeartbeats 1600000 in
theorem reftime_0 (l k f s c : Int) (w : World) (h : trainC l k f s c = 0) :
    Calls Try.prog 73 #[.agg #[.int .i64 l, .int .i64 k, .int .i64 f, .int .i64 s, .int .i64 c], .int .i64 0] w fun e w' => e = .returned (.tuple #[.int .i64 (timV l k f s c 0), .int .i64 (timE l k f s c 0)]) ∧ Below w.heap.size w w' := by
  rw [(tim_0 h).1, (tim_0 h).2]
  have H := Lib.hid h
  clear h
  go_enter Try.func73, Try.ntmps73
  go_wp2_with fail
  refine (refCheckTrain_any _ _ _ _ _ _).mono ?_; rintro e w1 ⟨rfl, hb1⟩
  rw [H.out]
  have q0 : w1.cell? ⟨w.heap.size, 0, none⟩ = some (.int .i64 l) := keepB hb1 (by simp) (alloc_new rfl rfl)
  have q1 : w1.cell? ⟨w.heap.size, 1, none⟩ = some (.int .i64 k) := keepB hb1 (by simp) (alloc_new rfl rfl)
  have q2 : w1.cell? ⟨w.heap.size, 2, none⟩ = some (.int .i64 f) := keepB hb1 (by simp) (alloc_new rfl rfl)
  have q3 : w1.cell? ⟨w.heap.size, 3, none⟩ = some (.int .i64 s) := keepB hb1 (by simp) (alloc_new rfl rfl)
  have q4 : w1.cell? ⟨w.heap.size, 4, none⟩ = some (.int .i64 c) := keepB hb1 (by simp) (alloc_new rfl rfl)
  have hz : w.heap.size < w1.heap.size := by have := hb1.size; simp at this; omega
  have hbw : Below w.heap.size w w1 := Below.trans (below_alloc _ _) (hb1.mono (by simp))
  clear hb1
  go_wp2
  go_ret2
  exact ⟨rfl, hbw⟩

set_option maxHeartbeats 1600000 in
theorem reftime_1 (l k f s c : Int) (w : World) (h : trainC l k f s c = 0) (hk : ¬ k = 1) :
    Calls Try.prog 73 #[.agg #[.int .i64 l, .int .i64 k, .int .i64 f, .int .i64 s, .int .i64 c], .int .i64 1] w fun e w' => e = .returned (.tuple #[.int .i64 (timV l k f s c 1), .int .i64 (timE l k f s c 1)]) ∧ Below w.heap.size w w' := by
  rw [(tim_1 h hk).1, (tim_1 h hk).2]
  have H := Lib.hid h
  clear h
  have k1 : (k != 1) = true := bne_iff_ne.2 hk
  have k2 : (k == 1) = false := beq_eq_false_iff_ne.2 hk
  go_enter Try.func73, Try.ntmps73
  go_wp2_with fail
  refine (refCheckTrain_any _ _ _ _ _ _).mono ?_; rintro e w1 ⟨rfl, hb1⟩
  rw [H.out]
  have q0 : w1.cell? ⟨w.heap.size, 0, none⟩ = some (.int .i64 l) := keepB hb1 (by simp) (alloc_new rfl rfl)
  have q1 : w1.cell? ⟨w.heap.size, 1, none⟩ = some (.int .i64 k) := keepB hb1 (by simp) (alloc_new rfl rfl)
  have q2 : w1.cell? ⟨w.heap.size, 2, none⟩ = some (.int .i64 f) := keepB hb1 (by simp) (alloc_new rfl rfl)
  have q3 : w1.cell? ⟨w.heap.size, 3, none⟩ = some (.int .i64 s) := keepB hb1 (by simp) (alloc_new rfl rfl)
  have q4 : w1.cell? ⟨w.heap.size, 4, none⟩ = some (.int .i64 c) := keepB hb1 (by simp) (alloc_new rfl rfl)
  have hz : w.heap.size < w1.heap.size := by have := hb1.size; simp at this; omega
  have hbw : Below w.heap.size w w1 := Below.trans (below_alloc _ _) (hb1.mono (by simp))
  clear hb1
  go_wp2
  go_ret2
  exact ⟨rfl, hbw⟩

set_option maxHeartbeats 1600000 in
theorem reftime_2 (l k f s c wh : Int) (w : World) (h : trainC l k f s c = 0) (h0 : ¬ wh = 0) (h1 : ¬ (wh = 1 ∧ ¬ k = 1)) :
    Calls Try.prog 73 #[.agg #[.int .i64 l, .int .i64 k, .int .i64 f, .int .i64 s, .int .i64 c], .int .i64 wh] w fun e w' => e = .returned (.tuple #[.int .i64 (timV l k f s c wh), .int .i64 (timE l k f s c wh)]) ∧ Below w.heap.size w w' := by
  rw [(tim_2 h h0 h1).1, (tim_2 h h0 h1).2]
  have H := Lib.hid h
  clear h
  have z0 : (wh == 0) = false := beq_eq_false_iff_ne.2 h0
  by_cases w1 : wh = 1
  · subst w1
    have hk : k = 1 := Classical.byContradiction fun hk => h1 ⟨rfl, hk⟩
    have k1 : (k != 1) = false := bne_eq_false_iff_eq.2 hk
    have k2 : (k == 1) = true := beq_iff_eq.2 hk
    clear hk h1
    go_enter Try.func73, Try.ntmps73
    go_wp2_with fail
    refine (refCheckTrain_any _ _ _ _ _ _).mono ?_; rintro e w1 ⟨rfl, hb1⟩
    rw [H.out]
    have q0 : w1.cell? ⟨w.heap.size, 0, none⟩ = some (.int .i64 l) := keepB hb1 (by simp) (alloc_new rfl rfl)
    have q1 : w1.cell? ⟨w.heap.size, 1, none⟩ = some (.int .i64 k) := keepB hb1 (by simp) (alloc_new rfl rfl)
    have q2 : w1.cell? ⟨w.heap.size, 2, none⟩ = some (.int .i64 f) := keepB hb1 (by simp) (alloc_new rfl rfl)
    have q3 : w1.cell? ⟨w.heap.size, 3, none⟩ = some (.int .i64 s) := keepB hb1 (by simp) (alloc_new rfl rfl)
    have q4 : w1.cell? ⟨w.heap.size, 4, none⟩ = some (.int .i64 c) := keepB hb1 (by simp) (alloc_new rfl rfl)
    have hz : w.heap.size < w1.heap.size := by have := hb1.size; simp at this; omega
    have hbw : Below w.heap.size w w1 := Below.trans (below_alloc _ _) (hb1.mono (by simp))
    clear hb1
    go_wp2
    go_ret2
    exact ⟨rfl, hbw⟩
  · have z1 : (wh == 1) = false := beq_eq_false_iff_ne.2 w1
    have z2 : (wh != 1) = true := bne_iff_ne.2 w1
    go_enter Try.func73, Try.ntmps73
    go_wp2_with fail
    refine (refCheckTrain_any _ _ _ _ _ _).mono ?_; rintro e w3 ⟨rfl, hb1⟩
    rw [H.out]
    have q0 : w3.cell? ⟨w.heap.size, 0, none⟩ = some (.int .i64 l) := keepB hb1 (by simp) (alloc_new rfl rfl)
    have q1 : w3.cell? ⟨w.heap.size, 1, none⟩ = some (.int .i64 k) := keepB hb1 (by simp) (alloc_new rfl rfl)
    have q2 : w3.cell? ⟨w.heap.size, 2, none⟩ = some (.int .i64 f) := keepB hb1 (by simp) (alloc_new rfl rfl)
    have q3 : w3.cell? ⟨w.heap.size, 3, none⟩ = some (.int .i64 s) := keepB hb1 (by simp) (alloc_new rfl rfl)
    have q4 : w3.cell? ⟨w.heap.size, 4, none⟩ = some (.int .i64 c) := keepB hb1 (by simp) (alloc_new rfl rfl)
    have hz : w.heap.size < w3.heap.size := by have := hb1.size; simp at this; omega
    have hbw : Below w.heap.size w w3 := Below.trans (below_alloc _ _) (hb1.mono (by simp))
    clear hb1
    go_wp2
    go_ret2
    exact ⟨rfl, hbw⟩

theorem reftime_any (l k f s c wh : Int) (w : World) : Calls Try.prog 73 #[.agg #[.int .i64 l, .int .i64 k, .int .i64 f, .int .i64 s, .int .i64 c], .int .i64 wh] w fun e w' => e = .returned (.tuple #[.int .i64 (timV l k f s c wh), .int .i64 (timE l k f s c wh)]) ∧ Below w.heap.size w w' := by
  by_cases h : trainC l k f s c = 0
  · by_cases h0 : wh = 0
    · subst h0; exact reftime_0 l k f s c w h
    · by_cases h1 : wh = 1 ∧ ¬ k = 1
      · obtain ⟨rfl, hk⟩ := h1
        exact reftime_1 l k f s c w h hk
      · exact reftime_2 l k f s c wh w h h0 h1
  · exact reftime_err l k f s c wh w h

set_option maxHeartbeats 1600000 in
theorem Fold_any (l k f s c wh : Int) (w : World) : Calls Try.prog 34 #[.agg #[.int .i64 l, .int .i64 k, .int .i64 f, .int .i64 s, .int .i64 c], .int .i64 wh] w fun e w' => e = .returned (.tuple #[.int .i64 (if timE l k f s c wh = 0 then 500 * l else 0), .int .i64 (timV l k f s c wh), .int .i64 (timE l k f s c wh)]) ∧ Below w.heap.size w w' := by
  by_cases h : timE l k f s c wh = 0
  · obtain ⟨⟨b1, b2⟩, b3, b4⟩ := tim_bd h
    have i1 : IntKind.i64.wrap (500 * l) = 500 * l := IntWalk.i64_in _ (by omega)
    rw [if_pos h, h]
    go_enter Try.func34, Try.ntmps34
    go_wp2_with fail
    refine (timeOf_any _ _ _ _ _ _ _).mono ?_; rintro e w1 ⟨rfl, hb1⟩
    rw [h]
    have q0 : w1.cell? ⟨w.heap.size, 0, none⟩ = some (.int .i64 l) := keepB hb1 (by simp) (alloc_new rfl rfl)
    have q1 : w1.cell? ⟨w.heap.size, 1, none⟩ = some (.int .i64 k) := keepB hb1 (by simp) (alloc_new rfl rfl)
    have q2 : w1.cell? ⟨w.heap.size, 2, none⟩ = some (.int .i64 f) := keepB hb1 (by simp) (alloc_new rfl rfl)
    have q3 : w1.cell? ⟨w.heap.size, 3, none⟩ = some (.int .i64 s) := keepB hb1 (by simp) (alloc_new rfl rfl)
    have q4 : w1.cell? ⟨w.heap.size, 4, none⟩ = some (.int .i64 c) := keepB hb1 (by simp) (alloc_new rfl rfl)
    have hz : w.heap.size < w1.heap.size := by have := hb1.size; simp at this; omega
    have hbw : Below w.heap.size w w1 := Below.trans (below_alloc _ _) (hb1.mono (by simp))
    clear hb1
    go_wp2
    exact bodyPost_ret (v := .tuple #[.int .i64 (500 * l), .int .i64 (timV l k f s c wh), .int .i64 0]) (by simp [results, Try.results34, go_sem]) rfl ⟨rfl, hbw⟩
  · have hne : (timE l k f s c wh != 0) = true := bne_iff_ne.2 h
    have hv : timV l k f s c wh = 0 := if_neg h
    rw [hv]
    rw [if_neg h]
    go_enter Try.func34, Try.ntmps34
    go_wp2_with fail
    refine (timeOf_any _ _ _ _ _ _ _).mono ?_; rintro e w1 ⟨rfl, hb1⟩
    rw [hv]
    have q0 : w1.cell? ⟨w.heap.size, 0, none⟩ = some (.int .i64 l) := keepB hb1 (by simp) (alloc_new rfl rfl)
    have q1 : w1.cell? ⟨w.heap.size, 1, none⟩ = some (.int .i64 k) := keepB hb1 (by simp) (alloc_new rfl rfl)
    have q2 : w1.cell? ⟨w.heap.size, 2, none⟩ = some (.int .i64 f) := keepB hb1 (by simp) (alloc_new rfl rfl)
    have q3 : w1.cell? ⟨w.heap.size, 3, none⟩ = some (.int .i64 s) := keepB hb1 (by simp) (alloc_new rfl rfl)
    have q4 : w1.cell? ⟨w.heap.size, 4, none⟩ = some (.int .i64 c) := keepB hb1 (by simp) (alloc_new rfl rfl)
    have hz : w.heap.size < w1.heap.size := by have := hb1.size; simp at this; omega
    have hbw : Below w.heap.size w w1 := Below.trans (below_alloc _ _) (hb1.mono (by simp))
    clear hb1
    go_wp2
    exact bodyPost_ret (v := .tuple #[.int .i64 0, .int .i64 0, .int .i64 (timE l k f s c wh)]) (by simp [results, Try.results34, go_sem]) rfl ⟨rfl, hbw⟩

set_option maxHeartbeats 1600000 in
theorem refFold_any (l k f s c wh : Int) (w : World) : Calls Try.prog 35 #[.agg #[.int .i64 l, .int .i64 k, .int .i64 f, .int .i64 s, .int .i64 c], .int .i64 wh] w fun e w' => e = .returned (.tuple #[.int .i64 (if timE l k f s c wh = 0 then 500 * l else 0), .int .i64 (timV l k f s c wh), .int .i64 (timE l k f s c wh)]) ∧ Below w.heap.size w w' := by
  by_cases h : timE l k f s c wh = 0
  · obtain ⟨⟨b1, b2⟩, b3, b4⟩ := tim_bd h
    have i1 : IntKind.i64.wrap (500 * l) = 500 * l := IntWalk.i64_in _ (by omega)
    rw [if_pos h, h]
    go_enter Try.func35, Try.ntmps35
    go_wp2_with fail
    refine (reftime_any _ _ _ _ _ _ _).mono ?_; rintro e w1 ⟨rfl, hb1⟩
    rw [h]
    have q0 : w1.cell? ⟨w.heap.size, 0, none⟩ = some (.int .i64 l) := keepB hb1 (by simp) (alloc_new rfl rfl)
    have q1 : w1.cell? ⟨w.heap.size, 1, none⟩ = some (.int .i64 k) := keepB hb1 (by simp) (alloc_new rfl rfl)
    have q2 : w1.cell? ⟨w.heap.size, 2, none⟩ = some (.int .i64 f) := keepB hb1 (by simp) (alloc_new rfl rfl)
    have q3 : w1.cell? ⟨w.heap.size, 3, none⟩ = some (.int .i64 s) := keepB hb1 (by simp) (alloc_new rfl rfl)
    have q4 : w1.cell? ⟨w.heap.size, 4, none⟩ = some (.int .i64 c) := keepB hb1 (by simp) (alloc_new rfl rfl)
    have hz : w.heap.size < w1.heap.size := by have := hb1.size; simp at this; omega
    have hbw : Below w.heap.size w w1 := Below.trans (below_alloc _ _) (hb1.mono (by simp))
    clear hb1
    go_wp2
    exact bodyPost_ret (v := .tuple #[.int .i64 (500 * l), .int .i64 (timV l k f s c wh), .int .i64 0]) (by simp [results, Try.results35, go_sem]) rfl ⟨rfl, hbw⟩
  · have hne : (timE l k f s c wh != 0) = true := bne_iff_ne.2 h
    have hv : timV l k f s c wh = 0 := if_neg h
    rw [hv]
    rw [if_neg h]
    go_enter Try.func35, Try.ntmps35
    go_wp2_with fail
    refine (reftime_any _ _ _ _ _ _ _).mono ?_; rintro e w1 ⟨rfl, hb1⟩
    rw [hv]
    have q0 : w1.cell? ⟨w.heap.size, 0, none⟩ = some (.int .i64 l) := keepB hb1 (by simp) (alloc_new rfl rfl)
    have q1 : w1.cell? ⟨w.heap.size, 1, none⟩ = some (.int .i64 k) := keepB hb1 (by simp) (alloc_new rfl rfl)
    have q2 : w1.cell? ⟨w.heap.size, 2, none⟩ = some (.int .i64 f) := keepB hb1 (by simp) (alloc_new rfl rfl)
    have q3 : w1.cell? ⟨w.heap.size, 3, none⟩ = some (.int .i64 s) := keepB hb1 (by simp) (alloc_new rfl rfl)
    have q4 : w1.cell? ⟨w.heap.size, 4, none⟩ = some (.int .i64 c) := keepB hb1 (by simp) (alloc_new rfl rfl)
    have hz : w.heap.size < w1.heap.size := by have := hb1.size; simp at this; omega
    have hbw : Below w.heap.size w w1 := Below.trans (below_alloc _ _) (hb1.mono (by simp))
    clear hb1
    go_wp2
    exact bodyPost_ret (v := .tuple #[.int .i64 0, .int .i64 0, .int .i64 (timE l k f s c wh)]) (by simp [results, Try.results35, go_sem]) rfl ⟨rfl, hbw⟩

set_option maxHeartbeats 1600000 in
theorem Reach_any (l k f s c wh : Int) (w : World) : Calls Try.prog 36 #[.agg #[.int .i64 l, .int .i64 k, .int .i64 f, .int .i64 s, .int .i64 c], .int .i64 wh] w fun e w' => e = .returned (.tuple #[.int .i64 (150 * timV l k f s c wh), .int .i64 (timE l k f s c wh)]) ∧ Below w.heap.size w w' := by
  by_cases h : timE l k f s c wh = 0
  · obtain ⟨⟨b1, b2⟩, b3, b4⟩ := tim_bd h
    have i1 : IntKind.i64.wrap (150 * timV l k f s c wh) = 150 * timV l k f s c wh := IntWalk.i64_in _ (by omega)
    rw [h]
    go_enter Try.func36, Try.ntmps36
    go_wp2_with fail
    refine (timeOf_any _ _ _ _ _ _ _).mono ?_; rintro e w1 ⟨rfl, hb1⟩
    rw [h]
    have q0 : w1.cell? ⟨w.heap.size, 0, none⟩ = some (.int .i64 l) := keepB hb1 (by simp) (alloc_new rfl rfl)
    have q1 : w1.cell? ⟨w.heap.size, 1, none⟩ = some (.int .i64 k) := keepB hb1 (by simp) (alloc_new rfl rfl)
    have q2 : w1.cell? ⟨w.heap.size, 2, none⟩ = some (.int .i64 f) := keepB hb1 (by simp) (alloc_new rfl rfl)
    have q3 : w1.cell? ⟨w.heap.size, 3, none⟩ = some (.int .i64 s) := keepB hb1 (by simp) (alloc_new rfl rfl)
    have q4 : w1.cell? ⟨w.heap.size, 4, none⟩ = some (.int .i64 c) := keepB hb1 (by simp) (alloc_new rfl rfl)
    have hz : w.heap.size < w1.heap.size := by have := hb1.size; simp at this; omega
    have hbw : Below w.heap.size w w1 := Below.trans (below_alloc _ _) (hb1.mono (by simp))
    clear hb1
    go_wp2
    go_ret2
    exact ⟨rfl, hbw⟩
  · have hne : (timE l k f s c wh != 0) = true := bne_iff_ne.2 h
    have hv : timV l k f s c wh = 0 := if_neg h
    rw [hv]
    go_enter Try.func36, Try.ntmps36
    go_wp2_with fail
    refine (timeOf_any _ _ _ _ _ _ _).mono ?_; rintro e w1 ⟨rfl, hb1⟩
    rw [hv]
    have q0 : w1.cell? ⟨w.heap.size, 0, none⟩ = some (.int .i64 l) := keepB hb1 (by simp) (alloc_new rfl rfl)
    have q1 : w1.cell? ⟨w.heap.size, 1, none⟩ = some (.int .i64 k) := keepB hb1 (by simp) (alloc_new rfl rfl)
    have q2 : w1.cell? ⟨w.heap.size, 2, none⟩ = some (.int .i64 f) := keepB hb1 (by simp) (alloc_new rfl rfl)
    have q3 : w1.cell? ⟨w.heap.size, 3, none⟩ = some (.int .i64 s) := keepB hb1 (by simp) (alloc_new rfl rfl)
    have q4 : w1.cell? ⟨w.heap.size, 4, none⟩ = some (.int .i64 c) := keepB hb1 (by simp) (alloc_new rfl rfl)
    have hz : w.heap.size < w1.heap.size := by have := hb1.size; simp at this; omega
    have hbw : Below w.heap.size w w1 := Below.trans (below_alloc _ _) (hb1.mono (by simp))
    clear hb1
    go_wp2
    go_ret2
    exact ⟨rfl, hbw⟩

set_option maxHeartbeats 1600000 in
theorem refReach_any (l k f s c wh : Int) (w : World) : Calls Try.prog 37 #[.agg #[.int .i64 l, .int .i64 k, .int .i64 f, .int .i64 s, .int .i64 c], .int .i64 wh] w fun e w' => e = .returned (.tuple #[.int .i64 (150 * timV l k f s c wh), .int .i64 (timE l k f s c wh)]) ∧ Below w.heap.size w w' := by
  by_cases h : timE l k f s c wh = 0
  · obtain ⟨⟨b1, b2⟩, b3, b4⟩ := tim_bd h
    have i1 : IntKind.i64.wrap (150 * timV l k f s c wh) = 150 * timV l k f s c wh := IntWalk.i64_in _ (by omega)
    rw [h]
    go_enter Try.func37, Try.ntmps37
    go_wp2_with fail
    refine (reftime_any _ _ _ _ _ _ _).mono ?_; rintro e w1 ⟨rfl, hb1⟩
    rw [h]
    have q0 : w1.cell? ⟨w.heap.size, 0, none⟩ = some (.int .i64 l) := keepB hb1 (by simp) (alloc_new rfl rfl)
    have q1 : w1.cell? ⟨w.heap.size, 1, none⟩ = some (.int .i64 k) := keepB hb1 (by simp) (alloc_new rfl rfl)
    have q2 : w1.cell? ⟨w.heap.size, 2, none⟩ = some (.int .i64 f) := keepB hb1 (by simp) (alloc_new rfl rfl)
    have q3 : w1.cell? ⟨w.heap.size, 3, none⟩ = some (.int .i64 s) := keepB hb1 (by simp) (alloc_new rfl rfl)
    have q4 : w1.cell? ⟨w.heap.size, 4, none⟩ = some (.int .i64 c) := keepB hb1 (by simp) (alloc_new rfl rfl)
    have hz : w.heap.size < w1.heap.size := by have := hb1.size; simp at this; omega
    have hbw : Below w.heap.size w w1 := Below.trans (below_alloc _ _) (hb1.mono (by simp))
    clear hb1
    go_wp2
    go_ret2
    exact ⟨rfl, hbw⟩
  · have hne : (timE l k f s c wh != 0) = true := bne_iff_ne.2 h
    have hv : timV l k f s c wh = 0 := if_neg h
    rw [hv]
    go_enter Try.func37, Try.ntmps37
    go_wp2_with fail
    refine (reftime_any _ _ _ _ _ _ _).mono ?_; rintro e w1 ⟨rfl, hb1⟩
    rw [hv]
    have q0 : w1.cell? ⟨w.heap.size, 0, none⟩ = some (.int .i64 l) := keepB hb1 (by simp) (alloc_new rfl rfl)
    have q1 : w1.cell? ⟨w.heap.size, 1, none⟩ = some (.int .i64 k) := keepB hb1 (by simp) (alloc_new rfl rfl)
    have q2 : w1.cell? ⟨w.heap.size, 2, none⟩ = some (.int .i64 f) := keepB hb1 (by simp) (alloc_new rfl rfl)
    have q3 : w1.cell? ⟨w.heap.size, 3, none⟩ = some (.int .i64 s) := keepB hb1 (by simp) (alloc_new rfl rfl)
    have q4 : w1.cell? ⟨w.heap.size, 4, none⟩ = some (.int .i64 c) := keepB hb1 (by simp) (alloc_new rfl rfl)
    have hz : w.heap.size < w1.heap.size := by have := hb1.size; simp at this; omega
    have hbw : Below w.heap.size w w1 := Below.trans (below_alloc _ _) (hb1.mono (by simp))
    clear hb1
    go_wp2
    go_ret2
    exact ⟨rfl, hbw⟩

end Go.Proofs.Ytmojnopgpgnfeaa

namespace Go.Proofs.Ytmojnopgpgnfeaa
set_option linter.unusedVariables false

section
variable {P : Program} {ops : Array Oper} {Q : Exit → Act → World → Prop} {md : Region.Mode} {S : World → Prop}

theorem wpAny_more : ∀ (f : Nat) (listed : Array Bool) (a : Act) (w : World), wpAny P md ops Q f listed a w → wpAny P md ops Q (f + 1) listed a w
  | 0, listed, a, w, h => ⟨fun _ => h.2, by rw [h.1]; intro i hi; cases hi⟩
  | f + 1, listed, a, w, h => ⟨h.1, fun i hi => wpOp_mono (fun a w => wpAny_more f _ a w) (h.2 i hi)⟩
theorem wpAny_mores {f : Nat} {listed : Array Bool} {a : Act} {w : World} (h : wpAny P md ops Q f listed a w) : ∀ d, wpAny P md ops Q (d + f) listed a w
  | 0 => by rw [Nat.zero_add]; exact h
  | d + 1 => by rw [show d + 1 + f = (d + f) + 1 by omega]; exact wpAny_more _ _ _ _ (wpAny_mores h d)

theorem wpOp_post {Q' : Exit → Act → World → Prop} (hp : ∀ c a w, Q' (.panic c) a w → Q (.panic c) a w) (ho : ∀ a w, Q' .outgrown a w → Q .outgrown a w) {i : Nat} {K : Act → World → Prop} {a : Act} {w : World} (h : wpOp P ops Q' i K a w) : wpOp P ops Q i K a w := by
  unfold wpOp at *
  cases hoi : ops[i]? with
  | none => simpa [hoi] using h
  | some o =>
    simp only [hoi] at h ⊢
    split
    · rename_i hw
      simp only [hw, if_true] at h
      rcases h with h | ⟨h1, a', w', h2⟩
      · left
        unfold Oper.wp at *
        generalize (execOp a.eval o).run P w = r at *
        cases r with
        | ok n w' =>
          cases n <;> simp only [Oper.upon] at h ⊢ <;>
            first
              | exact h
              | exact Calls.mono h (fun e w'' he => by cases e <;> first | exact he | exact hp _ _ _ he | exact (let ⟨x1, x2, x3⟩ := he; ⟨x1, x2, ho _ _ x3⟩))
        | halt x w' => cases x <;> simp only [Oper.upon] at h ⊢ <;> first | exact h | exact hp _ _ _ h | exact ho _ _ h
      · exact .inr ⟨h1, a', w', ho _ _ h2⟩
    · rename_i hw
      simp only [hw] at h
      exact h

/-- each operation waits only for earlier ones -/
def backB (md : Region.Mode) (ops : Array Oper) : Bool :=
  (List.range ops.size).all fun i => ((ops[i]?).map (·.after.all fun e => !Region.binds md e || decide (e.on < i))).getD true
theorem back_of (hb : backB md ops = true) {i : Nat} {o : Oper} (hi : ops[i]? = some o) : ∀ e ∈ o.after, Region.binds md e = true → e.on < i := by
  intro e he hbd
  have hlt := (Array.getElem?_eq_some_iff.1 hi).1
  have h1 := List.all_eq_true.1 hb i (List.mem_range.2 hlt)
  rw [hi] at h1
  simp only [Option.map_some, Option.getD_some] at h1
  have h2 := Array.all_eq_true'.1 h1 e he
  simpa [hbd] using h2

/-- what has come up, and the same with the tail struck -/
structure Struck (ops : Array Oper) (n : Nat) (listed L : Array Bool) : Prop where
  size : L.size = ops.size
  head : ∀ j, j < n → L.getD j true = listed.getD j true
  tail : ∀ j, n ≤ j → L.getD j true = true

theorem getD_tf {L : Array Bool} {j : Nat} (h : j < L.size) : L.getD j true = L.getD j false := by simp [h]

theorem least_ready {n : Nat} {listed L : Array Bool} (hb : backB md ops = true) (hn : n ≤ ops.size) (hs : listed.size = ops.size) (hL : Struck ops n listed L) :
    ∀ (d i : Nat), i = d → i < n → listed.getD i true = false → ∃ j, j < n ∧ j ∈ Region.ready md ops listed ∧ j ∈ Region.ready md ops L := by
  intro d
  induction d using Nat.strongRecOn with
  | _ d ih =>
    intro i hid hi hun
    obtain ⟨o, ho⟩ : ∃ o, ops[i]? = some o := ⟨ops[i]'(by omega), Array.getElem?_eq_getElem _⟩
    by_cases hall : ∀ e ∈ o.after, Region.binds md e = true → listed.getD e.on false = true
    · refine ⟨i, hi, mem_ready.2 ⟨hun, o, ho, hall⟩, mem_ready.2 ⟨by rw [hL.head i hi]; exact hun, o, ho, fun e he hbd => ?_⟩⟩
      have hlt := back_of hb ho e he hbd
      rw [← getD_tf (by rw [hL.size]; omega), hL.head _ (by omega), getD_tf (by omega)]
      exact hall e he hbd
    · obtain ⟨e, he⟩ := Classical.not_forall.1 hall
      obtain ⟨hm, he2⟩ := Classical.not_imp.1 he
      obtain ⟨hbd, hf⟩ := Classical.not_imp.1 he2
      have hlt := back_of hb ho e hm hbd
      have hf2 : listed.getD e.on true = false := by rw [getD_tf (by omega)]; simpa using hf
      exact ih e.on (by omega) e.on rfl (by omega) hf2

/-- what is to hold where the head is through: the tail's walk -/
def TailPost (P : Program) (ops : Array Oper) (Q : Exit → Act → World → Prop) (tl : List Oper) : Exit → Act → World → Prop
  | .normal, a, w => wpList P ops Q tl a w
  | e, a, w => Q e a w

theorem ready_struck {n i : Nat} {listed L : Array Bool} (hs : listed.size = ops.size) (hL : Struck ops n listed L) (hi : i < n) (h : i ∈ Region.ready md ops listed) : i ∈ Region.ready md ops L := by
  obtain ⟨hun, o, ho, hall⟩ := mem_ready.1 h
  refine mem_ready.2 ⟨by rw [hL.head i hi]; exact hun, o, ho, fun e he hbd => ?_⟩
  have h1 := hall e he hbd
  have hlt : e.on < listed.size := by
    rcases Nat.lt_or_ge e.on listed.size with h' | h'
    · exact h'
    · simp [Array.getElem?_eq_none h'] at h1
  rw [← getD_tf (by rw [hL.size]; omega)]
  rcases Nat.lt_or_ge e.on n with h' | h'
  · rw [hL.head _ h', getD_tf hlt]; exact h1
  · exact hL.tail _ h'

theorem held_tail {n g : Nat} {tl : List Oper} {done : Array Bool} (hb : backB md ops = true) (hs : Region.sinkB md ops n = true) (hc : Region.chainB md ops n = true) (hn : n < ops.size)
    (hdone : ∀ listed : Array Bool, HeadInv md ops n listed → (∀ j, j < n → listed.getD j true = true) → listed = done)
    (hseq : ∀ (a : Act) (w : World), wpList P ops Q tl a w → wpAny P md ops Q g done a w) :
    ∀ (f : Nat) (listed L : Array Bool) (a : Act) (w : World), HeadInv md ops n listed → Struck ops n listed L → wpAnyH P md ops (TailPost P ops Q tl) S f L a w → wpAny P md ops Q (f + g) listed a w := by
  intro f
  induction f with
  | zero =>
    intro listed L a w inv hL h
    rw [Nat.zero_add]
    have hall : ∀ j, j < n → listed.getD j true = true := fun j hj => by
      cases hh : listed.getD j true with
      | true => rfl
      | false =>
        obtain ⟨j2, _, _, h2⟩ := least_ready (md := md) hb (by omega) inv.size hL j j rfl hj hh
        rw [h.1] at h2; cases h2
    rw [hdone listed inv hall]
    exact hseq _ _ h.2
  | succ f ih =>
    intro listed L a w inv hL h
    by_cases hall : ∀ j, j < n → listed.getD j true = true
    · have hr : Region.ready md ops L = [] := by
        cases hrr : Region.ready md ops L with
        | nil => rfl
        | cons i rs =>
          have hi : i ∈ Region.ready md ops L := by rw [hrr]; exact List.mem_cons_self
          have hun := (mem_ready.1 hi).1
          rcases Nat.lt_or_ge i n with h' | h'
          · rw [hL.head i h', hall i h'] at hun; cases hun
          · rw [hL.tail i h'] at hun; cases hun
      rw [hdone listed inv hall]
      exact wpAny_mores (hseq _ _ (h.1 hr)) (f + 1)
    · obtain ⟨i0, hi0⟩ := Classical.not_forall.1 hall
      obtain ⟨hi0n, hi0f⟩ := Classical.not_imp.1 hi0
      have hun0 : listed.getD i0 true = false := by simpa using hi0f
      rw [show f + 1 + g = (f + g) + 1 by omega]
      refine ⟨fun h0 => ?_, fun i hi => ?_⟩
      · obtain ⟨j2, _, h2, _⟩ := least_ready (md := md) hb (by omega) inv.size hL i0 i0 rfl hi0n hun0
        rw [h0] at h2; cases h2
      · have hin : i < n := by
          rcases Nat.lt_or_ge i n with h' | h'
          · exact h'
          · exact absurd hi (tail_waits hs hc hn inv _ i0 rfl hi0n hun0 i h')
        have h2 := h.2 i (ready_struck inv.size hL hin hi)
        refine wpOp_mono (fun a' w' h3 => ih _ _ a' w' (inv.set hi hin) ?_ h3.2) (wpOp_post (Q' := TailPost P ops Q tl) (fun _ _ _ h => h) (fun _ _ h => h) h2)
        refine ⟨by simp [hL.size], fun j hj => ?_, fun j hj => ?_⟩
        · by_cases e : i = j
          · subst e
            rw [getD_tf (by simp [hL.size]; omega), getD_tf (by simp [inv.size]; omega)]
            simp [hL.size, inv.size, show i < ops.size by omega]
          · rw [getD_set_ne true e, getD_set_ne true e]; exact hL.head j hj
        · rw [getD_set_ne true (by omega)]; exact hL.tail j hj

/-- the head has come up -/
def doneHead (m n : Nat) : Array Bool := ((List.range m).map fun j => decide (j < n)).toArray
/-- the tail is struck -/
def struckTail (m n : Nat) : Array Bool := ((List.range m).map fun j => decide (n ≤ j)).toArray
def heldTailB (md : Region.Mode) (ops : Array Oper) (n : Nat) : Bool :=
  decide (n < ops.size) && backB md ops && Region.sinkB md ops n && Region.chainB md ops n && Region.seqB md ops (ops.size - n) n (doneHead ops.size n)

theorem wp_region_held_tail {id : Nat} {a : Act} {w : World} {l : List Oper} (n : Nat) (hm : P.follows .mixedOrders = true) (hB : heldTailB .any l.toArray n = true) (hS : S w.drew)
    (h : S w.drew → wpAnyH P .any l.toArray (TailPost P l.toArray Q (l.drop n)) S n (struckTail l.length n) a w.drew) : (Code.region id l.toArray true).wp P Q a w := by
  simp only [heldTailB, Bool.and_eq_true, decide_eq_true_eq] at hB
  obtain ⟨⟨⟨⟨hn, hb⟩, hs⟩, hc⟩, hseq⟩ := hB
  have hn' : n < l.length := by simpa using hn
  have inv0 : HeadInv .any l.toArray n (Array.replicate l.toArray.size false) :=
    ⟨by simp, fun j oj hj hl => (by rw [getD_replicate_false] at hl; cases hl), fun t ht ht' => by rw [List.size_toArray] at ht'; simp [ht']⟩
  refine wp_region_any hm ?_
  have key := held_tail (P := P) (Q := Q) (S := S) (md := .any) (ops := l.toArray) (n := n) (g := l.length - n) (tl := l.drop n) (done := doneHead l.length n) hb hs hc hn
    (fun listed inv hall => ?_) (fun a w hw => ?_) n (Array.replicate l.toArray.size false) (struckTail l.length n) a w.drew inv0 ⟨by simp [struckTail], fun j hj => ?_, fun j hj => ?_⟩ (h hS)
  · rw [show n + (l.length - n) = l.toArray.size by simp; omega] at key
    exact key
  · refine Array.ext (by rw [inv.size]; simp [doneHead]) (fun j h1 h2 => ?_)
    have hj : j < l.length := by rw [inv.size] at h1; simpa using h1
    rcases Nat.lt_or_ge j n with h' | h'
    · have := hall j h'
      simp [h1] at this
      simp [doneHead, this, h']
    · have := inv.tail j h' (by simpa using hj)
      simp [h1] at this
      simp [doneHead, this, show ¬ j < n by omega]
  · have hlen : (l.drop n).length = l.length - n := by simp
    have hsq : Region.seqB .any l.toArray (l.drop n).length n (doneHead l.length n) = true := by rw [hlen]; simpa using hseq
    have := wpAny_of_seq (P := P) (md := .any) (ops := l.toArray) (l.drop n) n (doneHead l.length n) a w (fun j => by simp [List.getElem?_drop]) hsq hw
    rw [hlen] at this
    exact this
  · have hj2 : j < l.length := by omega
    simp [struckTail, hj2, show ¬ n ≤ j by omega]
  · rcases Nat.lt_or_ge j l.length with h' | h'
    · simp [struckTail, h', hj]
    · simp [struckTail, h']
end

end Go.Proofs.Ytmojnopgpgnfeaa
