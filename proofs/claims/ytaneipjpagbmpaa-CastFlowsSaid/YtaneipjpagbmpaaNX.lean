/-
  CastFits: facts.
-/
import Derived.Test.YtaneipjpagbmpaaNA
namespace Go.Proofs.Ytaneipjpagbmpaa
open Go.RowKit
set_option linter.unusedVariables false
set_option linter.unusedSimpArgs false
set_option maxRecDepth 100000
set_option maxHeartbeats 4000000
theorem tm33 (a : Int) : -33 < a.tmod 33 ∧ a.tmod 33 < 33 := ⟨Int.lt_tmod_of_pos a (by decide), Int.tmod_lt_of_pos a (by decide)⟩
theorem tmN {a b : Int} (h : 0 ≤ a) (hb : 0 < b) : 0 ≤ a.tmod b ∧ a.tmod b < b := ⟨Int.tmod_nonneg b h, Int.tmod_lt_of_pos a hb⟩
theorem kp_bd {k p : Int} (hk : k = 1 ∨ k = 2) (hp : -33 < p ∧ p < 33) : -64 ≤ k * p ∧ k * p ≤ 64 := by rcases hk with rfl | rfl <;> omega
theorem kn_bd {k n : Int} (hk : k = 1 ∨ k = 2) (hn : 1 ≤ n ∧ n ≤ 40000) : 1 ≤ k * n ∧ k * n ≤ 80000 := by rcases hk with rfl | rfl <;> omega
theorem flowsE_all : ∀ (l : List Fl), flowsE l = 0 → ∀ k, k < l.length → (l.getD k default).err = 0
  | [], _, k, h => by simp at h
  | z :: l, h0, k, h => by
    rw [flowsE] at h0
    split at h0
    · cases k with
      | zero => simpa
      | succ k => simpa using flowsE_all l h0 k (by simpa using h)
    · rename_i h1; exact absurd h0 h1
theorem chkFlows_ok {l : List Fl} (h : chkFlows l = 0) : 0 < l.length ∧ ∀ k : Nat, k < l.length → chkF (fc l ↑k 0) (fc l ↑k 1) (fc l ↑k 2) (fc l ↑k 3) = 0 := by
  unfold chkFlows at h
  split at h
  · cases h
  · rename_i hn
    split at h
    · cases h
    · refine ⟨Nat.pos_of_ne_zero (fun e => hn (List.length_eq_zero_iff.1 e)), fun k hk => ?_⟩
      rw [err_at]; exact flowsE_all l h k hk
theorem flowsE03 : ∀ (l : List Fl), flowsE l = 0 ∨ flowsE l = 3
  | [] => .inl rfl
  | z :: l => by
    rw [flowsE]; split
    · exact flowsE03 l
    · rename_i h; unfold Fl.err chkF at h ⊢; split at h <;> simp_all
theorem chkFlows14 (l : List Fl) : ¬ chkFlows l = 14 := by
  unfold chkFlows
  split
  · decide
  · split
    · decide
    · rcases flowsE03 l with h | h <;> rw [h] <;> decide
theorem okF_of {l : List Fl} (h : ∀ k : Nat, k < l.length → chkF (fc l ↑k 0) (fc l ↑k 1) (fc l ↑k 2) (fc l ↑k 3) = 0) : okF l := fun i hi => by
  have h := h i hi
  unfold chkF at h
  split at h
  · omega
  · cases h
theorem lies_all1 {l : List Fl} {oa ob oc od : Int} (hn : 0 < l.length) (h : ∀ k : Nat, k < l.length → liesP oa ob oc od (fc l ↑k 0) (fc l ↑k 1) (fc l ↑k 2) (fc l ↑k 3)) : liesP oa ob oc od (mxd l 0 (l.drop 1).length) (mnd l 1 (l.drop 1).length) (mxd l 2 (l.drop 1).length) (mnd l 3 (l.drop 1).length) := by
  have hd : (l.drop 1).length < l.length := by rw [List.length_drop]; omega
  obtain ⟨i0, a0, b0⟩ := mxd_ex l 0 (l.drop 1).length
  obtain ⟨i1, a1, b1⟩ := mnd_ex l 1 (l.drop 1).length
  obtain ⟨i2, a2, b2⟩ := mxd_ex l 2 (l.drop 1).length
  obtain ⟨i3, a3, b3⟩ := mnd_ex l 3 (l.drop 1).length
  rw [b0, b1, b2, b3]
  exact ⟨(h i0 (by omega)).1, (h i1 (by omega)).2.1, (h i2 (by omega)).2.2.1, (h i3 (by omega)).2.2.2⟩
theorem lies_all2 {l : List Fl} {oa ob oc od : Int} (hn : 0 < l.length) (h : ∀ k : Nat, k < l.length → liesP (fc l ↑k 0) (fc l ↑k 1) (fc l ↑k 2) (fc l ↑k 3) oa ob oc od) : liesP (mnd l 0 (l.drop 1).length) (mxd l 1 (l.drop 1).length) (mnd l 2 (l.drop 1).length) (mxd l 3 (l.drop 1).length) oa ob oc od := by
  have hd : (l.drop 1).length < l.length := by rw [List.length_drop]; omega
  obtain ⟨i0, a0, b0⟩ := mnd_ex l 0 (l.drop 1).length
  obtain ⟨i1, a1, b1⟩ := mxd_ex l 1 (l.drop 1).length
  obtain ⟨i2, a2, b2⟩ := mnd_ex l 2 (l.drop 1).length
  obtain ⟨i3, a3, b3⟩ := mxd_ex l 3 (l.drop 1).length
  rw [b0, b1, b2, b3]
  exact ⟨(h i0 (by omega)).1, (h i1 (by omega)).2.1, (h i2 (by omega)).2.2.1, (h i3 (by omega)).2.2.2⟩
theorem fitA1 {p q n : Int} (hp : -33 < p ∧ p < 33) (hq : -33 < q ∧ q < 33) (hn : 1 ≤ n ∧ n ≤ 40000) (hf : ¬ fitOk p q n) (w : World) : Calls Try.prog 15 #[.agg #[cI p, cI p], .agg #[cI q, cI q], cI n, cI 0] w (Rt (.tuple #[.agg #[cI 0, cI 0, cI 0, cI 0], cI 26]) w) :=
  (fit_calls _ _ _ (by omega) (by omega) (by omega) w).mono fun e w' z => ⟨z.1.trans (congrArg Ending.returned (by unfold fitP; rw [if_neg hf])), z.2⟩
theorem fitA2 {k p q n : Int} (hk : 1 ≤ k) (hn0 : 1 ≤ n) (hp : -64 ≤ k * p ∧ k * p ≤ 64) (hq : -64 ≤ k * q ∧ k * q ≤ 64) (hn : 1 ≤ k * n ∧ k * n ≤ 80000) (hf : ¬ fitOk p q n) (w : World) : Calls Try.prog 15 #[.agg #[cI (k * p), cI (k * p)], .agg #[cI (k * q), cI (k * q)], cI (k * n), cI 0] w (Rt (.tuple #[.agg #[cI 0, cI 0, cI 0, cI 0], cI 26]) w) :=
  (fit_calls _ _ _ hp hq (by omega) w).mono fun e w' z => ⟨z.1.trans (congrArg Ending.returned (by rw [fit_mul hk hn0]; unfold fitP; rw [if_neg hf])), z.2⟩
theorem fitB1 {p q n va vb vc vd : Int} (hp : -33 < p ∧ p < 33) (hq : -33 < q ∧ q < 33) (hn : 1 ≤ n ∧ n ≤ 40000) (hf : fitOk p q n) (ha : va = fx p n) (hb : vb = cx p n) (hc : vc = fx q n) (hd : vd = cx q n) (w : World) : Calls Try.prog 15 #[.agg #[cI p, cI p], .agg #[cI q, cI q], cI n, cI 0] w (Rt (.tuple #[.agg #[cI va, cI vb, cI vc, cI vd], cI 0]) w) :=
  (fit_calls _ _ _ (by omega) (by omega) (by omega) w).mono fun e w' z => ⟨z.1.trans (congrArg Ending.returned (by unfold fitP; rw [if_pos hf, ha, hb, hc, hd])), z.2⟩
theorem fitB2 {k p q n va vb vc vd : Int} (hk : 1 ≤ k) (hn0 : 1 ≤ n) (hp : -64 ≤ k * p ∧ k * p ≤ 64) (hq : -64 ≤ k * q ∧ k * q ≤ 64) (hn : 1 ≤ k * n ∧ k * n ≤ 80000) (hf : fitOk p q n) (ha : va = fx p n) (hb : vb = cx p n) (hc : vc = fx q n) (hd : vd = cx q n) (w : World) : Calls Try.prog 15 #[.agg #[cI (k * p), cI (k * p)], .agg #[cI (k * q), cI (k * q)], cI (k * n), cI 0] w (Rt (.tuple #[.agg #[cI va, cI vb, cI vc, cI vd], cI 0]) w) :=
  (fit_calls _ _ _ hp hq (by omega) w).mono fun e w' z => ⟨z.1.trans (congrArg Ending.returned (by rw [fit_mul hk hn0]; unfold fitP; rw [if_pos hf, ha, hb, hc, hd])), z.2⟩
end Go.Proofs.Ytaneipjpagbmpaa
