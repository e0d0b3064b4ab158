/-
  Flows that lie within others, are widened, and fit multiples.
-/
import Derived.Test.YtaneipjpagbmpaaMF
namespace Go.Proofs.Ytaneipjpagbmpaa
open Go.RowKit
set_option linter.unusedVariables false
set_option linter.unusedSimpArgs false
set_option maxRecDepth 100000
set_option maxHeartbeats 4000000
/-- how many flows there are behind the first one -/
abbrev dl (l : List Fl) : Nat := (l.drop 1).length
abbrev tL {α : Type} : Tr α := .leaf
abbrev tV : Option Value := some anyV
/-- a call answers v -/
abbrev Rt (v : Value) (w : World) (e : Ending) (w' : World) : Prop := e = .returned v ∧ Below w.heap.size w w'
def liesP (a b c d p q r s : Int) : Prop := p ≤ a ∧ b ≤ q ∧ r ≤ c ∧ d ≤ s
instance (a b c d p q r s : Int) : Decidable (liesP a b c d p q r s) := inferInstanceAs (Decidable (_ ∧ _))
theorem lie_t (a b c d p q r s : Int) (h : liesP a b c d p q r s) (w : World) : Calls Try.prog 49 #[.agg #[cI a, cI b, cI c, cI d], .agg #[cI p, cI q, cI r, cI s]] w fun e w' => e = .returned (.bool true) ∧ Below w.heap.size w w' := by
  unfold liesP at h
  by_cases h0 : p ≤ a
  · by_cases h1 : b ≤ q
    · by_cases h2 : r ≤ c
      · by_cases h3 : d ≤ s
        · exact (@calls_signs ({ sigE Try.prog w [cI (a), cI (b), cI (c), cI (d), cI (p), cI (q), cI (r), cI (s)] rfl with bins := [(.leq, (sg 4), (sg 0), .bool true), (.leq, (sg 1), (sg 5), .bool true), (.leq, (sg 6), (sg 2), .bool true), (.leq, (sg 3), (sg 7), .bool true)], okB := fun op_ x_ y_ z_ h_ => (show ∀ e ∈ [(.leq, (sg 4), (sg 0), .bool true), (.leq, (sg 1), (sg 5), .bool true), (.leq, (sg 6), (sg 2), .bool true), (.leq, (sg 3), (sg 7), .bool true)], FactB (sigF [cI (a), cI (b), cI (c), cI (d), cI (p), cI (q), cI (r), cI (s)]) e from (consF (leqF rfl rfl (decide_eq_true h0)) (consF (leqF rfl rfl (decide_eq_true h1)) (consF (leqF rfl rfl (decide_eq_true h2)) (consF (leqF rfl rfl (decide_eq_true h3)) nilF))))) _ h_ }) Try.prog rfl mixed [] (nilK _) [] (noRows _) 100000 60 49 #[.agg #[sg 0, sg 1, sg 2, sg 3], .agg #[sg 4, sg 5, sg 6, sg 7]] (Go.Value.bool Bool.true) rfl rfl (by kernel_rfl) w (Below.refl _ _)).mono fun e w' h => ⟨h.1.trans (congrArg Ending.returned (show (Go.Value.bool Bool.true) = .bool true from by rfl)), h.2⟩
        · omega
      · omega
    · omega
  · omega
theorem lie_f (a b c d p q r s : Int) (h : ¬ liesP a b c d p q r s) (w : World) : Calls Try.prog 49 #[.agg #[cI a, cI b, cI c, cI d], .agg #[cI p, cI q, cI r, cI s]] w fun e w' => e = .returned (.bool false) ∧ Below w.heap.size w w' := by
  unfold liesP at h
  by_cases h0 : p ≤ a
  · by_cases h1 : b ≤ q
    · by_cases h2 : r ≤ c
      · by_cases h3 : d ≤ s
        · omega
        · exact (@calls_signs ({ sigE Try.prog w [cI (a), cI (b), cI (c), cI (d), cI (p), cI (q), cI (r), cI (s)] rfl with bins := [(.leq, (sg 4), (sg 0), .bool true), (.leq, (sg 1), (sg 5), .bool true), (.leq, (sg 6), (sg 2), .bool true), (.leq, (sg 3), (sg 7), .bool false)], okB := fun op_ x_ y_ z_ h_ => (show ∀ e ∈ [(.leq, (sg 4), (sg 0), .bool true), (.leq, (sg 1), (sg 5), .bool true), (.leq, (sg 6), (sg 2), .bool true), (.leq, (sg 3), (sg 7), .bool false)], FactB (sigF [cI (a), cI (b), cI (c), cI (d), cI (p), cI (q), cI (r), cI (s)]) e from (consF (leqF rfl rfl (decide_eq_true h0)) (consF (leqF rfl rfl (decide_eq_true h1)) (consF (leqF rfl rfl (decide_eq_true h2)) (consF (leqF rfl rfl (decide_eq_false h3)) nilF))))) _ h_ }) Try.prog rfl mixed [] (nilK _) [] (noRows _) 100000 60 49 #[.agg #[sg 0, sg 1, sg 2, sg 3], .agg #[sg 4, sg 5, sg 6, sg 7]] (Go.Value.bool Bool.false) rfl rfl (by kernel_rfl) w (Below.refl _ _)).mono fun e w' h => ⟨h.1.trans (congrArg Ending.returned (show (Go.Value.bool Bool.false) = .bool false from by rfl)), h.2⟩
      · exact (@calls_signs ({ sigE Try.prog w [cI (a), cI (b), cI (c), cI (d), cI (p), cI (q), cI (r), cI (s)] rfl with bins := [(.leq, (sg 4), (sg 0), .bool true), (.leq, (sg 1), (sg 5), .bool true), (.leq, (sg 6), (sg 2), .bool false)], okB := fun op_ x_ y_ z_ h_ => (show ∀ e ∈ [(.leq, (sg 4), (sg 0), .bool true), (.leq, (sg 1), (sg 5), .bool true), (.leq, (sg 6), (sg 2), .bool false)], FactB (sigF [cI (a), cI (b), cI (c), cI (d), cI (p), cI (q), cI (r), cI (s)]) e from (consF (leqF rfl rfl (decide_eq_true h0)) (consF (leqF rfl rfl (decide_eq_true h1)) (consF (leqF rfl rfl (decide_eq_false h2)) nilF)))) _ h_ }) Try.prog rfl mixed [] (nilK _) [] (noRows _) 100000 60 49 #[.agg #[sg 0, sg 1, sg 2, sg 3], .agg #[sg 4, sg 5, sg 6, sg 7]] (Go.Value.bool Bool.false) rfl rfl (by kernel_rfl) w (Below.refl _ _)).mono fun e w' h => ⟨h.1.trans (congrArg Ending.returned (show (Go.Value.bool Bool.false) = .bool false from by rfl)), h.2⟩
    · exact (@calls_signs ({ sigE Try.prog w [cI (a), cI (b), cI (c), cI (d), cI (p), cI (q), cI (r), cI (s)] rfl with bins := [(.leq, (sg 4), (sg 0), .bool true), (.leq, (sg 1), (sg 5), .bool false)], okB := fun op_ x_ y_ z_ h_ => (show ∀ e ∈ [(.leq, (sg 4), (sg 0), .bool true), (.leq, (sg 1), (sg 5), .bool false)], FactB (sigF [cI (a), cI (b), cI (c), cI (d), cI (p), cI (q), cI (r), cI (s)]) e from (consF (leqF rfl rfl (decide_eq_true h0)) (consF (leqF rfl rfl (decide_eq_false h1)) nilF))) _ h_ }) Try.prog rfl mixed [] (nilK _) [] (noRows _) 100000 60 49 #[.agg #[sg 0, sg 1, sg 2, sg 3], .agg #[sg 4, sg 5, sg 6, sg 7]] (Go.Value.bool Bool.false) rfl rfl (by kernel_rfl) w (Below.refl _ _)).mono fun e w' h => ⟨h.1.trans (congrArg Ending.returned (show (Go.Value.bool Bool.false) = .bool false from by rfl)), h.2⟩
  · exact (@calls_signs ({ sigE Try.prog w [cI (a), cI (b), cI (c), cI (d), cI (p), cI (q), cI (r), cI (s)] rfl with bins := [(.leq, (sg 4), (sg 0), .bool false)], okB := fun op_ x_ y_ z_ h_ => (show ∀ e ∈ [(.leq, (sg 4), (sg 0), .bool false)], FactB (sigF [cI (a), cI (b), cI (c), cI (d), cI (p), cI (q), cI (r), cI (s)]) e from (consF (leqF rfl rfl (decide_eq_false h0)) nilF)) _ h_ }) Try.prog rfl mixed [] (nilK _) [] (noRows _) 100000 60 49 #[.agg #[sg 0, sg 1, sg 2, sg 3], .agg #[sg 4, sg 5, sg 6, sg 7]] (Go.Value.bool Bool.false) rfl rfl (by kernel_rfl) w (Below.refl _ _)).mono fun e w' h => ⟨h.1.trans (congrArg Ending.returned (show (Go.Value.bool Bool.false) = .bool false from by rfl)), h.2⟩
def wlo (a kn : Int) : Int := max (a - cdv kn 3600) (-100000)
def whi (a kn : Int) : Int := min (a + cdv kn 3600) 100000
theorem cdv_bd {a : Int} (h : 0 ≤ a ∧ a ≤ 8640000000) : 0 ≤ cdv a 3600 ∧ cdv a 3600 ≤ 8640000001 := by
  unfold cdv
  omega
theorem wid_lies {a b c d kn : Int} (h : chkF a b c d = 0) (hk : 0 ≤ kn ∧ kn ≤ 8640000000) : liesP a b c d (wlo a kn) (whi b kn) (wlo c kn) (whi d kn) := by
  have := cdv_bd hk
  unfold chkF at h
  split at h
  · unfold liesP wlo whi; omega
  · cases h
theorem wid_calls (a b c d k n : Int) (h : chkF a b c d = 0) (hk : 0 ≤ k ∧ k ≤ 100000) (hn : 0 ≤ n ∧ n ≤ 86400) (hkn : 0 ≤ k * n ∧ k * n ≤ 8640000000) (w : World) : Calls Try.prog 20 #[.agg #[cI a, cI b, cI c, cI d], cI k, cI n] w fun e w' => e = .returned (.tuple #[.agg #[cI (wlo a (k * n)), cI (whi b (k * n)), cI (wlo c (k * n)), cI (whi d (k * n))], cI 0]) ∧ Below w.heap.size w w' := by
  have hbd := cdv_bd hkn
  have hab := h
  unfold chkF at hab
  split at hab
  · skip
    have h0 := hk.1
    have h1 := hk.2
    have h2 := hn.1
    have h3 := hn.2
    exact (@calls_signs ({ sigE Try.prog w [cI (a), cI (b), cI (c), cI (d), cI (k), cI (n), cI (((k * n))), cI ((cdv (((k * n))) 3600)), cI (((a - (cdv (((k * n))) 3600)))), cI ((max ((a - (cdv (((k * n))) 3600))) (-100000))), cI (((b + (cdv (((k * n))) 3600)))), cI ((min ((b + (cdv (((k * n))) 3600))) 100000)), cI (((c - (cdv (((k * n))) 3600)))), cI ((max ((c - (cdv (((k * n))) 3600))) (-100000))), cI (((d + (cdv (((k * n))) 3600)))), cI ((min ((d + (cdv (((k * n))) 3600))) 100000))] rfl with bins := [(.leq, (cI 0), (sg 4), .bool true), (.leq, (sg 4), (cI 100000), .bool true), (.leq, (cI 0), (sg 5), .bool true), (.leq, (sg 5), (cI 86400), .bool true), (.mul, (sg 4), (sg 5), sg 6), (.sub, (sg 0), (sg 7), sg 8), (.add, (sg 1), (sg 7), sg 10), (.sub, (sg 2), (sg 7), sg 12), (.add, (sg 3), (sg 7), sg 14)], okB := fun op_ x_ y_ z_ h_ => (show ∀ e ∈ [(.leq, (cI 0), (sg 4), .bool true), (.leq, (sg 4), (cI 100000), .bool true), (.leq, (cI 0), (sg 5), .bool true), (.leq, (sg 5), (cI 86400), .bool true), (.mul, (sg 4), (sg 5), sg 6), (.sub, (sg 0), (sg 7), sg 8), (.add, (sg 1), (sg 7), sg 10), (.sub, (sg 2), (sg 7), sg 12), (.add, (sg 3), (sg 7), sg 14)], FactB (sigF [cI (a), cI (b), cI (c), cI (d), cI (k), cI (n), cI (((k * n))), cI ((cdv (((k * n))) 3600)), cI (((a - (cdv (((k * n))) 3600)))), cI ((max ((a - (cdv (((k * n))) 3600))) (-100000))), cI (((b + (cdv (((k * n))) 3600)))), cI ((min ((b + (cdv (((k * n))) 3600))) 100000)), cI (((c - (cdv (((k * n))) 3600)))), cI ((max ((c - (cdv (((k * n))) 3600))) (-100000))), cI (((d + (cdv (((k * n))) 3600)))), cI ((min ((d + (cdv (((k * n))) 3600))) 100000))]) e from (consF (leqF rfl rfl (decide_eq_true h0)) (consF (leqF rfl rfl (decide_eq_true h1)) (consF (leqF rfl rfl (decide_eq_true h2)) (consF (leqF rfl rfl (decide_eq_true h3)) (consF (mulF rfl rfl rfl rfl (by constructor <;> omega)) (consF (subF rfl rfl rfl rfl (by constructor <;> omega)) (consF (addF rfl rfl rfl rfl (by constructor <;> omega)) (consF (subF rfl rfl rfl rfl (by constructor <;> omega)) (consF (addF rfl rfl rfl rfl (by constructor <;> omega)) nilF)))))))))) _ h_, mins := [(true, (sg 8), (cI (-100000)), sg 9), (false, (sg 10), (cI 100000), sg 11), (true, (sg 12), (cI (-100000)), sg 13), (false, (sg 14), (cI 100000), sg 15)], okM := fun b_ x_ y_ z_ h_ => (show ∀ e ∈ [(true, (sg 8), (cI (-100000)), sg 9), (false, (sg 10), (cI 100000), sg 11), (true, (sg 12), (cI (-100000)), sg 13), (false, (sg 14), (cI 100000), sg 15)], FactM (sigF [cI (a), cI (b), cI (c), cI (d), cI (k), cI (n), cI (((k * n))), cI ((cdv (((k * n))) 3600)), cI (((a - (cdv (((k * n))) 3600)))), cI ((max ((a - (cdv (((k * n))) 3600))) (-100000))), cI (((b + (cdv (((k * n))) 3600)))), cI ((min ((b + (cdv (((k * n))) 3600))) 100000)), cI (((c - (cdv (((k * n))) 3600)))), cI ((max ((c - (cdv (((k * n))) 3600))) (-100000))), cI (((d + (cdv (((k * n))) 3600)))), cI ((min ((d + (cdv (((k * n))) 3600))) 100000))]) e from (consF (maxF rfl rfl rfl rfl) (consF (minF rfl rfl rfl rfl) (consF (maxF rfl rfl rfl rfl) (consF (minF rfl rfl rfl rfl) nilF))))) _ h_ }) Try.prog rfl mixed [(18, #[(Go.Value.agg #[(sg 0), (sg 1), (sg 2), (sg 3)])], cI 0), (56, #[(sg 6), (cI 3600)], (sg 7))] (consK _ (fun w hb => (show Calls Try.prog 18 #[(Go.Value.agg #[(cI (a)), (cI (b)), (cI (c)), (cI (d))])] w (fun e w' => e = .returned (cI 0) ∧ Below w.heap.size w w') from (chk_calls a b c d w).mono fun e w' z => ⟨z.1.trans (congrArg Ending.returned (congrArg cI h)), z.2⟩)) (consK _ (fun w hb => (show Calls Try.prog 56 #[(cI (((k * n)))), (cI 3600)] w (fun e w' => e = .returned ((cI ((cdv (((k * n))) 3600)))) ∧ Below w.heap.size w w') from up_calls _ _ (by constructor <;> omega) (by omega) w)) (nilK _))) [] (noRows _) 100000 60 20 #[.agg #[sg 0, sg 1, sg 2, sg 3], sg 4, sg 5] (Go.Value.tuple #[(Go.Value.agg #[(sg 9), (sg 11), (sg 13), (sg 15)]), (cI 0)]) rfl rfl (by kernel_rfl) w (Below.refl _ _)).mono fun e w' h => ⟨h.1.trans (congrArg Ending.returned (show (Go.Value.tuple #[(Go.Value.agg #[(cI ((max ((a - (cdv (((k * n))) 3600))) (-100000)))), (cI ((min ((b + (cdv (((k * n))) 3600))) 100000))), (cI ((max ((c - (cdv (((k * n))) 3600))) (-100000)))), (cI ((min ((d + (cdv (((k * n))) 3600))) 100000)))]), (cI 0)]) = .tuple #[.agg #[cI (wlo a (k * n)), cI (whi b (k * n)), cI (wlo c (k * n)), cI (whi d (k * n))], cI 0] from by rfl)), h.2⟩
  · cases hab
theorem fx_mul {k p n : Int} (hk : 1 ≤ k) (hn : 1 ≤ n) : fx (k * p) (k * n) = fx p n := by
  unfold fx
  rw [show 1000 * (1000 * (k * p) - 0) = k * (1000 * (1000 * p - 0)) by
    rw [Int.sub_zero, Int.sub_zero, Int.mul_left_comm 1000 k p, Int.mul_left_comm 1000 k]]
  exact Int.mul_ediv_mul_of_pos _ _ (by omega)
theorem cx_mul {k p n : Int} (hk : 1 ≤ k) (hn : 1 ≤ n) : cx (k * p) (k * n) = cx p n := by
  unfold cx cdv
  rw [show -(1000 * (1000 * (k * p) + 0)) = k * -(1000 * (1000 * p + 0)) by
    rw [Int.add_zero, Int.add_zero, Int.mul_left_comm 1000 k p, Int.mul_left_comm 1000 k, Int.mul_neg]]
  rw [Int.mul_ediv_mul_of_pos _ _ (by omega)]
theorem fit_mul {k p q n : Int} (hk : 1 ≤ k) (hn : 1 ≤ n) : fitP (k * p) (k * q) (k * n) = fitP p q n := by
  unfold fitP fitOk
  rw [fx_mul hk hn, fx_mul hk hn, cx_mul hk hn, cx_mul hk hn]
theorem fit_yes {p q n : Int} (hn : 1 ≤ n) (h : fitOk p q n) : chkF (fx p n) (cx p n) (fx q n) (cx q n) = 0 ∧ fx p n ≤ cx p n ∧ fx q n ≤ cx q n := by
  have h1 : fx p n ≤ cx p n := fx_le_cx p n hn
  have h2 : fx q n ≤ cx q n := fx_le_cx q n hn
  unfold fitOk at h
  exact ⟨by unfold chkF; rw [if_pos (by omega)], h1, h2⟩
end Go.Proofs.Ytaneipjpagbmpaa
