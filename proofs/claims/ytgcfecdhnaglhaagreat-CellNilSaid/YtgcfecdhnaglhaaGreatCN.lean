/-
  CellNil: what is no book has no answers, whatever is asked: worked out with signs in the place of what is asked.
-/
import Derived.Test.YtgcfecdhnaglhaaGreatProg
import Derived.Test.YtgcfecdhnaglhaaGreatEF
import Derived.Test.YtgcfecdhnaglhaaGreatWK
import Derived.KernelRfl
namespace Go.Proofs.YtgcfecdhnaglhaaGreat
open Go.RowKit
set_option linter.unusedVariables false
set_option linter.unusedSimpArgs false
set_option maxRecDepth 100000
set_option maxHeartbeats 4000000
theorem noRows (E : Env) {P : Program} : @LoopsOk E P [] := fun _ h => (by cases h)
theorem nilK (E : Env) {P : Program} : @ConsOk E P [] := fun _ _ _ h => (by cases h)
theorem consK (E : Env) {P : Program} {g : FuncId} {args : Array Value} {v : Value} {K : Cons} (h : ∀ w, Below E.base.heap.size E.base w → Calls P g (realA E.σ args) w fun e w' => e = .returned (realD E.σ v) ∧ Below w.heap.size w w') (t : @ConsOk E P K) : @ConsOk E P ((g, args, v) :: K) := by
  intro g' args' v' hm
  rcases List.mem_cons.1 hm with e | hm
  · simp only [Prod.mk.injEq] at e
    obtain ⟨rfl, rfl, rfl⟩ := e
    exact h
  · exact t g' args' v' hm
def FactL (P : Program) (σ : Nat → Value) (e : TypeId × Value × Value) : Prop := ∀ ty w, (Builtin.len_ #[e.1] ty #[realV σ e.2.1]).run P w = .ok (realV σ e.2.2) w
theorem lenC (a : Option Addr) (len cap : Nat) (ty : TypeId) (w : World) : (Builtin.len_ #[24] ty #[.slice a len cap]).run Tryz.prog w = .ok (cI len) w := by
  simp [Builtin.len_, run_underlying Tryz.underlying24, goInt]
theorem CellNil_walk (t gx gy gs gw gh : Int) (a : Option Addr) (len cap : Nat) (n m : Int) (w : World) : Calls Tryz.prog 7 #[cI t, .agg #[cI gx, cI gy, cI gs, cI gw, cI gh, .slice a len cap], cI n, cI m] w fun e w' => e = .returned (.bool true) ∧ Below w.heap.size w w' := by
  by_cases h0 : 80 < (↑len : Int)
  · exact (@calls_signs ({ sigE Tryz.prog w [cI (t), cI (gx), cI (gy), cI (gs), cI (gw), cI (gh), (.slice a len cap), cI (n), cI (m), cI ((↑len : Int))] rfl with bins := [(.gtr, (sg 9), (cI 80), .bool true)], okB := fun op_ x_ y_ z_ h_ => (show ∀ e ∈ [(.gtr, (sg 9), (cI 80), .bool true)], FactB (sigF [cI (t), cI (gx), cI (gy), cI (gs), cI (gw), cI (gh), (.slice a len cap), cI (n), cI (m), cI ((↑len : Int))]) e from (consF (gtrF rfl rfl (decide_eq_true h0)) nilF)) _ h_, lens := [(24, (sg 6), sg 9)], okLe := fun t_ x_ r_ h_ => (show ∀ e ∈ [(24, (sg 6), sg 9)], FactL Tryz.prog (sigF [cI (t), cI (gx), cI (gy), cI (gs), cI (gw), cI (gh), (.slice a len cap), cI (n), cI (m), cI ((↑len : Int))]) e from (consF (fun ty w => lenC a len cap ty w) nilF)) _ h_ }) Tryz.prog rfl mixed [(11, #[], .bool true)] (consK _ (fun w hb => (show Calls Tryz.prog 11 #[] w (fun e w' => e = .returned (.bool true) ∧ Below w.heap.size w w') from works_true w)) (nilK _)) [] (noRows _) 100000 60 7 #[sg 0, .agg #[sg 1, sg 2, sg 3, sg 4, sg 5, sg 6], sg 7, sg 8] (Go.Value.bool Bool.true) rfl rfl (by kernel_rfl) w (Below.refl _ _)).mono fun e w' h => ⟨h.1.trans (congrArg Ending.returned (show (Go.Value.bool Bool.true) = .bool true from by rfl)), h.2⟩
  · exact (@calls_signs ({ sigE Tryz.prog w [cI (t), cI (gx), cI (gy), cI (gs), cI (gw), cI (gh), (.slice a len cap), cI (n), cI (m), cI ((↑len : Int))] rfl with bins := [(.gtr, (sg 9), (cI 80), .bool false)], okB := fun op_ x_ y_ z_ h_ => (show ∀ e ∈ [(.gtr, (sg 9), (cI 80), .bool false)], FactB (sigF [cI (t), cI (gx), cI (gy), cI (gs), cI (gw), cI (gh), (.slice a len cap), cI (n), cI (m), cI ((↑len : Int))]) e from (consF (gtrF rfl rfl (decide_eq_false h0)) nilF)) _ h_, lens := [(24, (sg 6), sg 9)], okLe := fun t_ x_ r_ h_ => (show ∀ e ∈ [(24, (sg 6), sg 9)], FactL Tryz.prog (sigF [cI (t), cI (gx), cI (gy), cI (gs), cI (gw), cI (gh), (.slice a len cap), cI (n), cI (m), cI ((↑len : Int))]) e from (consF (fun ty w => lenC a len cap ty w) nilF)) _ h_ }) Tryz.prog rfl mixed [(11, #[], .bool true)] (consK _ (fun w hb => (show Calls Tryz.prog 11 #[] w (fun e w' => e = .returned (.bool true) ∧ Below w.heap.size w w') from works_true w)) (nilK _)) [] (noRows _) 100000 60 7 #[sg 0, .agg #[sg 1, sg 2, sg 3, sg 4, sg 5, sg 6], sg 7, sg 8] (Go.Value.bool Bool.true) rfl rfl (by kernel_rfl) w (Below.refl _ _)).mono fun e w' h => ⟨h.1.trans (congrArg Ending.returned (show (Go.Value.bool Bool.true) = .bool true from by rfl)), h.2⟩
end Go.Proofs.YtgcfecdhnaglhaaGreat
