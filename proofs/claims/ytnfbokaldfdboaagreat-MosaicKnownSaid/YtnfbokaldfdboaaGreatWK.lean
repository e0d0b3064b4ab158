/-
  works(): worked out.
-/
import Derived.Test.YtnfbokaldfdboaaGreatPA
import Derived.Test.YtnfbokaldfdboaaGreatPB
namespace Go.Proofs.YtnfbokaldfdboaaGreat
open Go.RowKit
set_option linter.unusedVariables false
set_option linter.unusedSimpArgs false
set_option maxRecDepth 100000
theorem works_true (w : World) : Calls Tryz.prog 16 #[] w fun e w' => e = .returned (.bool true) ∧ Below w.heap.size w w' :=
  @ends_calls (bare Tryz.prog w) Tryz.prog 16 rfl mixed #[] rfl Tryz.f16 _ Tryz.func16 (Option.some_get (x := Tryz.f16.body) (by kernel_rfl)).symm (of_decide_eq_true (by kernel_rfl))
    (@ends_piece (bare Tryz.prog w) Tryz.prog 16 _ _ mixed (hC w) (noRows _) _ _ _ _ _ (wpiece0 w)
    (@ends_last (bare Tryz.prog w) Tryz.prog 16 _ _ mixed (hC w) (noRows _) _ _ _ _ (wpiece1 w))) w (Below.refl _ _)
end Go.Proofs.YtnfbokaldfdboaaGreat
