/-
  What the grid sees of site a, worked out.
-/
import Derived.Test.YtnfbokaldfdboaaGreatCB
namespace Go.Proofs.YtnfbokaldfdboaaGreat
open Go.RowKit
set_option linter.unusedVariables false
set_option linter.unusedSimpArgs false
set_option maxRecDepth 100000
theorem viewA_run (w : World) : srowOk viewA (plainC w (.func viewA.g) viewA.args Mini.empty) = true := by kernel_rfl
theorem viewA_ok (w : World) : @SRow.Ok (bare Tryz.prog w) Tryz.prog viewA := @srow_of_run (bare Tryz.prog w) Tryz.prog viewA (plainC w) (plainC_ok w) (viewA_run w)
end Go.Proofs.YtnfbokaldfdboaaGreat
