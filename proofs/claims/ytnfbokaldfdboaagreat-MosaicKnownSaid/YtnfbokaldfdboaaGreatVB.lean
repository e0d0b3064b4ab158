/-
  What the grid sees of site b, worked out.
-/
import Derived.Test.YtnfbokaldfdboaaGreatCB
namespace Go.Proofs.YtnfbokaldfdboaaGreat
open Go.RowKit
set_option linter.unusedVariables false
set_option linter.unusedSimpArgs false
set_option maxRecDepth 100000
theorem viewB_run (w : World) : srowOk viewB (plainC w (.func viewB.g) viewB.args Mini.empty) = true := by kernel_rfl
theorem viewB_ok (w : World) : @SRow.Ok (bare Tryz.prog w) Tryz.prog viewB := @srow_of_run (bare Tryz.prog w) Tryz.prog viewB (plainC w) (plainC_ok w) (viewB_run w)
end Go.Proofs.YtnfbokaldfdboaaGreat
