/-
  works(): piece 1.
-/
import Derived.Test.YtgcfecdhnaglhaaWA
namespace Go.Proofs.Ytgcfecdhnaglhaa
open Go.RowKit
set_option linter.unusedVariables false
set_option linter.unusedSimpArgs false
set_option maxRecDepth 100000
theorem piece0 (w : World) : wp w 17 st0 st1 = true := by kernel_rfl
end Go.Proofs.Ytgcfecdhnaglhaa
