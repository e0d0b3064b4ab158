/-
  works(): piece 4.
-/
import Derived.Test.YtgcfecdhnaglhaaWA
namespace Go.Proofs.Ytgcfecdhnaglhaa
open Go.RowKit
set_option linter.unusedVariables false
set_option linter.unusedSimpArgs false
set_option maxRecDepth 100000
theorem piece3 (w : World) : wp w 3 st3 st4 = true := by kernel_rfl
end Go.Proofs.Ytgcfecdhnaglhaa
