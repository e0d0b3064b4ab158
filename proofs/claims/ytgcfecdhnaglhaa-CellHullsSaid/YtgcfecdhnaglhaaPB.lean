/-
  works(): piece 2.
-/
import Derived.Test.YtgcfecdhnaglhaaWA
namespace Go.Proofs.Ytgcfecdhnaglhaa
open Go.RowKit
set_option linter.unusedVariables false
set_option linter.unusedSimpArgs false
set_option maxRecDepth 100000
theorem piece1 (w : World) : wp w 9 st1 st2 = true := by kernel_rfl
end Go.Proofs.Ytgcfecdhnaglhaa
