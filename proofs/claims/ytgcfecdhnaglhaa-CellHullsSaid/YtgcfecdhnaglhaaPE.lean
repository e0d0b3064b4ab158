/-
  works(): piece 5.
-/
import Derived.Test.YtgcfecdhnaglhaaWA
namespace Go.Proofs.Ytgcfecdhnaglhaa
open Go.RowKit
set_option linter.unusedVariables false
set_option linter.unusedSimpArgs false
set_option maxRecDepth 100000
theorem piece4 (w : World) : wp w 20 st4 st5 = true := by kernel_rfl
end Go.Proofs.Ytgcfecdhnaglhaa
