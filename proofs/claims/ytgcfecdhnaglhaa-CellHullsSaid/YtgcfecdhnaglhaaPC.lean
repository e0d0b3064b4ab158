/-
  works(): piece 3.
-/
import Derived.Test.YtgcfecdhnaglhaaWA
namespace Go.Proofs.Ytgcfecdhnaglhaa
open Go.RowKit
set_option linter.unusedVariables false
set_option linter.unusedSimpArgs false
set_option maxRecDepth 100000
theorem piece2 (w : World) : wp w 13 st2 st3 = true := by kernel_rfl
end Go.Proofs.Ytgcfecdhnaglhaa
