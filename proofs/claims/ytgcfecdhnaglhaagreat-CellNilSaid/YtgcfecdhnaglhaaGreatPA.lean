/-
  works(): piece 1.
-/
import Derived.Test.YtgcfecdhnaglhaaGreatWA
namespace Go.Proofs.YtgcfecdhnaglhaaGreat
open Go.RowKit
set_option linter.unusedVariables false
set_option linter.unusedSimpArgs false
set_option maxRecDepth 100000
theorem piece0 (w : World) : wp w 17 st0 st1 = true := by kernel_rfl
end Go.Proofs.YtgcfecdhnaglhaaGreat
