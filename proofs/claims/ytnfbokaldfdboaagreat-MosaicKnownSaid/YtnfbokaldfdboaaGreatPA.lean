/-
  works(): piece 1.
-/
import Derived.Test.YtnfbokaldfdboaaGreatWA
namespace Go.Proofs.YtnfbokaldfdboaaGreat
open Go.RowKit
set_option linter.unusedVariables false
set_option linter.unusedSimpArgs false
set_option maxRecDepth 100000
theorem wpiece0 (w : World) : wpw w 20 wst0 wst1 = true := by kernel_rfl
end Go.Proofs.YtnfbokaldfdboaaGreat
