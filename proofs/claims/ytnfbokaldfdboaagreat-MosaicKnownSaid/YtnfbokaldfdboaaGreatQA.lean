/-
  MosaicKnown: piece 1.
-/
import Derived.Test.YtnfbokaldfdboaaGreatKA
namespace Go.Proofs.YtnfbokaldfdboaaGreat
open Go.RowKit
set_option linter.unusedVariables false
set_option linter.unusedSimpArgs false
set_option maxRecDepth 100000
theorem kpiece0 (w : World) : wpk w 33 kst0 kst1 = true := by kernel_rfl
end Go.Proofs.YtnfbokaldfdboaaGreat
