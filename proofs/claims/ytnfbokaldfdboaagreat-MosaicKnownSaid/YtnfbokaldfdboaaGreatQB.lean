/-
  MosaicKnown: piece 2.
-/
import Derived.Test.YtnfbokaldfdboaaGreatKA
namespace Go.Proofs.YtnfbokaldfdboaaGreat
open Go.RowKit
set_option linter.unusedVariables false
set_option linter.unusedSimpArgs false
set_option maxRecDepth 100000
theorem kpiece1 (w : World) : wpk w 35 kst1 kst2 = true := by kernel_rfl
end Go.Proofs.YtnfbokaldfdboaaGreat
