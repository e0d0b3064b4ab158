/-
  MosaicKnown: piece 3.
-/
import Derived.Test.YtnfbokaldfdboaaGreatKA
namespace Go.Proofs.YtnfbokaldfdboaaGreat
open Go.RowKit
set_option linter.unusedVariables false
set_option linter.unusedSimpArgs false
set_option maxRecDepth 100000
theorem kpiece2 (w : World) : wpk w 4 kst2 kst3 = true := by kernel_rfl
end Go.Proofs.YtnfbokaldfdboaaGreat
