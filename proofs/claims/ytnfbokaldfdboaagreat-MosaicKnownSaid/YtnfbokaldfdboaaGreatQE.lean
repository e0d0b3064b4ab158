/-
  MosaicKnown: piece 5.
-/
import Derived.Test.YtnfbokaldfdboaaGreatKA
namespace Go.Proofs.YtnfbokaldfdboaaGreat
open Go.RowKit
set_option linter.unusedVariables false
set_option linter.unusedSimpArgs false
set_option maxRecDepth 100000
theorem kpiece4 (w : World) : wpk w 3 kst4 kst5 = true := by kernel_rfl
end Go.Proofs.YtnfbokaldfdboaaGreat
