/-
  MosaicKnown: piece 4.
-/
import Derived.Test.YtnfbokaldfdboaaGreatKA
namespace Go.Proofs.YtnfbokaldfdboaaGreat
open Go.RowKit
set_option linter.unusedVariables false
set_option linter.unusedSimpArgs false
set_option maxRecDepth 100000
theorem kpiece3 (w : World) : wpk w 24 kst3 kst4 = true := by kernel_rfl
end Go.Proofs.YtnfbokaldfdboaaGreat
