/-
  CastKnown: piece 1.
-/
import Derived.Test.YtaneipjpagbmpaaKA
namespace Go.Proofs.Ytaneipjpagbmpaa
open Go.RowKit
set_option linter.unusedVariables false
set_option linter.unusedSimpArgs false
set_option maxRecDepth 100000
set_option maxHeartbeats 4000000
theorem kpiece0 (w : World) : wpk w [] 13 kst0 kst1 = true := by kernel_rfl
end Go.Proofs.Ytaneipjpagbmpaa
