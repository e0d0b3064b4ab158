/-
  CastKnown: piece 6.
-/
import Derived.Test.YtaneipjpagbmpaaKA
import Derived.Test.YtaneipjpagbmpaaR2
namespace Go.Proofs.Ytaneipjpagbmpaa
open Go.RowKit
set_option linter.unusedVariables false
set_option linter.unusedSimpArgs false
set_option maxRecDepth 100000
set_option maxHeartbeats 4000000
theorem kpiece5 (w : World) : wpk w [w2R] 3 kst5 kst6 = true := by kernel_rfl
end Go.Proofs.Ytaneipjpagbmpaa
