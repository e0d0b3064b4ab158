/-
  CastKnown: piece 5.
-/
import Derived.Test.YtaneipjpagbmpaaKA
import Derived.Test.YtaneipjpagbmpaaR1
namespace Go.Proofs.Ytaneipjpagbmpaa
open Go.RowKit
set_option linter.unusedVariables false
set_option linter.unusedSimpArgs false
set_option maxRecDepth 100000
set_option maxHeartbeats 4000000
theorem kpiece4 (w : World) : wpk w [w1R] 3 kst4 kst5 = true := by kernel_rfl
end Go.Proofs.Ytaneipjpagbmpaa
