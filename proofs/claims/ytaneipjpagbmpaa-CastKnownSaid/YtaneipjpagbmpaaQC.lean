/-
  CastKnown: piece 3.
-/
import Derived.Test.YtaneipjpagbmpaaKA
import Derived.Test.YtaneipjpagbmpaaRJ
namespace Go.Proofs.Ytaneipjpagbmpaa
open Go.RowKit
set_option linter.unusedVariables false
set_option linter.unusedSimpArgs false
set_option maxRecDepth 100000
set_option maxHeartbeats 4000000
theorem kpiece2 (w : World) : wpk w [wjR] 3 kst2 kst3 = true := by kernel_rfl
end Go.Proofs.Ytaneipjpagbmpaa
