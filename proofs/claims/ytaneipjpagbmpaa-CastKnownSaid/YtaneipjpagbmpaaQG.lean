/-
  CastKnown: the last piece.
-/
import Derived.Test.YtaneipjpagbmpaaKA
import Derived.Test.YtaneipjpagbmpaaR3
namespace Go.Proofs.Ytaneipjpagbmpaa
open Go.RowKit
set_option linter.unusedVariables false
set_option linter.unusedSimpArgs false
set_option maxRecDepth 100000
set_option maxHeartbeats 4000000
theorem kpiece6 (w : World) : endsTrue Try.prog Try.f13 (@iter (bare Try.prog w) Try.prog (wck w [w3R]) [w3R] 13 100000 41 kst6) = true := by kernel_rfl
end Go.Proofs.Ytaneipjpagbmpaa
