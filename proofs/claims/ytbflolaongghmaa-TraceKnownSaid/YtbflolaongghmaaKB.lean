/-
  TraceKnown, worked out in two pieces: the second.
-/
import Derived.Test.YtbflolaongghmaaKA
namespace Go.Proofs.Ytbflolaongghmaa
open Go.RowKit
theorem known2 : endsTrue Try.prog Try.f12 (@iter bare Try.prog (@evCall bare Try.prog KK 100000 59) 12 100000 49 knownMid) = true := by kernel_rfl
end Go.Proofs.Ytbflolaongghmaa
