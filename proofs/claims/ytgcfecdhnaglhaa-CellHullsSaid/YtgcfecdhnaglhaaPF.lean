/-
  works(): the last piece.
-/
import Derived.Test.YtgcfecdhnaglhaaWA
namespace Go.Proofs.Ytgcfecdhnaglhaa
open Go.RowKit
set_option linter.unusedVariables false
set_option linter.unusedSimpArgs false
set_option maxRecDepth 100000
theorem piece5 (w : World) : endsTrue Try.prog Try.f9 (@iter (bare Try.prog w) Try.prog (wc w) [] 9 100000 15 st5) = true := by kernel_rfl
end Go.Proofs.Ytgcfecdhnaglhaa
