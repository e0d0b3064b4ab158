/-
  works(): the last piece.
-/
import Derived.Test.YtgcfecdhnaglhaaGreatWA
namespace Go.Proofs.YtgcfecdhnaglhaaGreat
open Go.RowKit
set_option linter.unusedVariables false
set_option linter.unusedSimpArgs false
set_option maxRecDepth 100000
theorem piece5 (w : World) : endsTrue Tryz.prog Tryz.f11 (@iter (bare Tryz.prog w) Tryz.prog (wc w) [] 11 100000 15 st5) = true := by kernel_rfl
end Go.Proofs.YtgcfecdhnaglhaaGreat
