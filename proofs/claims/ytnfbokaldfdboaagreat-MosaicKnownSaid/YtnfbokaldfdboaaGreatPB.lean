/-
  works(): the last piece.
-/
import Derived.Test.YtnfbokaldfdboaaGreatWA
namespace Go.Proofs.YtnfbokaldfdboaaGreat
open Go.RowKit
set_option linter.unusedVariables false
set_option linter.unusedSimpArgs false
set_option maxRecDepth 100000
theorem wpiece1 (w : World) : endsTrue Tryz.prog Tryz.f16 (@iter (bare Tryz.prog w) Tryz.prog (wc w) [] 16 100000 6 wst1) = true := by kernel_rfl
end Go.Proofs.YtnfbokaldfdboaaGreat
