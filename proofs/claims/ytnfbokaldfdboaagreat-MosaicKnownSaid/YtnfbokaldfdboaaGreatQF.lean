/-
  MosaicKnown: the last piece.
-/
import Derived.Test.YtnfbokaldfdboaaGreatKA
namespace Go.Proofs.YtnfbokaldfdboaaGreat
open Go.RowKit
set_option linter.unusedVariables false
set_option linter.unusedSimpArgs false
set_option maxRecDepth 100000
theorem kpiece5 (w : World) : endsTrue Tryz.prog Tryz.f13 (@iter (bare Tryz.prog w) Tryz.prog (wk w) [] 13 100000 28 kst5) = true := by kernel_rfl
end Go.Proofs.YtnfbokaldfdboaaGreat
