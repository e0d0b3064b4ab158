/-
  MosaicKnown: worked out.
-/
import Derived.Test.YtnfbokaldfdboaaGreatQA
import Derived.Test.YtnfbokaldfdboaaGreatQB
import Derived.Test.YtnfbokaldfdboaaGreatQC
import Derived.Test.YtnfbokaldfdboaaGreatQD
import Derived.Test.YtnfbokaldfdboaaGreatQE
import Derived.Test.YtnfbokaldfdboaaGreatQF
namespace Go.Proofs.YtnfbokaldfdboaaGreat
open Go.RowKit
set_option linter.unusedVariables false
set_option linter.unusedSimpArgs false
set_option maxRecDepth 100000
theorem MosaicKnown_walk (w : World) : Calls Tryz.prog 13 #[] w fun e w' => e = .returned (.bool true) ∧ Below w.heap.size w w' :=
  @ends_calls (bare Tryz.prog w) Tryz.prog 13 rfl mixed #[] rfl Tryz.f13 _ Tryz.func13 (Option.some_get (x := Tryz.f13.body) (by kernel_rfl)).symm (of_decide_eq_true (by kernel_rfl))
    (@ends_piece (bare Tryz.prog w) Tryz.prog 13 _ _ mixed (hCk w) (noRows _) _ _ _ _ _ (kpiece0 w)
    (@ends_piece (bare Tryz.prog w) Tryz.prog 13 _ _ mixed (hCk w) (noRows _) _ _ _ _ _ (kpiece1 w)
    (@ends_piece (bare Tryz.prog w) Tryz.prog 13 _ _ mixed (hCk w) (noRows _) _ _ _ _ _ (kpiece2 w)
    (@ends_piece (bare Tryz.prog w) Tryz.prog 13 _ _ mixed (hCk w) (noRows _) _ _ _ _ _ (kpiece3 w)
    (@ends_piece (bare Tryz.prog w) Tryz.prog 13 _ _ mixed (hCk w) (noRows _) _ _ _ _ _ (kpiece4 w)
    (@ends_last (bare Tryz.prog w) Tryz.prog 13 _ _ mixed (hCk w) (noRows _) _ _ _ _ (kpiece5 w))))))) w (Below.refl _ _)
end Go.Proofs.YtnfbokaldfdboaaGreat
