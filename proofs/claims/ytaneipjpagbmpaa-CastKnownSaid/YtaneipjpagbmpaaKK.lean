/-
  CastKnown: worked out.
-/
import Derived.Test.YtaneipjpagbmpaaQA
import Derived.Test.YtaneipjpagbmpaaQB
import Derived.Test.YtaneipjpagbmpaaQC
import Derived.Test.YtaneipjpagbmpaaQD
import Derived.Test.YtaneipjpagbmpaaQE
import Derived.Test.YtaneipjpagbmpaaQF
import Derived.Test.YtaneipjpagbmpaaQG
import Derived.Test.YtaneipjpagbmpaaFA
namespace Go.Proofs.Ytaneipjpagbmpaa
open Go.RowKit
set_option linter.unusedVariables false
set_option linter.unusedSimpArgs false
set_option maxRecDepth 100000
set_option maxHeartbeats 4000000
theorem CastKnown_walk (w : World) : Calls Try.prog 13 #[] w fun e w' => e = .returned (.bool true) ∧ Below w.heap.size w w' :=
  @ends_calls (bare Try.prog w) Try.prog 13 rfl mixed #[] rfl Try.f13 _ Try.func13 (Option.some_get (x := Try.f13.body) (by kernel_rfl)).symm (of_decide_eq_true (by kernel_rfl))
    (@ends_piece (bare Try.prog w) Try.prog 13 _ _ mixed (hCk w (noRows _)) (noRows _) _ _ _ _ _ (kpiece0 w)
    (@ends_piece (bare Try.prog w) Try.prog 13 _ _ mixed (hCk w (noRows _)) (noRows _) _ _ _ _ _ (kpiece1 w)
    (@ends_piece (bare Try.prog w) Try.prog 13 _ _ mixed (hCk w (loopsOne (wj_row w))) (loopsOne (wj_row w)) _ _ _ _ _ (kpiece2 w)
    (@ends_piece (bare Try.prog w) Try.prog 13 _ _ mixed (hCk w (noRows _)) (noRows _) _ _ _ _ _ (kpiece3 w)
    (@ends_piece (bare Try.prog w) Try.prog 13 _ _ mixed (hCk w (loopsOne (w1_row w))) (loopsOne (w1_row w)) _ _ _ _ _ (kpiece4 w)
    (@ends_piece (bare Try.prog w) Try.prog 13 _ _ mixed (hCk w (loopsOne (w2_row w))) (loopsOne (w2_row w)) _ _ _ _ _ (kpiece5 w)
    (@ends_last (bare Try.prog w) Try.prog 13 _ _ mixed (hCk w (loopsOne (w3_row w))) (loopsOne (w3_row w)) _ _ _ _ (kpiece6 w)))))))) w (Below.refl _ _)
end Go.Proofs.Ytaneipjpagbmpaa
