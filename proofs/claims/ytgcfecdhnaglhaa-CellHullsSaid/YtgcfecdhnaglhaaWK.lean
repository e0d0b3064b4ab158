/-
  The pinned samples: worked out.
-/
import Derived.Test.YtgcfecdhnaglhaaPA
import Derived.Test.YtgcfecdhnaglhaaPB
import Derived.Test.YtgcfecdhnaglhaaPC
import Derived.Test.YtgcfecdhnaglhaaPD
import Derived.Test.YtgcfecdhnaglhaaPE
import Derived.Test.YtgcfecdhnaglhaaPF
namespace Go.Proofs.Ytgcfecdhnaglhaa
open Go.RowKit
set_option linter.unusedVariables false
set_option linter.unusedSimpArgs false
set_option maxRecDepth 100000
theorem hC (w : World) : @CallS (bare Try.prog w) Try.prog (wc w) := @evCall_spec (bare Try.prog w) Try.prog rfl mixed [] (fun _ _ _ h => (by cases h)) [] (fun _ h => (by cases h)) 100000 59
theorem hN (w : World) : @LoopsOk (bare Try.prog w) Try.prog [] := fun _ h => (by cases h)
theorem works_true (w : World) : Calls Try.prog 9 #[] w fun e w' => e = .returned (.bool true) ∧ Below w.heap.size w w' :=
  @ends_calls (bare Try.prog w) Try.prog 9 rfl mixed #[] rfl Try.f9 _ Try.func9 (Option.some_get (x := Try.f9.body) (by kernel_rfl)).symm (of_decide_eq_true (by kernel_rfl))
    (@ends_piece (bare Try.prog w) Try.prog 9 _ _ mixed (hC w) (hN w) _ _ _ _ _ (piece0 w)
    (@ends_piece (bare Try.prog w) Try.prog 9 _ _ mixed (hC w) (hN w) _ _ _ _ _ (piece1 w)
    (@ends_piece (bare Try.prog w) Try.prog 9 _ _ mixed (hC w) (hN w) _ _ _ _ _ (piece2 w)
    (@ends_piece (bare Try.prog w) Try.prog 9 _ _ mixed (hC w) (hN w) _ _ _ _ _ (piece3 w)
    (@ends_piece (bare Try.prog w) Try.prog 9 _ _ mixed (hC w) (hN w) _ _ _ _ _ (piece4 w)
    (@ends_last (bare Try.prog w) Try.prog 9 _ _ mixed (hC w) (hN w) _ _ _ _ (piece5 w))))))) w (Below.refl _ _)
end Go.Proofs.Ytgcfecdhnaglhaa
