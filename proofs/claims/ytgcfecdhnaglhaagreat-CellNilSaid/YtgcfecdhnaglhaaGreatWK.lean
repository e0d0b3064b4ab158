/-
  The pinned samples: worked out.
-/
import Derived.Test.YtgcfecdhnaglhaaGreatPA
import Derived.Test.YtgcfecdhnaglhaaGreatPB
import Derived.Test.YtgcfecdhnaglhaaGreatPC
import Derived.Test.YtgcfecdhnaglhaaGreatPD
import Derived.Test.YtgcfecdhnaglhaaGreatPE
import Derived.Test.YtgcfecdhnaglhaaGreatPF
namespace Go.Proofs.YtgcfecdhnaglhaaGreat
open Go.RowKit
set_option linter.unusedVariables false
set_option linter.unusedSimpArgs false
set_option maxRecDepth 100000
theorem hC (w : World) : @CallS (bare Tryz.prog w) Tryz.prog (wc w) := @evCall_spec (bare Tryz.prog w) Tryz.prog rfl mixed [] (fun _ _ _ h => (by cases h)) [] (fun _ h => (by cases h)) 100000 59
theorem hN (w : World) : @LoopsOk (bare Tryz.prog w) Tryz.prog [] := fun _ h => (by cases h)
theorem works_true (w : World) : Calls Tryz.prog 11 #[] w fun e w' => e = .returned (.bool true) ∧ Below w.heap.size w w' :=
  @ends_calls (bare Tryz.prog w) Tryz.prog 11 rfl mixed #[] rfl Tryz.f11 _ Tryz.func11 (Option.some_get (x := Tryz.f11.body) (by kernel_rfl)).symm (of_decide_eq_true (by kernel_rfl))
    (@ends_piece (bare Tryz.prog w) Tryz.prog 11 _ _ mixed (hC w) (hN w) _ _ _ _ _ (piece0 w)
    (@ends_piece (bare Tryz.prog w) Tryz.prog 11 _ _ mixed (hC w) (hN w) _ _ _ _ _ (piece1 w)
    (@ends_piece (bare Tryz.prog w) Tryz.prog 11 _ _ mixed (hC w) (hN w) _ _ _ _ _ (piece2 w)
    (@ends_piece (bare Tryz.prog w) Tryz.prog 11 _ _ mixed (hC w) (hN w) _ _ _ _ _ (piece3 w)
    (@ends_piece (bare Tryz.prog w) Tryz.prog 11 _ _ mixed (hC w) (hN w) _ _ _ _ _ (piece4 w)
    (@ends_last (bare Tryz.prog w) Tryz.prog 11 _ _ mixed (hC w) (hN w) _ _ _ _ (piece5 w))))))) w (Below.refl _ _)
end Go.Proofs.YtgcfecdhnaglhaaGreat
