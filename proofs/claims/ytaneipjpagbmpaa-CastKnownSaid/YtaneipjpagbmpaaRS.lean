/-
  CastKnown: shifts; seconds at which something holds.
-/
import Derived.Test.YtaneipjpagbmpaaFA
import Derived.Test.YtaneipjpagbmpaaFB
namespace Go.Proofs.Ytaneipjpagbmpaa
open Go.RowKit
set_option linter.unusedVariables false
set_option linter.unusedSimpArgs false
set_option maxRecDepth 100000
set_option maxHeartbeats 4000000
theorem shiftX_any (L : Int) (hL : 0 ≤ L ∧ L ≤ 3001) (w : World) : Calls Try.prog 108 #[.agg #[cI 1000, cI 1000], cI 0, cI L] w fun e w' => e = .returned (.agg #[cI (1000 * L / 1000000), cI (cdv (1000 * L) 1000000)]) ∧ Below w.heap.size w w' := by
  exact (@calls_signs ({ sigE Try.prog w [cI (L), cI (((1000 * L))), cI ((((1000 * L)) / 1000000)), cI ((cdv ((1000 * L)) 1000000))] rfl with bins := [(.mul, (cI 1000), (sg 0), sg 1)], okB := fun op_ x_ y_ z_ h_ => (show ∀ e ∈ [(.mul, (cI 1000), (sg 0), sg 1)], FactB (sigF [cI (L), cI (((1000 * L))), cI ((((1000 * L)) / 1000000)), cI ((cdv ((1000 * L)) 1000000))]) e from (consF (mulF rfl rfl rfl rfl (by constructor <;> omega)) nilF)) _ h_ }) Try.prog rfl mixed [(94, #[(sg 1), (cI 1000000)], (sg 2)), (56, #[(sg 1), (cI 1000000)], (sg 3))] (consK _ (fun w hb => (show Calls Try.prog 94 #[(cI (((1000 * L)))), (cI 1000000)] w (fun e w' => e = .returned ((cI ((((1000 * L)) / 1000000)))) ∧ Below w.heap.size w w') from down_calls _ _ (by constructor <;> omega) (by omega) w)) (consK _ (fun w hb => (show Calls Try.prog 56 #[(cI (((1000 * L)))), (cI 1000000)] w (fun e w' => e = .returned ((cI ((cdv ((1000 * L)) 1000000)))) ∧ Below w.heap.size w w') from up_calls _ _ (by constructor <;> omega) (by omega) w)) (nilK _))) [] (noRows _) 100000 60 108 #[.agg #[cI 1000, cI 1000], cI 0, sg 0] (Go.Value.agg #[(sg 2), (sg 3)]) rfl rfl (by kernel_rfl) w (Below.refl _ _)).mono fun e w' h => ⟨h.1.trans (congrArg Ending.returned (show (Go.Value.agg #[(cI ((((1000 * L)) / 1000000))), (cI ((cdv ((1000 * L)) 1000000)))]) = .agg #[cI (1000 * L / 1000000), cI (cdv (1000 * L) 1000000)] from by rfl)), h.2⟩
theorem shiftY_any (L : Int) (hL : 0 ≤ L ∧ L ≤ 3001) (w : World) : Calls Try.prog 108 #[.agg #[cI 0, cI 0], cI 0, cI L] w fun e w' => e = .returned (.agg #[cI (0 * L / 1000000), cI (cdv (0 * L) 1000000)]) ∧ Below w.heap.size w w' := by
  exact (@calls_signs ({ sigE Try.prog w [cI (L), cI (((0 * L))), cI ((((0 * L)) / 1000000)), cI ((cdv ((0 * L)) 1000000))] rfl with bins := [(.mul, (cI 0), (sg 0), sg 1)], okB := fun op_ x_ y_ z_ h_ => (show ∀ e ∈ [(.mul, (cI 0), (sg 0), sg 1)], FactB (sigF [cI (L), cI (((0 * L))), cI ((((0 * L)) / 1000000)), cI ((cdv ((0 * L)) 1000000))]) e from (consF (mulF rfl rfl rfl rfl (by constructor <;> omega)) nilF)) _ h_ }) Try.prog rfl mixed [(94, #[(sg 1), (cI 1000000)], (sg 2)), (56, #[(sg 1), (cI 1000000)], (sg 3))] (consK _ (fun w hb => (show Calls Try.prog 94 #[(cI (((0 * L)))), (cI 1000000)] w (fun e w' => e = .returned ((cI ((((0 * L)) / 1000000)))) ∧ Below w.heap.size w w') from down_calls _ _ (by constructor <;> omega) (by omega) w)) (consK _ (fun w hb => (show Calls Try.prog 56 #[(cI (((0 * L)))), (cI 1000000)] w (fun e w' => e = .returned ((cI ((cdv ((0 * L)) 1000000)))) ∧ Below w.heap.size w w') from up_calls _ _ (by constructor <;> omega) (by omega) w)) (nilK _))) [] (noRows _) 100000 60 108 #[.agg #[cI 0, cI 0], cI 0, sg 0] (Go.Value.agg #[(sg 2), (sg 3)]) rfl rfl (by kernel_rfl) w (Below.refl _ _)).mono fun e w' h => ⟨h.1.trans (congrArg Ending.returned (show (Go.Value.agg #[(cI ((((0 * L)) / 1000000))), (cI ((cdv ((0 * L)) 1000000)))]) = .agg #[cI (0 * L / 1000000), cI (cdv (0 * L) 1000000)] from by rfl)), h.2⟩
theorem shiftX (L lo hi : Int) (hL : 0 ≤ L ∧ L ≤ 3001) (h1 : 1000000 * lo ≤ 1000 * L ∧ 1000 * L < 1000000 * (lo + 1)) (h2 : 1000000 * (hi - 1) < 1000 * L ∧ 1000 * L ≤ 1000000 * hi) (w : World) : Calls Try.prog 108 #[.agg #[cI 1000, cI 1000], cI 0, cI L] w fun e w' => e = .returned (.agg #[cI lo, cI hi]) ∧ Below w.heap.size w w' := by
  have := shiftX_any L hL w
  rw [show 1000 * L / 1000000 = lo by omega, show cdv (1000 * L) 1000000 = hi by unfold cdv; omega] at this
  exact this
theorem shiftY (L : Int) (hL : 0 ≤ L ∧ L ≤ 3001) (w : World) : Calls Try.prog 108 #[.agg #[cI 0, cI 0], cI 0, cI L] w fun e w' => e = .returned (.agg #[cI 0, cI 0]) ∧ Below w.heap.size w w' := by
  have := shiftY_any L hL w
  rw [show 0 * L / 1000000 = 0 by omega, show cdv (0 * L) 1000000 = 0 by unfold cdv; omega] at this
  exact this
/-- of seconds from a on up to b: the first, the last, how many, behind those below L -/
def fstQ (a L : Int) : Int := if a < L then a else -1
def lstQ (a b L : Int) : Int := if a < L then (if L - 1 ≤ b then L - 1 else b) else -1
def cntQ (a b L : Int) : Int := if a < L then (if L - 1 ≤ b then L - a else b + 1 - a) else 0
theorem cntQ_bd (a b L : Int) (h : 0 ≤ a ∧ a ≤ 10000 ∧ b ≤ 10000 ∧ a ≤ b + 1 ∧ L ≤ 3001 ∧ 0 ≤ L) : 0 ≤ cntQ a b L ∧ cntQ a b L ≤ 10001 := by
  unfold cntQ; (repeat' split) <;> omega
noncomputable def loopBodyQ (P : Program) (g : FuncId) (p : List Bool) : Code := match codeAt P g p with
  | some (.loop b) => b
  | _ => .skip
end Go.Proofs.Ytaneipjpagbmpaa
