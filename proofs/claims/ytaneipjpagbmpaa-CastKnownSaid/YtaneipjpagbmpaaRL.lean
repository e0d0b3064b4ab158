/-
  A loop's row, out of a run of the small machine.
-/
import Derived.Test.YtaneipjpagbmpaaEC
import Derived.Test.YtaneipjpagbmpaaEG
namespace Go.Proofs.Ytaneipjpagbmpaa
open Go.RowKit
set_option linter.unusedVariables false
section
variable [Env] {P : Program} {call : CallF}
theorem loop_rounds (hm : P.follows .mixedOrders = true) (hcall : CallS P call) {rd rr : Option Nat} {g : FuncId} {p : List Bool} {b : Code} (hat : codeAt P g p = some (.loop b)) {w0 : Base} {Q : Exit → Act → World → Prop} :
    ∀ (f : Nat) (a : MA) (m : Mini) (x : XM) (a1 : MA) (m1 : Mini), evCode P call [] rd g f p (.loop b) a m = some (x, a1, m1) → ∀ (w : World) (ρ : Nm) (a' : Act), RD ρ rd rr → ActR ρ a a' → WR P w0 ρ m w →
      (∀ ρ' a1' w', Ext ρ ρ' → ActR ρ' a1 a1' → WR P w0 ρ' m1 w' → Q x.out a1' w') → Code.roundsIn (WF rr) 0 P b Q f a' w
  | 0, a, m, x, a1, m1, h => by simp [evCode] at h
  | f + 1, a, m, x, a1, m1, h => fun w ρ a' hrd ha hw hK => by
    have hL : LoopsOk P [] := fun _ h => (by cases h)
    have hbc := codeAt_child hat false (x := b) rfl
    simp only [evCode, findRow] at h
    rw [roundsIn_succ]
    split at h
    · rename_i a2 m2 h2
      refine evCode_run hm hcall hL hbc h2 hrd ha hw fun ρ' a2' w' x' y z => ?_
      exact loop_rounds hm hcall hat f _ _ _ _ _ h w' ρ' a2' (hrd.ext x') y z fun ρ'' a1' w'' x'' y' z' => hK ρ'' a1' w'' (x'.trans x'') y' z'
    · rename_i hne
      refine evCode_run hm hcall hL hbc h hrd ha hw fun ρ' a2' w' x' y z => ?_
      cases x with
      | normal => exact absurd h (hne _ _)
      | exit id => exact hK ρ' a2' w' x' y z
      | ret => exact hK ρ' a2' w' x' y z
noncomputable def rowRuns (P : Program) (call : CallF) (f : Nat) (r : LoopRow) : Bool := match codeAt P r.fn r.place with
  | some (.loop b) => match evCode P call [] r.rd r.fn f r.place (.loop b) r.a r.m with
    | some (x, a1, m1) => eqX x r.x && eqAct a1 r.a1 && eqMini m1 r.m1
    | none => false
  | _ => false
theorem row_of_run (hm : P.follows .mixedOrders = true) (hcall : CallS P call) {f : Nat} {r : LoopRow} (h : rowRuns P call f r = true) : RowOk P r := by
  unfold rowRuns at h
  split at h
  case h_2 => cases h
  rename_i b hb
  split at h
  case h_2 => cases h
  rename_i x a1 m1 hrun
  simp only [Bool.and_eq_true] at h
  have e1 := eqX_sound h.1.1; have e2 := eqAct_sound h.1.2; have e3 := eqMini_sound h.2
  subst e1 e2 e3
  refine ⟨f, fun w0 rr Q w ρ a' hrd ha hw hK b' hb' => ?_⟩
  rw [hb] at hb'; injection hb' with hb'; injection hb' with hb'; subst hb'
  exact loop_rounds hm hcall hb f _ _ _ _ _ hrun w ρ a' hrd ha hw hK
theorem loop_rounds1 (hm : P.follows .mixedOrders = true) (hcall : CallS P call) {r0 : LoopRow} (h0 : RowOk P r0) {rd : Option Nat} {g : FuncId} {p : List Bool} {b : Code} (hat : codeAt P g p = some (.loop b)) : ∃ M0 : Nat,
    ∀ (f : Nat) (a : MA) (m : Mini) (x : XM) (a1 : MA) (m1 : Mini), evCode P call [r0] rd g f p (.loop b) a m = some (x, a1, m1) → ∀ (w0 : Base) (rr : Option Nat) (Q : Exit → Act → World → Prop) (w : World) (ρ : Nm) (a' : Act), RD ρ rd rr → ActR ρ a a' → WR P w0 ρ m w →
      (∀ ρ' a1' w', Ext ρ ρ' → ActR ρ' a1 a1' → WR P w0 ρ' m1 w' → Q x.out a1' w') → Code.roundsIn (WF rr) 0 P b Q (f + M0) a' w := by
  have hL := loopsOne h0
  obtain ⟨M0, hM0⟩ := h0
  refine ⟨M0, fun f => ?_⟩
  induction f with
  | zero => intro a m x a1 m1 h; simp [evCode] at h
  | succ f ih =>
    intro a m x a1 m1 h w0 rr Q w ρ a' hrd ha hw hK
    have hbc := codeAt_child hat false (x := b) rfl
    simp only [evCode] at h
    split at h
    · rename_i r hr
      obtain ⟨k1, k2, k3, k4, k5, k6⟩ := findRow_spec _ hr
      simp only [Option.some.injEq, Prod.mk.injEq] at h
      obtain ⟨rfl, rfl, rfl⟩ := h
      have := List.mem_singleton.1 k1
      subst k2 k3 k4 k5 k6 this
      exact roundsIn_le (by omega) (hM0 w0 rr Q w ρ a' hrd ha hw hK b hat)
    · rw [show f + 1 + M0 = (f + M0) + 1 by omega, roundsIn_succ]
      split at h
      · rename_i a2 m2 h2
        refine evCode_run hm hcall hL hbc h2 hrd ha hw fun ρ' a2' w' x' y z => ?_
        exact ih _ _ _ _ _ h w0 rr Q w' ρ' a2' (hrd.ext x') y z fun ρ'' a1' w'' x'' y' z' => hK ρ'' a1' w'' (x'.trans x'') y' z'
      · rename_i hne
        refine evCode_run hm hcall hL hbc h hrd ha hw fun ρ' a2' w' x' y z => ?_
        cases x with
        | normal => exact absurd h (hne _ _)
        | exit id => exact hK ρ' a2' w' x' y z
        | ret => exact hK ρ' a2' w' x' y z
noncomputable def rowRuns1 (P : Program) (call : CallF) (f : Nat) (r0 r : LoopRow) : Bool := match codeAt P r.fn r.place with
  | some (.loop b) => match evCode P call [r0] r.rd r.fn f r.place (.loop b) r.a r.m with
    | some (x, a1, m1) => eqX x r.x && eqAct a1 r.a1 && eqMini m1 r.m1
    | none => false
  | _ => false
theorem row_of_run1 (hm : P.follows .mixedOrders = true) (hcall : CallS P call) {f : Nat} {r0 r : LoopRow} (h0 : RowOk P r0) (h : rowRuns1 P call f r0 r = true) : RowOk P r := by
  unfold rowRuns1 at h
  split at h
  case h_2 => cases h
  rename_i b hb
  split at h
  case h_2 => cases h
  rename_i x a1 m1 hrun
  simp only [Bool.and_eq_true] at h
  have e1 := eqX_sound h.1.1; have e2 := eqAct_sound h.1.2; have e3 := eqMini_sound h.2
  subst e1 e2 e3
  obtain ⟨M0, hM⟩ := loop_rounds1 hm hcall h0 (rd := r.rd) hb
  refine ⟨f + M0, fun w0 rr Q w ρ a' hrd ha hw hK b' hb' => ?_⟩
  rw [hb] at hb'; injection hb' with hb'; injection hb' with hb'; subst hb'
  exact hM f _ _ _ _ _ hrun w0 rr Q w ρ a' hrd ha hw hK
end
end Go.Proofs.Ytaneipjpagbmpaa
