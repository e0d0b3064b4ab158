/-
  Facts on signs; quotients rounded down.
-/
import Derived.Test.YtaneipjpagbmpaaProg
import Derived.Test.YtaneipjpagbmpaaEF
import Derived.Test.YtaneipjpagbmpaaWK
import Derived.KernelRfl
namespace Go.Proofs.Ytaneipjpagbmpaa
open Go.RowKit
set_option linter.unusedVariables false
set_option linter.unusedSimpArgs false
set_option maxRecDepth 100000
theorem bT {a b : Int} (h : a = b) : (a == b) = true := by simp [h]
theorem bN {a b : Int} (h : ¬ a = b) : (a == b) = false := by simp [h]
theorem cT {a b : Int} (h : a = b) : (a != b) = false := by simp [h]
theorem cN {a b : Int} (h : ¬ a = b) : (a != b) = true := by simp [h]
theorem noRows (E : Env) {P : Program} : @LoopsOk E P [] := fun _ h => (by cases h)
theorem nilK (E : Env) {P : Program} : @ConsOk E P [] := fun _ _ _ h => (by cases h)
theorem consK (E : Env) {P : Program} {g : FuncId} {args : Array Value} {v : Value} {K : Cons} (h : ∀ w, Below E.base.heap.size E.base w → Calls P g (realA E.σ args) w fun e w' => e = .returned (realD E.σ v) ∧ Below w.heap.size w w') (t : @ConsOk E P K) : @ConsOk E P ((g, args, v) :: K) := by
  intro g' args' v' hm
  rcases List.mem_cons.1 hm with e | hm
  · simp only [Prod.mk.injEq] at e
    obtain ⟨rfl, rfl, rfl⟩ := e
    exact h
  · exact t g' args' v' hm
def FactC (P : Program) (σ : Nat → Value) (e : TypeId × TypeId × Value × Value) : Prop := ∀ w, (convert e.1 e.2.1 (realV σ e.2.2.1)).run P w = .ok (realV σ e.2.2.2) w
def FactL (P : Program) (σ : Nat → Value) (e : TypeId × Value × Value) : Prop := ∀ ty w, (Builtin.len_ #[e.1] ty #[realV σ e.2.1]).run P w = .ok (realV σ e.2.2) w
def FactI (P : Program) (σ : Nat → Value) (e : TypeId × Value × Value × Value) : Prop := ∀ w, (Instr.indexAt e.1 (realV σ e.2.1) (realV σ e.2.2.1)).run P w = .ok (realV σ e.2.2.2) w
def FactD (P : Program) (W : World) (σ : Nat → Value) (e : TypeId × Value × Value) : Prop := flat e.2.2 = true ∧ ∀ w, Below W.heap.size W w → (Instr.loadAt e.1 (realV σ e.2.1)).run P w = .ok (realD σ e.2.2) w
theorem quoP {σ : Nat → Value} {x y z : Value} {a b : Int} (hx : Is σ x a) (hy : Is σ y b) (hz : Is σ z (a.tdiv b)) (ha : -4611686018427387904 ≤ a ∧ a ≤ 4611686018427387904) (hb : 1 ≤ b) : FactB σ (.quo, x, y, z) := by
  refine quoF hx hy hz rfl (by omega) ?_
  have h := IntWalk.i64_quo' a b ⟨by omega, by omega, hb⟩
  rw [tdiv_eq_if]
  split
  · rename_i h0; have := IntWalk.tdiv_le a b h0 hb; constructor <;> omega
  · rename_i h0; have := IntWalk.tdiv_le (-a) b (by omega) hb; constructor <;> omega
theorem tdiv_bd {a b : Int} (ha : -4000000000000000000 ≤ a ∧ a ≤ 4000000000000000000) (hb : 1 ≤ b) : -4000000000000000000 ≤ a.tdiv b ∧ a.tdiv b ≤ 4000000000000000000 := by
  rw [tdiv_eq_if]
  split
  · rename_i h0; have := IntWalk.tdiv_le a b h0 hb; constructor <;> omega
  · rename_i h0; have := IntWalk.tdiv_le (-a) b (by omega) hb; constructor <;> omega
/-- rounded up -/
def cdv (a b : Int) : Int := -((-a) / b)
theorem down_lt {a b : Int} (hb : 1 ≤ b) (h : a.tmod b < 0) : a.tdiv b - 1 = a / b := by
  have e1 := Int.mul_tdiv_add_tmod a b
  have e2 := Int.emod_add_mul_ediv a b
  have e3 := Int.emod_nonneg a (b := b) (by omega)
  have e4 := Int.emod_lt_of_pos a (b := b) (by omega)
  have e5 : -b < a.tmod b := by have := Int.lt_tmod_of_pos a (b := b) (by omega); omega
  have : b * (a.tdiv b - 1) + (a.tmod b + b) = a := by rw [Int.mul_sub]; omega
  have s1 : 0 < a.tmod b + b := by omega
  have s2 : a.tmod b + b < b := by omega
  clear e1
  have h2 : (a.tdiv b - 1) - a / b = 0 := by
    generalize a.tdiv b - 1 = p at *
    generalize a / b = q at *
    generalize a.tmod b + b = s at *
    have h3 : b * (p - q) = a % b - s := by rw [Int.mul_sub]; omega
    have h4 : b * (p - q) < b * 1 := by omega
    have h5 : b * (-1) < b * (p - q) := by omega
    have h6 := Int.lt_of_mul_lt_mul_left h4 (by omega)
    have h7 := Int.lt_of_mul_lt_mul_left h5 (by omega)
    omega
  omega
theorem down_ge {a b : Int} (hb : 1 ≤ b) (h : ¬ a.tmod b < 0) : a.tdiv b = a / b := by
  have e1 := Int.mul_tdiv_add_tmod a b
  have e2 := Int.emod_add_mul_ediv a b
  have e3 := Int.emod_nonneg a (b := b) (by omega)
  have e4 := Int.emod_lt_of_pos a (b := b) (by omega)
  have e5 := Int.tmod_lt_of_pos a (b := b) (by omega)
  have h2 : a.tdiv b - a / b = 0 := by
    generalize a.tdiv b = p at *
    generalize a / b = q at *
    have h3 : b * (p - q) = a % b - a.tmod b := by rw [Int.mul_sub]; omega
    have h4 : b * (p - q) < b * 1 := by omega
    have h5 : b * (-1) < b * (p - q) := by omega
    have h6 := Int.lt_of_mul_lt_mul_left h4 (by omega)
    have h7 := Int.lt_of_mul_lt_mul_left h5 (by omega)
    omega
  omega
theorem down_calls (a b : Int) (ha : -4000000000000000000 ≤ a ∧ a ≤ 4000000000000000000) (hb : 1 ≤ b) (w : World) : Calls Try.prog 94 #[cI a, cI b] w fun e w' => e = .returned (cI (a / b)) ∧ Below w.heap.size w w' := by
  have hq := tdiv_bd ha hb
  by_cases h0 : ((a).tmod (b)) < 0
  · exact (@calls_signs ({ sigE Try.prog w [cI (a), cI (b), cI (((a).tdiv (b))), cI (((a).tmod (b))), cI (((((a).tdiv (b)) - 1)))] rfl with bins := [(.quo, (sg 0), (sg 1), sg 2), (.rem, (sg 0), (sg 1), sg 3), (.lss, (sg 3), (cI 0), .bool true), (.sub, (sg 2), (cI 1), sg 4)], okB := fun op x y z h => (show ∀ e ∈ [(.quo, (sg 0), (sg 1), sg 2), (.rem, (sg 0), (sg 1), sg 3), (.lss, (sg 3), (cI 0), .bool true), (.sub, (sg 2), (cI 1), sg 4)], FactB (sigF [cI (a), cI (b), cI (((a).tdiv (b))), cI (((a).tmod (b))), cI (((((a).tdiv (b)) - 1)))]) e from (consF (quoP rfl rfl rfl (by constructor <;> omega) (by omega)) (consF (remF rfl rfl rfl rfl (by omega)) (consF (lssF rfl rfl (decide_eq_true h0)) (consF (subF rfl rfl rfl rfl (by constructor <;> omega)) nilF))))) _ h }) Try.prog rfl mixed [] (nilK _) [] (noRows _) 100000 60 94 #[sg 0, sg 1] (sg 4) rfl rfl (by kernel_rfl) w (Below.refl _ _)).mono fun e w' h => ⟨h.1.trans (congrArg Ending.returned (show (cI (((((a).tdiv (b)) - 1)))) = cI (a / b) from by first | (rw [down_lt hb h0]) | (rw [down_ge hb h0]))), h.2⟩
  · exact (@calls_signs ({ sigE Try.prog w [cI (a), cI (b), cI (((a).tdiv (b))), cI (((a).tmod (b)))] rfl with bins := [(.quo, (sg 0), (sg 1), sg 2), (.rem, (sg 0), (sg 1), sg 3), (.lss, (sg 3), (cI 0), .bool false)], okB := fun op x y z h => (show ∀ e ∈ [(.quo, (sg 0), (sg 1), sg 2), (.rem, (sg 0), (sg 1), sg 3), (.lss, (sg 3), (cI 0), .bool false)], FactB (sigF [cI (a), cI (b), cI (((a).tdiv (b))), cI (((a).tmod (b)))]) e from (consF (quoP rfl rfl rfl (by constructor <;> omega) (by omega)) (consF (remF rfl rfl rfl rfl (by omega)) (consF (lssF rfl rfl (decide_eq_false h0)) nilF)))) _ h }) Try.prog rfl mixed [] (nilK _) [] (noRows _) 100000 60 94 #[sg 0, sg 1] (sg 2) rfl rfl (by kernel_rfl) w (Below.refl _ _)).mono fun e w' h => ⟨h.1.trans (congrArg Ending.returned (show (cI (((a).tdiv (b)))) = cI (a / b) from by first | (rw [down_lt hb h0]) | (rw [down_ge hb h0]))), h.2⟩
end Go.Proofs.Ytaneipjpagbmpaa
