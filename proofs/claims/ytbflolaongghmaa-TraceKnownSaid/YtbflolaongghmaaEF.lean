/-
  What is known of signs: rows of facts on ints, proved.
-/
import Derived.Test.YtbflolaongghmaaEB
import Derived.IntWalk
namespace Go.Proofs.Ytbflolaongghmaa
open Go.RowKit
set_option linter.unusedVariables false
set_option linter.unusedSimpArgs false

abbrev cI (n : Int) : Value := .int .i64 n
abbrev sg (n : Nat) : Value := .chan (some n)
/-- an int under a sign, or an int -/
def Is (σ : Nat → Value) (v : Value) (n : Int) : Prop := realV σ v = cI n
theorem Is.lit {σ : Nat → Value} (n : Int) : Is σ (cI n) n := rfl
def FactB (σ : Nat → Value) (e : BinOp × Value × Value × Value) : Prop :=
  (isInt (realV σ e.2.1) = true ∧ isInt (realV σ e.2.2.1) = true) ∧ ∀ (P : Program) (t : TypeId) (w : World), (binOp e.1 t (realV σ e.2.1) (realV σ e.2.2.1)).run P w = .ok (realV σ e.2.2.2) w
def FactM (σ : Nat → Value) (e : Bool × Value × Value × Value) : Prop :=
  ∀ (P : Program) (w : World), (if e.1 then Builtin.max2 (realV σ e.2.1) (realV σ e.2.2.1) else Builtin.min2 (realV σ e.2.1) (realV σ e.2.2.1)).run P w = .ok (realV σ e.2.2.2) w
section
variable {σ : Nat → Value} {x y z : Value} {a b c : Int}
theorem leqF (hx : Is σ x a) (hy : Is σ y b) {t : Bool} (h : decide (a ≤ b) = t) : FactB σ (.leq, x, y, .bool t) := by
  subst h; unfold FactB; rw [hx, hy]; refine ⟨⟨rfl, rfl⟩, fun P ty w => ?_⟩; rw [binOp_leq]; rfl
theorem geqF (hx : Is σ x a) (hy : Is σ y b) {t : Bool} (h : decide (b ≤ a) = t) : FactB σ (.geq, x, y, .bool t) := by
  subst h; unfold FactB; rw [hx, hy]; refine ⟨⟨rfl, rfl⟩, fun P ty w => ?_⟩; rw [binOp_geq]; rfl
theorem lssF (hx : Is σ x a) (hy : Is σ y b) {t : Bool} (h : decide (a < b) = t) : FactB σ (.lss, x, y, .bool t) := by
  subst h; unfold FactB; rw [hx, hy]; refine ⟨⟨rfl, rfl⟩, fun P ty w => ?_⟩; rw [binOp_lss]; rfl
theorem gtrF (hx : Is σ x a) (hy : Is σ y b) {t : Bool} (h : decide (b < a) = t) : FactB σ (.gtr, x, y, .bool t) := by
  subst h; unfold FactB; rw [hx, hy]; refine ⟨⟨rfl, rfl⟩, fun P ty w => ?_⟩; rw [binOp_gtr]; rfl
theorem eqlF (hx : Is σ x a) (hy : Is σ y b) {t : Bool} (h : (a == b) = t) : FactB σ (.eql, x, y, .bool t) := by
  subst h; unfold FactB; rw [hx, hy]; refine ⟨⟨rfl, rfl⟩, fun P ty w => ?_⟩; rw [binOp_eql]; rfl
theorem neqF (hx : Is σ x a) (hy : Is σ y b) {t : Bool} (h : (a != b) = t) : FactB σ (.neq, x, y, .bool t) := by
  subst h; unfold FactB; rw [hx, hy]; refine ⟨⟨rfl, rfl⟩, fun P ty w => ?_⟩; rw [binOp_neq]; rfl
abbrev In64 (n : Int) : Prop := -9223372036854775808 ≤ n ∧ n ≤ 9223372036854775807
theorem addF (hx : Is σ x a) (hy : Is σ y b) (hz : Is σ z c) (h : a + b = c) (hr : In64 c) : FactB σ (.add, x, y, z) := by
  subst h; unfold FactB; rw [hx, hy, hz]; refine ⟨⟨rfl, rfl⟩, fun P ty w => ?_⟩
  rw [binOp_add, Op.intArith, IntWalk.i64_in _ hr]; rfl
theorem subF (hx : Is σ x a) (hy : Is σ y b) (hz : Is σ z c) (h : a - b = c) (hr : In64 c) : FactB σ (.sub, x, y, z) := by
  subst h; unfold FactB; rw [hx, hy, hz]; refine ⟨⟨rfl, rfl⟩, fun P ty w => ?_⟩
  rw [binOp_sub, Op.intArith, IntWalk.i64_in _ hr]; rfl
theorem mulF (hx : Is σ x a) (hy : Is σ y b) (hz : Is σ z c) (h : a * b = c) (hr : In64 c) : FactB σ (.mul, x, y, z) := by
  subst h; unfold FactB; rw [hx, hy, hz]; refine ⟨⟨rfl, rfl⟩, fun P ty w => ?_⟩
  rw [binOp_mul, Op.intArith, IntWalk.i64_in _ hr]; rfl
theorem quoF (hx : Is σ x a) (hy : Is σ y b) (hz : Is σ z c) (h : a.tdiv b = c) (hb : b ≠ 0) (hr : In64 c) : FactB σ (.quo, x, y, z) := by
  subst h; unfold FactB; rw [hx, hy, hz]; refine ⟨⟨rfl, rfl⟩, fun P ty w => ?_⟩
  rw [binOp_quo, Op.intDiv, if_neg hb]; show (pure (Value.int .i64 (IntKind.wrap .i64 (a.tdiv b))) : Sem Value).run P w = _; rw [IntWalk.i64_in _ hr]; rfl
theorem remF (hx : Is σ x a) (hy : Is σ y b) (hz : Is σ z c) (h : a.tmod b = c) (hb : b ≠ 0) : FactB σ (.rem, x, y, z) := by
  subst h; unfold FactB; rw [hx, hy, hz]; refine ⟨⟨rfl, rfl⟩, fun P ty w => ?_⟩
  rw [binOp_rem, Op.intDiv, if_neg hb]; rfl
theorem minF (hx : Is σ x a) (hy : Is σ y b) (hz : Is σ z c) (h : min a b = c) : FactM σ (false, x, y, z) := by
  subst h; unfold FactM; rw [hx, hy, hz]; intro P w
  rw [if_neg (by simp)]; unfold Builtin.min2
  show (pure (Value.int .i64 (if b < a then b else a)) : Sem Value).run P w = _
  rw [show (if b < a then b else a) = min a b by split <;> omega]; rfl
theorem maxF (hx : Is σ x a) (hy : Is σ y b) (hz : Is σ z c) (h : max a b = c) : FactM σ (true, x, y, z) := by
  subst h; unfold FactM; rw [hx, hy, hz]; intro P w
  rw [if_pos rfl]; unfold Builtin.max2
  show (pure (Value.int .i64 (if b > a then b else a)) : Sem Value).run P w = _
  rw [show (if b > a then b else a) = max a b by split <;> omega]; rfl
end
/-- signs that all stand for ints -/
abbrev intEnv (f : Nat → Int) (l : List (BinOp × Value × Value × Value)) (m : List (Bool × Value × Value × Value)) (hl : ∀ e ∈ l, FactB (fun k => cI (f k)) e) (hm : ∀ e ∈ m, FactM (fun k => cI (f k)) e) : Env :=
  { σ := fun k => cI (f k), ints := fun _ => true, okI := fun _ _ => rfl, plain := fun _ => rfl, bins := l, okB := fun op x y z h => hl _ h, mins := m, okM := fun b x y z h => hm _ h }
theorem nilF {α : Type} {p : α → Prop} : ∀ e ∈ ([] : List α), p e := fun _ h => (by cases h)
theorem consF {α : Type} {p : α → Prop} {x : α} {l : List α} (h : p x) (hl : ∀ e ∈ l, p e) : ∀ e ∈ x :: l, p e := List.forall_mem_cons.2 ⟨h, hl⟩
theorem appF {α : Type} {p : α → Prop} {l l' : List α} (h : ∀ e ∈ l, p e) (h' : ∀ e ∈ l', p e) : ∀ e ∈ l ++ l', p e := fun e he => (List.mem_append.1 he).elim (h e) (h' e)
def isTrue : Option Value → Bool
  | some (.bool true) => true
  | _ => false
theorem isTrue_spec {x : Option Value} (h : isTrue x = true) : x = some (.bool true) := by
  unfold isTrue at h
  split at h
  · rfl
  · cases h
/-- a call with no arguments that answers true, as a contract -/
theorem consTrue [Env] {P : Program} {l : List FuncId} (h : ∀ g ∈ l, ∀ w, Calls P g #[] w fun e w' => e = .returned (.bool true) ∧ Below w.heap.size w w') : ConsOk P (l.map fun g => (g, #[], .bool true)) := by
  intro g args v hm w
  obtain ⟨q, hq, he⟩ := List.mem_map.1 hm
  simp only [Prod.mk.injEq] at he
  obtain ⟨rfl, rfl, rfl⟩ := he
  exact h _ hq w
end Go.Proofs.Ytbflolaongghmaa
