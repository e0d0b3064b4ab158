/-
  A small machine that works closed calls out: values, names of blocks, what it means that a world is like it.
-/
import Derived.Orders
import Derived.Below
import Derived.Tactics
namespace Go.Proofs.Ytaneipjpagbmpaa
open Go.RowKit
set_option linter.unusedVariables false
set_option linter.unusedSimpArgs false
set_option linter.unusedSectionVars false

/-! ### Values without addresses -/
def noLoop : Fn → Bool
  | .yield _ => false
  | _ => true
mutual
def pureV : Value → Bool
  | .bool _ => true
  | .int _ _ => true
  | .float _ _ => false
  | .complex _ _ _ => true
  | .string _ => true
  | .pointer a => a.isNone
  | .slice a _ _ => a.isNone
  | .map r => r.isNone
  | .chan r => r.isNone
  | .func fn first cap => noLoop fn && pureA first && pureA cap
  | .nilFunc => true
  | .iface _ v => pureV v
  | .nilIface => true
  | .agg cs => pureA cs
  | .tuple vs => pureA vs
def pureA : Array Value → Bool
  | ⟨l⟩ => pureL l
def pureL : List Value → Bool
  | [] => true
  | v :: vs => pureV v && pureL vs
end
theorem pureL_get : ∀ (l : List Value), pureL l = true → ∀ i (h : i < l.length), pureV l[i] = true
  | [], _, i, h => by simp at h
  | v :: vs, hp, 0, h => by rw [pureL, Bool.and_eq_true] at hp; exact hp.1
  | v :: vs, hp, i + 1, h => by rw [pureL, Bool.and_eq_true] at hp; exact pureL_get vs hp.2 i (by simpa using h)
theorem pureA_get {xs : Array Value} (hp : pureA xs = true) (i : Nat) (h : i < xs.size) : pureV xs[i] = true := by
  obtain ⟨l⟩ := xs
  rw [pureA] at hp
  exact pureL_get l hp i h

/-! ### Names of blocks: of each its block, where it begins, and how many elements may follow -/
abbrev Nm := Nat → Option (Nat × Nat × Nat)
def Ext (ρ ρ' : Nm) : Prop := ∀ n t, ρ n = some t → ρ' n = some t
theorem Ext.refl (ρ : Nm) : Ext ρ ρ := fun _ _ h => h
theorem Ext.trans {a b c : Nm} (h : Ext a b) (k : Ext b c) : Ext a c := fun n t e => k n t (h n t e)

def cellV : Value → Bool
  | .agg _ => false
  | .tuple _ => false
  | .bool _ => false
  | _ => true
/-- a sign stands for a value; what else stands for itself -/
def realV (σ : Nat → Value) : Value → Value
  | .chan (some k) => σ k
  | v => v
def isInt : Value → Bool
  | .int _ _ => true
  | _ => false
/-- stands for whatever value -/
abbrev anyV : Value := .float .f64 0
def isAny : Value → Bool
  | .float _ _ => true
  | _ => false
mutual
def realD (σ : Nat → Value) : Value → Value
  | .chan r => realV σ (.chan r)
  | .agg cs => .agg (realA σ cs)
  | .tuple cs => .tuple (realA σ cs)
  | v => v
def realA (σ : Nat → Value) : Array Value → Array Value
  | ⟨l⟩ => ⟨realL σ l⟩
def realL (σ : Nat → Value) : List Value → List Value
  | [] => []
  | v :: l => realD σ v :: realL σ l
end
mutual
def flat : Value → Bool
  | .chan _ => true
  | .agg cs => flatA cs
  | .tuple cs => flatA cs
  | .bool _ => true
  | .int _ _ => true
  | .string _ => true
  | .pointer a => a.isNone
  | .slice a _ _ => a.isNone
  | .map r => r.isNone
  | .nilFunc => true
  | .nilIface => true
  | _ => false
def flatA : Array Value → Bool
  | ⟨l⟩ => flatL l
def flatL : List Value → Bool
  | [] => true
  | v :: l => flat v && flatL l
end
/-- an index under a number: odd ones are themselves, even ones are signs -/
def idxOf (σ : Nat → Value) (c : Nat) : Option Nat :=
  if c % 2 = 1 then some (c / 2) else match σ (c / 2) with
    | .int .i64 (.ofNat i) => some i
    | _ => none
def codeOf : Value → Option Nat
  | .chan (some s) => some (2 * s)
  | .int .i64 (.ofNat i) => some (2 * i + 1)
  | _ => none
/-- what may stand in the tables -/
def tabV : Value → Bool
  | .bool _ => true
  | .int _ _ => true
  | .chan (some _) => true
  | _ => false
/-- signs for values that are not known, and what is known of them -/
class Env where
  σ : Nat → Value
  ints : Nat → Bool
  okI : ∀ k, ints k = true → isInt (σ k) = true
  plain : ∀ k, cellV (σ k) = true
  bins : List (BinOp × Value × Value × Value)
  okB : ∀ op x y z, (op, x, y, z) ∈ bins → (isInt (realV σ x) = true ∧ isInt (realV σ y) = true) ∧ ∀ (P : Program) (t : TypeId) (w : World), (binOp op t (realV σ x) (realV σ y)).run P w = .ok (realV σ z) w
  mins : List (Bool × Value × Value × Value)
  okM : ∀ b x y z, (b, x, y, z) ∈ mins → ∀ (P : Program) (w : World), (if b then Builtin.max2 (realV σ x) (realV σ y) else Builtin.min2 (realV σ x) (realV σ y)).run P w = .ok (realV σ z) w
  /-- the program, and the world in which all begins -/
  prog : Program
  base : World
  lods : List (TypeId × Value × Value)
  okLd : ∀ t x r, (t, x, r) ∈ lods → flat r = true ∧ ∀ w, Below base.heap.size base w → (Instr.loadAt t (realV σ x)).run prog w = .ok (realD σ r) w
  idxs : List (TypeId × Value × Value × Value)
  okIx : ∀ t x i r, (t, x, i, r) ∈ idxs → ∀ w, (Instr.indexAt t (realV σ x) (realV σ i)).run prog w = .ok (realV σ r) w
  slcs : List (TypeId × Value × Value × Value)
  okSl : ∀ t x i r, (t, x, i, r) ∈ slcs → ∀ w, (Instr.sliceAt t (realV σ x) (some (realV σ i)) none none).run prog w = .ok (realV σ r) w
  fads : List (TypeId × Value × Nat × Value)
  okFa : ∀ t x f r, (t, x, f, r) ∈ fads → ∀ w, (Instr.fieldAt t (realV σ x) f).run prog w = .ok (realV σ r) w
  lens : List (TypeId × Value × Value)
  okLe : ∀ t x r, (t, x, r) ∈ lens → ∀ ty w, (Builtin.len_ #[t] ty #[realV σ x]).run prog w = .ok (realV σ r) w
  cvts : List (TypeId × TypeId × Value × Value)
  okCv : ∀ s t x r, (s, t, x, r) ∈ cvts → ∀ w, (convert s t (realV σ x)).run prog w = .ok (realV σ r) w
  /-- rows of which only the contents' names are known -/
  rows : Nat → List Value
  lenR : Nat → Nat
  lenT : List (Nat × Value)
  okLt : ∀ L v, (L, v) ∈ lenT → realV σ v = goInt (lenR L)
  inT : List (Nat × Value)
  okIn : ∀ L v, (L, v) ∈ inT → ∃ i : Nat, realV σ v = .int .i64 i ∧ i < lenR L
  gets : List (Nat × Nat × Nat × Value)
  okGe : ∀ k c z v, (k, c, z, v) ∈ gets → flat v = true ∧ v.cells.size = z ∧ ∃ i, idxOf σ c = some i ∧ (realD σ v).cells.toList = ((rows k).drop (i * z)).take z
  apps : List (Nat × Nat × Array Value × Nat × Nat × Nat)
  okAp : ∀ k L xs n k' L', (k, L, xs, n, k', L') ∈ apps → flatA xs = true ∧ rows k' = rows k ++ (realA σ xs).toList ∧ lenR L' = lenR L + n ∧ lenR L ≤ 1048576 ∧ (lenR L = 0 → rows k = [])
variable [Env]
inductive VR (ρ : Nm) : Value → Value → Prop
  | sign (k : Nat) : VR ρ (.chan (some k)) (Env.σ k)
  | same (v : Value) (h : pureV v = true) : VR ρ v v
  | ptr (n o b d e : Nat) (h : ρ n = some (b, d, e)) : VR ρ (.pointer (some ⟨n, o, none⟩)) (.pointer (some ⟨b, d + o, none⟩))
  | slice (n o b d e l c : Nat) (h : ρ n = some (b, d, e)) : VR ρ (.slice (some ⟨n, o, none⟩) l c) (.slice (some ⟨b, d + o, none⟩) l (c + e))
  | hollow (n o q : Nat) (a : Addr) (c : Nat) : VR ρ (.slice (some ⟨n, o, some q⟩) 0 0) (.slice (some a) 0 c)
  | any (v' : Value) : VR ρ anyV v'
  | row (n L b d e : Nat) (h : ρ n = some (b, d, e)) : VR ρ (.slice (some ⟨n, L, some 0⟩) 0 1) (.slice (some ⟨b, d, none⟩) (Env.lenR L) (Env.lenR L + e))
  | rnil (n L : Nat) (h : Env.lenR L = 0) : VR ρ (.slice (some ⟨n, L, some 0⟩) 0 1) (.slice none 0 0)
  | elem (n f q b d e i : Nat) (h : ρ n = some (b, d, e)) (hi : idxOf Env.σ (q / 64) = some i) : VR ρ (.pointer (some ⟨n, f, some q⟩)) (.pointer (some ⟨b, d + i * (q % 64) + f, none⟩))
  | map (n b : Nat) (h : ρ n = some (b, 0, 0)) : VR ρ (.map (some n)) (.map (some b))
  | yield (n b : Nat) (h : ρ n = some (b, 0, 0)) : VR ρ (.func (.yield n) #[] #[]) (.func (.yield b) #[] #[])
  | func (fn : Fn) (hn : noLoop fn = true) (xs ys us vs : Array Value) (h1 : xs.size = ys.size) (h2 : ∀ i (h : i < xs.size) (h' : i < ys.size), VR ρ xs[i] ys[i]) (h3 : us.size = vs.size) (h4 : ∀ i (h : i < us.size) (h' : i < vs.size), VR ρ us[i] vs[i]) : VR ρ (.func fn xs us) (.func fn ys vs)
  | iface (t : TypeId) (v v' : Value) (h : VR ρ v v') : VR ρ (.iface t v) (.iface t v')
  | agg (xs ys : Array Value) (h1 : xs.size = ys.size) (h2 : ∀ i (h : i < xs.size) (h' : i < ys.size), VR ρ xs[i] ys[i]) : VR ρ (.agg xs) (.agg ys)
  | tuple (xs ys : Array Value) (h1 : xs.size = ys.size) (h2 : ∀ i (h : i < xs.size) (h' : i < ys.size), VR ρ xs[i] ys[i]) : VR ρ (.tuple xs) (.tuple ys)
theorem VR.ext {ρ ρ' : Nm} (hx : Ext ρ ρ') {v v' : Value} (h : VR ρ v v') : VR ρ' v v' := by
  induction h with
  | sign k => exact .sign k
  | same v h => exact .same v h
  | ptr n o b d e h => exact .ptr n o b d e (hx _ _ h)
  | slice n o b d e l c h => exact .slice n o b d e l c (hx _ _ h)
  | hollow n o q a c => exact .hollow n o q a c
  | any v' => exact .any v'
  | row n L b d e h => exact .row n L b d e (hx _ _ h)
  | rnil n L h => exact .rnil n L h
  | elem n f q b d e i h hi => exact .elem n f q b d e i (hx _ _ h) hi
  | map n b h => exact .map n b (hx _ _ h)
  | yield n b h => exact .yield n b (hx _ _ h)
  | func fn hn xs ys us vs h1 h2 h3 h4 ih2 ih4 => exact .func fn hn xs ys us vs h1 ih2 h3 ih4
  | iface t v v' h ih => exact .iface t v v' ih
  | agg xs ys h1 h2 ih => exact .agg xs ys h1 ih
  | tuple xs ys h1 h2 ih => exact .tuple xs ys h1 ih
theorem VR.pure {ρ : Nm} {v v' : Value} (h : VR ρ v v') (hp : pureV v = true) : v' = v := by
  induction h with
  | sign k => simp [pureV] at hp
  | same v h => rfl
  | ptr n o b d e h => simp [pureV] at hp
  | slice n o b d e l c h => simp [pureV] at hp
  | hollow n o q a c => simp [pureV] at hp
  | any v' => simp [pureV] at hp
  | row n L b d e h => simp [pureV] at hp
  | rnil n L h => simp [pureV] at hp
  | elem n f q b d e i h hi => simp [pureV] at hp
  | map n b h => simp [pureV] at hp
  | yield n b h => simp [pureV, noLoop] at hp
  | func fn hn xs ys us vs h1 h2 h3 h4 ih2 ih4 =>
    rw [pureV, Bool.and_eq_true, Bool.and_eq_true] at hp
    rw [show ys = xs from (Array.ext h1 (fun i a b => (ih2 i a b (pureA_get hp.1.2 i a)).symm)).symm, show vs = us from (Array.ext h3 (fun i a b => (ih4 i a b (pureA_get hp.2 i a)).symm)).symm]
  | iface t v v' h ih => rw [pureV] at hp; rw [ih hp]
  | agg xs ys h1 h2 ih => rw [pureV] at hp; rw [show ys = xs from (Array.ext h1 (fun i a b => (ih i a b (pureA_get hp i a)).symm)).symm]
  | tuple xs ys h1 h2 ih => rw [pureV] at hp; rw [show ys = xs from (Array.ext h1 (fun i a b => (ih i a b (pureA_get hp i a)).symm)).symm]

/-- arrays, element by element -/
structure AR (ρ : Nm) (xs ys : Array Value) : Prop where
  size : xs.size = ys.size
  get : ∀ i (h : i < xs.size) (h' : i < ys.size), VR ρ xs[i] ys[i]
theorem AR.ext {ρ ρ' : Nm} (hx : Ext ρ ρ') {xs ys : Array Value} (h : AR ρ xs ys) : AR ρ' xs ys := ⟨h.size, fun i a b => (h.get i a b).ext hx⟩
theorem pureV_undef : pureV undef = true := by decide
theorem AR.getD {ρ : Nm} {xs ys : Array Value} (h : AR ρ xs ys) (i : Nat) : VR ρ (xs.getD i undef) (ys.getD i undef) := by
  by_cases hi : i < xs.size
  · have hj : i < ys.size := h.size ▸ hi
    rw [show xs.getD i undef = xs[i] by simp [hi], show ys.getD i undef = ys[i] by simp [hj]]
    exact h.get i hi hj
  · have hj : ¬ i < ys.size := h.size ▸ hi
    rw [show xs.getD i undef = undef by simp [Array.getElem?_eq_none (Nat.le_of_not_lt hi)], show ys.getD i undef = undef by simp [Array.getElem?_eq_none (Nat.le_of_not_lt hj)]]
    exact .same _ pureV_undef
theorem AR.get? {ρ : Nm} {xs ys : Array Value} (h : AR ρ xs ys) {i : Nat} {v : Value} (hv : xs[i]? = some v) : ∃ v', ys[i]? = some v' ∧ VR ρ v v' := by
  obtain ⟨hi, rfl⟩ := Array.getElem?_eq_some_iff.1 hv
  have hj : i < ys.size := h.size ▸ hi
  exact ⟨ys[i], by simp [hj], h.get i hi hj⟩
theorem AR.of? {ρ : Nm} {xs ys : Array Value} (hs : xs.size = ys.size) (h : ∀ (i : Nat) (v : Value), xs[i]? = some v → ∃ v', ys[i]? = some v' ∧ VR ρ v v') : AR ρ xs ys := ⟨hs, fun i a b => by
  obtain ⟨v', h1, h2⟩ := h i xs[i] (by simp [a])
  rw [show ys[i] = v' by simpa [b] using h1]; exact h2⟩
theorem AR.set {ρ : Nm} {xs ys : Array Value} (h : AR ρ xs ys) (i : Nat) {v v' : Value} (hv : VR ρ v v') : AR ρ (xs.setIfInBounds i v) (ys.setIfInBounds i v') :=
  ⟨by simp [h.size], fun j a b => by
    rw [Array.getElem_setIfInBounds, Array.getElem_setIfInBounds]
    split
    · exact hv
    · exact h.get j (by simpa using a) (by simpa using b)⟩
theorem AR.push {ρ : Nm} {xs ys : Array Value} (h : AR ρ xs ys) {v v' : Value} (hv : VR ρ v v') : AR ρ (xs.push v) (ys.push v') :=
  ⟨by simp [h.size], fun j a b => by
    simp only [Array.getElem_push]
    by_cases hj : j < xs.size
    · rw [dif_pos hj, dif_pos (h.size ▸ hj)]; exact h.get _ _ _
    · rw [dif_neg hj, dif_neg (h.size ▸ hj)]; exact hv⟩
theorem AR.append {ρ : Nm} {xs ys us vs : Array Value} (h : AR ρ xs ys) (k : AR ρ us vs) : AR ρ (xs ++ us) (ys ++ vs) :=
  ⟨by simp [h.size, k.size], fun j a b => by
    by_cases hj : j < xs.size
    · rw [Array.getElem_append_left hj, Array.getElem_append_left (h.size ▸ hj)]; exact h.get _ _ _
    · have hj' : ¬ j < ys.size := h.size ▸ hj
      rw [Array.getElem_append_right (Nat.le_of_not_lt hj), Array.getElem_append_right (Nat.le_of_not_lt hj')]
      have e : j - xs.size = j - ys.size := by rw [h.size]
      have := k.get (j - xs.size) (by simp at a; omega) (by simp at b; omega)
      simpa only [e] using this⟩
theorem AR.extract {ρ : Nm} {xs ys : Array Value} (h : AR ρ xs ys) (i j : Nat) : AR ρ (xs.extract i j) (ys.extract i j) :=
  ⟨by simp [h.size], fun k a b => by simp only [Array.getElem_extract]; exact h.get _ _ _⟩
theorem AR.same {ρ : Nm} {xs : Array Value} (h : pureA xs = true) : AR ρ xs xs := ⟨rfl, fun i a _ => .same _ (pureA_get h i a)⟩
theorem AR.nil {ρ : Nm} : AR ρ #[] #[] := ⟨rfl, fun i a _ => by simp at a⟩
theorem AR.one {ρ : Nm} {v v' : Value} (h : VR ρ v v') : AR ρ #[v] #[v'] := by
  have := (AR.nil (ρ := ρ)).push h
  exact this
theorem AR.undefs {ρ : Nm} (n : Nat) : AR ρ (Array.replicate n undef) (Array.replicate n undef) := ⟨rfl, fun i a _ => by simp; exact .same _ pureV_undef⟩
theorem AR.pure {ρ : Nm} {xs ys : Array Value} (h : AR ρ xs ys) (hp : pureA xs = true) : ys = xs :=
  (Array.ext h.size (fun i a b => ((h.get i a b).pure (pureA_get hp i a)).symm)).symm
theorem VR.cells {ρ : Nm} {v v' : Value} (h : VR ρ v v') (hna : isAny v = false) : AR ρ v.cells v'.cells := by
  cases h with
  | sign k =>
    have hc : (Env.σ k).cells = #[Env.σ k] := by
      have := Env.plain k
      generalize Env.σ k = v at *
      cases v <;> first | rfl | (simp [cellV] at this)
    rw [hc]
    exact .one (.sign k)
  | same v h =>
    cases v <;> first | exact .one (.same _ h) | (rw [pureV] at h; exact .same h)
  | agg xs ys h1 h2 => exact ⟨h1, h2⟩
  | ptr n o b d e h => exact .one (.ptr n o b d e h)
  | slice n o b d e l c h => exact .one (.slice n o b d e l c h)
  | hollow n o q a c => exact .one (.hollow n o q a c)
  | any v' => simp [isAny] at hna
  | row n L b d e h => exact .one (.row n L b d e h)
  | rnil n L h => exact .one (.rnil n L h)
  | elem n f q b d e i h hi => exact .one (.elem n f q b d e i h hi)
  | map n b h => exact .one (.map n b h)
  | yield n b h => exact .one (.yield n b h)
  | func fn hn xs ys us vs h1 h2 h3 h4 => exact .one (.func fn hn xs ys us vs h1 h2 h3 h4)
  | iface t v v' h => exact .one (.iface t v v' h)
  | tuple xs ys h1 h2 => exact .one (.tuple xs ys h1 h2)

/-! ### A store of blocks by their names -/
inductive Tr (α : Type) where
  | leaf
  | node (o : Option α) (l r : Tr α)
def Tr.get {α : Type} : Tr α → Nat → Option α
  | .leaf, _ => none
  | .node o l r, n => if n = 0 then o else if n % 2 = 1 then l.get (n / 2) else r.get (n / 2 - 1)
def Tr.put {α : Type} (x : α) : Nat → Tr α → Nat → Tr α
  | 0, t, _ => t
  | f + 1, .leaf, n => if n = 0 then .node (some x) .leaf .leaf else if n % 2 = 1 then .node none (Tr.put x f .leaf (n / 2)) .leaf else .node none .leaf (Tr.put x f .leaf (n / 2 - 1))
  | f + 1, .node o l r, n => if n = 0 then .node (some x) l r else if n % 2 = 1 then .node o (Tr.put x f l (n / 2)) r else .node o l (Tr.put x f r (n / 2 - 1))
theorem Tr.get_put {α : Type} (x : α) : ∀ (f : Nat) (t : Tr α) (n : Nat), n + 1 < 2 ^ f → (Tr.put x f t n).get n = some x
  | 0, t, n, h => by simp at h
  | f + 1, .leaf, n, h => by
    unfold Tr.put
    split
    · simp [Tr.get, *]
    · split
      · simp [Tr.get, *]; exact Tr.get_put x f _ _ (by rw [Nat.pow_succ] at h; omega)
      · simp [Tr.get, *]; exact Tr.get_put x f _ _ (by rw [Nat.pow_succ] at h; omega)
  | f + 1, .node o l r, n, h => by
    unfold Tr.put
    split
    · simp [Tr.get, *]
    · split
      · simp [Tr.get, *]; exact Tr.get_put x f _ _ (by rw [Nat.pow_succ] at h; omega)
      · simp [Tr.get, *]; exact Tr.get_put x f _ _ (by rw [Nat.pow_succ] at h; omega)
theorem Tr.get_put_ne {α : Type} (x : α) : ∀ (f : Nat) (t : Tr α) (n k : Nat), k ≠ n → (Tr.put x f t n).get k = t.get k
  | 0, t, n, k, h => rfl
  | f + 1, .leaf, n, k, h => by
    unfold Tr.put
    split
    · simp only [Tr.get]; repeat' split
      all_goals first | rfl | omega
    · split
      · simp only [Tr.get]; repeat' split
        all_goals first | rfl | omega | (rw [Tr.get_put_ne x f _ _ _ (by omega)]; rfl)
      · simp only [Tr.get]; repeat' split
        all_goals first | rfl | omega | (rw [Tr.get_put_ne x f _ _ _ (by omega)]; rfl)
  | f + 1, .node o l r, n, k, h => by
    unfold Tr.put
    split
    · simp only [Tr.get]; repeat' split
      all_goals first | rfl | omega
    · split
      · simp only [Tr.get]; repeat' split
        all_goals first | rfl | omega | (rw [Tr.get_put_ne x f _ _ _ (by omega)])
      · simp only [Tr.get]; repeat' split
        all_goals first | rfl | omega | (rw [Tr.get_put_ne x f _ _ _ (by omega)])

/-! ### Terms that are worked out before they are handed on: all these are the identity -/
section
variable {R : Type}
def forceN (n : Nat) (k : Nat → R) : R := match n with
  | 0 => k 0
  | m + 1 => k (m + 1)
theorem forceN_eq (n : Nat) (k : Nat → R) : forceN n k = k n := by cases n <;> rfl
def forceI (n : Int) (k : Int → R) : R := match n with
  | .ofNat m => forceN m fun m => k (.ofNat m)
  | .negSucc m => forceN m fun m => k (.negSucc m)
theorem forceI_eq (n : Int) (k : Int → R) : forceI n k = k n := by cases n <;> simp [forceI, forceN_eq]
def forceB (b : Bool) (k : Bool → R) : R := match b with
  | true => k true
  | false => k false
theorem forceB_eq (b : Bool) (k : Bool → R) : forceB b k = k b := by cases b <;> rfl
def forceK (q : IntKind) (k : IntKind → R) : R := match q with
  | .i8 => k .i8
  | .i16 => k .i16
  | .i32 => k .i32
  | .i64 => k .i64
  | .u8 => k .u8
  | .u16 => k .u16
  | .u32 => k .u32
  | .u64 => k .u64
theorem forceK_eq (q : IntKind) (k : IntKind → R) : forceK q k = k q := by cases q <;> rfl
def forceP (a : Option Addr) (k : Option Addr → R) : R := match a with
  | none => k none
  | some ⟨b, o, none⟩ => forceN b fun b => forceN o fun o => k (some ⟨b, o, none⟩)
  | some ⟨b, o, some q⟩ => k (some ⟨b, o, some q⟩)
theorem forceP_eq (a : Option Addr) (k : Option Addr → R) : forceP a k = k a := by
  unfold forceP; split <;> simp [forceN_eq]
def forceR (a : Option Nat) (k : Option Nat → R) : R := match a with
  | none => k none
  | some b => forceN b fun b => k (some b)
theorem forceR_eq (a : Option Nat) (k : Option Nat → R) : forceR a k = k a := by
  cases a <;> simp [forceR, forceN_eq]
end
mutual
def forceV {R : Type} : Value → (Value → R) → R
  | .bool b, k => forceB b fun b => k (.bool b)
  | .int q n, k => forceK q fun q => forceI n fun n => k (.int q n)
  | .float q n, k => k (.float q n)
  | .complex q a b, k => k (.complex q a b)
  | .string s, k => k (.string s)
  | .pointer a, k => forceP a fun a => k (.pointer a)
  | .slice a l c, k => forceP a fun a => forceN l fun l => forceN c fun c => k (.slice a l c)
  | .map r, k => forceR r fun r => k (.map r)
  | .chan r, k => k (.chan r)
  | .func fn a b, k => forceA a fun a => forceA b fun b => k (.func fn a b)
  | .nilFunc, k => k .nilFunc
  | .iface t v, k => forceV v fun v => k (.iface t v)
  | .nilIface, k => k .nilIface
  | .agg a, k => forceA a fun a => k (.agg a)
  | .tuple a, k => forceA a fun a => k (.tuple a)
def forceA {R : Type} : Array Value → (Array Value → R) → R
  | ⟨l⟩, k => forceL l fun l => k ⟨l⟩
def forceL {R : Type} : List Value → (List Value → R) → R
  | [], k => k []
  | v :: l, k => forceV v fun v => forceL l fun l => k (v :: l)
end
mutual
theorem forceV_eq {R : Type} : ∀ (v : Value) (k : Value → R), forceV v k = k v
  | .bool b, k => by rw [forceV, forceB_eq]
  | .int q n, k => by rw [forceV, forceK_eq, forceI_eq]
  | .float q n, k => by rw [forceV]
  | .complex q a b, k => by rw [forceV]
  | .string s, k => by rw [forceV]
  | .pointer a, k => by rw [forceV, forceP_eq]
  | .slice a l c, k => by rw [forceV, forceP_eq, forceN_eq, forceN_eq]
  | .map r, k => by rw [forceV, forceR_eq]
  | .chan r, k => by rw [forceV]
  | .func fn a b, k => by rw [forceV, forceA_eq, forceA_eq]
  | .nilFunc, k => by rw [forceV]
  | .iface t v, k => by rw [forceV, forceV_eq]
  | .nilIface, k => by rw [forceV]
  | .agg a, k => by rw [forceV, forceA_eq]
  | .tuple a, k => by rw [forceV, forceA_eq]
theorem forceA_eq {R : Type} : ∀ (a : Array Value) (k : Array Value → R), forceA a k = k a
  | ⟨l⟩, k => by rw [forceA, forceL_eq]
theorem forceL_eq {R : Type} : ∀ (l : List Value) (k : List Value → R), forceL l k = k l
  | [], k => by rw [forceL]
  | v :: l, k => by rw [forceL, forceV_eq, forceL_eq]
end
/-- a list with one element changed, laid out -/
noncomputable def setK {α : Type} (v : α) (l : List α) : Nat → List α := List.rec (motive := fun _ => Nat → List α) (fun _ => []) (fun x l ih i => Nat.rec (motive := fun _ => List α) (v :: l) (fun j _ => List.rec (motive := fun _ => List α) [x] (fun y t _ => x :: y :: t) (ih j)) i) l
theorem setK_eq {α : Type} (v : α) : ∀ (l : List α) (i : Nat), setK v l i = l.set i v
  | [], _ => rfl
  | x :: l, 0 => rfl
  | x :: l, i + 1 => by
    show List.rec (motive := fun _ => List α) [x] (fun y t _ => x :: y :: t) (setK v l i) = x :: l.set i v
    rw [setK_eq v l i]
    cases l.set i v <;> rfl
noncomputable def setF {α : Type} (a : Array α) (i : Nat) (v : α) : Array α := match a with
  | ⟨l⟩ => List.rec (motive := fun _ => Array α) ⟨[]⟩ (fun y t _ => ⟨y :: t⟩) (setK v l i)
theorem setF_eq {α : Type} (a : Array α) (i : Nat) (v : α) : setF a i v = a.setIfInBounds i v := by
  obtain ⟨l⟩ := a
  apply Array.ext'
  simp only [setF, setK_eq, Array.toList_setIfInBounds]
  cases l.set i v <;> rfl
/-- an array of which the first cell is worked out -/
def openA {α R : Type} (a : Array α) (k : Array α → R) : R := match a with
  | ⟨[]⟩ => k ⟨[]⟩
  | ⟨x :: l⟩ => k ⟨x :: l⟩
theorem openA_eq {α R : Type} (a : Array α) (k : Array α → R) : openA a k = k a := by
  obtain ⟨l⟩ := a
  cases l <;> rfl
noncomputable def getL {α : Type} (d : α) (l : List α) : Nat → α := List.rec (motive := fun _ => Nat → α) (fun _ => d) (fun x _ ih i => Nat.rec (motive := fun _ => α) x (fun j _ => ih j) i) l
theorem getL_eq {α : Type} (d : α) : ∀ (l : List α) (i : Nat), getL d l i = l.getD i d
  | [], _ => by simp [getL]
  | x :: _, 0 => rfl
  | x :: l, i + 1 => by
    show getL d l i = _
    rw [getL_eq d l i]; simp
noncomputable def getF {α : Type} (d : α) (a : Array α) (i : Nat) : α := match a with
  | ⟨l⟩ => getL d l i
theorem getF_eq {α : Type} (d : α) (a : Array α) (i : Nat) : getF d a i = a.getD i d := by
  obtain ⟨l⟩ := a
  simp [getF, getL_eq]
def Tr.putK {α R : Type} (x : α) : Nat → Tr α → Nat → (Tr α → R) → R
  | 0, t, _, k => k t
  | f + 1, .leaf, n, k => if n = 0 then k (.node (some x) .leaf .leaf) else if n % 2 = 1 then Tr.putK x f .leaf (n / 2) fun l => k (.node none l .leaf) else Tr.putK x f .leaf (n / 2 - 1) fun r => k (.node none .leaf r)
  | f + 1, .node o l r, n, k => if n = 0 then k (.node (some x) l r) else if n % 2 = 1 then Tr.putK x f l (n / 2) fun l => k (.node o l r) else Tr.putK x f r (n / 2 - 1) fun r => k (.node o l r)
theorem Tr.putK_eq {α R : Type} (x : α) : ∀ (f : Nat) (t : Tr α) (n : Nat) (k : Tr α → R), Tr.putK x f t n k = k (Tr.put x f t n)
  | 0, t, _, k => rfl
  | f + 1, .leaf, n, k => by
    unfold Tr.putK Tr.put
    repeat' split
    all_goals first | rfl | (rw [Tr.putK_eq x f])
  | f + 1, .node o l r, n, k => by
    unfold Tr.putK Tr.put
    repeat' split
    all_goals first | rfl | (rw [Tr.putK_eq x f])
def Tr.putF {α : Type} (x : α) (f : Nat) (t : Tr α) (n : Nat) : Tr α := Tr.putK x f t n fun t => t
theorem Tr.putF_eq {α : Type} (x : α) (f : Nat) (t : Tr α) (n : Nat) : Tr.putF x f t n = Tr.put x f t n := Tr.putK_eq x f t n _
def Tr.open {α R : Type} (t : Tr α) (k : Tr α → R) : R := match t with
  | .leaf => k .leaf
  | .node o l r => k (.node o l r)
theorem Tr.open_eq {α R : Type} (t : Tr α) (k : Tr α → R) : t.open k = k t := by cases t <;> rfl
end Go.Proofs.Ytaneipjpagbmpaa
