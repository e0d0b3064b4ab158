/-
  The small machine: when two of its states are the same; its operations, all of them.
-/
import Derived.Test.YtbflolaongghmaaE5
import Derived.Scope
namespace Go.Proofs.Ytbflolaongghmaa
open Go.RowKit
set_option linter.unusedVariables false
set_option linter.unusedSimpArgs false
set_option linter.unusedSectionVars false
variable [Env]

/-! ### Sameness -/
mutual
def eqV : Value → Value → Bool
  | .bool a, .bool b => a == b
  | .int k a, .int l b => decide (k = l) && decide (a = b)
  | .float k a, .float l b => decide (k = l) && decide (a = b)
  | .string a, .string b => decide (a = b)
  | .pointer a, .pointer b => decide (a = b)
  | .slice a l c, .slice b k d => decide (a = b) && decide (l = k) && decide (c = d)
  | .map a, .map b => decide (a = b)
  | .chan a, .chan b => decide (a = b)
  | .func f a b, .func g c d => decide (f = g) && eqA a c && eqA b d
  | .nilFunc, .nilFunc => true
  | .iface t v, .iface u w => decide (t = u) && eqV v w
  | .nilIface, .nilIface => true
  | .agg a, .agg b => eqA a b
  | .tuple a, .tuple b => eqA a b
  | _, _ => false
def eqA : Array Value → Array Value → Bool
  | ⟨a⟩, ⟨b⟩ => eqL a b
def eqL : List Value → List Value → Bool
  | [], [] => true
  | a :: l, b :: m => eqV a b && eqL l m
  | _, _ => false
end
mutual
theorem eqV_sound : ∀ a b : Value, eqV a b = true → a = b
  | .bool a, b, h => by cases b <;> simp [eqV] at h; rw [h]
  | .int k a, b, h => by cases b <;> simp [eqV] at h; rw [h.1, h.2]
  | .float k a, b, h => by cases b <;> simp [eqV] at h; rw [h.1, h.2]
  | .complex .., b, h => by cases b <;> simp [eqV] at h
  | .string a, b, h => by cases b <;> simp [eqV] at h; rw [h]
  | .pointer a, b, h => by cases b <;> simp [eqV] at h; rw [h]
  | .slice a l c, b, h => by cases b <;> simp [eqV] at h; rw [h.1.1, h.1.2, h.2]
  | .map a, b, h => by cases b <;> simp [eqV] at h; rw [h]
  | .chan a, b, h => by cases b <;> simp [eqV] at h; rw [h]
  | .func f a c, b, h => by cases b <;> simp [eqV] at h; rw [h.1.1, eqA_sound _ _ h.1.2, eqA_sound _ _ h.2]
  | .nilFunc, b, h => by cases b <;> simp [eqV] at h; rfl
  | .iface t v, b, h => by cases b <;> simp [eqV] at h; rw [h.1, eqV_sound _ _ h.2]
  | .nilIface, b, h => by cases b <;> simp [eqV] at h; rfl
  | .agg a, b, h => by cases b <;> simp [eqV] at h; rw [eqA_sound _ _ h]
  | .tuple a, b, h => by cases b <;> simp [eqV] at h; rw [eqA_sound _ _ h]
theorem eqA_sound : ∀ a b : Array Value, eqA a b = true → a = b
  | ⟨a⟩, ⟨b⟩, h => by rw [eqA] at h; rw [eqL_sound _ _ h]
theorem eqL_sound : ∀ a b : List Value, eqL a b = true → a = b
  | [], [], _ => rfl
  | a :: l, b :: m, h => by rw [eqL, Bool.and_eq_true] at h; rw [eqV_sound _ _ h.1, eqL_sound _ _ h.2]
  | [], _ :: _, h => by simp [eqL] at h
  | _ :: _, [], h => by simp [eqL] at h
end
def eqE : List MapEntry → List MapEntry → Bool
  | [], [] => true
  | a :: l, b :: m => eqV a.key b.key && eqV a.val b.val && decide (a.born = b.born) && eqE l m
  | _, _ => false
theorem eqE_sound : ∀ a b : List MapEntry, eqE a b = true → a = b
  | [], [], _ => rfl
  | ⟨k, v, n⟩ :: l, ⟨k', v', n'⟩ :: m, h => by
    simp only [eqE, Bool.and_eq_true, decide_eq_true_eq] at h
    rw [eqV_sound _ _ h.1.1.1, eqV_sound _ _ h.1.1.2, h.1.2, eqE_sound _ _ h.2]
  | [], _ :: _, h => by simp [eqE] at h
  | _ :: _, [], h => by simp [eqE] at h
def eqC : Code → Code → Bool
  | .skip, .skip => true
  | .block n c, .block m d => decide (n = m) && eqC c d
  | _, _ => false
theorem eqC_sound : ∀ a b : Code, eqC a b = true → a = b
  | .skip, b, h => by cases b <;> first | rfl | (simp [eqC] at h)
  | .block n c, b, h => by
    cases b <;> first | (simp [eqC] at h; done) | skip
    rw [eqC, Bool.and_eq_true, decide_eq_true_eq] at h; rw [h.1, eqC_sound _ _ h.2]
  | .seq .., _, h | .cond .., _, h | .loop .., _, h | .scope .., _, h | .exit .., _, h | .goto .., _, h | .ret, _, h | .label .., _, h | .rangeFunc .., _, h | .region .., _, h | .refuse .., _, h => by simp [eqC] at h
def eqJ : Option Code → Option Code → Bool
  | none, none => true
  | some .ret, some .ret => true
  | some (.exit a), some (.exit b) => decide (a = b)
  | _, _ => false
theorem eqJ_sound (a b : Option Code) (h : eqJ a b = true) : a = b := by
  unfold eqJ at h
  split at h
  · rfl
  · rfl
  · rw [of_decide_eq_true h]
  · cases h
def eqLoop (r q : Loop) : Bool := decide (r.state = q.state) && eqJ r.pending q.pending && decide (r.fn = q.fn) && eqA r.tmps q.tmps && decide (r.params = q.params) && eqC r.assign q.assign && eqC r.body q.body && decide (r.defers = q.defers)
theorem eqLoop_sound {r q : Loop} (h : eqLoop r q = true) : r = q := by
  obtain ⟨a1, a2, a3, a4, a5, a6, a7, a8⟩ := r
  obtain ⟨b1, b2, b3, b4, b5, b6, b7, b8⟩ := q
  simp only [eqLoop, Bool.and_eq_true, decide_eq_true_eq] at h
  obtain ⟨⟨⟨⟨⟨⟨⟨e1, e2⟩, e3⟩, e4⟩, e5⟩, e6⟩, e7⟩, e8⟩ := h
  have q2 := eqJ_sound _ _ e2
  have q4 := eqA_sound _ _ e4
  have q6 := eqC_sound _ _ e6
  have q7 := eqC_sound _ _ e7
  subst e1 q2 e3 q4 e5 q6 q7 e8
  rfl
def eqO : Option Obj → Option Obj → Bool
  | none, none => true
  | some (.cells a t fr), some (.cells b u gr) => decide (t = u) && decide (fr = gr) && eqA a b
  | some (.map ⟨a⟩ c), some (.map ⟨b⟩ d) => decide (c = d) && eqE a b
  | some (.loop r), some (.loop q) => eqLoop r q
  | some (.deferred none), some (.deferred none) => true
  | some (.deferred (some [])), some (.deferred (some [])) => true
  | _, _ => false
theorem eqO_sound (a b : Option Obj) (h : eqO a b = true) : a = b := by
  unfold eqO at h
  split at h
  · rfl
  · simp only [Bool.and_eq_true, decide_eq_true_eq] at h; rw [h.1.1, h.1.2, eqA_sound _ _ h.2]
  · simp only [Bool.and_eq_true, decide_eq_true_eq] at h; rw [h.1, eqE_sound _ _ h.2]
  · rw [eqLoop_sound h]
  · rfl
  · rfl
  · cases h
def eqT : Tr (Option Obj) → Tr (Option Obj) → Bool
  | .leaf, .leaf => true
  | .node none l r, .node none l' r' => eqT l l' && eqT r r'
  | .node (some o) l r, .node (some o') l' r' => eqO o o' && eqT l l' && eqT r r'
  | _, _ => false
theorem eqT_sound : ∀ a b : Tr (Option Obj), eqT a b = true → a = b
  | .leaf, .leaf, _ => rfl
  | .node none l r, .node none l' r', h => by rw [eqT, Bool.and_eq_true] at h; rw [eqT_sound _ _ h.1, eqT_sound _ _ h.2]
  | .node (some o) l r, .node (some o') l' r', h => by
    rw [eqT, Bool.and_eq_true, Bool.and_eq_true] at h; rw [eqO_sound _ _ h.1.1, eqT_sound _ _ h.1.2, eqT_sound _ _ h.2]
  | .leaf, .node .., h => by simp [eqT] at h
  | .node none _ _, .leaf, h => by simp [eqT] at h
  | .node (some _) _ _, .leaf, h => by simp [eqT] at h
  | .node none _ _, .node (some _) _ _, h => by simp [eqT] at h
  | .node (some _) _ _, .node none _ _, h => by simp [eqT] at h

/-! ### Operands -/
/-- the marks of ranges over functions -/
inductive DR (ρ : Nm) : List Deferred → List Deferred → Prop
  | nil : DR ρ [] []
  | cons {n b : Nat} {l l' : List Deferred} (h : ρ n = some (b, 0, 0)) (t : DR ρ l l') : DR ρ ({ target := .collected n, args := #[] } :: l) ({ target := .collected b, args := #[] } :: l')
theorem DR.ext {ρ ρ' : Nm} (hx : Ext ρ ρ') {l l' : List Deferred} (h : DR ρ l l') : DR ρ' l l' := by
  induction h with
  | nil => exact .nil
  | cons h t ih => exact .cons (hx _ _ h) ih
def eqD : List Deferred → List Deferred → Bool
  | [], [] => true
  | ⟨.collected a, x⟩ :: l, ⟨.collected b, y⟩ :: m => decide (a = b) && x.isEmpty && y.isEmpty && eqD l m
  | _, _ => false
theorem eqD_sound : ∀ l m : List Deferred, eqD l m = true → l = m
  | [], [], _ => rfl
  | [], _ :: _, h => by simp [eqD] at h
  | ⟨t, x⟩ :: l, [], h => by simp [eqD] at h
  | ⟨t, x⟩ :: l, ⟨u, y⟩ :: m, h => by
    unfold eqD at h
    split at h
    · rename_i h1 h2; cases h1
    · rename_i a x' l' b y' m' h1 h2
      cases h1; cases h2
      simp only [Bool.and_eq_true, decide_eq_true_eq] at h
      obtain ⟨⟨⟨e1, e2⟩, e3⟩, e4⟩ := h
      rw [e1, Array.isEmpty_iff.1 e2, Array.isEmpty_iff.1 e3, eqD_sound _ _ e4]
    · cases h
structure ActR (ρ : Nm) (a a' : Act) : Prop where
  tmps : AR ρ a.tmps a'.tmps
  defs : DR ρ a.defers a'.defers
theorem ActR.ext {ρ ρ' : Nm} {a a' : Act} (h : ActR ρ a a') (hx : Ext ρ ρ') : ActR ρ' a a' := ⟨h.tmps.ext hx, h.defs.ext hx⟩
theorem ActR.put {ρ : Nm} {a a' : Act} (h : ActR ρ a a') (dst : Option Tmp) {v v' : Value} (hv : VR ρ v v') : ActR ρ (a.put dst v) (a'.put dst v') := by
  cases dst with
  | none => exact h
  | some d => exact ⟨h.tmps.set d hv, h.defs⟩
def evalM (a : Act) : Operand → Option Value
  | .tmp t => some (getF undef a.tmps t)
  | .const v => if pureV v then some v else none
  | .global _ => none
  | .func f => some (.func (.func f) #[] #[])
theorem evalM_spec {ρ : Nm} {a a' : Act} (h : ActR ρ a a') {x : Operand} {v : Value} (hv : evalM a x = some v) : VR ρ v (a'.eval x) ∧ a.eval x = v := by
  cases x with
  | tmp t => simp only [evalM, Option.some.injEq, getF_eq] at hv; subst hv; exact ⟨h.tmps.getD t, rfl⟩
  | const u =>
    simp only [evalM] at hv
    split at hv
    · rename_i hp; injection hv with hv; subst hv; exact ⟨.same _ hp, rfl⟩
    · cases hv
  | global g => simp [evalM] at hv
  | func f => simp only [evalM, Option.some.injEq] at hv; subst hv; exact ⟨.same _ rfl, rfl⟩
def argsM (a : Act) : List Operand → Option (List Value)
  | [] => some []
  | x :: l => match evalM a x, argsM a l with
    | some v, some vs => some (v :: vs)
    | _, _ => none
theorem argsM_spec {ρ : Nm} {a a' : Act} (h : ActR ρ a a') : ∀ (l : List Operand) (vs : List Value), argsM a l = some vs → LR ρ vs (l.map a'.eval)
  | [], vs, e => by simp only [argsM, Option.some.injEq] at e; subst e; exact .nil
  | x :: l, vs, e => by
    simp only [argsM] at e
    split at e
    · rename_i v us hv hus
      injection e with e; subst e
      exact .cons (evalM_spec h hv).1 (argsM_spec h l us hus)
    · cases e
theorem LR.ar {ρ : Nm} : ∀ {l l' : List Value}, LR ρ l l' → AR ρ l.toArray l'.toArray
  | _, _, .nil => .nil
  | _, _, .cons (v := v) (v' := v') (l := l) (l' := l') h t => by
    have := (AR.one h).append t.ar
    simpa using this
theorem args_ar {ρ : Nm} {a a' : Act} (h : ActR ρ a a') {xs : Array Operand} {vs : List Value} (hv : argsM a xs.toList = some vs) : AR ρ vs.toArray (xs.map a'.eval) := by
  have := (argsM_spec h _ _ hv).ar
  have e : xs.map a'.eval = (xs.toList.map a'.eval).toArray := Array.ext' (by simp)
  rw [e]
  exact this
def partsM (a : Act) : List (Nat × Operand) → Option (List (Nat × Value))
  | [] => some []
  | (i, x) :: l => match evalM a x, partsM a l with
    | some v, some vs => some ((i, v) :: vs)
    | _, _ => none
theorem partsM_spec {ρ : Nm} {a a' : Act} (h : ActR ρ a a') : ∀ (l : List (Nat × Operand)) (vs : List (Nat × Value)), partsM a l = some vs → PR ρ vs (l.map fun (i, x) => (i, a'.eval x))
  | [], vs, e => by simp only [partsM, Option.some.injEq] at e; subst e; exact .nil
  | (i, x) :: l, vs, e => by
    simp only [partsM] at e
    split at e
    · rename_i v us hv hus
      injection e with e; subst e
      exact .cons (evalM_spec h hv).1 (partsM_spec h l us hus)
    · cases e
theorem parts_pr {ρ : Nm} {a a' : Act} (h : ActR ρ a a') {ps : Array (Nat × Operand)} {vs : List (Nat × Value)} (hv : partsM a ps.toList = some vs) : PR ρ vs (ps.map fun (i, x) => (i, a'.eval x)).toList := by
  rw [Array.toList_map]
  exact partsM_spec h _ _ hv
def optM (a : Act) : Option Operand → Option (Option Value)
  | none => some none
  | some x => (evalM a x).map some
theorem optM_spec {ρ : Nm} {a a' : Act} (h : ActR ρ a a') {x : Option Operand} {v : Option Value} (hv : optM a x = some v) : OV ρ v (x.map a'.eval) := by
  cases x with
  | none => simp only [optM, Option.some.injEq] at hv; subst hv; exact .none
  | some x =>
    simp only [optM, Option.map_eq_some_iff] at hv
    obtain ⟨u, hu, rfl⟩ := hv
    exact .some _ _ (evalM_spec h hu).1

/-! ### Operations that do not look at memory -/
/-- nothing against something -/
def nilTest (P : Program) (t : TypeId) (x y : Value) : Bool :=
  match P.underlying t, x, y with
  | some (.pointer _), .pointer none, .pointer (some _) => true
  | some (.pointer _), .pointer (some _), .pointer none => true
  | some (.slice _), .slice none _ _, .slice (some _) _ _ => true
  | some (.slice _), .slice (some _) _ _, .slice none _ _ => true
  | some (.map _ _), .map none, .map (some _) => true
  | some (.map _ _), .map (some _), .map none => true
  | some (.func _ _ _), .nilFunc, .func _ _ _ => true
  | some (.func _ _ _), .func _ _ _, .nilFunc => true
  | _, _, _ => false
theorem VR.func_inv {ρ : Nm} {f : Fn} {xs us : Array Value} {v' : Value} (h : VR ρ (.func f xs us) v') : ∃ f' ys vs, v' = .func f' ys vs ∧ AR ρ xs ys ∧ AR ρ us vs ∧ (noLoop f = true → f' = f) := by
  cases h with
  | same _ h =>
    rw [pureV, Bool.and_eq_true, Bool.and_eq_true] at h
    exact ⟨f, xs, us, rfl, .same h.1.2, .same h.2, fun _ => rfl⟩
  | yield n b h => exact ⟨_, #[], #[], rfl, .nil, .nil, fun h => by simp [noLoop] at h⟩
  | func _ hn _ ys _ vs h1 h2 h3 h4 => exact ⟨f, ys, vs, rfl, ⟨h1, h2⟩, ⟨h3, h4⟩, fun _ => rfl⟩
theorem equal_step (t : TypeId) (x y : Value) : Op.equal t x y = Op.equalIn (9999 + 1) t x y := rfl
theorem equal_nil {P : Program} {ρ : Nm} {t : TypeId} {x x' y y' : Value} (hx : VR ρ x x') (hy : VR ρ y y') (h : nilTest P t x y = true) : (∀ w, (Op.equal t x' y').run P w = .ok false w) ∧ (∀ op a b, eqGuard op t a b x' y' = pure ()) ∧ binOp .eql t x' y' = (do pure (.bool (← Op.equal t x' y'))) ∧ binOp .neq t x' y' = (do pure (.bool (!(← Op.equal t x' y')))) := by
  unfold nilTest at h
  split at h
  · rename_i el a hu
    have := hx.pure rfl; subst this
    obtain ⟨b, d, e, _, _, rfl⟩ := hy.ptr_inv
    exact ⟨fun w => by rw [equal_step, Op.equalIn]; simp [run_underlying hu], fun op a b => by cases op <;> rfl, rfl, rfl⟩
  · rename_i el a hu
    have := hy.pure rfl; subst this
    obtain ⟨b, d, e, _, _, rfl⟩ := hx.ptr_inv
    exact ⟨fun w => by rw [equal_step, Op.equalIn]; simp [run_underlying hu], fun op a b => by cases op <;> rfl, rfl, rfl⟩
  · rename_i el l1 c1 a l2 c2 hu
    have := hx.pure rfl; subst this
    obtain ⟨A, k, rfl⟩ := hy.slice_form
    exact ⟨fun w => by rw [equal_step, Op.equalIn]; simp [run_underlying hu], fun op a b => by cases op <;> rfl, rfl, rfl⟩
  · rename_i el a l1 c1 l2 c2 hu
    have := hy.pure rfl; subst this
    obtain ⟨A, k, rfl⟩ := hx.slice_form
    exact ⟨fun w => by rw [equal_step, Op.equalIn]; simp [run_underlying hu], fun op a b => by cases op <;> rfl, rfl, rfl⟩
  · rename_i k el a hu
    have := hx.pure rfl; subst this
    obtain ⟨b, _, rfl⟩ := hy.map_inv
    exact ⟨fun w => by rw [equal_step, Op.equalIn]; simp [run_underlying hu], fun op a b => by cases op <;> rfl, rfl, rfl⟩
  · rename_i k el a hu
    have := hy.pure rfl; subst this
    obtain ⟨b, _, rfl⟩ := hx.map_inv
    exact ⟨fun w => by rw [equal_step, Op.equalIn]; simp [run_underlying hu], fun op a b => by cases op <;> rfl, rfl, rfl⟩
  · rename_i ps rs vr f xs us hu
    have := hx.pure rfl; subst this
    obtain ⟨f', ys, vs, rfl, _⟩ := hy.func_inv
    exact ⟨fun w => by rw [equal_step, Op.equalIn]; simp [run_underlying hu], fun op a b => by cases op <;> rfl, rfl, rfl⟩
  · rename_i ps rs vr f xs us hu
    have := hy.pure rfl; subst this
    obtain ⟨f', ys, vs, rfl, _⟩ := hx.func_inv
    exact ⟨fun w => by rw [equal_step, Op.equalIn]; simp [run_underlying hu], fun op a b => by cases op <;> rfl, rfl, rfl⟩
  · cases h
/-! ### What is known of signs -/
def eqQ : Value → Value → Bool
  | .int k a, .int l b => decide (k = l) && decide (a = b)
  | .chan (some a), .chan (some b) => decide (a = b)
  | _, _ => false
theorem eqQ_sound : ∀ a b : Value, eqQ a b = true → a = b := fun a b h => by
  unfold eqQ at h
  split at h
  · simp only [Bool.and_eq_true, decide_eq_true_eq] at h; rw [h.1, h.2]
  · simp only [decide_eq_true_eq] at h; rw [h]
  · cases h
def findB (op : BinOp) (x y : Value) : List (BinOp × Value × Value × Value) → Option Value
  | [] => none
  | (q, u, v, z) :: l => if q = op ∧ eqQ u x = true ∧ eqQ v y = true then some z else findB op x y l
theorem findB_spec {op : BinOp} {x y z : Value} : ∀ (l : List (BinOp × Value × Value × Value)), findB op x y l = some z → (op, x, y, z) ∈ l
  | [], h => by cases h
  | (q, u, v, z') :: l, h => by
    unfold findB at h
    split at h
    · rename_i hc
      injection h with h; subst h
      obtain ⟨rfl, h2, h3⟩ := hc
      rw [eqQ_sound _ _ h2, eqQ_sound _ _ h3]; exact List.mem_cons_self ..
    · exact List.mem_cons_of_mem _ (findB_spec l h)
def findM (b : Bool) (x y : Value) : List (Bool × Value × Value × Value) → Option Value
  | [] => none
  | (q, u, v, z) :: l => if q = b ∧ eqQ u x = true ∧ eqQ v y = true then some z else findM b x y l
theorem findM_spec {b : Bool} {x y z : Value} : ∀ (l : List (Bool × Value × Value × Value)), findM b x y l = some z → (b, x, y, z) ∈ l
  | [], h => by cases h
  | (q, u, v, z') :: l, h => by
    unfold findM at h
    split at h
    · rename_i hc
      injection h with h; subst h
      obtain ⟨rfl, h2, h3⟩ := hc
      rw [eqQ_sound _ _ h2, eqQ_sound _ _ h3]; exact List.mem_cons_self ..
    · exact List.mem_cons_of_mem _ (findM_spec l h)
/-- what may stand in the tables -/
def tabV : Value → Bool
  | .bool _ => true
  | .int _ _ => true
  | .chan (some _) => true
  | _ => false
theorem VR.tab {ρ : Nm} {v v' : Value} (h : VR ρ v v') (ht : tabV v = true) : v' = realV Env.σ v := by
  cases h with
  | sign k => rfl
  | same v h => cases v <;> first | rfl | (simp [tabV] at ht) | skip
                rename_i r; cases r <;> first | rfl | (simp [pureV] at h)
  | _ => simp [tabV] at ht
theorem tab_real {ρ : Nm} {v : Value} (ht : tabV v = true) : VR ρ v (realV Env.σ v) := by
  cases v with
  | bool b => exact .same _ rfl
  | int k n => exact .same _ rfl
  | chan r => cases r with
    | none => simp [tabV] at ht
    | some k => exact .sign k
  | _ => simp [tabV] at ht
def tabB (op : BinOp) (x y : Value) : Option Value :=
  if tabV x = true ∧ tabV y = true then match findB op x y Env.bins with
    | some z => if tabV z then some z else none
    | none => none
  else none
def tabM (b : Bool) (x y : Value) : Option Value :=
  if tabV x = true ∧ tabV y = true then match findM b x y Env.mins with
    | some z => if tabV z then some z else none
    | none => none
  else none
theorem tabB_run {ρ : Nm} {op : BinOp} {x x' y y' z : Value} (hx : VR ρ x x') (hy : VR ρ y y') (h : tabB op x y = some z) : (∀ (P : Program) t w, (binOp op t x' y').run P w = .ok (realV Env.σ z) w) ∧ (∀ op t a b, eqGuard op t a b x' y' = pure ()) ∧ VR ρ z (realV Env.σ z) := by
  unfold tabB at h
  split at h
  · rename_i hc
    split at h
    · rename_i u hu
      split at h
      · rename_i ht
        injection h with h; subst h
        obtain ⟨⟨h1, h3⟩, h2⟩ := Env.okB _ _ _ _ (findB_spec _ hu)
        rw [hx.tab hc.1, hy.tab hc.2]
        refine ⟨fun P t w => h2 P t w, fun op t a b => ?_, tab_real ht⟩
        generalize realV Env.σ x = q at *
        cases q <;> first | (simp [isInt] at h1; done) | (cases op <;> rfl)
      · cases h
    · cases h
  · cases h
theorem tabM_run {ρ : Nm} {b : Bool} {x x' y y' z : Value} (hx : VR ρ x x') (hy : VR ρ y y') (h : tabM b x y = some z) : (∀ (P : Program) w, (if b then Builtin.max2 x' y' else Builtin.min2 x' y').run P w = .ok (realV Env.σ z) w) ∧ VR ρ z (realV Env.σ z) := by
  unfold tabM at h
  split at h
  · rename_i hc
    split at h
    · rename_i u hu
      split at h
      · rename_i ht
        injection h with h; subst h
        have h2 := Env.okM _ _ _ _ (findM_spec _ hu)
        rw [hx.tab hc.1, hy.tab hc.2]
        exact ⟨fun P w => h2 P w, tab_real ht⟩
      · cases h
    · cases h
  · cases h
/-! ### Structs of numbers, held against each other -/
def eqOne (u v : Value) : Option Bool :=
  match u, v with
  | .int k a, .int l b => if k = l then some (a == b) else none
  | .chan (some i), .chan (some j) => if i = j ∧ Env.ints i = true then some true else match tabB .eql u v with
    | some (.bool b) => some b
    | _ => none
  | u, v => match tabB .eql u v with
    | some (.bool b) => some b
    | _ => none
theorem eql_ints {P : Program} {t : TypeId} {u v : Value} {b : Bool} {w : World} (hu : isInt u = true) (hv : isInt v = true) (h : (binOp .eql t u v).run P w = .ok (.bool b) w) : ∃ k a c, u = .int k a ∧ v = .int k c ∧ b = (a == c) := by
  cases u with
  | int k a =>
    cases v with
    | int l c =>
      by_cases e : k = l
      · subst e
        refine ⟨k, a, c, rfl, rfl, ?_⟩
        simp only [binOp_eql, Sem.run_pure, Result.ok.injEq, Value.bool.injEq, and_true] at h
        exact h.symm
      · simp [binOp, e, stuck, Sem.run] at h
    | _ => simp [isInt] at hv
  | _ => simp [isInt] at hu
theorem equalIn_int {P : Program} {t : TypeId} {q k : IntKind} {a c : Int} (hu : P.underlying t = some (.int q)) (d : Nat) (w : World) : (Op.equalIn (d + 1) t (.int k a) (.int k c)).run P w = .ok (a == c) w := by
  unfold Op.equalIn
  simp [run_underlying hu]
theorem eqOne_run {P : Program} {ρ : Nm} {u u' v v' : Value} {b : Bool} (hu : VR ρ u u') (hv : VR ρ v v') (h : eqOne u v = some b) {t : TypeId} {q : IntKind} (ht : P.underlying t = some (.int q)) (d : Nat) (w : World) : (Op.equalIn (d + 1) t u' v').run P w = .ok b w := by
  have tab : (match tabB .eql u v with | some (.bool b) => some b | _ => none) = some b → (Op.equalIn (d + 1) t u' v').run P w = .ok b w := fun h => by
    split at h
    · rename_i b' hb
      injection h with h; subst h
      have hb0 := hb
      unfold tabB at hb0
      split at hb0
      · rename_i hc
        split at hb0
        · rename_i z hz
          split at hb0
          · injection hb0 with hb0; subst hb0
            obtain ⟨⟨h1, h3⟩, h2⟩ := Env.okB _ _ _ _ (findB_spec _ hz)
            rw [hu.tab hc.1, hv.tab hc.2]
            obtain ⟨k, a, c, e1, e2, e3⟩ := eql_ints h1 h3 (h2 P t w)
            rw [e1, e2, e3]
            exact equalIn_int ht d w
          · cases hb0
        · cases hb0
      · cases hb0
    · cases h
  unfold eqOne at h
  split at h
  · split at h
    · rename_i e
      injection h with h; subst h e
      have h1 := hu.int_inv
      have h2 := hv.int_inv
      subst h1 h2
      exact equalIn_int ht d w
    · cases h
  · split at h
    · rename_i e
      obtain ⟨rfl, hi⟩ := e
      injection h with h; subst h
      have h1 := hu.tab rfl
      have h2 := hv.tab rfl
      subst h1 h2
      have := Env.okI _ hi
      simp only [realV]
      generalize Env.σ _ = z at *
      cases z with
      | int k a => rw [equalIn_int ht d w]; simp
      | _ => simp [isInt] at this
    · exact tab h
  · exact tab h
def eqFields (P : Program) (xs ys : Array Value) : List Field → Option Bool
  | [] => some true
  | f :: l => if f.name = "_" then eqFields P xs ys l else
    match P.underlying f.type, partM P f.type xs f.offset, partM P f.type ys f.offset with
    | some (.int _), some u, some v => match eqOne u v with
      | some true => eqFields P xs ys l
      | some false => some false
      | none => none
    | _, _, _ => none
theorem eqFields_run {P : Program} {ρ : Nm} {xs xs' ys ys' : Array Value} (hx : AR ρ xs xs') (hy : AR ρ ys ys') (d : Nat) (w : World) : ∀ (l : List Field) (b : Bool), eqFields P xs ys l = some b →
    (forIn l ((none, ()) : Option Bool × Unit) (fun f __s => if f.name ≠ "_" then do
        let __do_lift ← part f.type xs' f.offset
        let __do_lift_1 ← part f.type ys' f.offset
        let __do_lift ← Op.equalIn (d + 1) f.type __do_lift __do_lift_1
        if (!__do_lift) = true then pure (ForInStep.done (some false, ())) else pure (ForInStep.yield (none, ()))
      else (pure (ForInStep.yield (none, ())) : Sem _))).run P w = .ok (if b then (none, ()) else (some false, ())) w
  | [], b, h => by
    simp only [eqFields, Option.some.injEq] at h
    subst h; simp
  | f :: l, b, h => by
    simp only [eqFields] at h
    by_cases hn : f.name = "_"
    · rw [if_pos hn] at h
      simp only [List.forIn_cons, hn, ne_eq, not_true_eq_false, if_false, Sem.run_bind, Sem.run_pure, Result.andThen_ok]
      exact eqFields_run hx hy d w l b h
    · rw [if_neg hn] at h
      split at h
      · rename_i q u v hu hpu hpv
        obtain ⟨u', r1, r2⟩ := part_run hx hpu
        obtain ⟨v', r3, r4⟩ := part_run hy hpv
        split at h
        · rename_i he
          have := eqOne_run r2 r4 he hu d w
          simp only [List.forIn_cons, hn, ne_eq, not_false_eq_true, if_true, Sem.run_bind, r1, r3, this, Sem.run_pure, Result.andThen_ok]
          exact eqFields_run hx hy d w l b h
        · rename_i he
          injection h with h; subst h
          have := eqOne_run r2 r4 he hu d w
          simp only [List.forIn_cons, hn, ne_eq, not_false_eq_true, if_true, Sem.run_bind, r1, r3, this, Sem.run_pure, Result.andThen_ok]
          simp
        · cases h
      · cases h
/-- two structs of numbers -/
def eqStruct (P : Program) (t : TypeId) (u v : Value) : Option Bool :=
  match P.underlying t, u, v with
  | some (.struct fs), .agg xs, .agg ys => if P.stoodInHeld t = false ∧ P.eqGuardType P.depth t = false then eqFields P xs ys fs.toList else none
  | _, _, _ => none
theorem eqStruct_run {P : Program} {ρ : Nm} {t : TypeId} {u u' v v' : Value} {b : Bool} (hu : VR ρ u u') (hv : VR ρ v v') (h : eqStruct P t u v = some b) : (∀ w, (Op.equal t u' v').run P w = .ok b w) ∧ (∀ op x y w, (eqGuard op t x y u' v').run P w = .ok () w) ∧ binOp .eql t u' v' = (do pure (.bool (← Op.equal t u' v'))) ∧ binOp .neq t u' v' = (do pure (.bool (!(← Op.equal t u' v')))) := by
  unfold eqStruct at h
  split at h
  · rename_i fs xs ys ht
    split at h
    · rename_i hc
      obtain ⟨xs', rfl, hx⟩ := hu.agg_inv
      obtain ⟨ys', rfl, hy⟩ := hv.agg_inv
      refine ⟨fun w => ?_, fun op x y w => ?_, rfl, rfl⟩
      · rw [equal_step]
        unfold Op.equalIn
        simp only [Sem.run_bind, run_underlying ht, Result.andThen_ok]
        simp only [program, Sem.run, hc.1, Result.andThen_ok, Sem.run_bind]
        rw [← Array.forIn_toList, if_neg (by simp)]
        have := eqFields_run hx hy 9998 w fs.toList b h
        rw [Sem.run_bind, this, Result.andThen_ok]
        cases b <;> simp
      · unfold eqGuard
        cases op <;> simp [program, Sem.run, hc.2]
    · cases h
  · cases h
/-- whatever has no addresses -/
def pureO : Option Value → Bool
  | some v => pureV v
  | none => false
def evalF (a : Act) : Operand → Value
  | .tmp t => getF undef a.tmps t
  | .const v => v
  | .global g => .pointer (some ⟨g, 0, none⟩)
  | .func f => .func (.func f) #[] #[]
theorem evalF_eq (a : Act) : evalF a = a.eval := by
  funext x
  cases x <;> simp [evalF, Act.eval, getF_eq]
def pureOp (P : Program) (a : Act) (o : Oper) : Option Value :=
  match o.op with
  | .select _ _ => none
  | op => if op.operands.toList.all (fun x => pureO (evalM a x)) then
      match evPure P (execOp (evalF a) o) with
      | some (.value v) => if pureV v then some v else none
      | _ => none
    else none
theorem pureOp_run {P : Program} {ρ : Nm} {a a' : Act} {o : Oper} {v : Value} (h : ActR ρ a a') (hv : pureOp P a o = some v) : ∃ v', (∀ w, (execOp a'.eval o).run P w = .ok (.value v') w) ∧ VR ρ v v' := by
  unfold pureOp at hv
  rw [evalF_eq] at hv
  split at hv
  · cases hv
  · rename_i hns
    split at hv
    · rename_i hall
      split at hv
      · rename_i u hu
        split at hv
        · rename_i hp
          injection hv with hv; subst hv
          refine ⟨u, fun w => ?_, .same _ hp⟩
          have : execOp a'.eval o = execOp a.eval o := execOp_congr o (fun cs b e => hns cs b e) (fun x hx => by
            have hxx := List.all_eq_true.1 hall x (by simpa using hx)
            cases hev : evalM a x with
            | none => simp [hev, pureO] at hxx
            | some u =>
              simp [hev, pureO] at hxx
              obtain ⟨h1, h2⟩ := evalM_spec h hev
              rw [h1.pure hxx, h2])
          rw [this]
          exact evPure_run _ hu w
        · cases hv
      · cases hv
    · cases hv
def opF (P : Program) (a : Act) (o : Oper) : Option Value :=
  match o.op with
  | .move x => evalM a x
  | .assign x => evalM a x
  | .pick c x y => match evalM a c, evalM a x, evalM a y with
    | some (.bool b), some u, some v => some (if b then u else v)
    | _, _, _ => none
  | .build t ps => match partsM a ps.toList with
    | some vs => buildM P t vs
    | none => none
  | .nilCheck x => match evalM a x with
    | some (.pointer (some ad)) => some (.pointer (some ad))
    | some (.func (.func f) xs us) => some (.func (.func f) xs us)
    | _ => none
  | .field t x f => match evalM a x with
    | some v => fieldM P t v f
    | none => none
  | .index t x i => match evalM a x, evalM a i with
    | some v, some u => match indexM P t v u with
      | some r => some r
      | none => pureOp P a o
    | _, _ => none
  | .extract x i => match evalM a x with
    | some (.tuple xs) => xs[i]?
    | _ => none
  | .fieldAddr t x f => match evalM a x with
    | some v => fieldAddrM P t v f
    | none => none
  | .indexAddr t x i => match evalM a x, evalM a i with
    | some v, some u => indexAddrM P t v u
    | _, _ => none
  | .slice t x lo hi mx => match evalM a x, optM a lo, optM a hi, optM a mx with
    | some v, some l, some h, some q => match sliceM P t v l h q with
      | some r => some r
      | none => pureOp P a o
    | _, _, _, _ => none
  | .makeFunc fn first cap => match argsM a first.toList, argsM a cap.toList with
    | some xs, some us => if noLoop fn then some (.func fn xs.toArray us.toArray) else none
    | _, _ => none
  | .binOp op t x y _ => match evalM a x, evalM a y with
    | some u, some v => if nilTest P t u v then match op with
        | .eql => some (.bool false)
        | .neq => some (.bool true)
        | _ => none
      else match pureOp P a o with
        | some r => some r
        | none => match tabB op u v with
          | some r => some r
          | none => match op, eqStruct P t u v with
            | .eql, some b => some (.bool b)
            | .neq, some b => some (.bool (!b))
            | _, _ => none
    | _, _ => none
  | .unOp op _ x => match pureOp P a o with
    | some r => some r
    | none => match op, evalM a x with
      | .neg, some u => tabB .sub (.int .i64 0) u
      | _, _ => none
  | .call c => match c.callee, c.args.toList, c.argTypes.toList with
    | .builtin .min, [x, y], _ => match evalM a x, evalM a y with
      | some u, some v => match pureOp P a o with
        | some r => some r
        | none => tabM false u v
      | _, _ => none
    | .builtin .max, [x, y], _ => match evalM a x, evalM a y with
      | some u, some v => match pureOp P a o with
        | some r => some r
        | none => tabM true u v
      | _, _ => none
    | .builtin .len, [x], [t] => match evalM a x with
      | some (.slice (some ad) n c) => match P.underlying t with
        | some (.slice _) => some (goInt n)
        | _ => none
      | _ => pureOp P a o
    | _, _, _ => pureOp P a o
  | _ => pureOp P a o
theorem opF_run {P : Program} {ρ : Nm} {a a' : Act} {o : Oper} {v : Value} (h : ActR ρ a a') (hv : opF P a o = some v) : ∃ v', (∀ w, (execOp a'.eval o).run P w = .ok (.value v') w) ∧ VR ρ v v' := by
  obtain ⟨dst, op, type, pos, after, guard⟩ := o
  unfold opF at hv
  dsimp only at hv
  split at hv
  · obtain ⟨h1, _⟩ := evalM_spec h hv
    exact ⟨_, fun w => rfl, h1⟩
  · obtain ⟨h1, _⟩ := evalM_spec h hv
    exact ⟨_, fun w => rfl, h1⟩
  · rename_i c x y
    split at hv
    · rename_i b u z hc hx hy
      injection hv with hv; subst hv
      obtain ⟨h1, _⟩ := evalM_spec h hc
      obtain ⟨h2, _⟩ := evalM_spec h hx
      obtain ⟨h3, _⟩ := evalM_spec h hy
      have := h1.pure rfl
      refine ⟨if b then a'.eval x else a'.eval y, fun w => by simp [execOp, this, asBool], ?_⟩
      cases b
      · exact h3
      · exact h2
    · cases hv
  · rename_i t ps
    split at hv
    · rename_i vs hvs
      obtain ⟨v', h1, h2⟩ := build_run (parts_pr h hvs) hv
      exact ⟨v', fun w => by simp only [execOp, Sem.run_bind, h1, Result.andThen_ok, Sem.run_pure], h2⟩
    · cases hv
  · rename_i x
    split at hv
    · rename_i ad hx
      injection hv with hv; subst hv
      obtain ⟨h1, _⟩ := evalM_spec h hx
      obtain ⟨b, d, e, _, _, h2⟩ := h1.ptr_inv
      exact ⟨a'.eval x, fun w => by simp [execOp, h2], h1⟩
    · rename_i f xs us hx
      injection hv with hv; subst hv
      obtain ⟨h1, _⟩ := evalM_spec h hx
      obtain ⟨f', ys, vs, h2, _, _, h3⟩ := h1.func_inv
      have := h3 rfl; subst this
      exact ⟨a'.eval x, fun w => by simp [execOp, h2], h1⟩
    · cases hv
  · rename_i t x f
    split at hv
    · rename_i u hx
      obtain ⟨v', h1, h2⟩ := field_run (evalM_spec h hx).1 hv
      exact ⟨v', fun w => by simp only [execOp, Sem.run_bind, h1, Result.andThen_ok, Sem.run_pure], h2⟩
    · cases hv
  · rename_i t x i
    split at hv
    · rename_i u q hx hi
      split at hv
      · rename_i r hr
        injection hv with hv; subst hv
        obtain ⟨v', h1, h2⟩ := index_run (evalM_spec h hx).1 (evalM_spec h hi).1 hr
        exact ⟨v', fun w => by simp only [execOp, Sem.run_bind, h1, Result.andThen_ok, Sem.run_pure], h2⟩
      · exact pureOp_run h hv
    · cases hv
  · rename_i x i
    split at hv
    · rename_i xs hx
      obtain ⟨v', h1, h2⟩ := extract_run (P := P) (evalM_spec h hx).1 hv
      exact ⟨v', fun w => by simp only [execOp, Sem.run_bind, h1, Result.andThen_ok, Sem.run_pure], h2⟩
    · cases hv
  · rename_i t x f
    split at hv
    · rename_i u hx
      obtain ⟨v', h1, h2⟩ := fieldAddr_run (evalM_spec h hx).1 hv
      exact ⟨v', fun w => by simp only [execOp, Sem.run_bind, h1, Result.andThen_ok, Sem.run_pure], h2⟩
    · cases hv
  · rename_i t x i
    split at hv
    · rename_i u q hx hi
      obtain ⟨v', h1, h2⟩ := indexAddr_run (evalM_spec h hx).1 (evalM_spec h hi).1 hv
      exact ⟨v', fun w => by simp only [execOp, Sem.run_bind, h1, Result.andThen_ok, Sem.run_pure], h2⟩
    · cases hv
  · rename_i t x lo hi mx
    split at hv
    · rename_i u l0 h0 m0 hx hl hh hm
      split at hv
      · rename_i r hr
        injection hv with hv; subst hv
        obtain ⟨v', h1, h2⟩ := slice_run (evalM_spec h hx).1 (optM_spec h hl) (optM_spec h hh) (optM_spec h hm) hr
        exact ⟨v', fun w => by simp only [execOp, Sem.run_bind, h1, Result.andThen_ok, Sem.run_pure], h2⟩
      · exact pureOp_run h hv
    · cases hv
  · rename_i fn first cap
    split at hv
    · rename_i xs us hx hu
      split at hv
      · rename_i hn
        injection hv with hv; subst hv
        have h1 := args_ar h hx
        have h2 := args_ar h hu
        exact ⟨.func fn (first.map a'.eval) (cap.map a'.eval), fun w => by simp [execOp, Instr.makeFunc], .func fn hn _ _ _ _ h1.size h1.get h2.size h2.get⟩
      · cases hv
    · cases hv
  · rename_i op t x y yt
    split at hv
    · rename_i u q hx hy
      split at hv
      · rename_i hn
        obtain ⟨e1, e2, e3, e4⟩ := equal_nil (evalM_spec h hx).1 (evalM_spec h hy).1 hn
        split at hv
        · injection hv with hv; subst hv
          exact ⟨.bool false, fun w => by simp only [execOp, Sem.run_bind, e2, Sem.run_pure, Result.andThen_ok, e3, e1], .same _ rfl⟩
        · injection hv with hv; subst hv
          exact ⟨.bool true, fun w => by simp only [execOp, Sem.run_bind, e2, Sem.run_pure, Result.andThen_ok, e4, e1, Bool.not_false], .same _ rfl⟩
        · cases hv
      · split at hv
        · rename_i r hr
          injection hv with hv; subst hv
          exact pureOp_run h hr
        · split at hv
          · rename_i z hz
            injection hv with hv; subst hv
            obtain ⟨r1, r2, r3⟩ := tabB_run (evalM_spec h hx).1 (evalM_spec h hy).1 hz
            exact ⟨_, fun w => by simp only [execOp, Sem.run_bind, r2, Sem.run_pure, Result.andThen_ok, r1], r3⟩
          · split at hv
            · rename_i b hb hn1 hn2
              injection hv with hv; subst hv
              obtain ⟨e1, e2, e3, e4⟩ := eqStruct_run (evalM_spec h hx).1 (evalM_spec h hy).1 hb
              exact ⟨.bool b, fun w => by simp only [execOp, Sem.run_bind, e2, Sem.run_pure, Result.andThen_ok, e3, e1], .same _ rfl⟩
            · rename_i b hb hn1 hn2
              injection hv with hv; subst hv
              obtain ⟨e1, e2, e3, e4⟩ := eqStruct_run (evalM_spec h hx).1 (evalM_spec h hy).1 hb
              exact ⟨.bool (!b), fun w => by simp only [execOp, Sem.run_bind, e2, Sem.run_pure, Result.andThen_ok, e4, e1], .same _ rfl⟩
            · cases hv
    · cases hv
  · rename_i op t x
    split at hv
    · rename_i r hr
      injection hv with hv; subst hv
      exact pureOp_run h hr
    · split at hv
      · rename_i u hx hn1
        have hr := hv
        obtain ⟨r1, r2, r3⟩ := tabB_run (.same (ρ := ρ) (.int .i64 0) rfl) (evalM_spec h hx).1 hv
        have hint : ∃ n, a'.eval x = .int .i64 n := by
          unfold tabB at hr
          split at hr
          · rename_i hc
            split at hr
            · rename_i z hz
              obtain ⟨⟨_, h3⟩, h2⟩ := Env.okB _ _ _ _ (findB_spec _ hz)
              have h4 := (evalM_spec h hx).1.tab hc.2
              rw [h4]
              have h5 := h2 P 0 (default : World)
              generalize realV Env.σ u = q at *
              cases q with
              | int k n =>
                by_cases e : IntKind.i64 = k
                · subst e; exact ⟨n, rfl⟩
                · simp [binOp, realV, e, stuck, Sem.run] at h5
              | _ => simp [isInt] at h3
            · cases hr
          · cases hr
        obtain ⟨n, hn⟩ := hint
        refine ⟨_, fun w => ?_, r3⟩
        have h6 := r1 P 0 w
        rw [hn, binOp_sub] at h6
        simp [execOp, hn, Op.unary, h6]
      · cases hv
  · rename_i c
    split at hv
    · rename_i x y hcal hargs
      split at hv
      · rename_i u q hx hy
        split at hv
        · rename_i r hr
          injection hv with hv; subst hv
          exact pureOp_run h hr
        · obtain ⟨r1, r2⟩ := tabM_run (evalM_spec h hx).1 (evalM_spec h hy).1 hv
          obtain ⟨callee, args, tys⟩ := c
          dsimp only at hcal hargs
          have e1 : args = #[x, y] := Array.ext' hargs
          subst hcal e1
          have r3 := fun w => r1 P w
          simp only [Bool.false_eq_true, if_false] at r3
          exact ⟨_, fun w => by simp [execOp, resolve, invoke, builtin, Builtin.min_, r3], r2⟩
      · cases hv
    · rename_i x y hcal hargs
      split at hv
      · rename_i u q hx hy
        split at hv
        · rename_i r hr
          injection hv with hv; subst hv
          exact pureOp_run h hr
        · obtain ⟨r1, r2⟩ := tabM_run (evalM_spec h hx).1 (evalM_spec h hy).1 hv
          obtain ⟨callee, args, tys⟩ := c
          dsimp only at hcal hargs
          have e1 : args = #[x, y] := Array.ext' hargs
          subst hcal e1
          have r3 := fun w => r1 P w
          simp only [if_true] at r3
          exact ⟨_, fun w => by simp [execOp, resolve, invoke, builtin, Builtin.max_, r3], r2⟩
      · cases hv
    · rename_i x t hcal hargs hty
      split at hv
      · rename_i ad n cp hx
        split at hv
        · rename_i el hu
          injection hv with hv; subst hv
          obtain ⟨h1, _⟩ := evalM_spec h hx
          obtain ⟨A, k, h2⟩ := h1.slice_form
          obtain ⟨callee, args, tys⟩ := c
          dsimp only at hcal hargs hty
          have e1 : args = #[x] := Array.ext' hargs
          have e2 : tys = #[t] := Array.ext' hty
          subst hcal e1 e2
          refine ⟨goInt n, fun w => ?_, .same _ rfl⟩
          simp [execOp, resolve, invoke, builtin, Builtin.len_, h2, run_underlying hu]
        · cases hv
      · exact pureOp_run h hv
    · exact pureOp_run h hv
  · exact pureOp_run h hv
end Go.Proofs.Ytbflolaongghmaa
