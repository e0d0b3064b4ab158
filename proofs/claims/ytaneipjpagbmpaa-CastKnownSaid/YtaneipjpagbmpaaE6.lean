/-
  The small machine: when two of its states are the same; its operations, all of them.
-/
import Derived.Test.YtaneipjpagbmpaaE5
import Derived.Scope
namespace Go.Proofs.Ytaneipjpagbmpaa
open Go.RowKit
set_option linter.unusedVariables false
set_option linter.unusedSimpArgs false
set_option linter.unusedSectionVars false
variable [Env]

noncomputable def eqE : List MapEntry → List MapEntry → Bool
  | [], [] => true
  | a :: l, b :: m => eqV a.key b.key && eqV a.val b.val && decide (a.born = b.born) && eqE l m
  | _, _ => false
theorem eqE_sound : ∀ a b : List MapEntry, eqE a b = true → a = b
  | [], [], _ => rfl
  | ⟨k, v, n⟩ :: l, ⟨k', v', n'⟩ :: m, h => by
    simp only [eqE, Bool.and_eq_true, decide_eq_true_eq] at h
    rw [eqV_sound _ _ h.1.1.1, eqV_sound _ _ h.1.1.2, h.1.2, eqE_sound _ _ h.2]
  | [], _ :: _, h => by simp [eqE] at h
  | _ :: _, [], h => by simp [eqE] at h
noncomputable def eqC : Code → Code → Bool
  | .skip, .skip => true
  | .block n c, .block m d => decide (n = m) && eqC c d
  | _, _ => false
theorem eqC_sound : ∀ a b : Code, eqC a b = true → a = b
  | .skip, b, h => by cases b <;> first | rfl | (simp [eqC] at h)
  | .block n c, b, h => by
    cases b <;> first | (simp [eqC] at h; done) | skip
    rw [eqC, Bool.and_eq_true, decide_eq_true_eq] at h; rw [h.1, eqC_sound _ _ h.2]
  | .seq .., _, h | .cond .., _, h | .loop .., _, h | .scope .., _, h | .exit .., _, h | .goto .., _, h | .ret, _, h | .label .., _, h | .rangeFunc .., _, h | .region .., _, h | .refuse .., _, h => by simp [eqC] at h
noncomputable def eqJ : Option Code → Option Code → Bool
  | none, none => true
  | some .ret, some .ret => true
  | some (.exit a), some (.exit b) => decide (a = b)
  | _, _ => false
theorem eqJ_sound (a b : Option Code) (h : eqJ a b = true) : a = b := by
  unfold eqJ at h
  split at h
  · rfl
  · rfl
  · rw [of_decide_eq_true h]
  · cases h
noncomputable def eqLoop (r q : Loop) : Bool := decide (r.state = q.state) && eqJ r.pending q.pending && decide (r.fn = q.fn) && eqA r.tmps q.tmps && decide (r.params = q.params) && eqC r.assign q.assign && eqC r.body q.body && decide (r.defers = q.defers)
theorem eqLoop_sound {r q : Loop} (h : eqLoop r q = true) : r = q := by
  obtain ⟨a1, a2, a3, a4, a5, a6, a7, a8⟩ := r
  obtain ⟨b1, b2, b3, b4, b5, b6, b7, b8⟩ := q
  simp only [eqLoop, Bool.and_eq_true, decide_eq_true_eq] at h
  obtain ⟨⟨⟨⟨⟨⟨⟨e1, e2⟩, e3⟩, e4⟩, e5⟩, e6⟩, e7⟩, e8⟩ := h
  have q2 := eqJ_sound _ _ e2
  have q4 := eqA_sound _ _ e4
  have q6 := eqC_sound _ _ e6
  have q7 := eqC_sound _ _ e7
  subst e1 q2 e3 q4 e5 q6 q7 e8
  rfl
noncomputable def eqO : Option Obj → Option Obj → Bool
  | none, none => true
  | some (.cells a t fr), some (.cells b u gr) => decide (t = u) && decide (fr = gr) && eqA a b
  | some (.map ⟨a⟩ c), some (.map ⟨b⟩ d) => decide (c = d) && eqE a b
  | some (.loop r), some (.loop q) => eqLoop r q
  | some (.deferred none), some (.deferred none) => true
  | some (.deferred (some [])), some (.deferred (some [])) => true
  | some (.mapIter o s ⟨l⟩ c), some (.mapIter o' s' ⟨l'⟩ c') => decide (o = o') && decide (s = s') && decide (l = l') && decide (c = c')
  | _, _ => false
theorem eqO_sound (a b : Option Obj) (h : eqO a b = true) : a = b := by
  unfold eqO at h
  split at h
  · rfl
  · simp only [Bool.and_eq_true, decide_eq_true_eq] at h; rw [h.1.1, h.1.2, eqA_sound _ _ h.2]
  · simp only [Bool.and_eq_true, decide_eq_true_eq] at h; rw [h.1, eqE_sound _ _ h.2]
  · rw [eqLoop_sound h]
  · rfl
  · rfl
  · simp only [Bool.and_eq_true, decide_eq_true_eq] at h; rw [h.1.1.1, h.1.1.2, h.1.2, h.2]
  · cases h
noncomputable def eqT : Tr (Option Obj) → Tr (Option Obj) → Bool
  | .leaf, .leaf => true
  | .node none l r, .node none l' r' => eqT l l' && eqT r r'
  | .node (some o) l r, .node (some o') l' r' => eqO o o' && eqT l l' && eqT r r'
  | _, _ => false
theorem eqT_sound : ∀ a b : Tr (Option Obj), eqT a b = true → a = b
  | .leaf, .leaf, _ => rfl
  | .node none l r, .node none l' r', h => by rw [eqT, Bool.and_eq_true] at h; rw [eqT_sound _ _ h.1, eqT_sound _ _ h.2]
  | .node (some o) l r, .node (some o') l' r', h => by
    rw [eqT, Bool.and_eq_true, Bool.and_eq_true] at h; rw [eqO_sound _ _ h.1.1, eqT_sound _ _ h.1.2, eqT_sound _ _ h.2]
  | .leaf, .node .., h => by simp [eqT] at h
  | .node none _ _, .leaf, h => by simp [eqT] at h
  | .node (some _) _ _, .leaf, h => by simp [eqT] at h
  | .node none _ _, .node (some _) _ _, h => by simp [eqT] at h
  | .node (some _) _ _, .node none _ _, h => by simp [eqT] at h

/-! ### Operands -/
/-- the marks of ranges over functions -/
inductive DR (ρ : Nm) : List Deferred → List Deferred → Prop
  | nil : DR ρ [] []
  | cons {n b : Nat} {l l' : List Deferred} (h : ρ n = some (b, 0, 0)) (t : DR ρ l l') : DR ρ ({ target := .collected n, args := #[] } :: l) ({ target := .collected b, args := #[] } :: l')
  /-- a closure that is called at the function's end -/
  | fn {g : FuncId} {xs ys : Array Value} {l l' : List Deferred} (h : AR ρ xs ys) (t : DR ρ l l') : DR ρ ({ target := .fn (.func g) xs, args := #[] } :: l) ({ target := .fn (.func g) ys, args := #[] } :: l')
theorem DR.ext {ρ ρ' : Nm} (hx : Ext ρ ρ') {l l' : List Deferred} (h : DR ρ l l') : DR ρ' l l' := by
  induction h with
  | nil => exact .nil
  | cons h t ih => exact .cons (hx _ _ h) ih
  | fn h t ih => exact .fn (h.ext hx) ih
noncomputable def eqD : List Deferred → List Deferred → Bool
  | [], [] => true
  | ⟨.collected a, x⟩ :: l, ⟨.collected b, y⟩ :: m => decide (a = b) && x.isEmpty && y.isEmpty && eqD l m
  | _, _ => false
theorem eqD_sound : ∀ l m : List Deferred, eqD l m = true → l = m
  | [], [], _ => rfl
  | [], _ :: _, h => by simp [eqD] at h
  | ⟨t, x⟩ :: l, [], h => by simp [eqD] at h
  | ⟨t, x⟩ :: l, ⟨u, y⟩ :: m, h => by
    unfold eqD at h
    split at h
    · rename_i h1 h2; cases h1
    · rename_i a x' l' b y' m' h1 h2
      cases h1; cases h2
      simp only [Bool.and_eq_true, decide_eq_true_eq] at h
      obtain ⟨⟨⟨e1, e2⟩, e3⟩, e4⟩ := h
      rw [e1, Array.isEmpty_iff.1 e2, Array.isEmpty_iff.1 e3, eqD_sound _ _ e4]
    · cases h
/-- an activation of the small machine: its slots in a tree -/
structure MA where
  t : Tr Value
  n : Nat
  defers : List Deferred
noncomputable def MA.get (a : MA) (i : Nat) : Value := if i < a.n ∧ i < 1048576 then (match a.t.get i with
  | some v => v
  | none => undef) else undef
noncomputable def MA.put (a : MA) (d : Nat) (v : Value) : MA := if d < a.n ∧ d < 1048576 then { t := Tr.putF v 24 a.t d, n := a.n, defers := a.defers } else a
noncomputable def putF (a : MA) (dst : Option Tmp) (v : Value) : MA := match dst with
  | none => a
  | some d => a.put d v
theorem MA.put_n (a : MA) (d : Nat) (v : Value) : (a.put d v).n = a.n := by unfold MA.put; split <;> rfl
theorem MA.put_defers (a : MA) (d : Nat) (v : Value) : (a.put d v).defers = a.defers := by unfold MA.put; split <;> rfl
theorem MA.get_put (a : MA) (d : Nat) (v : Value) (i : Nat) : (a.put d v).get i = if i = d ∧ d < a.n ∧ d < 1048576 then v else a.get i := by
  unfold MA.put
  split
  · rename_i h
    unfold MA.get
    dsimp only
    rw [Tr.putF_eq]
    by_cases e : i = d
    · subst e
      rw [Tr.get_put _ _ _ _ (by omega)]
      simp [h]
    · rw [Tr.get_put_ne _ _ _ _ _ e, if_neg (c := i = d ∧ d < a.n ∧ d < 1048576) (fun hh => e hh.1)]
  · rename_i h
    rw [if_neg (fun hh => h ⟨hh.2.1, hh.2.2⟩)]
theorem MA.get_out {a : MA} {i : Nat} (h : a.n ≤ i) : a.get i = undef := by unfold MA.get; rw [if_neg (by omega)]
noncomputable def MA.fill : List Value → Nat → Tr Value → Tr Value
  | [], _, t => t
  | v :: l, i, t => (Tr.putF v 24 t i).open fun t => MA.fill l (i + 1) t
theorem MA.fill_get : ∀ (l : List Value) (i : Nat) (t : Tr Value) (k : Nat), i + l.length < 2 ^ 24 → (MA.fill l i t).get k = if i ≤ k ∧ k < i + l.length then l[k - i]? else t.get k
  | [], i, t, k, h => by simp [MA.fill]; intro h1 h2; omega
  | v :: l, i, t, k, h => by
    rw [MA.fill, Tr.open_eq, Tr.putF_eq, MA.fill_get l (i + 1) _ k (by simp at h; omega)]
    simp only [List.length_cons] at h ⊢
    by_cases e : k = i
    · subst e
      rw [if_neg (by omega), if_pos (by omega), Tr.get_put _ _ _ _ (by omega)]; simp
    · rw [Tr.get_put_ne _ _ _ _ _ e]
      by_cases hk : i + 1 ≤ k ∧ k < i + 1 + l.length
      · rw [if_pos hk, if_pos (by omega), show k - i = k - (i + 1) + 1 by omega]; simp
      · rw [if_neg hk, if_neg (by omega)]
/-- an activation out of its first slots -/
noncomputable def MA.start (xs : Array Value) (n : Nat) (ds : List Deferred) : MA := { t := MA.fill xs.toList 0 .leaf, n := n, defers := ds }
theorem MA.start_get {xs : Array Value} {n : Nat} {ds : List Deferred} (h : xs.size ≤ n) (hn : n ≤ 1048576) (i : Nat) : (MA.start xs n ds).get i = xs.getD i undef := by
  unfold MA.start MA.get
  dsimp only
  rw [MA.fill_get _ _ _ _ (by simp; omega)]
  by_cases hi : i < xs.size
  · rw [if_pos (by omega), if_pos (by simp; omega)]
    simp [hi]
  · split
    · rw [if_neg (by simp; omega)]
      simp [Tr.get, hi]
    · simp [hi]
noncomputable def MA.arr (a : MA) : Array Value := ⟨(List.range a.n).map a.get⟩
structure ActR (ρ : Nm) (a : MA) (a' : Act) : Prop where
  size : a'.tmps.size = a.n
  le : a.n ≤ 1048576
  get : ∀ i, VR ρ (a.get i) (a'.tmps.getD i undef)
  defs : DR ρ a.defers a'.defers
theorem ActR.ext {ρ ρ' : Nm} {a : MA} {a' : Act} (h : ActR ρ a a') (hx : Ext ρ ρ') : ActR ρ' a a' := ⟨h.size, h.le, fun i => (h.get i).ext hx, h.defs.ext hx⟩
theorem ActR.arr {ρ : Nm} {a : MA} {a' : Act} (h : ActR ρ a a') : AR ρ a.arr a'.tmps := ⟨by simp [MA.arr, h.size], fun i x y => by
  have := h.get i
  simpa [MA.arr, y] using this⟩
theorem ActR.put {ρ : Nm} {a : MA} {a' : Act} (h : ActR ρ a a') (dst : Option Tmp) {v v' : Value} (hv : VR ρ v v') : ActR ρ (putF a dst v) (a'.put dst v') := by
  cases dst with
  | none => exact h
  | some d =>
    refine ⟨by simp [Act.put, putF, MA.put_n, h.size], by simp [putF, MA.put_n, h.le], fun i => ?_, by simp only [putF, MA.put_defers]; exact h.defs⟩
    show VR ρ ((a.put d v).get i) _
    rw [MA.get_put]
    by_cases hd : d < a'.tmps.size
    · by_cases e : i = d
      · subst e
        rw [if_pos ⟨rfl, by rw [← h.size]; exact hd, Nat.lt_of_lt_of_le hd (by rw [h.size]; exact h.le)⟩]
        simp [Act.put, Array.getD, hd]; exact hv
      · rw [if_neg (fun hh => e hh.1)]
        have e2 : (a'.put (some d) v').tmps.getD i undef = a'.tmps.getD i undef := by
          simp only [Act.put, Array.getD]
          by_cases hh : i < a'.tmps.size <;> simp [hh, Array.getElem_setIfInBounds, Ne.symm e]
        rw [e2]; exact h.get i
    · rw [if_neg (fun hh => hd (by rw [h.size]; exact hh.2.1))]
      rw [show (a'.put (some d) v').tmps = a'.tmps by simp [Act.put, Array.setIfInBounds, hd]]
      exact h.get i
noncomputable def evalM (a : MA) : Operand → Option Value
  | .tmp t => some (a.get t)
  | .const v => if pureV v then some v else none
  | .global _ => none
  | .func f => some (.func (.func f) #[] #[])
noncomputable def evalF (a : MA) : Operand → Value
  | .tmp t => a.get t
  | .const v => v
  | .global g => .pointer (some ⟨g, 0, none⟩)
  | .func f => .func (.func f) #[] #[]
theorem evalM_spec {ρ : Nm} {a : MA} {a' : Act} (h : ActR ρ a a') {x : Operand} {v : Value} (hv : evalM a x = some v) : VR ρ v (a'.eval x) ∧ evalF a x = v := by
  cases x with
  | tmp t => simp only [evalM, Option.some.injEq] at hv; subst hv; exact ⟨h.get t, rfl⟩
  | const u =>
    simp only [evalM] at hv
    split at hv
    · rename_i hp; injection hv with hv; subst hv; exact ⟨.same _ hp, rfl⟩
    · cases hv
  | global g => simp [evalM] at hv
  | func f => simp only [evalM, Option.some.injEq] at hv; subst hv; exact ⟨.same _ rfl, rfl⟩
noncomputable def argsM (a : MA) : List Operand → Option (List Value)
  | [] => some []
  | x :: l => match evalM a x, argsM a l with
    | some v, some vs => some (v :: vs)
    | _, _ => none
theorem argsM_spec {ρ : Nm} {a : MA} {a' : Act} (h : ActR ρ a a') : ∀ (l : List Operand) (vs : List Value), argsM a l = some vs → LR ρ vs (l.map a'.eval)
  | [], vs, e => by simp only [argsM, Option.some.injEq] at e; subst e; exact .nil
  | x :: l, vs, e => by
    simp only [argsM] at e
    split at e
    · rename_i v us hv hus
      injection e with e; subst e
      exact .cons (evalM_spec h hv).1 (argsM_spec h l us hus)
    · cases e
theorem args_ar {ρ : Nm} {a : MA} {a' : Act} (h : ActR ρ a a') {xs : Array Operand} {vs : List Value} (hv : argsM a xs.toList = some vs) : AR ρ vs.toArray (xs.map a'.eval) := by
  have := (argsM_spec h _ _ hv).ar
  have e : xs.map a'.eval = (xs.toList.map a'.eval).toArray := Array.ext' (by simp)
  rw [e]
  exact this
noncomputable def partsM (a : MA) : List (Nat × Operand) → Option (List (Nat × Value))
  | [] => some []
  | (i, x) :: l => match evalM a x, partsM a l with
    | some v, some vs => some ((i, v) :: vs)
    | _, _ => none
theorem partsM_spec {ρ : Nm} {a : MA} {a' : Act} (h : ActR ρ a a') : ∀ (l : List (Nat × Operand)) (vs : List (Nat × Value)), partsM a l = some vs → PR ρ vs (l.map fun (i, x) => (i, a'.eval x))
  | [], vs, e => by simp only [partsM, Option.some.injEq] at e; subst e; exact .nil
  | (i, x) :: l, vs, e => by
    simp only [partsM] at e
    split at e
    · rename_i v us hv hus
      injection e with e; subst e
      exact .cons (evalM_spec h hv).1 (partsM_spec h l us hus)
    · cases e
theorem parts_pr {ρ : Nm} {a : MA} {a' : Act} (h : ActR ρ a a') {ps : Array (Nat × Operand)} {vs : List (Nat × Value)} (hv : partsM a ps.toList = some vs) : PR ρ vs (ps.map fun (i, x) => (i, a'.eval x)).toList := by
  rw [Array.toList_map]
  exact partsM_spec h _ _ hv
noncomputable def optM (a : MA) : Option Operand → Option (Option Value)
  | none => some none
  | some x => (evalM a x).map some
theorem optM_spec {ρ : Nm} {a : MA} {a' : Act} (h : ActR ρ a a') {x : Option Operand} {v : Option Value} (hv : optM a x = some v) : OV ρ v (x.map a'.eval) := by
  cases x with
  | none => simp only [optM, Option.some.injEq] at hv; subst hv; exact .none
  | some x =>
    simp only [optM, Option.map_eq_some_iff] at hv
    obtain ⟨u, hu, rfl⟩ := hv
    exact .some _ _ (evalM_spec h hu).1

/-! ### Operations that do not look at memory -/
/-- nothing against something -/
noncomputable def nilTest (P : Program) (t : TypeId) (x y : Value) : Bool :=
  match P.underlying t, x, y with
  | some (.pointer _), .pointer none, .pointer (some _) => true
  | some (.pointer _), .pointer (some _), .pointer none => true
  | some (.slice _), .slice none _ _, .slice (some a) _ c => !isRow a c
  | some (.slice _), .slice (some a) _ c, .slice none _ _ => !isRow a c
  | some (.map _ _), .map none, .map (some _) => true
  | some (.map _ _), .map (some _), .map none => true
  | some (.func _ _ _), .nilFunc, .func _ _ _ => true
  | some (.func _ _ _), .func _ _ _, .nilFunc => true
  | _, _, _ => false
theorem VR.func_inv {ρ : Nm} {f : Fn} {xs us : Array Value} {v' : Value} (h : VR ρ (.func f xs us) v') : ∃ f' ys vs, v' = .func f' ys vs ∧ AR ρ xs ys ∧ AR ρ us vs ∧ (noLoop f = true → f' = f) := by
  cases h with
  | same _ h =>
    rw [pureV, Bool.and_eq_true, Bool.and_eq_true] at h
    exact ⟨f, xs, us, rfl, .same h.1.2, .same h.2, fun _ => rfl⟩
  | yield n b h => exact ⟨_, #[], #[], rfl, .nil, .nil, fun h => by simp [noLoop] at h⟩
  | func _ hn _ ys _ vs h1 h2 h3 h4 => exact ⟨f, ys, vs, rfl, ⟨h1, h2⟩, ⟨h3, h4⟩, fun _ => rfl⟩
theorem equal_step (t : TypeId) (x y : Value) : Op.equal t x y = Op.equalIn (9999 + 1) t x y := rfl
theorem equal_nil {P : Program} {ρ : Nm} {t : TypeId} {x x' y y' : Value} (hx : VR ρ x x') (hy : VR ρ y y') (h : nilTest P t x y = true) : (∀ w, (Op.equal t x' y').run P w = .ok false w) ∧ (∀ op a b, eqGuard op t a b x' y' = pure ()) ∧ binOp .eql t x' y' = (do pure (.bool (← Op.equal t x' y'))) ∧ binOp .neq t x' y' = (do pure (.bool (!(← Op.equal t x' y')))) := by
  unfold nilTest at h
  split at h
  · rename_i el a hu
    have := hx.pure rfl; subst this
    obtain ⟨b, d, e, z, _, rfl, _⟩ := hy.ptr_any
    exact ⟨fun w => by rw [equal_step, Op.equalIn]; simp [run_underlying hu], fun op a b => by cases op <;> rfl, rfl, rfl⟩
  · rename_i el a hu
    have := hy.pure rfl; subst this
    obtain ⟨b, d, e, z, _, rfl, _⟩ := hx.ptr_any
    exact ⟨fun w => by rw [equal_step, Op.equalIn]; simp [run_underlying hu], fun op a b => by cases op <;> rfl, rfl, rfl⟩
  · rename_i el l1 c1 a l2 c2 hu
    have := hx.pure rfl; subst this
    obtain ⟨A, k, rfl⟩ := hy.slice_form (by simpa using h)
    exact ⟨fun w => by rw [equal_step, Op.equalIn]; simp [run_underlying hu], fun op a b => by cases op <;> rfl, rfl, rfl⟩
  · rename_i el a l1 c1 l2 c2 hu
    have := hy.pure rfl; subst this
    obtain ⟨A, k, rfl⟩ := hx.slice_form (by simpa using h)
    exact ⟨fun w => by rw [equal_step, Op.equalIn]; simp [run_underlying hu], fun op a b => by cases op <;> rfl, rfl, rfl⟩
  · rename_i k el a hu
    have := hx.pure rfl; subst this
    obtain ⟨b, _, rfl⟩ := hy.map_inv
    exact ⟨fun w => by rw [equal_step, Op.equalIn]; simp [run_underlying hu], fun op a b => by cases op <;> rfl, rfl, rfl⟩
  · rename_i k el a hu
    have := hy.pure rfl; subst this
    obtain ⟨b, _, rfl⟩ := hx.map_inv
    exact ⟨fun w => by rw [equal_step, Op.equalIn]; simp [run_underlying hu], fun op a b => by cases op <;> rfl, rfl, rfl⟩
  · rename_i ps rs vr f xs us hu
    have := hx.pure rfl; subst this
    obtain ⟨f', ys, vs, rfl, _⟩ := hy.func_inv
    exact ⟨fun w => by rw [equal_step, Op.equalIn]; simp [run_underlying hu], fun op a b => by cases op <;> rfl, rfl, rfl⟩
  · rename_i ps rs vr f xs us hu
    have := hy.pure rfl; subst this
    obtain ⟨f', ys, vs, rfl, _⟩ := hx.func_inv
    exact ⟨fun w => by rw [equal_step, Op.equalIn]; simp [run_underlying hu], fun op a b => by cases op <;> rfl, rfl, rfl⟩
  · cases h
/-! ### What is known of signs -/
noncomputable def findB (op : BinOp) (x y : Value) : List (BinOp × Value × Value × Value) → Option Value
  | [] => none
  | (q, u, v, z) :: l => if q = op ∧ eqQ u x = true ∧ eqQ v y = true then some z else findB op x y l
theorem findB_spec {op : BinOp} {x y z : Value} : ∀ (l : List (BinOp × Value × Value × Value)), findB op x y l = some z → (op, x, y, z) ∈ l
  | [], h => by cases h
  | (q, u, v, z') :: l, h => by
    unfold findB at h
    split at h
    · rename_i hc
      injection h with h; subst h
      obtain ⟨rfl, h2, h3⟩ := hc
      rw [eqQ_sound _ _ h2, eqQ_sound _ _ h3]; exact List.mem_cons_self ..
    · exact List.mem_cons_of_mem _ (findB_spec l h)
noncomputable def findM (b : Bool) (x y : Value) : List (Bool × Value × Value × Value) → Option Value
  | [] => none
  | (q, u, v, z) :: l => if q = b ∧ eqQ u x = true ∧ eqQ v y = true then some z else findM b x y l
theorem findM_spec {b : Bool} {x y z : Value} : ∀ (l : List (Bool × Value × Value × Value)), findM b x y l = some z → (b, x, y, z) ∈ l
  | [], h => by cases h
  | (q, u, v, z') :: l, h => by
    unfold findM at h
    split at h
    · rename_i hc
      injection h with h; subst h
      obtain ⟨rfl, h2, h3⟩ := hc
      rw [eqQ_sound _ _ h2, eqQ_sound _ _ h3]; exact List.mem_cons_self ..
    · exact List.mem_cons_of_mem _ (findM_spec l h)
theorem VR.tab {ρ : Nm} {v v' : Value} (h : VR ρ v v') (ht : tabV v = true) : v' = realV Env.σ v := by
  cases h with
  | sign k => rfl
  | same v h => cases v <;> first | rfl | (simp [tabV] at ht) | skip
                rename_i r; cases r <;> first | rfl | (simp [pureV] at h)
  | _ => simp [tabV] at ht
theorem tab_real {ρ : Nm} {v : Value} (ht : tabV v = true) : VR ρ v (realV Env.σ v) := by
  cases v with
  | bool b => exact .same _ rfl
  | int k n => exact .same _ rfl
  | chan r => cases r with
    | none => simp [tabV] at ht
    | some k => exact .sign k
  | _ => simp [tabV] at ht
noncomputable def tabB (op : BinOp) (x y : Value) : Option Value :=
  if tabV x = true ∧ tabV y = true then match findB op x y Env.bins with
    | some z => if tabV z then some z else none
    | none => none
  else none
noncomputable def tabM (b : Bool) (x y : Value) : Option Value :=
  if tabV x = true ∧ tabV y = true then match findM b x y Env.mins with
    | some z => if tabV z then some z else none
    | none => none
  else none
theorem tabB_run {ρ : Nm} {op : BinOp} {x x' y y' z : Value} (hx : VR ρ x x') (hy : VR ρ y y') (h : tabB op x y = some z) : (∀ (P : Program) t w, (binOp op t x' y').run P w = .ok (realV Env.σ z) w) ∧ (∀ op t a b, eqGuard op t a b x' y' = pure ()) ∧ VR ρ z (realV Env.σ z) := by
  unfold tabB at h
  split at h
  · rename_i hc
    split at h
    · rename_i u hu
      split at h
      · rename_i ht
        injection h with h; subst h
        obtain ⟨⟨h1, h3⟩, h2⟩ := Env.okB _ _ _ _ (findB_spec _ hu)
        rw [hx.tab hc.1, hy.tab hc.2]
        refine ⟨fun P t w => h2 P t w, fun op t a b => ?_, tab_real ht⟩
        generalize realV Env.σ x = q at *
        cases q <;> first | (simp [isInt] at h1; done) | (cases op <;> rfl)
      · cases h
    · cases h
  · cases h
theorem tabM_run {ρ : Nm} {b : Bool} {x x' y y' z : Value} (hx : VR ρ x x') (hy : VR ρ y y') (h : tabM b x y = some z) : (∀ (P : Program) w, (if b then Builtin.max2 x' y' else Builtin.min2 x' y').run P w = .ok (realV Env.σ z) w) ∧ VR ρ z (realV Env.σ z) := by
  unfold tabM at h
  split at h
  · rename_i hc
    split at h
    · rename_i u hu
      split at h
      · rename_i ht
        injection h with h; subst h
        have h2 := Env.okM _ _ _ _ (findM_spec _ hu)
        rw [hx.tab hc.1, hy.tab hc.2]
        exact ⟨fun P w => h2 P w, tab_real ht⟩
      · cases h
    · cases h
  · cases h
/-! ### What is known of what lies in the base world -/
noncomputable def findD (t : TypeId) (x : Value) : List (TypeId × Value × Value) → Option Value
  | [] => none
  | (u, y, r) :: l => if u = t ∧ eqQ y x = true then some r else findD t x l
theorem findD_spec {t : TypeId} {x r : Value} : ∀ (l : List (TypeId × Value × Value)), findD t x l = some r → (t, x, r) ∈ l
  | [], h => by cases h
  | (u, y, r') :: l, h => by
    unfold findD at h
    split at h
    · rename_i hc; injection h with h; subst h; rw [← hc.1, ← eqQ_sound _ _ hc.2]; exact List.mem_cons_self ..
    · exact List.mem_cons_of_mem _ (findD_spec l h)
noncomputable def findI (t : TypeId) (x i : Value) : List (TypeId × Value × Value × Value) → Option Value
  | [] => none
  | (u, y, j, r) :: l => if u = t ∧ eqQ y x = true ∧ eqQ j i = true then some r else findI t x i l
theorem findI_spec {t : TypeId} {x i r : Value} : ∀ (l : List (TypeId × Value × Value × Value)), findI t x i l = some r → (t, x, i, r) ∈ l
  | [], h => by cases h
  | (u, y, j, r') :: l, h => by
    unfold findI at h
    split at h
    · rename_i hc; injection h with h; subst h; rw [← hc.1, ← eqQ_sound _ _ hc.2.1, ← eqQ_sound _ _ hc.2.2]; exact List.mem_cons_self ..
    · exact List.mem_cons_of_mem _ (findI_spec l h)
noncomputable def findFa (t : TypeId) (x : Value) (f : Nat) : List (TypeId × Value × Nat × Value) → Option Value
  | [] => none
  | (u, y, j, r) :: l => if u = t ∧ eqQ y x = true ∧ j = f then some r else findFa t x f l
theorem findFa_spec {t : TypeId} {x r : Value} {f : Nat} : ∀ (l : List (TypeId × Value × Nat × Value)), findFa t x f l = some r → (t, x, f, r) ∈ l
  | [], h => by cases h
  | (u, y, j, r') :: l, h => by
    unfold findFa at h
    split at h
    · rename_i hc; injection h with h; subst h; rw [← hc.1, ← eqQ_sound _ _ hc.2.1, ← hc.2.2]; exact List.mem_cons_self ..
    · exact List.mem_cons_of_mem _ (findFa_spec l h)
noncomputable def findLt (L : Nat) : List (Nat × Value) → Option Value
  | [] => none
  | (n, v) :: l => if n = L then some v else findLt L l
theorem findLt_spec {L : Nat} {v : Value} : ∀ (l : List (Nat × Value)), findLt L l = some v → (L, v) ∈ l
  | [], h => by cases h
  | (n, u) :: l, h => by
    unfold findLt at h
    split at h
    · rename_i hc; injection h with h; subst h; rw [← hc]; exact List.mem_cons_self ..
    · exact List.mem_cons_of_mem _ (findLt_spec l h)
noncomputable def findG (k c z : Nat) : List (Nat × Nat × Nat × Value) → Option Value
  | [] => none
  | (k1, c1, z1, v) :: l => if k1 = k ∧ c1 = c ∧ z1 = z then some v else findG k c z l
theorem findG_spec {k c z : Nat} {v : Value} : ∀ (l : List (Nat × Nat × Nat × Value)), findG k c z l = some v → (k, c, z, v) ∈ l
  | [], h => by cases h
  | (k1, c1, z1, u) :: l, h => by
    unfold findG at h
    split at h
    · rename_i hc; injection h with h; subst h; rw [← hc.1, ← hc.2.1, ← hc.2.2]; exact List.mem_cons_self ..
    · exact List.mem_cons_of_mem _ (findG_spec l h)
noncomputable def tabO (r : Option Value) : Option Value :=
  match r with
  | some z => if tabV z then some z else none
  | none => none
theorem tabO_spec {r : Option Value} {z : Value} (h : tabO r = some z) : r = some z ∧ tabV z = true := by
  unfold tabO at h
  split at h
  · split at h
    · rename_i ht; injection h with h; subst h; exact ⟨rfl, ht⟩
    · cases h
  · cases h
noncomputable def tabI (t : TypeId) (x i : Value) : Option Value := if tabV x = true ∧ tabV i = true then tabO (findI t x i Env.idxs) else none
noncomputable def findC (s t : TypeId) (x : Value) : List (TypeId × TypeId × Value × Value) → Option Value
  | [] => none
  | (u, v, y, r) :: l => if u = s ∧ v = t ∧ eqQ y x = true then some r else findC s t x l
theorem findC_spec {s t : TypeId} {x r : Value} : ∀ (l : List (TypeId × TypeId × Value × Value)), findC s t x l = some r → (s, t, x, r) ∈ l
  | [], h => by cases h
  | (u, v, y, r') :: l, h => by
    unfold findC at h
    split at h
    · rename_i hc; injection h with h; subst h; rw [← hc.1, ← hc.2.1, ← eqQ_sound _ _ hc.2.2]; exact List.mem_cons_self ..
    · exact List.mem_cons_of_mem _ (findC_spec l h)
noncomputable def tabC (s t : TypeId) (x : Value) : Option Value := if tabV x = true then tabO (findC s t x Env.cvts) else none
theorem tabC_run {P : Program} (hP : P = Env.prog) {ρ : Nm} {s t : TypeId} {x x' z : Value} (hx : VR ρ x x') (h : tabC s t x = some z) : (∀ w, (convert s t x').run P w = .ok (realV Env.σ z) w) ∧ VR ρ z (realV Env.σ z) := by
  unfold tabC at h
  split at h
  · rename_i hc
    obtain ⟨h1, h2⟩ := tabO_spec h
    rw [hx.tab hc]
    subst hP
    exact ⟨Env.okCv _ _ _ _ (findC_spec _ h1), tab_real h2⟩
  · cases h
noncomputable def tabF (t : TypeId) (x : Value) (f : Nat) : Option Value := if tabV x = true then tabO (findFa t x f Env.fads) else none
noncomputable def tabL (t : TypeId) (x : Value) : Option Value := if tabV x = true then tabO (findD t x Env.lens) else none
theorem tabI_run {P : Program} (hP : P = Env.prog) {ρ : Nm} {t : TypeId} {x x' i i' z : Value} (hx : VR ρ x x') (hi : VR ρ i i') (h : tabI t x i = some z) : (∀ w, (Instr.indexAt t x' i').run P w = .ok (realV Env.σ z) w) ∧ VR ρ z (realV Env.σ z) := by
  unfold tabI at h
  split at h
  · rename_i hc
    obtain ⟨h1, h2⟩ := tabO_spec h
    rw [hx.tab hc.1, hi.tab hc.2]
    subst hP
    exact ⟨Env.okIx _ _ _ _ (findI_spec _ h1), tab_real h2⟩
  · cases h
noncomputable def tabS (t : TypeId) (x i : Value) : Option Value := if tabV x = true ∧ tabV i = true then tabO (findI t x i Env.slcs) else none
theorem tabS_run {P : Program} (hP : P = Env.prog) {ρ : Nm} {t : TypeId} {x x' i i' z : Value} (hx : VR ρ x x') (hi : VR ρ i i') (h : tabS t x i = some z) : (∀ w, (Instr.sliceAt t x' (some i') none none).run P w = .ok (realV Env.σ z) w) ∧ VR ρ z (realV Env.σ z) := by
  unfold tabS at h
  split at h
  · rename_i hc
    obtain ⟨h1, h2⟩ := tabO_spec h
    rw [hx.tab hc.1, hi.tab hc.2]
    subst hP
    exact ⟨Env.okSl _ _ _ _ (findI_spec _ h1), tab_real h2⟩
  · cases h
theorem tabF_run {P : Program} (hP : P = Env.prog) {ρ : Nm} {t : TypeId} {x x' z : Value} {f : Nat} (hx : VR ρ x x') (h : tabF t x f = some z) : (∀ w, (Instr.fieldAt t x' f).run P w = .ok (realV Env.σ z) w) ∧ VR ρ z (realV Env.σ z) := by
  unfold tabF at h
  split at h
  · rename_i hc
    obtain ⟨h1, h2⟩ := tabO_spec h
    rw [hx.tab hc]
    subst hP
    exact ⟨Env.okFa _ _ _ _ (findFa_spec _ h1), tab_real h2⟩
  · cases h
theorem tabL_run {P : Program} (hP : P = Env.prog) {ρ : Nm} {t : TypeId} {x x' z : Value} (hx : VR ρ x x') (h : tabL t x = some z) : (∀ ty w, (Builtin.len_ #[t] ty #[x']).run P w = .ok (realV Env.σ z) w) ∧ VR ρ z (realV Env.σ z) := by
  unfold tabL at h
  split at h
  · rename_i hc
    obtain ⟨h1, h2⟩ := tabO_spec h
    rw [hx.tab hc]
    subst hP
    exact ⟨Env.okLe _ _ _ (findD_spec _ h1), tab_real h2⟩
  · cases h

/-! ### Structs of numbers, held against each other -/
noncomputable def eqOne (u v : Value) : Option Bool :=
  match u, v with
  | .int k a, .int l b => if k = l then some (a == b) else none
  | .chan (some i), .chan (some j) => if i = j ∧ Env.ints i = true then some true else match tabB .eql u v with
    | some (.bool b) => some b
    | _ => none
  | u, v => match tabB .eql u v with
    | some (.bool b) => some b
    | _ => none
theorem eql_ints {P : Program} {t : TypeId} {u v : Value} {b : Bool} {w : World} (hu : isInt u = true) (hv : isInt v = true) (h : (binOp .eql t u v).run P w = .ok (.bool b) w) : ∃ k a c, u = .int k a ∧ v = .int k c ∧ b = (a == c) := by
  cases u with
  | int k a =>
    cases v with
    | int l c =>
      by_cases e : k = l
      · subst e
        refine ⟨k, a, c, rfl, rfl, ?_⟩
        simp only [binOp_eql, Sem.run_pure, Result.ok.injEq, Value.bool.injEq, and_true] at h
        exact h.symm
      · simp [binOp, e, stuck, Sem.run] at h
    | _ => simp [isInt] at hv
  | _ => simp [isInt] at hu
theorem equalIn_int {P : Program} {t : TypeId} {q k : IntKind} {a c : Int} (hu : P.underlying t = some (.int q)) (d : Nat) (w : World) : (Op.equalIn (d + 1) t (.int k a) (.int k c)).run P w = .ok (a == c) w := by
  unfold Op.equalIn
  simp [run_underlying hu]
theorem eqOne_run {P : Program} {ρ : Nm} {u u' v v' : Value} {b : Bool} (hu : VR ρ u u') (hv : VR ρ v v') (h : eqOne u v = some b) {t : TypeId} {q : IntKind} (ht : P.underlying t = some (.int q)) (d : Nat) (w : World) : (Op.equalIn (d + 1) t u' v').run P w = .ok b w := by
  have tab : (match tabB .eql u v with | some (.bool b) => some b | _ => none) = some b → (Op.equalIn (d + 1) t u' v').run P w = .ok b w := fun h => by
    split at h
    · rename_i b' hb
      injection h with h; subst h
      have hb0 := hb
      unfold tabB at hb0
      split at hb0
      · rename_i hc
        split at hb0
        · rename_i z hz
          split at hb0
          · injection hb0 with hb0; subst hb0
            obtain ⟨⟨h1, h3⟩, h2⟩ := Env.okB _ _ _ _ (findB_spec _ hz)
            rw [hu.tab hc.1, hv.tab hc.2]
            obtain ⟨k, a, c, e1, e2, e3⟩ := eql_ints h1 h3 (h2 P t w)
            rw [e1, e2, e3]
            exact equalIn_int ht d w
          · cases hb0
        · cases hb0
      · cases hb0
    · cases h
  unfold eqOne at h
  split at h
  · split at h
    · rename_i e
      injection h with h; subst h e
      have h1 := hu.int_inv
      have h2 := hv.int_inv
      subst h1 h2
      exact equalIn_int ht d w
    · cases h
  · split at h
    · rename_i e
      obtain ⟨rfl, hi⟩ := e
      injection h with h; subst h
      have h1 := hu.tab rfl
      have h2 := hv.tab rfl
      subst h1 h2
      have := Env.okI _ hi
      simp only [realV]
      generalize Env.σ _ = z at *
      cases z with
      | int k a => rw [equalIn_int ht d w]; simp
      | _ => simp [isInt] at this
    · exact tab h
  · exact tab h
noncomputable def eqEs (ev : TypeId → Value → Value → Option Bool) (P : Program) (el : TypeId) (n : Nat) (xs ys : Array Value) : List Nat → Option Bool
  | [] => some true
  | i :: l => match partM P el xs (i * n), partM P el ys (i * n) with
    | some u, some v => match ev el u v with
      | some true => eqEs ev P el n xs ys l
      | some false => some false
      | none => none
    | _, _ => none
noncomputable def eqIn (P : Program) : Nat → TypeId → Value → Value → Option Bool
  | 0, _, _, _ => none
  | k + 1, t, u, v => match P.underlying t, u, v with
    | some (.int _), u, v => eqOne u v
    | some (.struct fs), .agg xs, .agg ys => if P.stoodInHeld t = false then eqFs (eqIn P k) P xs ys fs.toList else none
    | some (.array len el), .agg xs, .agg ys => match P.info? el with
      | some inf => eqEs (eqIn P k) P el inf.size xs ys (List.range' 0 len)
      | none => none
    | some .bool, .bool a, .bool b => some (a == b)
    | some .string, .string a, .string b => some (a == b)
    | _, _, _ => none
theorem eqEs_run {P : Program} {ρ : Nm} {ev : TypeId → Value → Value → Option Bool} {d n : Nat} {el : TypeId} {w : World} (hev : ∀ (t : TypeId) (u v u' v' : Value) (b : Bool), VR ρ u u' → VR ρ v v' → ev t u v = some b → (Op.equalIn d t u' v').run P w = .ok b w)
    {xs xs' ys ys' : Array Value} (hx : AR ρ xs xs') (hy : AR ρ ys ys') : ∀ (l : List Nat) (b : Bool), eqEs ev P el n xs ys l = some b →
    (forIn l ((none, ()) : Option Bool × Unit) (fun i __s => do
        let __do_lift ← part el xs' (i * n)
        let __do_lift_1 ← part el ys' (i * n)
        let __do_lift ← Op.equalIn d el __do_lift __do_lift_1
        if (!__do_lift) = true then pure (ForInStep.done (some false, ())) else (pure (ForInStep.yield (none, ())) : Sem _))).run P w = .ok (if b then (none, ()) else (some false, ())) w
  | [], b, h => by
    simp only [eqEs, Option.some.injEq] at h
    subst h; simp
  | i :: l, b, h => by
    simp only [eqEs] at h
    split at h
    · rename_i u v hpu hpv
      obtain ⟨u', r1, r2⟩ := part_run hx hpu
      obtain ⟨v', r3, r4⟩ := part_run hy hpv
      split at h
      · rename_i he
        have := hev _ _ _ _ _ _ r2 r4 he
        simp only [List.forIn_cons, Sem.run_bind, r1, r3, this, Sem.run_pure, Result.andThen_ok, Bool.not_true, Bool.false_eq_true, if_false]
        exact eqEs_run hev hx hy l b h
      · rename_i he
        injection h with h; subst h
        have := hev _ _ _ _ _ _ r2 r4 he
        simp only [List.forIn_cons, Sem.run_bind, r1, r3, this, Sem.run_pure, Result.andThen_ok, Bool.not_false, if_true]
        simp
      · cases h
    · cases h
theorem eqIn_run {P : Program} {ρ : Nm} (d : Nat) (w : World) : ∀ (k : Nat) (t : TypeId) (u v u' v' : Value) (b : Bool), VR ρ u u' → VR ρ v v' → eqIn P k t u v = some b → (Op.equalIn (d + k) t u' v').run P w = .ok b w
  | 0, t, u, v, u', v', b, hu, hv, h => by simp [eqIn] at h
  | k + 1, t, u, v, u', v', b, hu, hv, h => by
    simp only [eqIn] at h
    split at h
    · rename_i q ht
      exact eqOne_run hu hv h ht (d + k) w
    · rename_i fs xs ys ht
      split at h
      · rename_i hc
        obtain ⟨xs', rfl, hx⟩ := hu.agg_inv
        obtain ⟨ys', rfl, hy⟩ := hv.agg_inv
        have := eqFs_run (w := w) (fun t u v u' v' b => eqIn_run d w k t u v u' v' b) hx hy fs.toList b h
        rw [← Nat.add_assoc]
        unfold Op.equalIn
        simp only [Sem.run_bind, run_underlying ht, Result.andThen_ok]
        simp only [program, Sem.run, hc, Result.andThen_ok, Sem.run_bind]
        rw [← Array.forIn_toList, if_neg (by simp)]
        rw [Sem.run_bind, this, Result.andThen_ok]
        cases b <;> simp
      · cases h
    · rename_i len el xs ys ht
      split at h
      · rename_i inf hinf
        obtain ⟨xs', rfl, hx⟩ := hu.agg_inv
        obtain ⟨ys', rfl, hy⟩ := hv.agg_inv
        have := eqEs_run (w := w) (fun t u v u' v' b => eqIn_run d w k t u v u' v' b) hx hy (List.range' 0 len) b h
        rw [← Nat.add_assoc]
        unfold Op.equalIn
        simp only [Sem.run_bind, run_underlying ht, Result.andThen_ok, run_size hinf, Std.Legacy.Range.forIn_eq_forIn_range', Std.Legacy.Range.size, Nat.sub_zero, Nat.add_sub_cancel, Nat.div_one]
        rw [this, Result.andThen_ok]
        cases b <;> simp
      · cases h
    · rename_i a c ht
      injection h with h; subst h
      have h1 := hu.pure rfl
      have h2 := hv.pure rfl
      subst h1 h2
      rw [← Nat.add_assoc]
      unfold Op.equalIn
      simp [run_underlying ht]
    · rename_i a c ht
      injection h with h; subst h
      have h1 := hu.pure rfl
      have h2 := hv.pure rfl
      subst h1 h2
      rw [← Nat.add_assoc]
      unfold Op.equalIn
      simp [run_underlying ht]
    · cases h
/-- two structs or arrays -/
noncomputable def eqStruct (P : Program) (t : TypeId) (u v : Value) : Option Bool :=
  match u, v with
  | .agg _, .agg _ => if P.eqGuardType P.depth t = false then eqIn P 8 t u v else none
  | _, _ => none
theorem eqStruct_run {P : Program} {ρ : Nm} {t : TypeId} {u u' v v' : Value} {b : Bool} (hu : VR ρ u u') (hv : VR ρ v v') (h : eqStruct P t u v = some b) : (∀ w, (Op.equal t u' v').run P w = .ok b w) ∧ (∀ op x y w, (eqGuard op t x y u' v').run P w = .ok () w) ∧ binOp .eql t u' v' = (do pure (.bool (← Op.equal t u' v'))) ∧ binOp .neq t u' v' = (do pure (.bool (!(← Op.equal t u' v')))) := by
  unfold eqStruct at h
  split at h
  · rename_i xs ys
    split at h
    · rename_i hc
      have hrun : ∀ w, (Op.equal t u' v').run P w = .ok b w := fun w => eqIn_run 9992 w 8 t _ _ _ _ b hu hv h
      obtain ⟨xs', rfl, hx⟩ := hu.agg_inv
      obtain ⟨ys', rfl, hy⟩ := hv.agg_inv
      refine ⟨hrun, fun op x y w => ?_, rfl, rfl⟩
      unfold eqGuard
      cases op <;> simp [program, Sem.run, hc]
    · cases h
  · cases h
/-- whatever has no addresses -/
noncomputable def pureO : Option Value → Bool
  | some v => pureV v
  | none => false
noncomputable def pureOp (P : Program) (a : MA) (o : Oper) : Option Value :=
  match o.op with
  | .select _ _ => none
  | op => if op.operands.toList.all (fun x => pureO (evalM a x)) then
      match evPure P (execOp (evalF a) o) with
      | some (.value v) => if pureV v then some v else none
      | _ => none
    else none
theorem pureOp_run {P : Program} {ρ : Nm} {a : MA} {a' : Act} {o : Oper} {v : Value} (h : ActR ρ a a') (hv : pureOp P a o = some v) : ∃ v', (∀ w, (execOp a'.eval o).run P w = .ok (.value v') w) ∧ VR ρ v v' := by
  unfold pureOp at hv
  split at hv
  · cases hv
  · rename_i hns
    split at hv
    · rename_i hall
      split at hv
      · rename_i u hu
        split at hv
        · rename_i hp
          injection hv with hv; subst hv
          refine ⟨u, fun w => ?_, .same _ hp⟩
          have : execOp a'.eval o = execOp (evalF a) o := execOp_congr o (fun cs b e => hns cs b e) (fun x hx => by
            have hxx := List.all_eq_true.1 hall x (by simpa using hx)
            cases hev : evalM a x with
            | none => simp [hev, pureO] at hxx
            | some u =>
              simp [hev, pureO] at hxx
              obtain ⟨h1, h2⟩ := evalM_spec h hev
              rw [h1.pure hxx, h2])
          rw [this]
          exact evPure_run _ hu w
        · cases hv
      · cases hv
    · cases hv
/-- ints, worked out at once -/
noncomputable def rng (n : Int) : Option Value := if -9223372036854775808 ≤ n ∧ n ≤ 9223372036854775807 then some (.int .i64 n) else none
noncomputable def fastB (op : BinOp) : Value → Value → Option Value
  | .int .i64 x, .int .i64 y => match op with
    | .add => rng (x + y)
    | .sub => rng (x - y)
    | .mul => rng (x * y)
    | .eql => some (.bool (x == y))
    | .neq => some (.bool (x != y))
    | .lss => some (.bool (decide (x < y)))
    | .leq => some (.bool (decide (x ≤ y)))
    | .gtr => some (.bool (decide (x > y)))
    | .geq => some (.bool (decide (x ≥ y)))
    | _ => none
  | _, _ => none
theorem wrap_rng {n : Int} (h : -9223372036854775808 ≤ n ∧ n ≤ 9223372036854775807) : IntKind.i64.wrap n = n := by unfold IntKind.wrap; simp [IntKind.bits, IntKind.signed]; omega
theorem rng_spec {n : Int} {z : Value} (h : rng n = some z) : z = .int .i64 (IntKind.i64.wrap n) := by
  unfold rng at h
  split at h
  · rename_i hb; injection h with h; rw [wrap_rng hb, h]
  · cases h
theorem fastB_run {op : BinOp} {u v z : Value} (h : fastB op u v = some z) : (pureV u = true ∧ pureV v = true ∧ pureV z = true) ∧ (∀ (P : Program) (t : TypeId) (w : World), (binOp op t u v).run P w = .ok z w) ∧ ∀ op t a b, eqGuard op t a b u v = pure () := by
  unfold fastB at h
  split at h
  · rename_i x y
    have he : ∀ op t a b, eqGuard op t a b (.int .i64 x) (.int .i64 y) = pure () := fun op t a b => by cases op <;> rfl
    split at h
    · have := rng_spec h; subst this; exact ⟨⟨rfl, rfl, rfl⟩, fun P t w => by rw [binOp_add]; simp [Op.intArith], he⟩
    · have := rng_spec h; subst this; exact ⟨⟨rfl, rfl, rfl⟩, fun P t w => by rw [binOp_sub]; simp [Op.intArith], he⟩
    · have := rng_spec h; subst this; exact ⟨⟨rfl, rfl, rfl⟩, fun P t w => by rw [binOp_mul]; simp [Op.intArith], he⟩
    · injection h with h; subst h; exact ⟨⟨rfl, rfl, rfl⟩, fun P t w => by rw [binOp_eql]; simp, he⟩
    · injection h with h; subst h; exact ⟨⟨rfl, rfl, rfl⟩, fun P t w => by rw [binOp_neq]; simp, he⟩
    · injection h with h; subst h; exact ⟨⟨rfl, rfl, rfl⟩, fun P t w => by rw [binOp_lss]; simp, he⟩
    · injection h with h; subst h; exact ⟨⟨rfl, rfl, rfl⟩, fun P t w => by rw [binOp_leq]; simp, he⟩
    · injection h with h; subst h; exact ⟨⟨rfl, rfl, rfl⟩, fun P t w => by rw [binOp_gtr]; simp, he⟩
    · injection h with h; subst h; exact ⟨⟨rfl, rfl, rfl⟩, fun P t w => by rw [binOp_geq]; simp, he⟩
    · cases h
  · cases h
noncomputable def opF (P : Program) (a : MA) (o : Oper) : Option Value :=
  match o.op with
  | .move x => evalM a x
  | .assign x => evalM a x
  | .pick c x y => match evalM a c, evalM a x, evalM a y with
    | some (.bool b), some u, some v => some (if b then u else v)
    | _, _, _ => none
  | .build t ps => match partsM a ps.toList with
    | some vs => buildM P t vs
    | none => none
  | .nilCheck x => match evalM a x with
    | some (.pointer (some ad)) => some (.pointer (some ad))
    | some (.func (.func f) xs us) => some (.func (.func f) xs us)
    | _ => none
  | .field t x f => match evalM a x with
    | some v => fieldM P t v f
    | none => none
  | .index t x i => match evalM a x, evalM a i with
    | some v, some u => match indexM P t v u with
      | some r => some r
      | none => pureOp P a o
    | _, _ => none
  | .extract x i => match evalM a x with
    | some (.tuple xs) => xs[i]?
    | _ => none
  | .fieldAddr t x f => match evalM a x with
    | some v => match fieldAddrM P t v f with
      | some r => some r
      | none => tabF t v f
    | none => none
  | .indexAddr t x i => match evalM a x, evalM a i with
    | some v, some u => match indexAddrM P t v u with
      | some r => some r
      | none => tabI t v u
    | _, _ => none
  | .slice t x lo hi mx => match evalM a x, optM a lo, optM a hi, optM a mx with
    | some v, some l, some h, some q => match sliceM P t v l h q with
      | some r => some r
      | none => match l, h, q with
        | some i, none, none => tabS t v i
        | _, _, _ => none
    | _, _, _, _ => none
  | .makeFunc fn first cap => match argsM a first.toList, argsM a cap.toList with
    | some xs, some us => if noLoop fn then some (.func fn xs.toArray us.toArray) else none
    | _, _ => none
  | .binOp op t x y _ => match evalM a x, evalM a y with
    | some u, some v => match fastB op u v with
     | some r => some r
     | none => if nilTest P t u v then match op with
        | .eql => some (.bool false)
        | .neq => some (.bool true)
        | _ => none
      else match pureOp P a o with
        | some r => some r
        | none => match tabB op u v with
          | some r => some r
          | none => match op, eqStruct P t u v with
            | .eql, some b => some (.bool b)
            | .neq, some b => some (.bool (!b))
            | _, _ => none
    | _, _ => none
  | .convert s t x => match evalM a x with
    | some u => match pureOp P a o with
      | some r => some r
      | none => tabC s t u
    | none => none
  | .unOp op _ x => match pureOp P a o with
    | some r => some r
    | none => match op, evalM a x with
      | .neg, some u => tabB .sub (.int .i64 0) u
      | _, _ => none
  | .call c => match c.callee, c.args.toList, c.argTypes.toList with
    | .builtin .min, [x, y], _ => match evalM a x, evalM a y with
      | some u, some v => match pureOp P a o with
        | some r => some r
        | none => tabM false u v
      | _, _ => none
    | .builtin .max, [x, y], _ => match evalM a x, evalM a y with
      | some u, some v => match pureOp P a o with
        | some r => some r
        | none => tabM true u v
      | _, _ => none
    | .builtin .len, [x], [t] => match evalM a x with
      | some (.slice (some ⟨n, L, some 0⟩) 0 1) => match P.underlying t with
        | some (.slice _) => tabO (findLt L Env.lenT)
        | _ => none
      | some (.slice (some ad) n c) => if isRow ad c then none else match P.underlying t with
        | some (.slice _) => some (goInt n)
        | _ => none
      | some (.chan (some k)) => tabL t (.chan (some k))
      | _ => pureOp P a o
    | _, _, _ => pureOp P a o
  | _ => pureOp P a o
theorem opF_run {P : Program} (hP : P = Env.prog) {ρ : Nm} {a : MA} {a' : Act} {o : Oper} {v : Value} (h : ActR ρ a a') (hv : opF P a o = some v) : ∃ v', (∀ w, (execOp a'.eval o).run P w = .ok (.value v') w) ∧ VR ρ v v' := by
  obtain ⟨dst, op, type, pos, after, guard⟩ := o
  unfold opF at hv
  dsimp only at hv
  split at hv
  · obtain ⟨h1, _⟩ := evalM_spec h hv
    exact ⟨_, fun w => rfl, h1⟩
  · obtain ⟨h1, _⟩ := evalM_spec h hv
    exact ⟨_, fun w => rfl, h1⟩
  · rename_i c x y
    split at hv
    · rename_i b u z hc hx hy
      injection hv with hv; subst hv
      obtain ⟨h1, _⟩ := evalM_spec h hc
      obtain ⟨h2, _⟩ := evalM_spec h hx
      obtain ⟨h3, _⟩ := evalM_spec h hy
      have := h1.pure rfl
      refine ⟨if b then a'.eval x else a'.eval y, fun w => by simp [execOp, this, asBool], ?_⟩
      cases b
      · exact h3
      · exact h2
    · cases hv
  · rename_i t ps
    split at hv
    · rename_i vs hvs
      obtain ⟨v', h1, h2⟩ := build_run (parts_pr h hvs) hv
      exact ⟨v', fun w => by simp only [execOp, Sem.run_bind, h1, Result.andThen_ok, Sem.run_pure], h2⟩
    · cases hv
  · rename_i x
    split at hv
    · rename_i ad hx
      injection hv with hv; subst hv
      obtain ⟨h1, _⟩ := evalM_spec h hx
      obtain ⟨b, d, e, z, _, h2, _⟩ := h1.ptr_any
      exact ⟨a'.eval x, fun w => by simp [execOp, h2], h1⟩
    · rename_i f xs us hx
      injection hv with hv; subst hv
      obtain ⟨h1, _⟩ := evalM_spec h hx
      obtain ⟨f', ys, vs, h2, _, _, h3⟩ := h1.func_inv
      have := h3 rfl; subst this
      exact ⟨a'.eval x, fun w => by simp [execOp, h2], h1⟩
    · cases hv
  · rename_i t x f
    split at hv
    · rename_i u hx
      obtain ⟨v', h1, h2⟩ := field_run (evalM_spec h hx).1 hv
      exact ⟨v', fun w => by simp only [execOp, Sem.run_bind, h1, Result.andThen_ok, Sem.run_pure], h2⟩
    · cases hv
  · rename_i t x i
    split at hv
    · rename_i u q hx hi
      split at hv
      · rename_i r hr
        injection hv with hv; subst hv
        obtain ⟨v', h1, h2⟩ := index_run (evalM_spec h hx).1 (evalM_spec h hi).1 hr
        exact ⟨v', fun w => by simp only [execOp, Sem.run_bind, h1, Result.andThen_ok, Sem.run_pure], h2⟩
      · exact pureOp_run h hv
    · cases hv
  · rename_i x i
    split at hv
    · rename_i xs hx
      obtain ⟨v', h1, h2⟩ := extract_run (P := P) (evalM_spec h hx).1 hv
      exact ⟨v', fun w => by simp only [execOp, Sem.run_bind, h1, Result.andThen_ok, Sem.run_pure], h2⟩
    · cases hv
  · rename_i t x f
    split at hv
    · rename_i u hx
      split at hv
      · rename_i r hr
        injection hv with hv; subst hv
        obtain ⟨v', h1, h2⟩ := fieldAddr_run (evalM_spec h hx).1 hr
        exact ⟨v', fun w => by simp only [execOp, Sem.run_bind, h1, Result.andThen_ok, Sem.run_pure], h2⟩
      · obtain ⟨h1, h2⟩ := tabF_run hP (evalM_spec h hx).1 hv
        exact ⟨_, fun w => by simp only [execOp, Sem.run_bind, h1, Result.andThen_ok, Sem.run_pure], h2⟩
    · cases hv
  · rename_i t x i
    split at hv
    · rename_i u q hx hi
      split at hv
      · rename_i r hr
        injection hv with hv; subst hv
        obtain ⟨v', h1, h2⟩ := indexAddr_run (evalM_spec h hx).1 (evalM_spec h hi).1 hr
        exact ⟨v', fun w => by simp only [execOp, Sem.run_bind, h1, Result.andThen_ok, Sem.run_pure], h2⟩
      · obtain ⟨h1, h2⟩ := tabI_run hP (evalM_spec h hx).1 (evalM_spec h hi).1 hv
        exact ⟨_, fun w => by simp only [execOp, Sem.run_bind, h1, Result.andThen_ok, Sem.run_pure], h2⟩
    · cases hv
  · rename_i t x lo hi mx
    split at hv
    · rename_i u l0 h0 m0 hx hl hh hm
      split at hv
      · rename_i r hr
        injection hv with hv; subst hv
        obtain ⟨v', h1, h2⟩ := slice_run (evalM_spec h hx).1 (optM_spec h hl) (optM_spec h hh) (optM_spec h hm) hr
        exact ⟨v', fun w => by simp only [execOp, Sem.run_bind, h1, Result.andThen_ok, Sem.run_pure], h2⟩
      · split at hv
        · rename_i i hnone
          have q1 := optM_spec h hl
          have q2 := optM_spec h hh
          have q3 := optM_spec h hm
          generalize e1 : lo.map a'.eval = lo' at q1
          generalize e2 : hi.map a'.eval = hi' at q2
          generalize e3 : mx.map a'.eval = mx' at q3
          cases q1 with
          | some _ _ q1 =>
            cases q2
            cases q3
            obtain ⟨h1, h2⟩ := tabS_run hP (evalM_spec h hx).1 q1 hv
            exact ⟨_, fun w => by simp only [execOp, e1, e2, e3, Sem.run_bind, h1, Result.andThen_ok, Sem.run_pure], h2⟩
        · cases hv
    · cases hv
  · rename_i fn first cap
    split at hv
    · rename_i xs us hx hu
      split at hv
      · rename_i hn
        injection hv with hv; subst hv
        have h1 := args_ar h hx
        have h2 := args_ar h hu
        exact ⟨.func fn (first.map a'.eval) (cap.map a'.eval), fun w => by simp [execOp, Instr.makeFunc], .func fn hn _ _ _ _ h1.size h1.get h2.size h2.get⟩
      · cases hv
    · cases hv
  · rename_i op t x y yt
    split at hv
    · rename_i u q hx hy
      split at hv
      · rename_i r hr
        injection hv with hv; subst hv
        obtain ⟨⟨f1, f2, f3⟩, f4, f5⟩ := fastB_run hr
        have g1 := (evalM_spec h hx).1.pure f1
        have g2 := (evalM_spec h hy).1.pure f2
        exact ⟨r, fun w => by simp only [execOp, Sem.run_bind, g1, g2, f5, Sem.run_pure, Result.andThen_ok, f4], .same _ f3⟩
      split at hv
      · rename_i hn
        obtain ⟨e1, e2, e3, e4⟩ := equal_nil (evalM_spec h hx).1 (evalM_spec h hy).1 hn
        split at hv
        · injection hv with hv; subst hv
          exact ⟨.bool false, fun w => by simp only [execOp, Sem.run_bind, e2, Sem.run_pure, Result.andThen_ok, e3, e1], .same _ rfl⟩
        · injection hv with hv; subst hv
          exact ⟨.bool true, fun w => by simp only [execOp, Sem.run_bind, e2, Sem.run_pure, Result.andThen_ok, e4, e1, Bool.not_false], .same _ rfl⟩
        · cases hv
      · split at hv
        · rename_i r hr
          injection hv with hv; subst hv
          exact pureOp_run h hr
        · split at hv
          · rename_i z hz
            injection hv with hv; subst hv
            obtain ⟨r1, r2, r3⟩ := tabB_run (evalM_spec h hx).1 (evalM_spec h hy).1 hz
            exact ⟨_, fun w => by simp only [execOp, Sem.run_bind, r2, Sem.run_pure, Result.andThen_ok, r1], r3⟩
          · split at hv
            · rename_i b hb hn1 hn2 hn3
              injection hv with hv; subst hv
              obtain ⟨e1, e2, e3, e4⟩ := eqStruct_run (evalM_spec h hx).1 (evalM_spec h hy).1 hb
              exact ⟨.bool b, fun w => by simp only [execOp, Sem.run_bind, e2, Sem.run_pure, Result.andThen_ok, e3, e1], .same _ rfl⟩
            · rename_i b hb hn1 hn2 hn3
              injection hv with hv; subst hv
              obtain ⟨e1, e2, e3, e4⟩ := eqStruct_run (evalM_spec h hx).1 (evalM_spec h hy).1 hb
              exact ⟨.bool (!b), fun w => by simp only [execOp, Sem.run_bind, e2, Sem.run_pure, Result.andThen_ok, e4, e1], .same _ rfl⟩
            · cases hv
    · cases hv
  · rename_i s t x
    split at hv
    · rename_i u hx
      split at hv
      · rename_i r hr
        injection hv with hv; subst hv
        exact pureOp_run h hr
      · obtain ⟨h1, h2⟩ := tabC_run hP (evalM_spec h hx).1 hv
        exact ⟨_, fun w => by simp only [execOp, Sem.run_bind, h1, Result.andThen_ok, Sem.run_pure], h2⟩
    · cases hv
  · rename_i op t x
    split at hv
    · rename_i r hr
      injection hv with hv; subst hv
      exact pureOp_run h hr
    · split at hv
      · rename_i u hx hn1
        have hr := hv
        obtain ⟨r1, r2, r3⟩ := tabB_run (.same (ρ := ρ) (.int .i64 0) rfl) (evalM_spec h hx).1 hv
        have hint : ∃ n, a'.eval x = .int .i64 n := by
          unfold tabB at hr
          split at hr
          · rename_i hc
            split at hr
            · rename_i z hz
              obtain ⟨⟨_, h3⟩, h2⟩ := Env.okB _ _ _ _ (findB_spec _ hz)
              have h4 := (evalM_spec h hx).1.tab hc.2
              rw [h4]
              have h5 := h2 P 0 (default : World)
              generalize realV Env.σ u = q at *
              cases q with
              | int k n =>
                by_cases e : IntKind.i64 = k
                · subst e; exact ⟨n, rfl⟩
                · simp [binOp, realV, e, stuck, Sem.run] at h5
              | _ => simp [isInt] at h3
            · cases hr
          · cases hr
        obtain ⟨n, hn⟩ := hint
        refine ⟨_, fun w => ?_, r3⟩
        have h6 := r1 P 0 w
        rw [hn, binOp_sub] at h6
        simp [execOp, hn, Op.unary, h6]
      · cases hv
  · rename_i c
    split at hv
    · rename_i x y hcal hargs
      split at hv
      · rename_i u q hx hy
        split at hv
        · rename_i r hr
          injection hv with hv; subst hv
          exact pureOp_run h hr
        · obtain ⟨r1, r2⟩ := tabM_run (evalM_spec h hx).1 (evalM_spec h hy).1 hv
          obtain ⟨callee, args, tys⟩ := c
          dsimp only at hcal hargs
          have e1 : args = #[x, y] := Array.ext' hargs
          subst hcal e1
          have r3 := fun w => r1 P w
          simp only [Bool.false_eq_true, if_false] at r3
          exact ⟨_, fun w => by simp [execOp, resolve, invoke, builtin, Builtin.min_, r3], r2⟩
      · cases hv
    · rename_i x y hcal hargs
      split at hv
      · rename_i u q hx hy
        split at hv
        · rename_i r hr
          injection hv with hv; subst hv
          exact pureOp_run h hr
        · obtain ⟨r1, r2⟩ := tabM_run (evalM_spec h hx).1 (evalM_spec h hy).1 hv
          obtain ⟨callee, args, tys⟩ := c
          dsimp only at hcal hargs
          have e1 : args = #[x, y] := Array.ext' hargs
          subst hcal e1
          have r3 := fun w => r1 P w
          simp only [if_true] at r3
          exact ⟨_, fun w => by simp [execOp, resolve, invoke, builtin, Builtin.max_, r3], r2⟩
      · cases hv
    · rename_i x t hcal hargs hty
      obtain ⟨callee, args, tys⟩ := c
      dsimp only at hcal hargs hty
      split at hv
      · rename_i n L hx
        split at hv
        · rename_i el hu
          obtain ⟨q1, q2⟩ := tabO_spec hv
          have q3 := Env.okLt _ _ (findLt_spec _ q1)
          obtain ⟨h1, _⟩ := evalM_spec h hx
          have e1 : args = #[x] := Array.ext' hargs
          have e2 : tys = #[t] := Array.ext' hty
          subst hcal e1 e2
          refine ⟨realV Env.σ v, fun w => ?_, tab_real q2⟩
          rw [q3]
          rcases h1.row_inv with ⟨b, d, e, _, h2⟩ | ⟨h0, h2⟩
          · simp [execOp, resolve, invoke, builtin, Builtin.len_, h2, run_underlying hu]
          · simp [execOp, resolve, invoke, builtin, Builtin.len_, h2, run_underlying hu, h0]
        · cases hv
      · rename_i ad n cp hnr hx
        split at hv
        · cases hv
        rename_i hrow
        split at hv
        · rename_i el hu
          injection hv with hv; subst hv
          obtain ⟨h1, _⟩ := evalM_spec h hx
          obtain ⟨A, k, h2⟩ := h1.slice_form (by simpa using hrow)
          have e1 : args = #[x] := Array.ext' hargs
          have e2 : tys = #[t] := Array.ext' hty
          subst hcal e1 e2
          refine ⟨goInt n, fun w => ?_, .same _ rfl⟩
          simp [execOp, resolve, invoke, builtin, Builtin.len_, h2, run_underlying hu]
        · cases hv
      · rename_i k hx
        obtain ⟨h1, _⟩ := evalM_spec h hx
        obtain ⟨h2, h3⟩ := tabL_run hP h1 hv
        have e1 : args = #[x] := Array.ext' hargs
        have e2 : tys = #[t] := Array.ext' hty
        subst hcal e1 e2
        refine ⟨_, fun w => ?_, h3⟩
        have h4 := h2 type w
        simp only [execOp, resolve, invoke, builtin, Sem.run_bind, Sem.run_pure, Result.andThen_ok]
        simp [h4]
      · exact pureOp_run h hv
    · exact pureOp_run h hv
  · exact pureOp_run h hv
end Go.Proofs.Ytaneipjpagbmpaa
