/-
  The small machine's regions: it takes ahead what may be taken ahead; the program may lag behind.
-/
import Derived.Test.YtaneipjpagbmpaaE7
namespace Go.Proofs.Ytaneipjpagbmpaa
open Go.RowKit
set_option linter.unusedVariables false
set_option linter.unusedSimpArgs false
set_option linter.unusedSectionVars false
variable [Env]

noncomputable def boolOf : Option Value → Option Bool
  | some (.bool b) => some b
  | _ => none
theorem VR.bool_iff {ρ : Nm} {v v' : Value} (h : VR ρ v v') (hna : isAny v = false) : boolOf (some v) = boolOf (some v') := by
  cases h with
  | any v' => simp [isAny] at hna
  | sign k =>
    have := Env.plain k
    generalize Env.σ k = v at *
    cases v <;> first | rfl | (simp [cellV] at this)
  | _ => rfl
theorem yielded_eq (ops : Array Oper) (tmps : Array Value) (j : Nat) : yielded ops tmps j = boolOf (((ops[j]?).bind (·.dst)).bind (tmps[·]?)) := rfl
theorem boolOf_getD (tmps : Array Value) (d : Nat) : boolOf tmps[d]? = boolOf (some (tmps.getD d undef)) := by
  cases hv : tmps[d]? with
  | none => rw [show tmps.getD d undef = undef by simp [hv]]; rfl
  | some v => rw [show tmps.getD d undef = v by simp [hv]]
/-- what a guard asks is known -/
noncomputable def gOK (ops : Array Oper) (a : MA) (o : Oper) : Bool :=
  match o.guard with
  | none => true
  | some (j, _) => match ops[j]? with
    | some oj => match oj.dst with
      | some d => !isAny (a.get d)
      | none => true
    | none => true
noncomputable def yieldF (ops : Array Oper) (a : MA) (j : Nat) : Option Bool :=
  match ops[j]? with
  | some o => match o.dst with
    | some d => match a.get d with
      | .bool b => some b
      | _ => none
    | none => none
  | none => none
theorem yieldF_bool (ops : Array Oper) (a : MA) (j : Nat) : yieldF ops a j = match (ops[j]?).bind (·.dst) with
    | some d => boolOf (some (a.get d))
    | none => none := by
  unfold yieldF
  cases ops[j]? with
  | none => rfl
  | some o =>
    cases hd : o.dst with
    | none => simp [hd]
    | some d =>
      simp only [hd, Option.bind_some]
      cases a.get d <;> rfl
theorem yielded_rel {ρ : Nm} {a : MA} {a' : Act} (h : ActR ρ a a') (ops : Array Oper) (j : Nat) (hg : ∀ oj d, ops[j]? = some oj → oj.dst = some d → isAny (a.get d) = false) : yielded ops a'.tmps j = yieldF ops a j := by
  rw [yielded_eq, yieldF_bool]
  cases hd : (ops[j]?).bind (·.dst) with
  | none => rfl
  | some d =>
    simp only [Option.bind_some]
    rw [boolOf_getD]
    refine ((h.get d).bool_iff ?_).symm
    cases hj : ops[j]? with
    | none => simp [hj] at hd
    | some oj => simp [hj] at hd; exact hg oj d hj hd
theorem wanted_rel {ρ : Nm} {a : MA} {a' : Act} (h : ActR ρ a a') (ops : Array Oper) (o : Oper) (hg : gOK ops a o = true) : Region.wanted o (yielded ops a'.tmps) = Region.wanted o (yieldF ops a) := by
  unfold Region.wanted
  cases hgd : o.guard with
  | none => rfl
  | some g =>
    obtain ⟨j, b⟩ := g
    have := yielded_rel h ops j (fun oj d hj hd => by
      unfold gOK at hg
      simp only [hgd, hj, hd] at hg
      simpa using hg)
    simp only [this]
noncomputable def openAct {R : Type} (a : MA) (k : MA → R) : R := match a with
  | ⟨t, n, d⟩ => t.open fun t => k ⟨t, n, d⟩
theorem openAct_eq {R : Type} (a : MA) (k : MA → R) : openAct a k = k a := by
  obtain ⟨t, n, d⟩ := a
  simp only [openAct, Tr.open_eq]

/-! ### A region in the text's order -/
noncomputable def ev1 (P : Program) (call : CallF) (ops : Array Oper) (i : Nat) (a : MA) (m : Mini) : Option (MA × Mini) :=
  match ops[i]? with
  | none => some (a, m)
  | some o => if gOK ops a o then (if Region.wanted o (yieldF ops a) then (match evOp P call a m o with
      | some (v, m') => forceV v fun v => openM m' fun m' => openAct (putF a o.dst v) fun a => some (a, m')
      | none => none)
    else openAct (putF a o.dst undef) fun a => some (a, m)) else none
theorem ev1_def (P : Program) (call : CallF) (ops : Array Oper) (i : Nat) (a : MA) (m : Mini) : ev1 P call ops i a m = match ops[i]? with
  | none => some (a, m)
  | some o => if gOK ops a o then (if Region.wanted o (yieldF ops a) then (match evOp P call a m o with
      | some (v, m') => some (putF a o.dst v, m')
      | none => none)
    else some (putF a o.dst undef, m)) else none := by
  unfold ev1
  simp only [forceV_eq, openM_eq, openAct_eq]
theorem ev1_wp {P : Program} {r : Option Nat} {call : CallF} (hcall : CallS P call) {ops : Array Oper} {i : Nat} {w0 : Base} {w : World} {ρ : Nm} {a a1 : MA} {a' : Act} {m m1 : Mini} {K : Act → World → Prop} {Q : Exit → Act → World → Prop} (h : ActR ρ a a') (hw : WR P w0 ρ m w) (hv : ev1 P call ops i a m = some (a1, m1))
    (hK : ∀ ρ' a1' w', Ext ρ ρ' → ActR ρ' a1 a1' → WR P w0 ρ' m1 w' → K a1' w') : wpOpIn (WF r) 0 P ops Q i K a' w := by
  rw [ev1_def] at hv
  unfold wpOpIn
  split at hv
  · rename_i hn
    injection hv with hv; injection hv with e1 e2; subst e1 e2
    rw [hn]
    exact hK ρ a' w (Ext.refl _) h hw
  · rename_i o ho
    rw [ho]
    dsimp only
    split at hv
    case isFalse => cases hv
    rename_i hgok
    rw [wanted_rel h ops o hgok]
    split at hv
    · rename_i hwt
      rw [if_pos hwt]
      split at hv
      · rename_i v m' hev
        injection hv with hv; injection hv with e1 e2; subst e1 e2
        exact (evOp_sem hcall h hw hev).wp fun ρ' v' w' x y z => hK ρ' _ w' x ((h.ext x).put o.dst y) z
      · cases hv
    · rename_i hwt
      rw [if_neg hwt]
      injection hv with hv; injection hv with e1 e2; subst e1 e2
      exact ⟨fun _ _ => trivial, hK ρ _ w (Ext.refl _) (h.put o.dst (.same _ pureV_undef)) hw⟩
noncomputable def evSeq (P : Program) (call : CallF) (ops : Array Oper) : List Nat → MA → Mini → Option (MA × Mini)
  | [], a, m => some (a, m)
  | i :: l, a, m => match ev1 P call ops i a m with
    | some (a1, m1) => evSeq P call ops l a1 m1
    | none => none
theorem evSeq_wp {P : Program} {r : Option Nat} {call : CallF} (hcall : CallS P call) {ops : Array Oper} {w0 : Base} {Q : Exit → Act → World → Prop} : ∀ (l : List Nat) {w : World} {ρ : Nm} {a a1 : MA} {a' : Act} {m m1 : Mini}, ActR ρ a a' → WR P w0 ρ m w → evSeq P call ops l a m = some (a1, m1) →
    (∀ ρ' a1' w', Ext ρ ρ' → ActR ρ' a1 a1' → WR P w0 ρ' m1 w' → Q .normal a1' w') → wpOpsIn (WF r) 0 P ops Q l a' w
  | [], w, ρ, a, a1, a', m, m1, h, hw, hv, hK => by
    simp only [evSeq, Option.some.injEq, Prod.mk.injEq] at hv
    obtain ⟨rfl, rfl⟩ := hv
    exact hK ρ a' w (Ext.refl _) h hw
  | i :: l, w, ρ, a, a1, a', m, m1, h, hw, hv, hK => by
    rw [wpOpsIn_cons]
    simp only [evSeq] at hv
    split at hv
    · rename_i a2 m2 h2
      exact ev1_wp hcall h hw h2 fun ρ' a2' w' x y z => evSeq_wp hcall l y z hv fun ρ'' a1' w'' x' y' z' => hK ρ'' a1' w'' (x.trans x') y' z'
    · cases hv

/-! ### Acts of which some slots are covered -/
noncomputable def maskA (a : Act) (T : List Nat) : Act := { tmps := (Array.range a.tmps.size).map fun t => if T.contains t then undef else a.tmps.getD t undef, defers := a.defers }
theorem mask_getD (a : Act) (T : List Nat) (t : Nat) : (maskA a T).tmps.getD t undef = if T.contains t then undef else a.tmps.getD t undef := by
  unfold maskA
  by_cases h : t < a.tmps.size
  · simp [h]
  · simp [h]
noncomputable def maskM (a : MA) : List Nat → MA
  | [] => a
  | t :: T => (maskM a T).put t undef
theorem maskM_n (a : MA) : ∀ (T : List Nat), (maskM a T).n = a.n
  | [] => rfl
  | t :: T => by rw [maskM, MA.put_n, maskM_n a T]
theorem maskM_defers (a : MA) : ∀ (T : List Nat), (maskM a T).defers = a.defers
  | [] => rfl
  | t :: T => by rw [maskM, MA.put_defers, maskM_defers a T]
theorem maskM_get (a : MA) (t : Nat) : ∀ (T : List Nat), (maskM a T).get t = if T.contains t then undef else a.get t
  | [] => by simp [maskM]
  | k :: T => by
    rw [maskM, MA.get_put, maskM_get a t T, maskM_n]
    by_cases e : t = k
    · subst e
      simp only [List.contains_cons, beq_self_eq_true, Bool.true_or, if_true]
      split
      · rfl
      · rename_i h
        split
        · rfl
        · unfold MA.get; rw [if_neg (fun hh => h ⟨by trivial, hh⟩)]
    · rw [if_neg (fun hh => e hh.1)]
      simp [e]
structure AP (ρ : Nm) (T : List Nat) (a : MA) (a' : Act) : Prop where
  size : a'.tmps.size = a.n
  le : a.n ≤ 1048576
  get : ∀ t, T.contains t = false → VR ρ (a.get t) (a'.tmps.getD t undef)
  defs : DR ρ a.defers a'.defers
theorem AP.mask {ρ : Nm} {T : List Nat} {a : MA} {a' : Act} (h : AP ρ T a a') : ActR ρ (maskM a T) (maskA a' T) := by
  refine ⟨by simp [maskA, maskM_n, h.size], by rw [maskM_n]; exact h.le, fun i => ?_, by rw [maskM_defers]; exact h.defs⟩
  rw [maskM_get, mask_getD]
  split
  · exact .same _ pureV_undef
  · rename_i hc; exact h.get i (by simpa using hc)
theorem AP.full {ρ : Nm} {T : List Nat} {a : MA} {a' : Act} (h : AP ρ T a a') (hT : ∀ t, T.contains t = false) : ActR ρ a a' :=
  ⟨h.size, h.le, fun i => h.get i (hT i), h.defs⟩
noncomputable def clearOf (o : Oper) (ops : Array Oper) (T : List Nat) : Prop := ∀ t ∈ o.looksAt ops, T.contains t = false
theorem looks_operand {o : Oper} {ops : Array Oper} {t : Nat} (h : Operand.tmp t ∈ o.op.operands) : t ∈ o.looksAt ops :=
  List.mem_append_left _ (List.mem_filterMap.2 ⟨.tmp t, by simpa using h, rfl⟩)
theorem mask_alike {o : Oper} {ops : Array Oper} {T : List Nat} (a : MA) (h : clearOf o ops T) : Alike (maskM a T) a o := fun x hx => by
  cases x with
  | tmp t =>
    have := h t (looks_operand hx)
    simp only [evalM, maskM_get, this]; rfl
  | _ => rfl
theorem mask_exec {o : Oper} {ops : Array Oper} {T : List Nat} (a : Act) (hs : ∀ cs b, o.op ≠ .select cs b) (h : clearOf o ops T) : execOp (maskA a T).eval o = execOp a.eval o := execOp_congr o hs fun x hx => by
  cases x with
  | tmp t =>
    have h1 := h t (looks_operand hx)
    show (maskA a T).tmps.getD t undef = a.tmps.getD t undef
    rw [mask_getD, h1]; rfl
  | _ => rfl
theorem mask_wanted {o : Oper} {ops : Array Oper} {T : List Nat} (a : Act) (h : clearOf o ops T) : Region.wanted o (yielded ops (maskA a T).tmps) = Region.wanted o (yielded ops a.tmps) := by
  unfold Region.wanted
  cases hg : o.guard with
  | none => rfl
  | some g =>
    obtain ⟨j, b⟩ := g
    have : yielded ops (maskA a T).tmps j = yielded ops a.tmps j := by
      rw [yielded_eq, yielded_eq]
      cases hd : (ops[j]?).bind (·.dst) with
      | none => rfl
      | some d =>
        have h1 := h d (by simp [Oper.looksAt, hg, hd])
        simp only [Option.bind_some]
        rw [boolOf_getD, boolOf_getD, mask_getD, h1]; rfl
    simp only [this]
theorem mask_wantedM {o : Oper} {ops : Array Oper} {T : List Nat} (a : MA) (h : clearOf o ops T) : Region.wanted o (yieldF ops (maskM a T)) = Region.wanted o (yieldF ops a) := by
  unfold Region.wanted
  cases hg : o.guard with
  | none => rfl
  | some g =>
    obtain ⟨j, b⟩ := g
    have : yieldF ops (maskM a T) j = yieldF ops a j := by
      rw [yieldF_bool, yieldF_bool]
      cases hd : (ops[j]?).bind (·.dst) with
      | none => rfl
      | some d =>
        have h1 := h d (by simp [Oper.looksAt, hg, hd])
        simp only [maskM_get, h1]; rfl
    simp only [this]
theorem mask_gOK {o : Oper} {ops : Array Oper} {T : List Nat} (a : MA) (h : clearOf o ops T) (hg : gOK ops a o = true) : gOK ops (maskM a T) o = true := by
  unfold gOK at hg ⊢
  cases hgd : o.guard with
  | none => rfl
  | some g =>
    obtain ⟨j, b⟩ := g
    simp only [hgd] at hg ⊢
    cases hj : ops[j]? with
    | none => rfl
    | some oj =>
      simp only [hj] at hg ⊢
      cases hd : oj.dst with
      | none => rfl
      | some d =>
        simp only [hd] at hg ⊢
        have h1 := h d (by simp [Oper.looksAt, hgd, hj, hd])
        rw [maskM_get, h1]
        simpa using hg
theorem putM_get_ne {a : MA} {d t : Nat} {v : Value} (h : t ≠ d) : (putF a (some d) v).get t = a.get t := by
  show (a.put d v).get t = _
  rw [MA.get_put, if_neg (fun hh => h hh.1)]
theorem putM_get_same {a : MA} {d : Nat} {v : Value} (h : d < a.n) (hle : a.n ≤ 1048576) : (putF a (some d) v).get d = v := by
  show (a.put d v).get d = _
  rw [MA.get_put, if_pos ⟨rfl, h, by omega⟩]
theorem putM_n (a : MA) (dst : Option Tmp) (v : Value) : (putF a dst v).n = a.n := by
  cases dst <;> simp [putF, MA.put_n]
theorem putM_defers (a : MA) (dst : Option Tmp) (v : Value) : (putF a dst v).defers = a.defers := by
  cases dst <;> simp [putF, MA.put_defers]
theorem put_alike {o : Oper} {ops : Array Oper} {a : MA} {dst : Option Tmp} {v : Value} (h : ∀ d, dst = some d → d ∉ o.looksAt ops) : Alike (putF a dst v) a o := fun x hx => by
  cases dst with
  | none => rfl
  | some d =>
    cases x with
    | tmp t =>
      have : t ≠ d := fun e => h d rfl (e ▸ looks_operand hx)
      simp only [evalM, putM_get_ne this]
    | _ => rfl
theorem put_getD_ne {a : Act} {d t : Nat} {v : Value} (h : t ≠ d) : (a.put (some d) v).tmps.getD t undef = a.tmps.getD t undef := by
  simp only [Act.put, Array.getD]
  by_cases hh : t < a.tmps.size <;> simp [hh, Array.getElem_setIfInBounds, h.symm]
theorem put_getD_same {a : Act} {d : Nat} {v : Value} (h : d < a.tmps.size) : (a.put (some d) v).tmps.getD d undef = v := by
  simp [Act.put, Array.getD, h]
theorem put_size (a : Act) (dst : Option Tmp) (v : Value) : (a.put dst v).tmps.size = a.tmps.size := by
  cases dst <;> simp [Act.put]

/-! ### Blocks that are not made yet -/
theorem WR.ghostNew {P : Program} {w0 : Base} {w : World} {ρ : Nm} {m m' : Mini} {c : Array Value} {t : TypeId} {n : Nat} (h : WR P w0 ρ m w) (hn : m.new (.cells c t) = some (n, m')) :
    WR P ⟨w0.w, fun x => w0.gh x ∨ x = n, w0.ok⟩ ρ m' w ∧ m'.heap.get n = some (some (.cells c t)) ∧ m.heap.get n = none := by
  unfold Mini.new at hn
  split at hn
  · rename_i hg
    split at hn
    · rename_i hf
      injection hn with hn; injection hn with hn hm
      subst hn
      have hsame : m'.heap.get m.fresh = some (some (.cells c t)) := by rw [← hm]; dsimp only; rw [Tr.putF_eq]; exact Tr.get_put _ _ _ _ (fits hf)
      have hother : ∀ k, k ≠ m.fresh → m'.heap.get k = m.heap.get k := fun k hk => by rw [← hm]; dsimp only; rw [Tr.putF_eq]; exact Tr.get_put_ne _ _ _ _ _ hk
      have hnone : ρ m.fresh = none := by
        cases hr : ρ m.fresh with
        | none => rfl
        | some t => exact absurd hg (h.dom _ _ hr)
      refine ⟨⟨h.below, fun k u hk => ?_, fun k t hk => ?_, fun k1 k2 o1 o2 b d1 e1 d2 e2 hk1 hk2 hr1 hr2 => ?_, fun k hk => ?_⟩, hsame, hg⟩
      · by_cases ek : k = m.fresh
        · exact .inl (.inl (.inr ek))
        · rw [hother k ek] at hk
          exact Or.elim (h.obj k u hk) (fun x => .inl (x.imp .inl id)) .inr
      · by_cases ek : k = m.fresh
        · rw [ek, hsame]; simp
        · rw [hother k ek]; exact h.dom k t hk
      · have n1 : k1 ≠ m.fresh := fun e => by rw [e, hnone] at hr1; cases hr1
        have n2 : k2 ≠ m.fresh := fun e => by rw [e, hnone] at hr2; cases hr2
        rw [hother k1 n1] at hk1; rw [hother k2 n2] at hk2
        exact h.inj k1 k2 o1 o2 b d1 e1 d2 e2 hk1 hk2 hr1 hr2
      · by_cases ek : k = m.fresh
        · rw [ek]; exact ⟨hnone, by rw [hsame]; simp, by unfold Mini.rowAt; rw [hsame]; simp⟩
        · rw [rowAt_congr (hother k ek), hother k ek]
          rcases hk with hk | hk
          · exact h.ghost k hk
          · exact absurd hk ek
    · cases hn
  · cases hn
theorem WR.ghostReal {P : Program} {w0 : Base} {w : World} {ρ : Nm} {m : Mini} {o q : Obj} {n : Nat} {g' : Nat → Prop} (h : WR P w0 ρ m w) (hg : w0.gh n) (hm : m.heap.get n = some (some o)) (ho : OR P ρ o 0 0 (some q)) (hg' : ∀ x, g' x ↔ (w0.gh x ∧ x ≠ n)) :
    ∃ ρ', Ext ρ ρ' ∧ ρ' n = some (w.heap.size, 0, 0) ∧ WR P ⟨w0.w, g', w0.ok⟩ ρ' m { w with heap := w.heap.push q } := by
  have hnone := (h.ghost n hg).1
  have hx := Nm.ext_set hnone (w.heap.size, 0, 0)
  have hold : ∀ k, k ≠ n → ρ.set n (w.heap.size, 0, 0) k = ρ k := fun k hk => by simp [Nm.set, hk]
  refine ⟨ρ.set n (w.heap.size, 0, 0), hx, Nm.set_same _ _ _, ?_⟩
  have hlt : ∀ k u t, m.heap.get k = some (some u) → ρ k = some t → t.1 < w.heap.size := fun k u t hk hr => by
    obtain ⟨b, d, e⟩ := t; exact h.lt hk hr
  constructor
  · exact h.below.trans ⟨rfl, rfl, rfl, by simp, fun k hk => by show (w.heap.push q)[k]? = _; rw [Array.getElem?_push, if_neg (by have := h.below.size; omega)]⟩
  · intro k u hk
    by_cases ek : k = n
    · subst ek
      rw [hm] at hk; injection hk with hk; injection hk with hk; subst hk
      exact .inr ⟨_, _, _, Nm.set_same _ _ _, h.below.size, by simpa using ho.ext hx⟩
    · rcases h.obj k u hk with (hgh | hgh) | ⟨b, d, e', h1, h2, h3⟩
      · exact .inl (.inl ((hg' k).2 ⟨hgh, ek⟩))
      · exact .inl (.inr ⟨by rw [hold k ek]; exact hgh.1, hgh.2⟩)
      refine .inr ⟨b, d, e', by rw [hold k ek]; exact h1, h2, ?_⟩
      have hb := h.lt hk h1
      show OR P _ u d e' ((w.heap.push q)[b]?)
      rw [Array.getElem?_push, if_neg (by omega)]
      exact h3.ext hx
  · intro k t hk
    by_cases ek : k = n
    · subst ek; rw [hm]; simp
    · rw [hold k ek] at hk; exact h.dom k t hk
  · intro k1 k2 o1 o2 b d1 e1 d2 e2 hk1 hk2 hr1 hr2
    by_cases ek1 : k1 = n
    · by_cases ek2 : k2 = n
      · rw [ek1, ek2]
      · subst ek1
        rw [Nm.set_same] at hr1; injection hr1 with hr1; injection hr1 with hr1 _
        rw [hold k2 ek2] at hr2
        have := h.lt hk2 hr2; omega
    · by_cases ek2 : k2 = n
      · subst ek2
        rw [Nm.set_same] at hr2; injection hr2 with hr2; injection hr2 with hr2 _
        rw [hold k1 ek1] at hr1
        have := h.lt hk1 hr1; omega
      · rw [hold k1 ek1] at hr1; rw [hold k2 ek2] at hr2
        exact h.inj k1 k2 o1 o2 b d1 e1 d2 e2 hk1 hk2 hr1 hr2
  · intro k hk
    obtain ⟨g1, g2⟩ := (hg' k).1 hk
    obtain ⟨g3, g4⟩ := h.ghost k g1
    exact ⟨by rw [hold k g2]; exact g3, g4⟩
theorem WR.regh {P : Program} {w0 : Base} {w : World} {ρ : Nm} {m : Mini} {g' : Nat → Prop} (h : WR P w0 ρ m w) (hg : ∀ x, g' x ↔ w0.gh x) : WR P ⟨w0.w, g', w0.ok⟩ ρ m w :=
  ⟨h.below, fun k u hk => Or.elim (h.obj k u hk) (fun x => .inl (x.imp (hg k).2 id)) .inr, h.dom, h.inj, fun k hk => h.ghost k ((hg k).1 hk)⟩
end Go.Proofs.Ytaneipjpagbmpaa
