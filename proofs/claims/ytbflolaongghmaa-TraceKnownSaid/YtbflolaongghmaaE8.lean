/-
  The small machine's regions: it takes ahead what may be taken ahead; the program may lag behind.
-/
import Derived.Test.YtbflolaongghmaaE7
namespace Go.Proofs.Ytbflolaongghmaa
open Go.RowKit
set_option linter.unusedVariables false
set_option linter.unusedSimpArgs false
set_option linter.unusedSectionVars false
variable [Env]

def boolOf : Option Value → Option Bool
  | some (.bool b) => some b
  | _ => none
theorem VR.bool_iff {ρ : Nm} {v v' : Value} (h : VR ρ v v') : boolOf (some v) = boolOf (some v') := by
  cases h with
  | sign k =>
    have := Env.plain k
    generalize Env.σ k = v at *
    cases v <;> first | rfl | (simp [cellV] at this)
  | _ => rfl
theorem yielded_eq (ops : Array Oper) (tmps : Array Value) (j : Nat) : yielded ops tmps j = boolOf (((ops[j]?).bind (·.dst)).bind (tmps[·]?)) := rfl
theorem boolOf_getD (tmps : Array Value) (d : Nat) : boolOf tmps[d]? = boolOf (some (tmps.getD d undef)) := by
  cases hv : tmps[d]? with
  | none => rw [show tmps.getD d undef = undef by simp [hv]]; rfl
  | some v => rw [show tmps.getD d undef = v by simp [hv]]
theorem yielded_rel {ρ : Nm} {a a' : Act} (h : ActR ρ a a') (ops : Array Oper) (j : Nat) : yielded ops a'.tmps j = yielded ops a.tmps j := by
  rw [yielded_eq, yielded_eq]
  cases hd : (ops[j]?).bind (·.dst) with
  | none => rfl
  | some d =>
    simp only [Option.bind_some]
    rw [boolOf_getD, boolOf_getD]
    exact (h.tmps.getD d).bool_iff.symm
theorem wanted_rel {ρ : Nm} {a a' : Act} (h : ActR ρ a a') (ops : Array Oper) (o : Oper) : Region.wanted o (yielded ops a'.tmps) = Region.wanted o (yielded ops a.tmps) := by
  unfold Region.wanted
  cases o.guard with
  | none => rfl
  | some g => obtain ⟨j, b⟩ := g; simp only [yielded_rel h ops j]
def putF (a : Act) (dst : Option Tmp) (v : Value) : Act := match dst with
  | none => a
  | some d => { tmps := setF a.tmps d v, defers := a.defers }
theorem putF_eq (a : Act) (dst : Option Tmp) (v : Value) : putF a dst v = a.put dst v := by
  cases dst <;> simp [putF, Act.put, setF_eq]
def openAct {R : Type} (a : Act) (k : Act → R) : R := match a with
  | ⟨t, d⟩ => openA t fun t => k ⟨t, d⟩
theorem openAct_eq {R : Type} (a : Act) (k : Act → R) : openAct a k = k a := by
  obtain ⟨t, d⟩ := a
  simp only [openAct, openA_eq]
def yieldF (ops : Array Oper) (tmps : Array Value) (j : Nat) : Option Bool :=
  match ops[j]? with
  | some o => match o.dst with
    | some d => match getF undef tmps d with
      | .bool b => some b
      | _ => none
    | none => none
  | none => none
theorem yieldF_eq (ops : Array Oper) (tmps : Array Value) : yieldF ops tmps = yielded ops tmps := by
  funext j
  rw [yielded_eq]
  unfold yieldF
  cases ops[j]? with
  | none => rfl
  | some o =>
    cases hd : o.dst with
    | none => simp [hd, boolOf]
    | some d =>
      simp only [hd, Option.bind_some, getF_eq]
      rw [boolOf_getD]
      cases tmps.getD d undef <;> rfl

/-! ### A region in the text's order -/
def ev1 (P : Program) (call : CallF) (ops : Array Oper) (i : Nat) (a : Act) (m : Mini) : Option (Act × Mini) :=
  match ops[i]? with
  | none => some (a, m)
  | some o => if Region.wanted o (yieldF ops a.tmps) then (match evOp P call a m o with
      | some (v, m') => forceV v fun v => openM m' fun m' => openAct (putF a o.dst v) fun a => some (a, m')
      | none => none)
    else openAct (putF a o.dst undef) fun a => some (a, m)
theorem ev1_def (P : Program) (call : CallF) (ops : Array Oper) (i : Nat) (a : Act) (m : Mini) : ev1 P call ops i a m = match ops[i]? with
  | none => some (a, m)
  | some o => if Region.wanted o (yielded ops a.tmps) then (match evOp P call a m o with
      | some (v, m') => some (a.put o.dst v, m')
      | none => none)
    else some (a.put o.dst undef, m) := by
  unfold ev1
  simp only [forceV_eq, openM_eq, openAct_eq, putF_eq, yieldF_eq]
theorem ev1_wp {P : Program} {r : Option Nat} {call : CallF} (hcall : CallS P call) {ops : Array Oper} {i : Nat} {w0 : Base} {w : World} {ρ : Nm} {a a' a1 : Act} {m m1 : Mini} {K : Act → World → Prop} {Q : Exit → Act → World → Prop} (h : ActR ρ a a') (hw : WR P w0 ρ m w) (hv : ev1 P call ops i a m = some (a1, m1))
    (hK : ∀ ρ' a1' w', Ext ρ ρ' → ActR ρ' a1 a1' → WR P w0 ρ' m1 w' → K a1' w') : wpOpIn (WF r) 0 P ops Q i K a' w := by
  rw [ev1_def] at hv
  unfold wpOpIn
  split at hv
  · rename_i hn
    injection hv with hv; injection hv with e1 e2; subst e1 e2
    rw [hn]
    exact hK ρ a' w (Ext.refl _) h hw
  · rename_i o ho
    rw [ho]
    dsimp only
    rw [wanted_rel h ops o]
    split at hv
    · rename_i hwt
      rw [if_pos hwt]
      split at hv
      · rename_i v m' hev
        injection hv with hv; injection hv with e1 e2; subst e1 e2
        exact (evOp_sem hcall h hw hev).wp fun ρ' v' w' x y z => hK ρ' _ w' x ((h.ext x).put o.dst y) z
      · cases hv
    · rename_i hwt
      rw [if_neg hwt]
      injection hv with hv; injection hv with e1 e2; subst e1 e2
      exact ⟨fun _ _ => trivial, hK ρ _ w (Ext.refl _) (h.put o.dst (.same _ pureV_undef)) hw⟩
def evSeq (P : Program) (call : CallF) (ops : Array Oper) : List Nat → Act → Mini → Option (Act × Mini)
  | [], a, m => some (a, m)
  | i :: l, a, m => match ev1 P call ops i a m with
    | some (a1, m1) => evSeq P call ops l a1 m1
    | none => none
theorem evSeq_wp {P : Program} {r : Option Nat} {call : CallF} (hcall : CallS P call) {ops : Array Oper} {w0 : Base} {Q : Exit → Act → World → Prop} : ∀ (l : List Nat) {w : World} {ρ : Nm} {a a' a1 : Act} {m m1 : Mini}, ActR ρ a a' → WR P w0 ρ m w → evSeq P call ops l a m = some (a1, m1) →
    (∀ ρ' a1' w', Ext ρ ρ' → ActR ρ' a1 a1' → WR P w0 ρ' m1 w' → Q .normal a1' w') → wpOpsIn (WF r) 0 P ops Q l a' w
  | [], w, ρ, a, a', a1, m, m1, h, hw, hv, hK => by
    simp only [evSeq, Option.some.injEq, Prod.mk.injEq] at hv
    obtain ⟨rfl, rfl⟩ := hv
    exact hK ρ a' w (Ext.refl _) h hw
  | i :: l, w, ρ, a, a', a1, m, m1, h, hw, hv, hK => by
    rw [wpOpsIn_cons]
    simp only [evSeq] at hv
    split at hv
    · rename_i a2 m2 h2
      exact ev1_wp hcall h hw h2 fun ρ' a2' w' x y z => evSeq_wp hcall l y z hv fun ρ'' a1' w'' x' y' z' => hK ρ'' a1' w'' (x.trans x') y' z'
    · cases hv

/-! ### Acts of which some slots are covered -/
def maskA (a : Act) (T : List Nat) : Act := { tmps := (Array.range a.tmps.size).map fun t => if T.contains t then undef else a.tmps.getD t undef, defers := a.defers }
theorem mask_getD (a : Act) (T : List Nat) (t : Nat) : (maskA a T).tmps.getD t undef = if T.contains t then undef else a.tmps.getD t undef := by
  unfold maskA
  by_cases h : t < a.tmps.size
  · simp [h]
  · simp [h]
structure AP (ρ : Nm) (T : List Nat) (a a' : Act) : Prop where
  size : a.tmps.size = a'.tmps.size
  get : ∀ t, T.contains t = false → VR ρ (a.tmps.getD t undef) (a'.tmps.getD t undef)
  defs : DR ρ a.defers a'.defers
theorem AP.mask {ρ : Nm} {T : List Nat} {a a' : Act} (h : AP ρ T a a') : ActR ρ (maskA a T) (maskA a' T) := by
  refine ⟨⟨by simp [maskA, h.size], fun i x y => ?_⟩, h.defs⟩
  have e1 : (maskA a T).tmps[i] = (maskA a T).tmps.getD i undef := by simp [x]
  have e2 : (maskA a' T).tmps[i] = (maskA a' T).tmps.getD i undef := by simp [y]
  rw [e1, e2, mask_getD, mask_getD]
  split
  · exact .same _ pureV_undef
  · rename_i hc; exact h.get i (by simpa using hc)
theorem AP.full {ρ : Nm} {T : List Nat} {a a' : Act} (h : AP ρ T a a') (hT : ∀ t, T.contains t = false) : ActR ρ a a' :=
  ⟨⟨h.size, fun i x y => by
    have e1 : a.tmps[i] = a.tmps.getD i undef := by simp [x]
    have e2 : a'.tmps[i] = a'.tmps.getD i undef := by simp [y]
    rw [e1, e2]; exact h.get i (hT i)⟩, h.defs⟩
def clearOf (o : Oper) (ops : Array Oper) (T : List Nat) : Prop := ∀ t ∈ o.looksAt ops, T.contains t = false
theorem looks_operand {o : Oper} {ops : Array Oper} {t : Nat} (h : Operand.tmp t ∈ o.op.operands) : t ∈ o.looksAt ops :=
  List.mem_append_left _ (List.mem_filterMap.2 ⟨.tmp t, by simpa using h, rfl⟩)
theorem mask_alike {o : Oper} {ops : Array Oper} {T : List Nat} (a : Act) (h : clearOf o ops T) : Alike (maskA a T) a o := fun x hx => by
  cases x with
  | tmp t =>
    have := h t (looks_operand hx)
    simp only [evalM, getF_eq, mask_getD, this]; rfl
  | _ => rfl
theorem mask_exec {o : Oper} {ops : Array Oper} {T : List Nat} (a : Act) (hs : ∀ cs b, o.op ≠ .select cs b) (h : clearOf o ops T) : execOp (maskA a T).eval o = execOp a.eval o := execOp_congr o hs fun x hx => by
  cases x with
  | tmp t =>
    have h1 := h t (looks_operand hx)
    show (maskA a T).tmps.getD t undef = a.tmps.getD t undef
    rw [mask_getD, h1]; rfl
  | _ => rfl
theorem mask_wanted {o : Oper} {ops : Array Oper} {T : List Nat} (a : Act) (h : clearOf o ops T) : Region.wanted o (yielded ops (maskA a T).tmps) = Region.wanted o (yielded ops a.tmps) := by
  unfold Region.wanted
  cases hg : o.guard with
  | none => rfl
  | some g =>
    obtain ⟨j, b⟩ := g
    have : yielded ops (maskA a T).tmps j = yielded ops a.tmps j := by
      rw [yielded_eq, yielded_eq]
      cases hd : (ops[j]?).bind (·.dst) with
      | none => rfl
      | some d =>
        have h1 := h d (by simp [Oper.looksAt, hg, hd])
        simp only [Option.bind_some]
        rw [boolOf_getD, boolOf_getD, mask_getD, h1]; rfl
    simp only [this]
theorem put_alike {o : Oper} {ops : Array Oper} {a : Act} {dst : Option Tmp} {v : Value} (h : ∀ d, dst = some d → d ∉ o.looksAt ops) : Alike (a.put dst v) a o := fun x hx => by
  cases dst with
  | none => rfl
  | some d =>
    cases x with
    | tmp t =>
      have : t ≠ d := fun e => h d rfl (e ▸ looks_operand hx)
      simp only [evalM, getF_eq, Act.put]
      congr 1
      simp [Array.getD, Array.getElem?_setIfInBounds, this.symm]
      by_cases hh : t < a.tmps.size <;> simp [hh, Array.getElem_setIfInBounds, this.symm]
    | _ => rfl
theorem put_getD_ne {a : Act} {d t : Nat} {v : Value} (h : t ≠ d) : (a.put (some d) v).tmps.getD t undef = a.tmps.getD t undef := by
  simp only [Act.put, Array.getD]
  by_cases hh : t < a.tmps.size <;> simp [hh, Array.getElem_setIfInBounds, h.symm]
theorem put_getD_same {a : Act} {d : Nat} {v : Value} (h : d < a.tmps.size) : (a.put (some d) v).tmps.getD d undef = v := by
  simp [Act.put, Array.getD, h]
theorem put_size (a : Act) (dst : Option Tmp) (v : Value) : (a.put dst v).tmps.size = a.tmps.size := by
  cases dst <;> simp [Act.put]

/-! ### Blocks that are not made yet -/
theorem WR.ghostNew {P : Program} {w0 : Base} {w : World} {ρ : Nm} {m m' : Mini} {o : Obj} {n : Nat} (h : WR P w0 ρ m w) (hn : m.new o = some (n, m')) :
    WR P ⟨w0.w, fun x => w0.gh x ∨ x = n⟩ ρ m' w ∧ m'.heap.get n = some (some o) ∧ m.heap.get n = none := by
  unfold Mini.new at hn
  split at hn
  · rename_i hg
    split at hn
    · rename_i hf
      injection hn with hn; injection hn with hn hm
      subst hn
      have hsame : m'.heap.get m.fresh = some (some o) := by rw [← hm]; dsimp only; rw [Tr.putF_eq]; exact Tr.get_put _ _ _ _ (fits hf)
      have hother : ∀ k, k ≠ m.fresh → m'.heap.get k = m.heap.get k := fun k hk => by rw [← hm]; dsimp only; rw [Tr.putF_eq]; exact Tr.get_put_ne _ _ _ _ _ hk
      have hnone : ρ m.fresh = none := by
        cases hr : ρ m.fresh with
        | none => rfl
        | some t => exact absurd hg (h.dom _ _ hr)
      refine ⟨⟨h.below, fun k u hk => ?_, fun k t hk => ?_, fun k1 k2 o1 o2 b d1 e1 d2 e2 hk1 hk2 hr1 hr2 => ?_, fun k hk => ?_⟩, hsame, hg⟩
      · by_cases ek : k = m.fresh
        · exact .inl (.inr ek)
        · rw [hother k ek] at hk
          exact Or.elim (h.obj k u hk) (fun x => .inl (.inl x)) .inr
      · by_cases ek : k = m.fresh
        · rw [ek, hsame]; simp
        · rw [hother k ek]; exact h.dom k t hk
      · have n1 : k1 ≠ m.fresh := fun e => by rw [e, hnone] at hr1; cases hr1
        have n2 : k2 ≠ m.fresh := fun e => by rw [e, hnone] at hr2; cases hr2
        rw [hother k1 n1] at hk1; rw [hother k2 n2] at hk2
        exact h.inj k1 k2 o1 o2 b d1 e1 d2 e2 hk1 hk2 hr1 hr2
      · by_cases ek : k = m.fresh
        · rw [ek, hsame]; exact ⟨hnone, by simp⟩
        · rw [hother k ek]
          rcases hk with hk | hk
          · exact h.ghost k hk
          · exact absurd hk ek
    · cases hn
  · cases hn
theorem WR.ghostReal {P : Program} {w0 : Base} {w : World} {ρ : Nm} {m : Mini} {o q : Obj} {n : Nat} {g' : Nat → Prop} (h : WR P w0 ρ m w) (hg : w0.gh n) (hm : m.heap.get n = some (some o)) (ho : OR P ρ o 0 0 (some q)) (hg' : ∀ x, g' x ↔ (w0.gh x ∧ x ≠ n)) :
    ∃ ρ', Ext ρ ρ' ∧ ρ' n = some (w.heap.size, 0, 0) ∧ WR P ⟨w0.w, g'⟩ ρ' m { w with heap := w.heap.push q } := by
  have hnone := (h.ghost n hg).1
  have hx := Nm.ext_set hnone (w.heap.size, 0, 0)
  have hold : ∀ k, k ≠ n → ρ.set n (w.heap.size, 0, 0) k = ρ k := fun k hk => by simp [Nm.set, hk]
  refine ⟨ρ.set n (w.heap.size, 0, 0), hx, Nm.set_same _ _ _, ?_⟩
  have hlt : ∀ k u t, m.heap.get k = some (some u) → ρ k = some t → t.1 < w.heap.size := fun k u t hk hr => by
    obtain ⟨b, d, e⟩ := t; exact h.lt hk hr
  constructor
  · exact h.below.trans ⟨rfl, rfl, rfl, by simp, fun k hk => by show (w.heap.push q)[k]? = _; rw [Array.getElem?_push, if_neg (by have := h.below.size; omega)]⟩
  · intro k u hk
    by_cases ek : k = n
    · subst ek
      rw [hm] at hk; injection hk with hk; injection hk with hk; subst hk
      exact .inr ⟨_, _, _, Nm.set_same _ _ _, h.below.size, by simpa using ho.ext hx⟩
    · rcases h.obj k u hk with hgh | ⟨b, d, e', h1, h2, h3⟩
      · exact .inl ((hg' k).2 ⟨hgh, ek⟩)
      refine .inr ⟨b, d, e', by rw [hold k ek]; exact h1, h2, ?_⟩
      have hb := h.lt hk h1
      show OR P _ u d e' ((w.heap.push q)[b]?)
      rw [Array.getElem?_push, if_neg (by omega)]
      exact h3.ext hx
  · intro k t hk
    by_cases ek : k = n
    · subst ek; rw [hm]; simp
    · rw [hold k ek] at hk; exact h.dom k t hk
  · intro k1 k2 o1 o2 b d1 e1 d2 e2 hk1 hk2 hr1 hr2
    by_cases ek1 : k1 = n
    · by_cases ek2 : k2 = n
      · rw [ek1, ek2]
      · subst ek1
        rw [Nm.set_same] at hr1; injection hr1 with hr1; injection hr1 with hr1 _
        rw [hold k2 ek2] at hr2
        have := h.lt hk2 hr2; omega
    · by_cases ek2 : k2 = n
      · subst ek2
        rw [Nm.set_same] at hr2; injection hr2 with hr2; injection hr2 with hr2 _
        rw [hold k1 ek1] at hr1
        have := h.lt hk1 hr1; omega
      · rw [hold k1 ek1] at hr1; rw [hold k2 ek2] at hr2
        exact h.inj k1 k2 o1 o2 b d1 e1 d2 e2 hk1 hk2 hr1 hr2
  · intro k hk
    obtain ⟨g1, g2⟩ := (hg' k).1 hk
    obtain ⟨g3, g4⟩ := h.ghost k g1
    exact ⟨by rw [hold k g2]; exact g3, g4⟩
theorem WR.regh {P : Program} {w0 : Base} {w : World} {ρ : Nm} {m : Mini} {g' : Nat → Prop} (h : WR P w0 ρ m w) (hg : ∀ x, g' x ↔ w0.gh x) : WR P ⟨w0.w, g'⟩ ρ m w :=
  ⟨h.below, fun k u hk => Or.elim (h.obj k u hk) (fun x => .inl ((hg k).2 x)) .inr, h.dom, h.inj, fun k hk => h.ghost k ((hg k).1 hk)⟩
end Go.Proofs.Ytbflolaongghmaa
