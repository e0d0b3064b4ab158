/-
  The small machine's memory, and the worlds that are like it.
-/
import Derived.Test.YtaneipjpagbmpaaE1
import Derived.Laws.Cells
namespace Go.Proofs.Ytaneipjpagbmpaa
open Go.RowKit
set_option linter.unusedVariables false
set_option linter.unusedSimpArgs false
set_option linter.unusedSectionVars false
variable [Env]

structure Mini where
  heap : Tr (Option Obj)
  pre : Nat
  ctr : Nat

/-! ### Places in the program's code, said by paths -/
noncomputable def child (b : Bool) : Code → Option Code
  | .seq x y => some (if b then y else x)
  | .cond _ x y => some (if b then y else x)
  | .block _ x => some x
  | .loop x => some x
  | .scope x => some x
  | .rangeFunc _ _ x y => some (if b then y else x)
  | _ => none
noncomputable def codeAt (P : Program) (g : FuncId) : List Bool → Option Code
  | [] => match P.funcs[g]? with
    | some fn => fn.body
    | none => none
  | b :: l => match codeAt P g l with
    | some c => child b c
    | none => none
theorem codeAt_child {P : Program} {g : FuncId} {l : List Bool} {c x : Code} (h : codeAt P g l = some c) (b : Bool) (hx : child b c = some x) : codeAt P g (b :: l) = some x := by
  rw [codeAt, h]; exact hx
noncomputable def encP : List Bool → Code
  | [] => .skip
  | b :: l => .block (if b then 1 else 0) (encP l)
noncomputable def decP : Code → List Bool
  | .block n c => decide (n = 1) :: decP c
  | _ => []
theorem decP_encP : ∀ l, decP (encP l) = l
  | [] => rfl
  | true :: l => by simp [encP, decP, decP_encP l]
  | false :: l => by simp [encP, decP, decP_encP l]
/-- the record of a range over a function -/
structure LoopR (P : Program) (ρ : Nm) (r r' : Loop) : Prop where
  state : r'.state = r.state
  pending : r'.pending = r.pending
  params : r'.params = r.params
  tmps : AR ρ r.tmps r'.tmps
  code : ∃ g, codeAt P r.fn (decP r.assign) = some (.rangeFunc g r'.params r'.assign r'.body)
  defers : ∃ b, ρ r.defers = some (b, 0, 0) ∧ r'.defers = b
theorem LoopR.ext {P : Program} {ρ ρ' : Nm} (hx : Ext ρ ρ') {r r' : Loop} (h : LoopR P ρ r r') : LoopR P ρ' r r' :=
  ⟨h.state, h.pending, h.params, h.tmps.ext hx, h.code, let ⟨b, e1, e2⟩ := h.defers; ⟨b, hx _ _ e1, e2⟩⟩

/-- a block as it is, of one in the small machine -/
noncomputable def OR (P : Program) (ρ : Nm) : Obj → Nat → Nat → Option Obj → Prop
  | .cells c t fr, d, e, x => (fr = (0, 0) ∧ ∃ c', x = some (.cells c' t (0, 0)) ∧ d + c.size + e * P.cellsOf t ≤ c'.size ∧ ∀ i v, c[i]? = some v → ∃ v', c'[d + i]? = some v' ∧ VR ρ v v') ∨
      ∃ k L, fr = (1, 1) ∧ c = ⟨[.chan (some k), .chan (some L)]⟩ ∧ (Env.rows k).length = Env.lenR L * P.cellsOf t ∧ ∃ c', x = some (.cells c' t (0, 0)) ∧ d + (Env.rows k).length + e * P.cellsOf t ≤ c'.size ∧ ∀ i v, (Env.rows k)[i]? = some v → c'[d + i]? = some v
  | .map es clock, d, e, x => d = 0 ∧ e = 0 ∧ ∃ es', x = some (.map es' clock) ∧ es.size = es'.size ∧ ∀ (i : Nat) (en : MapEntry), es[i]? = some en → ∃ en', es'[i]? = some en' ∧ en'.key = en.key ∧ pureV en.key = true ∧ en'.born = en.born ∧ VR ρ en.val en'.val
  | .deferred (some []), d, e, x => d = 0 ∧ e = 0 ∧ x = some (.deferred (some []))
  | .deferred none, d, e, x => d = 0 ∧ e = 0 ∧ x = some (.deferred none)
  | .loop r, d, e, x => d = 0 ∧ e = 0 ∧ ∃ r', x = some (.loop r') ∧ LoopR P ρ r r'
  | .mapIter none s l c, d, e, x => d = 0 ∧ e = 0 ∧ x = some (.mapIter none s l c)
  | .mapIter (some m) s l c, d, e, x => d = 0 ∧ e = 0 ∧ ∃ b, ρ m = some (b, 0, 0) ∧ x = some (.mapIter (some b) s l c)
  | _, _, _, _ => False
theorem OR.ext {P : Program} {ρ ρ' : Nm} (hx : Ext ρ ρ') {o : Obj} {d e : Nat} {x : Option Obj} (h : OR P ρ o d e x) : OR P ρ' o d e x := by
  cases o with
  | cells c t fr =>
    rcases h with ⟨h0, c', h1, h2, h3⟩ | h
    · exact .inl ⟨h0, c', h1, h2, fun i v hv => let ⟨v', a, b⟩ := h3 i v hv; ⟨v', a, b.ext hx⟩⟩
    · exact .inr h
  | map es clock =>
    obtain ⟨h0, h1, es', h2, h3, h4⟩ := h
    exact ⟨h0, h1, es', h2, h3, fun i en hen => let ⟨en', a, b, c, d, f⟩ := h4 i en hen; ⟨en', a, b, c, d, f.ext hx⟩⟩
  | deferred ds => match ds, h with
    | none, h => exact h
    | some [], h => exact h
    | some (_ :: _), h => exact h.elim
  | loop r => obtain ⟨h0, h1, r', h2, h3⟩ := h; exact ⟨h0, h1, r', h2, h3.ext hx⟩
  | mapIter o s l c => cases o with
    | none => exact h
    | some m => obtain ⟨h0, h1, b, h2, h3⟩ := h; exact ⟨h0, h1, b, hx _ _ h2, h3⟩
  | _ => exact h.elim

noncomputable def Mini.rowAt (m : Mini) (n : Nat) : Option (Nat × Nat × TypeId) :=
  match m.heap.get n with
  | some (some (.cells ⟨[.chan (some k), .chan (some L)]⟩ t (1, 1))) => some (k, L, t)
  | _ => none
theorem rowAt_spec {m : Mini} {n k L : Nat} {t : TypeId} (h : m.rowAt n = some (k, L, t)) : m.heap.get n = some (some (.cells ⟨[.chan (some k), .chan (some L)]⟩ t (1, 1))) := by
  unfold Mini.rowAt at h
  split at h
  · rename_i k' L' t' hg; injection h with h; injection h with h1 h2; injection h2 with h2 h3; subst h1 h2 h3; exact hg
  · cases h
theorem rowAt_congr {m m' : Mini} {n : Nat} (h : m'.heap.get n = m.heap.get n) : m'.rowAt n = m.rowAt n := by unfold Mini.rowAt; rw [h]
theorem rowAt_dead {m : Mini} {n : Nat} (h : m.heap.get n = some none) : m.rowAt n = none := by unfold Mini.rowAt; rw [h]
/-- where all begins: the world, and the names whose blocks are not made yet -/
structure Base where
  w : World
  gh : Nat → Prop
  ok : Below Env.base.heap.size Env.base w
/-- a row without elements, that is nowhere -/
noncomputable def nilRow : Obj → Prop
  | .cells c t fr => fr = (1, 1) ∧ ∃ k L, c = ⟨[.chan (some k), .chan (some L)]⟩ ∧ Env.rows k = [] ∧ Env.lenR L = 0
  | _ => False
structure WR (P : Program) (w0 : Base) (ρ : Nm) (m : Mini) (w : World) : Prop where
  below : Below w0.w.heap.size w0.w w
  obj : ∀ n o, m.heap.get n = some (some o) → (w0.gh n ∨ (ρ n = none ∧ nilRow o)) ∨ ∃ b d e, ρ n = some (b, d, e) ∧ w0.w.heap.size ≤ b ∧ OR P ρ o d e w.heap[b]?
  dom : ∀ n t, ρ n = some t → m.heap.get n ≠ none
  inj : ∀ n k o q b d e d' e', m.heap.get n = some (some o) → m.heap.get k = some (some q) → ρ n = some (b, d, e) → ρ k = some (b, d', e') → n = k
  ghost : ∀ n, w0.gh n → ρ n = none ∧ m.heap.get n ≠ none ∧ m.rowAt n = none
theorem WR.real {P : Program} {w0 : Base} {w : World} {ρ : Nm} {m : Mini} (h : WR P w0 ρ m w) {n : Nat} {o : Obj} (hg : m.heap.get n = some (some o)) {t : Nat × Nat × Nat} (hr : ρ n = some t) : ∃ b d e, ρ n = some (b, d, e) ∧ w0.w.heap.size ≤ b ∧ OR P ρ o d e w.heap[b]? := by
  rcases h.obj n o hg with (hgh | hgh) | hx
  · rw [(h.ghost n hgh).1] at hr; cases hr
  · rw [hgh.1] at hr; cases hr
  · exact hx
theorem WR.baseBelow {P : Program} {w0 : Base} {w : World} {ρ : Nm} {m : Mini} (h : WR P w0 ρ m w) : Below Env.base.heap.size Env.base w :=
  w0.ok.trans (h.below.mono w0.ok.size)

theorem OR.there {P : Program} {ρ : Nm} {o : Obj} {d e : Nat} {x : Option Obj} (h : OR P ρ o d e x) : ∃ q, x = .some q := by
  cases o with
  | cells c t fr =>
    rcases h with ⟨h0, c', h1, _⟩ | ⟨_, _, _, _, _, c', h1, _⟩
    · exact ⟨_, h1⟩
    · exact ⟨_, h1⟩
  | map es clock => obtain ⟨h0, h1, es', h2, _⟩ := h; exact ⟨_, h2⟩
  | deferred ds => match ds, h with
    | none, h => exact ⟨_, h.2.2⟩
    | some [], h => exact ⟨_, h.2.2⟩
    | some (_ :: _), h => exact h.elim
  | loop r => obtain ⟨h0, h1, r', h2, h3⟩ := h; exact ⟨_, h2⟩
  | mapIter o s l c => cases o with
    | none => exact ⟨_, h.2.2⟩
    | some m => obtain ⟨h0, h1, b, h2, h3⟩ := h; exact ⟨_, h3⟩
  | _ => exact h.elim
theorem WR.lt {P : Program} {w0 : Base} {w : World} {ρ : Nm} {m : Mini} (h : WR P w0 ρ m w) {n b d e : Nat} {o : Obj} (hg : m.heap.get n = some (some o)) (hr : ρ n = some (b, d, e)) : b < w.heap.size := by
  obtain ⟨b', d', e', h1, _, h2⟩ := h.real hg hr
  rw [hr] at h1; injection h1 with h1; injection h1 with h1 h3; subst h1
  obtain ⟨q, hq⟩ := h2.there
  exact (Array.getElem?_eq_some_iff.1 hq).1

/-! ### A new block -/
noncomputable def Mini.fresh (m : Mini) : Nat := m.pre * 1024 + m.ctr
noncomputable def Mini.new (m : Mini) (o : Obj) : Option (Nat × Mini) :=
  match m.heap.get m.fresh with
  | none => if m.fresh < 2 ^ 249 then some (m.fresh, { m with heap := Tr.putF (some o) 250 m.heap m.fresh, ctr := m.ctr + 1 }) else none
  | some _ => none
noncomputable def Nm.set (ρ : Nm) (n : Nat) (t : Nat × Nat × Nat) : Nm := fun k => if k = n then some t else ρ k
theorem Nm.set_same (ρ : Nm) (n : Nat) (t : Nat × Nat × Nat) : ρ.set n t n = some t := by simp [Nm.set]
theorem Nm.ext_set {ρ : Nm} {n : Nat} (h : ρ n = none) (t : Nat × Nat × Nat) : Ext ρ (ρ.set n t) := fun k u hk => by
  unfold Nm.set; split
  · rename_i e; rw [e, h] at hk; cases hk
  · exact hk
theorem fits {n : Nat} (h : n < 2 ^ 249) : n + 1 < 2 ^ 250 := by
  rw [show (2 : Nat) ^ 250 = 2 ^ 249 * 2 from Nat.pow_succ ..]; omega
theorem WR.new {P : Program} {w0 : Base} {w : World} {ρ : Nm} {m m' : Mini} {o q : Obj} {n e : Nat} (h : WR P w0 ρ m w) (hn : m.new o = some (n, m')) (ho : OR P ρ o 0 e (some q)) :
    ∃ ρ', Ext ρ ρ' ∧ ρ' n = some (w.heap.size, 0, e) ∧ WR P w0 ρ' m' { w with heap := w.heap.push q } := by
  unfold Mini.new at hn
  split at hn
  · rename_i hg
    split at hn
    · rename_i hf
      injection hn with hn; injection hn with hn hm
      subst hn
      have hnone : ρ m.fresh = none := by
        cases hr : ρ m.fresh with
        | none => rfl
        | some t => exact absurd hg (h.dom _ _ hr)
      have hx := Nm.ext_set hnone (w.heap.size, 0, e)
      refine ⟨ρ.set m.fresh (w.heap.size, 0, e), hx, Nm.set_same _ _ _, ?_⟩
      have hsame : m'.heap.get m.fresh = some (some o) := by rw [← hm]; dsimp only; rw [Tr.putF_eq]; exact Tr.get_put _ _ _ _ (fits hf)
      have hother : ∀ k, k ≠ m.fresh → m'.heap.get k = m.heap.get k := fun k hk => by rw [← hm]; dsimp only; rw [Tr.putF_eq]; exact Tr.get_put_ne _ _ _ _ _ hk
      have hold : ∀ k, k ≠ m.fresh → ρ.set m.fresh (w.heap.size, 0, e) k = ρ k := fun k hk => by simp [Nm.set, hk]
      constructor
      · exact h.below.trans ⟨rfl, rfl, rfl, by simp, fun k hk => by show (w.heap.push q)[k]? = _; rw [Array.getElem?_push, if_neg (by have := h.below.size; omega)]⟩
      · intro k u hk
        by_cases ek : k = m.fresh
        · subst ek
          rw [hsame] at hk; injection hk with hk; injection hk with hk; subst hk
          exact .inr ⟨_, _, _, Nm.set_same _ _ _, h.below.size, by simpa using ho.ext hx⟩
        · rw [hother k ek] at hk
          rcases h.obj k u hk with (hgh | hgh) | ⟨b, d, e', h1, h2, h3⟩
          · exact .inl (.inl hgh)
          · exact .inl (.inr ⟨by rw [hold k ek]; exact hgh.1, hgh.2⟩)
          refine .inr ⟨b, d, e', by rw [hold k ek]; exact h1, h2, ?_⟩
          have hb := h.lt hk h1
          show OR P _ u d e' ((w.heap.push q)[b]?)
          rw [Array.getElem?_push, if_neg (by omega)]
          exact h3.ext hx
      · intro k t hk
        by_cases ek : k = m.fresh
        · subst ek; rw [hsame]; simp
        · rw [hold k ek] at hk; rw [hother k ek]; exact h.dom k t hk
      · intro k1 k2 o1 o2 b d1 e1 d2 e2 hk1 hk2 hr1 hr2
        by_cases ek1 : k1 = m.fresh
        · by_cases ek2 : k2 = m.fresh
          · rw [ek1, ek2]
          · subst ek1
            rw [Nm.set_same] at hr1; injection hr1 with hr1; injection hr1 with hr1 _
            rw [hold k2 ek2] at hr2; rw [hother k2 ek2] at hk2
            have := h.lt hk2 hr2; omega
        · by_cases ek2 : k2 = m.fresh
          · subst ek2
            rw [Nm.set_same] at hr2; injection hr2 with hr2; injection hr2 with hr2 _
            rw [hold k1 ek1] at hr1; rw [hother k1 ek1] at hk1
            have := h.lt hk1 hr1; omega
          · rw [hold k1 ek1] at hr1; rw [hold k2 ek2] at hr2; rw [hother k1 ek1] at hk1; rw [hother k2 ek2] at hk2
            exact h.inj k1 k2 o1 o2 b d1 e1 d2 e2 hk1 hk2 hr1 hr2
      · intro k hk
        obtain ⟨g1, g2, g3⟩ := h.ghost k hk
        have ek : k ≠ m.fresh := fun e => g2 (by rw [e]; exact hg)
        rw [hold k ek, rowAt_congr (hother k ek), hother k ek]
        exact ⟨g1, g2, g3⟩
    · cases hn
  · cases hn

/-! ### A block that is changed -/
noncomputable def Mini.upd (m : Mini) (n : Nat) (o : Obj) : Mini := { m with heap := Tr.putF (some o) 250 m.heap n }
theorem WR.upd {P : Program} {w0 : Base} {w w' : World} {ρ : Nm} {m : Mini} {o o' : Obj} {n b d e : Nat} (h : WR P w0 ρ m w) (hg : m.heap.get n = some (some o)) (hr : ρ n = some (b, d, e)) (hf : n < 2 ^ 249)
    (hos : w'.os = w.os) (htape : w'.tape = w.tape) (hout : w'.output = w.output) (hsz : w'.heap.size = w.heap.size) (hk : ∀ k, k ≠ b → w'.heap[k]? = w.heap[k]?) (ho : OR P ρ o' d e w'.heap[b]?) :
    WR P w0 ρ (m.upd n o') w' := by
  have hsame : (m.upd n o').heap.get n = some (some o') := by unfold Mini.upd; dsimp only; rw [Tr.putF_eq]; exact Tr.get_put _ _ _ _ (fits hf)
  have hother : ∀ k, k ≠ n → (m.upd n o').heap.get k = m.heap.get k := fun k hk => by unfold Mini.upd; dsimp only; rw [Tr.putF_eq]; exact Tr.get_put_ne _ _ _ _ _ hk
  have hB : w0.w.heap.size ≤ b := by
    obtain ⟨b', d', e', h1, h2, _⟩ := h.real hg hr
    rw [hr] at h1; injection h1 with h1; injection h1 with h1 _; omega
  have live : ∀ k q, (m.upd n o').heap.get k = some (some q) → ∃ q', m.heap.get k = some (some q') := fun k q hq => by
    by_cases e : k = n
    · exact ⟨o, by rw [e]; exact hg⟩
    · exact ⟨q, by rw [← hother k e]; exact hq⟩
  constructor
  · exact h.below.trans ⟨hos, htape, hout, by omega, fun k hk' => hk k (by omega)⟩
  · intro k u hku
    by_cases e : k = n
    · subst e
      rw [hsame] at hku; injection hku with hku; injection hku with hku; subst hku
      exact .inr ⟨b, d, _, hr, hB, ho⟩
    · rw [hother k e] at hku
      rcases h.obj k u hku with hgh | ⟨b', d', e', h1, h2, h3⟩
      · exact .inl hgh
      refine .inr ⟨b', d', e', h1, h2, ?_⟩
      rw [hk b' (fun eb => e (h.inj k n u o b' d' e' d _ hku hg h1 (by rw [eb]; exact hr)))]
      exact h3
  · intro k t hkt
    by_cases e : k = n
    · rw [e, hsame]; simp
    · rw [hother k e]; exact h.dom k t hkt
  · intro k1 k2 o1 o2 b1 d1 e1 d2 e2 hk1 hk2 hr1 hr2
    obtain ⟨q1, h1⟩ := live k1 o1 hk1
    obtain ⟨q2, h2⟩ := live k2 o2 hk2
    exact h.inj k1 k2 q1 q2 b1 d1 e1 d2 e2 h1 h2 hr1 hr2
  · intro k hk'
    obtain ⟨g1, g2, g3⟩ := h.ghost k hk'
    have e : k ≠ n := fun e => by rw [e, hr] at g1; cases g1
    rw [rowAt_congr (hother k e), hother k e]
    exact ⟨g1, g2, g3⟩
/-- what becomes of the world where only draws are made -/
theorem WR.drew {P : Program} {w0 : Base} {w : World} {ρ : Nm} {m : Mini} (h : WR P w0 ρ m w) (k : Nat) : WR P w0 ρ m { w with drawn := k } :=
  ⟨⟨h.below.os, h.below.tape, h.below.output, h.below.size, h.below.block⟩, h.obj, h.dom, h.inj, h.ghost⟩
theorem WR.names {P : Program} {w0 : Base} {w : World} {ρ : Nm} {m : Mini} (h : WR P w0 ρ m w) (p c : Nat) : WR P w0 ρ { m with pre := p, ctr := c } w := ⟨h.below, h.obj, h.dom, h.inj, h.ghost⟩

noncomputable def openM {R : Type} (m : Mini) (k : Mini → R) : R := match m with
  | ⟨h, p, c⟩ => h.open fun h => forceN p fun p => forceN c fun c => k ⟨h, p, c⟩
theorem openM_eq {R : Type} (m : Mini) (k : Mini → R) : openM m k = k m := by
  obtain ⟨h, p, c⟩ := m
  simp only [openM, Tr.open_eq, forceN_eq]

/-! ### Loads and stores -/
noncomputable def Mini.cellsAt (m : Mini) (n : Nat) : Option (Array Value × TypeId) :=
  match m.heap.get n with
  | some (some (.cells c t (0, 0))) => some (c, t)
  | _ => none
theorem cellsAt_spec {m : Mini} {n : Nat} {c : Array Value} {t : TypeId} (h : m.cellsAt n = some (c, t)) : m.heap.get n = some (some (.cells c t (0, 0))) := by
  unfold Mini.cellsAt at h
  split at h
  · rename_i c' t' hg; injection h with h; injection h with h1 h2; subst h1 h2; exact hg
  · cases h
theorem WR.row {P : Program} {w0 : Base} {w : World} {ρ : Nm} {m : Mini} (h : WR P w0 ρ m w) {n : Nat} {c : Array Value} {t : TypeId} (hc : m.cellsAt n = some (c, t)) {b d e : Nat} (hr : ρ n = some (b, d, e)) :
    m.heap.get n = some (some (.cells c t (0, 0))) ∧ w0.w.heap.size ≤ b ∧ ∃ c', w.heap[b]? = some (.cells c' t (0, 0)) ∧ d + c.size + e * P.cellsOf t ≤ c'.size ∧ ∀ i v, c[i]? = some v → ∃ v', c'[d + i]? = some v' ∧ VR ρ v v' := by
  have hg := cellsAt_spec hc
  obtain ⟨b', d', e', h1, h2, h3⟩ := h.real hg hr
  rw [hr] at h1; injection h1 with h1; injection h1 with h1 h4; injection h4 with h4 h5; subst h1 h4 h5
  rcases h3 with ⟨h6, h7⟩ | ⟨_, _, h6, _⟩
  · exact ⟨hg, h2, h7⟩
  · simp at h6
theorem cell_of_row {w : World} {b : Nat} {c : Array Value} {t : TypeId} {i : Nat} {v : Value} (h : w.heap[b]? = some (.cells c t (0, 0))) (hv : c[i]? = some v) : w.cell? ⟨b, i, none⟩ = some v := by
  simp [World.cell?, h, hv]
theorem free_of_row {w : World} {b : Nat} {c : Array Value} {t : TypeId} (i : Nat) (h : w.heap[b]? = some (.cells c t (0, 0))) : w.frozen? ⟨b, i, none⟩ = false := by
  simp [World.frozen?, h]
noncomputable def onePart : Value → Bool
  | .agg _ => false
  | .tuple _ => false
  | .float _ _ => false
  | _ => true
noncomputable def onePart' : Value → Bool
  | .agg _ => false
  | .tuple _ => false
  | _ => true
theorem VR.onePart {ρ : Nm} {v v' : Value} (h : VR ρ v v') (hp : onePart v = true) : onePart' v' = true := by
  cases h with
  | any v' => simp [Ytaneipjpagbmpaa.onePart] at hp
  | same v h => cases v <;> first | rfl | (simp [Ytaneipjpagbmpaa.onePart] at hp)
  | sign k =>
    have := Env.plain k
    generalize Env.σ k = v at *
    cases v <;> first | rfl | (simp [Ytaneipjpagbmpaa.cellV] at this)
  | agg xs ys h1 h2 => simp [Ytaneipjpagbmpaa.onePart] at hp
  | tuple xs ys h1 h2 => simp [Ytaneipjpagbmpaa.onePart] at hp
  | _ => rfl
noncomputable def storeL (m : Mini) (n : Nat) : Nat → List Value → Option Mini
  | _, [] => some m
  | o, v :: r =>
    match m.cellsAt n with
    | some (c, t) => if o < c.size ∧ Ytaneipjpagbmpaa.onePart v = true ∧ n < 2 ^ 249 then openA (setF c o v) fun c' => openM (m.upd n (.cells c' t)) fun m' => storeL m' n (o + 1) r else none
    | none => none
theorem run_store {P : Program} {w : World} {a : Addr} {u v : Value} (hc : w.cell? a = some u) (hf : w.frozen? a = false) (hv : Ytaneipjpagbmpaa.onePart' v = true) : (store a v).run P w = .ok () (w.setCell a v) := by
  cases v <;> first | (simp [Ytaneipjpagbmpaa.onePart'] at hv; done) | simp [store, Sem.run, hc, hf]
theorem WR.store1 {P : Program} {w0 : Base} {w : World} {ρ : Nm} {m : Mini} (h : WR P w0 ρ m w) {n o b d e : Nat} {c : Array Value} {t : TypeId} {v v' : Value} (hc : m.cellsAt n = some (c, t)) (hr : ρ n = some (b, d, e)) (ho : o < c.size) (hf : n < 2 ^ 249) (hv : VR ρ v v') (hcv : Ytaneipjpagbmpaa.onePart v = true) :
    (store ⟨b, d + o, none⟩ v').run P w = .ok () (w.setCell ⟨b, d + o, none⟩ v') ∧ WR P w0 ρ (m.upd n (.cells (c.setIfInBounds o v) t)) (w.setCell ⟨b, d + o, none⟩ v') := by
  obtain ⟨hg, hB, c', h1, h2, h3⟩ := h.row hc hr
  obtain ⟨u', hu1, hu2⟩ := h3 o c[o] (by simp [ho])
  refine ⟨run_store (cell_of_row h1 hu1) (free_of_row _ h1) (hv.onePart hcv), ?_⟩
  refine h.upd hg hr hf rfl rfl rfl (by simp [World.setCell]) (fun k hk => Below.heap_setCell _ _ _ _ (by simpa using hk)) ?_
  refine .inl ⟨rfl, c'.setIfInBounds (d + o) v', ?_, by simpa using h2, fun i x hx => ?_⟩
  · simp [World.setCell, Array.getElem?_modify, h1]
  · rw [Array.getElem?_setIfInBounds] at hx
    by_cases ei : o = i
    · subst ei
      rw [if_pos rfl, if_pos ho] at hx; injection hx with hx; subst hx
      exact ⟨v', by rw [Array.getElem?_setIfInBounds, if_pos rfl, if_pos (by omega)], hv⟩
    · rw [if_neg ei] at hx
      obtain ⟨x', a1, a2⟩ := h3 i x hx
      exact ⟨x', by rw [Array.getElem?_setIfInBounds, if_neg (by omega)]; exact a1, a2⟩
inductive LR (ρ : Nm) : List Value → List Value → Prop
  | nil : LR ρ [] []
  | cons {v v' : Value} {l l' : List Value} (h : VR ρ v v') (t : LR ρ l l') : LR ρ (v :: l) (v' :: l')
theorem LR.of_get {ρ : Nm} : ∀ (l l' : List Value), l.length = l'.length → (∀ i (h : i < l.length) (h' : i < l'.length), VR ρ l[i] l'[i]) → LR ρ l l'
  | [], [], _, _ => .nil
  | v :: l, v' :: l', h, k => .cons (k 0 (by simp) (by simp)) (LR.of_get l l' (by simpa using h) (fun i a b => k (i + 1) (by simpa using a) (by simpa using b)))
  | [], _ :: _, h, _ => by simp at h
  | _ :: _, [], h, _ => by simp at h
theorem AR.toList {ρ : Nm} {xs ys : Array Value} (h : AR ρ xs ys) : LR ρ xs.toList ys.toList := LR.of_get _ _ (by simpa using h.size) (fun i a b => by
  simp only [Array.getElem_toList]; exact h.get i _ _)
theorem WR.storeL {P : Program} {w0 : Base} {ρ : Nm} {n b d e : Nat} (hr : ρ n = some (b, d, e)) : ∀ (l l' : List Value) (o i : Nat) (m m' : Mini) (w : World) (a : Addr), LR ρ l l' → WR P w0 ρ m w → Ytaneipjpagbmpaa.storeL m n o l = some m' → a.add i = ⟨b, d + o, none⟩ → (∀ j, a.add (i + j) = ⟨b, d + (o + j), none⟩) →
    ∃ w', (storeCells a l' i).run P w = .ok () w' ∧ WR P w0 ρ m' w'
  | [], _, o, i, m, m', w, a, hl, h, hm, ha, hj => by
    cases hl
    unfold Ytaneipjpagbmpaa.storeL at hm; injection hm with hm; subst hm
    exact ⟨w, by simp [storeCells, Sem.run, pure], h⟩
  | v :: l, _, o, i, m, m', w, a, .cons hv hl, h, hm, ha, hj => by
    rename_i v' l'
    unfold Ytaneipjpagbmpaa.storeL at hm
    split at hm
    · rename_i c t hc
      split at hm
      · rename_i hcond
        obtain ⟨h1, h2, h3⟩ := hcond
        rw [openA_eq, openM_eq, setF_eq] at hm
        obtain ⟨s1, s2⟩ := h.store1 hc hr h1 h3 hv h2
        obtain ⟨w', r1, r2⟩ := WR.storeL hr l l' (o + 1) (i + 1) _ m' _ a hl s2 hm (by have := hj 1; simpa using this) (fun j => by have := hj (1 + j); rw [show i + (1 + j) = i + 1 + j by omega, show o + (1 + j) = o + 1 + j by omega] at this; exact this)
        refine ⟨w', ?_, r2⟩
        unfold storeCells
        rw [ha, Sem.run_bind, s1, Result.andThen_ok]
        exact r1
      · cases hm
    · cases hm

/-! ### Rows -/
theorem WR.ownRow {P : Program} {w0 : Base} {w : World} {ρ : Nm} {m : Mini} (h : WR P w0 ρ m w) {n k L : Nat} {t : TypeId} (hc : m.rowAt n = some (k, L, t)) {b d e : Nat} (hr : ρ n = some (b, d, e)) :
    w0.w.heap.size ≤ b ∧ (Env.rows k).length = Env.lenR L * P.cellsOf t ∧ ∃ c', w.heap[b]? = some (.cells c' t (0, 0)) ∧ d + (Env.rows k).length + e * P.cellsOf t ≤ c'.size ∧ ∀ i v, (Env.rows k)[i]? = some v → c'[d + i]? = some v := by
  have hg := rowAt_spec hc
  obtain ⟨b', d', e', h1, h2, h3⟩ := h.real hg hr
  rw [hr] at h1; injection h1 with h1; injection h1 with h1 h4; injection h4 with h4 h5; subst h1 h4 h5
  rcases h3 with ⟨h6, _⟩ | ⟨k', L', _, h6, h7, h8⟩
  · simp at h6
  · simp at h6
    obtain ⟨rfl, rfl⟩ := h6
    exact ⟨h2, h7, h8⟩
/-- the values of a variable -/
noncomputable def Mini.loadV (P : Program) (m : Mini) (t : TypeId) (n o : Nat) : Option Value :=
  match P.info? t, P.underlying t, m.cellsAt n with
  | some i, some (.struct _), some (c, _) => if o + i.size ≤ c.size then some (.agg (c.extract o (o + i.size))) else none
  | some i, some (.array _ _), some (c, _) => if o + i.size ≤ c.size then some (.agg (c.extract o (o + i.size))) else none
  | some _, some _, some (c, _) => c[o]?
  | _, _, _ => none
theorem WR.cells {P : Program} {w0 : Base} {w : World} {ρ : Nm} {m : Mini} (h : WR P w0 ρ m w) {n o k b d e : Nat} {c : Array Value} {t : TypeId} (hc : m.cellsAt n = some (c, t)) (hr : ρ n = some (b, d, e)) (hk : o + k ≤ c.size) :
    ∃ c', (loadCells ⟨b, d + o, none⟩ k).run P w = .ok c' w ∧ AR ρ (c.extract o (o + k)) c' := by
  obtain ⟨hg, hB, c', h1, h2, h3⟩ := h.row hc hr
  refine ⟨c'.extract (d + o) (d + o + k), ?_, ?_⟩
  · have hl : (c'.extract (d + o) (d + o + k)).toList.length = k := by simp; omega
    have := run_loadCells_list (P := P) w ⟨b, d + o, none⟩ (c'.extract (d + o) (d + o + k)).toList (fun j v hj => by
      rw [Addr.add_lit]
      refine cell_of_row h1 ?_
      rw [Array.getElem?_toList] at hj
      obtain ⟨hj1, hj2⟩ := Array.getElem?_eq_some_iff.1 hj
      rw [Array.getElem_extract] at hj2
      have hj3 : j < k := by simp at hj1; omega
      exact Array.getElem?_eq_some_iff.2 ⟨by omega, hj2⟩)
    rw [hl] at this
    rw [this]
  · refine AR.of? (by simp; omega) (fun i v hv => ?_)
    obtain ⟨hi1, hi2⟩ := Array.getElem?_eq_some_iff.1 hv
    rw [Array.getElem_extract] at hi2
    have hi3 : i < k := by simp at hi1; omega
    obtain ⟨v', a1, a2⟩ := h3 (o + i) v (Array.getElem?_eq_some_iff.2 ⟨by omega, hi2⟩)
    obtain ⟨b1, b2⟩ := Array.getElem?_eq_some_iff.1 a1
    refine ⟨v', Array.getElem?_eq_some_iff.2 ⟨by simp; omega, ?_⟩, a2⟩
    rw [Array.getElem_extract]
    simpa only [Nat.add_assoc] using b2
theorem run_info {P : Program} {t : TypeId} {i : TypeInfo} (h : P.info? t = some i) (w : World) : (typeInfo t).run P w = .ok i w := by
  simp [typeInfo, h]
theorem run_size {P : Program} {t : TypeId} {i : TypeInfo} (h : P.info? t = some i) (w : World) : (sizeOf t).run P w = .ok i.size w := by
  simp [sizeOf, run_info h]
theorem WR.loadV {P : Program} {w0 : Base} {w : World} {ρ : Nm} {m : Mini} (h : WR P w0 ρ m w) {t : TypeId} {n o b d e : Nat} {v : Value} (hr : ρ n = some (b, d, e)) (hv : m.loadV P t n o = some v) :
    ∃ v', (loadVar t ⟨b, d + o, none⟩).run P w = .ok v' w ∧ VR ρ v v' := by
  unfold Mini.loadV at hv
  split at hv
  · rename_i i fs c u hi hu hc
    split at hv
    · rename_i hk
      injection hv with hv; subst hv
      obtain ⟨c', h1, h2⟩ := h.cells hc hr hk
      refine ⟨.agg c', ?_, .agg _ _ h2.size h2.get⟩
      simp [loadVar, isAgg, run_underlying hu, run_size hi, h1]
    · cases hv
  · rename_i i len el c u hi hu hc
    split at hv
    · rename_i hk
      injection hv with hv; subst hv
      obtain ⟨c', h1, h2⟩ := h.cells hc hr hk
      refine ⟨.agg c', ?_, .agg _ _ h2.size h2.get⟩
      simp [loadVar, isAgg, run_underlying hu, run_size hi, h1]
    · cases hv
  · rename_i i du c u hn1 hn2 hi hu hc
    obtain ⟨hg, hB, c', h1, h2, h3⟩ := h.row hc hr
    obtain ⟨v', a1, a2⟩ := h3 o v hv
    refine ⟨v', ?_, a2⟩
    have hcell := cell_of_row h1 a1
    cases du <;> first | exact (hn1 _ rfl).elim | exact (hn2 _ _ rfl).elim | simp [loadVar, isAgg, run_underlying hu, load, Sem.run, hcell]
  · cases hv
/-- a variable is written -/
noncomputable def Mini.storeV (P : Program) (m : Mini) (t : TypeId) (n o : Nat) (v : Value) : Option Mini :=
  match P.info? t with
  | some i => if v.cells.size = i.size ∧ isAny v = false then Ytaneipjpagbmpaa.storeL m n o v.cells.toList else none
  | none => none
theorem WR.storeV {P : Program} {w0 : Base} {w : World} {ρ : Nm} {m m' : Mini} (h : WR P w0 ρ m w) {t : TypeId} {n o b d e : Nat} {v v' : Value} (hr : ρ n = some (b, d, e)) (hm : m.storeV P t n o v = some m') (hv : VR ρ v v') :
    ∃ w', (storeVar t ⟨b, d + o, none⟩ v').run P w = .ok () w' ∧ WR P w0 ρ m' w' := by
  unfold Mini.storeV at hm
  split at hm
  · rename_i i hi
    split at hm
    · rename_i hs
      obtain ⟨hs, hna⟩ := hs
      obtain ⟨w', r1, r2⟩ := WR.storeL hr v.cells.toList v'.cells.toList o 0 m m' w ⟨b, d + o, none⟩ (hv.cells hna).toList h hm (Addr.add_zero' _) (fun j => by rw [Addr.add_lit, Nat.zero_add, Nat.add_assoc])
      refine ⟨w', ?_, r2⟩
      have hs' : v'.cells.size = i.size := (hv.cells hna).size.symm.trans hs
      simp [storeVar, run_size hi, hs', r1]
    · cases hm
  · cases hm
end Go.Proofs.Ytaneipjpagbmpaa
