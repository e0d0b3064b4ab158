/-
  The small machine's code and calls.
-/
import Derived.Test.YtaneipjpagbmpaaEA
namespace Go.Proofs.Ytaneipjpagbmpaa
open Go.RowKit
set_option linter.unusedVariables false
set_option linter.unusedSimpArgs false
set_option linter.unusedSectionVars false
variable [Env]

inductive XM where
  | normal
  | exit (id : Nat)
  | ret
noncomputable def XM.out : XM → Exit
  | .normal => .normal
  | .exit id => .exit id
  | .ret => .ret
noncomputable def XM.jump : XM → Option Code
  | .normal => none
  | .exit id => some (.exit id)
  | .ret => some .ret
noncomputable def jumpX : Option Code → Option XM
  | none => some .normal
  | some .ret => some .ret
  | some (.exit id) => some (.exit id)
  | _ => none

/-! ### A scope without jumps, in a round or not -/
section scope
variable {F : Fence} {n : Nat} {P : Program} {Q : Exit → Act → World → Prop} {a : Act} {w : World}
theorem stepR_scope {b : Frame} {k : List Item} {cs : List Frame} {c : Code} : step P (lone (b.atR a (.code (.scope c) :: k)) cs w) = .next (lone (b.atR a (.code c :: .inScope c :: k)) cs w) :=
  step_lone_go (by simp [stepG, stepG.exec, Frame.atR])
theorem stepR_inScope {b : Frame} {k : List Item} {cs : List Frame} {c : Code} : step P (lone (b.atR a (.inScope c :: k)) cs w) = .next (lone (b.atR a k) cs w) :=
  step_lone_go (by simp [stepG, stepG.exec, Frame.atR])
theorem wpIn_scope {c : Code} (h : c.wpIn F n P (Exit.noGoto Q) a w) : (Code.scope c).wpIn F n P Q a w := by
  intro b k cs hro hb hr
  have h0 : (lone (b.atR a (.code (.scope c) :: k)) cs w).fenced P F := fenced_calm hb hr rfl
  obtain ⟨e, a₁, w₁, hq, harr⟩ := h b (.inScope c :: k) cs hro hb hr
  cases e with
  | normal => exact ⟨.normal, a₁, w₁, hq, .head h0 stepR_scope (StepsIn.trans harr (.one (fenced_calm hb hr rfl) stepR_inScope))⟩
  | exit id =>
    have hx : exitTo id (.inScope c :: k) = exitTo id k := by simp [exitTo]
    exact ⟨.exit id, a₁, w₁, hq, fun k' hk => .head h0 stepR_scope (harr.1 k' (by rw [hx]; exact hk)),
      fun hr' hk => let ⟨k₁, h1, h2⟩ := harr.2 hr' (by rw [hx]; exact hk); ⟨k₁, h1, .head h0 stepR_scope h2⟩⟩
  | goto l => exact hq.elim
  | ret => exact ⟨_, a₁, w₁, hq, .of_steps (.one h0 stepR_scope) harr⟩
  | panic ch => exact ⟨_, a₁, w₁, hq, .of_steps (.one h0 stepR_scope) harr⟩
  | outgrown => exact ⟨_, a₁, w₁, hq, .of_steps (.one h0 stepR_scope) harr⟩
end scope

/-! ### Ranges over functions -/
noncomputable def Mini.loopAt (m : Mini) (l : Nat) : Option Loop :=
  match m.heap.get l with
  | some (some (.loop r)) => some r
  | _ => none
theorem loopAt_spec {m : Mini} {l : Nat} {r : Loop} (h : m.loopAt l = some r) : m.heap.get l = some (some (.loop r)) := by
  unfold Mini.loopAt at h
  split at h
  · rename_i r' hg; injection h with h; subst h; exact hg
  · cases h
theorem WR.loopRow {P : Program} {w0 : Base} {w : World} {ρ : Nm} {m : Mini} (h : WR P w0 ρ m w) {l b : Nat} {r : Loop} (hl : m.loopAt l = some r) (hr : ρ l = some (b, 0, 0)) :
    m.heap.get l = some (some (.loop r)) ∧ ∃ r', w.heap[b]? = some (.loop r') ∧ LoopR P ρ r r' := by
  have hg := loopAt_spec hl
  obtain ⟨b', d', e', h1, _, h3⟩ := h.real hg hr
  rw [hr] at h1; injection h1 with h1; injection h1 with h1 h4; subst h1
  exact ⟨hg, h3.2.2⟩
theorem WR.putLoop {P : Program} {w0 : Base} {w : World} {ρ : Nm} {m : Mini} (h : WR P w0 ρ m w) {l b : Nat} {r q r' q' : Loop} (hg : m.heap.get l = some (some (.loop r))) (hr : ρ l = some (b, 0, 0)) (hf : l < 2 ^ 249) (hb : w.heap[b]? = some (.loop r')) (hq : LoopR P ρ q q') :
    WR P w0 ρ (m.upd l (.loop q)) (w.putObj b (.loop q')) := by
  have hlt : b < w.heap.size := (Array.getElem?_eq_some_iff.1 hb).1
  exact h.upd hg hr hf rfl rfl rfl World.putObj_size (fun k hk => World.putObj_heap_other hk) ⟨rfl, rfl, q', World.putObj_heap_same hlt, hq⟩
/-- where a loop's deferred calls go -/
noncomputable def enterM (m : Mini) : Option Nat → Option (Nat × Mini × List Deferred)
  | none => match m.new (.deferred (some [])) with
    | some (d, m1) => some (d, m1, [{ target := .collected d, args := #[] }])
    | none => none
  | some l => match m.loopAt l with
    | some r => some (r.defers, m, [])
    | none => none
noncomputable def RD (ρ : Nm) : Option Nat → Option Nat → Prop
  | none, none => True
  | some l, some b => ρ l = some (b, 0, 0)
  | _, _ => False
theorem RD.ext {ρ ρ' : Nm} (hx : Ext ρ ρ') : ∀ {x y : Option Nat}, RD ρ x y → RD ρ' x y
  | none, none, _ => trivial
  | some _, some _, h => hx _ _ h
  | none, some _, h => h.elim
  | some _, none, h => h.elim
theorem enter_run {P : Program} {w0 : Base} {w : World} {ρ : Nm} {m m1 : Mini} {rd rr : Option Nat} {d : Nat} {mark : List Deferred} (h : WR P w0 ρ m w) (hr : RD ρ rd rr) (he : enterM m rd = some (d, m1, mark)) :
    ∃ ρ1 bd w1 mark', Ext ρ ρ1 ∧ ρ1 d = some (bd, 0, 0) ∧ WR P w0 ρ1 m1 w1 ∧ DR ρ1 mark mark' ∧ ∀ fn tmps ps assign body, (Instr.enterLoop fn tmps ps assign body rr).run P w =
      .ok (w1.heap.size, mark') { w1 with heap := w1.heap.push (.loop { state := .ready, pending := none, fn, tmps, params := ps, assign, body, defers := bd }) } := by
  cases rd with
  | none =>
    cases rr with
    | some b => exact hr.elim
    | none =>
      simp only [enterM] at he
      split at he
      · rename_i d' m' hn
        injection he with he; injection he with e1 e2; injection e2 with e2 e3; subst e1 e2 e3
        obtain ⟨ρ1, h1, h2, h3⟩ := h.new (e := 0) (q := .deferred (some [])) hn ⟨rfl, rfl, rfl⟩
        refine ⟨ρ1, _, _, [{ target := .collected w.heap.size, args := #[] }], h1, h2, h3, .cons h2 .nil, fun fn tmps ps assign body => ?_⟩
        rw [run_enterLoop_outer]
        show Result.ok (w.heap.size + 1, _) _ = Result.ok ((w.heap.push _).size, _) _
        rw [Array.size_push]
        rfl
      · cases he
  | some l =>
    cases rr with
    | none => exact hr.elim
    | some b =>
      simp only [enterM] at he
      split at he
      · rename_i r hl
        injection he with he; injection he with e1 e2; injection e2 with e2 e3; subst e1 e2 e3
        obtain ⟨hg, r', h1, h2⟩ := h.loopRow hl hr
        obtain ⟨bd, d1, d2⟩ := h2.defers
        refine ⟨ρ, bd, w, [], Ext.refl _, d1, h, .nil, fun fn tmps ps assign body => ?_⟩
        unfold Instr.enterLoop
        simp only [Sem.run_bind, run_getLoop h1, run_newObj_alloc, Result.andThen, Sem.run_pure, d2]
        rfl
      · cases he

/-- what is known of a loop: from a state at its head to a state behind it -/
structure LoopRow where
  fn : FuncId
  rd : Option Nat
  place : List Bool
  a : MA
  m : Mini
  x : XM
  a1 : MA
  m1 : Mini
abbrev LoopT := List LoopRow
noncomputable def eqMini (m n : Mini) : Bool := decide (m.pre = n.pre) && decide (m.ctr = n.ctr) && eqT m.heap n.heap
theorem eqMini_sound {a b : Mini} (h : eqMini a b = true) : a = b := by
  obtain ⟨t, d, c⟩ := a; obtain ⟨u, e, x⟩ := b
  simp only [eqMini, Bool.and_eq_true, decide_eq_true_eq] at h
  obtain ⟨⟨h1, h2⟩, h3⟩ := h
  rw [h1, h2, eqT_sound _ _ h3]
noncomputable def findRow (g : FuncId) (rd : Option Nat) (p : List Bool) (a : MA) (m : Mini) : LoopT → Option LoopRow
  | [] => none
  | r :: l => if r.fn = g ∧ r.rd = rd ∧ eqB r.place p = true ∧ eqAct r.a a = true ∧ eqMini r.m m = true then some r else findRow g rd p a m l
theorem findRow_spec {g : FuncId} {rd : Option Nat} {p : List Bool} {a : MA} {m : Mini} {r : LoopRow} : ∀ (l : LoopT), findRow g rd p a m l = some r → r ∈ l ∧ r.fn = g ∧ r.rd = rd ∧ r.place = p ∧ r.a = a ∧ r.m = m
  | [], h => by cases h
  | q :: l, h => by
    unfold findRow at h
    split at h
    · rename_i hc
      injection h with h; subst h
      exact ⟨List.mem_cons_self .., hc.1, hc.2.1, eqB_sound _ _ hc.2.2.1, eqAct_sound hc.2.2.2.1, eqMini_sound hc.2.2.2.2⟩
    · obtain ⟨h1, h2⟩ := findRow_spec l h; exact ⟨List.mem_cons_of_mem _ h1, h2⟩
/-- what is known of a loop holds -/
noncomputable def RowOk (P : Program) (r : LoopRow) : Prop := ∃ M : Nat, ∀ (w0 : Base) (rr : Option Nat) (Q : Exit → Act → World → Prop) (w : World) (ρ : Nm) (a' : Act), RD ρ r.rd rr → ActR ρ r.a a' → WR P w0 ρ r.m w →
  (∀ ρ' a1' w', Ext ρ ρ' → ActR ρ' r.a1 a1' → WR P w0 ρ' r.m1 w' → Q r.x.out a1' w') → ∀ b, codeAt P r.fn r.place = some (.loop b) → Code.roundsIn (WF rr) 0 P b Q M a' w
noncomputable def LoopsOk (P : Program) (lt : LoopT) : Prop := ∀ r ∈ lt, RowOk P r
noncomputable def evCode (P : Program) (call : CallF) (lt : LoopT) (rd : Option Nat) (g : FuncId) : Nat → List Bool → Code → MA → Mini → Option (XM × MA × Mini)
  | 0, _, _, _, _ => none
  | f + 1, p, c, a, m =>
    match c with
    | .skip => some (.normal, a, m)
    | .label _ => some (.normal, a, m)
    | .region _ ops draw =>
      if draw then
        if Region.noSelect ops && backB ops then
          match forceN m.fresh fun base => evRuns P call ops base m.pre m.ctr ops.size [{ listed := Array.replicate ops.size false, a, m, E := [] }] with
          | some (a1, m1) => openM { m1 with ctr := m1.ctr + ops.size } fun m2 => some (.normal, a1, m2)
          | none => none
        else none
      else match evSeq P call ops (List.range ops.size) a m with
        | some (a1, m1) => some (.normal, a1, m1)
        | none => none
    | .seq x y => match evCode P call lt rd g f (false :: p) x a m with
      | some (.normal, a1, m1) => evCode P call lt rd g f (true :: p) y a1 m1
      | r => r
    | .cond x t e => match evalM a x with
      | some (.bool b) => evCode P call lt rd g f ((!b) :: p) (if b then t else e) a m
      | _ => none
    | .block id x => match evCode P call lt rd g f (false :: p) x a m with
      | some (.exit id', a1, m1) => if id' = id then some (.normal, a1, m1) else some (.exit id', a1, m1)
      | r => r
    | .loop x => match findRow g rd p a m lt with
      | some r => some (r.x, r.a1, r.m1)
      | none => match evCode P call lt rd g f (false :: p) x a m with
        | some (.normal, a1, m1) => evCode P call lt rd g f p (.loop x) a1 m1
        | r => r
    | .scope x => evCode P call lt rd g f (false :: p) x a m
    | .exit id => some (.exit id, a, m)
    | .ret => some (.ret, a, m)
    | .rangeFunc q ps _ _ => match evalM a q with
      | some (.func (.func gf) first cap) =>
        if canEnter P gf then match enterM m rd with
          | some (d, m1, mark) => match forceA a.arr fun ts => m1.new (.loop { state := .ready, pending := none, fn := g, tmps := ts, params := ps, assign := encP p, body := .skip, defers := d }) with
            | some (l, m2) => match openM m2 fun m2 => call (.func gf) (first ++ #[.func (.yield l) #[] #[]] ++ cap) m2 with
              | some (_, m3) => match m3.loopAt l with
                | some r => if r.state ≠ .busy ∧ l < 2 ^ 249 then match jumpX r.pending with
                    | some x => openM (m3.upd l (.loop { r with state := .exhausted })) fun m4 => some (x, { t := a.t, n := a.n, defers := mark ++ a.defers }, m4)
                    | none => none
                  else none
                | none => none
              | none => none
            | none => none
          | none => none
        else none
      | _ => none
    | _ => none
theorem jumpX_spec {j : Option Code} {x : XM} (h : jumpX j = some x) : j = x.jump := by
  unfold jumpX at h
  split at h <;> first | (injection h with h; subst h; rfl) | cases h
theorem DR.append {ρ : Nm} {l l' k k' : List Deferred} (h : DR ρ l l') (t : DR ρ k k') : DR ρ (l ++ k) (l' ++ k') := by
  induction h with
  | nil => exact t
  | cons h _ ih => exact .cons h ih
  | fn h _ ih => exact .fn h ih
theorem evCode_wp {P : Program} {call : CallF} (hm : P.follows .mixedOrders = true) (hcall : CallS P call) {lt : LoopT} (hL : LoopsOk P lt) {w0 : Base} {rd rr : Option Nat} {g : FuncId} : ∀ (f : Nat) (p : List Bool) (c : Code) (a : MA) (m : Mini) (x : XM) (a1 : MA) (m1 : Mini), codeAt P g p = some c → evCode P call lt rd g f p c a m = some (x, a1, m1) →
    ∃ M : Nat, ∀ (Q : Exit → Act → World → Prop) (w : World) (ρ : Nm) (a' : Act), RD ρ rd rr → ActR ρ a a' → WR P w0 ρ m w → (∀ ρ' a1' w', Ext ρ ρ' → ActR ρ' a1 a1' → WR P w0 ρ' m1 w' → Q x.out a1' w') →
      c.wpIn (WF rr) 0 P Q a' w ∧ ∀ b, c = .loop b → Code.roundsIn (WF rr) 0 P b Q M a' w
  | 0, p, c, a, m, x, a1, m1, hat, h => by simp [evCode] at h
  | f + 1, p, c, a, m, x, a1, m1, hat, h => by
    have ihM := evCode_wp hm hcall hL (w0 := w0) (rd := rd) (rr := rr) (g := g) f
    have ih : ∀ (p : List Bool) (c : Code) (a : MA) (m : Mini) (x : XM) (a1 : MA) (m1 : Mini), codeAt P g p = some c → evCode P call lt rd g f p c a m = some (x, a1, m1) →
      ∀ (Q : Exit → Act → World → Prop) (w : World) (ρ : Nm) (a' : Act), RD ρ rd rr → ActR ρ a a' → WR P w0 ρ m w → (∀ ρ' a1' w', Ext ρ ρ' → ActR ρ' a1 a1' → WR P w0 ρ' m1 w' → Q x.out a1' w') → c.wpIn (WF rr) 0 P Q a' w :=
        fun p c a m x a1 m1 h1 h2 Q w ρ a' h3 h4 h5 h6 => (ihM p c a m x a1 m1 h1 h2).elim fun M hM => (hM Q w ρ a' h3 h4 h5 h6).1
    cases c with
    | skip =>
      refine ⟨0, fun Q w ρ a' hrd ha hw hK => ?_⟩
      simp only [evCode, Option.some.injEq, Prod.mk.injEq] at h
      obtain ⟨rfl, rfl, rfl⟩ := h
      exact ⟨wpIn_skip (hK ρ a' w (Ext.refl _) ha hw), fun b e => by cases e⟩
    | label l =>
      refine ⟨0, fun Q w ρ a' hrd ha hw hK => ?_⟩
      simp only [evCode, Option.some.injEq, Prod.mk.injEq] at h
      obtain ⟨rfl, rfl, rfl⟩ := h
      exact ⟨wpIn_label (hK ρ a' w (Ext.refl _) ha hw), fun b e => by cases e⟩
    | exit id =>
      refine ⟨0, fun Q w ρ a' hrd ha hw hK => ?_⟩
      simp only [evCode, Option.some.injEq, Prod.mk.injEq] at h
      obtain ⟨rfl, rfl, rfl⟩ := h
      exact ⟨wpIn_exit (hK ρ a' w (Ext.refl _) ha hw), fun b e => by cases e⟩
    | ret =>
      refine ⟨0, fun Q w ρ a' hrd ha hw hK => ?_⟩
      simp only [evCode, Option.some.injEq, Prod.mk.injEq] at h
      obtain ⟨rfl, rfl, rfl⟩ := h
      exact ⟨wpIn_ret (hK ρ a' w (Ext.refl _) ha hw), fun b e => by cases e⟩
    | region id ops draw =>
      refine ⟨0, fun Q w ρ a' hrd ha hw hK => ?_⟩
      refine ⟨?_, fun b e => by cases e⟩
      simp only [evCode] at h
      cases draw with
      | true =>
        rw [if_pos rfl] at h
        split at h
        · rename_i hns
          rw [Bool.and_eq_true] at hns
          rw [forceN_eq] at h
          split at h
          · rename_i a2 m2 h2
            rw [openM_eq] at h
            simp only [Option.some.injEq, Prod.mk.injEq] at h
            obtain ⟨rfl, rfl, rfl⟩ := h
            refine wpIn_region_any hm ?_
            refine evRuns_wp hcall hns.1 hns.2 _ _ _ _ h2 _ (List.mem_singleton.2 rfl) _ _ _ _ _ (Inv.start ha (hw.drew _)) ?_ fun ρ' a1' w' x y z => hK ρ' a1' w' x y (z.names _ _)
            rw [Array.toList_replicate, cntF_replicate]; exact Nat.le_refl _
          · cases h
        · cases h
      | false =>
        rw [if_neg (by simp)] at h
        split at h
        · rename_i a2 m2 h2
          simp only [Option.some.injEq, Prod.mk.injEq] at h
          obtain ⟨rfl, rfl, rfl⟩ := h
          exact wpIn_region (evSeq_wp hcall _ ha hw h2 hK)
        · cases h
    | seq s t =>
      refine ⟨0, fun Q w ρ a' hrd ha hw hK => ?_⟩
      refine ⟨?_, fun b e => by cases e⟩
      simp only [evCode] at h
      have c0 := codeAt_child hat false (x := s) rfl
      have c1 := codeAt_child hat true (x := t) rfl
      split at h
      · rename_i a2 m2 h2
        refine wpIn_seq (ih _ _ _ _ _ _ _ c0 h2 _ w ρ a' hrd ha hw fun ρ' a2' w' x y z => ?_)
        exact (ih _ _ _ _ _ _ _ c1 h Q w' ρ' a2' (hrd.ext x) y z fun ρ'' a1' w'' x' y' z' => hK ρ'' a1' w'' (x.trans x') y' z')
      · rename_i hne
        refine wpIn_seq (ih _ _ _ _ _ _ _ c0 h _ w ρ a' hrd ha hw fun ρ' a2' w' x' y z => ?_)
        cases x with
        | normal => exact absurd h (hne _ _)
        | exit id => exact hK ρ' a2' w' x' y z
        | ret => exact hK ρ' a2' w' x' y z
    | cond o t e =>
      refine ⟨0, fun Q w ρ a' hrd ha hw hK => ?_⟩
      refine ⟨?_, fun b e => by cases e⟩
      simp only [evCode] at h
      split at h
      · rename_i b hb
        have hbe := (evalM_spec ha hb).1.pure rfl
        exact wpIn_cond hbe (ih _ _ _ _ _ _ _ (codeAt_child hat (!b) (by cases b <;> rfl)) h Q w ρ a' hrd ha hw hK)
      · cases h
    | block id s =>
      refine ⟨0, fun Q w ρ a' hrd ha hw hK => ?_⟩
      refine ⟨?_, fun b e => by cases e⟩
      simp only [evCode] at h
      have c0 := codeAt_child hat false (x := s) rfl
      split at h
      · rename_i id' a2 m2 h2
        refine wpIn_block (ih _ _ _ _ _ _ _ c0 h2 _ w ρ a' hrd ha hw fun ρ' a2' w' x' y z => ?_)
        split at h
        · rename_i he
          simp only [Option.some.injEq, Prod.mk.injEq] at h
          obtain ⟨rfl, rfl, rfl⟩ := h
          simp only [XM.out, Exit.inBlock, if_pos he]
          exact hK ρ' a2' w' x' y z
        · rename_i he
          simp only [Option.some.injEq, Prod.mk.injEq] at h
          obtain ⟨rfl, rfl, rfl⟩ := h
          simp only [XM.out, Exit.inBlock, if_neg he]
          exact hK ρ' a2' w' x' y z
      · rename_i hne
        refine wpIn_block (ih _ _ _ _ _ _ _ c0 h _ w ρ a' hrd ha hw fun ρ' a2' w' x' y z => ?_)
        cases x with
        | normal => exact hK ρ' a2' w' x' y z
        | exit id' => exact absurd h (hne _ _ _)
        | ret => exact hK ρ' a2' w' x' y z
    | loop s =>
      have c0 := codeAt_child hat false (x := s) rfl
      simp only [evCode] at h
      split at h
      · rename_i r hr
        obtain ⟨h1, h2, h3, h4, h5, h6⟩ := findRow_spec _ hr
        simp only [Option.some.injEq, Prod.mk.injEq] at h
        obtain ⟨rfl, rfl, rfl⟩ := h
        subst h2 h3 h4 h5 h6
        obtain ⟨M, hM⟩ := hL r h1
        refine ⟨M, fun Q w ρ a' hrd ha hw hK => ?_⟩
        have := hM w0 rr Q w ρ a' hrd ha hw hK s hat
        exact ⟨wpIn_loop_rounds M this, fun b e => by injection e with e; subst e; exact this⟩
      · split at h
        · rename_i a2 m2 h2
          obtain ⟨M, hM⟩ := ihM _ _ _ _ _ _ _ hat h
          refine ⟨M + 1, fun Q w ρ a' hrd ha hw hK => ?_⟩
          have hr : Code.roundsIn (WF rr) 0 P s Q (M + 1) a' w := by
            rw [roundsIn_succ]
            refine ih _ _ _ _ _ _ _ c0 h2 _ w ρ a' hrd ha hw fun ρ' a2' w' x y z => ?_
            exact (hM Q w' ρ' a2' (hrd.ext x) y z fun ρ'' a1' w'' x' y' z' => hK ρ'' a1' w'' (x.trans x') y' z').2 s rfl
          exact ⟨wpIn_loop_rounds (M + 1) hr, fun b e => by injection e with e; subst e; exact hr⟩
        · rename_i hne
          refine ⟨1, fun Q w ρ a' hrd ha hw hK => ?_⟩
          have hr : Code.roundsIn (WF rr) 0 P s Q 1 a' w := by
            rw [roundsIn_succ]
            refine ih _ _ _ _ _ _ _ c0 h _ w ρ a' hrd ha hw fun ρ' a2' w' x' y z => ?_
            cases x with
            | normal => exact absurd h (hne _ _)
            | exit id => exact hK ρ' a2' w' x' y z
            | ret => exact hK ρ' a2' w' x' y z
          exact ⟨wpIn_loop_rounds 1 hr, fun b e => by injection e with e; subst e; exact hr⟩
    | scope s =>
      refine ⟨0, fun Q w ρ a' hrd ha hw hK => ?_⟩
      refine ⟨?_, fun b e => by cases e⟩
      simp only [evCode] at h
      refine wpIn_scope (ih _ _ _ _ _ _ _ (codeAt_child hat false rfl) h _ w ρ a' hrd ha hw fun ρ' a2' w' x' y z => ?_)
      cases x <;> exact hK ρ' a2' w' x' y z
    | rangeFunc q ps assign body =>
      refine ⟨0, fun Q w ρ a' hrd ha hw hK => ?_⟩
      refine ⟨?_, fun b e => by cases e⟩
      simp only [evCode] at h
      split at h
      case h_2 => cases h
      rename_i gf first cap hq
      split at h
      case isFalse => cases h
      rename_i hcan
      split at h
      case h_2 => cases h
      rename_i d m2 mark he
      split at h
      case h_2 => cases h
      rename_i l m3 hn
      rw [forceA_eq] at hn
      rw [openM_eq] at h
      split at h
      case h_2 => cases h
      rename_i v m4 hc
      split at h
      case h_2 => cases h
      rename_i r hl
      split at h
      case isFalse => cases h
      rename_i hcond
      split at h
      case h_2 => cases h
      rename_i xx hj
      rw [openM_eq] at h
      simp only [Option.some.injEq, Prod.mk.injEq] at h
      obtain ⟨rfl, rfl, rfl⟩ := h
      obtain ⟨ρ1, bd, w1, mark', x1, hd, hw1, hmark, hrun⟩ := enter_run hw hrd he
      have ha1 := ha.ext x1
      refine wpIn_rangeFunc fun fn _ => ?_
      obtain ⟨ρ2, x2, hl2, hw2⟩ := hw1.new (e := 0) (q := .loop { state := .ready, pending := none, fn, tmps := a'.tmps, params := ps, assign, body, defers := bd }) hn
        ⟨rfl, rfl, _, rfl, ⟨rfl, rfl, rfl, ha1.arr, ⟨q, by dsimp only; rw [decP_encP]; exact hat⟩, ⟨bd, hd, rfl⟩⟩⟩
      obtain ⟨f', ys, us, h1, h2, h3, h4⟩ := (evalM_spec ha hq).1.func_inv
      have := h4 rfl; subst this
      have har : AR ρ2 (first ++ #[.func (.yield l) #[] #[]] ++ cap) (ys ++ #[.func (.yield w1.heap.size) #[] #[]] ++ us) :=
        ((h2.ext (x1.trans x2)).append (LR.ar (.cons (.yield l _ hl2) .nil))).append (h3.ext (x1.trans x2))
      refine ⟨w1.heap.size, mark', { w1 with heap := w1.heap.push (.loop { state := .ready, pending := none, fn, tmps := a'.tmps, params := ps, assign, body, defers := bd }) }, { target := .fn (.func gf) us, args := ys ++ #[.func (.yield w1.heap.size) #[] #[]] }, { w1 with heap := w1.heap.push (.loop { state := .ready, pending := none, fn, tmps := a'.tmps, params := ps, assign, body, defers := bd }) }, gf, ys ++ #[.func (.yield w1.heap.size) #[] #[]] ++ us, { w1 with heap := w1.heap.push (.loop { state := .ready, pending := none, fn, tmps := a'.tmps, params := ps, assign, body, defers := bd }) },
        hrun fn a'.tmps ps assign body, ?_, fun _ _ => trivial, ?_, fun h => (by cases h), ?_⟩
      · simp only [resolve, h1, Deferred.ofValue, Sem.run_bind, Sem.run_pure, Result.andThen_ok]
        simp [Act.eval]
      · simp only [invoke]; exact run_callFunc hcan _ _
      · refine WF.calls ((hcall.fn gf _ _ v m4 hc w0 ρ2 _ _ har hw2).mono ?_)
        rintro e w' ⟨ρ3, v', rfl, x3, y3, z3⟩
        obtain ⟨hg, r', hb', hlr⟩ := z3.loopRow hl (x3 _ _ hl2)
        have hp : r'.pending = xx.jump := hlr.pending.trans (jumpX_spec hj)
        refine ⟨xx.jump, _, (run_endLoop hb' (by rw [hlr.state]; exact hcond.1)).trans (congrArg (fun j => Result.ok j (w'.putObj w1.heap.size (.loop { r' with state := .exhausted }))) hp), ?_⟩
        have hfin := z3.putLoop (q := { r with state := .exhausted }) (q' := { r' with state := .exhausted }) hg (x3 _ _ hl2) hcond.2 hb' ⟨rfl, hlr.pending, hlr.params, hlr.tmps, hlr.code, hlr.defers⟩
        have hx : Ext ρ ρ3 := (x1.trans x2).trans x3
        have hact : ActR ρ3 { t := a.t, n := a.n, defers := mark ++ a.defers } { a' with defers := mark' ++ a'.defers } :=
          ⟨(ha.ext hx).size, (ha.ext hx).le, (ha.ext hx).get, (hmark.ext (x2.trans x3)).append (ha.ext hx).defs⟩
        have hk := hK ρ3 _ _ hx hact hfin
        cases xx with
        | normal => exact hk
        | exit id => exact wpIn_exit hk
        | ret => exact wpIn_ret hk
    | _ => simp [evCode] at h

end Go.Proofs.Ytaneipjpagbmpaa
