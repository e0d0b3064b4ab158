/-
  The small machine's code and calls.
-/
import Derived.Test.YtbflolaongghmaaEA
import Derived.LoopN
namespace Go.Proofs.Ytbflolaongghmaa
open Go.RowKit
set_option linter.unusedVariables false
set_option linter.unusedSimpArgs false
set_option linter.unusedSectionVars false
variable [Env]

inductive XM where
  | normal
  | exit (id : Nat)
  | ret
def XM.out : XM → Exit
  | .normal => .normal
  | .exit id => .exit id
  | .ret => .ret
def PanQ (Q : Exit → Act → World → Prop) : Prop := ∀ c a dst v w, Q (.panic c) (Act.put a dst v) w → Q (.panic c) a w
theorem PanQ.then {N : Act → World → Prop} {Q : Exit → Act → World → Prop} (h : PanQ Q) : PanQ (Exit.then N Q) := h
theorem PanQ.block {id : Nat} {Q : Exit → Act → World → Prop} (h : PanQ Q) : PanQ (Exit.inBlock id Q) := h
theorem PanQ.scope {Q : Exit → Act → World → Prop} (h : PanQ Q) : PanQ (Exit.noGoto Q) := h
def evCode (P : Program) (call : CallF) : Nat → Code → Act → Mini → Option (XM × Act × Mini)
  | 0, _, _, _ => none
  | f + 1, c, a, m =>
    match c with
    | .skip => some (.normal, a, m)
    | .label _ => some (.normal, a, m)
    | .region _ ops draw =>
      if draw then
        if Region.noSelect ops && backB ops then
          match forceN m.fresh fun base => evRuns P call ops base m.pre m.ctr ops.size [{ listed := Array.replicate ops.size false, a, m, E := [] }] with
          | some (a1, m1) => openM { m1 with ctr := m1.ctr + ops.size } fun m2 => some (.normal, a1, m2)
          | none => none
        else none
      else match evSeq P call ops (List.range ops.size) a m with
        | some (a1, m1) => some (.normal, a1, m1)
        | none => none
    | .seq x y => match evCode P call f x a m with
      | some (.normal, a1, m1) => evCode P call f y a1 m1
      | r => r
    | .cond x t e => match evalM a x with
      | some (.bool b) => evCode P call f (if b then t else e) a m
      | _ => none
    | .block id x => match evCode P call f x a m with
      | some (.exit id', a1, m1) => if id' = id then some (.normal, a1, m1) else some (.exit id', a1, m1)
      | r => r
    | .loop x => match evCode P call f x a m with
      | some (.normal, a1, m1) => evCode P call f (.loop x) a1 m1
      | r => r
    | .scope x => evCode P call f x a m
    | .exit id => some (.exit id, a, m)
    | .ret => some (.ret, a, m)
    | _ => none
theorem evCode_wp {P : Program} {call : CallF} (hm : P.follows .mixedOrders = true) (hcall : CallS P call) {w0 : Base} : ∀ (f : Nat) (c : Code) (a : Act) (m : Mini) (x : XM) (a1 : Act) (m1 : Mini), evCode P call f c a m = some (x, a1, m1) →
    ∀ (Q : Exit → Act → World → Prop), PanQ Q → ∀ (w : World) (ρ : Nm) (a' : Act), ActR ρ a a' → WR P w0 ρ m w → (∀ ρ' a1' w', Ext ρ ρ' → ActR ρ' a1 a1' → WR P w0 ρ' m1 w' → Q x.out a1' w') →
      c.wp P Q a' w ∧ ∀ b, c = .loop b → Code.rounds P b Q f a' w
  | 0, c, a, m, x, a1, m1, h, Q, hQ, w, ρ, a', ha, hw, hK => by simp [evCode] at h
  | f + 1, c, a, m, x, a1, m1, h, Q, hQ, w, ρ, a', ha, hw, hK => by
    have ih := evCode_wp hm hcall (w0 := w0) f
    cases c with
    | skip =>
      simp only [evCode, Option.some.injEq, Prod.mk.injEq] at h
      obtain ⟨rfl, rfl, rfl⟩ := h
      exact ⟨wp_skip (hK ρ a' w (Ext.refl _) ha hw), fun b e => by cases e⟩
    | label l =>
      simp only [evCode, Option.some.injEq, Prod.mk.injEq] at h
      obtain ⟨rfl, rfl, rfl⟩ := h
      exact ⟨wp_label (hK ρ a' w (Ext.refl _) ha hw), fun b e => by cases e⟩
    | exit id =>
      simp only [evCode, Option.some.injEq, Prod.mk.injEq] at h
      obtain ⟨rfl, rfl, rfl⟩ := h
      exact ⟨wp_exit (hK ρ a' w (Ext.refl _) ha hw), fun b e => by cases e⟩
    | ret =>
      simp only [evCode, Option.some.injEq, Prod.mk.injEq] at h
      obtain ⟨rfl, rfl, rfl⟩ := h
      exact ⟨wp_ret (hK ρ a' w (Ext.refl _) ha hw), fun b e => by cases e⟩
    | region id ops draw =>
      refine ⟨?_, fun b e => by cases e⟩
      simp only [evCode] at h
      cases draw with
      | true =>
        rw [if_pos rfl] at h
        split at h
        · rename_i hns
          rw [Bool.and_eq_true] at hns
          rw [forceN_eq] at h
          split at h
          · rename_i a2 m2 h2
            rw [openM_eq] at h
            simp only [Option.some.injEq, Prod.mk.injEq] at h
            obtain ⟨rfl, rfl, rfl⟩ := h
            refine wp_region_any hm ?_
            refine evRuns_wp hcall hns.1 hns.2 _ _ _ _ h2 _ (List.mem_singleton.2 rfl) _ _ _ _ _ (Inv.start ha (hw.drew _)) ?_ fun ρ' a1' w' x y z => hK ρ' a1' w' x y (z.names _ _)
            rw [Array.toList_replicate, cntF_replicate]; exact Nat.le_refl _
          · cases h
        · cases h
      | false =>
        rw [if_neg (by simp)] at h
        split at h
        · rename_i a2 m2 h2
          simp only [Option.some.injEq, Prod.mk.injEq] at h
          obtain ⟨rfl, rfl, rfl⟩ := h
          exact wp_region (evSeq_wp hcall _ ha hw h2 hK)
        · cases h
    | seq p q =>
      refine ⟨?_, fun b e => by cases e⟩
      simp only [evCode] at h
      split at h
      · rename_i a2 m2 h2
        refine wp_seq (ih _ _ _ _ _ _ h2 _ hQ.then w ρ a' ha hw fun ρ' a2' w' x y z => ?_).1
        exact (ih _ _ _ _ _ _ h Q hQ w' ρ' a2' y z fun ρ'' a1' w'' x' y' z' => hK ρ'' a1' w'' (x.trans x') y' z').1
      · rename_i hne
        refine wp_seq (ih _ _ _ _ _ _ h _ hQ.then w ρ a' ha hw fun ρ' a2' w' x' y z => ?_).1
        cases x with
        | normal => exact absurd h (hne _ _)
        | exit id => exact hK ρ' a2' w' x' y z
        | ret => exact hK ρ' a2' w' x' y z
    | cond o t e =>
      refine ⟨?_, fun b e => by cases e⟩
      simp only [evCode] at h
      split at h
      · rename_i b hb
        have hbe := (evalM_spec ha hb).1.pure rfl
        exact wp_cond hbe (ih _ _ _ _ _ _ h Q hQ w ρ a' ha hw hK).1
      · cases h
    | block id p =>
      refine ⟨?_, fun b e => by cases e⟩
      simp only [evCode] at h
      split at h
      · rename_i id' a2 m2 h2
        refine wp_block (ih _ _ _ _ _ _ h2 _ hQ.block w ρ a' ha hw fun ρ' a2' w' x' y z => ?_).1
        split at h
        · rename_i he
          simp only [Option.some.injEq, Prod.mk.injEq] at h
          obtain ⟨rfl, rfl, rfl⟩ := h
          simp only [XM.out, Exit.inBlock, if_pos he]
          exact hK ρ' a2' w' x' y z
        · rename_i he
          simp only [Option.some.injEq, Prod.mk.injEq] at h
          obtain ⟨rfl, rfl, rfl⟩ := h
          simp only [XM.out, Exit.inBlock, if_neg he]
          exact hK ρ' a2' w' x' y z
      · rename_i hne
        refine wp_block (ih _ _ _ _ _ _ h _ hQ.block w ρ a' ha hw fun ρ' a2' w' x' y z => ?_).1
        cases x with
        | normal => exact hK ρ' a2' w' x' y z
        | exit id' => exact absurd h (hne _ _ _)
        | ret => exact hK ρ' a2' w' x' y z
    | loop p =>
      have hr : Code.rounds P p Q (f + 1) a' w := by
        rw [rounds_succ]
        simp only [evCode] at h
        split at h
        · rename_i a2 m2 h2
          refine (ih _ _ _ _ _ _ h2 _ hQ.then w ρ a' ha hw fun ρ' a2' w' x y z => ?_).1
          exact (ih _ _ _ _ _ _ h Q hQ w' ρ' a2' y z fun ρ'' a1' w'' x' y' z' => hK ρ'' a1' w'' (x.trans x') y' z').2 p rfl
        · rename_i hne
          refine (ih _ _ _ _ _ _ h _ hQ.then w ρ a' ha hw fun ρ' a2' w' x' y z => ?_).1
          cases x with
          | normal => exact absurd h (hne _ _)
          | exit id => exact hK ρ' a2' w' x' y z
          | ret => exact hK ρ' a2' w' x' y z
      exact ⟨wp_loop_rounds (f + 1) hr, fun b e => by injection e with e; subst e; exact hr⟩
    | scope p =>
      refine ⟨?_, fun b e => by cases e⟩
      simp only [evCode] at h
      refine wp_scope_straight (ih _ _ _ _ _ _ h _ hQ.scope w ρ a' ha hw fun ρ' a2' w' x' y z => ?_).1
      cases x <;> exact hK ρ' a2' w' x' y z
    | _ => simp [evCode] at h

/-! ### Results and calls -/
def resM (P : Program) (a : Act) (m : Mini) : ResultVar → Option Value
  | .tmp t => some (a.tmps.getD t undef)
  | .cell x t => match a.tmps.getD x undef with
    | .pointer (some p) => m.loadV P t p.block p.off
    | _ => none
def resL (P : Program) (a : Act) (m : Mini) : List ResultVar → Option (List Value)
  | [] => some []
  | r :: l => match resM P a m r, resL P a m l with
    | some v, some vs => some (v :: vs)
    | _, _ => none
def resultsM (P : Program) (fn : Func) (a : Act) (m : Mini) : Option Value :=
  match resL P a m fn.results.toList with
  | some [v] => some v
  | some vs => some (.tuple vs.toArray)
  | none => none
def resRun (tmps : Array Value) : ResultVar → Sem Value
  | .tmp t => pure (tmps.getD t undef)
  | .cell a t => do loadVar t (← asAddr (tmps.getD a undef))
theorem resM_spec {P : Program} {w0 : Base} {w : World} {ρ : Nm} {a a' : Act} {m : Mini} (h : ActR ρ a a') (hw : WR P w0 ρ m w) {r : ResultVar} {v : Value} (hv : resM P a m r = some v) : ∃ v', (resRun a'.tmps r).run P w = .ok v' w ∧ VR ρ v v' := by
  cases r with
  | tmp t => simp only [resM, Option.some.injEq] at hv; subst hv; exact ⟨_, by simp [resRun], h.tmps.getD t⟩
  | cell x t =>
    simp only [resM] at hv
    split at hv
    · rename_i p hp
      have hx := h.tmps.getD x
      rw [hp] at hx
      obtain ⟨b, d, e, h1, h2, h3⟩ := hx.ptr_inv
      obtain ⟨v', r1, r2⟩ := hw.loadV h2 hv
      exact ⟨v', by simp only [resRun, h3, asAddr, Sem.run_bind, Sem.run_pure, Result.andThen_ok, r1], r2⟩
    · cases hv
theorem results_eq (fn : Func) (tmps : Array Value) : results fn tmps = (do let vs ← fn.results.mapM (resRun tmps); pure (if h : vs.size = 1 then vs[0] else .tuple vs)) := by
  unfold results
  congr 1
theorem resL_spec {P : Program} {w0 : Base} {w : World} {ρ : Nm} {a a' : Act} {m : Mini} (h : ActR ρ a a') (hw : WR P w0 ρ m w) : ∀ (l : List ResultVar) (vs : List Value), resL P a m l = some vs → ∃ vs', (l.mapM (resRun a'.tmps)).run P w = .ok vs' w ∧ LR ρ vs vs'
  | [], vs, e => by simp only [resL, Option.some.injEq] at e; subst e; exact ⟨[], by simp, .nil⟩
  | r :: l, vs, e => by
    simp only [resL] at e
    split at e
    · rename_i v us hv hus
      injection e with e; subst e
      obtain ⟨v', r1, r2⟩ := resM_spec h hw hv
      obtain ⟨us', r3, r4⟩ := resL_spec h hw l us hus
      exact ⟨v' :: us', by simp only [List.mapM_cons, Sem.run_bind, r1, r3, Result.andThen_ok, Sem.run_pure], .cons r2 r4⟩
    · cases e
theorem LR.length {ρ : Nm} : ∀ {l l' : List Value}, LR ρ l l' → l.length = l'.length
  | _, _, .nil => rfl
  | _, _, .cons h t => by simp [t.length]
theorem resultsM_spec {P : Program} {w0 : Base} {w : World} {ρ : Nm} {fn : Func} {a a' : Act} {m : Mini} {v : Value} (h : ActR ρ a a') (hw : WR P w0 ρ m w) (hv : resultsM P fn a m = some v) : ∃ v', (results fn a'.tmps).run P w = .ok v' w ∧ VR ρ v v' := by
  have go : ∀ vs, resL P a m fn.results.toList = some vs → ∃ vs', (fn.results.mapM (resRun a'.tmps)).run P w = .ok vs'.toArray w ∧ LR ρ vs vs' := fun vs hvs => by
    obtain ⟨vs', r1, r2⟩ := resL_spec h hw _ _ hvs
    refine ⟨vs', ?_, r2⟩
    rw [Array.mapM_eq_mapM_toList, Sem.run_map, r1]
    rfl
  unfold resultsM at hv
  split at hv
  · rename_i u hu
    injection hv with hv; subst hv
    obtain ⟨vs', r1, r2⟩ := go _ hu
    cases r2 with
    | cons hh ht =>
      cases ht
      exact ⟨_, by rw [results_eq]; simp only [Sem.run_bind, r1, Result.andThen_ok]; rfl, hh⟩
  · rename_i vs hne hu
    injection hv with hv; subst hv
    obtain ⟨vs', r1, r2⟩ := go _ hu
    have hl := r2.length
    have hlen : vs'.toArray.size ≠ 1 := by
      rw [List.size_toArray, ← hl]
      intro h1
      match vs, h1, hne with
      | [v], _, hne => exact hne v rfl
    have har := r2.ar
    exact ⟨.tuple vs'.toArray, by rw [results_eq]; simp only [Sem.run_bind, r1, Result.andThen_ok, dif_neg hlen, Sem.run_pure], .tuple _ _ har.size har.get⟩
  · cases hv
mutual
def realD (σ : Nat → Value) : Value → Value
  | .chan r => realV σ (.chan r)
  | .agg cs => .agg (realA σ cs)
  | .tuple cs => .tuple (realA σ cs)
  | v => v
def realA (σ : Nat → Value) : Array Value → Array Value
  | ⟨l⟩ => ⟨realL σ l⟩
def realL (σ : Nat → Value) : List Value → List Value
  | [] => []
  | v :: l => realD σ v :: realL σ l
end
mutual
def flat : Value → Bool
  | .chan _ => true
  | .agg cs => flatA cs
  | .tuple cs => flatA cs
  | .bool _ => true
  | .int _ _ => true
  | .string _ => true
  | .pointer a => a.isNone
  | .slice a _ _ => a.isNone
  | .map r => r.isNone
  | .nilFunc => true
  | .nilIface => true
  | _ => false
def flatA : Array Value → Bool
  | ⟨l⟩ => flatL l
def flatL : List Value → Bool
  | [] => true
  | v :: l => flat v && flatL l
end
mutual
theorem real_rel {ρ : Nm} : ∀ (v : Value), flat v = true → VR ρ v (realD Env.σ v)
  | .chan none, _ => .same _ rfl
  | .chan (some k), _ => .sign k
  | .agg cs, h => by rw [flat] at h; have := realA_rel (ρ := ρ) cs h; exact .agg _ _ this.size this.get
  | .tuple cs, h => by rw [flat] at h; have := realA_rel (ρ := ρ) cs h; exact .tuple _ _ this.size this.get
  | .bool _, _ => .same _ rfl
  | .int _ _, _ => .same _ rfl
  | .string _, _ => .same _ rfl
  | .pointer a, h => by rw [flat] at h; exact .same _ (by rw [pureV]; exact h)
  | .slice a l c, h => by rw [flat] at h; exact .same _ (by rw [pureV]; exact h)
  | .map r, h => by rw [flat] at h; exact .same _ (by rw [pureV]; exact h)
  | .nilFunc, _ => .same _ rfl
  | .nilIface, _ => .same _ rfl
  | .float .., h => by simp [flat] at h
  | .complex .., h => by simp [flat] at h
  | .func .., h => by simp [flat] at h
  | .iface .., h => by simp [flat] at h
theorem realA_rel {ρ : Nm} : ∀ (a : Array Value), flatA a = true → AR ρ a (realA Env.σ a)
  | ⟨l⟩, h => by rw [flatA] at h; exact (realL_rel l h).ar
theorem realL_rel {ρ : Nm} : ∀ (l : List Value), flatL l = true → LR ρ l (realL Env.σ l)
  | [], _ => .nil
  | v :: l, h => by rw [flatL, Bool.and_eq_true] at h; exact .cons (real_rel v h.1) (realL_rel l h.2)
end
theorem flatA_get : ∀ {cs : Array Value}, flatA cs = true → ∀ i (h : i < cs.size), flat cs[i] = true := fun {cs} hp i h => by
  obtain ⟨l⟩ := cs
  rw [flatA] at hp
  have : ∀ (l : List Value), flatL l = true → ∀ i (h : i < l.length), flat l[i] = true := by
    intro l
    induction l with
    | nil => intro _ i h; simp at h
    | cons v l ih =>
      intro hp i h
      rw [flatL, Bool.and_eq_true] at hp
      cases i with
      | zero => exact hp.1
      | succ i => exact ih hp.2 i (by simpa using h)
  exact this l hp i h
/-- a value without addresses stands for one value alone -/
theorem VR.det {ρ ρ' : Nm} {v a b : Value} (hv : flat v = true) (h : VR ρ v a) (k : VR ρ' v b) : a = b := by
  induction h generalizing b with
  | sign q =>
    cases k with
    | sign => rfl
    | same _ h => simp [pureV] at h
  | same v h => exact (k.pure h).symm
  | agg xs ys h1 h2 ih =>
    obtain ⟨zs, rfl, hz⟩ := k.agg_inv
    rw [flat] at hv
    rw [show ys = zs from Array.ext (h1.symm.trans hz.size) fun i x y => ih i (by omega) x (flatA_get hv i (by omega)) (hz.get i (by omega) y)]
  | tuple xs ys h1 h2 ih =>
    obtain ⟨zs, rfl, hz⟩ := k.tuple_inv
    rw [flat] at hv
    rw [show ys = zs from Array.ext (h1.symm.trans hz.size) fun i x y => ih i (by omega) x (flatA_get hv i (by omega)) (hz.get i (by omega) y)]
  | _ => simp [flat] at hv
/-! ### Contracts of callees -/
theorem WR.later {P : Program} {w0 : Base} {ρ : Nm} {m : Mini} {w w' : World} (h : WR P w0 ρ m w) (hb : Below w.heap.size w w') : WR P w0 ρ m w' :=
  ⟨h.below.trans (hb.mono h.below.size), fun n o hg => Or.elim (h.obj n o hg) .inl fun ⟨b, d, e, h1, h2, h3⟩ => by
    rcases h.obj n o hg with hgh | _
    · exact .inl hgh
    · refine .inr ⟨b, d, e, h1, h2, ?_⟩
      rw [hb.block b (h.lt hg h1)]
      exact h3, h.dom, h.inj, h.ghost⟩
abbrev Cons := List (FuncId × Array Value × Value)
def findK (g : FuncId) (args : Array Value) : Cons → Option Value
  | [] => none
  | (q, xs, v) :: l => if q = g then (if eqA xs args = true ∧ flatA xs = true ∧ flat v = true then some v else findK g args l) else findK g args l
theorem findK_spec {g : FuncId} {args : Array Value} {v : Value} : ∀ (l : Cons), findK g args l = some v → (g, args, v) ∈ l ∧ flatA args = true ∧ flat v = true
  | [], h => by cases h
  | (q, xs, u) :: l, h => by
    unfold findK at h
    split at h
    · rename_i e
      split at h
      · rename_i hc
        injection h with h; subst h e
        have := eqA_sound _ _ hc.1; subst this
        exact ⟨List.mem_cons_self .., hc.2⟩
      · obtain ⟨h1, h2⟩ := findK_spec l h; exact ⟨List.mem_cons_of_mem _ h1, h2⟩
    · obtain ⟨h1, h2⟩ := findK_spec l h; exact ⟨List.mem_cons_of_mem _ h1, h2⟩
def ConsOk (P : Program) (K : Cons) : Prop := ∀ g args v, (g, args, v) ∈ K → ∀ w, Calls P g (realA Env.σ args) w fun e w' => e = .returned (realD Env.σ v) ∧ Below w.heap.size w w'
def evCall (P : Program) (K : Cons) (cf : Nat) : Nat → CallF
  | 0 => fun _ _ _ => none
  | n + 1 => fun g args m =>
    match findK g args K with
    | some v => some (v, m)
    | none => match P.funcs[g]? with
    | some fn => match fn.body with
      | some c => match evCode P (evCall P K cf n) cf c { tmps := args ++ Array.replicate (fn.ntmps - args.size) undef, defers := [] } m with
        | some (.normal, a1, m1) => (resultsM P fn a1 m1).map (·, m1)
        | some (.ret, a1, m1) => (resultsM P fn a1 m1).map (·, m1)
        | _ => none
      | none => none
    | none => none
theorem put_defers (a : Act) (dst : Option Tmp) (v : Value) : (a.put dst v).defers = a.defers := by cases dst <;> rfl
theorem bodyPost_pan (P : Program) (fn : Func) (R : Ending → World → Prop) : PanQ (bodyPost P fn R) := fun c a dst v w h => ⟨by have := h.1; rwa [put_defers] at this, h.2⟩
theorem evCall_spec {P : Program} (hm : P.follows .mixedOrders = true) {K : Cons} (hK : ConsOk P K) (cf : Nat) : ∀ n, CallS P (evCall P K cf n)
  | 0, g, args, m, v, m', h, w0, ρ, args', w, har, hw => by simp [evCall] at h
  | n + 1, g, args, m, v, m', h, w0, ρ, args', w, har, hw => by
    simp only [evCall] at h
    split at h
    · rename_i u hu
      injection h with h; injection h with e1 e2; subst e1 e2
      obtain ⟨h1, h2, h3⟩ := findK_spec _ hu
      have hr : args' = realA Env.σ args := by
        have h4 := VR.det (ρ := ρ) (ρ' := ρ) (v := .agg args) (by rw [flat]; exact h2) (.agg _ _ har.size har.get) (real_rel (.agg args) (by rw [flat]; exact h2))
        rw [realD] at h4
        injection h4
      rw [hr]
      refine (hK _ _ _ h1 w).mono ?_
      rintro e w' ⟨rfl, hb⟩
      exact ⟨ρ, _, rfl, Ext.refl _, real_rel u h3, hw.later hb⟩
    split at h
    case h_2 => cases h
    rename_i fn hfn
    split at h
    case h_2 => cases h
    rename_i c hc
    have hact : ActR ρ { tmps := args ++ Array.replicate (fn.ntmps - args.size) undef, defers := [] } { tmps := args' ++ Array.replicate (fn.ntmps - args'.size) undef, defers := [] } :=
      ⟨by rw [har.size]; exact har.append (AR.undefs _), rfl, rfl⟩
    have ih := evCall_spec hm hK cf n
    split at h
    · rename_i a1 m1 h1
      rw [Option.map_eq_some_iff] at h
      obtain ⟨u, hu, e⟩ := h
      injection e with e1 e2; subst e1 e2
      refine calls_of_wp hfn hc (evCode_wp hm ih _ _ _ _ _ _ _ h1 _ (bodyPost_pan _ _ _) w ρ _ hact hw fun ρ' a1' w' x y z => ?_).1
      obtain ⟨v', r1, r2⟩ := resultsM_spec y z hu
      exact ⟨y.d2, v', r1, ρ', v', rfl, x, r2, z⟩
    · rename_i a1 m1 h1
      rw [Option.map_eq_some_iff] at h
      obtain ⟨u, hu, e⟩ := h
      injection e with e1 e2; subst e1 e2
      refine calls_of_wp hfn hc (evCode_wp hm ih _ _ _ _ _ _ _ h1 _ (bodyPost_pan _ _ _) w ρ _ hact hw fun ρ' a1' w' x y z => ?_).1
      obtain ⟨v', r1, r2⟩ := resultsM_spec y z hu
      exact ⟨y.d2, v', r1, ρ', v', rfl, x, r2, z⟩
    · cases h
/-! ### A closed call -/
def Mini.empty : Mini := { heap := .leaf, pre := 0, ctr := 0 }
theorem WR.empty (P : Program) (w : World) : WR P ⟨w, fun _ => False⟩ (fun _ => none) Mini.empty w :=
  ⟨Below.refl _ _, fun n o h => (by simp [Mini.empty, Tr.get] at h), fun n t h => (by cases h), fun n k o q b d e d' e' h => (by simp [Mini.empty, Tr.get] at h), fun n h => h.elim⟩
/-- what the small machine answers -/
def answer (P : Program) (K : Cons) (cf n : Nat) (g : FuncId) (args : Array Value) : Option Value :=
  match evCall P K cf n g args Mini.empty with
  | some (v, _) => some v
  | none => none
/-- what the small machine answers to signs, the program answers to what they stand for -/
theorem calls_signs {P : Program} (hm : P.follows .mixedOrders = true) {K : Cons} (hK : ConsOk P K) {cf n : Nat} {g : FuncId} {args : Array Value} {v : Value} (hp : flatA args = true) (hv : flat v = true) (h : answer P K cf n g args = some v) (w : World) :
    Calls P g (realA Env.σ args) w fun e w' => e = .returned (realD Env.σ v) ∧ Below w.heap.size w w' := by
  unfold answer at h
  split at h
  · rename_i u m hu
    injection h with h; subst h
    refine (evCall_spec hm hK cf n g args Mini.empty u m hu ⟨w, fun _ => False⟩ _ _ w (realA_rel args hp) (WR.empty P w)).mono ?_
    rintro e w' ⟨ρ', v', rfl, x, y, z⟩
    rw [y.det hv (real_rel (ρ := ρ') u hv)]
    exact ⟨rfl, z.below⟩
  · cases h
end Go.Proofs.Ytbflolaongghmaa
namespace Go.Proofs.Ytbflolaongghmaa
open Go.RowKit
/-- no signs at all -/
abbrev bare : Env := { σ := fun _ => .nilFunc, ints := fun _ => false, okI := fun _ h => (by cases h), plain := fun _ => rfl, bins := [], okB := fun _ _ _ _ h => (by cases h), mins := [], okM := fun _ _ _ _ h => (by cases h) }
theorem calls_closed {P : Program} (hm : P.follows .mixedOrders = true) {cf n : Nat} {g : FuncId} {v : Value} (args : Array Value) (hp : flatA args = true) (hv : flat v = true) (h : @answer bare P [] cf n g args = some v) (w : World) (hr : realA bare.σ args = args) (hrv : realD bare.σ v = v) :
    Calls P g args w fun e w' => e = .returned v ∧ Below w.heap.size w w' := by
  have := @calls_signs bare P hm [] (fun _ _ _ h => (by cases h)) cf n g args v hp hv h w
  rw [show @Env.σ bare = bare.σ from rfl, hr, hrv] at this
  exact this
end Go.Proofs.Ytbflolaongghmaa
