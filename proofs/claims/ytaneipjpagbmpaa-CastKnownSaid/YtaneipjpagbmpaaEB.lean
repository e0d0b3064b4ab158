/-
  The small machine's results and calls.
-/
import Derived.Test.YtaneipjpagbmpaaE9
namespace Go.Proofs.Ytaneipjpagbmpaa
open Go.RowKit
set_option linter.unusedVariables false
set_option linter.unusedSimpArgs false
set_option linter.unusedSectionVars false
variable [Env]

/-! ### Results and calls -/
noncomputable def resM (P : Program) (a : MA) (m : Mini) : ResultVar → Option Value
  | .tmp t => some (a.get t)
  | .cell x t => match a.get x with
    | .pointer (some p) => if p.spot.isSome then none else m.loadV P t p.block p.off
    | _ => none
noncomputable def resL (P : Program) (a : MA) (m : Mini) : List ResultVar → Option (List Value)
  | [] => some []
  | r :: l => match resM P a m r, resL P a m l with
    | some v, some vs => some (v :: vs)
    | _, _ => none
noncomputable def resultsM (P : Program) (fn : Func) (a : MA) (m : Mini) : Option Value :=
  match resL P a m fn.results.toList with
  | some [v] => some v
  | some vs => some (.tuple vs.toArray)
  | none => none
noncomputable def resRun (tmps : Array Value) : ResultVar → Sem Value
  | .tmp t => pure (tmps.getD t undef)
  | .cell a t => do loadVar t (← asAddr (tmps.getD a undef))
theorem resM_spec {P : Program} {w0 : Base} {w : World} {ρ : Nm} {a : MA} {a' : Act} {m : Mini} (h : ActR ρ a a') (hw : WR P w0 ρ m w) {r : ResultVar} {v : Value} (hv : resM P a m r = some v) : ∃ v', (resRun a'.tmps r).run P w = .ok v' w ∧ VR ρ v v' := by
  cases r with
  | tmp t => simp only [resM, Option.some.injEq] at hv; subst hv; exact ⟨_, by simp [resRun], h.get t⟩
  | cell x t =>
    simp only [resM] at hv
    split at hv
    · rename_i p hp
      split at hv
      · cases hv
      rename_i hsp
      have hx := h.get x
      rw [hp] at hx
      obtain ⟨b, d, e, h1, h2, h3⟩ := hx.ptr_inv (by simpa using hsp)
      obtain ⟨v', r1, r2⟩ := hw.loadV h2 hv
      exact ⟨v', by simp only [resRun, h3, asAddr, Sem.run_bind, Sem.run_pure, Result.andThen_ok, r1], r2⟩
    · cases hv
theorem results_eq (fn : Func) (tmps : Array Value) : results fn tmps = (do let vs ← fn.results.mapM (resRun tmps); pure (if h : vs.size = 1 then vs[0] else .tuple vs)) := by
  unfold results
  congr 1
theorem resL_spec {P : Program} {w0 : Base} {w : World} {ρ : Nm} {a : MA} {a' : Act} {m : Mini} (h : ActR ρ a a') (hw : WR P w0 ρ m w) : ∀ (l : List ResultVar) (vs : List Value), resL P a m l = some vs → ∃ vs', (l.mapM (resRun a'.tmps)).run P w = .ok vs' w ∧ LR ρ vs vs'
  | [], vs, e => by simp only [resL, Option.some.injEq] at e; subst e; exact ⟨[], by simp, .nil⟩
  | r :: l, vs, e => by
    simp only [resL] at e
    split at e
    · rename_i v us hv hus
      injection e with e; subst e
      obtain ⟨v', r1, r2⟩ := resM_spec h hw hv
      obtain ⟨us', r3, r4⟩ := resL_spec h hw l us hus
      exact ⟨v' :: us', by simp only [List.mapM_cons, Sem.run_bind, r1, r3, Result.andThen_ok, Sem.run_pure], .cons r2 r4⟩
    · cases e
theorem LR.length {ρ : Nm} : ∀ {l l' : List Value}, LR ρ l l' → l.length = l'.length
  | _, _, .nil => rfl
  | _, _, .cons h t => by simp [t.length]
theorem resultsM_spec {P : Program} {w0 : Base} {w : World} {ρ : Nm} {fn : Func} {a : MA} {a' : Act} {m : Mini} {v : Value} (h : ActR ρ a a') (hw : WR P w0 ρ m w) (hv : resultsM P fn a m = some v) : ∃ v', (results fn a'.tmps).run P w = .ok v' w ∧ VR ρ v v' := by
  have go : ∀ vs, resL P a m fn.results.toList = some vs → ∃ vs', (fn.results.mapM (resRun a'.tmps)).run P w = .ok vs'.toArray w ∧ LR ρ vs vs' := fun vs hvs => by
    obtain ⟨vs', r1, r2⟩ := resL_spec h hw _ _ hvs
    refine ⟨vs', ?_, r2⟩
    rw [Array.mapM_eq_mapM_toList, Sem.run_map, r1]
    rfl
  unfold resultsM at hv
  split at hv
  · rename_i u hu
    injection hv with hv; subst hv
    obtain ⟨vs', r1, r2⟩ := go _ hu
    cases r2 with
    | cons hh ht =>
      cases ht
      exact ⟨_, by rw [results_eq]; simp only [Sem.run_bind, r1, Result.andThen_ok]; rfl, hh⟩
  · rename_i vs hne hu
    injection hv with hv; subst hv
    obtain ⟨vs', r1, r2⟩ := go _ hu
    have hl := r2.length
    have hlen : vs'.toArray.size ≠ 1 := by
      rw [List.size_toArray, ← hl]
      intro h1
      match vs, h1, hne with
      | [v], _, hne => exact hne v rfl
    have har := r2.ar
    exact ⟨.tuple vs'.toArray, by rw [results_eq]; simp only [Sem.run_bind, r1, Result.andThen_ok, dif_neg hlen, Sem.run_pure], .tuple _ _ har.size har.get⟩
  · cases hv
/-! ### Contracts of callees -/
theorem WR.later {P : Program} {w0 : Base} {ρ : Nm} {m : Mini} {w w' : World} (h : WR P w0 ρ m w) (hb : Below w.heap.size w w') : WR P w0 ρ m w' :=
  ⟨h.below.trans (hb.mono h.below.size), fun n o hg => Or.elim (h.obj n o hg) .inl fun ⟨b, d, e, h1, h2, h3⟩ => by
    rcases h.obj n o hg with hgh | _
    · exact .inl hgh
    · refine .inr ⟨b, d, e, h1, h2, ?_⟩
      rw [hb.block b (h.lt hg h1)]
      exact h3, h.dom, h.inj, h.ghost⟩
abbrev Cons := List (FuncId × Array Value × Value)
noncomputable def findK (g : FuncId) (args : Array Value) : Cons → Option Value
  | [] => none
  | (q, xs, v) :: l => if q = g then (if eqA xs args = true ∧ flatA xs = true ∧ flat v = true then some v else findK g args l) else findK g args l
theorem findK_spec {g : FuncId} {args : Array Value} {v : Value} : ∀ (l : Cons), findK g args l = some v → (g, args, v) ∈ l ∧ flatA args = true ∧ flat v = true
  | [], h => by cases h
  | (q, xs, u) :: l, h => by
    unfold findK at h
    split at h
    · rename_i e
      split at h
      · rename_i hc
        injection h with h; subst h e
        have := eqA_sound _ _ hc.1; subst this
        exact ⟨List.mem_cons_self .., hc.2⟩
      · obtain ⟨h1, h2⟩ := findK_spec l h; exact ⟨List.mem_cons_of_mem _ h1, h2⟩
    · obtain ⟨h1, h2⟩ := findK_spec l h; exact ⟨List.mem_cons_of_mem _ h1, h2⟩
noncomputable def ConsOk (P : Program) (K : Cons) : Prop := ∀ g args v, (g, args, v) ∈ K → ∀ w, Below Env.base.heap.size Env.base w → Calls P g (realA Env.σ args) w fun e w' => e = .returned (realD Env.σ v) ∧ Below w.heap.size w w'
/-- the marks at a function's end -/
noncomputable def takeMarks (m : Mini) : List Deferred → Option Mini
  | [] => some m
  | ⟨.collected d, _⟩ :: ds => match m.heap.get d with
    | some (some (.deferred (some []))) => if d < 2 ^ 249 then takeMarks (m.upd d (.deferred none)) ds else none
    | _ => none
  | _ => none
theorem takeMarks_spec {P : Program} {w0 : Base} {ρ : Nm} {fn : Func} {tmps : Array Value} {R : Ending → World → Prop} : ∀ {ds ds' : List Deferred} {m m' : Mini} {w : World}, DR ρ ds ds' → WR P w0 ρ m w → takeMarks m ds = some m' →
    (∀ w', WR P w0 ρ m' w' → LeavesInM (WF none) 0 P fn tmps R [] .returning w') → LeavesInM (WF none) 0 P fn tmps R ds' .returning w
  | _, _, m, m', w, .nil, hw, h, hK => by
    simp only [takeMarks, Option.some.injEq] at h; subst h
    exact hK w hw
  | _, _, m, m', w, .cons (n := n) (b := b) (l := l) (l' := l') hb ht, hw, h, hK => by
    simp only [takeMarks] at h
    split at h
    · rename_i hg
      split at h
      · rename_i hf
        obtain ⟨b', d', e', q1, _, q3⟩ := hw.real hg hb
        rw [hb] at q1; injection q1 with q1; injection q1 with q1 _; subst q1
        have hlt : b < w.heap.size := (Array.getElem?_eq_some_iff.1 q3.2.2).1
        have hw' : WR P w0 ρ (m.upd n (.deferred none)) (w.putObj b (.deferred none)) := hw.upd hg hb hf rfl rfl rfl World.putObj_size (fun k hk => World.putObj_heap_other hk) ⟨rfl, rfl, World.putObj_heap_same hlt⟩
        exact ⟨by simp, .inl ⟨b, _, rfl, run_takeDeferred q3.2.2, takeMarks_spec ht hw' h hK⟩⟩
      · cases h
    · cases h
  | _, _, m, m', w, .fn (g := g) (xs := xs) (l := l) (l' := l') hb ht, hw, h, hK => by
    simp only [takeMarks] at h
    cases h
noncomputable def setAll : List Tmp → List Value → Array Value → Array Value
  | p :: ps, v :: vs, t => setAll ps vs (t.setIfInBounds p v)
  | _, _, t => t
theorem setAll_eq : ∀ (ps : List Tmp) (vs : List Value) (t : Array Value), (ps.zip vs).foldl (fun t (x, v) => t.setIfInBounds x v) t = setAll ps vs t
  | [], _, t => by simp [setAll]
  | _ :: _, [], t => by simp [setAll]
  | p :: ps, v :: vs, t => by rw [List.zip_cons_cons, List.foldl_cons, setAll_eq ps vs]; rfl
theorem setAll_ar {ρ : Nm} : ∀ (ps : List Tmp) {vs vs' : List Value} {t t' : Array Value}, LR ρ vs vs' → AR ρ t t' → AR ρ (setAll ps vs t) (setAll ps vs' t')
  | [], _, _, _, _, h, k => by simpa [setAll] using k
  | _ :: _, _, _, _, _, .nil, k => by simpa [setAll] using k
  | p :: ps, _, _, _, _, .cons h t, k => setAll_ar ps t (k.set p h)
theorem evCode_run {P : Program} {call : CallF} (hm : P.follows .mixedOrders = true) (hcall : CallS P call) {lt : LoopT} (hL : LoopsOk P lt) {w0 : Base} {rd rr : Option Nat} {g : FuncId} {f : Nat} {p : List Bool} {c : Code} {a : MA} {m : Mini} {x : XM} {a1 : MA} {m1 : Mini} (hat : codeAt P g p = some c) (h : evCode P call lt rd g f p c a m = some (x, a1, m1))
    {Q : Exit → Act → World → Prop} {w : World} {ρ : Nm} {a' : Act} (hrd : RD ρ rd rr) (ha : ActR ρ a a') (hw : WR P w0 ρ m w) (hK : ∀ ρ' a1' w', Ext ρ ρ' → ActR ρ' a1 a1' → WR P w0 ρ' m1 w' → Q x.out a1' w') : c.wpIn (WF rr) 0 P Q a' w :=
  (evCode_wp hm hcall hL f p c a m x a1 m1 hat h).elim fun M hM => (hM Q w ρ a' hrd ha hw hK).1
theorem start_act {ρ : Nm} {xs : Array Value} {n : Nat} {a' : Act} (hs : a'.tmps.size = n) (h1 : xs.size ≤ n) (h2 : n ≤ 1048576) (hd : a'.defers = []) (h : ∀ i, VR ρ (xs.getD i undef) (a'.tmps.getD i undef)) : ActR ρ (MA.start xs n []) a' :=
  ⟨hs, h2, fun i => by rw [MA.start_get h1 h2]; exact h i, by rw [hd]; exact .nil⟩
/-- a call's first activation -/
noncomputable def startM (fn : Func) (args : Array Value) : MA := MA.start args (args.size + (fn.ntmps - args.size)) []
theorem startM_act {ρ : Nm} {fn : Func} {args args' : Array Value} (har : AR ρ args args') (hle : args.size + (fn.ntmps - args.size) ≤ 1048576) : ActR ρ (startM fn args) { tmps := args' ++ Array.replicate (fn.ntmps - args'.size) undef, defers := [] } := by
  refine start_act (by simp [har.size]) (by omega) hle rfl fun i => ?_
  have := (har.append (AR.undefs (ρ := ρ) (fn.ntmps - args.size))).getD i
  rw [har.size] at this
  have e : (args ++ Array.replicate (fn.ntmps - args'.size) undef).getD i undef = args.getD i undef := by
    simp only [Array.getD]
    by_cases h1 : i < args.size
    · simp [h1, Array.getElem_append_left]; intro h2; omega
    · by_cases h2 : i < args.size + (fn.ntmps - args'.size)
      · simp [h1, h2, Array.getElem_append_right (Nat.le_of_not_lt h1)]
      · simp [h1, h2]
  rw [e] at this
  exact this
noncomputable def evRound (P : Program) (call : CallF) (lt : LoopT) (cf : Nat) (l : Nat) (args : Array Value) (m : Mini) : Option (Value × Mini) :=
  match m.loopAt l with
  | some r => if r.state = .ready ∧ args.size = r.params.size ∧ l < 2 ^ 249 then match codeAt P r.fn (decP r.assign) with
      | some (.rangeFunc _ _ assign body) =>
        match forceA (setAll r.params.toList args.toList r.tmps) fun t => if t.size ≤ 1048576 then openAct (MA.start t t.size []) fun a0 => evCode P call lt (some l) r.fn cf (false :: decP r.assign) assign a0 m else none with
        | some (.normal, a1, m1) => match m1.loopAt l with
          | some r1 => if r1.state = .ready then
              match openM (m1.upd l (.loop { r1 with state := .busy })) fun m2 => evCode P call lt (some l) r.fn cf (true :: decP r.assign) body a1 m2 with
              | some (x, _, m3) => match m3.loopAt l with
                | some r3 => openM (m3.upd l (.loop { r3 with state := if x.jump.isNone then .ready else .done, pending := x.jump })) fun m4 => some (.bool x.jump.isNone, m4)
                | none => none
              | none => none
            else none
          | none => none
        | _ => none
      | _ => none
    else none
  | none => none
theorem evRound_spec {P : Program} (hm : P.follows .mixedOrders = true) {call : CallF} (hcall : CallS P call) {lt : LoopT} (hL : LoopsOk P lt) {cf l : Nat} {args : Array Value} {m : Mini} {v : Value} {m' : Mini} (h : evRound P call lt cf l args m = some (v, m')) {w0 : Base} {ρ : Nm} {args' : Array Value} {w : World} {b : Nat} (hb : ρ l = some (b, 0, 0)) (har : AR ρ args args') (hw : WR P w0 ρ m w) :
    ∃ f tmps assign body, (Instr.yield b args').run P w = .ok (.round b f tmps assign body) w ∧ RoundIn Fence.wide 0 P b f tmps assign body w (Back P w0 ρ v m') := by
  unfold evRound at h
  split at h
  case h_2 => cases h
  rename_i r hl
  split at h
  case isFalse => cases h
  rename_i hcond
  obtain ⟨hst, hsz, hlt⟩ := hcond
  split at h
  case h_2 => cases h
  rename_i q ps assign body hat
  rw [forceA_eq] at h
  split at h
  case h_2 => cases h
  rename_i a1 m1 h1
  split at h1
  case isFalse => cases h1
  rename_i hle
  rw [openAct_eq] at h1
  split at h
  case h_2 => cases h
  rename_i r1 hl1
  split at h
  case isFalse => cases h
  rename_i hst1
  rw [openM_eq] at h
  split at h
  case h_2 => cases h
  rename_i x a2 m3 h2
  split at h
  case h_2 => cases h
  rename_i r3 hl3
  rw [openM_eq] at h
  simp only [Option.some.injEq, Prod.mk.injEq] at h
  obtain ⟨rfl, rfl⟩ := h
  obtain ⟨hg, r', hb', hlr⟩ := hw.loopRow hl hb
  obtain ⟨q', hat'⟩ := hlr.code
  rw [hat] at hat'; injection hat' with hat'; injection hat' with e1 e2 e3 e4; subst e1 e2
  have hy := run_yield (P := P) (args := args') hb' (by rw [hlr.params, ← har.size]; exact hsz)
  refine ⟨_, _, _, _, hy, ?_⟩
  rw [← e3, ← e4]
  have hact : ActR ρ (MA.start (setAll r.params.toList args.toList r.tmps) (setAll r.params.toList args.toList r.tmps).size []) { tmps := (r'.params.zip args').foldl (fun tmps (t, a) => tmps.setIfInBounds t a) r'.tmps, defers := [] } := by
    refine start_act ?_ (Nat.le_refl _) hle rfl ?_
    · rw [← Array.foldl_toList, Array.toList_zip, setAll_eq, hlr.params]
      exact (setAll_ar _ har.toList hlr.tmps).size.symm
    · intro i
      rw [← Array.foldl_toList, Array.toList_zip, setAll_eq, hlr.params]
      exact (setAll_ar _ har.toList hlr.tmps).getD i
  have c0 := codeAt_child hat false (x := assign) rfl
  have c1 := codeAt_child hat true (x := body) rfl
  refine roundIn_of_wpIn (F := Fence.wide) trivial ?_
  refine evCode_run hm hcall hL (rd := some l) (rr := some b) c0 h1 hb hact hw fun ρ1 a1' w1 x1 y1 z1 => ?_
  obtain ⟨hg1, r1', hb1, hlr1⟩ := z1.loopRow hl1 (x1 _ _ hb)
  refine ⟨_, run_beginRound hb1 (by rw [hlr1.state]; exact hst1), ?_⟩
  have hbusy := z1.putLoop (q := { r1 with state := .busy }) (q' := { r1' with state := .busy }) hg1 (x1 _ _ hb) hlt hb1 ⟨rfl, hlr1.pending, hlr1.params, hlr1.tmps, hlr1.code, hlr1.defers⟩
  refine evCode_run hm hcall hL (rd := some l) (rr := some b) c1 h2 (x1 _ _ hb) y1 hbusy fun ρ2 a2' w2 x2 y2 z2 => ?_
  obtain ⟨hg3, r3', hb3, hlr3⟩ := z2.loopRow hl3 (x2 _ _ (x1 _ _ hb))
  have hfin : Back P w0 ρ (.bool x.jump.isNone) (m3.upd l (.loop { r3 with state := if x.jump.isNone then .ready else .done, pending := x.jump })) (.returned (.bool x.jump.isNone)) (w2.putObj b (.loop { r3' with state := if x.jump.isNone then .ready else .done, pending := x.jump })) :=
    ⟨ρ2, _, rfl, x1.trans x2, .same _ rfl, z2.putLoop hg3 (x2 _ _ (x1 _ _ hb)) hlt hb3 ⟨rfl, rfl, hlr3.params, hlr3.tmps, hlr3.code, hlr3.defers⟩⟩
  cases x with
  | normal => exact ⟨_, _, run_endRound none hb3, hfin⟩
  | ret => exact ⟨_, _, run_endRound (some .ret) hb3, hfin⟩
  | exit id => exact ⟨_, _, run_endRound (some (.exit id)) hb3, hfin⟩
noncomputable def evBody (P : Program) (call : CallF) (lt : LoopT) (cf : Nat) (g : FuncId) (args : Array Value) (m : Mini) : Option (Value × Mini) :=
  match P.funcs[g]? with
  | some fn => match fn.body with
    | some c => if 1048576 < args.size + (fn.ntmps - args.size) then none else match openAct (startM fn args) fun a0 => evCode P call lt none g cf [] c a0 m with
      | some (.normal, a1, m1) => match takeMarks m1 a1.defers with
        | some m2 => (resultsM P fn a1 m2).map (·, m2)
        | none => none
      | some (.ret, a1, m1) => match takeMarks m1 a1.defers with
        | some m2 => (resultsM P fn a1 m2).map (·, m2)
        | none => none
      | _ => none
    | none => none
  | none => none
theorem evBody_spec {P : Program} (hm : P.follows .mixedOrders = true) {call : CallF} (hcall : CallS P call) {lt : LoopT} (hL : LoopsOk P lt) {cf : Nat} {g : FuncId} {args : Array Value} {m : Mini} {v : Value} {m' : Mini} (h : evBody P call lt cf g args m = some (v, m')) {w0 : Base} {ρ : Nm} {args' : Array Value} {w : World} (har : AR ρ args args') (hw : WR P w0 ρ m w) : Calls P g args' w (Back P w0 ρ v m') := by
  unfold evBody at h
  split at h
  case h_2 => cases h
  rename_i fn hfn
  split at h
  case h_2 => cases h
  rename_i c hc
  split at h
  · cases h
  rename_i hle
  rw [openAct_eq] at h
  have hact := startM_act (fn := fn) har (Nat.le_of_not_lt hle)
  have hat : codeAt P g [] = some c := by simp only [codeAt, hfn]; exact hc
  refine (callsIn_wide (n := 0)).1 (callsIn_of_wp_marks (F := WF none) hfn hc trivial ?_)
  have fin : ∀ (a1 : MA) (m1 : Mini), (match takeMarks m1 a1.defers with | some m2 => (resultsM P fn a1 m2).map (·, m2) | none => none) = some (v, m') → ∀ ρ' a1' w', Ext ρ ρ' → ActR ρ' a1 a1' → WR P w0 ρ' m1 w' → LeavesInM (WF none) 0 P fn a1'.tmps (Back P w0 ρ v m') a1'.defers .returning w' := fun a1 m1 h ρ' a1' w' x y z => by
    split at h
    · rename_i m2 hm2
      rw [Option.map_eq_some_iff] at h
      obtain ⟨u, hu, e⟩ := h
      injection e with e1 e2; subst e1 e2
      refine takeMarks_spec y.defs z hm2 fun w2 hw2 => ?_
      obtain ⟨v', r1, r2⟩ := resultsM_spec y hw2 hu
      exact ⟨v', r1, ρ', v', rfl, x, r2, hw2⟩
    · cases h
  split at h
  · rename_i a1 m1 h1
    exact evCode_run hm hcall hL (rd := none) (rr := none) hat h1 trivial hact hw fun ρ' a1' w' x y z => fin a1 m1 h ρ' a1' w' x y z
  · rename_i a1 m1 h1
    exact evCode_run hm hcall hL (rd := none) (rr := none) hat h1 trivial hact hw fun ρ' a1' w' x y z => fin a1 m1 h ρ' a1' w' x y z
  · cases h
noncomputable def evCall (P : Program) (K : Cons) (lt : LoopT) (cf : Nat) : Nat → CallF
  | 0 => fun _ _ _ => none
  | n + 1 => fun callee args m => match callee with
    | .func g => match findK g args K with
      | some v => some (v, m)
      | none => evBody P (evCall P K lt cf n) lt cf g args m
    | .yield l => evRound P (evCall P K lt cf n) lt cf l args m
    | _ => none
theorem evCall_spec {P : Program} (hP : P = Env.prog) (hm : P.follows .mixedOrders = true) {K : Cons} (hK : ConsOk P K) {lt : LoopT} (hL : LoopsOk P lt) (cf : Nat) : ∀ n, CallS P (evCall P K lt cf n)
  | 0 => ⟨hP, fun g args m v m' h => by simp [evCall] at h, fun l args m v m' h => by simp [evCall] at h⟩
  | n + 1 => by
    have ih := evCall_spec hP hm hK hL cf n
    refine ⟨hP, fun g args m v m' h w0 ρ args' w har hw => ?_, fun l args m v m' h w0 ρ args' w b hb har hw => ?_⟩
    · simp only [evCall] at h
      split at h
      · rename_i u hu
        injection h with h; injection h with e1 e2; subst e1 e2
        obtain ⟨h1, h2, h3⟩ := findK_spec _ hu
        have hr : args' = realA Env.σ args := by
          have h4 := VR.det (ρ := ρ) (ρ' := ρ) (v := .agg args) (by rw [flat]; exact h2) (.agg _ _ har.size har.get) (real_rel (.agg args) (by rw [flat]; exact h2))
          rw [realD] at h4
          injection h4
        rw [hr]
        refine (hK _ _ _ h1 w hw.baseBelow).mono ?_
        rintro e w' ⟨rfl, hb⟩
        exact ⟨ρ, _, rfl, Ext.refl _, real_rel u h3, hw.later hb⟩
      · exact evBody_spec hm ih hL h har hw
    · exact evRound_spec hm ih hL h hb har hw
/-! ### A closed call -/
noncomputable def Mini.empty : Mini := { heap := .leaf, pre := 0, ctr := 0 }
theorem WR.empty (P : Program) (w : World) (hb : Below Env.base.heap.size Env.base w) : WR P ⟨w, fun _ => False, hb⟩ (fun _ => none) Mini.empty w :=
  ⟨Below.refl _ _, fun n o h => (by simp [Mini.empty, Tr.get] at h), fun n t h => (by cases h), fun n k o q b d e d' e' h => (by simp [Mini.empty, Tr.get] at h), fun n h => h.elim⟩
/-- what the small machine answers -/
noncomputable def answer (P : Program) (K : Cons) (lt : LoopT) (cf n : Nat) (g : FuncId) (args : Array Value) : Option Value :=
  match evCall P K lt cf n (.func g) args Mini.empty with
  | some (v, _) => some v
  | none => none
/-- what the small machine answers to signs, the program answers to what they stand for -/
theorem calls_signs {P : Program} (hP : P = Env.prog) (hm : P.follows .mixedOrders = true) {K : Cons} (hK : ConsOk P K) {lt : LoopT} (hL : LoopsOk P lt) {cf n : Nat} {g : FuncId} {args : Array Value} {v : Value} (hp : flatA args = true) (hv : flat v = true) (h : answer P K lt cf n g args = some v) (w : World) (hb : Below Env.base.heap.size Env.base w) :
    Calls P g (realA Env.σ args) w fun e w' => e = .returned (realD Env.σ v) ∧ Below w.heap.size w w' := by
  unfold answer at h
  split at h
  · rename_i u m hu
    injection h with h; subst h
    refine ((evCall_spec hP hm hK hL cf n).fn g args Mini.empty u m hu ⟨w, fun _ => False, hb⟩ _ _ w (realA_rel args hp) (WR.empty P w hb)).mono ?_
    rintro e w' ⟨ρ', v', rfl, x, y, z⟩
    rw [y.det hv (real_rel (ρ := ρ') u hv)]
    exact ⟨rfl, z.below⟩
  · cases h
end Go.Proofs.Ytaneipjpagbmpaa
namespace Go.Proofs.Ytaneipjpagbmpaa
open Go.RowKit
/-- no signs at all -/
abbrev bare (P : Program) (w : World) : Env := { σ := fun _ => .nilFunc, ints := fun _ => false, okI := fun _ h => (by cases h), plain := fun _ => rfl, bins := [], okB := fun _ _ _ _ h => (by cases h), mins := [], okM := fun _ _ _ _ h => (by cases h), prog := P, base := w, lods := [], okLd := fun _ _ _ h => (by cases h), idxs := [], okIx := fun _ _ _ _ h => (by cases h), slcs := [], okSl := fun _ _ _ _ h => (by cases h), fads := [], okFa := fun _ _ _ _ h => (by cases h), lens := [], okLe := fun _ _ _ h => (by cases h), cvts := [], okCv := fun _ _ _ _ h => (by cases h), rows := fun _ => [], lenR := fun _ => 0, lenT := [], okLt := fun _ _ h => (by cases h), inT := [], okIn := fun _ _ h => (by cases h), gets := [], okGe := fun _ _ _ _ h => (by cases h), apps := [], okAp := fun _ _ _ _ _ _ h => (by cases h) }
theorem calls_closed {P : Program} (hm : P.follows .mixedOrders = true) {cf n : Nat} {g : FuncId} {v : Value} (args : Array Value) (hp : flatA args = true) (hv : flat v = true) (w : World) (h : @answer (bare P w) P [] [] cf n g args = some v) (hr : realA (bare P w).σ args = args) (hrv : realD (bare P w).σ v = v) :
    Calls P g args w fun e w' => e = .returned v ∧ Below w.heap.size w w' := by
  have := @calls_signs (bare P w) P rfl hm [] (fun _ _ _ h => (by cases h)) [] (fun _ h => (by cases h)) cf n g args v hp hv h w (Below.refl _ _)
  rw [show @Env.σ (bare P w) = (bare P w).σ from rfl, hr, hrv] at this
  exact this
end Go.Proofs.Ytaneipjpagbmpaa
