/-
  The small machine's operations on memory, and calls.
-/
import Derived.Test.YtaneipjpagbmpaaE6
import Derived.RangeFuncRecord
import Derived.RangeFuncLeaves
import Derived.OrdersIn
import Derived.LoopNIn
import Derived.ControlIn
import Derived.CallsIn
import Derived.TacticsIn
namespace Go.Proofs.Ytaneipjpagbmpaa
open Go.RowKit
set_option linter.unusedVariables false
set_option linter.unusedSimpArgs false
set_option linter.unusedSectionVars false
variable [Env]

/-- an operation is carried out -/
noncomputable def DoneN (P : Program) (w0 : Base) (ρ : Nm) (s : Sem Next) (w : World) (v : Value) (m' : Mini) : Prop :=
  ∃ ρ' nx v' w', Ext ρ ρ' ∧ s.run P w = .ok nx w' ∧ (nx = .value v' ∨ (nx = .skip ∧ v' = undef)) ∧ VR ρ' v v' ∧ WR P w0 ρ' m' w'
theorem DoneV.next {P : Program} {w0 : Base} {w : World} {ρ : Nm} {s : Sem Value} {v : Value} {m' : Mini} (h : DoneV P w0 ρ s w v m') : DoneN P w0 ρ (do pure (.value (← s))) w v m' := by
  obtain ⟨ρ', v', w', a, b, c, d⟩ := h
  exact ⟨ρ', .value v', v', w', a, by simp only [Sem.run_bind, b, Result.andThen_ok, Sem.run_pure], .inl rfl, c, d⟩
theorem DoneN.unit {P : Program} {w0 : Base} {w w' : World} {ρ : Nm} {s : Sem Unit} {m' : Mini} (h : s.run P w = .ok () w') (hw : WR P w0 ρ m' w') : DoneN P w0 ρ (do s; pure .skip) w undef m' :=
  ⟨ρ, .skip, undef, w', Ext.refl _, by simp only [Sem.run_bind, h, Result.andThen_ok, Sem.run_pure], .inr ⟨rfl, rfl⟩, .same _ pureV_undef, hw⟩
/-- the values of an element of a row -/
noncomputable def Mini.loadE (P : Program) (m : Mini) (t : TypeId) (n f q : Nat) : Option Value :=
  match m.rowAt n with
  | some (k, _, _) => match findG k (q / 64) (q % 64) Env.gets with
    | some v => match P.info? t, P.underlying t with
      | some i, some (.struct _) => if f + i.size ≤ v.cells.size then some (.agg (v.cells.extract f (f + i.size))) else none
      | some i, some (.array _ _) => if f + i.size ≤ v.cells.size then some (.agg (v.cells.extract f (f + i.size))) else none
      | some _, some _ => v.cells[f]?
      | _, _ => none
    | none => none
  | none => none
theorem flat_notAny {v : Value} (h : flat v = true) : isAny v = false := by cases v <;> first | rfl | (simp [flat] at h)
theorem WR.loadE {P : Program} {w0 : Base} {w : World} {ρ : Nm} {m : Mini} (h : WR P w0 ρ m w) {t : TypeId} {n f q : Nat} {x' v : Value} (hx : VR ρ (.pointer (some ⟨n, f, some q⟩)) x') (hv : m.loadE P t n f q = some v) :
    ∃ v', (Instr.loadAt t x').run P w = .ok v' w ∧ VR ρ v v' := by
  unfold Mini.loadE at hv
  split at hv
  case h_2 => cases hv
  rename_i k L u hrow
  split at hv
  case h_2 => cases hv
  rename_i el hg
  obtain ⟨b, d, e, i, hr, hi, rfl⟩ := hx.elem_inv
  obtain ⟨g1, g2, i', g3, g4⟩ := Env.okGe _ _ _ _ (findG_spec _ hg)
  rw [hi] at g3; injection g3 with g3; subst g3
  obtain ⟨_, hlen, c', r1, r2, r3⟩ := h.ownRow hrow hr
  have har := (real_rel (ρ := ρ) el g1).cells (flat_notAny g1)
  have hcs : ∀ j u, (realD Env.σ el).cells[j]? = some u → c'[d + i * (q % 64) + j]? = some u := fun j u hj => by
    rw [← Array.getElem?_toList, g4] at hj
    rw [List.getElem?_take] at hj
    split at hj
    · rw [List.getElem?_drop] at hj
      rw [Nat.add_assoc]; exact r3 _ _ hj
    · cases hj
  have hsz := har.size
  have agg : ∀ s, f + s ≤ el.cells.size → ∃ c2, (loadCells ⟨b, d + i * (q % 64) + f, none⟩ s).run P w = .ok c2 w ∧ AR ρ (el.cells.extract f (f + s)) c2 := fun s hs => by
    have hl : ((realD Env.σ el).cells.extract f (f + s)).toList.length = s := by simp; omega
    have := run_loadCells_list (P := P) w ⟨b, d + i * (q % 64) + f, none⟩ ((realD Env.σ el).cells.extract f (f + s)).toList (fun j v hj => by
      rw [Addr.add_lit]
      refine cell_of_row r1 ?_
      rw [Array.getElem?_toList] at hj
      obtain ⟨hj1, hj2⟩ := Array.getElem?_eq_some_iff.1 hj
      rw [Array.getElem_extract] at hj2
      rw [Nat.add_assoc]
      refine hcs (f + j) v (Array.getElem?_eq_some_iff.2 ⟨by simp at hj1; omega, hj2⟩))
    rw [hl] at this
    exact ⟨_, this, har.extract f (f + s)⟩
  split at hv
  · rename_i inf fs hinf hu
    split at hv
    · rename_i hk
      injection hv with hv; subst hv
      obtain ⟨c2, h1, h2⟩ := agg _ hk
      exact ⟨.agg c2, by simp [Instr.loadAt, Instr.sureAddr, loadVar, isAgg, run_underlying hu, run_size hinf, h1], .agg _ _ h2.size h2.get⟩
    · cases hv
  · rename_i inf len elt hinf hu
    split at hv
    · rename_i hk
      injection hv with hv; subst hv
      obtain ⟨c2, h1, h2⟩ := agg _ hk
      exact ⟨.agg c2, by simp [Instr.loadAt, Instr.sureAddr, loadVar, isAgg, run_underlying hu, run_size hinf, h1], .agg _ _ h2.size h2.get⟩
    · cases hv
  · rename_i inf du hn1 hn2 hinf hu
    obtain ⟨v', a1, a2⟩ := har.get? hv
    refine ⟨v', ?_, a2⟩
    have hcell := cell_of_row r1 (hcs f v' a1)
    cases du <;> first | exact (hn1 _ rfl).elim | exact (hn2 _ _ rfl).elim | simp [Instr.loadAt, Instr.sureAddr, loadVar, isAgg, run_underlying hu, load, Sem.run, hcell]
  · cases hv
/-- what lies in the base world -/
noncomputable def tabD (t : TypeId) (x : Value) : Option Value :=
  match findD t x Env.lods with
  | some r => if tabV x then some r else none
  | none => none
theorem tabD_run {P : Program} (hP : P = Env.prog) {w0 : Base} {w : World} {ρ : Nm} {m : Mini} (hw : WR P w0 ρ m w) {t : TypeId} {x x' v : Value} (hx : VR ρ x x') (h : tabD t x = some v) : ∃ v', (Instr.loadAt t x').run P w = .ok v' w ∧ VR ρ v v' := by
  unfold tabD at h
  split at h
  · rename_i r hr
    split at h
    · rename_i ht
      injection h with h; subst h
      obtain ⟨h1, h2⟩ := Env.okLd _ _ _ (findD_spec _ hr)
      rw [hx.tab ht]
      refine ⟨_, ?_, real_rel r h1⟩
      have := h2 w hw.baseBelow
      rw [hP]; exact this
    · cases h
  · cases h
noncomputable def isSliceT (P : Program) (u : TypeId) : Bool :=
  match P.underlying u with
  | some (.slice _) => true
  | _ => false
/-- what is appended may be of another type, if it is a slice -/
theorem append_types {P : Program} {t u ty el : TypeId} (ht : P.underlying t = some (.slice el)) (hu : isSliceT P u = true) (args : Array Value) (w : World) : (Builtin.append_ #[t, u] ty args).run P w = (Builtin.append_ #[t, t] ty args).run P w := by
  unfold isSliceT at hu
  split at hu
  · rename_i el2 hu2
    unfold Builtin.append_
    simp only [List.getElem?_toArray, List.getElem?_cons_zero, List.getElem?_cons_succ]
    cases h0 : args[0]? with
    | none => simp [h0]
    | some s => cases h1 : args[1]? with
      | none => simp [h0, h1]
      | some x =>
        simp only [Sem.run_bind, run_underlying ht, Result.andThen_ok]
        cases s <;> first | rfl | simp only [Sem.run_bind, run_underlying ht, run_underlying hu2, Result.andThen_ok, Sem.run_pure]
  · cases hu
noncomputable def opM (P : Program) (a : MA) (m : Mini) (o : Oper) : Option (Value × Mini) :=
  match o.op with
  | .alloc t => match zeroM P t with
    | some z => m.box t z
    | none => none
  | .box t x => match evalM a x with
    | some v => m.box t v
    | none => none
  | .buildSlice t len ps => match partsM a ps.toList with
    | some vs => m.slice P t len vs
    | none => none
  | .load t x => match evalM a x with
    | some (.pointer (some ⟨n, f, none⟩)) => match m.loadV P t n f with
      | some v => some (v, m)
      | none => none
    | some (.pointer (some ⟨n, f, some q⟩)) => match m.loadE P t n f q with
      | some v => some (v, m)
      | none => none
    | some (.chan (some k)) => match tabD t (.chan (some k)) with
      | some v => some (v, m)
      | none => none
    | _ => none
  | .store t x y => match evalM a x, evalM a y with
    | some (.pointer (some ad)), some v => if ad.spot.isSome then none else match m.storeV P t ad.block ad.off v with
      | some m' => some (undef, m')
      | none => none
    | _, _ => none
  | .makeMap t none => m.makeM
  | .makeMap t (some x) => match evalM a x with
    | some u => if hintM P t u = true then m.makeM else none
    | none => none
  | .makeSlice t l c => match evalM a l, evalM a c with
    | some u, some v => m.makeS P t u v
    | _, _ => none
  | .lookup t x k ok => match evalM a x, evalM a k with
    | some u, some v => match m.look P t u v ok with
      | some r => some (r, m)
      | none => none
    | _, _ => none
  | .mapUpdate t x k y => match evalM a x, evalM a k, evalM a y with
    | some u, some v, some z => match m.mset P t u v z with
      | some m' => some (undef, m')
      | none => none
    | _, _, _ => none
  | .insert t x k y => match evalM a x, evalM a k, evalM a y with
    | some u, some v, some z => match m.mset P t u v z with
      | some m' => some (undef, m')
      | none => none
    | _, _, _ => none
  | .call c => match c.callee, c.args.toList, c.argTypes.toList with
    | .builtin .append, [x, y], [t, u] => match evalM a x, evalM a y with
      | some v, some z => if t = u then appendM P m t v z else if isSliceT P u = true then appendM P m t v z else none
      | _, _ => none
    | .builtin .delete, [x, y], [t, _] => match evalM a x, evalM a y with
      | some v, some z => match m.mdel P t v z with
        | some m' => some (.tuple #[], m')
        | none => none
      | _, _ => none
    | .builtin .len, [x], [t] => match evalM a x with
      | some (.map (some n)) => match P.underlying t, m.mapAt n with
        | some (.map _ _), some (es, _) => some (goInt es.size, m)
        | _, _ => none
      | _ => (opF P a o).map (·, m)
    | _, _, _ => (opF P a o).map (·, m)
  | _ => (opF P a o).map (·, m)
theorem opF_done {P : Program} (hP : P = Env.prog) {w0 : Base} {w : World} {ρ : Nm} {a : MA} {a' : Act} {m m' : Mini} {o : Oper} {v : Value} (h : ActR ρ a a') (hw : WR P w0 ρ m w) (hv : (opF P a o).map (·, m) = some (v, m')) : DoneN P w0 ρ (execOp a'.eval o) w v m' := by
  rw [Option.map_eq_some_iff] at hv
  obtain ⟨u, hu, e⟩ := hv
  injection e with e1 e2; subst e1 e2
  obtain ⟨v', h1, h2⟩ := opF_run hP h hu
  exact ⟨ρ, .value v', v', w, Ext.refl _, h1 w, .inl rfl, h2, hw⟩
theorem opM_done {P : Program} (hP : P = Env.prog) {w0 : Base} {w : World} {ρ : Nm} {a : MA} {a' : Act} {m m' : Mini} {o : Oper} {v : Value} (h : ActR ρ a a') (hw : WR P w0 ρ m w) (hv : opM P a m o = some (v, m')) : DoneN P w0 ρ (execOp a'.eval o) w v m' := by
  have hov := hv
  obtain ⟨dst, op, type, pos, after, guard⟩ := o
  unfold opM at hv
  dsimp only at hv
  split at hv
  · rename_i t
    split at hv
    · rename_i z hz; exact (hw.alloc hz hv).next
    · cases hv
  · rename_i t x
    split at hv
    · rename_i u hu; exact (hw.box (evalM_spec h hu).1 hv).next
    · cases hv
  · rename_i t len ps
    split at hv
    · rename_i vs hvs; exact (hw.slice (parts_pr h hvs) hv).next
    · cases hv
  · rename_i t x
    split at hv
    · rename_i n f hx
      split at hv
      · rename_i u hu
        injection hv with hv; injection hv with e1 e2; subst e1 e2
        obtain ⟨b, d, e, h1, h2, h3⟩ := (evalM_spec h hx).1.ptr_inv rfl
        obtain ⟨v', r1, r2⟩ := hw.loadV h2 hu
        refine ⟨ρ, .value v', v', w, Ext.refl _, ?_, .inl rfl, r2, hw⟩
        simp only [execOp, Instr.loadAt, h3, Instr.sureAddr, Sem.run_bind, Sem.run_pure, Result.andThen_ok, r1]
      · cases hv
    · rename_i n f q hx
      split at hv
      · rename_i u hu
        injection hv with hv; injection hv with e1 e2; subst e1 e2
        obtain ⟨v', r1, r2⟩ := hw.loadE (evalM_spec h hx).1 hu
        exact ⟨ρ, .value v', v', w, Ext.refl _, by simp only [execOp, Sem.run_bind, r1, Sem.run_pure, Result.andThen_ok], .inl rfl, r2, hw⟩
      · cases hv
    · rename_i k hx
      split at hv
      · rename_i u hu
        injection hv with hv; injection hv with e1 e2; subst e1 e2
        obtain ⟨v', r1, r2⟩ := tabD_run hP hw (evalM_spec h hx).1 hu
        exact ⟨ρ, .value v', v', w, Ext.refl _, by simp only [execOp, Sem.run_bind, r1, Sem.run_pure, Result.andThen_ok], .inl rfl, r2, hw⟩
      · cases hv
    · cases hv
  · rename_i t x y
    split at hv
    · rename_i ad u hx hy
      split at hv
      · cases hv
      rename_i hsp
      split at hv
      · rename_i m1 hm1
        injection hv with hv; injection hv with e1 e2; subst e1 e2
        obtain ⟨b, d, e, h1, h2, h3⟩ := (evalM_spec h hx).1.ptr_inv (by simpa using hsp)
        obtain ⟨w', r1, r2⟩ := hw.storeV h2 hm1 (evalM_spec h hy).1
        refine DoneN.unit ?_ r2
        simp only [Instr.storeAt, h3, Instr.sureAddr, Sem.run_bind, Sem.run_pure, Result.andThen_ok, r1]
      · cases hv
    · cases hv
  · exact (hw.makeM hv).next
  · rename_i t x
    split at hv
    · rename_i u hu
      split at hv
      · rename_i hh; exact (hw.makeMr (evalM_spec h hu).1 hh hv).next
      · cases hv
    · cases hv
  · rename_i t l c
    split at hv
    · rename_i u q hu hq; exact (hw.makeS (evalM_spec h hu).1 (evalM_spec h hq).1 hv).next
    · cases hv
  · rename_i t x k ok
    split at hv
    · rename_i u q hu hq
      split at hv
      · rename_i r hr
        injection hv with hv; injection hv with e1 e2; subst e1 e2
        obtain ⟨v', r1, r2⟩ := hw.look (evalM_spec h hu).1 (evalM_spec h hq).1 hr
        exact ⟨ρ, .value v', v', w, Ext.refl _, by simp only [execOp, Sem.run_bind, r1, Result.andThen_ok, Sem.run_pure], .inl rfl, r2, hw⟩
      · cases hv
    · cases hv
  · rename_i t x k y
    split at hv
    · rename_i u q z hu hq hz
      split at hv
      · rename_i m1 hm1
        injection hv with hv; injection hv with e1 e2; subst e1 e2
        obtain ⟨w', r1, r2⟩ := hw.mset (evalM_spec h hu).1 (evalM_spec h hq).1 (evalM_spec h hz).1 hm1
        exact DoneN.unit r1 r2
      · cases hv
    · cases hv
  · rename_i t x k y
    split at hv
    · rename_i u q z hu hq hz
      split at hv
      · rename_i m1 hm1
        injection hv with hv; injection hv with e1 e2; subst e1 e2
        obtain ⟨w', r1, r2⟩ := hw.mset (evalM_spec h hu).1 (evalM_spec h hq).1 (evalM_spec h hz).1 hm1
        exact DoneN.unit r1 r2
      · cases hv
    · cases hv
  · rename_i c
    split at hv
    · rename_i x y t u hcal hargs hty
      split at hv
      · rename_i q z hq hz
        split at hv
        · rename_i htu
          subst htu
          obtain ⟨callee, args, tys⟩ := c
          dsimp only at hcal hargs hty
          have e1 : args = #[x, y] := Array.ext' hargs
          have e2 : tys = #[t, t] := Array.ext' hty
          subst hcal e1 e2
          have := hw.append (ty := type) (evalM_spec h hq).1 (evalM_spec h hz).1 hv
          have h2 := this.next
          simpa [execOp, resolve, invoke, builtin] using h2
        · split at hv
          · rename_i hsl
            obtain ⟨callee, args, tys⟩ := c
            dsimp only at hcal hargs hty
            have e1 : args = #[x, y] := Array.ext' hargs
            have e2 : tys = #[t, u] := Array.ext' hty
            subst hcal e1 e2
            have hv0 := hv
            unfold appendM at hv0
            split at hv0
            case h_2 => cases hv0
            rename_i el ht
            have := hw.append (ty := type) (evalM_spec h hq).1 (evalM_spec h hz).1 hv
            have this : DoneV P w0 ρ (Builtin.append_ #[t, u] type #[a'.eval x, a'.eval y]) w v m' := by
              obtain ⟨ρ', v', w', q1, q2, q3⟩ := this
              exact ⟨ρ', v', w', q1, (append_types ht hsl _ _).trans q2, q3⟩
            have h2 := this.next
            simpa [execOp, resolve, invoke, builtin] using h2
          · cases hv
      · cases hv
    · rename_i x y t u hcal hargs hty
      split at hv
      · rename_i q z hq hz
        split at hv
        · rename_i m1 hm1
          injection hv with hv; injection hv with e1 e2; subst e1 e2
          obtain ⟨callee, args, tys⟩ := c
          dsimp only at hcal hargs hty
          have e1 : args = #[x, y] := Array.ext' hargs
          have e2 : tys = #[t, u] := Array.ext' hty
          subst hcal e1 e2
          obtain ⟨w', r1, r2⟩ := hw.mdel (u := u) (ty := type) (evalM_spec h hq).1 (evalM_spec h hz).1 hm1
          exact ⟨ρ, .value (.tuple #[]), .tuple #[], w', Ext.refl _, by simp [execOp, resolve, invoke, builtin, r1, Result.andThen], .inl rfl, .same _ rfl, r2⟩
        · cases hv
      · cases hv
    · rename_i x t hcal hargs hty
      split at hv
      · rename_i n hx
        split at hv
        · rename_i k el es cl hu hm
          injection hv with hv; injection hv with e1 e2; subst e1 e2
          obtain ⟨b, hb, h2⟩ := (evalM_spec h hx).1.map_inv
          obtain ⟨_, _, _, es', g1, g2⟩ := hw.mapRow hm hb
          obtain ⟨callee, args, tys⟩ := c
          dsimp only at hcal hargs hty
          have e1 : args = #[x] := Array.ext' hargs
          have e2 : tys = #[t] := Array.ext' hty
          subst hcal e1 e2
          refine ⟨ρ, .value (goInt es.size), goInt es.size, w, Ext.refl _, ?_, .inl rfl, .same _ rfl, hw⟩
          simp [execOp, resolve, invoke, builtin, Builtin.len_, h2, run_underlying hu, getObj_map g1, g2.1]
        · cases hv
      · exact opF_done hP h hw hv
    · exact opF_done hP h hw hv
  · exact opF_done hP h hw hv

/-! ### Calls -/
/-- no fence, but for the round's frame -/
noncomputable def WF (r : Option Nat) : Fence := { Fence.wide with round := r }
theorem WF.room (r : Option Nat) (n : Nat) : (WF r).room n := fun d h => (by cases h)
theorem WF.calls {P : Program} {r : Option Nat} {g : FuncId} {args : Array Value} {w : World} {R : Ending → World → Prop} (h : Calls P g args w R) : CallsIn (WF r) 0 P g args w R := (callsIn_wide (n := 0)).2 h
noncomputable def CallF := Fn → Array Value → Mini → Option (Value × Mini)
/-- what comes back -/
noncomputable def Back (P : Program) (w0 : Base) (ρ : Nm) (v : Value) (m' : Mini) (e : Ending) (w' : World) : Prop := ∃ ρ' v', e = .returned v' ∧ Ext ρ ρ' ∧ VR ρ' v v' ∧ WR P w0 ρ' m' w'
structure CallS (P : Program) (call : CallF) : Prop where
  prog : P = Env.prog
  fn : ∀ g args m v m', call (.func g) args m = some (v, m') → ∀ w0 ρ args' w, AR ρ args args' → WR P w0 ρ m w → Calls P g args' w (Back P w0 ρ v m')
  yield : ∀ l args m v m', call (.yield l) args m = some (v, m') → ∀ w0 ρ args' w b, ρ l = some (b, 0, 0) → AR ρ args args' → WR P w0 ρ m w →
    ∃ f tmps assign body, (Instr.yield b args').run P w = .ok (.round b f tmps assign body) w ∧ RoundIn Fence.wide 0 P b f tmps assign body w (Back P w0 ρ v m')
noncomputable def canEnter (P : Program) (g : FuncId) : Bool :=
  match P.funcs[g]? with
  | some fn => fn.body.isSome && fn.name != "runtime.NumGoroutine"
  | none => false
theorem run_callFunc {P : Program} {g : FuncId} (hcan : canEnter P g = true) (args : Array Value) (w : World) : (callFunc g args).run P w = .ok (.enter g args) w := by
  have hb : ∃ fn, P.funcs[g]? = some fn ∧ fn.body.isSome = true ∧ (fn.name != "runtime.NumGoroutine") = true := by
    unfold canEnter at hcan
    split at hcan
    · rename_i fn hfn; rw [Bool.and_eq_true] at hcan; exact ⟨fn, hfn, hcan.1, hcan.2⟩
    · cases hcan
  obtain ⟨fn, hfn, hbody, hname⟩ := hb
  have hbn : fn.body.isNone = false := by cases hq : fn.body <;> simp [hq] at hbody ⊢
  simp only [callFunc]
  simp at hname
  simp [program, Sem.run, hfn, hname, hbn]
  intro hnb; rw [hnb] at hbody; cases hbody
noncomputable def evOp (P : Program) (call : CallF) (a : MA) (m : Mini) (o : Oper) : Option (Value × Mini) :=
  match o.op with
  | .call c => match c.callee with
    | .value f => match evalM a f, argsM a c.args.toList with
      | some (.func (.func g) first cap), some vs => if canEnter P g then call (.func g) (first ++ vs.toArray ++ cap) m else none
      | some (.func (.yield l) first cap), some vs => if first.isEmpty && cap.isEmpty then call (.yield l) vs.toArray m else none
      | _, _ => none
    | _ => opM P a m o
  | _ => opM P a m o
/-- what an operation of the program does: it is carried out, or it calls, or it asks for a round -/
noncomputable def SemOK (P : Program) (w0 : Base) (ρ : Nm) (s : Sem Next) (w : World) (v : Value) (m' : Mini) : Prop :=
  DoneN P w0 ρ s w v m' ∨ (∃ g args, s.run P w = .ok (.enter g args) w ∧ Calls P g args w (Back P w0 ρ v m')) ∨
  ∃ b f tmps assign body, s.run P w = .ok (.round b f tmps assign body) w ∧ RoundIn Fence.wide 0 P b f tmps assign body w (Back P w0 ρ v m')
theorem semAt_run {P : Program} {r : Option Nat} {ρ : Operand → Value} {o : Oper} {w w' : World} {nx : Next} (h : (execOp ρ o).run P w = .ok nx w') (hn : ∀ d, nx ≠ .defer d) : (o.semAt r ρ).run P w = .ok nx w' := by
  rw [Oper.semAt_eq]
  · exact h
  · intro c hc
    rw [execOp, hc] at h
    simp only [Sem.run_bind] at h
    cases hr : (resolve ρ c o.type).run P w with
    | ok d w1 => rw [hr] at h; simp only [Result.andThen_ok, Sem.run_pure] at h; injection h with h1 h2; exact hn _ h1.symm
    | halt x w1 => rw [hr] at h; simp only [Result.andThen] at h; cases h
theorem SemOK.wp {P : Program} {w0 : Base} {w : World} {ρ : Nm} {r : Option Nat} {a' : Act} {o : Oper} {v : Value} {m' : Mini} {K : Act → World → Prop} {Q : Exit → Act → World → Prop} (h : SemOK P w0 ρ (execOp a'.eval o) w v m')
    (hK : ∀ ρ' v' w', Ext ρ ρ' → VR ρ' v v' → WR P w0 ρ' m' w' → K (a'.put o.dst v') w') : o.wpIn (WF r) 0 P a' w K Q := by
  refine ⟨fun _ _ => trivial, ?_⟩
  rcases h with ⟨ρ', nx, v', w', h1, h2, h3, h4, h5⟩ | ⟨g, args, h1, h2⟩ | ⟨b, f, tmps, assign, body, h1, h2⟩
  · rcases h3 with rfl | ⟨rfl, rfl⟩
    · rw [semAt_run h2 (by intro d hd; cases hd)]; exact hK ρ' v' w' h1 h4 h5
    · rw [semAt_run h2 (by intro d hd; cases hd)]; exact hK ρ' undef w' h1 h4 h5
  · rw [semAt_run h1 (by intro d hd; cases hd)]
    refine ⟨fun h => (by cases h), WF.calls (h2.mono ?_)⟩
    rintro e w' ⟨ρ', v', rfl, q1, q2, q3⟩
    exact hK ρ' v' w' q1 q2 q3
  · rw [semAt_run h1 (by intro d hd; cases hd)]
    refine ⟨fun h => (by cases h), RoundIn.mono (F := WF r) h2 ?_⟩
    rintro e w' ⟨ρ', v', rfl, q1, q2, q3⟩
    exact hK ρ' v' w' q1 q2 q3
theorem VR.yield_inv {ρ : Nm} {l : Nat} {xs ys : Array Value} {v' : Value} (h : VR ρ (.func (.yield l) xs ys) v') : ∃ b, ρ l = some (b, 0, 0) ∧ xs = #[] ∧ ys = #[] ∧ v' = .func (.yield b) #[] #[] := by
  cases h with
  | same _ h => simp [pureV, noLoop] at h
  | yield n b h => exact ⟨b, h, rfl, rfl, rfl⟩
  | func fn hn => simp [noLoop] at hn
theorem evOp_sem {P : Program} {call : CallF} (hcall : CallS P call) {w0 : Base} {w : World} {ρ : Nm} {a : MA} {a' : Act} {m m' : Mini} {o : Oper} {v : Value} (h : ActR ρ a a') (hw : WR P w0 ρ m w) (hv : evOp P call a m o = some (v, m')) : SemOK P w0 ρ (execOp a'.eval o) w v m' := by
  have hov := hv
  unfold evOp at hv
  split at hv
  · rename_i c hop
    split at hv
    · rename_i f hcal
      split at hv
      · rename_i g first cap vs hf hargs
        split at hv
        · rename_i hcan
          obtain ⟨f', ys, us, h1, h2, h3, h4⟩ := (evalM_spec h hf).1.func_inv
          have := h4 rfl; subst this
          have har := args_ar h hargs
          have hrun : (execOp a'.eval o).run P w = .ok (.enter g (ys ++ c.args.map a'.eval ++ us)) w := by
            simp only [execOp, hop, resolve, hcal, h1, Deferred.ofValue, Sem.run_bind, Sem.run_pure, Result.andThen_ok, invoke]
            exact run_callFunc hcan _ w
          exact .inr (.inl ⟨g, _, hrun, hcall.fn g _ m v m' hv w0 ρ _ w ((h2.append har).append h3) hw⟩)
        · cases hv
      · rename_i l first cap vs hf hargs
        split at hv
        · obtain ⟨b, h1, h2, h3, h4⟩ := (evalM_spec h hf).1.yield_inv
          have har := args_ar h hargs
          obtain ⟨f1, tmps, assign, body, hy, hr⟩ := hcall.yield l _ m v m' hv w0 ρ _ w b h1 har hw
          refine .inr (.inr ⟨b, f1, tmps, assign, body, ?_, hr⟩)
          simp only [execOp, hop, resolve, hcal, h4, Deferred.ofValue, Sem.run_bind, Sem.run_pure, Result.andThen_ok, invoke]
          simpa using hy
        · cases hv
      · cases hv
    · exact .inl (opM_done hcall.prog h hw hv)
  · exact .inl (opM_done hcall.prog h hw hv)

/-! ### What an operation looks at -/
noncomputable def Alike (a b : MA) (o : Oper) : Prop := ∀ x ∈ o.op.operands, evalM a x = evalM b x
theorem evalF_of {a b : MA} {x : Operand} (h : evalM a x = evalM b x) : evalF a x = evalF b x := by
  cases x with
  | tmp t => simpa [evalM, evalF] using h
  | _ => rfl
theorem argsM_congr {a b : MA} : ∀ (l : List Operand), (∀ x ∈ l, evalM a x = evalM b x) → argsM a l = argsM b l
  | [], _ => rfl
  | x :: l, h => by simp only [argsM, h x (List.mem_cons_self ..), argsM_congr l (fun y hy => h y (List.mem_cons_of_mem _ hy))]
theorem partsM_congr {a b : MA} : ∀ (l : List (Nat × Operand)), (∀ x ∈ l.map (·.2), evalM a x = evalM b x) → partsM a l = partsM b l
  | [], _ => rfl
  | (i, x) :: l, h => by simp only [partsM, h x (by simp), partsM_congr l (fun y hy => h y (by simp at hy ⊢; exact .inr hy))]
theorem optM_congr {a b : MA} (x : Option Operand) (h : ∀ y ∈ x.toArray, evalM a y = evalM b y) : optM a x = optM b x := by
  cases x with
  | none => rfl
  | some y => simp only [optM, h y (by simp)]
theorem pureOp_congr {P : Program} {a b : MA} {o : Oper} (h : Alike a b o) : pureOp P a o = pureOp P b o := by
  unfold pureOp
  split
  · rfl
  · rename_i hns
    have h1 : (o.op.operands.toList.all fun x => pureO (evalM a x)) = (o.op.operands.toList.all fun x => pureO (evalM b x)) := by
      rw [Bool.eq_iff_iff, List.all_eq_true, List.all_eq_true]
      exact ⟨fun hh x hx => by rw [← h x (by simpa using hx)]; exact hh x hx, fun hh x hx => by rw [h x (by simpa using hx)]; exact hh x hx⟩
    have h2 : execOp (evalF a) o = execOp (evalF b) o := execOp_congr o (fun cs b e => hns cs b e) (fun x hx => evalF_of (h x hx))
    rw [h1, h2]
theorem opF_congr {P : Program} {a b : MA} {o : Oper} (h : Alike a b o) : opF P a o = opF P b o := by
  have hp := pureOp_congr (P := P) h
  obtain ⟨dst, op, type, pos, after, guard⟩ := o
  unfold Alike at h
  unfold opF
  cases op <;> simp only [Op.operands] at h ⊢ <;> try exact hp
  case move x => exact h x (by simp)
  case assign x => exact h x (by simp)
  case pick c x y => rw [h c (by simp), h x (by simp), h y (by simp)]
  case build t ps => rw [partsM_congr ps.toList (fun x hx => h x (by simpa using hx))]
  case nilCheck x => rw [h x (by simp)]
  case field t x f => rw [h x (by simp)]
  case index t x i => rw [h x (by simp), h i (by simp), hp]
  case extract x i => rw [h x (by simp)]
  case fieldAddr t x f => rw [h x (by simp)]
  case indexAddr t x i => rw [h x (by simp), h i (by simp)]
  case slice t x lo hi mx => rw [h x (by simp), optM_congr lo (fun y hy => h y (by simp only [Array.mem_append]; exact .inl (.inl (.inr hy)))), optM_congr hi (fun y hy => h y (by simp only [Array.mem_append]; exact .inl (.inr hy))), optM_congr mx (fun y hy => h y (by simp only [Array.mem_append]; exact .inr hy))]
  case makeFunc fn first cap => rw [argsM_congr first.toList (fun y hy => h y (by simp only [Array.mem_append]; exact .inl (by simpa using hy))), argsM_congr cap.toList (fun y hy => h y (by simp only [Array.mem_append]; exact .inr (by simpa using hy)))]
  case binOp op t x y yt => rw [h x (by simp), h y (by simp), hp]
  case unOp op t x => rw [h x (by simp), hp]
  case convert s t x => rw [h x (by simp), hp]
  case call c =>
    split
    · rename_i x y hcal hargs
      have hm : ∀ z ∈ [x, y], z ∈ c.operands := fun z hz => by
        simp only [Call.operands, Array.mem_append]; exact .inr (by rw [← Array.mem_toList_iff, hargs]; exact hz)
      rw [h x (hm x (by simp)), h y (hm y (by simp)), hp]
    · rename_i x y hcal hargs
      have hm : ∀ z ∈ [x, y], z ∈ c.operands := fun z hz => by
        simp only [Call.operands, Array.mem_append]; exact .inr (by rw [← Array.mem_toList_iff, hargs]; exact hz)
      rw [h x (hm x (by simp)), h y (hm y (by simp)), hp]
    · rename_i x t hcal hargs hty
      rw [h x (by simp only [Call.operands, Array.mem_append]; exact .inr (by rw [← Array.mem_toList_iff, hargs]; simp)), hp]
    · exact hp
theorem opM_congr {P : Program} {a b : MA} {m : Mini} {o : Oper} (h : Alike a b o) : opM P a m o = opM P b m o := by
  have hp := opF_congr (P := P) h
  obtain ⟨dst, op, type, pos, after, guard⟩ := o
  unfold Alike at h
  unfold opM
  cases op <;> simp only [Op.operands] at h ⊢ <;> try rw [hp]
  case box t x => rw [h x (by simp)]
  case buildSlice t n ps => rw [partsM_congr ps.toList (fun x hx => h x (by simpa using hx))]
  case load t x => rw [h x (by simp)]
  case store t x y => rw [h x (by simp), h y (by simp)]
  case makeMap t r =>
    cases r with
    | none => simp only [hp]
    | some x => simp only [h x (by simp [Op.operands])]
  case makeSlice t x y => rw [h x (by simp), h y (by simp)]
  case lookup t x y ok => rw [h x (by simp), h y (by simp)]
  case mapUpdate t x k y => rw [h x (by simp), h k (by simp), h y (by simp)]
  case insert t x k y => rw [h x (by simp), h k (by simp), h y (by simp)]
  case call c =>
    split
    · rename_i x y t u hcal hargs hty
      have hm : ∀ z ∈ [x, y], z ∈ c.operands := fun z hz => by
        simp only [Call.operands, Array.mem_append]; exact .inr (by rw [← Array.mem_toList_iff, hargs]; exact hz)
      rw [h x (hm x (by simp)), h y (hm y (by simp))]
    · rename_i x y t u hcal hargs hty
      have hm : ∀ z ∈ [x, y], z ∈ c.operands := fun z hz => by
        simp only [Call.operands, Array.mem_append]; exact .inr (by rw [← Array.mem_toList_iff, hargs]; exact hz)
      rw [h x (hm x (by simp)), h y (hm y (by simp))]
    · rename_i x t hcal hargs hty
      rw [h x (by simp only [Call.operands, Array.mem_append]; exact .inr (by rw [← Array.mem_toList_iff, hargs]; simp))]
    · rfl
theorem evOp_congr {P : Program} {call : CallF} {a b : MA} {m : Mini} {o : Oper} (h : Alike a b o) : evOp P call a m o = evOp P call b m o := by
  have hp := opM_congr (P := P) (m := m) h
  unfold evOp
  unfold Alike at h
  split
  · rename_i c hop
    rw [hop] at h
    simp only [Op.operands] at h
    split
    · rename_i f hcal
      rw [h f (by simp [Call.operands, hcal]), argsM_congr c.args.toList (fun y hy => h y (by simp only [Call.operands, Array.mem_append]; exact .inr (by simpa using hy)))]
    · exact hp
  · exact hp
end Go.Proofs.Ytaneipjpagbmpaa
