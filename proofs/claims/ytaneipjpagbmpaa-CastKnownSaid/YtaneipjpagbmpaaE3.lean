/-
  The small machine's operations on values and on memory, each against the model's own.
-/
import Derived.Test.YtaneipjpagbmpaaE2
namespace Go.Proofs.Ytaneipjpagbmpaa
open Go.RowKit
set_option linter.unusedVariables false
set_option linter.unusedSimpArgs false
set_option linter.unusedSectionVars false
variable [Env]

/-! ### What asks nothing of the world -/
noncomputable def evPure {α : Type} (P : Program) : Sem α → Option α
  | .pure a => some a
  | .program k => evPure P (k P)
  | .mark _ k => evPure P k
  | _ => none
theorem evPure_run {α : Type} {P : Program} {x : α} : ∀ (s : Sem α), evPure P s = some x → ∀ w, s.run P w = .ok x w := by
  intro s
  induction s with
  | pure a => intro h w; simp only [evPure, Option.some.injEq] at h; subst h; rfl
  | program k ih => intro h w; simp only [evPure] at h; simp only [Sem.run]; exact ih P h w
  | mark m k ih => intro h w; simp only [evPure] at h; simp only [Sem.run]; exact ih h w
  | _ => intro h w; simp [evPure] at h

noncomputable def DoneV (P : Program) (w0 : Base) (ρ : Nm) (s : Sem Value) (w : World) (v : Value) (m' : Mini) : Prop :=
  ∃ ρ' v' w', Ext ρ ρ' ∧ s.run P w = .ok v' w' ∧ VR ρ' v v' ∧ WR P w0 ρ' m' w'
theorem DoneV.here {P : Program} {w0 : Base} {w : World} {ρ : Nm} {m : Mini} {s : Sem Value} {v v' : Value} (h : WR P w0 ρ m w) (hs : s.run P w = .ok v' w) (hv : VR ρ v v') : DoneV P w0 ρ s w v m :=
  ⟨ρ, v', w, Ext.refl _, hs, hv, h⟩

/-! ### Boxes -/
noncomputable def Mini.box (m : Mini) (t : TypeId) (v : Value) : Option (Value × Mini) :=
  if isAny v then none else forceA v.cells fun c => match m.new (.cells c t) with
  | some (n, m') => some (.pointer (some ⟨n, 0, none⟩), m')
  | none => none
theorem OR.fresh {P : Program} {ρ : Nm} {c c' : Array Value} (t : TypeId) (h : AR ρ c c') : OR P ρ (.cells c t) 0 0 (some (.cells c' t)) :=
  Or.inl ⟨rfl, c', rfl, by rw [h.size]; omega, fun i v hv => by rw [Nat.zero_add]; exact h.get? hv⟩
theorem WR.box {P : Program} {w0 : Base} {w : World} {ρ : Nm} {m m' : Mini} (h : WR P w0 ρ m w) {t : TypeId} {u u' v : Value} (hu : VR ρ u u') (hm : m.box t u = some (v, m')) : DoneV P w0 ρ (Instr.box t u') w v m' := by
  unfold Mini.box at hm
  split at hm
  · cases hm
  rename_i hna
  rw [forceA_eq] at hm
  split at hm
  · rename_i n m1 hn
    injection hm with hm; injection hm with hm1 hm2; subst hm1 hm2
    obtain ⟨ρ', h1, h2, h3⟩ := h.new hn (OR.fresh t (hu.cells (by simpa using hna)))
    refine ⟨ρ', .pointer (some ⟨w.heap.size, 0, none⟩), _, h1, ?_, ?_, h3⟩
    · simp [Instr.box, newVar, newRow, newObj, Sem.run]
    · have := VR.ptr (ρ := ρ') n 0 _ _ _ h2; simpa using this
  · cases hm
noncomputable def zeroM (P : Program) (t : TypeId) : Option Value :=
  match P.info? t with
  | some i => match i.zero with
    | some z => if pureV z then some z else none
    | none => none
  | none => none
theorem zeroM_spec {P : Program} {t : TypeId} {z : Value} (h : zeroM P t = some z) : (∀ w, (zeroValue t).run P w = .ok z w) ∧ pureV z = true ∧ ∃ i, P.info? t = some i ∧ i.zero = some z := by
  unfold zeroM at h
  split at h
  · rename_i i hi
    split at h
    · rename_i z' hz
      split at h
      · rename_i hp
        injection h with h; subst h
        exact ⟨fun w => by simp [zeroValue, run_info hi, hz], hp, i, hi, hz⟩
      · cases h
    · cases h
  · cases h
theorem WR.alloc {P : Program} {w0 : Base} {w : World} {ρ : Nm} {m m' : Mini} (h : WR P w0 ρ m w) {t : TypeId} {z v : Value} (hz : zeroM P t = some z) (hm : m.box t z = some (v, m')) : DoneV P w0 ρ (Instr.alloc t true (.tuple #[])) w v m' := by
  obtain ⟨h1, h2, _⟩ := zeroM_spec hz
  obtain ⟨ρ', v', w', a, b, c, d⟩ := h.box (.same z h2) hm
  refine ⟨ρ', v', w', a, ?_, c, d⟩
  simp only [Instr.alloc, Sem.run_bind, h1, Result.andThen_ok]
  exact b

/-! ### Parts of structs and arrays -/
noncomputable def partM (P : Program) (t : TypeId) (cs : Array Value) (off : Nat) : Option Value :=
  match P.info? t, P.underlying t with
  | some i, some (.struct _) => some (.agg (cs.extract off (off + i.size)))
  | some i, some (.array _ _) => some (.agg (cs.extract off (off + i.size)))
  | some _, some _ => cs[off]?
  | _, _ => none
theorem part_run {P : Program} {ρ : Nm} {t : TypeId} {cs cs' : Array Value} {off : Nat} {v : Value} (h : AR ρ cs cs') (hv : partM P t cs off = some v) : ∃ v', (∀ w, (part t cs' off).run P w = .ok v' w) ∧ VR ρ v v' := by
  unfold partM at hv
  split at hv
  · rename_i i fs hi hu
    injection hv with hv; subst hv
    have := h.extract off (off + i.size)
    exact ⟨_, fun w => by simp [part, isAgg, run_underlying hu, run_size hi], .agg _ _ this.size this.get⟩
  · rename_i i l el hi hu
    injection hv with hv; subst hv
    have := h.extract off (off + i.size)
    exact ⟨_, fun w => by simp [part, isAgg, run_underlying hu, run_size hi], .agg _ _ this.size this.get⟩
  · rename_i i du hn1 hn2 hi hu
    obtain ⟨v', a1, a2⟩ := h.get? hv
    refine ⟨v', fun w => ?_, a2⟩
    cases du <;> first | exact (hn1 _ rfl).elim | exact (hn2 _ _ rfl).elim | simp [part, isAgg, run_underlying hu, a1]
  · cases hv
noncomputable def fieldM (P : Program) (t : TypeId) (x : Value) (f : Nat) : Option Value :=
  match P.underlying t, x with
  | some (.struct fs), .agg cs => match fs[f]? with
    | some fd => partM P fd.type cs fd.offset
    | none => none
  | _, _ => none
theorem VR.agg_inv {ρ : Nm} {xs : Array Value} {v' : Value} (h : VR ρ (.agg xs) v') : ∃ ys, v' = .agg ys ∧ AR ρ xs ys := by
  cases h with
  | same _ h => rw [pureV] at h; exact ⟨xs, rfl, .same h⟩
  | agg _ ys h1 h2 => exact ⟨ys, rfl, h1, h2⟩
theorem VR.tuple_inv {ρ : Nm} {xs : Array Value} {v' : Value} (h : VR ρ (.tuple xs) v') : ∃ ys, v' = .tuple ys ∧ AR ρ xs ys := by
  cases h with
  | same _ h => rw [pureV] at h; exact ⟨xs, rfl, .same h⟩
  | tuple _ ys h1 h2 => exact ⟨ys, rfl, h1, h2⟩
theorem VR.ptr_inv {ρ : Nm} {a : Addr} {v' : Value} (h : VR ρ (.pointer (some a)) v') (hs : a.spot = none) : ∃ b d e, a.spot = none ∧ ρ a.block = some (b, d, e) ∧ v' = .pointer (some ⟨b, d + a.off, none⟩) := by
  cases h with
  | same _ h => simp [pureV] at h
  | ptr n o b d e h => exact ⟨b, d, e, rfl, h, rfl⟩
  | elem n f q b d e i h hi => simp at hs
theorem VR.ptr_any {ρ : Nm} {a : Addr} {v' : Value} (h : VR ρ (.pointer (some a)) v') : ∃ b d e z, ρ a.block = some (b, d, e) ∧ v' = .pointer (some ⟨b, z + a.off, none⟩) ∧ ∀ f, VR ρ (.pointer (some ⟨a.block, f, a.spot⟩)) (.pointer (some ⟨b, z + f, none⟩)) := by
  cases h with
  | same _ h => simp [pureV] at h
  | ptr n o b d e h => exact ⟨b, d, e, d, h, rfl, fun f => .ptr _ _ _ _ _ h⟩
  | elem n f q b d e i h hi => exact ⟨b, d, e, d + i * (q % 64), h, rfl, fun f => .elem _ _ _ _ _ _ _ h hi⟩
theorem VR.elem_inv {ρ : Nm} {n f q : Nat} {v' : Value} (h : VR ρ (.pointer (some ⟨n, f, some q⟩)) v') : ∃ b d e i, ρ n = some (b, d, e) ∧ idxOf Env.σ (q / 64) = some i ∧ v' = .pointer (some ⟨b, d + i * (q % 64) + f, none⟩) := by
  cases h with
  | same _ h => simp [pureV] at h
  | elem n f q b d e i h hi => exact ⟨b, d, e, i, h, hi, rfl⟩
/-- a row's slice -/
noncomputable def isRow (a : Addr) (c : Nat) : Bool := a.spot.isSome && decide (c = 1)
theorem VR.slice_any {ρ : Nm} {a : Addr} {l c : Nat} {v' : Value} (h : VR ρ (.slice (some a) l c) v') (hr : isRow a c = false) : (∃ b d e, a.spot = none ∧ ρ a.block = some (b, d, e) ∧ v' = .slice (some ⟨b, d + a.off, none⟩) l (c + e)) ∨ (l = 0 ∧ c = 0 ∧ a.spot ≠ none ∧ ∃ A k, v' = .slice (some A) 0 k) := by
  cases h with
  | same _ h => simp [pureV] at h
  | slice n o b d e l c h => exact .inl ⟨b, d, e, rfl, h, rfl⟩
  | hollow n o q A k => exact .inr ⟨rfl, rfl, by simp, A, k, rfl⟩
  | row n L b d e h => simp [isRow] at hr
  | rnil n L h => simp [isRow] at hr
theorem VR.slice_long {ρ : Nm} {a : Addr} {l c : Nat} {v' : Value} (h : VR ρ (.slice (some a) l c) v') (hl : 0 < l) : ∃ b d e, a.spot = none ∧ ρ a.block = some (b, d, e) ∧ v' = .slice (some ⟨b, d + a.off, none⟩) l (c + e) := by
  cases h with
  | same _ h => simp [pureV] at h
  | slice n o b d e l c h => exact ⟨b, d, e, rfl, h, rfl⟩
  | hollow n o q A k => omega
  | row n L b d e h => omega
  | rnil n L h => omega
theorem VR.slice_inv {ρ : Nm} {a : Addr} {l c : Nat} {v' : Value} (h : VR ρ (.slice (some a) l c) v') (hs : a.spot = none) : ∃ b d e, a.spot = none ∧ ρ a.block = some (b, d, e) ∧ v' = .slice (some ⟨b, d + a.off, none⟩) l (c + e) := by
  rcases h.slice_any (by simp [isRow, hs]) with h | ⟨_, _, h, _⟩
  · exact h
  · exact absurd hs h
theorem VR.slice_form {ρ : Nm} {a : Addr} {l c : Nat} {v' : Value} (h : VR ρ (.slice (some a) l c) v') (hr : isRow a c = false) : ∃ A k, v' = .slice (some A) l k := by
  rcases h.slice_any hr with ⟨b, d, e, _, _, rfl⟩ | ⟨rfl, _, _, A, k, rfl⟩
  · exact ⟨_, _, rfl⟩
  · exact ⟨_, _, rfl⟩
theorem VR.row_inv {ρ : Nm} {n L : Nat} {v' : Value} (h : VR ρ (.slice (some ⟨n, L, some 0⟩) 0 1) v') : (∃ b d e, ρ n = some (b, d, e) ∧ v' = .slice (some ⟨b, d, none⟩) (Env.lenR L) (Env.lenR L + e)) ∨ (Env.lenR L = 0 ∧ v' = .slice none 0 0) := by
  cases h with
  | same _ h => simp [pureV] at h
  | row n L b d e h => exact .inl ⟨b, d, e, h, rfl⟩
  | rnil n L h => exact .inr ⟨h, rfl⟩
noncomputable def eqQ : Value → Value → Bool
  | .int k a, .int l b => decide (k = l) && decide (a = b)
  | .chan (some a), .chan (some b) => decide (a = b)
  | _, _ => false
theorem eqQ_sound : ∀ a b : Value, eqQ a b = true → a = b := fun a b h => by
  unfold eqQ at h
  split at h
  · simp only [Bool.and_eq_true, decide_eq_true_eq] at h; rw [h.1, h.2]
  · simp only [decide_eq_true_eq] at h; rw [h]
  · cases h
/-- a row's entry in a table of pairs -/
noncomputable def findN (L : Nat) (v : Value) : List (Nat × Value) → Bool
  | [] => false
  | (n, u) :: l => if n = L ∧ eqQ u v = true then true else findN L v l
theorem findN_spec {L : Nat} {v : Value} : ∀ (l : List (Nat × Value)), findN L v l = true → (L, v) ∈ l
  | [], h => by cases h
  | (n, u) :: l, h => by
    unfold findN at h
    split at h
    · rename_i hc; rw [← hc.1, ← eqQ_sound _ _ hc.2]; exact List.mem_cons_self ..
    · exact List.mem_cons_of_mem _ (findN_spec l h)
theorem VR.map_inv {ρ : Nm} {n : Nat} {v' : Value} (h : VR ρ (.map (some n)) v') : ∃ b, ρ n = some (b, 0, 0) ∧ v' = .map (some b) := by
  cases h with
  | same _ h => simp [pureV] at h
  | map n b h => exact ⟨b, h, rfl⟩
theorem VR.int_inv {ρ : Nm} {k : IntKind} {n : Int} {v' : Value} (h : VR ρ (.int k n) v') : v' = .int k n := h.pure rfl
theorem field_run {P : Program} {ρ : Nm} {t : TypeId} {x x' v : Value} {f : Nat} (h : VR ρ x x') (hv : fieldM P t x f = some v) : ∃ v', (∀ w, (Instr.field t x' f).run P w = .ok v' w) ∧ VR ρ v v' := by
  unfold fieldM at hv
  split at hv
  · rename_i fs cs hu
    split at hv
    · rename_i fd hfd
      obtain ⟨ys, rfl, har⟩ := h.agg_inv
      obtain ⟨v', a1, a2⟩ := part_run har hv
      exact ⟨v', fun w => by simp [Instr.field, run_underlying hu, hfd, asAgg, a1], a2⟩
    · cases hv
  · cases hv
noncomputable def indexM (P : Program) (t : TypeId) (x ix : Value) : Option Value :=
  match P.underlying t, x, ix with
  | some (.array len el), .agg cs, .int _ i => match P.info? el with
    | some inf => if 0 ≤ i ∧ i < len then partM P el cs (i.toNat * inf.size) else none
    | none => none
  | _, _, _ => none
theorem index_run {P : Program} {ρ : Nm} {t : TypeId} {x x' ix ix' v : Value} (h : VR ρ x x') (hi : VR ρ ix ix') (hv : indexM P t x ix = some v) : ∃ v', (∀ w, (Instr.index t x' ix').run P w = .ok v' w) ∧ VR ρ v v' := by
  unfold indexM at hv
  split at hv
  · rename_i len el cs k i hu
    split at hv
    · rename_i inf hinf
      split at hv
      · rename_i hb
        obtain ⟨ys, rfl, har⟩ := h.agg_inv
        have := hi.int_inv; subst this
        obtain ⟨v', a1, a2⟩ := part_run har hv
        exact ⟨v', fun w => by simp [Instr.index, asIntOf, run_underlying hu, hb, run_size hinf, a1], a2⟩
      · cases hv
    · cases hv
  · cases hv
theorem extract_run {P : Program} {ρ : Nm} {xs : Array Value} {x' v : Value} {i : Nat} (h : VR ρ (.tuple xs) x') (hv : xs[i]? = some v) : ∃ v', (∀ w, (Instr.extract x' i).run P w = .ok v' w) ∧ VR ρ v v' := by
  obtain ⟨ys, rfl, har⟩ := h.tuple_inv
  obtain ⟨v', a1, a2⟩ := har.get? hv
  exact ⟨v', fun w => by simp [Instr.extract, a1], a2⟩

/-! ### Addresses -/
noncomputable def fieldAddrM (P : Program) (t : TypeId) (x : Value) (f : Nat) : Option Value :=
  match P.underlying t, x with
  | some (.struct fs), .pointer (some a) => match fs[f]? with
    | some fd => match P.info? fd.type with
      | some i => if i.size = 0 then none else some (.pointer (some ⟨a.block, a.off + fd.offset, a.spot⟩))
      | none => none
    | none => none
  | _, _ => none
theorem fieldAddr_run {P : Program} {ρ : Nm} {t : TypeId} {x x' v : Value} {f : Nat} (h : VR ρ x x') (hv : fieldAddrM P t x f = some v) : ∃ v', (∀ w, (Instr.fieldAt t x' f).run P w = .ok v' w) ∧ VR ρ v v' := by
  unfold fieldAddrM at hv
  split at hv
  · rename_i fs a hu
    split at hv
    · rename_i fd hfd
      split at hv
      · rename_i i hi
        split at hv
        · cases hv
        · rename_i hs
          injection hv with hv; subst hv
          obtain ⟨b, d, e, z, h1, rfl, h2⟩ := h.ptr_any
          refine ⟨.pointer (some ⟨b, z + (a.off + fd.offset), none⟩), fun w => ?_, h2 _⟩
          simp [Instr.fieldAt, run_underlying hu, hfd, Instr.sureAddr, fieldPlace, run_size hi, hs, Addr.add_lit, Nat.add_assoc]
      · cases hv
    · cases hv
  · cases hv
noncomputable def rowAddrM (P : Program) (el : TypeId) (n L : Nat) (ix : Value) : Option Value :=
  match P.info? el, codeOf ix with
  | some inf, some c => if inf.size < 64 ∧ findN L ix Env.inT = true then some (.pointer (some ⟨n, 0, some (inf.size + 64 * c)⟩)) else none
  | _, _ => none
noncomputable def indexAddrM (P : Program) (t : TypeId) (x ix : Value) : Option Value :=
  match P.underlying t, x, ix with
  | some (.slice el), .slice (some ⟨n, L, some 0⟩) 0 1, ix => rowAddrM P el n L ix
  | some (.slice el), .slice (some a) len _, .int _ i => match P.info? el with
    | some inf => if 0 ≤ i ∧ i < len then some (.pointer (some ⟨a.block, a.off + i.toNat * inf.size, none⟩)) else none
    | none => none
  | some (.array len el), .pointer (some a), .int _ i => match P.info? el with
    | some inf => if (0 ≤ i ∧ i < len) ∧ a.spot.isNone = true then some (.pointer (some ⟨a.block, a.off + i.toNat * inf.size, none⟩)) else none
    | none => none
  | _, _, _ => none
theorem codeOf_spec {v : Value} {c i : Nat} (h : codeOf v = some c) (hr : realV Env.σ v = .int .i64 i) : idxOf Env.σ c = some i := by
  unfold codeOf at h
  split at h
  · injection h with h; subst h
    simp only [realV] at hr
    rename_i s
    rw [idxOf, if_neg (by omega), show 2 * s / 2 = s by omega, hr]
  · injection h with h; subst h
    rename_i k
    simp only [realV, Value.int.injEq, true_and] at hr
    rw [idxOf, if_pos (by omega), show (2 * k + 1) / 2 = k by omega]
    congr 1
    exact Int.ofNat.inj hr
  · cases h
theorem rowAddr_run {P : Program} {ρ : Nm} {t el : TypeId} {n L : Nat} {x' ix ix' v : Value} (hu : P.underlying t = some (.slice el)) (h : VR ρ (.slice (some ⟨n, L, some 0⟩) 0 1) x') (hi : VR ρ ix ix') (hv : rowAddrM P el n L ix = some v) : ∃ v', (∀ w, (Instr.indexAt t x' ix').run P w = .ok v' w) ∧ VR ρ v v' := by
  unfold rowAddrM at hv
  split at hv
  · rename_i inf c hinf hc
    split at hv
    · rename_i hq
      injection hv with hv; subst hv
      obtain ⟨i, hr, hlt⟩ := Env.okIn _ _ (findN_spec _ hq.2)
      have hix : ix' = .int .i64 i := by
        have : ix' = realV Env.σ ix := by
          cases hi with
          | sign k => rfl
          | same _ h =>
            cases ix <;> first | rfl | skip
            rename_i r; cases r <;> first | rfl | (simp [pureV] at h)
          | _ => simp [codeOf] at hc
        rw [this, hr]
      subst hix
      rcases h.row_inv with ⟨b, d, e, h1, rfl⟩ | ⟨h1, rfl⟩
      · refine ⟨.pointer (some ⟨b, d + i * ((inf.size + 64 * c) % 64) + 0, none⟩), fun w => ?_, .elem _ _ _ _ _ _ _ h1 (by rw [show (inf.size + 64 * c) / 64 = c by omega]; exact codeOf_spec hc hr)⟩
        rw [show (inf.size + 64 * c) % 64 = inf.size by omega]
        have hb : (0 : Int) ≤ i ∧ (i : Int) < (Env.lenR L : Nat) := by omega
        simp [Instr.indexAt, run_underlying hu, asIntOf, hlt, run_size hinf, Addr.add_lit]
      · omega
    · cases hv
  · cases hv
theorem indexAddr_run {P : Program} {ρ : Nm} {t : TypeId} {x x' ix ix' v : Value} (h : VR ρ x x') (hi : VR ρ ix ix') (hv : indexAddrM P t x ix = some v) : ∃ v', (∀ w, (Instr.indexAt t x' ix').run P w = .ok v' w) ∧ VR ρ v v' := by
  unfold indexAddrM at hv
  split at hv
  · rename_i el n L ix hu
    exact rowAddr_run hu h hi hv
  · rename_i el a len c k i hnot hu
    split at hv
    · rename_i inf hinf
      split at hv
      · rename_i hb
        injection hv with hv; subst hv
        obtain ⟨b, d, e, h1, h2, rfl⟩ := h.slice_long (by omega)
        have := hi.int_inv; subst this
        refine ⟨.pointer (some ⟨b, d + (a.off + i.toNat * inf.size), none⟩), fun w => ?_, .ptr _ _ _ _ _ h2⟩
        simp [Instr.indexAt, run_underlying hu, asIntOf, hb, run_size hinf, Addr.add_lit, Nat.add_assoc]
      · cases hv
    · cases hv
  · rename_i len el a k i hu
    split at hv
    · rename_i inf hinf
      split at hv
      · rename_i hb
        obtain ⟨hb, hs⟩ := hb
        injection hv with hv; subst hv
        obtain ⟨b, d, e, h1, h2, rfl⟩ := h.ptr_inv (by simpa using hs)
        have := hi.int_inv; subst this
        refine ⟨.pointer (some ⟨b, d + (a.off + i.toNat * inf.size), none⟩), fun w => ?_, .ptr _ _ _ _ _ h2⟩
        simp [Instr.indexAt, run_underlying hu, asIntOf, Instr.sureAddr, hb, run_size hinf, Addr.add_lit, Nat.add_assoc]
      · cases hv
    · cases hv
  · cases hv

/-! ### Slices of slices -/
noncomputable def boundM (o : Option Value) (least most dflt : Nat) : Option Nat :=
  match o with
  | none => some dflt
  | some (.int _ i) => if 0 ≤ i ∧ i ≤ most then some i.toNat else none
  | some _ => none
noncomputable def sliceM (P : Program) (t : TypeId) (x : Value) (lo hi mx : Option Value) : Option Value :=
  match P.underlying t, x, mx with
  | some (.slice el), .slice none 0 0, none => match P.info? el, boundM hi 0 0 0 with
    | some _, some h => match boundM lo 0 h 0 with
      | some l => if h = 0 ∧ l = 0 then some (.slice none 0 0) else none
      | none => none
    | _, _ => none
  | some (.slice el), .slice (some a) len cap, none => if isRow a cap then none else match P.info? el with
    | some inf => match boundM hi 0 cap len with
      | some h => match boundM lo 0 h 0 with
        | some l => if l < cap then some (.slice (some ⟨a.block, a.off + l * inf.size, none⟩) (h - l) (cap - l)) else if h = l then some (.slice (some ⟨a.block, a.off, some 0⟩) 0 0) else none
        | none => none
      | none => none
    | none => none
  | _, _, _ => none
inductive OV (ρ : Nm) : Option Value → Option Value → Prop
  | none : OV ρ none none
  | some (v v' : Value) (h : VR ρ v v') : OV ρ (some v) (some v')
theorem bounds_run {P : Program} {ρ : Nm} {lo lo' hi hi' : Option Value} {len cap h0 l0 : Nat} (hl : OV ρ lo lo') (hh : OV ρ hi hi') (hh0 : boundM hi 0 cap len = some h0) (hl0 : boundM lo 0 h0 0 = some l0) (ex : Nat) (w : World) : (Instr.sliceBounds true len (cap + ex) lo' hi' none).run P w = .ok (l0, h0, cap + ex) w := by
  have hhe : ∀ u, hi' = Option.some u → (Instr.sliceBound u (cap + ex) .sliceAcap).run P w = .ok h0 w := fun u hu0 => by
    cases hh with
    | none => cases hu0
    | some u0 u' hu' =>
      injection hu0 with hu0; subst hu0
      unfold boundM at hh0
      split at hh0 <;> rename_i heq
      · cases heq
      · injection heq with heq; subst heq
        have := hu'.int_inv; subst this
        split at hh0
        · rename_i hb; injection hh0 with hh0; subst hh0
          simp only [Instr.sliceBound, asIntOf, Sem.run_bind, Sem.run_pure, Result.andThen_ok]
          rw [if_pos ⟨hb.1, by omega⟩]; simp
        · cases hh0
      · cases hh0
  have hle : ∀ u, lo' = Option.some u → (Instr.sliceBound u h0 .sliceB).run P w = .ok l0 w := fun u hu0 => by
    cases hl with
    | none => cases hu0
    | some u0 u' hu' =>
      injection hu0 with hu0; subst hu0
      unfold boundM at hl0
      split at hl0 <;> rename_i heq
      · cases heq
      · injection heq with heq; subst heq
        have := hu'.int_inv; subst this
        split at hl0
        · rename_i hb; injection hl0 with hl0; subst hl0
          simp only [Instr.sliceBound, asIntOf, Sem.run_bind, Sem.run_pure, Result.andThen_ok]
          rw [if_pos hb]; simp
        · cases hl0
      · cases hl0
  have dh : hi' = none → h0 = len := fun q => by subst q; cases hh; simp [boundM] at hh0; exact hh0.symm
  have dl : lo' = none → l0 = 0 := fun q => by subst q; cases hl; simp [boundM] at hl0; exact hl0.symm
  cases hi' with
  | none =>
    have := dh rfl; subst this
    cases lo' with
    | none => have := dl rfl; subst this; simp [Instr.sliceBounds]
    | some u => simp [Instr.sliceBounds, hle u rfl]
  | some q =>
    cases lo' with
    | none => have := dl rfl; subst this; simp [Instr.sliceBounds, hhe q rfl]
    | some u => simp [Instr.sliceBounds, hle u rfl, hhe q rfl]
theorem slice_run {P : Program} {ρ : Nm} {t : TypeId} {x x' v : Value} {lo lo' hi hi' mx mx' : Option Value} (h : VR ρ x x') (hl : OV ρ lo lo') (hh : OV ρ hi hi') (hmx : OV ρ mx mx') (hv : sliceM P t x lo hi mx = some v) : ∃ v', (∀ w, (Instr.sliceAt t x' lo' hi' mx').run P w = .ok v' w) ∧ VR ρ v v' := by
  unfold sliceM at hv
  split at hv
  · rename_i el hu
    split at hv
    · rename_i inf h0 hinf hh0
      split at hv
      · rename_i l0 hl0
        split at hv
        · rename_i hz
          obtain ⟨rfl, rfl⟩ := hz
          injection hv with hv; subst hv
          cases hmx
          have := h.pure rfl; subst this
          refine ⟨.slice none 0 0, fun w => ?_, .same _ rfl⟩
          have key := bounds_run (P := P) hl hh hh0 hl0 0 w
          simp only [Nat.add_zero] at key
          simp [Instr.sliceAt, Instr.slice, run_underlying hu, key, run_size hinf]
        · cases hv
      · cases hv
    · cases hv
  · rename_i el a len cap hu
    split at hv
    · cases hv
    rename_i hrow
    have hrow : isRow a cap = false := by simpa using hrow
    split at hv
    · rename_i inf hinf
      split at hv
      · rename_i h0 hh0
        split at hv
        · rename_i l0 hl0
          cases hmx
          have key : ∀ ex w, (Instr.sliceBounds true len (cap + ex) lo' hi' none).run P w = .ok (l0, h0, cap + ex) w := fun ex w => bounds_run hl hh hh0 hl0 ex w
          split at hv
          · rename_i hlt
            injection hv with hv; subst hv
            obtain ⟨b, d, e, h1, h2, rfl⟩ := (h.slice_any hrow).resolve_right (fun hh => by have := hh.2.1; omega)
            refine ⟨.slice (some ⟨b, d + (a.off + l0 * inf.size), none⟩) (h0 - l0) (cap - l0 + e), fun w => ?_, .slice _ _ _ _ _ _ _ h2⟩
            simp only [Instr.sliceAt, Instr.slice, Sem.run_bind, run_underlying hu, Result.andThen_ok, Sem.run_pure, key, run_size hinf]
            rw [if_neg (by omega)]
            simp [Addr.add_lit, Nat.add_assoc]
            omega
          · rename_i hlt
            split at hv
            · rename_i hhl
              injection hv with hv; subst hv
              subst hhl
              obtain ⟨A, k, hxe, hcap⟩ : ∃ A k, x' = .slice (some A) len (cap + k) ∧ True := by
                rcases h.slice_any hrow with ⟨b, d, e, _, _, h3⟩ | ⟨h1, h2, _, A, k, h3⟩
                · exact ⟨_, e, h3, trivial⟩
                · exact ⟨A, k, by rw [h3, h1, h2, Nat.zero_add], trivial⟩
              subst hxe
              refine ⟨.slice (some (if cap + k = h0 then A else A.add (h0 * inf.size))) 0 (cap + k - h0), fun w => ?_, .hollow _ _ _ _ _⟩
              simp only [Instr.sliceAt, Instr.slice, Sem.run_bind, run_underlying hu, Result.andThen_ok, Sem.run_pure, key, run_size hinf, Nat.sub_self]
              by_cases he : cap + k = h0
              · rw [if_pos he, if_pos he]
              · rw [if_neg he, if_neg he]; rfl
            · cases hv
        · cases hv
      · cases hv
    · cases hv
  · cases hv
end Go.Proofs.Ytaneipjpagbmpaa
