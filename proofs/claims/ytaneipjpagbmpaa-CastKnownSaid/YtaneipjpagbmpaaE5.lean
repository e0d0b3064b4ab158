/-
  The small machine's literals, rows that are made, maps.
-/
import Derived.Test.YtaneipjpagbmpaaE4
import Derived.MapKept
namespace Go.Proofs.Ytaneipjpagbmpaa
open Go.RowKit
set_option linter.unusedVariables false
set_option linter.unusedSimpArgs false
set_option linter.unusedSectionVars false
variable [Env]

/-! ### Struct and array literals -/
inductive PR (ρ : Nm) : List (Nat × Value) → List (Nat × Value) → Prop
  | nil : PR ρ [] []
  | cons {i : Nat} {v v' : Value} {l l' : List (Nat × Value)} (h : VR ρ v v') (t : PR ρ l l') : PR ρ ((i, v) :: l) ((i, v') :: l')
theorem foldl_rel {ρ : Nm} (off : Nat) : ∀ (l l' : List Value) (k : Nat) (cs cs' : Array Value), LR ρ l l' → AR ρ cs cs' →
    AR ρ ((l.zipIdx k).foldl (fun (cs : Array Value) (c : Value × Nat) => cs.setIfInBounds (off + c.2) c.1) cs) ((l'.zipIdx k).foldl (fun (cs : Array Value) (c : Value × Nat) => cs.setIfInBounds (off + c.2) c.1) cs')
  | _, _, k, cs, cs', .nil, h => h
  | _, _, k, cs, cs', .cons hv ht, h => by
    simp only [List.zipIdx_cons, List.foldl_cons]
    exact foldl_rel off _ _ (k + 1) _ _ ht (h.set _ hv)
theorem fold_eq (off : Nat) (xs cs : Array Value) : (xs.zipIdx.foldl (fun cs (c, j) => cs.setIfInBounds (off + j) c) cs) = (xs.toList.zipIdx 0).foldl (fun (cs : Array Value) (c : Value × Nat) => cs.setIfInBounds (off + c.2) c.1) cs := by
  rw [← Array.foldl_toList, Array.toList_zipIdx]
noncomputable def noAny : List (Nat × Value) → Bool
  | [] => true
  | p :: l => !isAny p.2 && noAny l
theorem fill_rel {ρ : Nm} (place : Nat → Option (Nat × Nat)) : ∀ (l l' : List (Nat × Value)) (cs cs' r : Array Value), noAny l = true → PR ρ l l' → AR ρ cs cs' → Instr.fill place cs l = some r → ∃ r', Instr.fill place cs' l' = some r' ∧ AR ρ r r'
  | [], [], cs, cs', r, _, .nil, h, e => by
    simp only [Instr.fill, Option.some.injEq] at e ⊢
    subst e
    exact ⟨cs', rfl, h⟩
  | (i, v) :: l, (_, v') :: l', cs, cs', r, hna, .cons hv ht, h, e => by
    rw [noAny, Bool.and_eq_true] at hna
    simp only [Instr.fill] at e ⊢
    cases hp : place i with
    | none => simp only [hp] at e; cases e
    | some os =>
      obtain ⟨off, size⟩ := os
      simp only [hp] at e ⊢
      have hc := hv.cells (by simpa using hna.1)
      rw [← hc.size, ← h.size]
      by_cases hcond : v.cells.size ≠ size || off + v.cells.size > cs.size
      · rw [if_pos hcond] at e; cases e
      · rw [if_neg hcond] at e ⊢
        rw [fold_eq] at e ⊢
        exact fill_rel place l l' _ _ r hna.2 ht (foldl_rel off _ _ 0 _ _ hc.toList h) e
noncomputable def buildM (P : Program) (t : TypeId) (parts : List (Nat × Value)) : Option Value :=
  if !noAny parts then none else match zeroM P t, P.underlying t with
  | some z, some (.struct fs) => match evPure P (fs.mapM fun f => do pure (f.offset, ← sizeOf f.type)) with
    | some places => (Instr.fill (places[·]?) z.cells parts).map .agg
    | none => none
  | some z, some (.array _ el) => match P.info? el with
    | some i => (Instr.fill (fun k => some (k * i.size, i.size)) z.cells parts).map .agg
    | none => none
  | _, _ => none
theorem pure_cells {z : Value} (h : pureV z = true) : pureA z.cells = true := by
  cases z with
  | agg cs => rw [pureV] at h; exact h
  | _ => simp only [Value.cells, pureA, pureL, Bool.and_true]; exact h
theorem build_run {P : Program} {ρ : Nm} {t : TypeId} {parts : List (Nat × Value)} {parts' : Array (Nat × Value)} {v : Value} (h : PR ρ parts parts'.toList) (hv : buildM P t parts = some v) : ∃ v', (∀ w, (Instr.build t parts').run P w = .ok v' w) ∧ VR ρ v v' := by
  unfold buildM at hv
  split at hv
  · cases hv
  rename_i hna
  have hna : noAny parts = true := by simpa using hna
  split at hv
  · rename_i z fs hz hu
    obtain ⟨z1, z2, _⟩ := zeroM_spec hz
    split at hv
    · rename_i places hp
      rw [Option.map_eq_some_iff] at hv
      obtain ⟨r, hr, rfl⟩ := hv
      obtain ⟨r', f1, f2⟩ := fill_rel _ _ _ _ _ r hna h (AR.same (ρ := ρ) (pure_cells z2)) hr
      refine ⟨.agg r', fun w => ?_, .agg _ _ f2.size f2.get⟩
      simp only [Instr.build, Sem.run_bind, z1, run_underlying hu, Result.andThen_ok, evPure_run _ hp, f1]
      rfl
    · cases hv
  · rename_i z len el hz hu
    obtain ⟨z1, z2, _⟩ := zeroM_spec hz
    split at hv
    · rename_i i hi
      rw [Option.map_eq_some_iff] at hv
      obtain ⟨r, hr, rfl⟩ := hv
      obtain ⟨r', f1, f2⟩ := fill_rel _ _ _ _ _ r hna h (AR.same (ρ := ρ) (pure_cells z2)) hr
      refine ⟨.agg r', fun w => ?_, .agg _ _ f2.size f2.get⟩
      simp only [Instr.build, Sem.run_bind, z1, run_underlying hu, Result.andThen_ok, run_size hi, f1]
      rfl
    · cases hv
  · cases hv
noncomputable def zerosM (z : Value) (n : Nat) : Array Value := (Array.range n).map (z.cells[· % z.cells.size]!)
theorem zerosM_pure {z : Value} (h : pureV z = true) (n : Nat) (hs : 0 < z.cells.size) : pureA (zerosM z n) = true ∧ True := by
  refine ⟨?_, trivial⟩
  have : ∀ l : List Nat, pureL (l.map (z.cells[· % z.cells.size]!)) = true := fun l => by
    induction l with
    | nil => rfl
    | cons k l ih =>
      rw [List.map_cons, pureL, Bool.and_eq_true]
      refine ⟨?_, ih⟩
      have hk := Nat.mod_lt k hs
      rw [getElem!_pos z.cells _ hk]
      exact pureA_get (pure_cells h) _ hk
  have e : zerosM z n = ⟨(List.range n).map (z.cells[· % z.cells.size]!)⟩ := by
    apply Array.ext'
    simp [zerosM, Array.toList_range]
  rw [e, pureA]; exact this _
noncomputable def Mini.slice (P : Program) (m : Mini) (t : TypeId) (len : Nat) (parts : List (Nat × Value)) : Option (Value × Mini) :=
  match P.underlying t with
  | some (.slice el) => match P.info? el, zeroM P el with
    | some i, some z =>
      if len * i.size ≤ 16777216 ∧ 0 < z.cells.size ∧ noAny parts = true then
        match Instr.fill (fun k => some (k * i.size, i.size)) (if len * i.size = 0 then #[] else zerosM z (len * i.size)) parts with
        | some cells => forceA cells fun cells => match m.new (.cells cells el) with
          | some (n, m') => some (.slice (some ⟨n, 0, none⟩) len len, m')
          | none => none
        | none => none
      else none
    | _, _ => none
  | _ => none
theorem WR.slice {P : Program} {w0 : Base} {w : World} {ρ : Nm} {m m' : Mini} (h : WR P w0 ρ m w) {t : TypeId} {len : Nat} {parts : List (Nat × Value)} {parts' : Array (Nat × Value)} {v : Value} (hp : PR ρ parts parts'.toList) (hm : m.slice P t len parts = some (v, m')) :
    DoneV P w0 ρ (Instr.buildSlice t len parts') w v m' := by
  unfold Mini.slice at hm
  split at hm
  case h_2 => cases hm
  rename_i el hu
  split at hm
  case h_2 => cases hm
  rename_i i z hi hz
  split at hm
  case isFalse => cases hm
  rename_i hc
  split at hm
  case h_2 => cases hm
  rename_i cells hf
  rw [forceA_eq] at hm
  split at hm
  case h_2 => cases hm
  rename_i n m1 hn
  injection hm with hm; injection hm with hm1 hm2; subst hm1 hm2
  obtain ⟨z1, z2, _⟩ := zeroM_spec hz
  have hzs : pureA (if len * i.size = 0 then #[] else zerosM z (len * i.size)) = true := by
    split
    · rfl
    · exact (zerosM_pure z2 _ hc.2.1).1
  obtain ⟨r', f1, f2⟩ := fill_rel _ _ _ _ _ cells hc.2.2 hp (AR.same (ρ := ρ) hzs) hf
  obtain ⟨ρ', e1, e2, e3⟩ := h.new hn (OR.fresh el f2)
  refine ⟨ρ', .slice (some ⟨w.heap.size, 0, none⟩) len len, _, e1, ?_, ?_, e3⟩
  · have hbig : ¬ (len * i.size > 2 ^ 24) := by omega
    by_cases h0 : len * i.size = 0
    · rw [if_pos h0] at f1
      simp only [Instr.buildSlice, Sem.run_bind, run_underlying hu, run_size hi, Result.andThen_ok, if_neg hbig, if_pos h0, Sem.run_pure]
      rw [show (Array.range (len * i.size)).map (fun x => (#[] : Array Value)[x % (#[] : Array Value).size]!) = #[] by rw [h0]; simp, f1]
      simp [newRow, newObj, Sem.run]
    · rw [if_neg h0] at f1
      simp only [Instr.buildSlice, Sem.run_bind, run_underlying hu, run_size hi, Result.andThen_ok, if_neg hbig, if_neg h0, Sem.run_pure, z1]
      rw [show Instr.fill (fun k => some (k * i.size, i.size)) ((Array.range (len * i.size)).map (z.cells[· % z.cells.size]!)) parts'.toList = some r' from f1]
      simp [newRow, newObj, Sem.run]
  · have := VR.slice (ρ := ρ') n 0 _ _ _ len len e2
    simpa using this

/-! ### make -/
noncomputable def Mini.makeS (P : Program) (m : Mini) (t : TypeId) (len cap : Value) : Option (Value × Mini) :=
  match P.underlying t, len, cap with
  | some (.slice el), .int _ l, .int _ c => match P.info? el, zeroM P el with
    | some i, some z =>
      if 0 ≤ l ∧ l ≤ c ∧ c ≤ 1048576 ∧ i.bytes ≤ 1048576 ∧ 0 < z.cells.size then
        forceA (if c.toNat * i.size = 0 then #[] else zerosM z (c.toNat * i.size)) fun cells => match m.new (.cells cells el) with
        | some (n, m') => some (.slice (some ⟨n, 0, none⟩) l.toNat c.toNat, m')
        | none => none
      else none
    | _, _ => none
  | _, _, _ => none
theorem WR.makeS {P : Program} {w0 : Base} {w : World} {ρ : Nm} {m m' : Mini} (h : WR P w0 ρ m w) {t : TypeId} {len cap len' cap' v : Value} (hl : VR ρ len len') (hcp : VR ρ cap cap') (hm : m.makeS P t len cap = some (v, m')) :
    DoneV P w0 ρ (Instr.makeSlice t len' cap') w v m' := by
  unfold Mini.makeS at hm
  split at hm
  case h_2 => cases hm
  rename_i el k1 l k2 c hu
  split at hm
  case h_2 => cases hm
  rename_i i z hi hz
  split at hm
  case isFalse => cases hm
  rename_i hc
  rw [forceA_eq] at hm
  split at hm
  case h_2 => cases hm
  rename_i n m1 hn
  injection hm with hm; injection hm with hm1 hm2; subst hm1 hm2
  have := hl.int_inv; subst this
  have := hcp.int_inv; subst this
  obtain ⟨c1, c2, c3, c4, c5⟩ := hc
  obtain ⟨z1, z2, _⟩ := zeroM_spec hz
  have wl : IntKind.i64.wrap l = l := by unfold IntKind.wrap; simp [IntKind.bits, IntKind.signed]; omega
  have wc : IntKind.i64.wrap c = c := by unfold IntKind.wrap; simp [IntKind.bits, IntKind.signed]; omega
  have hzs : pureA (if c.toNat * i.size = 0 then #[] else zerosM z (c.toNat * i.size)) = true := by
    split
    · rfl
    · exact (zerosM_pure z2 _ c5).1
  obtain ⟨ρ', e1, e2, e3⟩ := h.new hn (OR.fresh el (AR.same (ρ := ρ) hzs))
  refine ⟨ρ', .slice (some ⟨w.heap.size, 0, none⟩) l.toNat c.toNat, _, e1, ?_, ?_, e3⟩
  · have hby : (i.bytes : Int) * c ≤ 1048576 * 1048576 := Int.mul_le_mul (by omega) c3 (by omega) (by omega)
    have hlarge : ¬ ((decide (c < 0) || decide ((i.bytes : Int) * c > 2 ^ 48) || decide (l < 0) || decide (l > c)) = true) := by simp; omega
    have hask : ∀ w, (askRoom (c.toNat * i.bytes)).run P w = .ok () w := fun w => by
      unfold askRoom; split <;> simp [mark, Sem.run]
    simp only [Instr.makeSlice, Sem.run_bind, run_underlying hu, run_info hi, Result.andThen_ok, Sem.run_pure, asInt, asIntOf, wl, wc]
    rw [if_neg hlarge]
    simp only [Sem.run_bind, hask, run_size hi, Result.andThen_ok]
    by_cases h0 : c.toNat * i.size = 0
    · simp only [if_pos h0, Sem.run_bind, Sem.run_pure, Result.andThen_ok]
      rw [show (Array.range (c.toNat * i.size)).map (fun x => (#[] : Array Value)[x % (#[] : Array Value).size]!) = #[] by rw [h0]; simp]
      simp [newRow, newObj, Sem.run]
    · simp only [if_neg h0, Sem.run_bind, Sem.run_pure, Result.andThen_ok, z1]
      simp [newRow, newObj, Sem.run, zerosM]
  · have := VR.slice (ρ := ρ') n 0 _ _ _ l.toNat c.toNat e2
    simpa using this

/-! ### Maps -/
noncomputable def Mini.mapAt (m : Mini) (n : Nat) : Option (Array MapEntry × Nat) :=
  match m.heap.get n with
  | some (some (.map es c)) => some (es, c)
  | _ => none
theorem mapAt_spec {m : Mini} {n c : Nat} {es : Array MapEntry} (h : m.mapAt n = some (es, c)) : m.heap.get n = some (some (.map es c)) := by
  unfold Mini.mapAt at h
  split at h
  · rename_i e' c' hg; injection h with h; injection h with h1 h2; subst h1 h2; exact hg
  · cases h
/-- entries that are alike -/
noncomputable def ER (ρ : Nm) (es es' : Array MapEntry) : Prop := es.size = es'.size ∧ ∀ (i : Nat) (en : MapEntry), es[i]? = some en → ∃ en', es'[i]? = some en' ∧ en'.key = en.key ∧ pureV en.key = true ∧ en'.born = en.born ∧ VR ρ en.val en'.val
theorem WR.mapRow {P : Program} {w0 : Base} {w : World} {ρ : Nm} {m : Mini} (h : WR P w0 ρ m w) {n c : Nat} {es : Array MapEntry} (hc : m.mapAt n = some (es, c)) {b d e : Nat} (hr : ρ n = some (b, d, e)) :
    d = 0 ∧ e = 0 ∧ w0.w.heap.size ≤ b ∧ ∃ es', w.heap[b]? = some (.map es' c) ∧ ER ρ es es' := by
  obtain ⟨b', d', e', h1, h2, h3⟩ := h.real (mapAt_spec hc) hr
  rw [hr] at h1; injection h1 with h1; injection h1 with h1 h4; injection h4 with h4 h5; subst h1 h4 h5
  obtain ⟨h6, h7, es', h8, h9, h10⟩ := h3
  exact ⟨h6, h7, h2, es', h8, h9, h10⟩
noncomputable def Mini.makeM (m : Mini) : Option (Value × Mini) :=
  match m.new (.map #[] 0) with
  | some (n, m') => some (.map (some n), m')
  | none => none
theorem WR.makeM {P : Program} {w0 : Base} {w : World} {ρ : Nm} {m m' : Mini} (h : WR P w0 ρ m w) {t : TypeId} {v : Value} (hm : m.makeM = some (v, m')) : DoneV P w0 ρ (Instr.makeMap t none) w v m' := by
  unfold Mini.makeM at hm
  split at hm
  case h_2 => cases hm
  rename_i n m1 hn
  injection hm with hm; injection hm with hm1 hm2; subst hm1 hm2
  obtain ⟨ρ', e1, e2, e3⟩ := h.new hn (q := .map #[] 0) (e := 0) ⟨rfl, rfl, #[], rfl, rfl, fun i en hen => by simp at hen⟩
  exact ⟨ρ', .map (some w.heap.size), _, e1, by simp [Instr.makeMap, newObj, Sem.run], .map _ _ e2, e3⟩
noncomputable def hintM (P : Program) (t : TypeId) (v : Value) : Bool :=
  match P.underlying t with
  | some (.map _ _) => match v with
    | .int _ _ => true
    | .chan (some k) => Env.ints k
    | _ => false
  | _ => false
theorem WR.makeMr {P : Program} {w0 : Base} {w : World} {ρ : Nm} {m m' : Mini} (h : WR P w0 ρ m w) {t : TypeId} {x x' v : Value} (hx : VR ρ x x') (hh : hintM P t x = true) (hm : m.makeM = some (v, m')) : DoneV P w0 ρ (Instr.makeMap t (some x')) w v m' := by
  obtain ⟨ρ', v', w', a, b, c, d⟩ := h.makeM (t := t) hm
  refine ⟨ρ', v', w', a, ?_, c, d⟩
  unfold hintM at hh
  split at hh
  · rename_i key el hu
    have hint : ∃ k n, x' = .int k n := by
      split at hh
      · rename_i k n; exact ⟨k, n, hx.int_inv⟩
      · rename_i k
        have := Env.okI k hh
        cases hx with
        | sign k => generalize Env.σ k = u at *; cases u <;> first | exact ⟨_, _, rfl⟩ | (simp [isInt] at this)
        | same _ h => simp [pureV] at h
      · cases hh
    obtain ⟨k, n, rfl⟩ := hint
    simp only [Instr.makeMap] at b ⊢
    simp only [Sem.run_bind, run_underlying hu, Result.andThen_ok, asInt, asIntOf, Sem.run_pure]
    exact b
  · cases hh
theorem ER.list {ρ : Nm} {es es' : Array MapEntry} (h : ER ρ es es') : es.toList.length = es'.toList.length ∧ ∀ (i : Nat) (en : MapEntry), es.toList[i]? = some en → ∃ en', es'.toList[i]? = some en' ∧ en'.key = en.key ∧ VR ρ en.val en'.val :=
  ⟨by simpa using h.1, fun i en hen => by
    rw [Array.getElem?_toList] at hen
    obtain ⟨en', a, b, _, _, c⟩ := h.2 i en hen
    exact ⟨en', by rw [Array.getElem?_toList]; exact a, b, c⟩⟩
inductive FR (ρ : Nm) : Option (Nat × Value) → Option (Nat × Value) → Prop
  | none : FR ρ none none
  | some (i : Nat) (v v' : Value) (h : VR ρ v v') : FR ρ (some (i, v)) (some (i, v'))
theorem findNow_rel {ρ : Nm} (kind : TypeDesc) (k : Value) : ∀ (l l' : List MapEntry) (i : Nat) (r : Option (Nat × Value)), l.length = l'.length → (∀ (j : Nat) (en : MapEntry), l[j]? = some en → ∃ en', l'[j]? = some en' ∧ en'.key = en.key ∧ VR ρ en.val en'.val) →
    Instr.findNow kind k l i = some r → ∃ r', Instr.findNow kind k l' i = some r' ∧ FR ρ r r'
  | [], [], i, r, _, _, h => by
    simp only [Instr.findNow, Option.some.injEq] at h ⊢; subst h; exact ⟨none, rfl, .none⟩
  | [], _ :: _, _, _, h, _, _ => by simp at h
  | _ :: _, [], _, _, h, _, _ => by simp at h
  | e :: l, e' :: l', i, r, hl, hk, h => by
    obtain ⟨en', a, b, c⟩ := hk 0 e rfl
    injection a with a; subst a
    simp only [Instr.findNow, b] at h ⊢
    cases hs : Instr.sameNow kind k e.key with
    | none => simp only [hs] at h; cases h
    | some t =>
      cases t with
      | true => simp only [hs, Option.some.injEq] at h ⊢; subst h; exact ⟨_, rfl, .some _ _ _ c⟩
      | false =>
        simp only [hs] at h ⊢
        exact findNow_rel kind k l l' (i + 1) r (by simpa using hl) (fun j en hj => hk (j + 1) en (by simpa using hj)) h
noncomputable def simpleKey : Value → Bool
  | .bool _ => true
  | .int _ _ => true
  | .string _ => true
  | _ => false
noncomputable def keyDesc : TypeDesc → Bool
  | .bool => true
  | .int _ => true
  | .string => true
  | _ => false
theorem checkKey_simple {P : Program} {b : Bool} {t : TypeId} {du : TypeDesc} {v : Value} (hu : P.underlying t = some du) (hd : keyDesc du = true) (w : World) : (Instr.checkKey b 10000 t v).run P w = .ok () w := by
  rw [show (10000 : Nat) = 9999 + 1 from rfl]
  unfold Instr.checkKey
  simp only [Sem.run_bind, run_underlying hu, Result.andThen_ok]
  cases du <;> simp [keyDesc] at hd <;> simp
noncomputable def eqFs (ev : TypeId → Value → Value → Option Bool) (P : Program) (xs ys : Array Value) : List Field → Option Bool
  | [] => some true
  | f :: l => if f.name = "_" then eqFs ev P xs ys l else
    match partM P f.type xs f.offset, partM P f.type ys f.offset with
    | some u, some v => match ev f.type u v with
      | some true => eqFs ev P xs ys l
      | some false => some false
      | none => none
    | _, _ => none
theorem eqFs_run {P : Program} {ρ : Nm} {ev : TypeId → Value → Value → Option Bool} {d : Nat} {w : World} (hev : ∀ (t : TypeId) (u v u' v' : Value) (b : Bool), VR ρ u u' → VR ρ v v' → ev t u v = some b → (Op.equalIn d t u' v').run P w = .ok b w)
    {xs xs' ys ys' : Array Value} (hx : AR ρ xs xs') (hy : AR ρ ys ys') : ∀ (l : List Field) (b : Bool), eqFs ev P xs ys l = some b →
    (forIn l ((none, ()) : Option Bool × Unit) (fun f __s => if f.name ≠ "_" then do
        let __do_lift ← part f.type xs' f.offset
        let __do_lift_1 ← part f.type ys' f.offset
        let __do_lift ← Op.equalIn d f.type __do_lift __do_lift_1
        if (!__do_lift) = true then pure (ForInStep.done (some false, ())) else pure (ForInStep.yield (none, ()))
      else (pure (ForInStep.yield (none, ())) : Sem _))).run P w = .ok (if b then (none, ()) else (some false, ())) w
  | [], b, h => by
    simp only [eqFs, Option.some.injEq] at h
    subst h; simp
  | f :: l, b, h => by
    simp only [eqFs] at h
    by_cases hn : f.name = "_"
    · rw [if_pos hn] at h
      simp only [List.forIn_cons, hn, ne_eq, not_true_eq_false, if_false, Sem.run_bind, Sem.run_pure, Result.andThen_ok]
      exact eqFs_run hev hx hy l b h
    · rw [if_neg hn] at h
      split at h
      · rename_i u v hpu hpv
        obtain ⟨u', r1, r2⟩ := part_run hx hpu
        obtain ⟨v', r3, r4⟩ := part_run hy hpv
        split at h
        · rename_i he
          have := hev _ _ _ _ _ _ r2 r4 he
          simp only [List.forIn_cons, hn, ne_eq, not_false_eq_true, if_true, Sem.run_bind, r1, r3, this, Sem.run_pure, Result.andThen_ok]
          exact eqFs_run hev hx hy l b h
        · rename_i he
          injection h with h; subst h
          have := hev _ _ _ _ _ _ r2 r4 he
          simp only [List.forIn_cons, hn, ne_eq, not_false_eq_true, if_true, Sem.run_bind, r1, r3, this, Sem.run_pure, Result.andThen_ok]
          simp
        · cases h
      · cases h
/-- two keys without signs -/
noncomputable def keyIn (P : Program) : Nat → TypeId → Value → Value → Option Bool
  | 0, _, _, _ => none
  | k + 1, t, u, v => match P.underlying t, u, v with
    | some (.int _), .int x a, .int y b => if x = y then some (a == b) else none
    | some .string, .string a, .string b => some (a == b)
    | some .bool, .bool a, .bool b => some (a == b)
    | some (.struct fs), .agg xs, .agg ys => if P.stoodInHeld t = false then eqFs (keyIn P k) P xs ys fs.toList else none
    | _, _, _ => none
theorem keyIn_run {P : Program} {ρ : Nm} (d : Nat) (w : World) : ∀ (k : Nat) (t : TypeId) (u v u' v' : Value) (b : Bool), VR ρ u u' → VR ρ v v' → keyIn P k t u v = some b → (Op.equalIn (d + k) t u' v').run P w = .ok b w
  | 0, t, u, v, u', v', b, hu, hv, h => by simp [keyIn] at h
  | k + 1, t, u, v, u', v', b, hu, hv, h => by
    simp only [keyIn] at h
    split at h
    · rename_i q x a y c ht
      split at h
      · rename_i hxy
        injection h with h; subst h hxy
        have h1 := hu.pure rfl
        have h2 := hv.pure rfl
        subst h1 h2
        rw [← Nat.add_assoc]
        unfold Op.equalIn
        simp [run_underlying ht]
      · cases h
    · rename_i a c ht
      injection h with h; subst h
      have h1 := hu.pure rfl
      have h2 := hv.pure rfl
      subst h1 h2
      rw [← Nat.add_assoc]
      unfold Op.equalIn
      simp [run_underlying ht]
    · rename_i a c ht
      injection h with h; subst h
      have h1 := hu.pure rfl
      have h2 := hv.pure rfl
      subst h1 h2
      rw [← Nat.add_assoc]
      unfold Op.equalIn
      simp [run_underlying ht]
    · rename_i fs xs ys ht
      split at h
      · rename_i hc
        obtain ⟨xs', rfl, hx⟩ := hu.agg_inv
        obtain ⟨ys', rfl, hy⟩ := hv.agg_inv
        have := eqFs_run (w := w) (fun t u v u' v' b => keyIn_run d w k t u v u' v' b) hx hy fs.toList b h
        rw [← Nat.add_assoc]
        unfold Op.equalIn
        simp only [Sem.run_bind, run_underlying ht, Result.andThen_ok]
        simp only [program, Sem.run, hc, Result.andThen_ok, Sem.run_bind]
        rw [← Array.forIn_toList, if_neg (by simp)]
        rw [Sem.run_bind, this, Result.andThen_ok]
        cases b <;> simp
      · cases h
    · cases h
noncomputable def askM (P : Program) (t : TypeId) (k : Value) : List MapEntry → Nat → Option (Option (Nat × Value))
  | [], _ => some none
  | e :: l, i => match keyIn P 8 t k e.key with
    | some true => some (some (i, e.val))
    | some false => askM P t k l (i + 1)
    | none => none
theorem askM_run {P : Program} {ρ : Nm} {t : TypeId} {k : Value} (hk : pureV k = true) : ∀ (l l' : List MapEntry) (i : Nat) (r : Option (Nat × Value)), l.length = l'.length → (∀ (j : Nat) (en : MapEntry), l[j]? = some en → ∃ en', l'[j]? = some en' ∧ en'.key = en.key ∧ pureV en.key = true ∧ VR ρ en.val en'.val) →
    askM P t k l i = some r → ∃ r', (∀ w, (Instr.findAsking t k l' i).run P w = .ok r' w) ∧ FR ρ r r'
  | [], [], i, r, _, _, h => by
    simp only [askM, Option.some.injEq] at h; subst h; exact ⟨none, fun _ => rfl, .none⟩
  | [], _ :: _, _, _, h, _, _ => by simp at h
  | _ :: _, [], _, _, h, _, _ => by simp at h
  | e :: l, e' :: l', i, r, hl, hr, h => by
    obtain ⟨en', a, b, p, c⟩ := hr 0 e rfl
    injection a with a; subst a
    simp only [askM] at h
    unfold Instr.findAsking
    have run : ∀ bb, keyIn P 8 t k e.key = some bb → ∀ w, (Op.equal t k e'.key).run P w = .ok bb w := fun bb he w => by
      rw [b]
      exact keyIn_run (ρ := ρ) 9992 w 8 t _ _ _ _ bb (.same _ hk) (.same _ p) he
    split at h
    · rename_i he
      injection h with h; subst h
      exact ⟨some (i, e'.val), fun w => by simp only [Sem.run_bind, run _ he, Result.andThen_ok, if_true, Sem.run_pure], .some _ _ _ c⟩
    · rename_i he
      obtain ⟨r', r1, r2⟩ := askM_run hk l l' (i + 1) r (by simpa using hl) (fun j en hj => hr (j + 1) en (by simpa using hj)) h
      exact ⟨r', fun w => by simp only [Sem.run_bind, run _ he, Result.andThen_ok, Bool.false_eq_true, if_false]; exact r1 w, r2⟩
    · cases h
noncomputable def chkFs (ck : TypeId → Value → Bool) (P : Program) (cs : Array Value) : List Field → Bool
  | [] => true
  | f :: l => if f.name = "_" then chkFs ck P cs l else match partM P f.type cs f.offset with
    | some v => if ck f.type v then chkFs ck P cs l else false
    | none => false
noncomputable def chkK (P : Program) : Nat → TypeId → Value → Bool
  | 0, _, _ => false
  | n + 1, t, v => match P.underlying t with
    | some du => if keyDesc du then true else match du, v with
      | .struct fs, .agg cs => chkFs (chkK P n) P cs fs.toList
      | _, _ => false
    | none => false
theorem chkFs_run {P : Program} {ρ : Nm} {ck : TypeId → Value → Bool} {e : Bool} {d : Nat} {w : World} (hck : ∀ (t : TypeId) (v v' : Value), VR ρ v v' → ck t v = true → (Instr.checkKey e d t v').run P w = .ok () w) {cs cs' : Array Value} (hx : AR ρ cs cs') : ∀ (l : List Field), chkFs ck P cs l = true →
    (forIn l PUnit.unit (fun (f : Field) (_ : PUnit) => do
      if f.name ≠ "_" then do
        let __do_lift ← part f.type cs' f.offset
        Instr.checkKey e d f.type __do_lift
        (pure (ForInStep.yield PUnit.unit) : Sem _)
      else (pure (ForInStep.yield PUnit.unit) : Sem _))).run P w = .ok PUnit.unit w
  | [], h => by simp
  | f :: l, h => by
    simp only [chkFs] at h
    by_cases hn : f.name = "_"
    · rw [if_pos hn] at h
      simp only [List.forIn_cons, hn, ne_eq, not_true_eq_false, if_false, Sem.run_bind, Sem.run_pure, Result.andThen_ok]
      exact chkFs_run hck hx l h
    · rw [if_neg hn] at h
      split at h
      · rename_i v hv
        split at h
        · rename_i hc
          obtain ⟨v', r1, r2⟩ := part_run hx hv
          have := hck _ _ _ r2 hc
          simp only [List.forIn_cons, hn, ne_eq, not_false_eq_true, if_true, Sem.run_bind, r1, this, Sem.run_pure, Result.andThen_ok]
          exact chkFs_run hck hx l h
        · cases h
      · cases h
theorem chkK_run {P : Program} {ρ : Nm} (e : Bool) (d : Nat) (w : World) : ∀ (n : Nat) (t : TypeId) (v v' : Value), VR ρ v v' → chkK P n t v = true → (Instr.checkKey e (d + n) t v').run P w = .ok () w
  | 0, t, v, v', hv, h => by simp [chkK] at h
  | n + 1, t, v, v', hv, h => by
    simp only [chkK] at h
    split at h
    · rename_i du hu
      rw [← Nat.add_assoc]
      unfold Instr.checkKey
      split at h
      · rename_i hd
        simp only [Sem.run_bind, run_underlying hu, Result.andThen_ok]
        cases du <;> simp [keyDesc] at hd <;> simp
      · split at h
        · rename_i fs cs hnk
          obtain ⟨cs', rfl, hx⟩ := hv.agg_inv
          have := chkFs_run (w := w) (fun t v v' a b => chkK_run e d w n t v v' a b) hx fs.toList h
          simp only [Sem.run_bind, run_underlying hu, Result.andThen_ok]
          rw [← Array.forIn_toList, this]
          rfl
        · cases h
    · cases h
noncomputable def isStructD : TypeDesc → Bool
  | .struct _ => true
  | _ => false
theorem getObj_map {P : Program} {w : World} {r clock : Nat} {es : Array MapEntry} (hb : w.heap[r]? = some (.map es clock)) : (getObj r).run P w = .ok (.map es clock) w := by simp [getObj, Sem.run, hb]
theorem setObj_map {P : Program} {w : World} {r clock : Nat} {es : Array MapEntry} (o : Obj) (hb : w.heap[r]? = some (.map es clock)) : (setObj r o).run P w = .ok () { w with heap := w.heap.setIfInBounds r o } := by simp [setObj, Sem.run, hb]
/-- the map and what stands at a key -/
noncomputable def Mini.find (P : Program) (m : Mini) (t : TypeId) (n : Nat) (k : Value) : Option (Array MapEntry × Nat × TypeId × Option (Nat × Value)) :=
  match P.underlying t, m.mapAt n with
  | some (.map key el), some (es, c) => match P.underlying key with
    | some du => if keyDesc du = true ∧ pureV k = true then (Instr.findNow du k es.toList 0).map fun r => (es, c, el, r)
      else if isStructD du = true ∧ pureV k = true ∧ chkK P 8 key k = true then (askM P key k es.toList 0).map fun r => (es, c, el, r) else none
    | none => none
  | _, _ => none
theorem WR.find {P : Program} {w0 : Base} {w : World} {ρ : Nm} {m : Mini} (h : WR P w0 ρ m w) {t el : TypeId} {n b d e c : Nat} {k : Value} {es : Array MapEntry} {r : Option (Nat × Value)} (hr : ρ n = some (b, d, e)) (hf : m.find P t n k = some (es, c, el, r)) :
    ∃ key es' r', P.underlying t = some (.map key el) ∧ d = 0 ∧ e = 0 ∧ w0.w.heap.size ≤ b ∧ m.heap.get n = some (some (.map es c)) ∧ w.heap[b]? = some (.map es' c) ∧ ER ρ es es' ∧ FR ρ r r' ∧ (∀ bb w, (Instr.checkKey bb 10000 key k).run P w = .ok () w) ∧ (∀ w, (Instr.findKey key k es'.toList).run P w = .ok r' w) ∧ pureV k = true := by
  unfold Mini.find at hf
  split at hf
  case h_2 => cases hf
  rename_i key el2 es2 c2 hu hm
  split at hf
  case h_2 => cases hf
  rename_i du hdu
  split at hf
  · rename_i hc
    rw [Option.map_eq_some_iff] at hf
    obtain ⟨r2, hr2, heq⟩ := hf
    injection heq with q1 q2; injection q2 with q2 q3; injection q3 with q3 q4; subst q1 q2 q3 q4
    obtain ⟨g1, g2, g3, es', g4, g5⟩ := h.mapRow hm hr
    obtain ⟨l1, l2⟩ := g5.list
    obtain ⟨r', f1, f2⟩ := findNow_rel du k _ _ 0 r2 l1 l2 hr2
    exact ⟨key, es', r', hu, g1, g2, g3, mapAt_spec hm, g4, g5, f2, fun bb w => checkKey_simple hdu hc.1 w, fun w => by
      simp only [Instr.findKey, Sem.run_bind, run_underlying hdu, Result.andThen_ok, f1, Sem.run_pure], hc.2⟩
  · split at hf
    case isFalse => cases hf
    rename_i hc
    obtain ⟨hs, hp, hck⟩ := hc
    rw [Option.map_eq_some_iff] at hf
    obtain ⟨r2, hr2, heq⟩ := hf
    injection heq with q1 q2; injection q2 with q2 q3; injection q3 with q3 q4; subst q1 q2 q3 q4
    obtain ⟨g1, g2, g3, es', g4, g5⟩ := h.mapRow hm hr
    have hl : es2.toList.length = es'.toList.length := by simpa using g5.1
    have hr : ∀ (j : Nat) (en : MapEntry), es2.toList[j]? = some en → ∃ en', es'.toList[j]? = some en' ∧ en'.key = en.key ∧ pureV en.key = true ∧ VR ρ en.val en'.val := fun j en hen => by
      rw [Array.getElem?_toList] at hen
      obtain ⟨en', a, b, p, _, c⟩ := g5.2 j en hen
      exact ⟨en', by rw [Array.getElem?_toList]; exact a, b, p, c⟩
    obtain ⟨r', same, f2⟩ := askM_run (P := P) (ρ := ρ) (t := key) hp _ _ 0 r2 hl hr hr2
    refine ⟨key, es', r', hu, g1, g2, g3, mapAt_spec hm, g4, g5, f2, fun bb w => chkK_run (ρ := ρ) bb 9992 w 8 key k k (.same _ hp) hck, fun w => ?_, hp⟩
    simp only [Instr.findKey, Sem.run_bind, run_underlying hdu, Result.andThen_ok]
    cases du <;> simp [isStructD] at hs
    cases hes : es'.toList with
    | nil => rw [hes] at same; simpa [Instr.findNow, Instr.findAsking] using same w
    | cons e l => rw [hes] at same; simpa [Instr.findNow, Instr.sameNow] using same w
noncomputable def Mini.look (P : Program) (m : Mini) (t : TypeId) (x k : Value) (ok : Bool) : Option Value :=
  match x with
  | .map (some n) => match m.find P t n k with
    | some (_, _, el, some (_, v)) => some (if ok then .tuple #[v, .bool true] else v)
    | some (_, _, el, none) => match zeroM P el with
      | some z => some (if ok then .tuple #[z, .bool false] else z)
      | none => none
    | none => none
  | _ => none
theorem VR.two {ρ : Nm} {v v' : Value} (h : VR ρ v v') (b : Bool) : VR ρ (.tuple #[v, .bool b]) (.tuple #[v', .bool b]) := by
  have := (AR.one h).push (.same (.bool b) rfl)
  exact .tuple _ _ this.size this.get
theorem WR.look {P : Program} {w0 : Base} {w : World} {ρ : Nm} {m : Mini} (h : WR P w0 ρ m w) {t : TypeId} {x x' k k' v : Value} {ok : Bool} (hx : VR ρ x x') (hk : VR ρ k k') (hm : m.look P t x k ok = some v) : ∃ v', (Instr.lookup t x' k' ok).run P w = .ok v' w ∧ VR ρ v v' := by
  unfold Mini.look at hm
  split at hm
  case h_2 => cases hm
  rename_i n
  obtain ⟨b, hb, rfl⟩ := hx.map_inv
  split at hm
  · rename_i es c el i u hf
    injection hm with hm; subst hm
    obtain ⟨key, es', r', g0, g1, g2, g3, g4, g5, g6, g7, g8, g9, g10⟩ := h.find hb hf
    have := hk.pure g10; subst this
    cases g7 with
    | some _ _ u' hu =>
      refine ⟨if ok then .tuple #[u', .bool true] else u', ?_, ?_⟩
      · simp only [Instr.lookup, Sem.run_bind, run_underlying g0, Result.andThen_ok, getObj_map g5, Sem.run_pure, g8, g9]
      · cases ok
        · exact hu
        · exact hu.two true
  · rename_i es c el hf
    split at hm
    case h_2 => cases hm
    rename_i z hz
    injection hm with hm; subst hm
    obtain ⟨z1, z2, _⟩ := zeroM_spec hz
    obtain ⟨key, es', r', g0, g1, g2, g3, g4, g5, g6, g7, g8, g9, g10⟩ := h.find hb hf
    have := hk.pure g10; subst this
    cases g7 with
    | none =>
      refine ⟨if ok then .tuple #[z, .bool false] else z, ?_, ?_⟩
      · simp only [Instr.lookup, Sem.run_bind, run_underlying g0, Result.andThen_ok, getObj_map g5, Sem.run_pure, g8, g9, z1]
      · cases ok
        · exact .same _ z2
        · exact (VR.same z z2).two false
  · cases hm
noncomputable def Mini.mset (P : Program) (m : Mini) (t : TypeId) (x k v : Value) : Option Mini :=
  match x with
  | .map (some n) => if n < 2 ^ 249 ∧ pureV k = true then match m.find P t n k with
    | some (es, c, _, some (i, _)) => if ((es[i]?).map (fun e => Instr.sameBits 10000 e.key k)).getD false = true then some (m.upd n (.map (es.modify i fun e => { e with key := k, val := v }) c)) else none
    | some (es, c, _, none) => some (m.upd n (.map (es.push { key := k, val := v, born := c }) (c + 1)))
    | none => none
    else none
  | _ => none
theorem WR.mset {P : Program} {w0 : Base} {w : World} {ρ : Nm} {m m' : Mini} (h : WR P w0 ρ m w) {t : TypeId} {x x' k k' v v' : Value} (hx : VR ρ x x') (hk : VR ρ k k') (hv : VR ρ v v') (hm : m.mset P t x k v = some m') :
    ∃ w', (Instr.mapUpdate t x' k' v').run P w = .ok () w' ∧ WR P w0 ρ m' w' := by
  unfold Mini.mset at hm
  split at hm
  case h_2 => cases hm
  rename_i n
  split at hm
  case isFalse => cases hm
  rename_i hcond
  obtain ⟨b, hb, rfl⟩ := hx.map_inv
  split at hm
  · rename_i es c el i u hf
    split at hm
    case isFalse => cases hm
    rename_i hsame
    injection hm with hm; subst hm
    obtain ⟨key, es', r', g0, g1, g2, g3, g4, g5, g6, g7, g8, g9, g10⟩ := h.find hb hf
    have := hk.pure g10; subst this
    cases g7 with
    | some _ _ u' hu =>
      have hent : ∃ en, es[i]? = some en ∧ Instr.sameBits 10000 en.key k' = true := by
        cases he : es[i]? with
        | none => simp [he] at hsame
        | some en => simp [he] at hsame; exact ⟨en, rfl, hsame⟩
      obtain ⟨en, he1, he2⟩ := hent
      obtain ⟨en', k1, k2, k3, k4, k5⟩ := g6.2 i en he1
      refine ⟨{ w with heap := w.heap.setIfInBounds b (.map (es'.modify i fun e => { e with key := k', val := v' }) c) }, ?_, ?_⟩
      · simp only [Instr.mapUpdate, Sem.run_bind, run_underlying g0, Result.andThen_ok, getObj_map g5, g8, g9]
        rw [k1]
        simp only [Option.map_some, Option.getD_some, k2, Instr.keyThatStays]
        rw [if_pos he2]
        simp only [Sem.run_pure, Result.andThen_ok]
        exact setObj_map _ g5
      · refine h.upd g4 hb hcond.1 rfl rfl rfl (by simp) (fun k hk => by simp [Array.getElem?_setIfInBounds, Ne.symm hk]) ?_
        have hbl := (Array.getElem?_eq_some_iff.1 g5).1
        refine ⟨rfl, rfl, _, by simp [Array.getElem?_setIfInBounds, hbl]; rfl, by simpa using g6.1, fun j ej hj => ?_⟩
        rw [Array.getElem?_modify] at hj ⊢
        by_cases eij : i = j
        · subst eij
          rw [if_pos rfl, he1] at hj
          injection hj with hj; subst hj
          refine ⟨{ en' with key := k', val := v' }, by rw [if_pos rfl, k1]; rfl, rfl, g10, k4, hv⟩
        · rw [if_neg eij] at hj
          obtain ⟨ej', q1, q2, q3, q4, q5⟩ := g6.2 j ej hj
          exact ⟨ej', by rw [if_neg eij]; exact q1, q2, q3, q4, q5⟩
  · rename_i es c el hf
    injection hm with hm; subst hm
    obtain ⟨key, es', r', g0, g1, g2, g3, g4, g5, g6, g7, g8, g9, g10⟩ := h.find hb hf
    have := hk.pure g10; subst this
    cases g7 with
    | none =>
      refine ⟨{ w with heap := w.heap.setIfInBounds b (.map (es'.push { key := k', val := v', born := c }) (c + 1)) }, ?_, ?_⟩
      · simp only [Instr.mapUpdate, Sem.run_bind, run_underlying g0, Result.andThen_ok, getObj_map g5, g8, g9]
        exact setObj_map _ g5
      · refine h.upd g4 hb hcond.1 rfl rfl rfl (by simp) (fun k hk => by simp [Array.getElem?_setIfInBounds, Ne.symm hk]) ?_
        have hbl := (Array.getElem?_eq_some_iff.1 g5).1
        refine ⟨rfl, rfl, _, by simp [Array.getElem?_setIfInBounds, hbl]; rfl, by simpa using g6.1, fun j ej hj => ?_⟩
        rw [Array.getElem?_push] at hj ⊢
        rw [← g6.1]
        by_cases ej2 : j = es.size
        · rw [if_pos ej2] at hj ⊢
          injection hj with hj; subst hj
          exact ⟨_, rfl, rfl, g10, rfl, hv⟩
        · rw [if_neg ej2] at hj ⊢
          exact g6.2 j ej hj
  · cases hm

/-! ### delete -/
noncomputable def Mini.mdel (P : Program) (m : Mini) (t : TypeId) (x k : Value) : Option Mini :=
  match x with
  | .map (some n) => if n < 2 ^ 249 then match m.find P t n k with
    | some (es, c, _, some (i, _)) => some (m.upd n (.map (es.toList.eraseIdx i).toArray c))
    | some (es, c, _, none) => some (m.upd n (.map es c))
    | none => none
    else none
  | _ => none
theorem erase_get (es : Array MapEntry) (i j : Nat) : (es.eraseIdxIfInBounds i)[j]? = (es.toList.eraseIdx i)[j]? := by
  rw [← Array.getElem?_toList]
  congr 1
  unfold Array.eraseIdxIfInBounds
  split
  · simp
  · rename_i h
    rw [List.eraseIdx_of_length_le (by simpa using h)]
theorem WR.mdel {P : Program} {w0 : Base} {w : World} {ρ : Nm} {m m' : Mini} (h : WR P w0 ρ m w) {t u ty : TypeId} {x x' k k' : Value} (hx : VR ρ x x') (hk : VR ρ k k') (hm : m.mdel P t x k = some m') :
    ∃ w', (Builtin.delete_ #[t, u] ty #[x', k']).run P w = .ok (.tuple #[]) w' ∧ WR P w0 ρ m' w' := by
  unfold Mini.mdel at hm
  split at hm
  case h_2 => cases hm
  rename_i n
  split at hm
  case isFalse => cases hm
  rename_i hcond
  obtain ⟨b, hb, rfl⟩ := hx.map_inv
  split at hm
  · rename_i es c el i uu hf
    injection hm with hm; subst hm
    obtain ⟨key, es', r', g0, g1, g2, g3, g4, g5, g6, g7, g8, g9, g10⟩ := h.find hb hf
    have := hk.pure g10; subst this
    cases g7 with
    | some _ _ u' hu =>
      refine ⟨{ w with heap := w.heap.setIfInBounds b (.map (es'.eraseIdxIfInBounds i) c) }, ?_, ?_⟩
      · simp [Builtin.delete_, run_underlying g0, getObj_map g5, g8, g9, setObj_map _ g5, Result.andThen]
      · refine h.upd g4 hb hcond rfl rfl rfl (by simp) (fun k hk => by simp [Array.getElem?_setIfInBounds, Ne.symm hk]) ?_
        have hbl := (Array.getElem?_eq_some_iff.1 g5).1
        refine ⟨rfl, rfl, _, by simp [Array.getElem?_setIfInBounds, hbl]; rfl, ?_, fun j ej hj => ?_⟩
        · have hs := g6.1
          unfold Array.eraseIdxIfInBounds
          split <;> simp [List.length_eraseIdx, hs] <;> omega
        · rw [erase_get]
          rw [List.getElem?_toArray, List.getElem?_eraseIdx] at hj
          rw [List.getElem?_eraseIdx]
          split at hj
          · rename_i hji; rw [if_pos hji]; rw [Array.getElem?_toList] at hj ⊢; exact g6.2 j ej hj
          · rename_i hji; rw [if_neg hji]; rw [Array.getElem?_toList] at hj ⊢; exact g6.2 (j + 1) ej hj
  · rename_i es c el hf
    injection hm with hm; subst hm
    obtain ⟨key, es', r', g0, g1, g2, g3, g4, g5, g6, g7, g8, g9, g10⟩ := h.find hb hf
    have := hk.pure g10; subst this
    cases g7 with
    | none =>
      refine ⟨{ w with heap := w.heap.setIfInBounds b (.map es' c) }, ?_, ?_⟩
      · simp [Builtin.delete_, run_underlying g0, getObj_map g5, g8, g9, setObj_map _ g5, Result.andThen]
      · refine h.upd g4 hb hcond rfl rfl rfl (by simp) (fun k hk => by simp [Array.getElem?_setIfInBounds, Ne.symm hk]) ?_
        have hbl := (Array.getElem?_eq_some_iff.1 g5).1
        exact ⟨rfl, rfl, es', by simp [Array.getElem?_setIfInBounds, hbl], g6.1, g6.2⟩
  · cases hm
end Go.Proofs.Ytaneipjpagbmpaa
