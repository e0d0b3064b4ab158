/-
  The small machine with maps that are ranged over: whichever entry may come next, does, in an outcome of its own; outcomes are laid together again where a call comes back.
-/
import Derived.Test.YtnfbokaldfdboaaGreatEH
import Derived.Maps.RangeRun
namespace Go.Proofs.YtnfbokaldfdboaaGreat
open Go.RowKit
set_option linter.unusedVariables false
set_option linter.unusedSimpArgs false
set_option linter.unusedSectionVars false
variable [Env]

/-! ### Lists of outcomes -/
noncomputable def bindL {α β : Type} (k : α → Option (List β)) : List α → Option (List β)
  | [] => some []
  | x :: l => match k x with
    | some u => match bindL k l with
      | some v => some (u ++ v)
      | none => none
    | none => none
theorem bindL_spec {α β : Type} {k : α → Option (List β)} : ∀ {l : List α} {L : List β}, bindL k l = some L → ∀ x ∈ l, ∃ u, k x = some u ∧ ∀ y ∈ u, y ∈ L
  | [], L, h, x, hx => by cases hx
  | z :: l, L, h, x, hx => by
    unfold bindL at h
    split at h
    · rename_i u hu
      split at h
      · rename_i v hv
        injection h with h; subst h
        rcases List.mem_cons.1 hx with rfl | hx
        · exact ⟨u, hu, fun y hy => List.mem_append_left _ hy⟩
        · obtain ⟨u', h1, h2⟩ := bindL_spec hv x hx
          exact ⟨u', h1, fun y hy => List.mem_append_right _ (h2 y hy)⟩
      · cases h
    · cases h
noncomputable def one {α : Type} : Option α → Option (List α)
  | some x => some [x]
  | none => none
theorem one_spec {α : Type} {o : Option α} {L : List α} (h : one o = some L) : ∃ x, o = some x ∧ L = [x] := by
  unfold one at h
  split at h
  · rename_i x; injection h with h; exact ⟨x, rfl, h.symm⟩
  · cases h

/-! ### Iterators -/
noncomputable def Mini.iterAt (m : Mini) (n : Nat) : Option (Option Nat × Nat × Array Nat × Nat) :=
  match m.heap.get n with
  | some (some (.mapIter o s l c)) => some (o, s, l, c)
  | _ => none
theorem iterAt_spec {m : Mini} {n s c : Nat} {o : Option Nat} {l : Array Nat} (h : m.iterAt n = some (o, s, l, c)) : m.heap.get n = some (some (.mapIter o s l c)) := by
  unfold Mini.iterAt at h
  split at h
  · rename_i o' s' l' c' hg
    simp only [Option.some.injEq, Prod.mk.injEq] at h
    obtain ⟨rfl, rfl, rfl, rfl⟩ := h
    exact hg
  · cases h
noncomputable def memN (n : Nat) : List Nat → Bool
  | [] => false
  | k :: l => if n = k then true else memN n l
theorem memN_eq (n : Nat) : ∀ l : List Nat, memN n l = l.contains n
  | [] => rfl
  | k :: l => by
    unfold memN
    by_cases h : n = k
    · simp [h]
    · simp [h, memN_eq n l]
noncomputable def leftL (seen : List Nat) : List MapEntry → List MapEntry
  | [] => []
  | e :: l => if memN e.born seen then leftL seen l else e :: leftL seen l
noncomputable def oldL (s : Nat) : List MapEntry → Bool
  | [] => true
  | e :: l => if e.born < s then oldL s l else false
theorem oldL_spec {s : Nat} : ∀ {l : List MapEntry}, oldL s l = true → ∀ e ∈ l, e.born < s
  | [], _, e, he => by cases he
  | x :: l, h, e, he => by
    unfold oldL at h
    split at h
    · rename_i hx
      rcases List.mem_cons.1 he with rfl | he
      · exact hx
      · exact oldL_spec h e he
    · cases h
theorem mem_leftL {seen : List Nat} : ∀ {l : List MapEntry} {e : MapEntry}, e ∈ leftL seen l ↔ e ∈ l ∧ seen.contains e.born = false
  | [], e => by simp [leftL]
  | x :: l, e => by
    unfold leftL
    rw [memN_eq]
    split
    · rename_i h
      rw [mem_leftL]
      constructor
      · exact fun ⟨a, b⟩ => ⟨List.mem_cons_of_mem _ a, b⟩
      · rintro ⟨a, b⟩
        rcases List.mem_cons.1 a with rfl | a
        · rw [h] at b; cases b
        · exact ⟨a, b⟩
    · rename_i h
      rw [List.mem_cons, mem_leftL]
      constructor
      · rintro (rfl | ⟨a, b⟩)
        · exact ⟨List.mem_cons_self .., by simpa using h⟩
        · exact ⟨List.mem_cons_of_mem _ a, b⟩
      · rintro ⟨a, b⟩
        rcases List.mem_cons.1 a with rfl | a
        · exact .inl rfl
        · exact .inr ⟨a, b⟩
theorem ER.mem {ρ : Nm} {es es' : Array MapEntry} (h : ER ρ es es') {e' : MapEntry} (he : e' ∈ es'.toList) : ∃ e, e ∈ es.toList ∧ e'.key = e.key ∧ pureV e.key = true ∧ e'.born = e.born ∧ VR ρ e.val e'.val := by
  obtain ⟨i, hi, rfl⟩ := List.getElem_of_mem he
  have h1 : i < es.size := by rw [h.1]; simpa using hi
  obtain ⟨en', a, b, c, d, f⟩ := h.2 i es[i] (by simp [h1])
  have : en' = es'.toList[i] := by
    rw [← Array.getElem?_toList] at a
    obtain ⟨_, a⟩ := List.getElem?_eq_some_iff.1 a
    exact a.symm
  subst this
  exact ⟨es[i], by simp, b, c, d, f⟩
noncomputable def nextM (m : Mini) (x : Value) : Option (List (Value × Mini)) :=
  match x with
  | .pointer (some ⟨n, 0, none⟩) => match m.iterAt n with
    | some (none, _, _, _) => some [(.tuple #[.bool false], m)]
    | some (some k, s, seen, c) => match m.mapAt k with
      | some (es, clock) => if oldL s es.toList = true ∧ s ≤ c ∧ n < 2 ^ 249 then match leftL seen.toList es.toList with
          | [] => some [(.tuple #[.bool false], m)]
          | e :: l => some ((e :: l).map fun e => (.tuple #[.bool true, e.key, e.val], m.upd n (.mapIter (some k) s (seen.push e.born) clock)))
        else none
      | none => none
    | none => none
  | _ => none
theorem size_leftOf {es : Array MapEntry} {seen : Array Nat} : (leftOf es seen).toList = es.toList.filter fun e => !seen.contains e.born := by
  simp [leftOf]
theorem nextM_spec {P : Program} {w0 : Base} {w : World} {ρ : Nm} {m : Mini} {x x' : Value} {L : List (Value × Mini)} (hw : WR P w0 ρ m w) (hx : VR ρ x x') (h : nextM m x = some L) (ty : TypeId) :
    ∃ r ∈ L, ∃ v' w', (Instr.next x' false ty).run P w = .ok v' w' ∧ VR ρ r.1 v' ∧ WR P w0 ρ r.2 w' := by
  unfold nextM at h
  split at h
  case h_2 => cases h
  rename_i n
  obtain ⟨b, d, e, h1, h2, h3⟩ := hx.ptr_inv rfl
  split at h
  · rename_i s l c hit
    injection h with h; subst h
    obtain ⟨b', d', e', g1, g2, g3⟩ := hw.real (iterAt_spec hit) h2
    rw [h2] at g1; injection g1 with g1; injection g1 with g1 g4; injection g4 with g4 g5; subst g1 g4 g5
    obtain ⟨q1, q2, q3⟩ := g3
    subst q1
    refine ⟨_, List.mem_singleton.2 rfl, .tuple #[.bool false], w, ?_, .same _ rfl, hw⟩
    subst h3
    simp [Instr.next, getObj, Sem.run, q3, Result.andThen]
  · rename_i k s seen c hit
    split at h
    case h_2 => cases h
    rename_i es clock hm
    split at h
    case isFalse => cases h
    rename_i hcond
    obtain ⟨ho, hs, hf⟩ := hcond
    have hg := iterAt_spec hit
    obtain ⟨b', d', e', g1, g2, g3⟩ := hw.real hg h2
    rw [h2] at g1; injection g1 with g1; injection g1 with g1 g4; injection g4 with g4 g5; subst g1 g4 g5
    obtain ⟨q1, q2, bm, q3, q4⟩ := g3
    subst q1 q2
    obtain ⟨_, _, _, es', r1, r2⟩ := hw.mapRow hm q3
    have hold : ∀ x ∈ es'.toList, x.born < s := fun x hx => by
      obtain ⟨e, e1, _, _, e2, _⟩ := r2.mem hx
      rw [e2]; exact oldL_spec ho e e1
    subst h3
    have hrun := run_next_at (P := P) w ty b bm s c seen es' clock q4 r1 hold hs
    have hleft : ∀ x', x' ∈ (leftOf es' seen).toList → ∃ e, e ∈ leftL seen.toList es.toList ∧ x'.key = e.key ∧ pureV e.key = true ∧ x'.born = e.born ∧ VR ρ e.val x'.val := fun x' hx' => by
      rw [size_leftOf, List.mem_filter] at hx'
      obtain ⟨e, e1, e2, e3, e4, e5⟩ := r2.mem hx'.1
      refine ⟨e, mem_leftL.2 ⟨e1, ?_⟩, e2, e3, e4, e5⟩
      rw [← e4]; simpa using hx'.2
    split at h
    · rename_i hl
      injection h with h; subst h
      rcases hrun with ⟨_, hrun⟩ | ⟨x', hx', _⟩
      · exact ⟨_, List.mem_singleton.2 rfl, _, _, hrun, .same _ rfl, hw⟩
      · obtain ⟨e, e1, _⟩ := hleft x' hx'
        rw [hl] at e1; cases e1
    · rename_i e0 l0 hl
      injection h with h; subst h
      rcases hrun with ⟨h0, hrun⟩ | ⟨x', hx', w1, hw1, hrun⟩
      · exfalso
        have he : e0 ∈ leftL seen.toList es.toList := by rw [hl]; exact List.mem_cons_self ..
        obtain ⟨a1, a2⟩ := mem_leftL.1 he
        obtain ⟨i, hi, rfl⟩ := List.getElem_of_mem a1
        obtain ⟨en', b1, b2, b3, b4, b5⟩ := r2.2 i es.toList[i] (by simp at hi; simp [hi])
        have : en' ∈ (leftOf es' seen).toList := by
          rw [size_leftOf, List.mem_filter]
          refine ⟨?_, by rw [b4]; simpa using a2⟩
          rw [← Array.getElem?_toList] at b1
          exact List.mem_of_getElem? b1
        have := List.length_pos_of_mem this
        rw [Array.length_toList] at this
        omega
      · obtain ⟨e, e1, e2, e3, e4, e5⟩ := hleft x' hx'
        rw [hl] at e1
        refine ⟨_, List.mem_map.2 ⟨e, e1, rfl⟩, _, _, hrun, ?_, ?_⟩
        · rw [e2]
          exact .tuple _ _ rfl (LR.ar (.cons (.same _ rfl) (.cons (.same _ e3) (.cons e5 .nil)))).get
        · have hlt : b < w1.heap.size := by
            have := (Array.getElem?_eq_some_iff.1 q4).1
            rcases hw1 with rfl | rfl <;> exact this
          have hw' : WR P w0 ρ m w1 := by
            rcases hw1 with rfl | rfl
            · exact hw
            · exact hw.drew _
          refine hw'.upd hg h2 hf rfl rfl rfl (by simp [ChangeMaps.setBlock]) (fun k hk => by simp [ChangeMaps.setBlock, Array.getElem?_setIfInBounds, Ne.symm hk]) ⟨rfl, rfl, bm, q3, ?_⟩
          simp [ChangeMaps.setBlock, Array.getElem?_setIfInBounds, hlt, e4]
  · cases h
noncomputable def rangeM (P : Program) (m : Mini) (t : TypeId) (x : Value) : Option (Value × Mini) :=
  match P.underlying t, x with
  | some (.map _ _), .map (some k) => match m.mapAt k with
    | some (_, clock) => match m.new (.mapIter (some k) clock #[] clock) with
      | some (n, m') => some (.pointer (some ⟨n, 0, none⟩), m')
      | none => none
    | none => none
  | some (.map _ _), .map none => match m.new (.mapIter none 0 #[] 0) with
    | some (n, m') => some (.pointer (some ⟨n, 0, none⟩), m')
    | none => none
  | _, _ => none
theorem rangeM_spec {P : Program} {w0 : Base} {w : World} {ρ : Nm} {m m' : Mini} {t : TypeId} {x x' v : Value} (hw : WR P w0 ρ m w) (hx : VR ρ x x') (h : rangeM P m t x = some (v, m')) : DoneV P w0 ρ (Instr.range t x') w v m' := by
  unfold rangeM at h
  split at h
  · rename_i kt et k hu
    split at h
    case h_2 => cases h
    rename_i es clock hm
    split at h
    case h_2 => cases h
    rename_i n m1 hn
    injection h with h; injection h with e1 e2; subst e1 e2
    obtain ⟨b, hb, rfl⟩ := hx.map_inv
    obtain ⟨_, _, _, es', r1, r2⟩ := hw.mapRow hm hb
    obtain ⟨ρ', x1, x2, x3⟩ := hw.new (e := 0) (q := .mapIter (some b) clock #[] clock) hn ⟨rfl, rfl, b, hb, rfl⟩
    refine ⟨ρ', .pointer (some ⟨w.heap.size, 0, none⟩), _, x1, ?_, .ptr _ 0 _ 0 0 x2, x3⟩
    simp only [Instr.range, Sem.run_bind, run_underlying hu, Result.andThen_ok]
    simp [getObj, Sem.run, r1, Result.andThen, newObj]
  · rename_i kt et hu
    split at h
    case h_2 => cases h
    rename_i n m1 hn
    injection h with h; injection h with e1 e2; subst e1 e2
    have := hx.pure rfl; subst this
    obtain ⟨ρ', x1, x2, x3⟩ := hw.new (e := 0) (q := .mapIter none 0 #[] 0) hn ⟨rfl, rfl, rfl⟩
    refine ⟨ρ', .pointer (some ⟨w.heap.size, 0, none⟩), _, x1, ?_, .ptr _ 0 _ 0 0 x2, x3⟩
    simp only [Instr.range, Sem.run_bind, run_underlying hu, Result.andThen_ok]
    simp [Sem.run, Result.andThen, newObj]
  · cases h
noncomputable def lastN : List Nat → Option Nat
  | [] => none
  | x :: l => match l with
    | [] => some x
    | _ => lastN l
theorem lastN_eq : ∀ l : List Nat, lastN l = l.getLast?
  | [] => rfl
  | [x] => rfl
  | x :: y :: l => by unfold lastN; rw [lastN_eq (y :: l)]; simp
noncomputable def findE (n : Nat) : List MapEntry → Option MapEntry
  | [] => none
  | e :: l => if e.born = n then some e else findE n l
theorem findE_eq (n : Nat) : ∀ l : List MapEntry, findE n l = l.find? fun e => e.born == n
  | [] => rfl
  | e :: l => by
    unfold findE
    by_cases h : e.born = n
    · simp [h]
    · simp [h, findE_eq n l]
theorem find_ER {ρ : Nm} {n : Nat} {e : MapEntry} : ∀ {l l' : List MapEntry}, l.length = l'.length → (∀ (i : Nat) (en : MapEntry), l[i]? = some en → ∃ en', l'[i]? = some en' ∧ en'.key = en.key ∧ pureV en.key = true ∧ en'.born = en.born ∧ VR ρ en.val en'.val) →
    findE n l = some e → ∃ e', findE n l' = some e' ∧ e'.key = e.key ∧ pureV e.key = true ∧ VR ρ e.val e'.val
  | [], _, _, _, h => by cases h
  | x :: l, [], hl, _, _ => by simp at hl
  | x :: l, x' :: l', hl, hr, h => by
    obtain ⟨en', a, b, c, d, f⟩ := hr 0 x rfl
    injection a with a; subst a
    unfold findE at h ⊢
    rw [d]
    split at h
    · rename_i hx
      injection h with h; subst h
      rw [if_pos hx]
      exact ⟨_, rfl, b, c, f⟩
    · rename_i hx
      rw [if_neg hx]
      exact find_ER (by simpa using hl) (fun i en hen => hr (i + 1) en hen) h
noncomputable def entryM (m : Mini) (x : Value) : Option Value :=
  match x with
  | .pointer (some ⟨n, 0, none⟩) => match m.iterAt n with
    | some (some k, s, seen, c) => match lastN seen.toList, m.mapAt k with
      | some stamp, some (es, clock) => if clock = c then match findE stamp es.toList with
          | some e => some (.tuple #[e.key, e.val])
          | none => none
        else none
      | _, _ => none
    | _ => none
  | _ => none
theorem entryM_spec {P : Program} {w0 : Base} {w : World} {ρ : Nm} {m : Mini} {x x' v : Value} (hw : WR P w0 ρ m w) (hx : VR ρ x x') (h : entryM m x = some v) : ∃ v', (Instr.entry x').run P w = .ok v' w ∧ VR ρ v v' := by
  unfold entryM at h
  split at h
  case h_2 => cases h
  rename_i n
  obtain ⟨b, d, e, h1, h2, h3⟩ := hx.ptr_inv rfl
  split at h
  case h_2 => cases h
  rename_i k s seen c hit
  split at h
  case h_2 => cases h
  rename_i stamp es clock hl hm
  split at h
  case isFalse => cases h
  rename_i hc
  split at h
  case h_2 => cases h
  rename_i en hen
  injection h with h; subst h
  obtain ⟨b', d', e', g1, g2, g3⟩ := hw.real (iterAt_spec hit) h2
  rw [h2] at g1; injection g1 with g1; injection g1 with g1 g4; injection g4 with g4 g5; subst g1 g4 g5
  obtain ⟨q1, q2, bm, q3, q4⟩ := g3
  subst q1 q2 hc
  obtain ⟨_, _, _, es', r1, r2⟩ := hw.mapRow hm q3
  obtain ⟨en', f1, f2, f3, f4⟩ := find_ER (l' := es'.toList) (by simpa using r2.1) (fun i en hen => by
    rw [Array.getElem?_toList] at hen
    obtain ⟨en', a⟩ := r2.2 i en hen
    exact ⟨en', by rw [Array.getElem?_toList]; exact a.1, a.2⟩) hen
  subst h3
  refine ⟨.tuple #[en'.key, en'.val], ?_, ?_⟩
  · have hb : seen.back? = some stamp := by rw [lastN_eq] at hl; rw [← hl]; simp [Array.getLast?_toList]
    have hf : es'.find? (fun e => e.born == stamp) = some en' := by rw [← Array.find?_toList, ← findE_eq]; exact f1
    simp only [Instr.entry, getObj, Sem.run_bind, Sem.run, q4, r1, Result.andThen, hb, bne_self_eq_false, Bool.false_eq_true, if_false, hf, Nat.add_zero]
    rfl
  · rw [f2]
    exact .tuple _ _ rfl (LR.ar (.cons (.same _ f3) (.cons f4 .nil))).get

/-! ### Operations with several outcomes -/
noncomputable def CallN := Fn → Array Value → Mini → Option (List (Value × Mini))
noncomputable def BackL (P : Program) (w0 : Base) (ρ : Nm) (L : List (Value × Mini)) (e : Ending) (w' : World) : Prop := ∃ r ∈ L, Back P w0 ρ r.1 r.2 e w'
structure CallNS (P : Program) (call : CallN) : Prop where
  prog : P = Env.prog
  fn : ∀ g args m L, call (.func g) args m = some L → ∀ w0 ρ args' w, AR ρ args args' → WR P w0 ρ m w → Calls P g args' w (BackL P w0 ρ L)
  yield : ∀ l args m L, call (.yield l) args m = some L → ∀ w0 ρ args' w b, ρ l = some (b, 0, 0) → AR ρ args args' → WR P w0 ρ m w →
    ∃ f tmps assign body, (Instr.yield b args').run P w = .ok (.round b f tmps assign body) w ∧ RoundIn Fence.wide 0 P b f tmps assign body w (BackL P w0 ρ L)
noncomputable def evOpN (P : Program) (call : CallN) (a : MA) (m : Mini) (o : Oper) : Option (List (Value × Mini)) :=
  match o.op with
  | .range t x => match evalM a x with
    | some u => one (rangeM P m t u)
    | none => none
  | .next x s => if s then none else match evalM a x with
    | some u => nextM m u
    | none => none
  | .entry x => match evalM a x with
    | some u => match entryM m u with
      | some v => some [(v, m)]
      | none => none
    | none => none
  | .call c => match c.callee with
    | .value f => match evalM a f, argsM a c.args.toList with
      | some (.func (.func g) first cap), some vs => if canEnter P g then call (.func g) (first ++ vs.toArray ++ cap) m else none
      | some (.func (.yield l) first cap), some vs => if first.isEmpty && cap.isEmpty then call (.yield l) vs.toArray m else none
      | _, _ => none
    | _ => one (opM P a m o)
  | _ => one (opM P a m o)
noncomputable def SemOKN (P : Program) (w0 : Base) (ρ : Nm) (s : Sem Next) (w : World) (L : List (Value × Mini)) : Prop :=
  (∃ r ∈ L, DoneN P w0 ρ s w r.1 r.2) ∨ (∃ g args, s.run P w = .ok (.enter g args) w ∧ Calls P g args w (BackL P w0 ρ L)) ∨
  ∃ b f tmps assign body, s.run P w = .ok (.round b f tmps assign body) w ∧ RoundIn Fence.wide 0 P b f tmps assign body w (BackL P w0 ρ L)
theorem SemOKN.wp {P : Program} {w0 : Base} {w : World} {ρ : Nm} {r : Option Nat} {a' : Act} {o : Oper} {L : List (Value × Mini)} {K : Act → World → Prop} {Q : Exit → Act → World → Prop} (h : SemOKN P w0 ρ (execOp a'.eval o) w L)
    (hK : ∀ y ∈ L, ∀ ρ' v' w', Ext ρ ρ' → VR ρ' y.1 v' → WR P w0 ρ' y.2 w' → K (a'.put o.dst v') w') : o.wpIn (WF r) 0 P a' w K Q := by
  rcases h with ⟨y, hy, h⟩ | ⟨g, args, h1, h2⟩ | ⟨b, f, tmps, assign, body, h1, h2⟩
  · exact SemOK.wp (.inl h) (hK y hy)
  · refine ⟨fun _ _ => trivial, ?_⟩
    rw [semAt_run h1 (by intro d hd; cases hd)]
    refine ⟨fun h => (by cases h), WF.calls (h2.mono ?_)⟩
    rintro e w' ⟨y, hy, ρ', v', rfl, q1, q2, q3⟩
    exact hK y hy ρ' v' w' q1 q2 q3
  · refine ⟨fun _ _ => trivial, ?_⟩
    rw [semAt_run h1 (by intro d hd; cases hd)]
    refine ⟨fun h => (by cases h), RoundIn.mono (F := WF r) h2 ?_⟩
    rintro e w' ⟨y, hy, ρ', v', rfl, q1, q2, q3⟩
    exact hK y hy ρ' v' w' q1 q2 q3
theorem evOpN_sem {P : Program} {call : CallN} (hcall : CallNS P call) {w0 : Base} {w : World} {ρ : Nm} {a : MA} {a' : Act} {m : Mini} {o : Oper} {L : List (Value × Mini)} (h : ActR ρ a a') (hw : WR P w0 ρ m w) (hv : evOpN P call a m o = some L) : SemOKN P w0 ρ (execOp a'.eval o) w L := by
  have low : one (opM P a m o) = some L → SemOKN P w0 ρ (execOp a'.eval o) w L := fun hv => by
    obtain ⟨⟨v, m'⟩, h1, rfl⟩ := one_spec hv
    exact .inl ⟨_, List.mem_singleton.2 rfl, opM_done hcall.prog h hw h1⟩
  unfold evOpN at hv
  split at hv
  · rename_i t x hop
    split at hv
    case h_2 => cases hv
    rename_i u hu
    obtain ⟨⟨v, m'⟩, h1, rfl⟩ := one_spec hv
    refine .inl ⟨_, List.mem_singleton.2 rfl, ?_⟩
    have := (rangeM_spec hw (evalM_spec h hu).1 h1).next
    simpa only [execOp, hop] using this
  · rename_i x s hop
    split at hv
    case isTrue => cases hv
    rename_i hs
    split at hv
    case h_2 => cases hv
    rename_i u hu
    obtain ⟨r, hr, v', w', r1, r2, r3⟩ := nextM_spec hw (evalM_spec h hu).1 hv o.type
    refine .inl ⟨r, hr, ρ, .value v', v', w', Ext.refl _, ?_, .inl rfl, r2, r3⟩
    have : s = false := by simpa using hs
    subst this
    simp only [execOp, hop, Sem.run_bind, r1, Result.andThen_ok, Sem.run_pure]
  · rename_i x hop
    split at hv
    case h_2 => cases hv
    rename_i u hu
    split at hv
    case h_2 => cases hv
    rename_i v hev
    injection hv with hv; subst hv
    obtain ⟨v', r1, r2⟩ := entryM_spec hw (evalM_spec h hu).1 hev
    refine .inl ⟨_, List.mem_singleton.2 rfl, ρ, .value v', v', w, Ext.refl _, ?_, .inl rfl, r2, hw⟩
    simp only [execOp, hop, Sem.run_bind, r1, Result.andThen_ok, Sem.run_pure]
  · rename_i c hop
    split at hv
    · rename_i f hcal
      split at hv
      · rename_i g first cap vs hf hargs
        split at hv
        · rename_i hcan
          obtain ⟨f', ys, us, h1, h2, h3, h4⟩ := (evalM_spec h hf).1.func_inv
          have := h4 rfl; subst this
          have har := args_ar h hargs
          have hrun : (execOp a'.eval o).run P w = .ok (.enter g (ys ++ c.args.map a'.eval ++ us)) w := by
            simp only [execOp, hop, resolve, hcal, h1, Deferred.ofValue, Sem.run_bind, Sem.run_pure, Result.andThen_ok, invoke]
            exact run_callFunc hcan _ w
          exact .inr (.inl ⟨g, _, hrun, hcall.fn g _ m L hv w0 ρ _ w ((h2.append har).append h3) hw⟩)
        · cases hv
      · rename_i l first cap vs hf hargs
        split at hv
        · obtain ⟨b, h1, h2, h3, h4⟩ := (evalM_spec h hf).1.yield_inv
          have har := args_ar h hargs
          obtain ⟨f1, tmps, assign, body, hy, hr⟩ := hcall.yield l _ m L hv w0 ρ _ w b h1 har hw
          refine .inr (.inr ⟨b, f1, tmps, assign, body, ?_, hr⟩)
          simp only [execOp, hop, resolve, hcal, h4, Deferred.ofValue, Sem.run_bind, Sem.run_pure, Result.andThen_ok, invoke]
          simpa using hy
        · cases hv
      · cases hv
    · exact low hv
  · exact low hv
noncomputable def ev1N (P : Program) (call : CallN) (ops : Array Oper) (i : Nat) (a : MA) (m : Mini) : Option (List (MA × Mini)) :=
  match ops[i]? with
  | none => some [(a, m)]
  | some o => if gOK ops a o then (if Region.wanted o (yieldF ops a) then (match evOpN P call a m o with
      | some L => bindL (fun r => forceV r.1 fun v => openM r.2 fun m' => openAct (putF a o.dst v) fun a => some [(a, m')]) L
      | none => none)
    else openAct (putF a o.dst undef) fun a => some [(a, m)]) else none
theorem ev1N_wp {P : Program} {r : Option Nat} {call : CallN} (hcall : CallNS P call) {ops : Array Oper} {i : Nat} {w0 : Base} {w : World} {ρ : Nm} {a : MA} {a' : Act} {m : Mini} {L : List (MA × Mini)} {K : Act → World → Prop} {Q : Exit → Act → World → Prop} (h : ActR ρ a a') (hw : WR P w0 ρ m w) (hv : ev1N P call ops i a m = some L)
    (hK : ∀ y ∈ L, ∀ ρ' a1' w', Ext ρ ρ' → ActR ρ' y.1 a1' → WR P w0 ρ' y.2 w' → K a1' w') : wpOpIn (WF r) 0 P ops Q i K a' w := by
  unfold ev1N at hv
  simp only [forceV_eq, openM_eq, openAct_eq] at hv
  unfold wpOpIn
  split at hv
  · rename_i hn
    injection hv with hv; subst hv
    rw [hn]
    exact hK _ (List.mem_singleton.2 rfl) ρ a' w (Ext.refl _) h hw
  · rename_i o ho
    rw [ho]
    dsimp only
    split at hv
    case isFalse => cases hv
    rename_i hgok
    rw [wanted_rel h ops o hgok]
    split at hv
    · rename_i hwt
      rw [if_pos hwt]
      split at hv
      · rename_i L' hev
        refine (evOpN_sem hcall h hw hev).wp fun y hy ρ' v' w' x1 y1 z1 => ?_
        obtain ⟨u, hu, hin⟩ := bindL_spec hv y hy
        injection hu with hu; subst hu
        exact hK _ (hin _ (List.mem_singleton.2 rfl)) ρ' _ w' x1 ((h.ext x1).put o.dst y1) z1
      · cases hv
    · rename_i hwt
      rw [if_neg hwt]
      injection hv with hv; subst hv
      exact ⟨fun _ _ => trivial, hK _ (List.mem_singleton.2 rfl) ρ _ w (Ext.refl _) (h.put o.dst (.same _ pureV_undef)) hw⟩
noncomputable def evSeqN (P : Program) (call : CallN) (ops : Array Oper) : List Nat → MA → Mini → Option (List (MA × Mini))
  | [], a, m => some [(a, m)]
  | i :: l, a, m => match ev1N P call ops i a m with
    | some L => bindL (fun r => evSeqN P call ops l r.1 r.2) L
    | none => none
theorem evSeqN_wp {P : Program} {r : Option Nat} {call : CallN} (hcall : CallNS P call) {ops : Array Oper} {w0 : Base} {Q : Exit → Act → World → Prop} : ∀ (l : List Nat) {w : World} {ρ : Nm} {a : MA} {a' : Act} {m : Mini} {L : List (MA × Mini)}, ActR ρ a a' → WR P w0 ρ m w → evSeqN P call ops l a m = some L →
    (∀ y ∈ L, ∀ ρ' a1' w', Ext ρ ρ' → ActR ρ' y.1 a1' → WR P w0 ρ' y.2 w' → Q .normal a1' w') → wpOpsIn (WF r) 0 P ops Q l a' w
  | [], w, ρ, a, a', m, L, h, hw, hv, hK => by
    simp only [evSeqN, Option.some.injEq] at hv
    subst hv
    exact hK _ (List.mem_singleton.2 rfl) ρ a' w (Ext.refl _) h hw
  | i :: l, w, ρ, a, a', m, L, h, hw, hv, hK => by
    rw [wpOpsIn_cons]
    simp only [evSeqN] at hv
    split at hv
    · rename_i L' h2
      refine ev1N_wp hcall h hw h2 fun y hy ρ' a2' w' x1 y1 z1 => ?_
      obtain ⟨u, hu, hin⟩ := bindL_spec hv y hy
      exact evSeqN_wp hcall l y1 z1 hu fun q hq ρ'' a1' w'' x' y' z' => hK q (hin q hq) ρ'' a1' w'' (x1.trans x') y' z'
    · cases hv
theorem roundsIn_up {F : Fence} {n : Nat} {P : Program} {c : Code} {Q : Exit → Act → World → Prop} : ∀ {m k : Nat} {a : Act} {w : World}, m ≤ k → Code.roundsIn F n P c Q m a w → Code.roundsIn F n P c Q k a w
  | 0, _, _, _, _, h => h.elim
  | m + 1, 0, _, _, hle, _ => by omega
  | m + 1, k + 1, a, w, hle, h => by
    rw [roundsIn_succ] at h ⊢
    refine wpIn_mono h fun e a w hq => ?_
    cases e <;> first | exact roundsIn_up (Nat.le_of_succ_le_succ hle) hq | exact hq
theorem common_bound {α : Type} {p : α → Nat → Prop} (mono : ∀ x m k, m ≤ k → p x m → p x k) : ∀ (l : List α), (∀ x ∈ l, ∃ M, p x M) → ∃ M, ∀ x ∈ l, p x M
  | [], _ => ⟨0, fun x hx => by cases hx⟩
  | y :: l, h => by
    obtain ⟨M, hM⟩ := common_bound mono l (fun x hx => h x (List.mem_cons_of_mem _ hx))
    obtain ⟨N, hN⟩ := h y (List.mem_cons_self ..)
    refine ⟨max M N, fun x hx => ?_⟩
    rcases List.mem_cons.1 hx with rfl | hx
    · exact mono _ _ _ (Nat.le_max_right ..) hN
    · exact mono _ _ _ (Nat.le_max_left ..) (hM x hx)
noncomputable def onNormal (k : MA → Mini → Option (List (XM × MA × Mini))) (r : XM × MA × Mini) : Option (List (XM × MA × Mini)) :=
  match r.1 with
  | .normal => k r.2.1 r.2.2
  | x => some [(x, r.2.1, r.2.2)]
noncomputable def outBlock (id : Nat) (r : XM × MA × Mini) : XM × MA × Mini :=
  match r.1 with
  | .exit id' => if id' = id then (.normal, r.2.1, r.2.2) else (.exit id', r.2.1, r.2.2)
  | x => (x, r.2.1, r.2.2)
noncomputable def evCodeN (P : Program) (call : CallF) (calln : CallN) (rd : Option Nat) (g : FuncId) : Nat → List Bool → Code → MA → Mini → Option (List (XM × MA × Mini))
  | 0, _, _, _, _ => none
  | f + 1, p, c, a, m =>
    match c with
    | .skip => some [(.normal, a, m)]
    | .label _ => some [(.normal, a, m)]
    | .region _ ops draw =>
      if draw then
        if Region.noSelect ops && backB ops then
          match forceN m.fresh fun base => evRuns P call ops base m.pre m.ctr ops.size [{ listed := Array.replicate ops.size false, a, m, E := [] }] with
          | some (a1, m1) => openM { m1 with ctr := m1.ctr + ops.size } fun m2 => some [(.normal, a1, m2)]
          | none => none
        else none
      else match evSeqN P calln ops (List.range ops.size) a m with
        | some L => some (L.map fun r => (.normal, r.1, r.2))
        | none => none
    | .seq x y => match evCodeN P call calln rd g f (false :: p) x a m with
      | some L => bindL (onNormal fun a1 m1 => evCodeN P call calln rd g f (true :: p) y a1 m1) L
      | none => none
    | .cond x t e => match evalM a x with
      | some (.bool b) => evCodeN P call calln rd g f ((!b) :: p) (if b then t else e) a m
      | _ => none
    | .block id x => match evCodeN P call calln rd g f (false :: p) x a m with
      | some L => some (L.map (outBlock id))
      | none => none
    | .loop x => match evCodeN P call calln rd g f (false :: p) x a m with
      | some L => bindL (onNormal fun a1 m1 => evCodeN P call calln rd g f p (.loop x) a1 m1) L
      | none => none
    | .scope x => evCodeN P call calln rd g f (false :: p) x a m
    | .exit id => some [(.exit id, a, m)]
    | .ret => some [(.ret, a, m)]
    | .rangeFunc q ps _ _ => match evalM a q with
      | some (.func (.func gf) first cap) =>
        if canEnter P gf then match enterM m rd with
          | some (d, m1, mark) => match forceA a.arr fun ts => m1.new (.loop { state := .ready, pending := none, fn := g, tmps := ts, params := ps, assign := encP p, body := .skip, defers := d }) with
            | some (l, m2) => match openM m2 fun m2 => calln (.func gf) (first ++ #[.func (.yield l) #[] #[]] ++ cap) m2 with
              | some L => bindL (fun y : Value × Mini => match y.2.loopAt l with
                | some r => if r.state ≠ .busy ∧ l < 2 ^ 249 then match jumpX r.pending with
                    | some x => openM (y.2.upd l (.loop { r with state := .exhausted })) fun m4 => some [(x, { t := a.t, n := a.n, defers := mark ++ a.defers }, m4)]
                    | none => none
                  else none
                | none => none) L
              | none => none
            | none => none
          | none => none
        else none
      | _ => none
    | _ => none
abbrev OutK (P : Program) (w0 : Base) (ρ : Nm) (Q : Exit → Act → World → Prop) (L : List (XM × MA × Mini)) : Prop := ∀ y ∈ L, ∀ ρ' a1' w', Ext ρ ρ' → ActR ρ' y.2.1 a1' → WR P w0 ρ' y.2.2 w' → Q y.1.out a1' w'
theorem evCodeN_wp {P : Program} {call : CallF} {calln : CallN} (hm : P.follows .mixedOrders = true) (hcall : CallS P call) (hcalln : CallNS P calln) {w0 : Base} {rd rr : Option Nat} {g : FuncId} : ∀ (f : Nat) (p : List Bool) (c : Code) (a : MA) (m : Mini) (L : List (XM × MA × Mini)), codeAt P g p = some c → evCodeN P call calln rd g f p c a m = some L →
    ∃ M : Nat, ∀ (Q : Exit → Act → World → Prop) (w : World) (ρ : Nm) (a' : Act), RD ρ rd rr → ActR ρ a a' → WR P w0 ρ m w → OutK P w0 ρ Q L →
      c.wpIn (WF rr) 0 P Q a' w ∧ ∀ b, c = .loop b → Code.roundsIn (WF rr) 0 P b Q M a' w
  | 0, p, c, a, m, L, hat, h => by simp [evCodeN] at h
  | f + 1, p, c, a, m, L, hat, h => by
    have ihM := evCodeN_wp hm hcall hcalln (w0 := w0) (rd := rd) (rr := rr) (g := g) f
    have ih : ∀ (p : List Bool) (c : Code) (a : MA) (m : Mini) (L : List (XM × MA × Mini)), codeAt P g p = some c → evCodeN P call calln rd g f p c a m = some L →
      ∀ (Q : Exit → Act → World → Prop) (w : World) (ρ : Nm) (a' : Act), RD ρ rd rr → ActR ρ a a' → WR P w0 ρ m w → OutK P w0 ρ Q L → c.wpIn (WF rr) 0 P Q a' w :=
        fun p c a m L h1 h2 Q w ρ a' h3 h4 h5 h6 => (ihM p c a m L h1 h2).elim fun M hM => (hM Q w ρ a' h3 h4 h5 h6).1
    cases c with
    | skip =>
      refine ⟨0, fun Q w ρ a' hrd ha hw hK => ?_⟩
      simp only [evCodeN, Option.some.injEq] at h
      subst h
      exact ⟨wpIn_skip (hK _ (List.mem_singleton.2 rfl) ρ a' w (Ext.refl _) ha hw), fun b e => by cases e⟩
    | label l =>
      refine ⟨0, fun Q w ρ a' hrd ha hw hK => ?_⟩
      simp only [evCodeN, Option.some.injEq] at h
      subst h
      exact ⟨wpIn_label (hK _ (List.mem_singleton.2 rfl) ρ a' w (Ext.refl _) ha hw), fun b e => by cases e⟩
    | exit id =>
      refine ⟨0, fun Q w ρ a' hrd ha hw hK => ?_⟩
      simp only [evCodeN, Option.some.injEq] at h
      subst h
      exact ⟨wpIn_exit (hK _ (List.mem_singleton.2 rfl) ρ a' w (Ext.refl _) ha hw), fun b e => by cases e⟩
    | ret =>
      refine ⟨0, fun Q w ρ a' hrd ha hw hK => ?_⟩
      simp only [evCodeN, Option.some.injEq] at h
      subst h
      exact ⟨wpIn_ret (hK _ (List.mem_singleton.2 rfl) ρ a' w (Ext.refl _) ha hw), fun b e => by cases e⟩
    | region id ops draw =>
      refine ⟨0, fun Q w ρ a' hrd ha hw hK => ?_⟩
      refine ⟨?_, fun b e => by cases e⟩
      simp only [evCodeN] at h
      cases draw with
      | true =>
        rw [if_pos rfl] at h
        split at h
        · rename_i hns
          rw [Bool.and_eq_true] at hns
          rw [forceN_eq] at h
          split at h
          · rename_i a2 m2 h2
            rw [openM_eq] at h
            simp only [Option.some.injEq] at h
            subst h
            refine wpIn_region_any hm ?_
            refine evRuns_wp hcall hns.1 hns.2 _ _ _ _ h2 _ (List.mem_singleton.2 rfl) _ _ _ _ _ (Inv.start ha (hw.drew _)) ?_ fun ρ' a1' w' x y z => hK _ (List.mem_singleton.2 rfl) ρ' a1' w' x y (z.names _ _)
            rw [Array.toList_replicate, cntF_replicate]; exact Nat.le_refl _
          · cases h
        · cases h
      | false =>
        rw [if_neg (by simp)] at h
        split at h
        · rename_i L' h2
          injection h with h; subst h
          exact wpIn_region (evSeqN_wp hcalln _ ha hw h2 fun y hy ρ' a1' w' x1 y1 z1 => hK _ (List.mem_map.2 ⟨y, hy, rfl⟩) ρ' a1' w' x1 y1 z1)
        · cases h
    | seq s t =>
      refine ⟨0, fun Q w ρ a' hrd ha hw hK => ?_⟩
      refine ⟨?_, fun b e => by cases e⟩
      simp only [evCodeN] at h
      have c0 := codeAt_child hat false (x := s) rfl
      have c1 := codeAt_child hat true (x := t) rfl
      split at h
      case h_2 => cases h
      rename_i L' h2
      refine wpIn_seq (ih _ _ _ _ _ c0 h2 _ w ρ a' hrd ha hw fun y hy ρ' a2' w' x1 y1 z1 => ?_)
      obtain ⟨u, hu, hin⟩ := bindL_spec h y hy
      obtain ⟨yx, ya, ym⟩ := y
      unfold onNormal at hu
      dsimp only at hu y1 z1
      split at hu
      · exact ih _ _ _ _ _ c1 hu Q w' ρ' a2' (hrd.ext x1) y1 z1 fun q hq ρ'' a1' w'' x' y' z' => hK q (hin q hq) ρ'' a1' w'' (x1.trans x') y' z'
      · rename_i hne
        injection hu with hu; subst hu
        have hk := hK _ (hin _ (List.mem_singleton.2 rfl)) ρ' a2' w' x1 y1 z1
        cases yx with
        | normal => exact absurd rfl hne
        | exit id => exact hk
        | ret => exact hk
    | cond o t e =>
      refine ⟨0, fun Q w ρ a' hrd ha hw hK => ?_⟩
      refine ⟨?_, fun b e => by cases e⟩
      simp only [evCodeN] at h
      split at h
      · rename_i b hb
        have hbe := (evalM_spec ha hb).1.pure rfl
        exact wpIn_cond hbe (ih _ _ _ _ _ (codeAt_child hat (!b) (by cases b <;> rfl)) h Q w ρ a' hrd ha hw hK)
      · cases h
    | block id s =>
      refine ⟨0, fun Q w ρ a' hrd ha hw hK => ?_⟩
      refine ⟨?_, fun b e => by cases e⟩
      simp only [evCodeN] at h
      have c0 := codeAt_child hat false (x := s) rfl
      split at h
      case h_2 => cases h
      rename_i L' h2
      injection h with h; subst h
      refine wpIn_block (ih _ _ _ _ _ c0 h2 _ w ρ a' hrd ha hw fun y hy ρ' a2' w' x1 y1 z1 => ?_)
      have hk := hK (outBlock id y) (List.mem_map.2 ⟨y, hy, rfl⟩) ρ' a2' w' x1
      obtain ⟨yx, ya, ym⟩ := y
      cases yx with
      | normal => exact hk y1 z1
      | ret => exact hk y1 z1
      | exit id' =>
        simp only [XM.out, Exit.inBlock]
        by_cases he : id' = id
        · rw [if_pos he]
          simp only [outBlock, if_pos he] at hk
          exact hk y1 z1
        · rw [if_neg he]
          simp only [outBlock, if_neg he] at hk
          exact hk y1 z1
    | loop s =>
      have c0 := codeAt_child hat false (x := s) rfl
      simp only [evCodeN] at h
      split at h
      case h_2 => cases h
      rename_i L' h2
      obtain ⟨M, hM⟩ := common_bound (p := fun (y : XM × MA × Mini) M => y.1 = .normal → ∀ (Q : Exit → Act → World → Prop) (w : World) (ρ : Nm) (a' : Act), RD ρ rd rr → ActR ρ y.2.1 a' → WR P w0 ρ y.2.2 w → OutK P w0 ρ Q L → Code.roundsIn (WF rr) 0 P s Q M a' w)
        (fun y m k hle hp hn Q w ρ a' a1 a2 a3 a4 => roundsIn_up hle (hp hn Q w ρ a' a1 a2 a3 a4)) L' (fun y hy => by
          obtain ⟨u, hu, hin⟩ := bindL_spec h y hy
          obtain ⟨yx, ya, ym⟩ := y
          cases yx with
          | normal =>
            obtain ⟨M, hM⟩ := ihM _ _ _ _ _ hat hu
            exact ⟨M, fun _ Q w ρ a' a1 a2 a3 a4 => (hM Q w ρ a' a1 a2 a3 fun q hq => a4 q (hin q hq)).2 s rfl⟩
          | exit id => exact ⟨0, fun hn => by cases hn⟩
          | ret => exact ⟨0, fun hn => by cases hn⟩)
      refine ⟨M + 1, fun Q w ρ a' hrd ha hw hK => ?_⟩
      have hr : Code.roundsIn (WF rr) 0 P s Q (M + 1) a' w := by
        rw [roundsIn_succ]
        refine ih _ _ _ _ _ c0 h2 _ w ρ a' hrd ha hw fun y hy ρ' a2' w' x1 y1 z1 => ?_
        have hy' := hM y hy
        obtain ⟨u, hu, hin⟩ := bindL_spec h y hy
        obtain ⟨yx, ya, ym⟩ := y
        cases yx with
        | normal => exact hy' rfl Q w' ρ' a2' (hrd.ext x1) y1 z1 fun q hq ρ'' a1' w'' x' y' z' => hK q hq ρ'' a1' w'' (x1.trans x') y' z'
        | exit id =>
          simp only [onNormal, Option.some.injEq] at hu
          subst hu
          exact hK _ (hin _ (List.mem_singleton.2 rfl)) ρ' a2' w' x1 y1 z1
        | ret =>
          simp only [onNormal, Option.some.injEq] at hu
          subst hu
          exact hK _ (hin _ (List.mem_singleton.2 rfl)) ρ' a2' w' x1 y1 z1
      exact ⟨wpIn_loop_rounds (M + 1) hr, fun b e => by injection e with e; subst e; exact hr⟩
    | scope s =>
      refine ⟨0, fun Q w ρ a' hrd ha hw hK => ?_⟩
      refine ⟨?_, fun b e => by cases e⟩
      simp only [evCodeN] at h
      refine wpIn_scope (ih _ _ _ _ _ (codeAt_child hat false rfl) h _ w ρ a' hrd ha hw fun y hy ρ' a2' w' x1 y1 z1 => ?_)
      have hk := hK y hy ρ' a2' w' x1 y1 z1
      obtain ⟨yx, ya, ym⟩ := y
      cases yx <;> exact hk
    | rangeFunc q ps assign body =>
      refine ⟨0, fun Q w ρ a' hrd ha hw hK => ?_⟩
      refine ⟨?_, fun b e => by cases e⟩
      simp only [evCodeN] at h
      split at h
      case h_2 => cases h
      rename_i gf first cap hq
      split at h
      case isFalse => cases h
      rename_i hcan
      split at h
      case h_2 => cases h
      rename_i d m2 mark he
      split at h
      case h_2 => cases h
      rename_i l m3 hn
      rw [forceA_eq] at hn
      rw [openM_eq] at h
      split at h
      case h_2 => cases h
      rename_i L' hc
      obtain ⟨ρ1, bd, w1, mark', x1, hd, hw1, hmark, hrun⟩ := enter_run hw hrd he
      have ha1 := ha.ext x1
      refine wpIn_rangeFunc fun fn _ => ?_
      obtain ⟨ρ2, x2, hl2, hw2⟩ := hw1.new (e := 0) (q := .loop { state := .ready, pending := none, fn, tmps := a'.tmps, params := ps, assign, body, defers := bd }) hn
        ⟨rfl, rfl, _, rfl, ⟨rfl, rfl, rfl, ha1.arr, ⟨q, by dsimp only; rw [decP_encP]; exact hat⟩, ⟨bd, hd, rfl⟩⟩⟩
      obtain ⟨f', ys, us, h1, h2, h3, h4⟩ := (evalM_spec ha hq).1.func_inv
      have := h4 rfl; subst this
      have har : AR ρ2 (first ++ #[.func (.yield l) #[] #[]] ++ cap) (ys ++ #[.func (.yield w1.heap.size) #[] #[]] ++ us) :=
        ((h2.ext (x1.trans x2)).append (LR.ar (.cons (.yield l _ hl2) .nil))).append (h3.ext (x1.trans x2))
      refine ⟨w1.heap.size, mark', { w1 with heap := w1.heap.push (.loop { state := .ready, pending := none, fn, tmps := a'.tmps, params := ps, assign, body, defers := bd }) }, { target := .fn (.func gf) us, args := ys ++ #[.func (.yield w1.heap.size) #[] #[]] }, { w1 with heap := w1.heap.push (.loop { state := .ready, pending := none, fn, tmps := a'.tmps, params := ps, assign, body, defers := bd }) }, gf, ys ++ #[.func (.yield w1.heap.size) #[] #[]] ++ us, { w1 with heap := w1.heap.push (.loop { state := .ready, pending := none, fn, tmps := a'.tmps, params := ps, assign, body, defers := bd }) },
        hrun fn a'.tmps ps assign body, ?_, fun _ _ => trivial, ?_, fun h => (by cases h), ?_⟩
      · simp only [resolve, h1, Deferred.ofValue, Sem.run_bind, Sem.run_pure, Result.andThen_ok]
        simp [Act.eval]
      · simp only [invoke]; exact run_callFunc hcan _ _
      · refine WF.calls ((hcalln.fn gf _ _ L' hc w0 ρ2 _ _ har hw2).mono ?_)
        rintro e w' ⟨y, hy, ρ3, v', rfl, x3, y3, z3⟩
        obtain ⟨u, hu, hin⟩ := bindL_spec h y hy
        split at hu
        case h_2 => cases hu
        rename_i r hl
        split at hu
        case isFalse => cases hu
        rename_i hcond
        split at hu
        case h_2 => cases hu
        rename_i xx hj
        rw [openM_eq] at hu
        simp only [Option.some.injEq] at hu
        subst hu
        obtain ⟨hg, r', hb', hlr⟩ := z3.loopRow hl (x3 _ _ hl2)
        have hp : r'.pending = xx.jump := hlr.pending.trans (jumpX_spec hj)
        refine ⟨xx.jump, _, (run_endLoop hb' (by rw [hlr.state]; exact hcond.1)).trans (congrArg (fun j => Result.ok j (w'.putObj w1.heap.size (.loop { r' with state := .exhausted }))) hp), ?_⟩
        have hfin := z3.putLoop (q := { r with state := .exhausted }) (q' := { r' with state := .exhausted }) hg (x3 _ _ hl2) hcond.2 hb' ⟨rfl, hlr.pending, hlr.params, hlr.tmps, hlr.code, hlr.defers⟩
        have hx : Ext ρ ρ3 := (x1.trans x2).trans x3
        have hact : ActR ρ3 { t := a.t, n := a.n, defers := mark ++ a.defers } { a' with defers := mark' ++ a'.defers } :=
          ⟨(ha.ext hx).size, (ha.ext hx).le, (ha.ext hx).get, (hmark.ext (x2.trans x3)).append (ha.ext hx).defs⟩
        have hk := hK _ (hin _ (List.mem_singleton.2 rfl)) ρ3 _ _ hx hact hfin
        cases xx with
        | normal => exact hk
        | exit id => exact wpIn_exit hk
        | ret => exact wpIn_ret hk
    | _ => simp [evCodeN] at h
theorem evCodeN_run {P : Program} {call : CallF} {calln : CallN} (hm : P.follows .mixedOrders = true) (hcall : CallS P call) (hcalln : CallNS P calln) {w0 : Base} {rd rr : Option Nat} {g : FuncId} {f : Nat} {p : List Bool} {c : Code} {a : MA} {m : Mini} {L : List (XM × MA × Mini)} (hat : codeAt P g p = some c) (h : evCodeN P call calln rd g f p c a m = some L)
    {Q : Exit → Act → World → Prop} {w : World} {ρ : Nm} {a' : Act} (hrd : RD ρ rd rr) (ha : ActR ρ a a') (hw : WR P w0 ρ m w) (hK : OutK P w0 ρ Q L) : c.wpIn (WF rr) 0 P Q a' w :=
  (evCodeN_wp hm hcall hcalln f p c a m L hat h).elim fun M hM => (hM Q w ρ a' hrd ha hw hK).1
noncomputable def evRoundN (P : Program) (call : CallF) (calln : CallN) (lt : LoopT) (cf : Nat) (l : Nat) (args : Array Value) (m : Mini) : Option (List (Value × Mini)) :=
  match m.loopAt l with
  | some r => if r.state = .ready ∧ args.size = r.params.size ∧ l < 2 ^ 249 then match codeAt P r.fn (decP r.assign) with
      | some (.rangeFunc _ _ assign body) =>
        match forceA (setAll r.params.toList args.toList r.tmps) fun t => if t.size ≤ 1048576 then openAct (MA.start t t.size []) fun a0 => evCode P call lt (some l) r.fn cf (false :: decP r.assign) assign a0 m else none with
        | some (.normal, a1, m1) => match m1.loopAt l with
          | some r1 => if r1.state = .ready then
              match openM (m1.upd l (.loop { r1 with state := .busy })) fun m2 => evCodeN P call calln (some l) r.fn cf (true :: decP r.assign) body a1 m2 with
              | some L => bindL (fun y : XM × MA × Mini => match y.2.2.loopAt l with
                | some r3 => openM (y.2.2.upd l (.loop { r3 with state := if y.1.jump.isNone then .ready else .done, pending := y.1.jump })) fun m4 => some [(.bool y.1.jump.isNone, m4)]
                | none => none) L
              | none => none
            else none
          | none => none
        | _ => none
      | _ => none
    else none
  | none => none
theorem evRoundN_spec {P : Program} (hm : P.follows .mixedOrders = true) {call : CallF} (hcall : CallS P call) {calln : CallN} (hcalln : CallNS P calln) {lt : LoopT} (hL : LoopsOk P lt) {cf l : Nat} {args : Array Value} {m : Mini} {L : List (Value × Mini)} (h : evRoundN P call calln lt cf l args m = some L) {w0 : Base} {ρ : Nm} {args' : Array Value} {w : World} {b : Nat} (hb : ρ l = some (b, 0, 0)) (har : AR ρ args args') (hw : WR P w0 ρ m w) :
    ∃ f tmps assign body, (Instr.yield b args').run P w = .ok (.round b f tmps assign body) w ∧ RoundIn Fence.wide 0 P b f tmps assign body w (BackL P w0 ρ L) := by
  unfold evRoundN at h
  split at h
  case h_2 => cases h
  rename_i r hl
  split at h
  case isFalse => cases h
  rename_i hcond
  obtain ⟨hst, hsz, hlt⟩ := hcond
  split at h
  case h_2 => cases h
  rename_i q ps assign body hat
  rw [forceA_eq] at h
  split at h
  case h_2 => cases h
  rename_i a1 m1 h1
  split at h1
  case isFalse => cases h1
  rename_i hle
  rw [openAct_eq] at h1
  split at h
  case h_2 => cases h
  rename_i r1 hl1
  split at h
  case isFalse => cases h
  rename_i hst1
  rw [openM_eq] at h
  split at h
  case h_2 => cases h
  rename_i L' h2
  obtain ⟨hg, r', hb', hlr⟩ := hw.loopRow hl hb
  obtain ⟨q', hat'⟩ := hlr.code
  rw [hat] at hat'; injection hat' with hat'; injection hat' with e1 e2 e3 e4; subst e1 e2
  have hy := run_yield (P := P) (args := args') hb' (by rw [hlr.params, ← har.size]; exact hsz)
  refine ⟨_, _, _, _, hy, ?_⟩
  rw [← e3, ← e4]
  have hact : ActR ρ (MA.start (setAll r.params.toList args.toList r.tmps) (setAll r.params.toList args.toList r.tmps).size []) { tmps := (r'.params.zip args').foldl (fun tmps (t, a) => tmps.setIfInBounds t a) r'.tmps, defers := [] } := by
    refine start_act ?_ (Nat.le_refl _) hle rfl ?_
    · rw [← Array.foldl_toList, Array.toList_zip, setAll_eq, hlr.params]
      exact (setAll_ar _ har.toList hlr.tmps).size.symm
    · intro i
      rw [← Array.foldl_toList, Array.toList_zip, setAll_eq, hlr.params]
      exact (setAll_ar _ har.toList hlr.tmps).getD i
  have c0 := codeAt_child hat false (x := assign) rfl
  have c1 := codeAt_child hat true (x := body) rfl
  refine roundIn_of_wpIn (F := Fence.wide) trivial ?_
  refine evCode_run hm hcall hL (rd := some l) (rr := some b) c0 h1 hb hact hw fun ρ1 a1' w1 x1 y1 z1 => ?_
  obtain ⟨hg1, r1', hb1, hlr1⟩ := z1.loopRow hl1 (x1 _ _ hb)
  refine ⟨_, run_beginRound hb1 (by rw [hlr1.state]; exact hst1), ?_⟩
  have hbusy := z1.putLoop (q := { r1 with state := .busy }) (q' := { r1' with state := .busy }) hg1 (x1 _ _ hb) hlt hb1 ⟨rfl, hlr1.pending, hlr1.params, hlr1.tmps, hlr1.code, hlr1.defers⟩
  refine evCodeN_run hm hcall hcalln (rd := some l) (rr := some b) c1 h2 (x1 _ _ hb) y1 hbusy fun y hy ρ2 a2' w2 x2 y2 z2 => ?_
  obtain ⟨u, hu, hin⟩ := bindL_spec h y hy
  split at hu
  case h_2 => cases hu
  rename_i r3 hl3
  rw [openM_eq] at hu
  simp only [Option.some.injEq] at hu
  subst hu
  obtain ⟨x, ya, m3⟩ := y
  dsimp only at hl3 hin y2 z2
  obtain ⟨hg3, r3', hb3, hlr3⟩ := z2.loopRow hl3 (x2 _ _ (x1 _ _ hb))
  have hfin : BackL P w0 ρ L (.returned (.bool x.jump.isNone)) (w2.putObj b (.loop { r3' with state := if x.jump.isNone then .ready else .done, pending := x.jump })) :=
    ⟨_, hin _ (List.mem_singleton.2 rfl), ρ2, _, rfl, x1.trans x2, .same _ rfl, z2.putLoop hg3 (x2 _ _ (x1 _ _ hb)) hlt hb3 ⟨rfl, rfl, hlr3.params, hlr3.tmps, hlr3.code, hlr3.defers⟩⟩
  cases x with
  | normal => exact ⟨_, _, run_endRound none hb3, hfin⟩
  | ret => exact ⟨_, _, run_endRound (some .ret) hb3, hfin⟩
  | exit id => exact ⟨_, _, run_endRound (some (.exit id)) hb3, hfin⟩
noncomputable def evBodyN (P : Program) (call : CallF) (calln : CallN) (cf : Nat) (g : FuncId) (args : Array Value) (m : Mini) : Option (List (Value × Mini)) :=
  match P.funcs[g]? with
  | some fn => match fn.body with
    | some c => if 1048576 < args.size + (fn.ntmps - args.size) then none else match openAct (startM fn args) fun a0 => evCodeN P call calln none g cf [] c a0 m with
      | some L => bindL (fun y : XM × MA × Mini => if xRet y.1 then match takeMarks y.2.2 y.2.1.defers with
        | some m2 => one ((resultsM P fn y.2.1 m2).map (·, m2))
        | none => none
        else none) L
      | none => none
    | none => none
  | none => none
theorem evBodyN_spec {P : Program} (hm : P.follows .mixedOrders = true) {call : CallF} (hcall : CallS P call) {calln : CallN} (hcalln : CallNS P calln) {cf : Nat} {g : FuncId} {args : Array Value} {m : Mini} {L : List (Value × Mini)} (h : evBodyN P call calln cf g args m = some L) {w0 : Base} {ρ : Nm} {args' : Array Value} {w : World} (har : AR ρ args args') (hw : WR P w0 ρ m w) : Calls P g args' w (BackL P w0 ρ L) := by
  unfold evBodyN at h
  split at h
  case h_2 => cases h
  rename_i fn hfn
  split at h
  case h_2 => cases h
  rename_i c hc
  split at h
  · cases h
  rename_i hle
  rw [openAct_eq] at h
  have hact := startM_act (fn := fn) har (Nat.le_of_not_lt hle)
  have hat : codeAt P g [] = some c := by simp only [codeAt, hfn]; exact hc
  refine (callsIn_wide (n := 0)).1 (callsIn_of_wp_marks (F := WF none) hfn hc trivial ?_)
  split at h
  case h_2 => cases h
  rename_i L' h1
  refine evCodeN_run hm hcall hcalln (rd := none) (rr := none) hat h1 trivial hact hw fun y hy ρ' a1' w' x1 y1 z1 => ?_
  obtain ⟨u, hu, hin⟩ := bindL_spec h y hy
  split at hu
  case isFalse => cases hu
  rename_i hx
  split at hu
  case h_2 => cases hu
  rename_i m2 hm2
  obtain ⟨r, hr, rfl⟩ := one_spec hu
  rw [Option.map_eq_some_iff] at hr
  obtain ⟨v, hv, rfl⟩ := hr
  have : LeavesInM (WF none) 0 P fn a1'.tmps (BackL P w0 ρ L) a1'.defers .returning w' := by
    refine takeMarks_spec y1.defs z1 hm2 fun w2 hw2 => ?_
    obtain ⟨v', r1, r2⟩ := resultsM_spec y1 hw2 hv
    exact ⟨v', r1, _, hin _ (List.mem_singleton.2 rfl), ρ', v', rfl, x1, r2, hw2⟩
  obtain ⟨x, ya, ym⟩ := y
  cases x with
  | normal => exact this
  | ret => exact this
  | exit id => cases hx

/-! ### Outcomes are laid together: what differs is dropped -/
noncomputable def dropT : Tr (Option Obj) → Tr (Option Obj)
  | .leaf => .leaf
  | .node none l r => .node none (dropT l) (dropT r)
  | .node (some _) l r => .node (some none) (dropT l) (dropT r)
noncomputable def meetO : Option (Option Obj) → Option (Option Obj) → Option (Option Obj)
  | none, none => none
  | some x, some y => if eqO x y then some x else some none
  | _, _ => some none
noncomputable def meetT : Tr (Option Obj) → Tr (Option Obj) → Tr (Option Obj)
  | .leaf, t => dropT t
  | .node o l r, .leaf => dropT (.node o l r)
  | .node o l r, .node o' l' r' => .node (meetO o o') (meetT l l') (meetT r r')
theorem dropT_get : ∀ (t : Tr (Option Obj)) (n : Nat), (t.get n = none ∧ (dropT t).get n = none) ∨ (dropT t).get n = some none
  | .leaf, n => .inl ⟨rfl, rfl⟩
  | .node none l r, n => by
    unfold dropT Tr.get
    split
    · exact .inl ⟨rfl, rfl⟩
    · split
      · exact dropT_get l _
      · exact dropT_get r _
  | .node (some o) l r, n => by
    unfold dropT Tr.get
    split
    · exact .inr rfl
    · split
      · exact dropT_get l _
      · exact dropT_get r _
theorem meetT_left : ∀ (t u : Tr (Option Obj)) (n : Nat), (meetT t u).get n = t.get n ∨ (meetT t u).get n = some none
  | .leaf, u, n => by
    unfold meetT
    rcases dropT_get u n with h | h
    · exact .inl (by rw [h.2]; rfl)
    · exact .inr h
  | .node o l r, .leaf, n => by
    unfold meetT
    rcases dropT_get (.node o l r) n with h | h
    · exact .inl (by rw [h.2, h.1])
    · exact .inr h
  | .node o l r, .node o' l' r', n => by
    unfold meetT Tr.get
    split
    · cases o <;> cases o' <;> unfold meetO
      · exact .inl rfl
      · exact .inr rfl
      · exact .inr rfl
      · dsimp only; split
        · exact .inl rfl
        · exact .inr rfl
    · split
      · exact meetT_left l l' _
      · exact meetT_left r r' _
theorem meetT_right : ∀ (t u : Tr (Option Obj)) (n : Nat), (meetT t u).get n = u.get n ∨ (meetT t u).get n = some none
  | .leaf, u, n => by
    unfold meetT
    rcases dropT_get u n with h | h
    · exact .inl (by rw [h.2, h.1])
    · exact .inr h
  | .node o l r, .leaf, n => by
    unfold meetT
    rcases dropT_get (.node o l r) n with h | h
    · exact .inl (by rw [h.2]; rfl)
    · exact .inr h
  | .node o l r, .node o' l' r', n => by
    unfold meetT Tr.get
    split
    · cases o <;> cases o' <;> unfold meetO
      · exact .inl rfl
      · exact .inr rfl
      · exact .inr rfl
      · dsimp only; split
        · rename_i h; exact .inl (by rw [eqO_sound _ _ h])
        · exact .inr rfl
    · split
      · exact meetT_right l l' _
      · exact meetT_right r r' _
theorem WR.weaken {P : Program} {w0 : Base} {ρ : Nm} {m m2 : Mini} {w : World} (h : WR P w0 ρ m w) (hk : ∀ n, m2.heap.get n = m.heap.get n ∨ m2.heap.get n = some none) : WR P w0 ρ m2 w := by
  have live : ∀ n o, m2.heap.get n = some (some o) → m.heap.get n = some (some o) := fun n o ho => by
    rcases hk n with e | e
    · rw [← e]; exact ho
    · rw [e] at ho; cases ho
  refine ⟨h.below, fun n o ho => h.obj n o (live n o ho), fun n t ht => ?_, fun n k o q b d e d' e' h1 h2 => h.inj n k o q b d e d' e' (live n o h1) (live k q h2), fun n hn => ?_⟩
  · rcases hk n with e | e
    · rw [e]; exact h.dom n t ht
    · rw [e]; simp
  · obtain ⟨g1, g2, g3⟩ := h.ghost n hn
    rcases hk n with e | e
    · exact ⟨g1, by rw [e]; exact g2, by rw [rowAt_congr e]; exact g3⟩
    · exact ⟨g1, by rw [e]; simp, rowAt_dead e⟩
noncomputable def meetM (m k : Mini) : Mini := if k.fresh ≤ m.fresh then { heap := meetT m.heap k.heap, pre := m.pre, ctr := m.ctr } else { heap := meetT m.heap k.heap, pre := k.pre, ctr := k.ctr }
noncomputable def mergeAll : List (Value × Mini) → Option (Value × Mini)
  | [] => none
  | r :: l => match l with
    | [] => some r
    | _ => match mergeAll l with
      | some q => if eqA #[r.1] #[q.1] then openM (meetM r.2 q.2) fun m => some (r.1, m) else none
      | none => none
theorem meetM_left {P : Program} {w0 : Base} {ρ : Nm} {m k : Mini} {w : World} (h : WR P w0 ρ m w) : WR P w0 ρ (meetM m k) w := by
  unfold meetM
  split
  · exact h.weaken fun n => meetT_left _ _ n
  · exact h.weaken fun n => meetT_left _ _ n
theorem meetM_right {P : Program} {w0 : Base} {ρ : Nm} {m k : Mini} {w : World} (h : WR P w0 ρ k w) : WR P w0 ρ (meetM m k) w := by
  unfold meetM
  split
  · exact h.weaken fun n => meetT_right _ _ n
  · exact h.weaken fun n => meetT_right _ _ n
theorem mergeAll_spec : ∀ {L : List (Value × Mini)} {v : Value} {m : Mini}, mergeAll L = some (v, m) → ∀ r ∈ L, r.1 = v ∧ ∀ (P : Program) (w0 : Base) (ρ : Nm) (w : World), WR P w0 ρ r.2 w → WR P w0 ρ m w
  | [], v, m, h, r, hr => by cases hr
  | [x], v, m, h, r, hr => by
    simp only [mergeAll, Option.some.injEq] at h
    rw [List.mem_singleton.1 hr, h]
    exact ⟨rfl, fun _ _ _ _ h => h⟩
  | x :: y :: l, v, m, h, r, hr => by
    rw [mergeAll] at h
    case x_2 => intro e; cases e
    cases hq : mergeAll (y :: l) with
    | none => rw [hq] at h; cases h
    | some q =>
    rw [hq] at h
    dsimp only at h
    split at h
    case isFalse => cases h
    rename_i he
    rw [openM_eq] at h
    simp only [Option.some.injEq, Prod.mk.injEq] at h
    obtain ⟨rfl, rfl⟩ := h
    have he := eqA_sound _ _ he
    have he : x.1 = q.1 := by simpa using he
    rcases List.mem_cons.1 hr with rfl | hr
    · exact ⟨rfl, fun P w0 ρ w h => meetM_left h⟩
    · obtain ⟨a, b⟩ := mergeAll_spec (v := q.1) (m := q.2) hq r hr
      exact ⟨a.trans he.symm, fun P w0 ρ w h => meetM_right (b P w0 ρ w h)⟩
theorem flatL_get : ∀ (l : List Value), flatA ⟨l⟩ = true → ∀ (i : Nat) (v : Value), l[i]? = some v → flat v = true
  | [], _, i, v, hv => by simp at hv
  | u :: l, h, 0, v, hv => by
    simp only [flatA, flatL, Bool.and_eq_true] at h
    simp at hv; subst hv; exact h.1
  | u :: l, h, i + 1, v, hv => by
    simp only [flatA, flatL, Bool.and_eq_true] at h
    exact flatL_get l (by simpa only [flatA] using h.2) i v (by simpa using hv)
/-! ### Contracts whose answer is a new row -/
structure SRow where
  g : FuncId
  args : Array Value
  cells : Array Value
  t : TypeId
  len : Nat
  cap : Nat
  rest : Value
noncomputable def findS (g : FuncId) (args : Array Value) : List SRow → Option SRow
  | [] => none
  | r :: l => if r.g = g then (if eqA r.args args = true ∧ flatA r.args = true then some r else findS g args l) else findS g args l
theorem findS_spec {g : FuncId} {args : Array Value} {r : SRow} : ∀ (l : List SRow), findS g args l = some r → r ∈ l ∧ r.g = g ∧ r.args = args ∧ flatA args = true
  | [], h => by cases h
  | q :: l, h => by
    unfold findS at h
    split at h
    · rename_i e
      split at h
      · rename_i hc
        injection h with h; subst h e
        have := eqA_sound _ _ hc.1; subst this
        exact ⟨List.mem_cons_self .., rfl, rfl, hc.2⟩
      · obtain ⟨h1, h2⟩ := findS_spec l h; exact ⟨List.mem_cons_of_mem _ h1, h2⟩
    · obtain ⟨h1, h2⟩ := findS_spec l h; exact ⟨List.mem_cons_of_mem _ h1, h2⟩
noncomputable def SRow.Ok (P : Program) (r : SRow) : Prop := flatA r.cells = true ∧ flat r.rest = true ∧ ∀ w, Below Env.base.heap.size Env.base w → Calls P r.g (realA Env.σ r.args) w fun e w' => Below w.heap.size w w' ∧ ∃ b d x, w.heap.size ≤ b ∧
  e = .returned (.tuple #[.slice (some ⟨b, d, none⟩) r.len (r.cap + x), realD Env.σ r.rest]) ∧ ∃ c', w'.heap[b]? = some (.cells c' r.t (0, 0)) ∧ d + r.cells.size + x * P.cellsOf r.t ≤ c'.size ∧ ∀ (i : Nat) (v : Value), r.cells[i]? = some v → c'[d + i]? = some (realD Env.σ v)
noncomputable def SRowsOk (P : Program) (ks : List SRow) : Prop := ∀ r ∈ ks, r.Ok P
theorem WR.adopt {P : Program} {w0 : Base} {w w' : World} {ρ : Nm} {m m' : Mini} {o : Obj} {n b d e : Nat} (h : WR P w0 ρ m w) (hbl : Below w.heap.size w w') (hn : m.new o = some (n, m')) (hB : w.heap.size ≤ b) (ho : OR P ρ o d e w'.heap[b]?) :
    ∃ ρ', Ext ρ ρ' ∧ ρ' n = some (b, d, e) ∧ WR P w0 ρ' m' w' := by
  have h' := h.later hbl
  unfold Mini.new at hn
  split at hn
  case h_2 => cases hn
  rename_i hg
  split at hn
  case isFalse => cases hn
  rename_i hf
  injection hn with hn; injection hn with hn hm
  subst hn
  have hnone : ρ m.fresh = none := by
    cases hr : ρ m.fresh with
    | none => rfl
    | some t => exact absurd hg (h.dom _ _ hr)
  have hx := Nm.ext_set hnone (b, d, e)
  refine ⟨ρ.set m.fresh (b, d, e), hx, Nm.set_same _ _ _, ?_⟩
  have hsame : m'.heap.get m.fresh = some (some o) := by rw [← hm]; dsimp only; rw [Tr.putF_eq]; exact Tr.get_put _ _ _ _ (fits hf)
  have hother : ∀ k, k ≠ m.fresh → m'.heap.get k = m.heap.get k := fun k hk => by rw [← hm]; dsimp only; rw [Tr.putF_eq]; exact Tr.get_put_ne _ _ _ _ _ hk
  have hold : ∀ k, k ≠ m.fresh → ρ.set m.fresh (b, d, e) k = ρ k := fun k hk => by simp [Nm.set, hk]
  constructor
  · exact h'.below
  · intro k u hk
    by_cases ek : k = m.fresh
    · subst ek
      rw [hsame] at hk; injection hk with hk; injection hk with hk; subst hk
      exact .inr ⟨_, _, _, Nm.set_same _ _ _, Nat.le_trans h.below.size hB, ho.ext hx⟩
    · rw [hother k ek] at hk
      rcases h'.obj k u hk with (hgh | hgh) | ⟨b', d', e', h1, h2, h3⟩
      · exact .inl (.inl hgh)
      · exact .inl (.inr ⟨by rw [hold k ek]; exact hgh.1, hgh.2⟩)
      exact .inr ⟨b', d', e', by rw [hold k ek]; exact h1, h2, h3.ext hx⟩
  · intro k t hk
    by_cases ek : k = m.fresh
    · subst ek; rw [hsame]; simp
    · rw [hold k ek] at hk; rw [hother k ek]; exact h.dom k t hk
  · intro k1 k2 o1 o2 b1 d1 e1 d2 e2 hk1 hk2 hr1 hr2
    by_cases ek1 : k1 = m.fresh
    · by_cases ek2 : k2 = m.fresh
      · rw [ek1, ek2]
      · subst ek1
        rw [Nm.set_same] at hr1; injection hr1 with hr1; injection hr1 with hr1 _
        rw [hold k2 ek2] at hr2; rw [hother k2 ek2] at hk2
        have := h.lt hk2 hr2; omega
    · by_cases ek2 : k2 = m.fresh
      · subst ek2
        rw [Nm.set_same] at hr2; injection hr2 with hr2; injection hr2 with hr2 _
        rw [hold k1 ek1] at hr1; rw [hother k1 ek1] at hk1
        have := h.lt hk1 hr1; omega
      · rw [hold k1 ek1] at hr1; rw [hold k2 ek2] at hr2; rw [hother k1 ek1] at hk1; rw [hother k2 ek2] at hk2
        exact h.inj k1 k2 o1 o2 b1 d1 e1 d2 e2 hk1 hk2 hr1 hr2
  · intro k hk
    obtain ⟨g1, g2, g3⟩ := h.ghost k hk
    have ek : k ≠ m.fresh := fun e => g2 (by rw [e]; exact hg)
    rw [hold k ek, rowAt_congr (hother k ek), hother k ek]
    exact ⟨g1, g2, g3⟩
/-- what is answered where a contract with a new row is taken -/
noncomputable def takeS (r : SRow) (m : Mini) : Option (Value × Mini) :=
  match m.new (.cells r.cells r.t) with
  | some (n, m') => some (.tuple #[.slice (some ⟨n, 0, none⟩) r.len r.cap, r.rest], m')
  | none => none
theorem takeS_calls {P : Program} {ks : List SRow} (hks : SRowsOk P ks) {g : FuncId} {args args' : Array Value} {r : SRow} (hr : findS g args ks = some r) {w0 : Base} {ρ : Nm} {m m' : Mini} {v : Value} (ht : takeS r m = some (v, m')) {w : World} (har : AR ρ args args') (hw : WR P w0 ρ m w) : Calls P g args' w (Back P w0 ρ v m') := by
  obtain ⟨h1, h2, h3, h4⟩ := findS_spec _ hr
  subst h2 h3
  have hre : args' = realA Env.σ r.args := by
    have h5 := VR.det (ρ := ρ) (ρ' := ρ) (v := .agg r.args) (by rw [flat]; exact h4) (.agg _ _ har.size har.get) (real_rel (.agg r.args) (by rw [flat]; exact h4))
    rw [realD] at h5
    injection h5
  rw [hre]
  unfold takeS at ht
  split at ht
  case h_2 => cases ht
  rename_i n m1 hn
  injection ht with ht; injection ht with e1 e2; subst e1 e2
  obtain ⟨f1, f2, f3⟩ := hks r h1
  refine (f3 w hw.baseBelow).mono ?_
  rintro e w' ⟨hb, b, d, x, hB, rfl, c', g1, g2, g3⟩
  have ho : OR P ρ (.cells r.cells r.t (0, 0)) d x w'.heap[b]? := .inl ⟨rfl, c', g1, g2, fun i v hv => by
    refine ⟨_, g3 i v hv, real_rel v ?_⟩
    obtain ⟨l, hl⟩ : ∃ l, r.cells = ⟨l⟩ := ⟨r.cells.toList, rfl⟩
    rw [hl] at f1 hv
    exact flatL_get l f1 i v (by simpa using hv)⟩
  obtain ⟨ρ', x1, x2, x3⟩ := hw.adopt hb hn hB ho
  refine ⟨ρ', _, rfl, x1, ?_, x3⟩
  have := VR.slice (ρ := ρ') n 0 b d x r.len r.cap x2
  exact .tuple _ _ rfl (LR.ar (.cons (by simpa using this) (.cons (real_rel r.rest f2) .nil))).get
noncomputable def srowOk (r : SRow) : Option (Value × Mini) → Bool
  | some (.tuple ⟨[.slice (some ⟨n, 0, none⟩) len cap, rest]⟩, m1) => match m1.cellsAt n with
    | some (c, t) => decide (len = r.len) && decide (cap = r.cap) && decide (t = r.t) && eqA c r.cells && eqA #[rest] #[r.rest] && flatA r.cells && flat r.rest && flatA r.args
    | none => false
  | _ => false
noncomputable def evG (P : Program) (K : Cons) (ks : List SRow) (lt : LoopT) (cf : Nat) (mg : List Nat) : Nat → CallF × CallN
  | 0 => (fun _ _ _ => none, fun _ _ _ => none)
  | n + 1 => (fun callee args m => match callee with
      | .func g => match findK g args K with
        | some v => some (v, m)
        | none => match findS g args ks with
          | some r => takeS r m
          | none => if memN g mg then (match evBodyN P (evG P K ks lt cf mg n).1 (evG P K ks lt cf mg n).2 cf g args m with
            | some L => mergeAll L
            | none => none)
          else evBody P (evG P K ks lt cf mg n).1 lt cf g args m
      | .yield l => evRound P (evG P K ks lt cf mg n).1 lt cf l args m
      | _ => none,
    fun callee args m => match callee with
      | .func g => match findK g args K with
        | some v => some [(v, m)]
        | none => match findS g args ks with
          | some r => one (takeS r m)
          | none => evBodyN P (evG P K ks lt cf mg n).1 (evG P K ks lt cf mg n).2 cf g args m
      | .yield l => evRoundN P (evG P K ks lt cf mg n).1 (evG P K ks lt cf mg n).2 lt cf l args m
      | _ => none)
theorem findK_calls {P : Program} {K : Cons} (hK : ConsOk P K) {g : FuncId} {args args' : Array Value} {u : Value} (hu : findK g args K = some u) {w0 : Base} {ρ : Nm} {m : Mini} {w : World} (har : AR ρ args args') (hw : WR P w0 ρ m w) : Calls P g args' w (Back P w0 ρ u m) := by
  obtain ⟨h1, h2, h3⟩ := findK_spec _ hu
  have hr : args' = realA Env.σ args := by
    have h4 := VR.det (ρ := ρ) (ρ' := ρ) (v := .agg args) (by rw [flat]; exact h2) (.agg _ _ har.size har.get) (real_rel (.agg args) (by rw [flat]; exact h2))
    rw [realD] at h4
    injection h4
  rw [hr]
  refine (hK _ _ _ h1 w hw.baseBelow).mono ?_
  rintro e w' ⟨rfl, hb⟩
  exact ⟨ρ, _, rfl, Ext.refl _, real_rel u h3, hw.later hb⟩
theorem evG_spec {P : Program} (hP : P = Env.prog) (hm : P.follows .mixedOrders = true) {K : Cons} (hK : ConsOk P K) {ks : List SRow} (hks : SRowsOk P ks) {lt : LoopT} (hL : LoopsOk P lt) (cf : Nat) (mg : List Nat) : ∀ n, CallS P (evG P K ks lt cf mg n).1 ∧ CallNS P (evG P K ks lt cf mg n).2
  | 0 => ⟨⟨hP, fun g args m v m' h => by simp [evG] at h, fun l args m v m' h => by simp [evG] at h⟩, ⟨hP, fun g args m L h => by simp [evG] at h, fun l args m L h => by simp [evG] at h⟩⟩
  | n + 1 => by
    obtain ⟨ih, ihn⟩ := evG_spec hP hm hK hks hL cf mg n
    refine ⟨⟨hP, fun g args m v m' h w0 ρ args' w har hw => ?_, fun l args m v m' h w0 ρ args' w b hb har hw => ?_⟩, ⟨hP, fun g args m L h w0 ρ args' w har hw => ?_, fun l args m L h w0 ρ args' w b hb har hw => ?_⟩⟩
    · simp only [evG] at h
      split at h
      · rename_i u hu
        injection h with h; injection h with e1 e2; subst e1 e2
        exact findK_calls hK hu har hw
      · split at h
        · rename_i r hr
          exact takeS_calls hks hr h har hw
        split at h
        · split at h
          case h_2 => cases h
          rename_i L hL'
          refine (evBodyN_spec hm ih ihn hL' har hw).mono ?_
          rintro e w' ⟨y, hy, ρ', v', rfl, q1, q2, q3⟩
          obtain ⟨e1, e2⟩ := mergeAll_spec h y hy
          exact ⟨ρ', v', rfl, q1, by rw [← e1]; exact q2, e2 _ _ _ _ q3⟩
        · exact evBody_spec hm ih hL h har hw
    · exact evRound_spec hm ih hL h hb har hw
    · simp only [evG] at h
      split at h
      · rename_i u hu
        injection h with h; subst h
        refine (findK_calls hK hu har hw).mono ?_
        intro e w' hbk
        exact ⟨_, List.mem_singleton.2 rfl, hbk⟩
      · split at h
        · rename_i r hr
          obtain ⟨⟨v, m'⟩, hx, rfl⟩ := one_spec h
          refine (takeS_calls hks hr hx har hw).mono ?_
          intro e w' hbk
          exact ⟨_, List.mem_singleton.2 rfl, hbk⟩
        · exact evBodyN_spec hm ih ihn h har hw
    · exact evRoundN_spec hm ih ihn hL h hb har hw
/-- a contract with a new row, worked out -/
theorem srow_of_run {P : Program} {r : SRow} {call : CallF} (hcall : CallS P call) (h : srowOk r (call (.func r.g) r.args Mini.empty) = true) : r.Ok P := by
  unfold srowOk at h
  split at h
  case h_2 => cases h
  rename_i n len cap rest m1 hrun
  split at h
  case h_2 => cases h
  rename_i c t hc
  simp only [Bool.and_eq_true, decide_eq_true_eq] at h
  obtain ⟨⟨⟨⟨⟨⟨⟨h1, h2⟩, h3⟩, h4⟩, h5⟩, h6⟩, h7⟩, h8⟩ := h
  have h4 := eqA_sound _ _ h4
  have h5 : rest = r.rest := by simpa using eqA_sound _ _ h5
  refine ⟨h6, h7, fun w hb => ?_⟩
  refine (hcall.fn r.g r.args Mini.empty _ m1 hrun ⟨w, fun _ => False, hb⟩ (fun _ => none) _ w (realA_rel r.args h8) (WR.empty P w hb)).mono ?_
  rintro e w' ⟨ρ', v', rfl, x1, x2, x3⟩
  refine ⟨x3.below, ?_⟩
  obtain ⟨ys, rfl, hs, hg⟩ : ∃ ys, v' = .tuple ys ∧ 2 = ys.size ∧ ∀ i (h : i < 2) (h' : i < ys.size), VR ρ' ((#[Value.slice (some ⟨n, 0, none⟩) len cap, rest] : Array Value)[i]'h) ys[i] := by
    cases x2 with
    | same _ h => simp [pureV, pureA, pureL] at h
    | tuple xs ys h1 h2 => exact ⟨ys, rfl, h1, h2⟩
  obtain ⟨l⟩ := ys
  match l, hs, hg with
  | [y0, y1], _, hg =>
    have g0 : VR ρ' (.slice (some ⟨n, 0, none⟩) len cap) y0 := hg 0 (by decide) (by simp)
    have g1 : VR ρ' rest y1 := hg 1 (by decide) (by simp)
    have e1 := g1.det (by rw [h5]; exact h7) (real_rel (ρ := ρ') rest (by rw [h5]; exact h7))
    cases g0 with
    | same _ h => simp [pureV] at h
    | slice _ _ b d x _ _ hn =>
      obtain ⟨q1, q2, c', q3, q4, q5⟩ := x3.row hc hn
      refine ⟨b, d, x, q2, ?_, c', ?_, ?_, fun i v hv => ?_⟩
      · rw [e1, h5, h1, h2]; simp
      · rw [q3, h3]
      · rw [← h4, ← h3]; exact q4
      · rw [← h4] at hv
        obtain ⟨v', k1, k2⟩ := q5 i v hv
        have hfl : flat v = true := by
          obtain ⟨l, hl⟩ : ∃ l, c = ⟨l⟩ := ⟨c.toList, rfl⟩
          rw [← h4, hl] at h6
          rw [hl] at hv
          exact flatL_get l h6 i v (by simpa using hv)
        rw [k1, k2.det hfl (real_rel (ρ := ρ') v hfl)]
end Go.Proofs.YtnfbokaldfdboaaGreat
