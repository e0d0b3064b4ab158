/-
  The small machine's regions whose order is open.
-/
import Derived.Test.YtaneipjpagbmpaaE8
namespace Go.Proofs.Ytaneipjpagbmpaa
open Go.RowKit
set_option linter.unusedVariables false
set_option linter.unusedSimpArgs false
set_option linter.unusedSectionVars false
variable [Env]

structure Ent where
  listed : Array Bool
  a : MA
  m : Mini
  E : List (Nat × Value)
noncomputable def eqB : List Bool → List Bool → Bool
  | [], [] => true
  | true :: l, true :: m => eqB l m
  | false :: l, false :: m => eqB l m
  | _, _ => false
noncomputable def eqR : List (Nat × Value) → List (Nat × Value) → Bool
  | [], [] => true
  | (i, v) :: l, (j, u) :: m => decide (i = j) && eqV v u && eqR l m
  | _, _ => false
theorem eqB_sound : ∀ a b : List Bool, eqB a b = true → a = b
  | [], [], _ => rfl
  | true :: l, true :: m, h => by rw [eqB] at h; rw [eqB_sound _ _ h]
  | false :: l, false :: m, h => by rw [eqB] at h; rw [eqB_sound _ _ h]
  | true :: _, false :: _, h => by simp [eqB] at h
  | false :: _, true :: _, h => by simp [eqB] at h
  | [], _ :: _, h => by simp [eqB] at h
  | _ :: _, [], h => by simp [eqB] at h
theorem eqR_sound : ∀ a b : List (Nat × Value), eqR a b = true → a = b
  | [], [], _ => rfl
  | (i, v) :: l, (j, u) :: m, h => by
    rw [eqR, Bool.and_eq_true, Bool.and_eq_true, decide_eq_true_eq] at h; rw [h.1.1, eqV_sound _ _ h.1.2, eqR_sound _ _ h.2]
  | [], _ :: _, h => by simp [eqR] at h
  | _ :: _, [], h => by simp [eqR] at h
noncomputable def eqTV : Tr Value → Tr Value → Bool
  | .leaf, .leaf => true
  | .node none l r, .node none l' r' => eqTV l l' && eqTV r r'
  | .node (some o) l r, .node (some o') l' r' => eqV o o' && eqTV l l' && eqTV r r'
  | _, _ => false
theorem eqTV_sound : ∀ a b : Tr Value, eqTV a b = true → a = b
  | .leaf, .leaf, _ => rfl
  | .node none l r, .node none l' r', h => by rw [eqTV, Bool.and_eq_true] at h; rw [eqTV_sound _ _ h.1, eqTV_sound _ _ h.2]
  | .node (some o) l r, .node (some o') l' r', h => by
    rw [eqTV, Bool.and_eq_true, Bool.and_eq_true] at h; rw [eqV_sound _ _ h.1.1, eqTV_sound _ _ h.1.2, eqTV_sound _ _ h.2]
  | .leaf, .node .., h => by simp [eqTV] at h
  | .node none _ _, .leaf, h => by simp [eqTV] at h
  | .node (some _) _ _, .leaf, h => by simp [eqTV] at h
  | .node none _ _, .node (some _) _ _, h => by simp [eqTV] at h
  | .node (some _) _ _, .node none _ _, h => by simp [eqTV] at h
noncomputable def eqAct (a b : MA) : Bool := decide (a.n = b.n) && eqD a.defers b.defers && eqTV a.t b.t
theorem eqAct_sound {a b : MA} (h : eqAct a b = true) : a = b := by
  obtain ⟨t, d, c⟩ := a; obtain ⟨u, e, x⟩ := b
  simp only [eqAct, Bool.and_eq_true, decide_eq_true_eq] at h
  obtain ⟨⟨h1, h2⟩, h3⟩ := h
  have := eqTV_sound _ _ h3
  have h4 := eqD_sound _ _ h2
  rw [h1, this, h4]
noncomputable def eqAM (x y : Ent) : Bool := eqAct x.a y.a && decide (x.m.pre = y.m.pre) && decide (x.m.ctr = y.m.ctr) && eqT x.m.heap y.m.heap
theorem eqAM_sound {x y : Ent} (h : eqAM x y = true) : x.a = y.a ∧ x.m = y.m := by
  obtain ⟨l1, a1, ⟨h1, p1, c1⟩, E1⟩ := x
  obtain ⟨l2, a2, ⟨h2, p2, c2⟩, E2⟩ := y
  simp only [eqAM, Bool.and_eq_true, decide_eq_true_eq] at h
  obtain ⟨⟨⟨e1, e4⟩, e5⟩, e6⟩ := h
  have q1 := eqAct_sound e1
  have q2 := eqT_sound _ _ e6
  subst q1 q2 e4 e5
  exact ⟨rfl, rfl⟩
noncomputable def eqEnt (x y : Ent) : Bool := eqB x.listed.toList y.listed.toList && eqR x.E y.E && eqAM x y
theorem eqEnt_sound {x y : Ent} (h : eqEnt x y = true) : x = y := by
  simp only [eqEnt, Bool.and_eq_true] at h
  obtain ⟨⟨h1, h2⟩, h3⟩ := h
  have q1 := Array.ext' (eqB_sound _ _ h1)
  have q2 := eqR_sound _ _ h2
  obtain ⟨q3, q4⟩ := eqAM_sound h3
  obtain ⟨l1, a1, m1, E1⟩ := x
  obtain ⟨l2, a2, m2, E2⟩ := y
  subst q1 q2 q3 q4
  rfl
noncomputable def lay (x : Ent) : List Ent → List Ent
  | [] => [x]
  | y :: l => if eqEnt x y then y :: l else y :: lay x l
theorem lay_spec {x : Ent} : ∀ (l : List Ent), x ∈ lay x l ∧ ∀ y ∈ l, y ∈ lay x l
  | [] => by simp [lay]
  | y :: l => by
    unfold lay
    split
    · rename_i h
      have := eqEnt_sound h; subst this
      exact ⟨List.mem_cons_self .., fun z hz => hz⟩
    · obtain ⟨h1, h2⟩ := lay_spec l
      exact ⟨List.mem_cons_of_mem _ h1, fun z hz => by
        rcases List.mem_cons.1 hz with rfl | hz
        · exact List.mem_cons_self ..
        · exact List.mem_cons_of_mem _ (h2 z hz)⟩

section
variable (P : Program) (call : CallF) (ops : Array Oper) (base pre ctr : Nat)
/-- the name of the block that number k makes, if it is taken ahead -/
noncomputable def nameOf (k : Nat) : Nat := (base + k) * 1024
noncomputable def waits (oj : Oper) (k : Nat) : Bool := oj.after.any fun e => Region.binds .any e && e.on == k
/-- k may be taken ahead of j -/
noncomputable def pairB (k : Nat) (ok oj : Oper) : Bool :=
  (match oj.dst with
   | some d => !(ok.looksAt ops).contains d && ok.dst != some d
   | none => true) &&
  (match ok.dst with
   | some d => waits oj k || !(oj.looksAt ops).contains d
   | none => true)
noncomputable def freeK (listed : Array Bool) (k : Nat) : Bool :=
  match ops[k]? with
  | some ok => (match ok.dst with
      | some d => !(ok.looksAt ops).contains d
      | none => true) && (List.range ops.size).all fun j => j == k || getF true listed j || match ops[j]? with
      | some oj => pairB ops k ok oj
      | none => true
  | none => false
/-- all of a region at once: each slot is written once, and looked at by those that wait for it -/
noncomputable def ssaB : Bool := (List.range ops.size).all fun i => match ops[i]? with
  | some oi => (match oi.dst with
      | some d => !(oi.looksAt ops).contains d
      | none => true) && (List.range ops.size).all fun j => j == i || match ops[j]? with
      | some oj => match oj.dst with
        | some d => oi.dst != some d && (!(oi.looksAt ops).contains d || waits oi j)
        | none => true
      | none => true
  | none => true
noncomputable def mayGo (listed : Array Bool) (k : Nat) : Bool := if ssaB ops then true else freeK ops listed k
/-- which may come up -/
noncomputable def readyL (full : List Bool) : List Oper → List Bool → Nat → List Nat
  | o :: os, b :: bs, i => match b with
    | true => readyL full os bs (i + 1)
    | false => if o.after.toList.all (fun e => !Region.binds .any e || getL false full e.on) then forceN i fun i => i :: readyL full os bs (i + 1) else readyL full os bs (i + 1)
  | _, _, _ => []
noncomputable def readyF (listed : Array Bool) : List Nat := if listed.toList.length = ops.toList.length then readyL listed.toList ops.toList listed.toList 0 else Region.ready .any ops listed
/-- what was taken ahead still holds -/
noncomputable def chk (a : MA) (m : Mini) (r : Nat × Value) : Bool :=
  match ops[r.1]? with
  | some o => match o.op with
    | .load t x => if Region.wanted o (yieldF ops a) then (match evalM a x with
      | some (.pointer (some ad)) => if ad.spot.isSome then false else match m.loadV P t ad.block ad.off with
        | some u => eqV u r.2
        | none => false
      | _ => false) else true
    | .alloc t => match r.2 with
      | .pointer (some ad) => match m.cellsAt ad.block, zeroM P t with
        | some (c, u), some z => eqA c z.cells && decide (u = t)
        | _, _ => false
      | _ => true
    | _ => true
  | none => true
/-- k is taken ahead -/
noncomputable def eagerOne (s : Ent) (k : Nat) : Option Ent :=
  match ops[k]? with
  | some o =>
      if !gOK ops s.a o then none else
      if Region.wanted o (yieldF ops s.a) then
        match o.op with
        | .load t x => match evalM s.a x with
          | some (.pointer (some ad)) => if ad.spot.isSome then none else match s.m.loadV P t ad.block ad.off with
            | some v => if mayGo ops s.listed k then forceV v fun v => openA (setF s.listed k true) fun ls => openAct (putF s.a o.dst v) fun a => some { listed := ls, a, m := s.m, E := (k, v) :: s.E } else none
            | none => none
          | _ => none
        | .alloc t => if mayGo ops s.listed k then match zeroM P t with
          | some z => forceA z.cells fun c => match ({ s.m with pre := base + k, ctr := 0 } : Mini).new (.cells c t) with
            | some (n, m1) => if n = nameOf base k then
                openM { m1 with pre := pre, ctr := ctr } fun m2 => forceN n fun n => openA (setF s.listed k true) fun ls => openAct (putF s.a o.dst (.pointer (some ⟨n, 0, none⟩))) fun a =>
                  if s.E.all (chk P ops a m2) then some { listed := ls, a, m := m2, E := (k, .pointer (some ⟨n, 0, none⟩)) :: s.E } else none
              else none
            | none => none
          | none => none
          else none
        | _ => match opF P s.a o with
          | some v => if mayGo ops s.listed k then forceV v fun v => openA (setF s.listed k true) fun ls => openAct (putF s.a o.dst v) fun a => some { listed := ls, a, m := s.m, E := (k, v) :: s.E } else none
          | none => none
      else if mayGo ops s.listed k then openA (setF s.listed k true) fun ls => openAct (putF s.a o.dst undef) fun a => some { listed := ls, a, m := s.m, E := (k, undef) :: s.E } else none
  | none => none
noncomputable def eager (s : Ent) : List Nat → Option Ent
  | [] => none
  | k :: l => match eagerOne P ops base pre ctr s k with
    | some c => some c
    | none => eager s l
/-- all that may be taken ahead is taken, in the text's order -/
noncomputable def eagerGo (full : Nat) : List Oper → Nat → Ent → Bool → Ent × Bool
  | [], _, s, b => (s, b)
  | o :: os, i, s, b =>
    if getF true s.listed i then eagerGo full os (i + 1) s b
    else if o.after.toList.all (fun e => !Region.binds .any e || getF false s.listed e.on) then match eagerOne P ops base pre ctr s i with
      | some c => forceN (i + 1) fun j => eagerGo full os j c true
      | none => forceN (i + 1) fun j => eagerGo full os j s b
    else forceN (i + 1) fun j => eagerGo full os j s b
noncomputable def isAnc (k : Nat) : Nat → Nat → Bool
  | 0, _ => false
  | f + 1, j => match ops[j]? with
    | some oj => oj.after.any fun e => Region.binds .any e && (e.on == k || isAnc k f e.on)
    | none => false
/-- j is carried out, with names of its own -/
noncomputable def syncOne (s : Ent) (j : Nat) : Option Ent :=
  match ev1 P call ops j s.a { s.m with pre := base + j, ctr := 0 } with
  | some (a, m) => openA (setF s.listed j true) fun ls => openM { m with pre := pre, ctr := ctr } fun m =>
      let E := s.E.filter fun r => !isAnc ops r.1 6 j
      if E.all (chk P ops a m) then some { listed := ls, a, m, E } else none
  | none => none
noncomputable def kids (s : Ent) : List Nat → List Ent → Option (List Ent)
  | [], acc => some acc
  | i :: l, acc => match syncOne P call ops base pre ctr s i with
    | some c => kids s l (lay c acc)
    | none => none
noncomputable def evLevel : List Ent → List Ent → Option (List Ent)
  | [], acc => some acc
  | s :: l, acc =>
    match readyF ops s.listed with
    | [] => none
    | rs => match eagerGo P ops base pre ctr 0 ops.toList 0 s false with
      | (c, true) => evLevel l (lay c acc)
      | (_, false) => match kids P call ops base pre ctr s rs acc with
        | some acc' => evLevel l acc'
        | none => none
noncomputable def evFin (l : List Ent) : Option (MA × Mini) := match l with
    | s :: r => if (readyF ops s.listed).isEmpty && r.all (fun x => (readyF ops x.listed).isEmpty && eqAM x s) then some (s.a, s.m) else none
    | [] => none
noncomputable def evRuns : Nat → List Ent → Option (MA × Mini)
  | 0, l => evFin ops l
  | f + 1, l => match evFin ops l with
   | some r => some r
   | none => match evLevel P call ops base pre ctr l [] with
    | some l' => evRuns f l'
    | none => none
/-- every edge leads back -/
noncomputable def backB : Bool := (List.range ops.size).all fun i => match ops[i]? with
  | some o => o.after.all fun e => !Region.binds .any e || decide (e.on < i)
  | none => true
end

section
variable {P : Program} {call : CallF} {ops : Array Oper} {base pre ctr : Nat}
theorem readyL_eq (full : List Bool) (listed : Array Bool) (hf : full = listed.toList) : ∀ (os : List Oper) (bs : List Bool) (i : Nat), bs.length = os.length → (∀ j, os[j]? = ops[i + j]?) → (∀ j, bs[j]? = listed.toList[i + j]?) → readyL full os bs i = (List.range' i os.length).filter fun i => !listed.getD i true && ((ops[i]?).map (·.after.all fun e => !Region.binds .any e || listed.getD e.on false)).getD false
  | [], bs, i, h, _, _ => by cases bs <;> simp [readyL]
  | o :: os, [], i, h, _, _ => by simp at h
  | o :: os, b :: bs, i, h, h1, h2 => by
    have ih := readyL_eq full listed hf os bs (i + 1) (by simpa using h) (fun j => by have := h1 (j + 1); rw [show i + (j + 1) = i + 1 + j by omega] at this; simpa using this) (fun j => by have := h2 (j + 1); rw [show i + (j + 1) = i + 1 + j by omega] at this; simpa using this)
    have ho : ops[i]? = some o := by have := h1 0; simpa using this.symm
    have hb : listed[i]? = some b := by have := h2 0; rw [Nat.add_zero, Array.getElem?_toList] at this; simpa using this.symm
    have hg : listed.getD i true = b := by simp [hb]
    have hall : (o.after.toList.all fun e => !Region.binds .any e || getL false full e.on) = (o.after.all fun e => !Region.binds .any e || listed.getD e.on false) := by
      rw [← Array.all_toList]
      congr 1
      funext e
      have : getL false full e.on = listed.getD e.on false := by
        rw [hf]; have := getF_eq false listed e.on; unfold getF at this; exact this
      rw [this]
    rw [List.length_cons, List.range'_succ, List.filter_cons, hg, ho]
    simp only [Option.map_some, Option.getD_some]
    cases b with
    | true => simp only [readyL, ih]; simp
    | false =>
      simp only [readyL, forceN_eq, ih, hall]
      simp
theorem readyF_eq (listed : Array Bool) : readyF ops listed = Region.ready .any ops listed := by
  unfold readyF
  split
  · rename_i h
    rw [readyL_eq (ops := ops) listed.toList listed rfl ops.toList listed.toList 0 h (fun j => by simp) (fun j => by simp)]
    unfold Region.ready
    rw [List.range_eq_range', Array.length_toList]
  · rfl
theorem kids_spec {s : Ent} : ∀ (rs : List Nat) (acc r : List Ent), kids P call ops base pre ctr s rs acc = some r → (∀ y ∈ acc, y ∈ r) ∧ ∀ i ∈ rs, ∃ c, syncOne P call ops base pre ctr s i = some c ∧ c ∈ r
  | [], acc, r, h => by simp only [kids, Option.some.injEq] at h; subst h; exact ⟨fun y hy => hy, fun i hi => by cases hi⟩
  | i :: l, acc, r, h => by
    simp only [kids] at h
    split at h
    · rename_i c hc
      obtain ⟨h1, h2⟩ := lay_spec (x := c) acc
      obtain ⟨h3, h4⟩ := kids_spec l _ r h
      exact ⟨fun y hy => h3 y (h2 y hy), fun j hj => by
        rcases List.mem_cons.1 hj with rfl | hj
        · exact ⟨c, hc, h3 c h1⟩
        · exact h4 j hj⟩
    · cases h
/-- some are taken ahead, one after the other -/
inductive Ahead (P : Program) (ops : Array Oper) (base pre ctr : Nat) : Ent → Ent → Prop
  | refl (s : Ent) : Ahead P ops base pre ctr s s
  | step {s c d : Ent} {k : Nat} (hk : k ∈ Region.ready .any ops s.listed) (hc : eagerOne P ops base pre ctr s k = some c) (h : Ahead P ops base pre ctr c d) : Ahead P ops base pre ctr s d
theorem eagerGo_spec (full : Nat) : ∀ (os : List Oper) (i : Nat) (s : Ent) (b : Bool), (∀ j, os[j]? = ops[i + j]?) → Ahead P ops base pre ctr s (eagerGo P ops base pre ctr full os i s b).1
  | [], i, s, b, _ => .refl s
  | o :: os, i, s, b, h => by
    have ih : ∀ s b, Ahead P ops base pre ctr s (eagerGo P ops base pre ctr full os (i + 1) s b).1 := fun s b => eagerGo_spec full os (i + 1) s b (fun j => by have := h (j + 1); rw [show i + (j + 1) = i + 1 + j by omega] at this; simpa using this)
    unfold eagerGo
    split
    · exact ih s b
    · rename_i h1
      split
      · rename_i h2
        split
        · rename_i c hc
          rw [forceN_eq]
          have ho : ops[i]? = some o := by have := h 0; simpa using this.symm
          refine .step (mem_ready.2 ⟨?_, o, ho, fun e he hb => ?_⟩) hc (ih c true)
          · rw [getF_eq] at h1; simpa using h1
          · have := List.all_eq_true.1 h2 e (by simpa using he)
            rw [getF_eq] at this
            simpa [hb] using this
        · rw [forceN_eq]; exact ih s b
      · rw [forceN_eq]; exact ih s b
theorem eager_spec {s : Ent} : ∀ (rs : List Nat) (c : Ent), eager P ops base pre ctr s rs = some c → ∃ k ∈ rs, eagerOne P ops base pre ctr s k = some c
  | [], c, h => by cases h
  | k :: l, c, h => by
    simp only [eager] at h
    split at h
    · rename_i c' hc
      injection h with h; subst h
      exact ⟨k, List.mem_cons_self .., hc⟩
    · obtain ⟨i, hi, hf⟩ := eager_spec l c h
      exact ⟨i, List.mem_cons_of_mem _ hi, hf⟩
noncomputable def Laid (P : Program) (call : CallF) (ops : Array Oper) (base pre ctr : Nat) (s : Ent) (r : List Ent) : Prop :=
  (Region.ready .any ops s.listed ≠ [] ∧ ∀ i ∈ Region.ready .any ops s.listed, ∃ c, syncOne P call ops base pre ctr s i = some c ∧ c ∈ r) ∨
  ∃ c, Ahead P ops base pre ctr s c ∧ c ∈ r
theorem evLevel_spec : ∀ (l acc r : List Ent), evLevel P call ops base pre ctr l acc = some r → (∀ y ∈ acc, y ∈ r) ∧ ∀ s ∈ l, Laid P call ops base pre ctr s r
  | [], acc, r, h => by simp only [evLevel, Option.some.injEq] at h; subst h; exact ⟨fun y hy => hy, fun s hs => by cases hs⟩
  | s :: l, acc, r, h => by
    simp only [evLevel, readyF_eq] at h
    have go : ∀ acc', (∀ y ∈ acc, y ∈ acc') → (∀ r, (∀ y ∈ acc', y ∈ r) → Laid P call ops base pre ctr s r) → evLevel P call ops base pre ctr l acc' = some r → (∀ y ∈ acc, y ∈ r) ∧ ∀ s' ∈ s :: l, Laid P call ops base pre ctr s' r := fun acc' k1 k2 h => by
      obtain ⟨h1, h2⟩ := evLevel_spec l acc' r h
      exact ⟨fun y hy => h1 y (k1 y hy), fun s' hs => by
        rcases List.mem_cons.1 hs with rfl | hs
        · exact k2 r h1
        · exact h2 s' hs⟩
    split at h
    · cases h
    · rename_i rs hne
      split at h
      · rename_i c he
        obtain ⟨h1, h2⟩ := lay_spec (x := c) acc
        have hc := eagerGo_spec (P := P) (base := base) (pre := pre) (ctr := ctr) (ops := ops) 0 ops.toList 0 s false (fun j => by simp)
        rw [he] at hc
        exact go _ h2 (fun r hr' => .inr ⟨c, hc, hr' c h1⟩) h
      · split at h
        · rename_i acc' ha
          obtain ⟨h1, h2⟩ := kids_spec _ _ _ ha
          refine go acc' h1 (fun r hr' => .inl ⟨hne, fun j hj => ?_⟩) h
          obtain ⟨c, hc, hm⟩ := h2 j hj
          exact ⟨c, hc, hr' c hm⟩
        · cases h

/-! ### The program lags behind -/
abbrev On (l : Array Bool) (i : Nat) : Prop := l.getD i false = true
theorem on_lt {l : Array Bool} {i : Nat} (h : On l i) : i < l.size := by
  rcases Nat.lt_or_ge i l.size with h' | h'
  · exact h'
  · simp [On, Array.getD, Nat.not_lt.2 h'] at h
theorem off_iff {l : Array Bool} {i : Nat} : l.getD i true = false ↔ i < l.size ∧ ¬ On l i := by
  by_cases h : i < l.size
  · simp [On, Array.getD, h]
  · simp [On, Array.getD, h]
theorem on_set {l : Array Bool} {i j : Nat} (hi : i < l.size) : On (l.setIfInBounds i true) j ↔ (j = i ∨ On l j) := by
  by_cases h : i = j
  · subst h; simp [On, Array.getD, hi]
  · simp only [On, Array.getD, Array.size_setIfInBounds]
    by_cases hj : j < l.size
    · simp [hj, Array.getElem_setIfInBounds, h, Ne.symm h]
    · simp [hj, Ne.symm h]
/-- k may come ahead of j -/
noncomputable def Pair (ops : Array Oper) (k : Nat) (ok oj : Oper) : Prop :=
  (∀ d, oj.dst = some d → d ∉ ok.looksAt ops ∧ ok.dst ≠ some d) ∧ (∀ d, ok.dst = some d → (∃ e ∈ oj.after, Region.binds .any e = true ∧ e.on = k) ∨ d ∉ oj.looksAt ops)
theorem pairB_spec {k : Nat} {ok oj : Oper} (h : pairB ops k ok oj = true) : Pair ops k ok oj := by
  unfold pairB at h
  rw [Bool.and_eq_true] at h
  refine ⟨fun d hd => ?_, fun d hd => ?_⟩
  · have := h.1; rw [hd] at this; simp at this; exact ⟨this.1, this.2⟩
  · have := h.2; rw [hd] at this
    simp only [Bool.or_eq_true, waits] at this
    rcases this with this | this
    · obtain ⟨e, he, hb⟩ := Array.any_eq_true'.1 this
      simp only [Bool.and_eq_true, beq_iff_eq] at hb
      exact .inl ⟨e, he, hb.1, hb.2⟩
    · right; simpa using this
theorem freeK_spec {listed : Array Bool} {k : Nat} (h : freeK ops listed k = true) : ∃ ok, ops[k]? = some ok ∧ (∀ d, ok.dst = some d → d ∉ ok.looksAt ops) ∧ ∀ j oj, j ≠ k → listed.getD j true = false → ops[j]? = some oj → Pair ops k ok oj := by
  unfold freeK at h
  split at h
  · rename_i ok hok
    rw [Bool.and_eq_true] at h
    refine ⟨ok, hok, fun d hd => ?_, fun j oj hj hun hoj => ?_⟩
    · have := h.1; rw [hd] at this; simpa using this
    · have h2 := h.2
      simp only [List.all_eq_true, List.mem_range] at h2
      have := h2 j (Array.getElem?_eq_some_iff.1 hoj).1
      simp only [hoj, getF_eq, hun, Bool.or_false, Bool.or_eq_true, beq_iff_eq, hj, false_or] at this
      exact pairB_spec this
  · cases h
noncomputable def Free (ops : Array Oper) (listed : Array Bool) (k : Nat) : Prop := ∃ ok, ops[k]? = some ok ∧ (∀ d, ok.dst = some d → d ∉ ok.looksAt ops) ∧ ∀ j oj, j ≠ k → listed.getD j true = false → ops[j]? = some oj → Pair ops k ok oj
theorem waits_spec {oj : Oper} {k : Nat} (h : waits oj k = true) : ∃ e ∈ oj.after, Region.binds .any e = true ∧ e.on = k := by
  unfold waits at h
  obtain ⟨e, he, hb⟩ := Array.any_eq_true'.1 h
  simp only [Bool.and_eq_true, beq_iff_eq] at hb
  exact ⟨e, he, hb.1, hb.2⟩
theorem ssa_spec (h : ssaB ops = true) {i j : Nat} {oi oj : Oper} (hi : ops[i]? = some oi) (hj : ops[j]? = some oj) (hne : j ≠ i) : (∀ d, oi.dst = some d → d ∉ oi.looksAt ops) ∧ ∀ d, oj.dst = some d → oi.dst ≠ some d ∧ (d ∉ oi.looksAt ops ∨ waits oi j = true) := by
  unfold ssaB at h
  simp only [List.all_eq_true, List.mem_range] at h
  have h1 := h i (Array.getElem?_eq_some_iff.1 hi).1
  rw [hi] at h1
  dsimp only at h1
  rw [Bool.and_eq_true] at h1
  refine ⟨fun d hd => ?_, fun d hd => ?_⟩
  · have := h1.1; rw [hd] at this; simpa using this
  · have h2 := h1.2
    simp only [List.all_eq_true, List.mem_range] at h2
    have := h2 j (Array.getElem?_eq_some_iff.1 hj).1
    simp only [hj, hd, Bool.or_eq_true, beq_iff_eq, hne, false_or, Bool.and_eq_true] at this
    refine ⟨by simpa using this.1, ?_⟩
    rcases this.2 with h3 | h3
    · left; simpa using h3
    · exact .inr h3
theorem mayGo_spec {listed : Array Bool} {k : Nat} (h : mayGo ops listed k = true) {o : Oper} (ho : ops[k]? = some o) (hr : ∀ e ∈ o.after, Region.binds .any e = true → listed.getD e.on false = true) : Free ops listed k := by
  unfold mayGo at h
  split at h
  · rename_i hs
    refine ⟨o, ho, fun d hd => ?_, fun j oj hj hun hoj => ⟨fun d hd => ?_, fun d hd => ?_⟩⟩
    · unfold ssaB at hs
      simp only [List.all_eq_true, List.mem_range] at hs
      have h1 := hs k (Array.getElem?_eq_some_iff.1 ho).1
      rw [ho] at h1
      dsimp only at h1
      rw [Bool.and_eq_true] at h1
      have := h1.1; rw [hd] at this; simpa using this
    · obtain ⟨h1, h2⟩ := (ssa_spec hs ho hoj hj).2 d hd
      refine ⟨?_, h1⟩
      rcases h2 with h2 | h2
      · exact h2
      · obtain ⟨e, he, hb, heq⟩ := waits_spec h2
        have hon := hr e he hb
        rw [heq] at hon
        exact absurd hon (off_iff.1 hun).2
    · obtain ⟨h1, h2⟩ := (ssa_spec hs hoj ho (Ne.symm hj)).2 d hd
      rcases h2 with h2 | h2
      · exact .inr h2
      · exact .inl (waits_spec h2)
  · exact freeK_spec h
/-- what k, taken ahead, rests on -/
noncomputable def Kind (P : Program) (ops : Array Oper) (base : Nat) (s : Ent) (k : Nat) (o : Oper) (v : Value) : Prop :=
  gOK ops s.a o = true ∧ ((Region.wanted o (yieldF ops s.a) = false ∧ v = undef) ∨
  (Region.wanted o (yieldF ops s.a) = true ∧
    (((∀ t, o.op ≠ .alloc t) ∧ opF P s.a o = some v) ∨
     (∃ t x ad, o.op = .load t x ∧ evalM s.a x = some (.pointer (some ad)) ∧ ad.spot = none ∧ s.m.loadV P t ad.block ad.off = some v) ∨
     (∃ t z, o.op = .alloc t ∧ zeroM P t = some z ∧ v = .pointer (some ⟨nameOf base k, 0, none⟩) ∧ s.m.cellsAt (nameOf base k) = some (z.cells, t)))))
structure Rec (P : Program) (ops : Array Oper) (base : Nat) (s : Ent) (k : Nat) (v : Value) : Prop where
  op : ∃ o, ops[k]? = some o ∧ (∀ d, o.dst = some d → d ∉ o.looksAt ops) ∧ (∀ j oj, j ≠ k → s.listed.getD j true = false → ops[j]? = some oj → Pair ops k o oj) ∧ (∀ d, o.dst = some d → d < s.a.n → s.a.get d = v) ∧ Kind P ops base s k o v
/-- the slots that the program has not written yet -/
noncomputable def slots (ops : Array Oper) (E : List (Nat × Value)) (Lr : Array Bool) : List Nat := E.filterMap fun r => if Lr.getD r.1 false then none else (ops[r.1]?).bind (·.dst)
theorem mem_slots {E : List (Nat × Value)} {Lr : Array Bool} {t : Nat} : (slots ops E Lr).contains t = true ↔ ∃ k v o, (k, v) ∈ E ∧ ¬ On Lr k ∧ ops[k]? = some o ∧ o.dst = some t := by
  rw [List.contains_iff_mem, slots, List.mem_filterMap]
  constructor
  · rintro ⟨⟨k, v⟩, hm, hk⟩
    split at hk
    · cases hk
    · rename_i hoff
      cases ho : ops[k]? with
      | none => simp [ho] at hk
      | some o => simp [ho] at hk; exact ⟨k, v, o, hm, hoff, ho, hk⟩
  · rintro ⟨k, v, o, hm, hoff, ho, hd⟩
    exact ⟨(k, v), hm, by simp only; rw [if_neg hoff]; simp [ho, hd]⟩
/-- the blocks that the program has not made yet -/
noncomputable def ghosts (ops : Array Oper) (base : Nat) (w0 : Base) (E : List (Nat × Value)) (Lr : Array Bool) (n : Nat) : Prop :=
  w0.gh n ∨ ∃ k v o t, (k, v) ∈ E ∧ ¬ On Lr k ∧ ops[k]? = some o ∧ o.op = .alloc t ∧ v = .pointer (some ⟨n, 0, none⟩)
structure Inv (P : Program) (ops : Array Oper) (base : Nat) (w0 : Base) (s : Ent) (Lr : Array Bool) (ρ : Nm) (a' : Act) (w : World) : Prop where
  size : s.listed.size = ops.size
  sizeR : Lr.size = ops.size
  sub : ∀ i, On Lr i → On s.listed i
  closed : ∀ j o, On Lr j → ops[j]? = some o → ∀ e ∈ o.after, Region.binds .any e = true → On Lr e.on
  closedL : ∀ j o, On s.listed j → ops[j]? = some o → ∀ e ∈ o.after, Region.binds .any e = true → On s.listed e.on
  inE : ∀ k v, (k, v) ∈ s.E → On s.listed k
  recs : ∀ k, On s.listed k → ¬ On Lr k → ∃ v, (k, v) ∈ s.E
  rcd : ∀ k v, (k, v) ∈ s.E → ¬ On Lr k → Rec P ops base s k v
  pair : ∀ k v j u ok oj, (k, v) ∈ s.E → (j, u) ∈ s.E → ¬ On Lr k → ¬ On Lr j → k ≠ j → ops[k]? = some ok → ops[j]? = some oj → Pair ops k ok oj ∨ Pair ops j oj ok
  fresh : ∀ k v o t, (k, v) ∈ s.E → ¬ On Lr k → ops[k]? = some o → o.op = .alloc t → v = .pointer (some ⟨nameOf base k, 0, none⟩) → ¬ w0.gh (nameOf base k)
  act : AP ρ (slots ops s.E Lr) s.a a'
  wr : WR P ⟨w0.w, ghosts ops base w0 s.E Lr, w0.ok⟩ ρ s.m w
theorem ready_iff {l : Array Bool} {j : Nat} (hs : l.size = ops.size) : j ∈ Region.ready .any ops l ↔ (¬ On l j ∧ ∃ o, ops[j]? = some o ∧ ∀ e ∈ o.after, Region.binds .any e = true → On l e.on) := by
  rw [mem_ready, off_iff]
  constructor
  · rintro ⟨⟨h1, h2⟩, h3⟩; exact ⟨h2, h3⟩
  · rintro ⟨h2, o, ho, h3⟩
    exact ⟨⟨by rw [hs]; exact (Array.getElem?_eq_some_iff.1 ho).1, h2⟩, o, ho, h3⟩
theorem not_on_set {l : Array Bool} {i j : Nat} (hi : i < l.size) : ¬ On (l.setIfInBounds i true) j ↔ (j ≠ i ∧ ¬ On l j) := by
  rw [on_set hi]; exact not_or
/-- what k looks at, the program has written, if k may come up -/
theorem Inv.clearA {w0 : Base} {s : Ent} {Lr : Array Bool} {ρ : Nm} {a' : Act} {w : World} (h : Inv P ops base w0 s Lr ρ a' w) {k : Nat} {o : Oper} (ho : ops[k]? = some o) (hr : ∀ e ∈ o.after, Region.binds .any e = true → On Lr e.on) (hp : On s.listed k) (hk : ¬ On Lr k) : clearOf o ops (slots ops s.E Lr) := fun t ht => by
  cases hc : (slots ops s.E Lr).contains t with
  | false => rfl
  | true =>
    obtain ⟨p, u, op, hm, hoff, hop, hd⟩ := mem_slots.1 hc
    obtain ⟨v, hkv⟩ := h.recs k hp hk
    by_cases epk : p = k
    · subst epk
      rw [ho] at hop; injection hop with hop; subst hop
      obtain ⟨o2, ho2, hself, _⟩ := (h.rcd _ _ hkv hk).op
      rw [ho] at ho2; injection ho2 with ho2; subst ho2
      exact absurd ht (hself t hd)
    · rcases h.pair k v p u o op hkv hm hk hoff (Ne.symm epk) ho hop with ⟨h1, _⟩ | ⟨_, h2⟩
      · exact absurd ht (h1 t hd).1
      · rcases h2 t hd with ⟨e, he, hb, heq⟩ | hn
        · exact absurd (heq ▸ hr e he hb) hoff
        · exact absurd ht hn
theorem Inv.clearB {w0 : Base} {s : Ent} {Lr : Array Bool} {ρ : Nm} {a' : Act} {w : World} (h : Inv P ops base w0 s Lr ρ a' w) {j : Nat} {o : Oper} (ho : ops[j]? = some o) (hr : ∀ e ∈ o.after, Region.binds .any e = true → On Lr e.on) (hp : ¬ On s.listed j) : clearOf o ops (slots ops s.E Lr) := fun t ht => by
  cases hc : (slots ops s.E Lr).contains t with
  | false => rfl
  | true =>
    obtain ⟨p, u, op, hm, hoff, hop, hd⟩ := mem_slots.1 hc
    have hjp : j ≠ p := fun e => hp (e ▸ h.inE p u hm)
    obtain ⟨o2, ho2, _, hpair, _⟩ := (h.rcd _ _ hm hoff).op
    rw [hop] at ho2; injection ho2 with ho2; subst ho2
    have hun : s.listed.getD j true = false := off_iff.2 ⟨by rw [h.size]; exact (Array.getElem?_eq_some_iff.1 ho).1, hp⟩
    rcases (hpair j o hjp hun ho).2 t hd with ⟨e, he, hb, heq⟩ | hn
    · exact absurd (heq ▸ hr e he hb) hoff
    · exact absurd ht hn
theorem Inv.wanted {w0 : Base} {s : Ent} {Lr : Array Bool} {ρ : Nm} {a' : Act} {w : World} (h : Inv P ops base w0 s Lr ρ a' w) {o : Oper} (hc : clearOf o ops (slots ops s.E Lr)) (hg : gOK ops s.a o = true) : Region.wanted o (yielded ops a'.tmps) = Region.wanted o (yieldF ops s.a) := by
  rw [← mask_wanted a' hc, ← mask_wantedM s.a hc]
  exact wanted_rel h.act.mask ops o (mask_gOK s.a hc hg)
/-- the program makes up for k -/
theorem Inv.put {w0 : Base} {s : Ent} {Lr : Array Bool} {ρ ρ' : Nm} {a' : Act} {w w' : World} (h : Inv P ops base w0 s Lr ρ a' w) {k : Nat} {o : Oper} {v v' : Value} (ho : ops[k]? = some o) (hr : ∀ e ∈ o.after, Region.binds .any e = true → On Lr e.on) (hp : On s.listed k) (hk : ¬ On Lr k) (hx : Ext ρ ρ') (hkv : (k, v) ∈ s.E) (hv : VR ρ' v v')
    (hw : WR P ⟨w0.w, ghosts ops base w0 s.E (Lr.setIfInBounds k true), w0.ok⟩ ρ' s.m w') : Inv P ops base w0 s (Lr.setIfInBounds k true) ρ' (a'.put o.dst v') w' := by
  have hlt : k < Lr.size := by rw [h.sizeR]; exact (Array.getElem?_eq_some_iff.1 ho).1
  have hoff : ∀ j, ¬ On (Lr.setIfInBounds k true) j → j ≠ k ∧ ¬ On Lr j := fun j => (not_on_set hlt).1
  obtain ⟨o2, ho2, hself, hpair, hdst, hkind⟩ := (h.rcd _ _ hkv hk).op
  rw [ho] at ho2; injection ho2 with ho2; subst ho2
  refine ⟨h.size, by rw [Array.size_setIfInBounds]; exact h.sizeR, fun i hi => ?_, fun j oj hj hoj e he hb => ?_, h.closedL, h.inE, fun i hi hn => h.recs i hi (hoff i hn).2, fun i u hm hn => h.rcd i u hm (hoff i hn).2, fun i u j z oi oj h1 h2 h3 h4 => h.pair i u j z oi oj h1 h2 (hoff i h3).2 (hoff j h4).2, fun i u oi t h1 h2 => h.fresh i u oi t h1 (hoff i h2).2, ?_, hw⟩
  · rcases (on_set hlt).1 hi with rfl | hi
    · exact hp
    · exact h.sub i hi
  · refine (on_set hlt).2 (.inr ?_)
    rcases (on_set hlt).1 hj with rfl | hj
    · rw [ho] at hoj; injection hoj with hoj; subst hoj; exact hr e he hb
    · exact h.closed j oj hj hoj e he hb
  · refine ⟨by rw [put_size]; exact h.act.size, h.act.le, fun t ht => ?_, by rw [show (a'.put o.dst v').defers = a'.defers by cases o.dst <;> rfl]; exact h.act.defs.ext hx⟩
    cases hd : o.dst with
    | none =>
      refine (h.act.get t ?_).ext hx
      cases hc : (slots ops s.E Lr).contains t with
      | false => rfl
      | true =>
        obtain ⟨p, u, op, hm, hn, hop, hdp⟩ := mem_slots.1 hc
        have : p ≠ k := fun e => by subst e; rw [ho] at hop; injection hop with hop; subst hop; rw [hd] at hdp; cases hdp
        rw [mem_slots.2 ⟨p, u, op, hm, (not_on_set hlt).2 ⟨this, hn⟩, hop, hdp⟩] at ht; cases ht
    | some d =>
      by_cases etd : t = d
      · subst etd
        by_cases hts : t < a'.tmps.size
        · rw [put_getD_same hts, hdst t hd (by rw [← h.act.size]; exact hts)]; exact hv
        · have e1 : (a'.put (some t) v').tmps.getD t undef = undef := by simp [Act.put, Array.getD, hts]
          have e2 : s.a.get t = undef := MA.get_out (by have := h.act.size; omega)
          rw [e1, e2]; exact .same _ pureV_undef
      · rw [put_getD_ne etd]
        refine (h.act.get t ?_).ext hx
        cases hc : (slots ops s.E Lr).contains t with
        | false => rfl
        | true =>
          obtain ⟨p, u, op, hm, hn, hop, hdp⟩ := mem_slots.1 hc
          have : p ≠ k := fun e => by
            subst e; rw [ho] at hop; injection hop with hop; subst hop
            rw [hd] at hdp; injection hdp with hdp; exact etd hdp.symm
          rw [mem_slots.2 ⟨p, u, op, hm, (not_on_set hlt).2 ⟨this, hn⟩, hop, hdp⟩] at ht; cases ht
theorem ghosts_same {w0 : Base} {E : List (Nat × Value)} {Lr : Array Bool} {k : Nat} {o : Oper} (hlt : k < Lr.size) (ho : ops[k]? = some o) (hno : ∀ t n, o.op = .alloc t → ∀ v, (k, v) ∈ E → v ≠ .pointer (some ⟨n, 0, none⟩)) (x : Nat) : ghosts ops base w0 E (Lr.setIfInBounds k true) x ↔ ghosts ops base w0 E Lr x := by
  unfold ghosts
  refine or_congr Iff.rfl ⟨fun ⟨p, v, op, t, h1, h2, h3, h4, h5⟩ => ⟨p, v, op, t, h1, ((not_on_set hlt).1 h2).2, h3, h4, h5⟩, fun ⟨p, v, op, t, h1, h2, h3, h4, h5⟩ => ⟨p, v, op, t, h1, (not_on_set hlt).2 ⟨fun e => ?_, h2⟩, h3, h4, h5⟩⟩
  subst e
  rw [ho] at h3; injection h3 with h3; subst h3
  exact hno t x h4 v h1 h5
theorem Inv.stepA {rd : Option Nat} (hP : P = Env.prog) (hns : Region.noSelect ops = true) {w0 : Base} {s : Ent} {Lr : Array Bool} {ρ : Nm} {a' : Act} {w : World} (h : Inv P ops base w0 s Lr ρ a' w) {k : Nat} (hr : k ∈ Region.ready .any ops Lr) (hp : On s.listed k) {K : Act → World → Prop} {Q : Exit → Act → World → Prop}
    (hK : ∀ ρ' a1' w', Ext ρ ρ' → Inv P ops base w0 s (Lr.setIfInBounds k true) ρ' a1' w' → K a1' w') : wpOpIn (WF rd) 0 P ops Q k K a' w := by
  obtain ⟨hk, o, ho, hdeps⟩ := (ready_iff h.sizeR).1 hr
  have hc := h.clearA ho hdeps hp hk
  have hsel := Region.noSelect_spec hns k o
  have hlt : k < Lr.size := by rw [h.sizeR]; exact (Array.getElem?_eq_some_iff.1 ho).1
  obtain ⟨v, hkv⟩ := h.recs k hp hk
  obtain ⟨o2, ho2, hself, hpair, hdst, hgok, hkind⟩ := (h.rcd _ _ hkv hk).op
  rw [ho] at ho2; injection ho2 with ho2; subst ho2
  have hwant := h.wanted hc hgok
  have hm := h.act.mask
  unfold wpOpIn
  rw [ho]
  dsimp only
  rw [hwant]
  have uniq : ∀ u, (k, u) ∈ s.E → Kind P ops base s k o u := fun u hu => by
    obtain ⟨o3, ho3, _, _, _, hk3⟩ := (h.rcd _ _ hu hk).op
    rw [ho] at ho3; injection ho3 with ho3; subst ho3; exact hk3
  rcases hkind with ⟨hw0, rfl⟩ | ⟨hw1, hkind⟩
  · rw [if_neg (by simp [hw0])]
    refine ⟨fun _ _ => trivial, hK ρ _ w (Ext.refl _) (h.put ho hdeps hp hk (Ext.refl _) hkv (.same _ pureV_undef) (h.wr.regh (ghosts_same hlt ho fun t n hop u hu e => ?_)))⟩
    rcases (uniq u hu).2 with ⟨_, hu0⟩ | ⟨hw1, _⟩
    · rw [e] at hu0; cases hu0
    · rw [hw0] at hw1; cases hw1
  · rw [if_pos hw1]
    rcases hkind with ⟨hna, hf⟩ | ⟨t, x, ad, hop, hx, hsp, hl⟩ | ⟨t, z, hop, hz, rfl, hcell⟩
    · have hf2 : opF P (maskM s.a (slots ops s.E Lr)) o = some v := by rw [opF_congr (mask_alike s.a hc)]; exact hf
      obtain ⟨v', r1, r2⟩ := opF_run hP hm hf2
      rw [mask_exec a' (fun cs b => hsel cs b ho) hc] at r1
      refine SemOK.wp (.inl ⟨ρ, .value v', v', w, Ext.refl _, r1 w, .inl rfl, r2, h.wr⟩) fun ρ' u' w' x' y z => ?_
      exact hK ρ' _ w' x' (h.put ho hdeps hp hk x' hkv y (z.regh (ghosts_same hlt ho fun t n hop => absurd hop (hna t))))
    · have hx2 : evalM (maskM s.a (slots ops s.E Lr)) x = some (.pointer (some ad)) := by rw [mask_alike s.a hc x (by rw [hop]; simp [Op.operands])]; exact hx
      obtain ⟨hvx, _⟩ := evalM_spec hm hx2
      have hev : (maskA a' (slots ops s.E Lr)).eval x = a'.eval x := by
        cases x with
        | tmp t' =>
          have h1 := hc t' (looks_operand (by rw [hop]; simp [Op.operands]))
          show (maskA a' _).tmps.getD t' undef = a'.tmps.getD t' undef
          rw [mask_getD, h1]; rfl
        | _ => rfl
      rw [hev] at hvx
      obtain ⟨b, d, e, h1, h2, h3⟩ := hvx.ptr_inv hsp
      obtain ⟨v', r1, r2⟩ := h.wr.loadV h2 hl
      refine SemOK.wp (.inl ⟨ρ, .value v', v', w, Ext.refl _, ?_, .inl rfl, r2, h.wr⟩) fun ρ' u' w' x' y z => ?_
      · simp only [execOp, hop, Instr.loadAt, h3, Instr.sureAddr, Sem.run_bind, Sem.run_pure, Result.andThen_ok, r1]
      · exact hK ρ' _ w' x' (h.put ho hdeps hp hk x' hkv y (z.regh (ghosts_same hlt ho fun t n hop2 => by rw [hop] at hop2; cases hop2)))
    · obtain ⟨z1, z2, _⟩ := zeroM_spec hz
      have hget := cellsAt_spec hcell
      have hgh : ghosts ops base w0 s.E Lr (nameOf base k) := .inr ⟨k, _, o, t, hkv, hk, ho, hop, rfl⟩
      obtain ⟨ρ', e1, e2, e3⟩ := h.wr.ghostReal (q := .cells z.cells t) (g' := ghosts ops base w0 s.E (Lr.setIfInBounds k true)) hgh hget (OR.fresh t (AR.same (pure_cells z2))) (fun x => by
        have kind3 : ∀ p u op t' n, (p, u) ∈ s.E → ¬ On Lr p → ops[p]? = some op → op.op = .alloc t' → u = .pointer (some ⟨n, 0, none⟩) → n = nameOf base p := fun p u op t' n h1 h2 h3 h4 h5 => by
          obtain ⟨o3, ho3, _, _, _, hk3⟩ := (h.rcd _ _ h1 h2).op
          rw [h3] at ho3; injection ho3 with ho3; subst ho3
          rcases hk3.2 with ⟨_, hu0⟩ | ⟨_, ⟨hna, _⟩ | ⟨_, _, _, hop3, _⟩ | ⟨_, _, _, _, hu3, _⟩⟩
          · rw [h5] at hu0; cases hu0
          · exact absurd h4 (hna t')
          · rw [h4] at hop3; cases hop3
          · rw [h5] at hu3; injection hu3 with hu3; injection hu3 with hu3; injection hu3
        constructor
        · rintro (hg | ⟨p, u, op, t', h1, h2, h3, h4, h5⟩)
          · exact ⟨.inl hg, fun e => h.fresh k _ o t hkv hk ho hop rfl (e ▸ hg)⟩
          · obtain ⟨h6, h7⟩ := (not_on_set hlt).1 h2
            refine ⟨.inr ⟨p, u, op, t', h1, h7, h3, h4, h5⟩, fun e => h6 ?_⟩
            have := kind3 p u op t' x h1 h7 h3 h4 h5
            rw [e] at this
            unfold nameOf at this
            omega
        · rintro ⟨hg | ⟨p, u, op, t', h1, h2, h3, h4, h5⟩, hne⟩
          · exact .inl hg
          · refine .inr ⟨p, u, op, t', h1, (not_on_set hlt).2 ⟨fun e => hne ?_, h2⟩, h3, h4, h5⟩
            have := kind3 p u op t' x h1 h2 h3 h4 h5
            rw [this, e])
      refine ⟨fun _ _ => trivial, ?_⟩
      have hrun : (execOp a'.eval o).run P w = .ok (.value (.pointer (some ⟨w.heap.size, 0, none⟩))) { w with heap := w.heap.push (.cells z.cells t) } := by
        simp only [execOp, hop, Instr.alloc, Sem.run_bind, z1, Result.andThen_ok]
        simp [newVar, newRow, newObj, Sem.run]
      rw [semAt_run hrun (by intro d hd; cases hd)]
      refine hK ρ' _ _ e1 (h.put ho hdeps hp hk e1 hkv ?_ e3)
      have := VR.ptr (ρ := ρ') (nameOf base k) 0 _ _ _ e2
      simpa using this
theorem isAnc_spec {k : Nat} {Z : Nat → Prop} (hZ : ∀ j o, Z j → ops[j]? = some o → ∀ e ∈ o.after, Region.binds .any e = true → Z e.on) : ∀ (f j : Nat), isAnc ops k f j = true → (∀ o, ops[j]? = some o → ∀ e ∈ o.after, Region.binds .any e = true → Z e.on) → Z k
  | 0, j, h, _ => by simp [isAnc] at h
  | f + 1, j, h, hj => by
    simp only [isAnc] at h
    split at h
    · rename_i oj hoj
      obtain ⟨e, he, hb⟩ := Array.any_eq_true'.1 h
      rw [Bool.and_eq_true, Bool.or_eq_true, beq_iff_eq] at hb
      have hz := hj oj hoj e he hb.1
      rcases hb.2 with rfl | h2
      · exact hz
      · exact isAnc_spec hZ f e.on h2 (fun o ho => hZ _ o hz ho)
    · cases h
theorem wanted_putM (o : Oper) (a : MA) (dst : Option Tmp) (u : Value) (hd : ∀ d, dst = some d → d ∉ o.looksAt ops) : Region.wanted o (yieldF ops (putF a dst u)) = Region.wanted o (yieldF ops a) := by
  unfold Region.wanted
  cases hg : o.guard with
  | none => rfl
  | some g =>
    obtain ⟨j, b⟩ := g
    have : yieldF ops (putF a dst u) j = yieldF ops a j := by
      rw [yieldF_bool, yieldF_bool]
      cases hdd : (ops[j]?).bind (·.dst) with
      | none => rfl
      | some d =>
        cases dst with
        | none => rfl
        | some d0 =>
          have : d ≠ d0 := fun e => hd d0 rfl (by rw [← e]; simp [Oper.looksAt, hg, hdd])
          simp only [putM_get_ne this]
    simp only [this]
theorem gOK_put {o : Oper} {a : MA} {dst : Option Tmp} {u : Value} (hd : ∀ d, dst = some d → d ∉ o.looksAt ops) (hg : gOK ops a o = true) : gOK ops (putF a dst u) o = true := by
  cases dst with
  | none => exact hg
  | some d0 =>
    unfold gOK at hg ⊢
    cases hgd : o.guard with
    | none => rfl
    | some g =>
      obtain ⟨j, b⟩ := g
      simp only [hgd] at hg ⊢
      cases hj : ops[j]? with
      | none => rfl
      | some oj =>
        simp only [hj] at hg ⊢
        cases hdd : oj.dst with
        | none => rfl
        | some d =>
          simp only [hdd] at hg ⊢
          have : d ≠ d0 := fun e => hd d0 rfl (by rw [← e]; simp [Oper.looksAt, hgd, hj, hdd])
          rw [putM_get_ne this]; exact hg
/-- what was taken ahead still holds where the act has one slot more, and memory has been looked after -/
theorem Kind.keep {s c : Ent} {k : Nat} {o : Oper} {v : Value} {dst : Option Tmp} {u : Value} (ho : ops[k]? = some o) (h : Kind P ops base s k o v) (ha : c.a = putF s.a dst u) (hd : ∀ d, dst = some d → d ∉ o.looksAt ops) (hm : c.m = s.m ∨ chk P ops c.a c.m (k, v) = true) : Kind P ops base c k o v := by
  have hwant : Region.wanted o (yieldF ops c.a) = Region.wanted o (yieldF ops s.a) := by rw [ha]; exact wanted_putM o s.a dst u hd
  have hal : Alike c.a s.a o := by rw [ha]; exact put_alike hd
  unfold Kind
  rw [hwant]
  obtain ⟨hgok, h⟩ := h
  refine ⟨by rw [ha]; exact gOK_put hd hgok, ?_⟩
  rcases h with h | ⟨hw, h⟩
  · exact .inl h
  refine .inr ⟨hw, ?_⟩
  rcases h with ⟨hna, hf⟩ | ⟨t, x, ad, hop, hx, hsp, hl⟩ | ⟨t, z, hop, hz, hv, hc⟩
  · exact .inl ⟨hna, by rw [opF_congr hal]; exact hf⟩
  · refine .inr (.inl ⟨t, x, ad, hop, by rw [hal x (by rw [hop]; simp [Op.operands])]; exact hx, hsp, ?_⟩)
    rcases hm with hm | hm
    · rw [hm]; exact hl
    · unfold chk at hm
      rw [ho] at hm
      simp only [hop, hwant, hw, if_true] at hm
      rw [hal x (by rw [hop]; simp [Op.operands]), hx] at hm
      dsimp only at hm
      rw [if_neg (by simp [hsp])] at hm
      split at hm
      · rename_i q hq
        rw [hq, eqV_sound _ _ hm]
      · cases hm
  · refine .inr (.inr ⟨t, z, hop, hz, hv, ?_⟩)
    rcases hm with hm | hm
    · rw [hm]; exact hc
    · unfold chk at hm
      rw [ho] at hm
      simp only [hop, hv] at hm
      split at hm
      · rename_i c1 u1 z1 hc1 hz1
        rw [hz] at hz1; injection hz1 with hz1; subst hz1
        rw [Bool.and_eq_true, decide_eq_true_eq] at hm
        rw [hc1, eqA_sound _ _ hm.1, hm.2]
      · cases hm
theorem Rec.keep {s c : Ent} {k j : Nat} {v u : Value} {oj : Oper} (h : Rec P ops base s k v) (hoj : ops[j]? = some oj) (hun : s.listed.getD j true = false) (hjk : j ≠ k) (hl : c.listed = s.listed.setIfInBounds j true) (ha : c.a = putF s.a oj.dst u) (hm : c.m = s.m ∨ chk P ops c.a c.m (k, v) = true) : Rec P ops base c k v := by
  obtain ⟨o, ho, hself, hpair, hdst, hkind⟩ := h.op
  obtain ⟨hp1, hp2⟩ := hpair j oj hjk hun hoj
  refine ⟨o, ho, hself, fun i oi hi hun2 hoi => hpair i oi hi ?_ hoi, fun d hd hlt => ?_, hkind.keep ho ha (fun d hd => (hp1 d hd).1) hm⟩
  · rw [hl] at hun2
    have h2 := off_iff.1 hun2
    rw [Array.size_setIfInBounds] at h2
    exact off_iff.2 ⟨h2.1, ((not_on_set (off_iff.1 hun).1).1 h2.2).2⟩
  · rw [ha] at hlt ⊢
    rw [putM_n] at hlt
    cases hd2 : oj.dst with
    | none => exact hdst d hd hlt
    | some d2 =>
      have : d ≠ d2 := fun e => (hp1 d2 hd2).2 (e ▸ hd)
      rw [putM_get_ne this]; exact hdst d hd hlt
/-- k is taken ahead: the program stays where it is -/
theorem Inv.ahead {w0 : Base} {s c : Ent} {Lr : Array Bool} {ρ : Nm} {a' : Act} {w : World} (h : Inv P ops base w0 s Lr ρ a' w) {k : Nat} {o : Oper} {v : Value} (hr : k ∈ Region.ready .any ops s.listed) (ho : ops[k]? = some o) (hfree : Free ops s.listed k) (hl : c.listed = s.listed.setIfInBounds k true) (ha : c.a = putF s.a o.dst v) (hE : c.E = (k, v) :: s.E)
    (hm : ∀ r ∈ s.E, c.m = s.m ∨ chk P ops c.a c.m r = true) (hkind : Kind P ops base c k o v) (hfresh : ∀ t, o.op = .alloc t → v = .pointer (some ⟨nameOf base k, 0, none⟩) → ¬ w0.gh (nameOf base k)) (hw : WR P ⟨w0.w, ghosts ops base w0 c.E Lr, w0.ok⟩ ρ c.m w) : Inv P ops base w0 c Lr ρ a' w := by
  obtain ⟨hk, o1, ho1, hdeps⟩ := (ready_iff h.size).1 hr
  rw [ho] at ho1; injection ho1 with ho1; subst ho1
  obtain ⟨o2, ho2, hself, hfr⟩ := hfree
  rw [ho] at ho2; injection ho2 with ho2; subst ho2
  have hlt : k < s.listed.size := by rw [h.size]; exact (Array.getElem?_eq_some_iff.1 ho).1
  have hun : s.listed.getD k true = false := off_iff.2 ⟨hlt, hk⟩
  have hkL : ¬ On Lr k := fun e => hk (h.sub k e)
  have onC : ∀ j, On c.listed j ↔ (j = k ∨ On s.listed j) := fun j => by rw [hl]; exact on_set hlt
  have hne : ∀ i u, (i, u) ∈ s.E → k ≠ i := fun i u hm e => hk (e ▸ h.inE i u hm)
  have recK : Rec P ops base c k v := ⟨o, ho, hself, fun j oj hj hunj hoj => hfr j oj hj (by
      rw [hl] at hunj
      have h2 := off_iff.1 hunj
      rw [Array.size_setIfInBounds] at h2
      exact off_iff.2 ⟨h2.1, ((not_on_set hlt).1 h2.2).2⟩) hoj, fun d hd hdl => by
        rw [ha] at hdl ⊢
        rw [putM_n] at hdl
        rw [hd, putM_get_same hdl h.act.le], hkind⟩
  refine ⟨by rw [hl, Array.size_setIfInBounds]; exact h.size, h.sizeR, fun i hi => (onC i).2 (.inr (h.sub i hi)), h.closed, fun j oj hj hoj e he hb => ?_, fun i u hm => ?_, fun i hi hn => ?_, fun i u hm1 hn => ?_, fun i u j z oi oj h1 h2 h3 h4 hij hoi hoj => ?_, fun i u oi t h1 h2 h3 h4 h5 => ?_, ?_, hw⟩
  · rcases (onC j).1 hj with rfl | hj
    · rw [ho] at hoj; injection hoj with hoj; subst hoj; exact (onC _).2 (.inr (hdeps e he hb))
    · exact (onC _).2 (.inr (h.closedL j oj hj hoj e he hb))
  · rw [hE] at hm
    rcases List.mem_cons.1 hm with e | hm
    · injection e with e1 e2; exact (onC i).2 (.inl e1)
    · exact (onC i).2 (.inr (h.inE i u hm))
  · rw [hE]
    rcases (onC i).1 hi with rfl | hi
    · exact ⟨v, List.mem_cons_self ..⟩
    · obtain ⟨u, hu⟩ := h.recs i hi hn; exact ⟨u, List.mem_cons_of_mem _ hu⟩
  · rw [hE] at hm1
    rcases List.mem_cons.1 hm1 with e | hm2
    · injection e with e1 e2; subst e1 e2; exact recK
    · exact (h.rcd i u hm2 hn).keep ho hun (hne i u hm2) hl ha (hm _ hm2)
  · rw [hE] at h1 h2
    have old : ∀ i u oi, (i, u) ∈ s.E → ¬ On Lr i → ops[i]? = some oi → Pair ops i oi o := fun i u oi hm hn hoi => by
      obtain ⟨o3, ho3, _, hp3, _⟩ := (h.rcd i u hm hn).op
      rw [hoi] at ho3; injection ho3 with ho3; subst ho3
      exact hp3 k o (hne i u hm) hun ho
    rcases List.mem_cons.1 h1 with e | h1
    · injection e with e1 e2; subst e1 e2
      rcases List.mem_cons.1 h2 with e | h2
      · injection e with e1 e2; exact absurd e1.symm hij
      · rw [ho] at hoi; injection hoi with hoi; subst hoi
        exact .inr (old j z oj h2 h4 hoj)
    · rename_i h1x
      rcases List.mem_cons.1 h2 with e | h2
      · injection e with e1 e2; subst e1 e2
        rw [ho] at hoj; injection hoj with hoj; subst hoj
        exact .inl (old i u oi (by assumption) h3 hoi)
      · exact h.pair i u j z oi oj (by assumption) h2 h3 h4 hij hoi hoj
  · rw [hE] at h1
    rcases List.mem_cons.1 h1 with e | h1
    · injection e with e1 e2; subst e1 e2
      rw [ho] at h3; injection h3 with h3; subst h3
      exact hfresh t h4 h5
    · exact h.fresh i u oi t h1 h2 h3 h4 h5
  · refine ⟨by rw [ha, putM_n]; exact h.act.size, by rw [ha, putM_n]; exact h.act.le, fun t ht => ?_, by rw [ha, putM_defers]; exact h.act.defs⟩
    have hts : (slots ops s.E Lr).contains t = false := by
      cases hc : (slots ops s.E Lr).contains t with
      | false => rfl
      | true =>
        obtain ⟨p, u, op, hm, hn, hop, hdp⟩ := mem_slots.1 hc
        rw [mem_slots.2 ⟨p, u, op, by rw [hE]; exact List.mem_cons_of_mem _ hm, hn, hop, hdp⟩] at ht; cases ht
    have htd : o.dst ≠ some t := fun e => by
      rw [mem_slots.2 ⟨k, v, o, by rw [hE]; exact List.mem_cons_self .., hkL, ho, e⟩] at ht; cases ht
    rw [ha]
    cases hd : o.dst with
    | none => exact h.act.get t hts
    | some d =>
      rw [putM_get_ne (fun e => htd (by rw [hd, e]))]
      exact h.act.get t hts
theorem ghosts_cons {w0 : Base} {E : List (Nat × Value)} {Lr : Array Bool} {k : Nat} {v : Value} {o : Oper} (ho : ops[k]? = some o) (hno : ∀ t n, o.op = .alloc t → v ≠ .pointer (some ⟨n, 0, none⟩)) (x : Nat) : ghosts ops base w0 ((k, v) :: E) Lr x ↔ ghosts ops base w0 E Lr x := by
  unfold ghosts
  refine or_congr Iff.rfl ⟨fun ⟨p, u, op, t, h1, h2, h3, h4, h5⟩ => ?_, fun ⟨p, u, op, t, h1, h⟩ => ⟨p, u, op, t, List.mem_cons_of_mem _ h1, h⟩⟩
  rcases List.mem_cons.1 h1 with e | h1
  · injection e with e1 e2; subst e1 e2
    rw [ho] at h3; injection h3 with h3; subst h3
    exact absurd h5 (hno t x h4)
  · exact ⟨p, u, op, t, h1, h2, h3, h4, h5⟩
theorem Inv.stepE {w0 : Base} {s c : Ent} {Lr : Array Bool} {ρ : Nm} {a' : Act} {w : World} (h : Inv P ops base w0 s Lr ρ a' w) {k : Nat} (hr : k ∈ Region.ready .any ops s.listed) (hc : eagerOne P ops base pre ctr s k = some c) : Inv P ops base w0 c Lr ρ a' w := by
  obtain ⟨hk, o1, ho1, hdeps⟩ := (ready_iff h.size).1 hr
  unfold eagerOne at hc
  simp only [forceV_eq, forceA_eq, forceN_eq, openA_eq, openAct_eq, openM_eq, setF_eq] at hc
  split at hc
  case h_2 => cases hc
  rename_i o ho
  rw [ho] at ho1; injection ho1 with ho1; subst ho1
  have go : mayGo ops s.listed k = true → Free ops s.listed k ∧ (∀ d, o.dst = some d → d ∉ o.looksAt ops) := fun hmg => by
    have hf := mayGo_spec hmg ho hdeps
    refine ⟨hf, ?_⟩
    obtain ⟨o2, ho2, hs, _⟩ := hf
    rw [ho] at ho2; injection ho2 with ho2; subst ho2; exact hs
  have hwput : (∀ d, o.dst = some d → d ∉ o.looksAt ops) → ∀ v, Region.wanted o (yieldF ops (putF s.a o.dst v)) = Region.wanted o (yieldF ops s.a) := fun hself v => wanted_putM o s.a o.dst v hself
  have hal : (∀ d, o.dst = some d → d ∉ o.looksAt ops) → ∀ v, Alike (putF s.a o.dst v) s.a o := fun hself v => put_alike hself
  split at hc
  · cases hc
  rename_i hgok
  have hgok : gOK ops s.a o = true := by simpa using hgok
  split at hc
  · rename_i hwt
    split at hc
    · rename_i t x hop
      split at hc
      case h_2 => cases hc
      rename_i ad hx
      split at hc
      · cases hc
      rename_i hsp
      have hsp : ad.spot = none := by simpa using hsp
      split at hc
      case h_2 => cases hc
      rename_i v hv
      split at hc
      case isFalse => cases hc
      rename_i hmg
      obtain ⟨hfree, hself⟩ := go hmg
      injection hc with hc; subst hc
      refine h.ahead (v := v) hr ho hfree rfl rfl rfl (fun r hr => .inl rfl) ⟨gOK_put hself hgok, (.inr ⟨by dsimp only; rw [hwput hself]; exact hwt, .inr (.inl ⟨t, x, ad, hop, ?_, hsp, hv⟩)⟩)⟩ (fun t' hop' => by rw [hop] at hop'; cases hop') (h.wr.regh (ghosts_cons ho (fun t' n hop' => by rw [hop] at hop'; cases hop')))
      dsimp only
      rw [hal hself v x (by rw [hop]; simp [Op.operands])]; exact hx
    · rename_i t hop
      split at hc
      case isFalse => cases hc
      rename_i hmg
      obtain ⟨hfree, hself⟩ := go hmg
      split at hc
      case h_2 => cases hc
      rename_i z hz
      split at hc
      case h_2 => cases hc
      rename_i n m1 hn
      split at hc
      case isFalse => cases hc
      rename_i hnm
      subst hnm
      split at hc
      case isFalse => cases hc
      rename_i hall
      injection hc with hc; subst hc
      obtain ⟨g1, g2, g3⟩ := (h.wr.names (base + k) 0).ghostNew hn
      have hgh : ∀ x, ghosts ops base w0 ((k, .pointer (some ⟨nameOf base k, 0, none⟩)) :: s.E) Lr x ↔ (ghosts ops base w0 s.E Lr x ∨ x = nameOf base k) := fun x => by
        unfold ghosts
        constructor
        · rintro (hg | ⟨p, u, op, t', h1, h2, h3, h4, h5⟩)
          · exact .inl (.inl hg)
          · rcases List.mem_cons.1 h1 with e | h1
            · injection e with e1 e2; subst e1 e2
              injection h5 with h5; injection h5 with h5; injection h5 with h5
              exact .inr h5.symm
            · exact .inl (.inr ⟨p, u, op, t', h1, h2, h3, h4, h5⟩)
        · rintro ((hg | ⟨p, u, op, t', h1, h⟩) | rfl)
          · exact .inl hg
          · exact .inr ⟨p, u, op, t', List.mem_cons_of_mem _ h1, h⟩
          · exact .inr ⟨k, _, o, t, List.mem_cons_self .., fun e => hk (h.sub k e), ho, hop, rfl⟩
      refine h.ahead (v := .pointer (some ⟨nameOf base k, 0, none⟩)) hr ho hfree rfl rfl rfl (fun r hr => .inr (List.all_eq_true.1 hall r hr)) ⟨gOK_put hself hgok, (.inr ⟨by dsimp only; rw [hwput hself]; exact hwt, .inr (.inr ⟨t, z, hop, hz, rfl, ?_⟩)⟩)⟩ (fun t' hop' _ hg => (h.wr.ghost _ (.inl hg)).2.1 g3) ((g1.names pre ctr).regh hgh)
      unfold Mini.cellsAt
      dsimp only
      rw [g2]
      rfl
    · rename_i hnl hna
      split at hc
      case h_2 => cases hc
      rename_i v hv
      split at hc
      case isFalse => cases hc
      rename_i hmg
      obtain ⟨hfree, hself⟩ := go hmg
      injection hc with hc; subst hc
      exact h.ahead (v := v) hr ho hfree rfl rfl rfl (fun r hr => .inl rfl) ⟨gOK_put hself hgok, (.inr ⟨by dsimp only; rw [hwput hself]; exact hwt, .inl ⟨hna, by dsimp only; rw [opF_congr (hal hself v)]; exact hv⟩⟩)⟩ (fun t' hop' => absurd hop' (hna t')) (h.wr.regh (ghosts_cons ho (fun t' n hop' => absurd hop' (hna t'))))
  · rename_i hwt
    split at hc
    case isFalse => cases hc
    rename_i hmg
    obtain ⟨hfree, hself⟩ := go hmg
    injection hc with hc; subst hc
    exact h.ahead (v := undef) hr ho hfree rfl rfl rfl (fun r hr => .inl rfl) ⟨gOK_put hself hgok, (.inl ⟨by dsimp only; rw [hwput hself]; simpa using hwt, rfl⟩)⟩ (fun t' _ hu => by cases hu) (h.wr.regh (ghosts_cons ho (fun t' n _ hu => by cases hu)))
theorem Inv.stepEs {w0 : Base} {s c : Ent} {Lr : Array Bool} {ρ : Nm} {a' : Act} {w : World} (h : Inv P ops base w0 s Lr ρ a' w) (hc : Ahead P ops base pre ctr s c) : Inv P ops base w0 c Lr ρ a' w := by
  induction hc with
  | refl s => exact h
  | step hk hc _ ih => exact ih (h.stepE hk hc)
theorem Inv.stepB {rd : Option Nat} (hcall : CallS P call) (hns : Region.noSelect ops = true) {w0 : Base} {s c : Ent} {Lr : Array Bool} {ρ : Nm} {a' : Act} {w : World} (h : Inv P ops base w0 s Lr ρ a' w) {j : Nat} (hr : j ∈ Region.ready .any ops Lr) (hp : ¬ On s.listed j) (hc : syncOne P call ops base pre ctr s j = some c) {K : Act → World → Prop} {Q : Exit → Act → World → Prop}
    (hK : ∀ ρ' a1' w', Ext ρ ρ' → Inv P ops base w0 c (Lr.setIfInBounds j true) ρ' a1' w' → K a1' w') : wpOpIn (WF rd) 0 P ops Q j K a' w := by
  obtain ⟨hk, o, ho, hdeps⟩ := (ready_iff h.sizeR).1 hr
  have hclear := h.clearB ho hdeps hp
  have hsel := Region.noSelect_spec hns j o
  have hjs : j < ops.size := (Array.getElem?_eq_some_iff.1 ho).1
  have hlt : j < Lr.size := by rw [h.sizeR]; exact hjs
  have hltL : j < s.listed.size := by rw [h.size]; exact hjs
  have hun : s.listed.getD j true = false := off_iff.2 ⟨hltL, hp⟩
  -- the state behind it
  have next : ∀ (v : Value) (m1 : Mini) (c : Ent), c.listed = s.listed.setIfInBounds j true → c.a = putF s.a o.dst v → c.m = { m1 with pre := pre, ctr := ctr } → c.E = (s.E.filter fun r => !isAnc ops r.1 6 j) → (∀ r ∈ c.E, chk P ops c.a c.m r = true) → ∀ ρ' v' w', Ext ρ ρ' → VR ρ' v v' → WR P ⟨w0.w, ghosts ops base w0 s.E Lr, w0.ok⟩ ρ' m1 w' →
      Inv P ops base w0 c (Lr.setIfInBounds j true) ρ' (a'.put o.dst v') w' := fun v m1 c hl ha hm hE hchk ρ' v' w' hx hv hw => by
    have onC : ∀ i, On c.listed i ↔ (i = j ∨ On s.listed i) := fun i => by rw [hl]; exact on_set hltL
    have onR : ∀ i, On (Lr.setIfInBounds j true) i ↔ (i = j ∨ On Lr i) := fun i => on_set hlt
    have inS : ∀ r, r ∈ c.E → r ∈ s.E := fun r hr => by rw [hE] at hr; exact (List.mem_filter.1 hr).1
    have keepE : ∀ i u, (i, u) ∈ s.E → ¬ On Lr i → (i, u) ∈ c.E := fun i u hm hn => by
      rw [hE]
      refine List.mem_filter.2 ⟨hm, ?_⟩
      cases hanc : isAnc ops i 6 j with
      | false => rfl
      | true => exact absurd (isAnc_spec (Z := On Lr) h.closed 6 j hanc (fun o' ho' => by rw [ho] at ho'; injection ho' with ho'; subst ho'; exact hdeps)) hn
    have hnj : ∀ i u, (i, u) ∈ s.E → j ≠ i := fun i u hm e => hp (e ▸ h.inE i u hm)
    have hslots : ∀ t, (slots ops c.E (Lr.setIfInBounds j true)).contains t = false → (slots ops s.E Lr).contains t = false := fun t ht => by
      cases hcc : (slots ops s.E Lr).contains t with
      | false => rfl
      | true =>
        obtain ⟨p, u, op, hm, hn, hop, hdp⟩ := mem_slots.1 hcc
        rw [mem_slots.2 ⟨p, u, op, keepE p u hm hn, fun e => by rcases (onR p).1 e with e | e; exact hnj p u hm e.symm; exact hn e, hop, hdp⟩] at ht; cases ht
    refine ⟨by rw [hl, Array.size_setIfInBounds]; exact h.size, by rw [Array.size_setIfInBounds]; exact h.sizeR, fun i hi => ?_, fun i oi hi hoi e he hb => ?_, fun i oi hi hoi e he hb => ?_, fun i u hm => (onC i).2 (.inr (h.inE i u (inS _ hm))), fun i hi hn => ?_, fun i u hm hn => ?_, fun i u p z oi op h1 h2 h3 h4 => h.pair i u p z oi op (inS _ h1) (inS _ h2) (fun e => h3 ((onR i).2 (.inr e))) (fun e => h4 ((onR p).2 (.inr e))), fun i u oi t h1 h2 => h.fresh i u oi t (inS _ h1) (fun e => h2 ((onR i).2 (.inr e))), ?_, ?_⟩
    · rcases (onR i).1 hi with rfl | hi
      · exact (onC i).2 (.inl rfl)
      · exact (onC i).2 (.inr (h.sub i hi))
    · rcases (onR i).1 hi with rfl | hi
      · rw [ho] at hoi; injection hoi with hoi; subst hoi; exact (onR _).2 (.inr (hdeps e he hb))
      · exact (onR _).2 (.inr (h.closed i oi hi hoi e he hb))
    · rcases (onC i).1 hi with rfl | hi
      · rw [ho] at hoi; injection hoi with hoi; subst hoi; exact (onC _).2 (.inr (h.sub _ (hdeps e he hb)))
      · exact (onC _).2 (.inr (h.closedL i oi hi hoi e he hb))
    · rcases (onC i).1 hi with rfl | hi
      · exact absurd ((onR _).2 (.inl rfl)) hn
      · have hnl : ¬ On Lr i := fun e => hn ((onR i).2 (.inr e))
        obtain ⟨u, hu⟩ := h.recs i hi hnl
        exact ⟨u, keepE i u hu hnl⟩
    · have hnl : ¬ On Lr i := fun e => hn ((onR i).2 (.inr e))
      exact (h.rcd i u (inS _ hm) hnl).keep ho hun (hnj i u (inS _ hm)) hl ha (.inr (hchk _ hm))
    · refine ⟨by rw [ha, put_size, putM_n]; exact h.act.size, by rw [ha, putM_n]; exact h.act.le, fun t ht => ?_, by rw [ha, putM_defers]; rw [show (a'.put o.dst v').defers = a'.defers by cases o.dst <;> rfl]; exact h.act.defs.ext hx⟩
      rw [ha]
      cases hd : o.dst with
      | none => exact (h.act.get t (hslots t ht)).ext hx
      | some d =>
        by_cases etd : t = d
        · subst etd
          by_cases hts : t < a'.tmps.size
          · rw [put_getD_same hts, putM_get_same (by rw [← h.act.size]; exact hts) h.act.le]; exact hv
          · have e1 : (a'.put (some t) v').tmps.getD t undef = undef := by simp [Act.put, Array.getD, hts]
            have e2 : (putF s.a (some t) v).get t = undef := MA.get_out (by rw [putM_n]; have := h.act.size; omega)
            rw [e1, e2]; exact .same _ pureV_undef
        · rw [put_getD_ne etd, putM_get_ne etd]
          exact (h.act.get t (hslots t ht)).ext hx
    · rw [hm]
      refine (hw.names pre ctr).regh fun x => ?_
      unfold ghosts
      refine or_congr Iff.rfl ⟨fun ⟨p, u, op, t, h1, h2, h3⟩ => ⟨p, u, op, t, inS _ h1, fun e => h2 ((onR p).2 (.inr e)), h3⟩, fun ⟨p, u, op, t, h1, h2, h3⟩ => ⟨p, u, op, t, keepE p u h1 h2, fun e => by
        rcases (onR p).1 e with e | e
        · exact hnj p u h1 e.symm
        · exact h2 e, h3⟩⟩
  unfold syncOne at hc
  rw [ev1_def] at hc
  simp only [openA_eq, openM_eq, setF_eq, ho] at hc
  have hgok : gOK ops s.a o = true := by
    by_cases hg : gOK ops s.a o = true
    · exact hg
    · rw [if_neg hg] at hc; cases hc
  rw [if_pos hgok] at hc
  have hwant := h.wanted hclear hgok
  unfold wpOpIn
  rw [ho]
  dsimp only
  rw [hwant]
  by_cases hwt : Region.wanted o (yieldF ops s.a) = true
  · rw [if_pos hwt] at hc ⊢
    split at hc
    case h_2 => cases hc
    rename_i a1 m1 h1
    split at hc
    case isFalse => cases hc
    rename_i hall
    injection hc with hc
    split at h1
    case h_2 => cases h1
    rename_i v m2 hev
    injection h1 with h1; injection h1 with e1 e2; subst e1 e2
    have hev2 : evOp P call (maskM s.a (slots ops s.E Lr)) { s.m with pre := base + j, ctr := 0 } o = some (v, m2) := by rw [evOp_congr (mask_alike s.a hclear)]; exact hev
    have hsem := evOp_sem hcall h.act.mask (h.wr.names (base + j) 0) hev2
    rw [mask_exec a' (fun cs b => hsel cs b ho) hclear] at hsem
    refine hsem.wp fun ρ' v' w' x y z => hK ρ' _ w' x (next v m2 c ?_ ?_ ?_ ?_ ?_ ρ' v' w' x y z)
    · rw [← hc]
    · rw [← hc]
    · rw [← hc]
    · rw [← hc]
    · rw [← hc]; exact fun r hr => List.all_eq_true.1 hall r hr
  · rw [if_neg hwt] at hc ⊢
    dsimp only at hc
    split at hc
    case isFalse => cases hc
    rename_i hall
    injection hc with hc
    refine ⟨fun _ _ => trivial, hK ρ _ w (Ext.refl _) (next undef { s.m with pre := base + j, ctr := 0 } c ?_ ?_ ?_ ?_ ?_ ρ undef w (Ext.refl _) (.same _ pureV_undef) (h.wr.names _ _))⟩
    · rw [← hc]
    · rw [← hc]
    · rw [← hc]
    · rw [← hc]
    · rw [← hc]; exact fun r hr => List.all_eq_true.1 hall r hr
theorem backB_spec (hb : backB ops = true) {i : Nat} {o : Oper} (ho : ops[i]? = some o) : ∀ e ∈ o.after, Region.binds .any e = true → e.on < i := fun e he hbe => by
  unfold backB at hb
  simp only [List.all_eq_true, List.mem_range] at hb
  have := hb i (Array.getElem?_eq_some_iff.1 ho).1
  rw [ho] at this
  have := Array.all_eq_true_iff_forall_mem.1 this e he
  simpa [hbe] using this
/-- where nothing may come up in the program, it has made up for all -/
theorem Inv.caughtUp (hb : backB ops = true) {w0 : Base} {s : Ent} {Lr : Array Bool} {ρ : Nm} {a' : Act} {w : World} (h : Inv P ops base w0 s Lr ρ a' w) (hr : Region.ready .any ops Lr = []) : ∀ k, On s.listed k → On Lr k := fun k => by
  induction k using Nat.strongRecOn with
  | _ k ih =>
    intro hk
    by_cases hn : On Lr k
    · exact hn
    · have hlt : k < ops.size := by rw [← h.size]; exact on_lt hk
      have ho : ops[k]? = some ops[k] := by simp [hlt]
      have : k ∈ Region.ready .any ops Lr := (ready_iff h.sizeR).2 ⟨hn, ops[k], ho, fun e he hbe => ih e.on (backB_spec hb ho e he hbe) (h.closedL k _ hk ho e he hbe)⟩
      rw [hr] at this; cases this
theorem Inv.same {w0 : Base} {s : Ent} {Lr : Array Bool} {ρ : Nm} {a' : Act} {w : World} (h : Inv P ops base w0 s Lr ρ a' w) (hall : ∀ k, On s.listed k → On Lr k) : ActR ρ s.a a' ∧ WR P w0 ρ s.m w := by
  refine ⟨h.act.full fun t => ?_, ?_⟩
  · cases hc : (slots ops s.E Lr).contains t with
    | false => rfl
    | true =>
      obtain ⟨p, u, op, hm, hn, _⟩ := mem_slots.1 hc
      exact absurd (hall p (h.inE p u hm)) hn
  · have := h.wr.regh (g' := w0.gh) fun x => ⟨fun hg => .inl hg, fun hg => by
      rcases hg with hg | ⟨p, u, op, t, h1, h2, _⟩
      · exact hg
      · exact absurd (hall p (h.inE p u h1)) h2⟩
    exact this
noncomputable def cntF : List Bool → Nat
  | [] => 0
  | true :: l => cntF l
  | false :: l => cntF l + 1
theorem cntF_set : ∀ (l : List Bool) (i : Nat), l[i]? = some false → cntF (l.set i true) + 1 = cntF l
  | [], i, h => by simp at h
  | b :: l, 0, h => by simp at h; subst h; simp [cntF]
  | true :: l, i + 1, h => by simp only [List.set_cons_succ, cntF]; exact cntF_set l i (by simpa using h)
  | false :: l, i + 1, h => by simp only [List.set_cons_succ, cntF]; rw [cntF_set l i (by simpa using h)]
theorem cntF_off {l : Array Bool} {i : Nat} (h : l.getD i true = false) : l.toList[i]? = some false := by
  have h1 := (off_iff.1 h).1
  rw [Array.getElem?_toList]
  simp [Array.getD, h1] at h
  simp [h1, h]
theorem evFin_wp {rd : Option Nat} (hcall : CallS P call) {w0 : Base} {Q : Exit → Act → World → Prop} (hns : Region.noSelect ops = true) (hb : backB ops = true) : ∀ (l : List Ent) (af : MA) (mf : Mini), evFin ops l = some (af, mf) → ∀ s ∈ l, ∀ (g : Nat) (Lr : Array Bool) (w : World) (ρ : Nm) (a' : Act), Inv P ops base w0 s Lr ρ a' w → cntF Lr.toList ≤ g →
    (∀ ρ' a1' w', Ext ρ ρ' → ActR ρ' af a1' → WR P w0 ρ' mf w' → Q .normal a1' w') → wpAnyIn (WF rd) 0 P .any ops Q g Lr a' w := by
  intro l af mf h s hs g
  unfold evFin at h
  split at h
  case h_2 => cases h
  rename_i s0 r
  split at h
  case isFalse => cases h
  rename_i hall
  injection h with h; injection h with e1 e2; subst e1 e2
  rw [Bool.and_eq_true, readyF_eq] at hall
  have hsall : Region.ready .any ops s.listed = [] ∧ s.a = s0.a ∧ s.m = s0.m := by
    rcases List.mem_cons.1 hs with rfl | hs
    · exact ⟨List.isEmpty_iff.1 hall.1, rfl, rfl⟩
    · have := List.all_eq_true.1 hall.2 s hs
      rw [Bool.and_eq_true, readyF_eq] at this
      exact ⟨List.isEmpty_iff.1 this.1, eqAM_sound this.2⟩
  obtain ⟨hre, ea, em⟩ := hsall
  induction g with
  | zero =>
    intro Lr w ρ a' hI hg hK
    have hr0 : Region.ready .any ops Lr = [] := by
      cases hr : Region.ready .any ops Lr with
      | nil => rfl
      | cons x xs =>
        have hx : x ∈ Region.ready .any ops Lr := by rw [hr]; exact List.mem_cons_self ..
        have := cntF_set _ _ (cntF_off (mem_ready.1 hx).1)
        omega
    obtain ⟨h1, h2⟩ := hI.same (hI.caughtUp hb hr0)
    exact wpAnyIn_done hr0 (hK ρ a' w (Ext.refl _) (ea ▸ h1) (em ▸ h2)) 0
  | succ g ihg =>
    intro Lr w ρ a' hI hg hK
    refine ⟨fun hr0 => ?_, fun i hi => ?_⟩
    · obtain ⟨h1, h2⟩ := hI.same (hI.caughtUp hb hr0)
      exact hK ρ a' w (Ext.refl _) (ea ▸ h1) (em ▸ h2)
    · have hp : On s.listed i := by
        by_cases hp : On s.listed i
        · exact hp
        · obtain ⟨_, o, ho, hd⟩ := (ready_iff hI.sizeR).1 hi
          have : i ∈ Region.ready .any ops s.listed := (ready_iff hI.size).2 ⟨hp, o, ho, fun e he hbe => hI.sub _ (hd e he hbe)⟩
          rw [hre] at this; cases this
      refine hI.stepA hcall.prog hns hi hp fun ρ' a1' w' x y => ihg _ w' ρ' a1' y ?_ fun ρ'' a2' w'' x' y' z' => hK ρ'' a2' w'' (x.trans x') y' z'
      have := cntF_set _ _ (cntF_off (mem_ready.1 hi).1)
      rw [Array.toList_setIfInBounds]; omega
theorem evRuns_wp {rd : Option Nat} (hcall : CallS P call) {w0 : Base} {Q : Exit → Act → World → Prop} (hns : Region.noSelect ops = true) (hb : backB ops = true) : ∀ (f : Nat) (l : List Ent) (af : MA) (mf : Mini), evRuns P call ops base pre ctr f l = some (af, mf) → ∀ s ∈ l, ∀ (g : Nat) (Lr : Array Bool) (w : World) (ρ : Nm) (a' : Act), Inv P ops base w0 s Lr ρ a' w → cntF Lr.toList ≤ g →
    (∀ ρ' a1' w', Ext ρ ρ' → ActR ρ' af a1' → WR P w0 ρ' mf w' → Q .normal a1' w') → wpAnyIn (WF rd) 0 P .any ops Q g Lr a' w := by
  intro f
  induction f with
  | zero =>
    intro l af mf h
    exact evFin_wp hcall hns hb l af mf h
  | succ f ih =>
    intro l af mf h
    simp only [evRuns] at h
    split at h
    · rename_i r hr
      injection h with h; subst h
      exact evFin_wp hcall hns hb l af mf hr
    intro s hs g
    split at h
    case h_2 => cases h
    rename_i l' hl
    rcases (evLevel_spec _ _ _ hl).2 s hs with ⟨hne, hkids⟩ | ⟨c, hc, hm⟩
    · induction g with
      | zero =>
        intro Lr w ρ a' hI hg hK
        have hr0 : Region.ready .any ops Lr = [] := by
          cases hr : Region.ready .any ops Lr with
          | nil => rfl
          | cons x xs =>
            have hx : x ∈ Region.ready .any ops Lr := by rw [hr]; exact List.mem_cons_self ..
            have := cntF_set _ _ (cntF_off (mem_ready.1 hx).1)
            omega
        exfalso
        obtain ⟨x, hx⟩ := List.exists_mem_of_ne_nil _ hne
        obtain ⟨h1, o, ho, hd⟩ := (ready_iff hI.size).1 hx
        have hcu := hI.caughtUp hb hr0
        have : x ∈ Region.ready .any ops Lr := (ready_iff hI.sizeR).2 ⟨fun e => h1 (hI.sub x e), o, ho, fun e he hbe => hcu _ (hd e he hbe)⟩
        rw [hr0] at this; cases this
      | succ g ihg =>
        intro Lr w ρ a' hI hg hK
        refine ⟨fun hr0 => ?_, fun i hi => ?_⟩
        · exfalso
          obtain ⟨x, hx⟩ := List.exists_mem_of_ne_nil _ hne
          obtain ⟨h1, o, ho, hd⟩ := (ready_iff hI.size).1 hx
          have hcu := hI.caughtUp hb hr0
          have : x ∈ Region.ready .any ops Lr := (ready_iff hI.sizeR).2 ⟨fun e => h1 (hI.sub x e), o, ho, fun e he hbe => hcu _ (hd e he hbe)⟩
          rw [hr0] at this; cases this
        · have hcnt : cntF (Lr.setIfInBounds i true).toList ≤ g := by
            have := cntF_set _ _ (cntF_off (mem_ready.1 hi).1)
            rw [Array.toList_setIfInBounds]; omega
          by_cases hp : On s.listed i
          · exact hI.stepA hcall.prog hns hi hp fun ρ' a1' w' x y => ihg _ w' ρ' a1' y hcnt fun ρ'' a2' w'' x' y' z' => hK ρ'' a2' w'' (x.trans x') y' z'
          · obtain ⟨_, o, ho, hd⟩ := (ready_iff hI.sizeR).1 hi
            have hiL : i ∈ Region.ready .any ops s.listed := (ready_iff hI.size).2 ⟨hp, o, ho, fun e he hbe => hI.sub _ (hd e he hbe)⟩
            obtain ⟨c, hc, hm⟩ := hkids i hiL
            exact hI.stepB hcall hns hi hp hc fun ρ' a1' w' x y => ih l' af mf h c hm g _ w' ρ' a1' y hcnt fun ρ'' a2' w'' x' y' z' => hK ρ'' a2' w'' (x.trans x') y' z'
    · intro Lr w ρ a' hI hg hK
      exact ih l' af mf h c hm g Lr w ρ a' (hI.stepEs hc) hg hK
theorem Inv.start {w0 : Base} {a : MA} {a' : Act} {m : Mini} {ρ : Nm} {w : World} (ha : ActR ρ a a') (hw : WR P w0 ρ m w) : Inv P ops base w0 { listed := Array.replicate ops.size false, a, m, E := [] } (Array.replicate ops.size false) ρ a' w := by
  have hoff : ∀ i, ¬ On (Array.replicate ops.size false) i := fun i h => by
    have := on_lt h
    simp [On, Array.getD] at h
  refine ⟨(by simp), (by simp), fun i h => absurd h (hoff i), fun j o h => absurd h (hoff j), fun j o h => absurd h (hoff j), fun k v h => (by cases h), fun k h => absurd h (hoff k), fun k v h => (by cases h), fun k v j u ok oj h => (by cases h), fun k v o t h => (by cases h), ⟨ha.size, ha.le, fun t _ => ha.get t, ha.defs⟩, hw.regh fun x => ⟨fun h => ?_, fun h => .inl h⟩⟩
  rcases h with h | ⟨p, u, op, t, h1, _⟩
  · exact h
  · cases h1
theorem cntF_replicate : ∀ n, cntF (List.replicate n false) = n
  | 0 => rfl
  | n + 1 => by rw [List.replicate_succ, cntF, cntF_replicate n]
end
end Go.Proofs.Ytaneipjpagbmpaa
