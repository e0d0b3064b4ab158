/-
  The small machine's append.
-/
import Derived.Test.YtaneipjpagbmpaaE3
import Derived.Laws.AppendOwn
namespace Go.Proofs.Ytaneipjpagbmpaa
open Go.RowKit
set_option linter.unusedVariables false
set_option linter.unusedSimpArgs false
set_option linter.unusedSectionVars false
variable [Env]

/-! ### Sameness -/
mutual
noncomputable def eqV : Value → Value → Bool
  | .bool a, .bool b => a == b
  | .int k a, .int l b => decide (k = l) && decide (a = b)
  | .float k a, .float l b => decide (k = l) && decide (a = b)
  | .string a, .string b => decide (a = b)
  | .pointer a, .pointer b => decide (a = b)
  | .slice a l c, .slice b k d => decide (a = b) && decide (l = k) && decide (c = d)
  | .map a, .map b => decide (a = b)
  | .chan a, .chan b => decide (a = b)
  | .func f a b, .func g c d => decide (f = g) && eqA a c && eqA b d
  | .nilFunc, .nilFunc => true
  | .iface t v, .iface u w => decide (t = u) && eqV v w
  | .nilIface, .nilIface => true
  | .agg a, .agg b => eqA a b
  | .tuple a, .tuple b => eqA a b
  | _, _ => false
noncomputable def eqA : Array Value → Array Value → Bool
  | ⟨a⟩, ⟨b⟩ => eqL a b
noncomputable def eqL : List Value → List Value → Bool
  | [], [] => true
  | a :: l, b :: m => eqV a b && eqL l m
  | _, _ => false
end
mutual
theorem eqV_sound : ∀ a b : Value, eqV a b = true → a = b
  | .bool a, b, h => by cases b <;> simp [eqV] at h; rw [h]
  | .int k a, b, h => by cases b <;> simp [eqV] at h; rw [h.1, h.2]
  | .float k a, b, h => by cases b <;> simp [eqV] at h; rw [h.1, h.2]
  | .complex .., b, h => by cases b <;> simp [eqV] at h
  | .string a, b, h => by cases b <;> simp [eqV] at h; rw [h]
  | .pointer a, b, h => by cases b <;> simp [eqV] at h; rw [h]
  | .slice a l c, b, h => by cases b <;> simp [eqV] at h; rw [h.1.1, h.1.2, h.2]
  | .map a, b, h => by cases b <;> simp [eqV] at h; rw [h]
  | .chan a, b, h => by cases b <;> simp [eqV] at h; rw [h]
  | .func f a c, b, h => by cases b <;> simp [eqV] at h; rw [h.1.1, eqA_sound _ _ h.1.2, eqA_sound _ _ h.2]
  | .nilFunc, b, h => by cases b <;> simp [eqV] at h; rfl
  | .iface t v, b, h => by cases b <;> simp [eqV] at h; rw [h.1, eqV_sound _ _ h.2]
  | .nilIface, b, h => by cases b <;> simp [eqV] at h; rfl
  | .agg a, b, h => by cases b <;> simp [eqV] at h; rw [eqA_sound _ _ h]
  | .tuple a, b, h => by cases b <;> simp [eqV] at h; rw [eqA_sound _ _ h]
theorem eqA_sound : ∀ a b : Array Value, eqA a b = true → a = b
  | ⟨a⟩, ⟨b⟩, h => by rw [eqA] at h; rw [eqL_sound _ _ h]
theorem eqL_sound : ∀ a b : List Value, eqL a b = true → a = b
  | [], [], _ => rfl
  | a :: l, b :: m, h => by rw [eqL, Bool.and_eq_true] at h; rw [eqV_sound _ _ h.1, eqL_sound _ _ h.2]
  | [], _ :: _, h => by simp [eqL] at h
  | _ :: _, [], h => by simp [eqL] at h
end
theorem LR.ar {ρ : Nm} : ∀ {l l' : List Value}, LR ρ l l' → AR ρ l.toArray l'.toArray
  | _, _, .nil => .nil
  | _, _, .cons (v := v) (v' := v') (l := l) (l' := l') h t => by
    have := (AR.one h).append t.ar
    simpa using this
mutual
theorem real_rel {ρ : Nm} : ∀ (v : Value), flat v = true → VR ρ v (realD Env.σ v)
  | .chan none, _ => .same _ rfl
  | .chan (some k), _ => .sign k
  | .agg cs, h => by rw [flat] at h; have := realA_rel (ρ := ρ) cs h; exact .agg _ _ this.size this.get
  | .tuple cs, h => by rw [flat] at h; have := realA_rel (ρ := ρ) cs h; exact .tuple _ _ this.size this.get
  | .bool _, _ => .same _ rfl
  | .int _ _, _ => .same _ rfl
  | .string _, _ => .same _ rfl
  | .pointer a, h => by rw [flat] at h; exact .same _ (by rw [pureV]; exact h)
  | .slice a l c, h => by rw [flat] at h; exact .same _ (by rw [pureV]; exact h)
  | .map r, h => by rw [flat] at h; exact .same _ (by rw [pureV]; exact h)
  | .nilFunc, _ => .same _ rfl
  | .nilIface, _ => .same _ rfl
  | .float .., h => by simp [flat] at h
  | .complex .., h => by simp [flat] at h
  | .func .., h => by simp [flat] at h
  | .iface .., h => by simp [flat] at h
theorem realA_rel {ρ : Nm} : ∀ (a : Array Value), flatA a = true → AR ρ a (realA Env.σ a)
  | ⟨l⟩, h => by rw [flatA] at h; exact (realL_rel l h).ar
theorem realL_rel {ρ : Nm} : ∀ (l : List Value), flatL l = true → LR ρ l (realL Env.σ l)
  | [], _ => .nil
  | v :: l, h => by rw [flatL, Bool.and_eq_true] at h; exact .cons (real_rel v h.1) (realL_rel l h.2)
end
theorem flatA_get : ∀ {cs : Array Value}, flatA cs = true → ∀ i (h : i < cs.size), flat cs[i] = true := fun {cs} hp i h => by
  obtain ⟨l⟩ := cs
  rw [flatA] at hp
  have : ∀ (l : List Value), flatL l = true → ∀ i (h : i < l.length), flat l[i] = true := by
    intro l
    induction l with
    | nil => intro _ i h; simp at h
    | cons v l ih =>
      intro hp i h
      rw [flatL, Bool.and_eq_true] at hp
      cases i with
      | zero => exact hp.1
      | succ i => exact ih hp.2 i (by simpa using h)
  exact this l hp i h
/-- a value without addresses stands for one value alone -/
theorem VR.det {ρ ρ' : Nm} {v a b : Value} (hv : flat v = true) (h : VR ρ v a) (k : VR ρ' v b) : a = b := by
  induction h generalizing b with
  | sign q =>
    cases k with
    | sign => rfl
    | same _ h => simp [pureV] at h
  | same v h => exact (k.pure h).symm
  | agg xs ys h1 h2 ih =>
    obtain ⟨zs, rfl, hz⟩ := k.agg_inv
    rw [flat] at hv
    rw [show ys = zs from Array.ext (h1.symm.trans hz.size) fun i x y => ih i (by omega) x (flatA_get hv i (by omega)) (hz.get i (by omega) y)]
  | tuple xs ys h1 h2 ih =>
    obtain ⟨zs, rfl, hz⟩ := k.tuple_inv
    rw [flat] at hv
    rw [show ys = zs from Array.ext (h1.symm.trans hz.size) fun i x y => ih i (by omega) x (flatA_get hv i (by omega)) (hz.get i (by omega) y)]
  | _ => simp [flat] at hv
theorem flatA_det {ρ : Nm} {cs ys : Array Value} (h : flatA cs = true) (har : AR ρ cs ys) : ys = realA Env.σ cs := by
  have h4 := VR.det (ρ := ρ) (ρ' := ρ) (v := .agg cs) (by rw [flat]; exact h) (.agg _ _ har.size har.get) (real_rel (.agg cs) (by rw [flat]; exact h))
  rw [realD] at h4
  injection h4
noncomputable def Mini.kill (m : Mini) (n : Nat) : Mini := { m with heap := Tr.putF none 250 m.heap n }
theorem WR.kill {P : Program} {w0 : Base} {w : World} {ρ : Nm} {m : Mini} (h : WR P w0 ρ m w) {n : Nat} (hf : n < 2 ^ 249) : WR P w0 ρ (m.kill n) w := by
  have hsame : (m.kill n).heap.get n = some none := by unfold Mini.kill; dsimp only; rw [Tr.putF_eq]; exact Tr.get_put _ _ _ _ (fits hf)
  have hother : ∀ k, k ≠ n → (m.kill n).heap.get k = m.heap.get k := fun k hk => by unfold Mini.kill; dsimp only; rw [Tr.putF_eq]; exact Tr.get_put_ne _ _ _ _ _ hk
  have live : ∀ k q, (m.kill n).heap.get k = some (some q) → m.heap.get k = some (some q) := fun k q hq => by
    by_cases e : k = n
    · rw [e, hsame] at hq; cases hq
    · rw [← hother k e]; exact hq
  refine ⟨h.below, fun k o hk => h.obj k o (live k o hk), fun k t hk => ?_, fun k1 k2 o1 o2 b d1 e1 d2 e2 h1 h2 => h.inj k1 k2 o1 o2 b d1 e1 d2 e2 (live _ _ h1) (live _ _ h2), fun k hk => ⟨(h.ghost k hk).1, ?_⟩⟩
  · by_cases e : k = n
    · rw [e, hsame]; simp
    · rw [hother k e]; exact h.dom k t hk
  · by_cases e : k = n
    · rw [e]; exact ⟨by rw [hsame]; simp, rowAt_dead hsame⟩
    · rw [rowAt_congr (hother k e), hother k e]; exact (h.ghost k hk).2
theorem WR.kill_live {P : Program} {w0 : Base} {w : World} {ρ : Nm} {m : Mini} (h : WR P w0 ρ m w) {n b d e : Nat} {o : Obj} (hf : n < 2 ^ 249) (hg : m.heap.get n = some (some o)) (hr : ρ n = some (b, d, e)) : ∀ j q d' e', (m.kill n).heap.get j = some (some q) → ρ j ≠ some (b, d', e') := fun j q d' e' hj hrj => by
  have hsame : (m.kill n).heap.get n = some none := by unfold Mini.kill; dsimp only; rw [Tr.putF_eq]; exact Tr.get_put _ _ _ _ (fits hf)
  have hother : ∀ k, k ≠ n → (m.kill n).heap.get k = m.heap.get k := fun k hk => by unfold Mini.kill; dsimp only; rw [Tr.putF_eq]; exact Tr.get_put_ne _ _ _ _ _ hk
  by_cases en : j = n
  · rw [en, hsame] at hj; cases hj
  · rw [hother j en] at hj
    exact en (h.inj j n q o b d' e' d e hj hg hrj hr)
theorem WR.new_at {P : Program} {w0 : Base} {w w' : World} {ρ : Nm} {m m' : Mini} {o : Obj} {n b d e : Nat} (h : WR P w0 ρ m w) (hn : m.new o = some (n, m')) (hb : w0.w.heap.size ≤ b)
    (hos : w'.os = w.os) (htape : w'.tape = w.tape) (hout : w'.output = w.output) (hsz : w'.heap.size = w.heap.size) (hk : ∀ k, k ≠ b → w'.heap[k]? = w.heap[k]?)
    (hno : ∀ j q d' e', m.heap.get j = some (some q) → ρ j ≠ some (b, d', e')) (ho : OR P ρ o d e w'.heap[b]?) : ∃ ρ', Ext ρ ρ' ∧ ρ' n = some (b, d, e) ∧ WR P w0 ρ' m' w' := by
  unfold Mini.new at hn
  split at hn
  · rename_i hg
    split at hn
    · rename_i hf
      injection hn with hn; injection hn with hn hm
      subst hn
      have hnone : ρ m.fresh = none := by
        cases hr : ρ m.fresh with
        | none => rfl
        | some t => exact absurd hg (h.dom _ _ hr)
      have hx := Nm.ext_set hnone (b, d, e)
      refine ⟨ρ.set m.fresh (b, d, e), hx, Nm.set_same _ _ _, ?_⟩
      have hsame : m'.heap.get m.fresh = some (some o) := by rw [← hm]; dsimp only; rw [Tr.putF_eq]; exact Tr.get_put _ _ _ _ (fits hf)
      have hother : ∀ k, k ≠ m.fresh → m'.heap.get k = m.heap.get k := fun k hk => by rw [← hm]; dsimp only; rw [Tr.putF_eq]; exact Tr.get_put_ne _ _ _ _ _ hk
      have hold : ∀ k, k ≠ m.fresh → ρ.set m.fresh (b, d, e) k = ρ k := fun k hk => by simp [Nm.set, hk]
      constructor
      · exact h.below.trans ⟨hos, htape, hout, by omega, fun k hk' => hk k (by omega)⟩
      · intro k u hk'
        by_cases ek : k = m.fresh
        · subst ek
          rw [hsame] at hk'; injection hk' with hk'; injection hk' with hk'; subst hk'
          exact .inr ⟨_, _, _, Nm.set_same _ _ _, hb, ho.ext hx⟩
        · rw [hother k ek] at hk'
          rcases h.obj k u hk' with (hgh | hgh) | ⟨b', d', e', h1, h2, h3⟩
          · exact .inl (.inl hgh)
          · exact .inl (.inr ⟨by rw [hold k ek]; exact hgh.1, hgh.2⟩)
          refine .inr ⟨b', d', e', by rw [hold k ek]; exact h1, h2, ?_⟩
          rw [hk b' (fun eb => hno k u d' e' hk' (by rw [h1, eb]))]
          exact h3.ext hx
      · intro k t hk'
        by_cases ek : k = m.fresh
        · subst ek; rw [hsame]; simp
        · rw [hold k ek] at hk'; rw [hother k ek]; exact h.dom k t hk'
      · intro k1 k2 o1 o2 b1 d1 e1 d2 e2 hk1 hk2 hr1 hr2
        by_cases ek1 : k1 = m.fresh
        · by_cases ek2 : k2 = m.fresh
          · rw [ek1, ek2]
          · subst ek1
            rw [Nm.set_same] at hr1; injection hr1 with hr1; injection hr1 with hr1 _
            rw [hold k2 ek2] at hr2; rw [hother k2 ek2] at hk2
            exact absurd (by rw [hr2, hr1]) (hno k2 o2 d2 e2 hk2)
        · by_cases ek2 : k2 = m.fresh
          · subst ek2
            rw [Nm.set_same] at hr2; injection hr2 with hr2; injection hr2 with hr2 _
            rw [hold k1 ek1] at hr1; rw [hother k1 ek1] at hk1
            exact absurd (by rw [hr1, hr2]) (hno k1 o1 d1 e1 hk1)
          · rw [hold k1 ek1] at hr1; rw [hold k2 ek2] at hr2; rw [hother k1 ek1] at hk1; rw [hother k2 ek2] at hk2
            exact h.inj k1 k2 o1 o2 b1 d1 e1 d2 e2 hk1 hk2 hr1 hr2
      · intro k hk'
        obtain ⟨g1, g2, g3⟩ := h.ghost k hk'
        have ek : k ≠ m.fresh := fun e => g2 (by rw [e]; exact hg)
        rw [hold k ek, rowAt_congr (hother k ek), hother k ek]
        exact ⟨g1, g2, g3⟩
    · cases hn
  · cases hn

/-- the first elements of a slice -/
noncomputable def Mini.elems (m : Mini) (v : Value) (size : Nat) : Option (Array Value × Nat) :=
  match v with
  | .slice none l _ => if l = 0 then some (#[], 0) else none
  | .slice (some a) n c => if isRow a c then none else if a.spot.isSome then (if n = 0 then some (#[], 0) else none) else match m.cellsAt a.block with
    | some (c, _) => if a.off + n * size ≤ c.size then some (c.extract a.off (a.off + n * size), n) else none
    | none => none
  | _ => none
theorem WR.some_elems {P : Program} {w0 : Base} {w : World} {ρ : Nm} {m : Mini} (h : WR P w0 ρ m w) {n o k b d e : Nat} {c : Array Value} {t : TypeId} (hc : m.cellsAt n = some (c, t)) (hr : ρ n = some (b, d, e)) (hk : o + k ≤ c.size) :
    ∃ l : List Value, l.length = k ∧ (∀ j u, l[j]? = some u → w.cell? ((⟨b, d + o, none⟩ : Addr).add j) = some u) ∧ AR ρ (c.extract o (o + k)) l.toArray := by
  obtain ⟨hg, hB, c', h1, h2, h3⟩ := h.row hc hr
  refine ⟨(c'.extract (d + o) (d + o + k)).toList, by simp; omega, fun j v hj => ?_, ?_⟩
  · rw [Addr.add_lit]
    refine cell_of_row h1 ?_
    rw [Array.getElem?_toList] at hj
    obtain ⟨hj1, hj2⟩ := Array.getElem?_eq_some_iff.1 hj
    rw [Array.getElem_extract] at hj2
    have hj3 : j < k := by simp at hj1; omega
    exact Array.getElem?_eq_some_iff.2 ⟨by omega, hj2⟩
  · refine AR.of? (by simp; omega) (fun i v hv => ?_)
    obtain ⟨hi1, hi2⟩ := Array.getElem?_eq_some_iff.1 hv
    rw [Array.getElem_extract] at hi2
    have hi3 : i < k := by simp at hi1; omega
    obtain ⟨v', a1, a2⟩ := h3 (o + i) v (Array.getElem?_eq_some_iff.2 ⟨by omega, hi2⟩)
    obtain ⟨b1, b2⟩ := Array.getElem?_eq_some_iff.1 a1
    refine ⟨v', Array.getElem?_eq_some_iff.2 ⟨by simp; omega, ?_⟩, a2⟩
    simp only [Array.toArray_toList, Array.getElem_extract]
    simpa only [Nat.add_assoc] using b2

noncomputable def findA (k L : Nat) (xs : Array Value) (n : Nat) : List (Nat × Nat × Array Value × Nat × Nat × Nat) → Option (Nat × Nat)
  | [] => none
  | (k1, L1, ys, n1, k', L') :: l => if k1 = k ∧ L1 = L ∧ n1 = n ∧ eqA ys xs = true then some (k', L') else findA k L xs n l
theorem findA_spec {k L n k' L' : Nat} {xs : Array Value} : ∀ (l : List (Nat × Nat × Array Value × Nat × Nat × Nat)), findA k L xs n l = some (k', L') → (k, L, xs, n, k', L') ∈ l
  | [], h => by cases h
  | (k1, L1, ys, n1, k2, L2) :: l, h => by
    unfold findA at h
    split at h
    · rename_i hc
      injection h with h; injection h with h1 h2; subst h1 h2
      obtain ⟨rfl, rfl, rfl, h4⟩ := hc
      rw [eqA_sound _ _ h4]; exact List.mem_cons_self ..
    · exact List.mem_cons_of_mem _ (findA_spec l h)
noncomputable def appendM (P : Program) (m : Mini) (t : TypeId) (s x : Value) : Option (Value × Mini) :=
  match P.underlying t with
  | some (.slice el) => match P.info? el with
    | some inf => match zeroM P el, m.elems x inf.size with
      | some z, some (news, n) =>
        if z.cells.size = inf.size ∧ inf.bytes ≤ 1048576 ∧ n ≤ 1048576 ∧ 0 < inf.size ∧ news.all Ytaneipjpagbmpaa.onePart = true then
          match s with
          | .slice none l c =>
            if l = 0 ∧ c = 0 then
              if n = 0 then some (s, m) else
              forceA news fun news => match m.new (.cells news el) with
              | some (k, m') => some (.slice (some ⟨k, 0, none⟩) n n, m')
              | none => none
            else none
          | .slice (some ⟨n0, L, some 0⟩) 0 1 => match m.rowAt n0 with
            | some (k, L2, u) =>
              if L2 = L ∧ u = el ∧ n0 < 2 ^ 249 ∧ n ≠ 0 then match findA k L news n Env.apps with
                | some (k', L') => openM (m.kill n0) fun m1 => match m1.new (.cells ⟨[.chan (some k'), .chan (some L')]⟩ el (1, 1)) with
                  | some (nn, m') => some (.slice (some ⟨nn, L', some 0⟩) 0 1, m')
                  | none => none
                | none => none
              else none
            | none => none
          | .slice (some a) l c =>
            if a.spot.isSome then none else if n = 0 then (if l ≤ c then some (s, m) else none) else
            match m.cellsAt a.block with
            | some (cs, u) =>
              if u = el ∧ l ≤ c ∧ a.off + c * inf.size ≤ cs.size ∧ c ≤ 1048576 ∧ a.block < 2 ^ 249 then
                openM (m.kill a.block) fun m1 => forceA (cs.extract a.off (a.off + l * inf.size) ++ news) fun cells => match m1.new (.cells cells el) with
                | some (k, m') => some (.slice (some ⟨k, 0, none⟩) (l + n) (l + n), m')
                | none => none
              else none
            | none => none
          | _ => none
        else none
      | _, _ => none
    | none => none
  | _ => none
theorem oneCell_of_onePart {v : Value} (h : Ytaneipjpagbmpaa.onePart' v = true) : v.oneCell' = true := by cases v <;> first | rfl | (simp [Ytaneipjpagbmpaa.onePart'] at h)
theorem run_append_room' {P : Program} (w : World) (t ty e : TypeId) (i : TypeInfo) (ht : P.underlying t = some (.slice e)) (hi : P.info? e = some i)
    (g off sLen sCap : Nat) (cur : Array Value) (hg : w.heap[g]? = some (.cells cur e (0, 0)))
    (a : Addr) (m c : Nat) (news : List Value) (hl : news.length = m * i.size) (hnews : ∀ j u, news[j]? = some u → w.cell? (a.add j) = some u) (h1 : ∀ u ∈ news, u.oneCell' = true)
    (hroom : sLen + m ≤ sCap) (hfit : off + sLen * i.size + news.length ≤ cur.size) :
    (Builtin.append_ #[t, t] ty #[.slice (some ⟨g, off, none⟩) sLen sCap, .slice (some a) m c]).run P w =
      .ok (.slice (some ⟨g, off, none⟩) (sLen + m) sCap) (w.setRow g (cur.toList.take (off + sLen * i.size) ++ news ++ cur.toList.drop (off + sLen * i.size + news.length)).toArray) := by
  have hf := run_firstCells_some (P := P) w i.size m a m c news hl hnews
  have hst := run_storeCells_at P g (off + sLen * i.size) e news 0 cur w hg (by simpa using hfit) h1
  simp only [Nat.add_zero] at hst
  simp [Builtin.append_, run_underlying ht, sizeOf, typeInfo, hi, Builtin.lenOf, hroom, hf, Addr.add_lit, hst]
theorem all_one {ρ : Nm} {xs : Array Value} {l : List Value} (h : AR ρ xs l.toArray) (hx : xs.all Ytaneipjpagbmpaa.onePart = true) : ∀ u ∈ l, u.oneCell' = true := fun u hu => by
  obtain ⟨i, hi, rfl⟩ := List.getElem_of_mem hu
  have hi' : i < xs.size := by rw [h.size]; simpa using hi
  have h1 := Array.all_eq_true.1 hx i hi'
  have h2 := h.get i hi' (by simpa using hi)
  have h3 := h2.onePart h1
  refine oneCell_of_onePart ?_
  simpa using h3
theorem WR.append {P : Program} {w0 : Base} {w : World} {ρ : Nm} {m m' : Mini} (h : WR P w0 ρ m w) {t ty : TypeId} {s s' x x' v : Value} (hs : VR ρ s s') (hx : VR ρ x x') (hm : appendM P m t s x = some (v, m')) :
    DoneV P w0 ρ (Builtin.append_ #[t, t] ty #[s', x']) w v m' := by
  unfold appendM at hm
  split at hm
  case h_2 => cases hm
  rename_i el ht
  split at hm
  case h_2 => cases hm
  rename_i inf hinf
  split at hm
  case h_2 => cases hm
  rename_i z news n hz hnews
  split at hm
  case isFalse => cases hm
  rename_i hcond
  obtain ⟨c1, c2, c3, c4, c5⟩ := hcond
  obtain ⟨_, hzp, inf2, hinf2, hz2⟩ := zeroM_spec hz
  rw [hinf] at hinf2; injection hinf2 with hinf2; subst hinf2
  -- what is appended
  have hxs : ∃ xa xc, ∃ l : List Value, x' = .slice xa n xc ∧ l.length = n * inf.size ∧ (∀ a, xa = some a → ∀ j u, l[j]? = some u → w.cell? (a.add j) = some u) ∧ AR ρ news l.toArray ∧ (xa = none → n = 0) := by
    unfold Mini.elems at hnews
    split at hnews
    · rename_i q1 q2
      split at hnews
      · rename_i hq
        injection hnews with hnews; injection hnews with hn1 hn2; subst hn1 hn2 hq
        have := hx.pure (by simp [pureV])
        exact ⟨none, q2, [], this, by simp, fun a ha => (by cases ha), AR.nil, fun _ => rfl⟩
      · cases hnews
    · rename_i a q q2
      split at hnews
      · cases hnews
      rename_i hrow
      split at hnews
      · split at hnews
        · rename_i hq
          injection hnews with hnews; injection hnews with hn1 hn2; subst hn1 hn2 hq
          obtain ⟨A, k, rfl⟩ := hx.slice_form (by simpa using hrow)
          exact ⟨some A, k, [], rfl, by simp, fun a ha => (by simp), AR.nil, fun h0 => (by cases h0)⟩
        · cases hnews
      rename_i hsp
      have hsp : a.spot = none := by cases hq : a.spot <;> simp [hq] at hsp ⊢
      split at hnews
      · rename_i c u hc
        split at hnews
        · rename_i hle
          injection hnews with hnews; injection hnews with hn1 hn2; subst hn1 hn2
          obtain ⟨b, d, e, h1, h2, rfl⟩ := hx.slice_inv hsp
          obtain ⟨l, l1, l2, l3⟩ := h.some_elems (k := q * inf.size) hc h2 hle
          exact ⟨_, _, l, rfl, l1, fun a' ha => by injection ha with ha; subst ha; exact l2, l3, fun h0 => (by cases h0)⟩
        · cases hnews
      · cases hnews
    · cases hnews
  obtain ⟨xa, xc, l, rfl, hl, hcells, har, hnil⟩ := hxs
  -- nothing is appended
  have zero : ∀ base ls cap, n = 0 → ls ≤ cap → (Builtin.append_ #[t, t] ty #[.slice base ls cap, .slice xa n xc]).run P w = .ok (.slice base ls cap) w := fun base ls cap hn0 hlc => by
    subst hn0
    have hle : l = [] := List.eq_nil_of_length_eq_zero (by simpa using hl)
    have hf : (Builtin.firstCells inf.size 0 (.slice xa 0 xc)).run P w = .ok #[] w := by
      cases xa with
      | none => exact run_firstCells_none ..
      | some a => exact run_firstCells_some w inf.size 0 a 0 xc [] (by simp) (by simp)
    cases base <;> simp [Builtin.append_, run_underlying ht, sizeOf, typeInfo, hinf, Builtin.lenOf, hlc, hf, storeCells]
  have h1 := all_one har c5
  split at hm
  · rename_i l0 c0
    split at hm
    case isFalse => cases hm
    rename_i hz0
    obtain ⟨rfl, rfl⟩ := hz0
    have := hs.pure (by simp [pureV])
    subst this
    split at hm
    · rename_i hn0
      injection hm with hm; injection hm with hm1 hm2; subst hm1 hm2
      exact .here h (zero none 0 0 hn0 (Nat.le_refl _)) (.same _ (by simp [pureV]))
    · rename_i hn0
      rw [forceA_eq] at hm
      split at hm
      case h_2 => cases hm
      rename_i k m1 hk
      injection hm with hm; injection hm with hm1 hm2; subst hm1 hm2
      cases xa with
      | none => exact absurd (hnil rfl) hn0
      | some a =>
        have hby : n * inf.bytes ≤ 1048576 * 1048576 := Nat.mul_le_mul c3 c2
        have hr := run_append_nil (P := P) w t ty el inf z ht hinf hz2 a n xc l hl (hcells a rfl) (by omega) (by omega) (by omega)
        have hge := grownCap_ge w n 0 el
        obtain ⟨ρ', e1, e2, e3⟩ := (h.drew (w.drawn + 1)).new (q := .cells (l.toArray ++ Builtin.zeroCells z.cells (grownCap w n 0 el - n)) el) (e := grownCap w n 0 el - n) hk (.inl ⟨rfl, _, rfl, by
            simp only [Array.size_append, size_zeroCells, c1, Program.cellsOf, hinf, Option.map_some, Option.getD_some, har.size]; omega, fun i v hv => by
            obtain ⟨v', a1, a2⟩ := har.get? hv
            refine ⟨v', ?_, a2⟩
            rw [Nat.zero_add, Array.getElem?_append_left (Array.getElem?_eq_some_iff.1 a1).1]; exact a1⟩)
        refine ⟨ρ', _, _, e1, hr, ?_, e3⟩
        have := VR.slice (ρ := ρ') k 0 _ _ _ n n e2
        simp only [Nat.zero_add] at this
        rw [show n + (grownCap w n 0 el - n) = grownCap w n 0 el by omega] at this
        exact this
  · rename_i n0 L
    split at hm
    case h_2 => cases hm
    rename_i k L2 u hrow
    split at hm
    case isFalse => cases hm
    rename_i hc2
    obtain ⟨rfl, rfl, d4, hn0⟩ := hc2
    split at hm
    case h_2 => cases hm
    rename_i k' L' hfa
    rw [openM_eq] at hm
    split at hm
    case h_2 => cases hm
    rename_i nn m1 hk
    injection hm with hm; injection hm with hm1 hm2; subst hm1 hm2
    obtain ⟨q1, q2, q3, q4, q5⟩ := Env.okAp _ _ _ _ _ _ (findA_spec _ hfa)
    have hcsz : P.cellsOf u = inf.size := by simp [Program.cellsOf, hinf]
    have hreal : l = (realA Env.σ news).toList := by
      have := flatA_det q1 har
      rw [← this]
    cases xa with
    | none => exact absurd (hnil rfl) hn0
    | some xa =>
      rcases hs.row_inv with ⟨b, d, e, g2, rfl⟩ | ⟨g2, rfl⟩
      · obtain ⟨hB, hlen, c', r1, r2, r3⟩ := h.ownRow hrow g2
        rw [hcsz] at hlen r2
        by_cases hroom : Env.lenR L2 + n ≤ Env.lenR L2 + e
        · have hmul : n * inf.size ≤ e * inf.size := Nat.mul_le_mul_right _ (by omega)
          have hr := run_append_room' (P := P) w t ty u inf ht hinf b d (Env.lenR L2) (Env.lenR L2 + e) c' r1 xa n xc l hl (hcells xa rfl) h1 hroom (by rw [hl]; omega)
          obtain ⟨ρ', e1, e2, e3⟩ := (h.kill d4).new_at (w' := w.setRow b (c'.toList.take (d + Env.lenR L2 * inf.size) ++ l ++ c'.toList.drop (d + Env.lenR L2 * inf.size + l.length)).toArray) (b := b) (d := d) (e := e - n) hk hB rfl rfl rfl (by simp [World.setRow])
            (fun k hk => setRow_other w b k _ (fun e => hk e)) (h.kill_live d4 (rowAt_spec hrow) g2) (.inr ⟨k', L', rfl, rfl, by rw [q2, q3, hcsz, List.length_append, hlen, ← hreal, hl, Nat.add_mul], _, setRow_heap w b c' _ u _ r1, by
              rw [hcsz, q2, ← hreal]
              simp only [List.size_toArray, List.length_append, List.length_take, List.length_drop, Array.length_toList, hl, hlen]
              rw [Nat.sub_mul]
              omega, fun i v hv => by
              rw [q2, ← hreal] at hv
              rw [List.getElem?_toArray]
              have htl : (c'.toList.take (d + Env.lenR L2 * inf.size)).length = d + Env.lenR L2 * inf.size := by simp; omega
              by_cases hi : i < Env.lenR L2 * inf.size
              · rw [List.getElem?_append_left (by omega)] at hv
                rw [List.append_assoc, List.getElem?_append_left (by omega), List.getElem?_take, if_pos (by omega), Array.getElem?_toList]
                exact r3 i v hv
              · rw [List.getElem?_append_right (by omega), hlen] at hv
                have hil := (List.getElem?_eq_some_iff.1 hv).1
                rw [List.getElem?_append_left (by rw [List.length_append, htl]; omega), List.getElem?_append_right (by omega), htl, show d + i - (d + Env.lenR L2 * inf.size) = i - Env.lenR L2 * inf.size by omega]
                exact hv⟩)
          refine ⟨ρ', _, _, e1, hr, ?_, e3⟩
          have := VR.row (ρ := ρ') nn L' _ _ _ e2
          rw [q3, show Env.lenR L2 + n + (e - n) = Env.lenR L2 + e by omega] at this
          exact this
        · have hby : (Env.lenR L2 + n) * inf.bytes ≤ (1048576 + 1048576) * 1048576 := Nat.mul_le_mul (by omega) c2
          have o2 : ∀ j v, (Env.rows k)[j]? = some v → w.cell? ((⟨b, d, none⟩ : Addr).add j) = some v := fun j v hj => by
            rw [Addr.add_lit]
            exact cell_of_row r1 (r3 j v hj)
          have hr := run_append_grow (P := P) w t ty u inf z ht hinf hz2 ⟨b, d, none⟩ (Env.lenR L2) (Env.lenR L2 + e) (Env.rows k) hlen o2 xa n xc l hl (hcells xa rfl) (by omega) (by omega) (growslice_fits (by omega) (by omega))
          have hge := grownCap_ge w (Env.lenR L2 + n) (Env.lenR L2 + e) u
          obtain ⟨ρ', e1, e2, e3⟩ := ((h.kill d4).drew (w.drawn + 1)).new (q := .cells ((Env.rows k).toArray ++ l.toArray ++ Builtin.zeroCells z.cells (grownCap w (Env.lenR L2 + n) (Env.lenR L2 + e) u - (Env.lenR L2 + n))) u) (e := grownCap w (Env.lenR L2 + n) (Env.lenR L2 + e) u - (Env.lenR L2 + n)) hk (.inr ⟨k', L', rfl, rfl, by rw [q2, q3, hcsz, List.length_append, hlen, ← hreal, hl, Nat.add_mul], _, rfl, by
              rw [hcsz, q2, ← hreal]
              simp only [Array.size_append, List.size_toArray, List.length_append, size_zeroCells, c1, hlen, hl]; omega, fun i v hv => by
              rw [q2, ← hreal] at hv
              rw [Nat.zero_add, Array.getElem?_append_left (by simpa using (List.getElem?_eq_some_iff.1 hv).1)]
              simpa using hv⟩)
          refine ⟨ρ', _, _, e1, hr, ?_, e3⟩
          have := VR.row (ρ := ρ') nn L' _ _ _ e2
          rw [q3, show Env.lenR L2 + n + (grownCap w (Env.lenR L2 + n) (Env.lenR L2 + e) u - (Env.lenR L2 + n)) = grownCap w (Env.lenR L2 + n) (Env.lenR L2 + e) u by omega] at this
          exact this
      · have hrk := q5 g2
        have hby : n * inf.bytes ≤ 1048576 * 1048576 := Nat.mul_le_mul c3 c2
        have hr := run_append_nil (P := P) w t ty u inf z ht hinf hz2 xa n xc l hl (hcells xa rfl) (by omega) (by omega) (by omega)
        have hge := grownCap_ge w n 0 u
        obtain ⟨ρ', e1, e2, e3⟩ := ((h.kill d4).drew (w.drawn + 1)).new (q := .cells (l.toArray ++ Builtin.zeroCells z.cells (grownCap w n 0 u - n)) u) (e := grownCap w n 0 u - n) hk (.inr ⟨k', L', rfl, rfl, by rw [q2, q3, hcsz, hrk, List.nil_append, ← hreal, hl, g2, Nat.zero_add], _, rfl, by
            rw [hcsz, q2, ← hreal, hrk]
            simp only [Array.size_append, size_zeroCells, c1, List.nil_append, List.size_toArray, hl]; omega, fun i v hv => by
            rw [q2, ← hreal, hrk, List.nil_append] at hv
            rw [Nat.zero_add, Array.getElem?_append_left (by simpa using (List.getElem?_eq_some_iff.1 hv).1)]
            simpa using hv⟩)
        refine ⟨ρ', _, _, e1, hr, ?_, e3⟩
        have := VR.row (ρ := ρ') nn L' _ _ _ e2
        rw [q3, g2, Nat.zero_add, show n + (grownCap w n 0 u - n) = grownCap w n 0 u by omega] at this
        exact this
  · rename_i a ls c0 hnotrow
    split at hm
    · cases hm
    rename_i hsp
    have hsp : a.spot = none := by cases hq : a.spot <;> simp [hq] at hsp ⊢
    obtain ⟨b, d, e, g1, g2, rfl⟩ := hs.slice_inv hsp
    split at hm
    · rename_i hn0
      split at hm
      case isFalse => cases hm
      rename_i hlc
      injection hm with hm; injection hm with hm1 hm2; subst hm1 hm2
      exact .here h (zero _ _ _ hn0 (by omega)) hs
    · rename_i hn0
      split at hm
      case h_2 => cases hm
      rename_i cs u hcs
      split at hm
      case isFalse => cases hm
      rename_i hc2
      obtain ⟨rfl, d1, d2, d3, d4⟩ := hc2
      rw [openM_eq, forceA_eq] at hm
      split at hm
      case h_2 => cases hm
      rename_i k m1 hk
      injection hm with hm; injection hm with hm1 hm2; subst hm1 hm2
      cases xa with
      | none => exact absurd (hnil rfl) hn0
      | some xa =>
        have hlsz : ls * inf.size ≤ c0 * inf.size := Nat.mul_le_mul_right _ d1
        obtain ⟨hg, hB, c', r1, r2, r3⟩ := h.row hcs g2
        obtain ⟨ol, o1, o2, o3⟩ := h.some_elems (o := a.off) (k := ls * inf.size) hcs g2 (by omega)
        have hcsz : P.cellsOf u = inf.size := by simp [Program.cellsOf, hinf]
        rw [hcsz] at r2
        have hboth : AR ρ (cs.extract a.off (a.off + ls * inf.size) ++ news) (ol.toArray ++ l.toArray) := o3.append har
        by_cases hroom : ls + n ≤ c0 + e
        · have hmul : (ls + n) * inf.size ≤ (c0 + e) * inf.size := Nat.mul_le_mul_right _ hroom
          rw [Nat.add_mul, Nat.add_mul] at hmul
          have hr := run_append_room' (P := P) w t ty u inf ht hinf b (d + a.off) ls (c0 + e) c' r1 xa n xc l hl (hcells xa rfl) h1 hroom (by rw [hl]; omega)
          have hlen : ls * inf.size + l.length = (ls + n) * inf.size := by rw [hl, Nat.add_mul]
          obtain ⟨ρ', e1, e2, e3⟩ := (h.kill d4).new_at (w' := w.setRow b (c'.toList.take (d + a.off + ls * inf.size) ++ l ++ c'.toList.drop (d + a.off + ls * inf.size + l.length)).toArray) (b := b) (d := d + a.off) (e := c0 + e - (ls + n)) hk hB rfl rfl rfl (by simp [World.setRow])
            (fun k hk => setRow_other w b k _ (fun e => hk e)) (h.kill_live d4 hg g2) (.inl ⟨rfl, _, setRow_heap w b c' _ u _ r1, by
              rw [hcsz]
              simp only [List.size_toArray, List.length_append, List.length_take, List.length_drop, Array.length_toList, Array.size_append, Array.size_extract, har.size, hl]
              rw [Nat.sub_mul, Nat.add_mul, Nat.add_mul]
              omega, fun i v hv => by
              obtain ⟨v', a1, a2⟩ := hboth.get? hv
              refine ⟨v', ?_, a2⟩
              rw [List.getElem?_toArray]
              have htl : (c'.toList.take (d + a.off + ls * inf.size)).length = d + a.off + ls * inf.size := by simp; omega
              by_cases hi : i < ls * inf.size
              · rw [Array.getElem?_append_left (by simp [o1]; exact hi), List.getElem?_toArray] at a1
                have := o2 i v' a1
                rw [Addr.add_lit] at this
                rw [List.append_assoc, List.getElem?_append_left (by omega), List.getElem?_take, if_pos (by omega), Array.getElem?_toList]
                simpa [World.cell?, r1] using this
              · rw [Array.getElem?_append_right (by simp [o1]; omega), List.getElem?_toArray] at a1
                have hil := (List.getElem?_eq_some_iff.1 a1).1
                simp only [List.size_toArray, o1] at a1 hil
                rw [List.getElem?_append_left (by rw [List.length_append, htl]; omega), List.getElem?_append_right (by omega), htl, show d + a.off + i - (d + a.off + ls * inf.size) = i - ls * inf.size by omega]
                exact a1⟩)
          refine ⟨ρ', _, _, e1, hr, ?_, e3⟩
          have := VR.slice (ρ := ρ') k 0 _ _ _ (ls + n) (ls + n) e2
          rw [Nat.add_zero, show ls + n + (c0 + e - (ls + n)) = c0 + e by omega] at this
          exact this
        · have hby : (ls + n) * inf.bytes ≤ (1048576 + 1048576) * 1048576 := Nat.mul_le_mul (by omega) c2
          have hr := run_append_grow (P := P) w t ty u inf z ht hinf hz2 ⟨b, d + a.off, none⟩ ls (c0 + e) ol o1 o2 xa n xc l hl (hcells xa rfl) (by omega) (by omega) (growslice_fits (by omega) (by omega))
          have hge := grownCap_ge w (ls + n) (c0 + e) u
          obtain ⟨ρ', e1, e2, e3⟩ := ((h.kill d4).drew (w.drawn + 1)).new (q := .cells (ol.toArray ++ l.toArray ++ Builtin.zeroCells z.cells (grownCap w (ls + n) (c0 + e) u - (ls + n))) u) (e := grownCap w (ls + n) (c0 + e) u - (ls + n)) hk (.inl ⟨rfl, _, rfl, by
              rw [hboth.size, Array.size_append (xs := ol.toArray ++ l.toArray), size_zeroCells, c1, hcsz]; omega, fun i v hv => by
              obtain ⟨v', a1, a2⟩ := hboth.get? hv
              refine ⟨v', ?_, a2⟩
              rw [Nat.zero_add, Array.getElem?_append_left (Array.getElem?_eq_some_iff.1 a1).1]; exact a1⟩)
          refine ⟨ρ', _, _, e1, hr, ?_, e3⟩
          have := VR.slice (ρ := ρ') k 0 _ _ _ (ls + n) (ls + n) e2
          simp only [Nat.zero_add] at this
          rw [show ls + n + (grownCap w (ls + n) (c0 + e) u - (ls + n)) = grownCap w (ls + n) (c0 + e) u by omega] at this
          exact this
  · cases hm
end Go.Proofs.Ytaneipjpagbmpaa
