/-
  Facts on signs; lists.
-/
import Derived.Test.YtaneipjpagbmpaaFA
import Derived.Test.YtaneipjpagbmpaaEH
import Derived.Test.YtaneipjpagbmpaaEI
namespace Go.Proofs.Ytaneipjpagbmpaa
open Go.RowKit
set_option linter.unusedVariables false
set_option linter.unusedSimpArgs false
set_option maxRecDepth 100000
set_option maxHeartbeats 4000000
def FactF (P : Program) (σ : Nat → Value) (e : TypeId × Value × Nat × Value) : Prop := ∀ w, (Instr.fieldAt e.1 (realV σ e.2.1) e.2.2.1).run P w = .ok (realV σ e.2.2.2) w
def FactRL (lenR : Nat → Nat) (σ : Nat → Value) (e : Nat × Value) : Prop := realV σ e.2 = goInt (lenR e.1)
def FactRI (lenR : Nat → Nat) (σ : Nat → Value) (e : Nat × Value) : Prop := ∃ i : Nat, realV σ e.2 = .int .i64 i ∧ i < lenR e.1
def FactRG (rows : Nat → List Value) (σ : Nat → Value) (e : Nat × Nat × Nat × Value) : Prop := flat e.2.2.2 = true ∧ e.2.2.2.cells.size = e.2.2.1 ∧ ∃ i, idxOf σ e.2.1 = some i ∧ (realD σ e.2.2.2).cells.toList = ((rows e.1).drop (i * e.2.2.1)).take e.2.2.1
def FactRA (rows : Nat → List Value) (lenR : Nat → Nat) (σ : Nat → Value) (e : Nat × Nat × Array Value × Nat × Nat × Nat) : Prop := flatA e.2.2.1 = true ∧ rows e.2.2.2.2.1 = rows e.1 ++ (realA σ e.2.2.1).toList ∧ lenR e.2.2.2.2.2 = lenR e.2.1 + e.2.2.2.1 ∧ lenR e.2.1 ≤ 1048576 ∧ (lenR e.2.1 = 0 → rows e.1 = [])
/-- two numbers -/
structure Mv where
  a : Int
  b : Int
  deriving Inhabited
def Mv.cell (z : Mv) : Nat → Int
  | 0 => z.a
  | _ => z.b
def Mv.row (z : Mv) : List Value := [cI z.a, cI z.b]
def mv (l : List Mv) (i : Int) (j : Nat) : Int := (l.getD i.toNat default).cell j
theorem mv_get (l : List Mv) (i : Nat) (h : i < l.length) : (l.map Mv.row)[i]? = some [cI (mv l ↑i 0), cI (mv l ↑i 1)] := by
  simp [mv, h, Mv.row, Mv.cell]
def gi (l : List Int) (i : Int) : Int := l.getD i.toNat 0
def one (n : Int) : List Value := [cI n]
theorem gi_get (l : List Int) (i : Nat) (h : i < l.length) : (l.map one)[i]? = some [cI (gi l ↑i)] := by simp [gi, h, one]
theorem gi_row (L : List Int) (i : Nat) (h : i < L.length) : [cI (gi L ↑i)] = ((L.map cI).drop (i * 1)).take 1 := by
  rw [Nat.mul_one, List.drop_eq_getElem_cons (by simpa using h)]
  simp [gi, h]
/-- the first thing that is wrong in a list -/
def firstE {α : Type} (err : α → Int) : List α → Int
  | [] => 0
  | z :: l => if err z = 0 then firstE err l else err z
theorem firstE_drop {α : Type} {err : α → Int} {d : α} : ∀ (l : List α) (i : Nat), i ≤ l.length → (∀ k, k < i → err (l.getD k d) = 0) → firstE err l = firstE err (l.drop i)
  | l, 0, _, _ => by simp
  | [], i + 1, h, _ => by simp at h
  | z :: l, i + 1, h, hk => by
    have h0 := hk 0 (by omega)
    simp at h0
    rw [List.drop_succ_cons, firstE, if_pos h0]
    exact firstE_drop l i (by simpa using h) (fun k hki => by have := hk (k + 1) (by omega); simpa using this)
theorem firstE_end {α : Type} {err : α → Int} {d : α} (l : List α) (hk : ∀ k, k < l.length → err (l.getD k d) = 0) : firstE err l = 0 := by
  rw [firstE_drop (d := d) l l.length (Nat.le_refl _) hk]; simp [firstE]
theorem firstE_at {α : Type} {err : α → Int} {d : α} (l : List α) (i : Nat) (h : i < l.length) (hk : ∀ k, k < i → err (l.getD k d) = 0) (he : err (l.getD i d) ≠ 0) : firstE err l = err (l.getD i d) := by
  rw [firstE_drop l i (by omega) hk, List.drop_eq_getElem_cons h, firstE]
  have e : l.getD i d = l[i] := by simp [h]
  rw [e] at he ⊢
  rw [if_neg he]
theorem firstE_all {α : Type} {err : α → Int} {d : α} : ∀ (l : List α), firstE err l = 0 → ∀ k, k < l.length → err (l.getD k d) = 0
  | [], _, k, h => by simp at h
  | z :: l, h0, k, h => by
    rw [firstE] at h0
    split at h0
    · cases k with
      | zero => simpa
      | succ k => simpa using firstE_all (d := d) l h0 k (by simpa using h)
    · rename_i h1; exact absurd h0 h1
noncomputable def loopBody (P : Program) (g : FuncId) (p : List Bool) : Code := match codeAt P g p with
  | some (.loop b) => b
  | _ => .skip
theorem cell_cI (n : Int) : cellV (cI n) = true := rfl
/-- the place of a cell of an element -/
def fat (s : Value) (z i j : Nat) : Value := match SliceIs.at s z i with
  | .pointer (some a) => .pointer (some ⟨a.block, a.off + j, none⟩)
  | x => x
theorem cell_fat (s : Value) (z i j : Nat) : cellV (fat s z i j) = true := by
  unfold fat SliceIs.at; split <;> first | rfl | (split <;> rfl) | (split at * <;> simp_all)
theorem SliceIs.fadS {w : World} {s : Value} {z : Nat} {rows : List (List Value)} (h : SliceIs w s z rows) {P : Program} {t : TypeId} {fs : Array Field} (ht : P.underlying t = some (.struct fs)) {f : Nat} {fd : Field} (hf : fs[f]? = some fd) {n : Nat} (hi : (P.info? fd.type).map (·.size) = some n) (hn : n ≠ 0) {j : Nat} (ho : fd.offset = j) {i : Nat} (hlt : i < rows.length) (w' : World) : (Instr.fieldAt t (SliceIs.at s z i) f).run P w' = .ok (fat s z i j) w' := by
  obtain ⟨inf, h1, h2⟩ := Option.map_eq_some_iff.1 hi
  rcases h.form with ⟨h3, a, c, rfl⟩ | ⟨b, off, c, rfl, _⟩
  · subst h3; simp at hlt
  · have hs : inf.size ≠ 0 := by omega
    subst ho
    simp [Instr.fieldAt, run_underlying ht, hf, Instr.sureAddr, fieldPlace, run_sizeN h1, hs, Addr.add_lit, SliceIs.at, fat]
theorem SliceIs.lod1 {W : World} {s : Value} {z : Nat} {rows : List (List Value)} (h : SliceIs W s z rows) {P : Program} {t : TypeId} {du : TypeDesc} {n : Nat} (hi : (P.info? t).map (·.size) = some n) (hu : P.underlying t = some du) (h1 : ∀ fs, du ≠ .struct fs) (h2 : ∀ l e, du ≠ .array l e) {i j : Nat} {r : List Value} (hr : rows[i]? = some r) {v : Value} (hj : r[j]? = some v) (w : World) (hb : Below W.heap.size W w) :
    (Instr.loadAt t (fat s z i j)).run P w = .ok v w := by
  obtain ⟨inf, g1, g2⟩ := Option.map_eq_some_iff.1 hi
  rcases h.form with ⟨h3, a, c, rfl⟩ | ⟨b, off, c, rfl, h4, h5⟩
  · subst h3; simp at hr
  · exact load_one g1 hu h1 h2 (cell_below hb h4 ((h5 i r hr).2 j v hj))
theorem SliceIs.lodI {W : World} {s : Value} {z : Nat} {rows : List (List Value)} (h : SliceIs W s z rows) {P : Program} {t : TypeId} {du : TypeDesc} {n : Nat} (hi : (P.info? t).map (·.size) = some n) (hu : P.underlying t = some du) (h1 : ∀ fs, du ≠ .struct fs) (h2 : ∀ l e, du ≠ .array l e) {i : Nat} {r : List Value} (hr : rows[i]? = some r) {v : Value} (hj : r[0]? = some v) (w : World) (hb : Below W.heap.size W w) :
    (Instr.loadAt t (SliceIs.at s z i)).run P w = .ok v w := by
  have h := h.lod1 hi hu h1 h2 hr hj w hb
  have e : fat s z i 0 = SliceIs.at s z i := by
    unfold fat; split
    · rename_i a ha
      unfold SliceIs.at at ha ⊢
      split at ha
      · simp only [Value.pointer.injEq, Option.some.injEq] at ha
        subst ha; rfl
      · cases ha
    · rfl
  rwa [e] at h
theorem SliceIs.lodS {W : World} {s : Value} {z : Nat} {rows : List (List Value)} (h : SliceIs W s z rows) {P : Program} {e : TypeId} (hi : (P.info? e).map (·.size) = some z) (hu : (∃ fs, P.underlying e = some (.struct fs)) ∨ ∃ l e', P.underlying e = some (.array l e')) {i : Nat} {r : List Value} (hr : rows[i]? = some r) (w : World) (hb : Below W.heap.size W w) : (Instr.loadAt e (SliceIs.at s z i)).run P w = .ok (.agg r.toArray) w := by
  obtain ⟨inf, h1, h2⟩ := Option.map_eq_some_iff.1 hi
  exact h.lodF h1 h2 hu hr w hb
theorem SliceIs.idxS {w : World} {s : Value} {z : Nat} {rows : List (List Value)} (h : SliceIs w s z rows) {P : Program} {t e : TypeId} (ht : P.underlying t = some (.slice e)) (hi : (P.info? e).map (·.size) = some z) {i : Nat} (hlt : i < rows.length) (w' : World) : (Instr.indexAt t s (cI i)).run P w' = .ok (SliceIs.at s z i) w' := by
  obtain ⟨inf, h1, h2⟩ := Option.map_eq_some_iff.1 hi
  exact h.idxF ht h1 h2 hlt w'
theorem SliceIs.lenM {α : Type} {f : α → List Value} {l : List α} {w : World} {s : Value} {z : Nat} (h : SliceIs w s z (l.map f)) {P : Program} {t e : TypeId} (ht : P.underlying t = some (.slice e)) (ty : TypeId) (w' : World) : (Builtin.len_ #[t] ty #[s]).run P w' = .ok (cI ↑l.length) w' := by
  have := h.lenF ht ty w'
  rwa [List.length_map] at this
theorem XT.full {E1 E2 : Env} {tau : List (Value × Value)} {lam kap zer pi : List (Nat × Nat)} (hb : E1.base = E2.base) (h : ∀ e ∈ tau, flat e.1 = true ∧ flat e.2 = true ∧ realD E1.σ e.1 = realD E2.σ e.2)
    (h1 : ∀ e ∈ lam, E1.lenR e.1 = E2.lenR e.2) (h2 : ∀ e ∈ kap, E1.rows e.1 = E2.rows e.2) (h3 : ∀ e ∈ zer, E2.rows e.1 = [] ∧ E2.lenR e.2 = 0) : XT.Ok { tau := tau, lam := lam, kap := kap, zer := zer, pi := pi } E1 E2 :=
  ⟨hb, fun a b hm => h (a, b) hm, fun a b hm => h1 (a, b) hm, fun a b hm => h2 (a, b) hm, fun a b hm => h3 (a, b) hm⟩
/-- signs, and own rows -/
abbrev sigR (P : Program) (W : World) (l : List Value) (hl : l.all cellV = true) (rw : Nat → List Value) (ln : Nat → Nat) : Env :=
  { σ := sigF l, ints := fun k => isInt (sigF l k), okI := fun _ h => h, plain := sig_plain l hl, bins := [], okB := fun _ _ _ _ h => (by cases h), mins := [], okM := fun _ _ _ _ h => (by cases h), prog := P, base := W, lods := [], okLd := fun _ _ _ h => (by cases h), idxs := [], okIx := fun _ _ _ _ h => (by cases h), slcs := [], okSl := fun _ _ _ _ h => (by cases h), fads := [], okFa := fun _ _ _ _ h => (by cases h), lens := [], okLe := fun _ _ _ h => (by cases h), cvts := [], okCv := fun _ _ _ _ h => (by cases h), rows := rw, lenR := ln, lenT := [], okLt := fun _ _ h => (by cases h), inT := [], okIn := fun _ _ h => (by cases h), gets := [], okGe := fun _ _ _ _ h => (by cases h), apps := [], okAp := fun _ _ _ _ _ _ h => (by cases h) }
theorem loopsTwo {E : Env} {P : Program} {r q : LoopRow} (h : @RowOk E P r) (h' : @RowOk E P q) : @LoopsOk E P [r, q] := fun x hx => by
  rcases List.mem_cons.1 hx with rfl | hx
  · exact h
  · rcases List.mem_singleton.1 hx with rfl; exact h'
theorem loopsThree {E : Env} {P : Program} {r q s : LoopRow} (h : @RowOk E P r) (h' : @RowOk E P q) (h'' : @RowOk E P s) : @LoopsOk E P [r, q, s] := fun x hx => by
  rcases List.mem_cons.1 hx with rfl | hx
  · exact h
  · exact loopsTwo h' h'' x hx
/-! ### Contradictions -/
def stE (n : Int) : Int := if 0 ≤ n ∧ n ≤ 2 then 0 else 3
def Con (n a b lev : Int) : Prop := n = 2 ∧ b < lev ∨ n = 0 ∧ lev ≤ a
instance (n a b lev : Int) : Decidable (Con n a b lev) := inferInstanceAs (Decidable (_ ∨ _))
def cs (l : List Int) (v : List Mv) (lev : Int) : Nat → List Int
  | 0 => []
  | x + 1 => if Con (gi l ↑x) (mv v ↑x 0) (mv v ↑x 1) lev then cs l v lev x ++ [(↑x : Int)] else cs l v lev x
theorem cs_len (l : List Int) (v : List Mv) (lev : Int) : ∀ x, (cs l v lev x).length ≤ x
  | 0 => Nat.le_refl _
  | x + 1 => by
    have := cs_len l v lev x
    rw [cs]; split
    · rw [List.length_append]; simp; omega
    · omega
theorem cs_yes {l : List Int} {v : List Mv} {lev : Int} {x : Nat} (h : Con (gi l ↑x) (mv v ↑x 0) (mv v ↑x 1) lev) : cs l v lev (x + 1) = cs l v lev x ++ [(↑x : Int)] := by rw [cs, if_pos h]
theorem cs_no {l : List Int} {v : List Mv} {lev : Int} {x : Nat} (h : ¬ Con (gi l ↑x) (mv v ↑x 0) (mv v ↑x 1) lev) : cs l v lev (x + 1) = cs l v lev x := by rw [cs, if_neg h]
theorem cs_row {l : List Int} {v : List Mv} {lev : Int} {x : Nat} (h : Con (gi l ↑x) (mv v ↑x 0) (mv v ↑x 1) lev) : (cs l v lev (x + 1)).map cI = (cs l v lev x).map cI ++ [cI ↑x] := by rw [cs_yes h]; simp
theorem cs_row0 {l : List Int} {v : List Mv} {lev : Int} {x : Nat} (h : ¬ Con (gi l ↑x) (mv v ↑x 0) (mv v ↑x 1) lev) : (cs l v lev x).map cI = (cs l v lev (x + 1)).map cI := by rw [cs_no h]
theorem cs_l1 {l : List Int} {v : List Mv} {lev : Int} {x : Nat} (h : Con (gi l ↑x) (mv v ↑x 0) (mv v ↑x 1) lev) : (cs l v lev (x + 1)).length = (cs l v lev x).length + 1 := by rw [cs_yes h]; simp
theorem cs_l0 {l : List Int} {v : List Mv} {lev : Int} {x : Nat} (h : ¬ Con (gi l ↑x) (mv v ↑x 0) (mv v ↑x 1) lev) : (cs l v lev x).length = (cs l v lev (x + 1)).length := by rw [cs_no h]
theorem row_nil {L : List Int} (h : L.length = 0) : L.map cI = [] := by rw [List.length_eq_zero_iff.1 h]; rfl
/-! ### Parts of slices -/
def FactS (P : Program) (σ : Nat → Value) (e : TypeId × Value × Value × Value) : Prop := ∀ w, (Instr.sliceAt e.1 (realV σ e.2.1) (some (realV σ e.2.2.1)) none none).run P w = .ok (realV σ e.2.2.2) w
/-- s[i:] -/
def cut (s : Value) (z i : Nat) : Value := match s with
  | .slice a n c => .slice (if c = i then a else a.map (·.add (i * z))) (n - i) (c - i)
  | x => x
theorem SliceIs.cutS {W : World} {s : Value} {z : Nat} {rows : List (List Value)} (h : SliceIs W s z rows) {P : Program} {t e : TypeId} (ht : P.underlying t = some (.slice e)) (hi : (P.info? e).map (·.size) = some z) {i : Nat} (hlt : i ≤ rows.length) (w : World) : (Instr.sliceAt t s (some (cI i)) none none).run P w = .ok (cut s z i) w := by
  obtain ⟨inf, h1, h2⟩ := Option.map_eq_some_iff.1 hi
  rcases h.form with ⟨h3, a, c, rfl⟩ | ⟨b, off, c, rfl, _⟩
  · subst h3
    have : i = 0 := by simpa using hlt
    subst this
    simp [Instr.sliceAt, run_underlying ht, Instr.slice, Instr.sliceBounds, Instr.sliceBound, asIntOf, run_sizeN h1, cut, h2]
  · simp [Instr.sliceAt, run_underlying ht, Instr.slice, Instr.sliceBounds, Instr.sliceBound, asIntOf, run_sizeN h1, cut, h2, hlt]
def capV : Value → Nat
  | .slice _ _ c => c
  | _ => 0
theorem SliceIs.cutIs {W : World} {s : Value} {z : Nat} {rows : List (List Value)} (h : SliceIs W s z rows) (hcap : rows.length ≤ capV s) {i : Nat} (hlt : i ≤ rows.length) : SliceIs W (cut s z i) z (rows.drop i) := by
  rcases h.form with ⟨h3, a, c, rfl⟩ | ⟨b, off, c, rfl, h4, h5⟩
  · subst h3
    refine ⟨.inl ⟨by simp, ?_⟩⟩
    have : i = 0 := by simpa using hlt
    subst this
    unfold cut
    exact ⟨_, _, rfl⟩
  · by_cases hc : i = rows.length
    · refine ⟨.inl ⟨by simp [hc], ?_⟩⟩
      subst hc
      unfold cut
      simp only [Nat.sub_self]
      exact ⟨_, _, rfl⟩
    · have hcap : rows.length ≤ c := hcap
      refine ⟨.inr ⟨b, off + i * z, c - i, ?_, h4, fun j r hr => ?_⟩⟩
      · unfold cut
        simp only [if_neg (show ¬ c = i by omega), Option.map_some, Addr.add_lit, List.length_drop]
      · rw [List.getElem?_drop] at hr
        refine ⟨(h5 (i + j) r hr).1, fun k v hv => ?_⟩
        have := (h5 (i + j) r hr).2 k v hv
        rw [Nat.add_mul] at this
        rw [← Nat.add_assoc] at this
        exact this
end Go.Proofs.Ytaneipjpagbmpaa
