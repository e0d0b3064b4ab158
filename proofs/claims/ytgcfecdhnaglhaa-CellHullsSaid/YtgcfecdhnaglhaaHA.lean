/-
  Facts on signs; moves.
-/
import Derived.Test.YtgcfecdhnaglhaaProg
import Derived.Test.YtgcfecdhnaglhaaEF
import Derived.KernelRfl
namespace Go.Proofs.Ytgcfecdhnaglhaa
open Go.RowKit
set_option linter.unusedVariables false
set_option linter.unusedSimpArgs false
set_option maxRecDepth 100000
set_option maxHeartbeats 4000000
theorem bT {a b : Int} (h : a = b) : (a == b) = true := by simp [h]
theorem bN {a b : Int} (h : ¬ a = b) : (a == b) = false := by simp [h]
theorem cT {a b : Int} (h : a = b) : (a != b) = false := by simp [h]
theorem cN {a b : Int} (h : ¬ a = b) : (a != b) = true := by simp [h]
theorem noRows (E : Env) {P : Program} : @LoopsOk E P [] := fun _ h => (by cases h)
theorem nilK (E : Env) {P : Program} : @ConsOk E P [] := fun _ _ _ h => (by cases h)
theorem consK (E : Env) {P : Program} {g : FuncId} {args : Array Value} {v : Value} {K : Cons} (h : ∀ w, Below E.base.heap.size E.base w → Calls P g (realA E.σ args) w fun e w' => e = .returned (realD E.σ v) ∧ Below w.heap.size w w') (t : @ConsOk E P K) : @ConsOk E P ((g, args, v) :: K) := by
  intro g' args' v' hm
  rcases List.mem_cons.1 hm with e | hm
  · simp only [Prod.mk.injEq] at e
    obtain ⟨rfl, rfl, rfl⟩ := e
    exact h
  · exact t g' args' v' hm
def FactC (P : Program) (σ : Nat → Value) (e : TypeId × TypeId × Value × Value) : Prop := ∀ w, (convert e.1 e.2.1 (realV σ e.2.2.1)).run P w = .ok (realV σ e.2.2.2) w
def FactL (P : Program) (σ : Nat → Value) (e : TypeId × Value × Value) : Prop := ∀ ty w, (Builtin.len_ #[e.1] ty #[realV σ e.2.1]).run P w = .ok (realV σ e.2.2) w
def FactI (P : Program) (σ : Nat → Value) (e : TypeId × Value × Value × Value) : Prop := ∀ w, (Instr.indexAt e.1 (realV σ e.2.1) (realV σ e.2.2.1)).run P w = .ok (realV σ e.2.2.2) w
def FactD (P : Program) (W : World) (σ : Nat → Value) (e : TypeId × Value × Value) : Prop := flat e.2.2 = true ∧ ∀ w, Below W.heap.size W w → (Instr.loadAt e.1 (realV σ e.2.1)).run P w = .ok (realD σ e.2.2) w
def FactF (P : Program) (σ : Nat → Value) (e : TypeId × Value × Nat × Value) : Prop := ∀ w, (Instr.fieldAt e.1 (realV σ e.2.1) e.2.2.1).run P w = .ok (realV σ e.2.2.2) w
def FactRL (lenR : Nat → Nat) (σ : Nat → Value) (e : Nat × Value) : Prop := realV σ e.2 = goInt (lenR e.1)
def FactRI (lenR : Nat → Nat) (σ : Nat → Value) (e : Nat × Value) : Prop := ∃ i : Nat, realV σ e.2 = .int .i64 i ∧ i < lenR e.1
def FactRG (rows : Nat → List Value) (σ : Nat → Value) (e : Nat × Nat × Nat × Value) : Prop := flat e.2.2.2 = true ∧ e.2.2.2.cells.size = e.2.2.1 ∧ ∃ i, idxOf σ e.2.1 = some i ∧ (realD σ e.2.2.2).cells.toList = ((rows e.1).drop (i * e.2.2.1)).take e.2.2.1
def FactRA (rows : Nat → List Value) (lenR : Nat → Nat) (σ : Nat → Value) (e : Nat × Nat × Array Value × Nat × Nat × Nat) : Prop := flatA e.2.2.1 = true ∧ rows e.2.2.2.2.1 = rows e.1 ++ (realA σ e.2.2.1).toList ∧ lenR e.2.2.2.2.2 = lenR e.2.1 + e.2.2.2.1 ∧ lenR e.2.1 ≤ 1048576 ∧ (lenR e.2.1 = 0 → rows e.1 = [])
structure Mv where
  a : Int
  b : Int
  deriving Inhabited
def Mv.cell (z : Mv) : Nat → Int
  | 0 => z.a
  | _ => z.b
def Mv.row (z : Mv) : List Value := [cI z.a, cI z.b]
def fc (l : List Mv) (i : Int) (j : Nat) : Int := (l.getD i.toNat default).cell j
theorem rows_get (l : List Mv) (i : Nat) (h : i < l.length) : (l.map Mv.row)[i]? = some [cI (fc l ↑i 0), cI (fc l ↑i 1)] := by
  simp [fc, h, Mv.row, Mv.cell]
def mn (l : List Mv) (j : Nat) : Nat → Int
  | 0 => fc l 0 j
  | i + 1 => min (mn l j i) (fc l ↑i j)
def mx (l : List Mv) (j : Nat) : Nat → Int
  | 0 => fc l 0 j
  | i + 1 => max (mx l j i) (fc l ↑i j)
noncomputable def loopBody (P : Program) (g : FuncId) (p : List Bool) : Code := match codeAt P g p with
  | some (.loop b) => b
  | _ => .skip
theorem cell_cI (n : Int) : cellV (cI n) = true := rfl
theorem size26 : (Try.prog.info? 26).map (·.size) = some 2 := by kernel_rfl
theorem size3 : (Try.prog.info? 3).map (·.size) = some 1 := by kernel_rfl
/-- the place of a cell of an element -/
def fat (s : Value) (z i j : Nat) : Value := match SliceIs.at s z i with
  | .pointer (some a) => .pointer (some ⟨a.block, a.off + j, none⟩)
  | x => x
theorem cell_fat (s : Value) (z i j : Nat) : cellV (fat s z i j) = true := by
  unfold fat SliceIs.at; split <;> first | rfl | (split <;> rfl) | (split at * <;> simp_all)
theorem SliceIs.fadS {w : World} {s : Value} {z : Nat} {rows : List (List Value)} (h : SliceIs w s z rows) {P : Program} {t : TypeId} {fs : Array Field} (ht : P.underlying t = some (.struct fs)) {f : Nat} {fd : Field} (hf : fs[f]? = some fd) {n : Nat} (hi : (P.info? fd.type).map (·.size) = some n) (hn : n ≠ 0) {j : Nat} (ho : fd.offset = j) {i : Nat} (hlt : i < rows.length) (w' : World) : (Instr.fieldAt t (SliceIs.at s z i) f).run P w' = .ok (fat s z i j) w' := by
  obtain ⟨inf, h1, h2⟩ := Option.map_eq_some_iff.1 hi
  rcases h.form with ⟨h3, a, c, rfl⟩ | ⟨b, off, c, rfl, _⟩
  · subst h3; simp at hlt
  · have hs : inf.size ≠ 0 := by omega
    subst ho
    simp [Instr.fieldAt, run_underlying ht, hf, Instr.sureAddr, fieldPlace, run_sizeN h1, hs, Addr.add_lit, SliceIs.at, fat]
theorem SliceIs.lod1 {W : World} {s : Value} {z : Nat} {rows : List (List Value)} (h : SliceIs W s z rows) {P : Program} {t : TypeId} {du : TypeDesc} {n : Nat} (hi : (P.info? t).map (·.size) = some n) (hu : P.underlying t = some du) (h1 : ∀ fs, du ≠ .struct fs) (h2 : ∀ l e, du ≠ .array l e) {i j : Nat} {r : List Value} (hr : rows[i]? = some r) {v : Value} (hj : r[j]? = some v) (w : World) (hb : Below W.heap.size W w) :
    (Instr.loadAt t (fat s z i j)).run P w = .ok v w := by
  obtain ⟨inf, g1, g2⟩ := Option.map_eq_some_iff.1 hi
  rcases h.form with ⟨h3, a, c, rfl⟩ | ⟨b, off, c, rfl, h4, h5⟩
  · subst h3; simp at hr
  · exact load_one g1 hu h1 h2 (cell_below hb h4 ((h5 i r hr).2 j v hj))
theorem SliceIs.idxS {w : World} {s : Value} {z : Nat} {rows : List (List Value)} (h : SliceIs w s z rows) {P : Program} {t e : TypeId} (ht : P.underlying t = some (.slice e)) (hi : (P.info? e).map (·.size) = some z) {i : Nat} (hlt : i < rows.length) (w' : World) : (Instr.indexAt t s (cI i)).run P w' = .ok (SliceIs.at s z i) w' := by
  obtain ⟨inf, h1, h2⟩ := Option.map_eq_some_iff.1 hi
  exact h.idxF ht h1 h2 hlt w'
theorem SliceIs.lenM {α : Type} {f : α → List Value} {l : List α} {w : World} {s : Value} {z : Nat} (h : SliceIs w s z (l.map f)) {P : Program} {t e : TypeId} (ht : P.underlying t = some (.slice e)) (ty : TypeId) (w' : World) : (Builtin.len_ #[t] ty #[s]).run P w' = .ok (cI ↑l.length) w' := by
  have := h.lenF ht ty w'
  rwa [List.length_map] at this
/-- the first moves, as cells -/
def flatR (l : List Mv) (x : Nat) : List Value := (l.take x).flatMap Mv.row
theorem flat_next (l : List Mv) (x : Nat) (h : x < l.length) : flatR l (x + 1) = flatR l x ++ [cI (fc l ↑x 0), cI (fc l ↑x 1)] := by
  unfold flatR
  rw [List.take_succ_eq_append_getElem h, List.flatMap_append]
  simp [fc, Mv.row, Mv.cell, h]
theorem flat_len (l : List Mv) : ∀ x, x ≤ l.length → (flatR l x).length = x * 2
  | 0, _ => rfl
  | x + 1, h => by rw [flat_next l x (by omega), List.length_append, flat_len l x (by omega)]; simp; omega
theorem flat_get (l : List Mv) (x : Nat) (h : x < l.length) : ∀ n, x < n → n ≤ l.length → [cI (fc l ↑x 0), cI (fc l ↑x 1)] = ((flatR l n).drop (x * 2)).take 2
  | 0, h1, _ => by omega
  | n + 1, h1, h2 => by
    rw [flat_next l n (by omega)]
    by_cases e : x = n
    · subst e
      rw [List.drop_append_of_le_length (by rw [flat_len l x (by omega)]; omega), List.drop_of_length_le (by rw [flat_len l x (by omega)]; omega)]
      rfl
    · have hl := flat_len l n (by omega)
      rw [List.drop_append_of_le_length (by omega), List.take_append_of_le_length (by simp; omega)]
      exact flat_get l x h n (by omega) (by omega)
theorem XT.full {E1 E2 : Env} {tau : List (Value × Value)} {lam kap zer pi : List (Nat × Nat)} (hb : E1.base = E2.base) (h : ∀ e ∈ tau, flat e.1 = true ∧ flat e.2 = true ∧ realD E1.σ e.1 = realD E2.σ e.2)
    (h1 : ∀ e ∈ lam, E1.lenR e.1 = E2.lenR e.2) (h2 : ∀ e ∈ kap, E1.rows e.1 = E2.rows e.2) (h3 : ∀ e ∈ zer, E2.rows e.1 = [] ∧ E2.lenR e.2 = 0) : XT.Ok { tau := tau, lam := lam, kap := kap, zer := zer, pi := pi } E1 E2 :=
  ⟨hb, fun a b hm => h (a, b) hm, fun a b hm => h1 (a, b) hm, fun a b hm => h2 (a, b) hm, fun a b hm => h3 (a, b) hm⟩
/-- signs, and own rows -/
abbrev sigR (P : Program) (W : World) (l : List Value) (hl : l.all cellV = true) (rw : Nat → List Value) (ln : Nat → Nat) : Env :=
  { σ := sigF l, ints := fun k => isInt (sigF l k), okI := fun _ h => h, plain := sig_plain l hl, bins := [], okB := fun _ _ _ _ h => (by cases h), mins := [], okM := fun _ _ _ _ h => (by cases h), prog := P, base := W, lods := [], okLd := fun _ _ _ h => (by cases h), idxs := [], okIx := fun _ _ _ _ h => (by cases h), fads := [], okFa := fun _ _ _ _ h => (by cases h), lens := [], okLe := fun _ _ _ h => (by cases h), cvts := [], okCv := fun _ _ _ _ h => (by cases h), rows := rw, lenR := ln, lenT := [], okLt := fun _ _ h => (by cases h), inT := [], okIn := fun _ _ h => (by cases h), gets := [], okGe := fun _ _ _ _ h => (by cases h), apps := [], okAp := fun _ _ _ _ _ _ h => (by cases h) }
end Go.Proofs.Ytgcfecdhnaglhaa
