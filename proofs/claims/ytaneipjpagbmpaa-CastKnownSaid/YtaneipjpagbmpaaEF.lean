/-
  What is known of signs: rows of facts, proved; the reading of a list of signs.
-/
import Derived.Test.YtaneipjpagbmpaaEG
import Derived.IntWalk
namespace Go.Proofs.Ytaneipjpagbmpaa
open Go.RowKit
set_option linter.unusedVariables false
set_option linter.unusedSimpArgs false

abbrev cI (n : Int) : Value := .int .i64 n
abbrev sg (n : Nat) : Value := .chan (some n)
def sigF : List Value → Nat → Value
  | [], _ => .nilFunc
  | v :: _, 0 => v
  | _ :: l, k + 1 => sigF l k
theorem sig_plain : ∀ (l : List Value), l.all cellV = true → ∀ k, cellV (sigF l k) = true
  | [], _, k => by cases k <;> rfl
  | v :: l, h, 0 => by rw [List.all_cons, Bool.and_eq_true] at h; exact h.1
  | v :: l, h, k + 1 => by rw [List.all_cons, Bool.and_eq_true] at h; exact sig_plain l h.2 k
/-- an int under a sign, or an int -/
abbrev Is (σ : Nat → Value) (v : Value) (n : Int) : Prop := realV σ v = cI n
theorem Is.lit {σ : Nat → Value} (n : Int) : Is σ (cI n) n := rfl
def FactB (σ : Nat → Value) (e : BinOp × Value × Value × Value) : Prop :=
  (isInt (realV σ e.2.1) = true ∧ isInt (realV σ e.2.2.1) = true) ∧ ∀ (P : Program) (t : TypeId) (w : World), (binOp e.1 t (realV σ e.2.1) (realV σ e.2.2.1)).run P w = .ok (realV σ e.2.2.2) w
def FactM (σ : Nat → Value) (e : Bool × Value × Value × Value) : Prop :=
  ∀ (P : Program) (w : World), (if e.1 then Builtin.max2 (realV σ e.2.1) (realV σ e.2.2.1) else Builtin.min2 (realV σ e.2.1) (realV σ e.2.2.1)).run P w = .ok (realV σ e.2.2.2) w
section
variable {σ : Nat → Value} {x y z : Value} {a b c : Int}
theorem leqF (hx : Is σ x a) (hy : Is σ y b) {t : Bool} (h : decide (a ≤ b) = t) : FactB σ (.leq, x, y, .bool t) := by
  subst h; unfold FactB; rw [hx, hy]; refine ⟨⟨rfl, rfl⟩, fun P ty w => ?_⟩; rw [binOp_leq]; rfl
theorem geqF (hx : Is σ x a) (hy : Is σ y b) {t : Bool} (h : decide (b ≤ a) = t) : FactB σ (.geq, x, y, .bool t) := by
  subst h; unfold FactB; rw [hx, hy]; refine ⟨⟨rfl, rfl⟩, fun P ty w => ?_⟩; rw [binOp_geq]; rfl
theorem lssF (hx : Is σ x a) (hy : Is σ y b) {t : Bool} (h : decide (a < b) = t) : FactB σ (.lss, x, y, .bool t) := by
  subst h; unfold FactB; rw [hx, hy]; refine ⟨⟨rfl, rfl⟩, fun P ty w => ?_⟩; rw [binOp_lss]; rfl
theorem gtrF (hx : Is σ x a) (hy : Is σ y b) {t : Bool} (h : decide (b < a) = t) : FactB σ (.gtr, x, y, .bool t) := by
  subst h; unfold FactB; rw [hx, hy]; refine ⟨⟨rfl, rfl⟩, fun P ty w => ?_⟩; rw [binOp_gtr]; rfl
theorem eqlF (hx : Is σ x a) (hy : Is σ y b) {t : Bool} (h : (a == b) = t) : FactB σ (.eql, x, y, .bool t) := by
  subst h; unfold FactB; rw [hx, hy]; refine ⟨⟨rfl, rfl⟩, fun P ty w => ?_⟩; rw [binOp_eql]; rfl
theorem neqF (hx : Is σ x a) (hy : Is σ y b) {t : Bool} (h : (a != b) = t) : FactB σ (.neq, x, y, .bool t) := by
  subst h; unfold FactB; rw [hx, hy]; refine ⟨⟨rfl, rfl⟩, fun P ty w => ?_⟩; rw [binOp_neq]; rfl
abbrev In64 (n : Int) : Prop := -9223372036854775808 ≤ n ∧ n ≤ 9223372036854775807
theorem addF (hx : Is σ x a) (hy : Is σ y b) (hz : Is σ z c) (h : a + b = c) (hr : In64 c) : FactB σ (.add, x, y, z) := by
  subst h; unfold FactB; rw [hx, hy, hz]; refine ⟨⟨rfl, rfl⟩, fun P ty w => ?_⟩
  rw [binOp_add, Op.intArith, IntWalk.i64_in _ hr]; rfl
theorem subF (hx : Is σ x a) (hy : Is σ y b) (hz : Is σ z c) (h : a - b = c) (hr : In64 c) : FactB σ (.sub, x, y, z) := by
  subst h; unfold FactB; rw [hx, hy, hz]; refine ⟨⟨rfl, rfl⟩, fun P ty w => ?_⟩
  rw [binOp_sub, Op.intArith, IntWalk.i64_in _ hr]; rfl
theorem mulF (hx : Is σ x a) (hy : Is σ y b) (hz : Is σ z c) (h : a * b = c) (hr : In64 c) : FactB σ (.mul, x, y, z) := by
  subst h; unfold FactB; rw [hx, hy, hz]; refine ⟨⟨rfl, rfl⟩, fun P ty w => ?_⟩
  rw [binOp_mul, Op.intArith, IntWalk.i64_in _ hr]; rfl
theorem quoF (hx : Is σ x a) (hy : Is σ y b) (hz : Is σ z c) (h : a.tdiv b = c) (hb : b ≠ 0) (hr : In64 c) : FactB σ (.quo, x, y, z) := by
  subst h; unfold FactB; rw [hx, hy, hz]; refine ⟨⟨rfl, rfl⟩, fun P ty w => ?_⟩
  rw [binOp_quo, Op.intDiv, if_neg hb]; show (pure (Value.int .i64 (IntKind.wrap .i64 (a.tdiv b))) : Sem Value).run P w = _; rw [IntWalk.i64_in _ hr]; rfl
theorem remF (hx : Is σ x a) (hy : Is σ y b) (hz : Is σ z c) (h : a.tmod b = c) (hb : b ≠ 0) : FactB σ (.rem, x, y, z) := by
  subst h; unfold FactB; rw [hx, hy, hz]; refine ⟨⟨rfl, rfl⟩, fun P ty w => ?_⟩
  rw [binOp_rem, Op.intDiv, if_neg hb]; rfl
theorem minF (hx : Is σ x a) (hy : Is σ y b) (hz : Is σ z c) (h : min a b = c) : FactM σ (false, x, y, z) := by
  subst h; unfold FactM; rw [hx, hy, hz]; intro P w
  rw [if_neg (by simp)]; unfold Builtin.min2
  show (pure (Value.int .i64 (if b < a then b else a)) : Sem Value).run P w = _
  rw [show (if b < a then b else a) = min a b by split <;> omega]; rfl
theorem maxF (hx : Is σ x a) (hy : Is σ y b) (hz : Is σ z c) (h : max a b = c) : FactM σ (true, x, y, z) := by
  subst h; unfold FactM; rw [hx, hy, hz]; intro P w
  rw [if_pos rfl]; unfold Builtin.max2
  show (pure (Value.int .i64 (if b > a then b else a)) : Sem Value).run P w = _
  rw [show (if b > a then b else a) = max a b by split <;> omega]; rfl
end
/-- signs for values; nothing is known of them yet -/
abbrev sigE (P : Program) (W : World) (l : List Value) (hl : l.all cellV = true) : Env :=
  { σ := sigF l, ints := fun k => isInt (sigF l k), okI := fun _ h => h, plain := sig_plain l hl, bins := [], okB := fun _ _ _ _ h => (by cases h), mins := [], okM := fun _ _ _ _ h => (by cases h), prog := P, base := W, lods := [], okLd := fun _ _ _ h => (by cases h), idxs := [], okIx := fun _ _ _ _ h => (by cases h), slcs := [], okSl := fun _ _ _ _ h => (by cases h), fads := [], okFa := fun _ _ _ _ h => (by cases h), lens := [], okLe := fun _ _ _ h => (by cases h), cvts := [], okCv := fun _ _ _ _ h => (by cases h), rows := fun _ => [], lenR := fun _ => 0, lenT := [], okLt := fun _ _ h => (by cases h), inT := [], okIn := fun _ _ h => (by cases h), gets := [], okGe := fun _ _ _ _ h => (by cases h), apps := [], okAp := fun _ _ _ _ _ _ h => (by cases h) }
theorem nilF {α : Type} {p : α → Prop} : ∀ e ∈ ([] : List α), p e := fun _ h => (by cases h)
theorem consF {α : Type} {p : α → Prop} {x : α} {l : List α} (h : p x) (hl : ∀ e ∈ l, p e) : ∀ e ∈ x :: l, p e := List.forall_mem_cons.2 ⟨h, hl⟩
theorem appF {α : Type} {p : α → Prop} {l l' : List α} (h : ∀ e ∈ l, p e) (h' : ∀ e ∈ l', p e) : ∀ e ∈ l ++ l', p e := fun e he => (List.mem_append.1 he).elim (h e) (h' e)
def isTrue : Option Value → Bool
  | some (.bool true) => true
  | _ => false
theorem isTrue_spec {x : Option Value} (h : isTrue x = true) : x = some (.bool true) := by
  unfold isTrue at h
  split at h
  · rfl
  · cases h
/-- a call with no arguments that answers true, as a contract -/
theorem consTrue [Env] {P : Program} {l : List FuncId} (h : ∀ g ∈ l, ∀ w, Calls P g #[] w fun e w' => e = .returned (.bool true) ∧ Below w.heap.size w w') : ConsOk P (l.map fun g => (g, #[], .bool true)) := by
  intro g args v hm w _
  obtain ⟨q, hq, he⟩ := List.mem_map.1 hm
  simp only [Prod.mk.injEq] at he
  obtain ⟨rfl, rfl, rfl⟩ := he
  exact h _ hq w

theorem run_sizeN {P : Program} {t : TypeId} {i : TypeInfo} (h : P.info? t = some i) (w : World) : (sizeOf t).run P w = .ok i.size w := by
  simp [sizeOf, typeInfo, h]
/-! ### Slices that came in: rows of cells -/
/-- a slice of elements of z cells each, as it lies -/
structure SliceIs (w : World) (s : Value) (z : Nat) (rows : List (List Value)) : Prop where
  form : (rows = [] ∧ ∃ a c, s = .slice a 0 c) ∨ ∃ b off c, s = .slice (some ⟨b, off, none⟩) rows.length c ∧ b < w.heap.size ∧ ∀ i r, rows[i]? = some r → r.length = z ∧ ∀ j v, r[j]? = some v → w.cell? ⟨b, off + i * z + j, none⟩ = some v
theorem cell_below {B : Nat} {w w' : World} (h : Below B w w') {b o : Nat} (hb : b < B) {v : Value} (hc : w.cell? ⟨b, o, none⟩ = some v) : w'.cell? ⟨b, o, none⟩ = some v := by
  have := h.block b hb
  simp only [World.cell?, this] at hc ⊢
  exact hc
theorem SliceIs.keep {w w' : World} {s : Value} {z : Nat} {rows : List (List Value)} (h : SliceIs w s z rows) (hb : Below w.heap.size w w') : SliceIs w' s z rows := by
  rcases h.form with h | ⟨b, off, c, h1, h2, h3⟩
  · exact ⟨.inl h⟩
  · exact ⟨.inr ⟨b, off, c, h1, Nat.lt_of_lt_of_le h2 hb.size, fun i r hi => ⟨(h3 i r hi).1, fun j v hj => cell_below hb h2 ((h3 i r hi).2 j v hj)⟩⟩⟩
/-- the place of an element -/
def SliceIs.at (s : Value) (z i : Nat) : Value :=
  match s with
  | .slice (some a) _ _ => .pointer (some ⟨a.block, a.off + i * z, none⟩)
  | _ => .pointer none
theorem cell_at (s : Value) (z i : Nat) : cellV (SliceIs.at s z i) = true := by unfold SliceIs.at; split <;> rfl
theorem SliceIs.cellV {w : World} {s : Value} {z : Nat} {rows : List (List Value)} (h : SliceIs w s z rows) : cellV s = true := by
  rcases h.form with ⟨_, a, c, rfl⟩ | ⟨b, off, c, rfl, _⟩ <;> rfl
theorem SliceIs.lenF {w : World} {s : Value} {z : Nat} {rows : List (List Value)} (h : SliceIs w s z rows) {P : Program} {t e : TypeId} (ht : P.underlying t = some (.slice e)) (ty : TypeId) (w' : World) : (Builtin.len_ #[t] ty #[s]).run P w' = .ok (cI rows.length) w' := by
  rcases h.form with ⟨h1, a, c, rfl⟩ | ⟨b, off, c, rfl, _⟩
  · subst h1; simp [Builtin.len_, run_underlying ht, goInt]
  · simp [Builtin.len_, run_underlying ht, goInt]
theorem SliceIs.idxF {w : World} {s : Value} {z : Nat} {rows : List (List Value)} (h : SliceIs w s z rows) {P : Program} {t e : TypeId} (ht : P.underlying t = some (.slice e)) {inf : TypeInfo} (hi : P.info? e = some inf) (hz : inf.size = z) {i : Nat} (hlt : i < rows.length) (w' : World) : (Instr.indexAt t s (cI i)).run P w' = .ok (SliceIs.at s z i) w' := by
  rcases h.form with ⟨h1, a, c, rfl⟩ | ⟨b, off, c, rfl, _⟩
  · subst h1; simp at hlt
  · simp [Instr.indexAt, run_underlying ht, asIntOf, hlt, run_sizeN hi, Addr.add_lit, SliceIs.at, hz]
theorem load_list {P : Program} {t : TypeId} {i : TypeInfo} {w : World} {b o : Nat} {r : List Value} (hi : P.info? t = some i) (hs : i.size = r.length) (hu : (∃ fs, P.underlying t = some (.struct fs)) ∨ ∃ l e, P.underlying t = some (.array l e)) (hc : ∀ j v, r[j]? = some v → w.cell? ⟨b, o + j, none⟩ = some v) :
    (Instr.loadAt t (.pointer (some ⟨b, o, none⟩))).run P w = .ok (.agg r.toArray) w := by
  have := run_loadCells_list (P := P) w ⟨b, o, none⟩ r (fun j v hj => by rw [Addr.add_lit]; exact hc j v hj)
  rcases hu with ⟨fs, hu⟩ | ⟨l, e, hu⟩ <;> simp [Instr.loadAt, Instr.sureAddr, loadVar, isAgg, run_underlying hu, run_sizeN hi, hs, this]
/-- a struct or an array is loaded whole -/
theorem SliceIs.lodF {W : World} {s : Value} {z : Nat} {rows : List (List Value)} (h : SliceIs W s z rows) {P : Program} {e : TypeId} {inf : TypeInfo} (hi : P.info? e = some inf) (hz : inf.size = z) (hu : (∃ fs, P.underlying e = some (.struct fs)) ∨ ∃ l e', P.underlying e = some (.array l e')) {i : Nat} {r : List Value} (hr : rows[i]? = some r) (w : World) (hb : Below W.heap.size W w) : (Instr.loadAt e (SliceIs.at s z i)).run P w = .ok (.agg r.toArray) w := by
  rcases h.form with ⟨h1, a, c, rfl⟩ | ⟨b, off, c, rfl, h2, h3⟩
  · subst h1; simp at hr
  · obtain ⟨h4, h5⟩ := h3 i r hr
    exact load_list hi (hz.trans h4.symm) hu fun j v hj => cell_below hb h2 (h5 j v hj)
theorem load_one {P : Program} {t : TypeId} {du : TypeDesc} {i : TypeInfo} {w : World} {b o : Nat} {v : Value} (hi : P.info? t = some i) (hu : P.underlying t = some du) (h1 : ∀ fs, du ≠ .struct fs) (h2 : ∀ l e, du ≠ .array l e) (hc : w.cell? ⟨b, o, none⟩ = some v) :
    (Instr.loadAt t (.pointer (some ⟨b, o, none⟩))).run P w = .ok v w := by
  cases du <;> first | exact (h1 _ rfl).elim | exact (h2 _ _ rfl).elim | simp [Instr.loadAt, Instr.sureAddr, loadVar, isAgg, run_underlying hu, load, Sem.run, hc]
/-- one cell of an element is loaded -/
theorem SliceIs.cellF {W : World} {s : Value} {z : Nat} {rows : List (List Value)} (h : SliceIs W s z rows) {P : Program} {t : TypeId} {du : TypeDesc} {inf : TypeInfo} (hi : P.info? t = some inf) (hu : P.underlying t = some du) (h1 : ∀ fs, du ≠ .struct fs) (h2 : ∀ l e, du ≠ .array l e) {i j : Nat} {r : List Value} (hr : rows[i]? = some r) {v : Value} (hj : r[j]? = some v) (w : World) (hb : Below W.heap.size W w) :
    (Instr.loadAt t (match SliceIs.at s z i with | .pointer (some a) => .pointer (some ⟨a.block, a.off + j, none⟩) | x => x)).run P w = .ok v w := by
  rcases h.form with ⟨h1, a, c, rfl⟩ | ⟨b, off, c, rfl, h4, h5⟩
  · subst h1; simp at hr
  · exact load_one hi hu h1 h2 (cell_below hb h4 ((h5 i r hr).2 j v hj))
/-- conversions between kinds of ints -/
theorem cvtF {σ : Nat → Value} {P : Program} {s t : TypeId} {k q : IntKind} {x r : Value} {n : Int} {d : TypeDesc} (hs : P.underlying s = some d) (ht : P.underlying t = some (.int k)) (hx : realV σ x = .int q n) (hr : realV σ r = .int k n) (hw : k.wrap n = n) (w : World) : (convert s t (realV σ x)).run P w = .ok (realV σ r) w := by
  rw [hx, hr]
  simp [convert, run_underlying hs, run_underlying ht, Conv.intToInt, hw]
end Go.Proofs.Ytaneipjpagbmpaa
