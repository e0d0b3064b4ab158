/-
  The arcs of the steps of both times of a train.
-/
import Derived.OwnWalk
import Derived.Test.Ytmojnopgpgnfeaamg5
import Derived.Test.Ytmojnopgpgnfeaamg7
namespace Go.Proofs.Ytmojnopgpgnfeaa
open Go.RowKit Go.Shelf
set_option linter.unusedVariables false
set_option linter.unusedSimpArgs false
attribute [local go_sem] Oper.semAt_some

theorem steps_any (l kd f s c : Int) (b off n cap : Nat) (w : World) :
    Calls Try.prog 110 #[.agg #[.int .i64 l, .int .i64 kd, .int .i64 f, .int .i64 s, .int .i64 c], .slice (some ⟨b, off, none⟩) n cap] w fun e w' => e = .returned (.func (.func 123) #[] #[.pointer (some ⟨w.heap.size + 1, 0, none⟩), .pointer (some ⟨w.heap.size, 0, none⟩)]) ∧ w' = (w.alloc (.cells #[.int .i64 l, .int .i64 kd, .int .i64 f, .int .i64 s, .int .i64 c] 23)).alloc (.cells #[.slice (some ⟨b, off, none⟩) n cap] 54) := by
  go_enter Try.func110, Try.ntmps110
  go_wp2
  go_ret
  exact ⟨rfl, rfl⟩

/-- the steps of one of the times -/
def valsB (pre : List (Bool × Int)) (t : Bool) : List Int := (pre.filter fun x => x.1 == t).map (·.2)
theorem valsB_len (pre : List (Bool × Int)) (t : Bool) : (valsB pre t).length ≤ pre.length := by
  unfold valsB
  rw [List.length_map]
  exact List.length_filter_le _ _
theorem valsB_hit (pre : List (Bool × Int)) (st : Int) (t : Bool) : valsB (pre ++ [(t, st)]) t = valsB pre t ++ [st] := by simp [valsB]
theorem valsB_miss (pre : List (Bool × Int)) (st : Int) {t u : Bool} (h : t ≠ u) : valsB (pre ++ [(t, st)]) u = valsB pre u := by
  have : (t == u) = false := by simpa using h
  simp [valsB, this]

/-- the box of both lists -/
structure NumAt (W : World) (B : Nat) (v0 v1 : Value) : Prop where
  h : W.heap[B]? = some (.cells #[v0, v1] 117 (0, 0))
theorem NumAt.cell0 {W : World} {B : Nat} {v0 v1 : Value} (h : NumAt W B v0 v1) : W.cell? ⟨B, 0, none⟩ = some v0 := by simp [World.cell?, h.h]
theorem NumAt.cell1 {W : World} {B : Nat} {v0 v1 : Value} (h : NumAt W B v0 v1) : W.cell? ⟨B, 1, none⟩ = some v1 := by simp [World.cell?, h.h]
theorem NumAt.froz0 {W : World} {B : Nat} {v0 v1 : Value} (h : NumAt W B v0 v1) : W.frozen? ⟨B, 0, none⟩ = false := by simp [World.frozen?, h.h]
theorem NumAt.froz1 {W : World} {B : Nat} {v0 v1 : Value} (h : NumAt W B v0 v1) : W.frozen? ⟨B, 1, none⟩ = false := by simp [World.frozen?, h.h]

theorem NumAt.set0 {W : World} {B : Nat} {v0 v1 : Value} (h : NumAt W B v0 v1) (x : Value) : NumAt (W.setCell ⟨B, 0, none⟩ x) B x v1 := by
  have hB : B < W.heap.size := (Array.getElem?_eq_some_iff.1 h.h).1
  refine ⟨?_⟩
  have := h.h
  simp [World.setCell, Array.getElem?_modify, this]
theorem NumAt.set1 {W : World} {B : Nat} {v0 v1 : Value} (h : NumAt W B v0 v1) (x : Value) : NumAt (W.setCell ⟨B, 1, none⟩ x) B v0 x := by
  have hB : B < W.heap.size := (Array.getElem?_eq_some_iff.1 h.h).1
  refine ⟨?_⟩
  have := h.h
  simp [World.setCell, Array.getElem?_modify, this]
/-- two slices lie in different blocks -/
def Apart (v u : Value) : Prop := ∀ k, v.ownBlock = some k → u.ownBlock ≠ some k
theorem Apart.symm {v u : Value} (h : Apart v u) : Apart u v := fun k h1 h2 => h k h2 h1
theorem row_set {W : World} {n0 B i m : Nat} {v x : Value} {xs : List Value} (hB : B < n0) (h : W.ownsRow n0 3 1 v m xs) : (W.setCell ⟨B, i, none⟩ x).ownsRow n0 3 1 v m xs := by
  refine ⟨h.1, ?_⟩
  rcases h.2 with hn | ⟨g, cap, cur, rfl, hb, hgg, rest⟩
  · exact .inl hn
  · refine .inr ⟨g, cap, cur, rfl, hb, ?_, rest⟩
    rw [Below.heap_setCell _ _ _ _ (by dsimp only; omega)]; exact hgg
theorem pair_grown {W w1 : World} {n0 k m j : Nat} {v u v' : Value} {xs us ys : List Value} {tmp : Obj} (hrow : W.ownsRow n0 3 1 v k xs) (hoth : W.ownsRow n0 3 1 u j us) (hd : Apart u v) (hn : n0 ≤ W.heap.size) (hgrow : (W.alloc tmp).grownBy w1 v.ownBlock) (hown : w1.ownsRow n0 3 1 v' m ys) (hat : v'.ownBlock = v.ownBlock ∨ v'.ownBlock = some (W.alloc tmp).heap.size) :
    w1.ownsRow n0 3 1 u j us ∧ Apart u v' ∧ KeepsOthers W w1 ∧ Below n0 W w1 := by
  refine ⟨(hoth.alloc tmp).kept hgrow ?_, ?_, (KeepsOthers.alloc W tmp).trans (KeepsOthers.of_grownBy hgrow fun j o ej hj => ?_), ((Below.refl n0 W).alloc hn tmp).grown hgrow (by simp; omega) fun j ej => (hrow.lt j ej).1⟩
  · cases hu : u.ownBlock with
    | none => exact .inl rfl
    | some q => exact .inr fun e => hd q hu e.symm
  · intro q hq e
    rcases hat with h | h
    · exact hd q hq (h ▸ e)
    · rw [h] at e
      have h1 : (W.alloc tmp).heap.size = q := by injection e
      have h2 := (hoth.lt q hq).2
      rw [World.size_alloc] at h1
      omega
  · rcases (hrow.alloc tmp).2 with ⟨rfl, _⟩ | ⟨g, cap, cur, rfl, _, hgb, _⟩
    · simp [Value.ownBlock] at ej
    · obtain rfl : g = j := by simpa [Value.ownBlock] using ej
      rw [hgb] at hj; cases hj; rfl

/-- what lies in memory between two steps -/
structure StI (w W : World) (pre : List (Bool × Int)) : Prop where
  v : ∃ v0 v1, NumAt W (w.heap.size + 1 + 1 + 1) v0 v1 ∧ W.ownsRow (w.heap.size + 6) 3 1 v0 (valsB pre false).length ((valsB pre false).map (Value.int .i64)) ∧ W.ownsRow (w.heap.size + 6) 3 1 v1 (valsB pre true).length ((valsB pre true).map (Value.int .i64)) ∧ (v0 = .slice none 0 0 ↔ valsB pre false = []) ∧ (v1 = .slice none 0 0 ↔ valsB pre true = []) ∧ Apart v0 v1
  a4 : ArcAt W (w.heap.size + 1) (.slice none 0 0) 0 0
  a5 : ArcAt W (w.heap.size + 1 + 1) (.slice none 0 0) 0 0
  z : w.heap.size + 6 ≤ W.heap.size
  b : Below w.heap.size w W
theorem not_row {A : World} {row : Option Nat} {k : Nat} {cur : Array Value} {e : TypeId} {fr : Nat × Nat} (hr : ∀ r, row = some r → ∃ o : Obj, A.heap[r]? = some o ∧ o.isCells = false) (h : A.heap[k]? = some (.cells cur e fr)) : some k ≠ row := fun e' => by
  obtain ⟨o, ho, hc⟩ := hr k e'.symm
  rw [h] at ho; cases ho; cases hc
theorem row_kept {A A' : World} {row : Option Nat} {n0 m : Nat} {v : Value} {xs : List Value} (h : A.ownsRow n0 3 1 v m xs) (hg : A.grownBy A' row) (hr : ∀ r, row = some r → ∃ o : Obj, A.heap[r]? = some o ∧ o.isCells = false) : A'.ownsRow n0 3 1 v m xs := by
  refine h.kept hg ?_
  rcases h.2 with ⟨rfl, _⟩ | ⟨g, cap, cur, rfl, _, hgb, _⟩
  · exact .inl rfl
  · exact .inr (not_row hr hgb)
theorem StI.own {w : World} {B : Nat} (hB : w.heap.size ≤ B) : OwnFrom B (fun (pre : List (Bool × Int)) W => StI w W pre) := by
  intro pre A A' row hs hg hr
  have hr2 : ∀ r, row = some r → ∃ o : Obj, A.heap[r]? = some o ∧ o.isCells = false := fun r e => (hr r e).2
  obtain ⟨⟨v0, v1, hn, h0, h1, n0, n1, hd⟩, ⟨c0, c1, c2, f0, f1, f2⟩, ⟨d0, d1, d2, g0, g1, g2⟩, hz, hb⟩ := hs
  refine ⟨⟨v0, v1, ⟨(hg.block _ (Array.getElem?_eq_some_iff.1 hn.h).1 (not_row hr2 hn.h)).trans hn.h⟩, row_kept h0 hg hr2, row_kept h1 hg hr2, n0, n1, hd⟩, ?_, ?_, Nat.le_trans hz hg.size, hb.grown hg hb.size (fun k e => Nat.le_trans hB (hr k e).1)⟩
  · exact ⟨cell_kept c0 hg hr2, cell_kept c1 hg hr2, cell_kept c2 hg hr2, (frozen_kept c0 hg hr2).trans f0, (frozen_kept c1 hg hr2).trans f1, (frozen_kept c2 hg hr2).trans f2⟩
  · exact ⟨cell_kept d0 hg hr2, cell_kept d1 hg hr2, cell_kept d2 hg hr2, (frozen_kept d0 hg hr2).trans g0, (frozen_kept d1 hg hr2).trans g1, (frozen_kept d2 hg hr2).trans g2⟩

theorem StI.step0 {w W w1 : World} {pre : List (Bool × Int)} {st : Int} {v0 v1 v' : Value} {tmp : Obj} {b : Nat} (hI : StI w W pre) (hnum : NumAt W (w.heap.size + 1 + 1 + 1) v0 v1) (h0 : W.ownsRow (w.heap.size + 6) 3 1 v0 (valsB pre false).length ((valsB pre false).map (Value.int .i64))) (h1 : W.ownsRow (w.heap.size + 6) 3 1 v1 (valsB pre true).length ((valsB pre true).map (Value.int .i64)))
    (n0 : v0 = .slice none 0 0 ↔ valsB pre false = []) (n1 : v1 = .slice none 0 0 ↔ valsB pre true = []) (hd : Apart v0 v1) (hgrow : (W.alloc tmp).grownBy w1 v0.ownBlock) (hown : w1.ownsRow (w.heap.size + 6) 3 1 v' ((valsB pre false).length + 1) ((valsB pre false).map (Value.int .i64) ++ [.int .i64 st])) (hat : v'.ownBlock = v0.ownBlock ∨ v'.ownBlock = some (W.alloc tmp).heap.size) (hb : b < w.heap.size) (hnl : v' = .slice none 0 0 ↔ v0 = .slice none 0 0 ∧ 1 = 0) :
    NumAt w1 (w.heap.size + 1 + 1 + 1) v0 v1 ∧ KeepsOthers W (w1.setCell ⟨w.heap.size + 1 + 1 + 1, 0, none⟩ v') ∧ KeepS (w.heap.size + 1 + 1 + 1 + 1) b W (w1.setCell ⟨w.heap.size + 1 + 1 + 1, 0, none⟩ v') ∧ StI w (w1.setCell ⟨w.heap.size + 1 + 1 + 1, 0, none⟩ v') (pre ++ [(false, st)]) := by
  have hz := hI.z
  obtain ⟨g1, g2, g3, g4⟩ := pair_grown h0 h1 hd.symm hz hgrow hown hat
  have hnum1 : NumAt w1 (w.heap.size + 1 + 1 + 1) v0 v1 := ⟨(g4.block _ (by omega)).trans hnum.h⟩
  have e1 : valsB (pre ++ [(false, st)]) false = valsB pre false ++ [st] := valsB_hit pre st false
  have e2 : valsB (pre ++ [(false, st)]) true = valsB pre true := valsB_miss pre st (by decide)
  have hown' : w1.ownsRow (w.heap.size + 6) 3 1 v' (valsB (pre ++ [(false, st)]) false).length ((valsB (pre ++ [(false, st)]) false).map (Value.int .i64)) := by rw [e1]; simpa using hown
  have hr2 : w1.ownsRow (w.heap.size + 6) 3 1 v1 (valsB (pre ++ [(false, st)]) true).length ((valsB (pre ++ [(false, st)]) true).map (Value.int .i64)) := by rw [e2]; exact g1
  have hnn : v' = .slice none 0 0 ↔ valsB (pre ++ [(false, st)]) false = [] := by rw [e1, hnl]; simp
  have hno : v1 = .slice none 0 0 ↔ valsB (pre ++ [(false, st)]) true = [] := by rw [e2]; exact n1
  have hn2 := hnum1.set0 v'
  have hd2 : Apart v' v1 := g2.symm
  have b1 : Below (w.heap.size + 1 + 1 + 1) W w1 := g4.mono (by omega)
  have b2 : Below (w.heap.size + 1 + 1 + 1) W (w1.setCell ⟨w.heap.size + 1 + 1 + 1, 0, none⟩ v') := b1.setCell (p := ⟨w.heap.size + 1 + 1 + 1, 0, none⟩) (Nat.le_refl _) v'
  refine ⟨hnum1, g3.trans (KeepsOthers.setCell _ _ _), fun k hk => ?_, ⟨v', v1, hn2, row_set (by omega) hown', row_set (by omega) hr2, hnn, hno, hd2⟩, hI.a4.keep b2 (by omega), hI.a5.keep b2 (by omega), Nat.le_trans hz b2.size, hI.b.trans (b2.mono (by omega))⟩
  rw [Below.heap_setCell _ _ _ k (show k ≠ w.heap.size + 1 + 1 + 1 by omega)]
  exact g4.block k (by omega)

theorem StI.step1 {w W w1 : World} {pre : List (Bool × Int)} {st : Int} {v0 v1 v' : Value} {tmp : Obj} {b : Nat} (hI : StI w W pre) (hnum : NumAt W (w.heap.size + 1 + 1 + 1) v0 v1) (h0 : W.ownsRow (w.heap.size + 6) 3 1 v0 (valsB pre false).length ((valsB pre false).map (Value.int .i64))) (h1 : W.ownsRow (w.heap.size + 6) 3 1 v1 (valsB pre true).length ((valsB pre true).map (Value.int .i64)))
    (n0 : v0 = .slice none 0 0 ↔ valsB pre false = []) (n1 : v1 = .slice none 0 0 ↔ valsB pre true = []) (hd : Apart v0 v1) (hgrow : (W.alloc tmp).grownBy w1 v1.ownBlock) (hown : w1.ownsRow (w.heap.size + 6) 3 1 v' ((valsB pre true).length + 1) ((valsB pre true).map (Value.int .i64) ++ [.int .i64 st])) (hat : v'.ownBlock = v1.ownBlock ∨ v'.ownBlock = some (W.alloc tmp).heap.size) (hb : b < w.heap.size) (hnl : v' = .slice none 0 0 ↔ v1 = .slice none 0 0 ∧ 1 = 0) :
    NumAt w1 (w.heap.size + 1 + 1 + 1) v0 v1 ∧ KeepsOthers W (w1.setCell ⟨w.heap.size + 1 + 1 + 1, 1, none⟩ v') ∧ KeepS (w.heap.size + 1 + 1 + 1 + 1) b W (w1.setCell ⟨w.heap.size + 1 + 1 + 1, 1, none⟩ v') ∧ StI w (w1.setCell ⟨w.heap.size + 1 + 1 + 1, 1, none⟩ v') (pre ++ [(true, st)]) := by
  have hz := hI.z
  obtain ⟨g1, g2, g3, g4⟩ := pair_grown h1 h0 hd hz hgrow hown hat
  have hnum1 : NumAt w1 (w.heap.size + 1 + 1 + 1) v0 v1 := ⟨(g4.block _ (by omega)).trans hnum.h⟩
  have e1 : valsB (pre ++ [(true, st)]) true = valsB pre true ++ [st] := valsB_hit pre st true
  have e2 : valsB (pre ++ [(true, st)]) false = valsB pre false := valsB_miss pre st (by decide)
  have hown' : w1.ownsRow (w.heap.size + 6) 3 1 v' (valsB (pre ++ [(true, st)]) true).length ((valsB (pre ++ [(true, st)]) true).map (Value.int .i64)) := by rw [e1]; simpa using hown
  have hr2 : w1.ownsRow (w.heap.size + 6) 3 1 v0 (valsB (pre ++ [(true, st)]) false).length ((valsB (pre ++ [(true, st)]) false).map (Value.int .i64)) := by rw [e2]; exact g1
  have hnn : v' = .slice none 0 0 ↔ valsB (pre ++ [(true, st)]) true = [] := by rw [e1, hnl]; simp
  have hno : v0 = .slice none 0 0 ↔ valsB (pre ++ [(true, st)]) false = [] := by rw [e2]; exact n0
  have hn2 := hnum1.set1 v'
  have hd2 : Apart v0 v' := g2
  have b1 : Below (w.heap.size + 1 + 1 + 1) W w1 := g4.mono (by omega)
  have b2 : Below (w.heap.size + 1 + 1 + 1) W (w1.setCell ⟨w.heap.size + 1 + 1 + 1, 1, none⟩ v') := b1.setCell (p := ⟨w.heap.size + 1 + 1 + 1, 1, none⟩) (Nat.le_refl _) v'
  refine ⟨hnum1, g3.trans (KeepsOthers.setCell _ _ _), fun k hk => ?_, ⟨v0, v', hn2, row_set (by omega) hr2, row_set (by omega) hown', hno, hnn, hd2⟩, hI.a4.keep b2 (by omega), hI.a5.keep b2 (by omega), Nat.le_trans hz b2.size, hI.b.trans (b2.mono (by omega))⟩
  rw [Below.heap_setCell _ _ _ k (show k ≠ w.heap.size + 1 + 1 + 1 by omega)]
  exact g4.block k (by omega)

/-- the boxes of stepsOf where its loop begins -/
theorem StI.new (l kd f s c : Int) (b off n cap : Nat) (w : World) : ∃ W, W = ((((((w.alloc (.cells #[.int .i64 l, .int .i64 kd, .int .i64 f, .int .i64 s, .int .i64 c] 23)).alloc (.cells #[.slice none 0 0, .int .i64 0, .int .i64 0] 107)).alloc (.cells #[.slice none 0 0, .int .i64 0, .int .i64 0] 107)).alloc (.cells #[.slice none 0 0, .slice none 0 0] 117)).alloc (.cells #[.int .i64 l, .int .i64 kd, .int .i64 f, .int .i64 s, .int .i64 c] 23)).alloc (.cells #[.slice (some ⟨b, off, none⟩) n cap] 54)) ∧ StI w W [] ∧ W.heap.size = w.heap.size + 6 ∧ W.cell? ⟨w.heap.size + 1 + 1 + 1 + 1, 0, none⟩ = some (.int .i64 l) ∧ W.cell? ⟨w.heap.size + 1 + 1 + 1 + 1, 1, none⟩ = some (.int .i64 kd) ∧ W.cell? ⟨w.heap.size + 1 + 1 + 1 + 1, 2, none⟩ = some (.int .i64 f) ∧ W.cell? ⟨w.heap.size + 1 + 1 + 1 + 1, 3, none⟩ = some (.int .i64 s) ∧ W.cell? ⟨w.heap.size + 1 + 1 + 1 + 1, 4, none⟩ = some (.int .i64 c) ∧ W.cell? ⟨w.heap.size + 1 + 1 + 1 + 1 + 1, 0, none⟩ = some (.slice (some ⟨b, off, none⟩) n cap) := by
  refine ⟨_, rfl, ?_⟩
  obtain ⟨A1, e1⟩ : ∃ A, A = w.alloc (.cells #[.int .i64 l, .int .i64 kd, .int .i64 f, .int .i64 s, .int .i64 c] 23) := ⟨_, rfl⟩
  obtain ⟨A2, e2⟩ : ∃ A, A = A1.alloc (.cells #[.slice none 0 0, .int .i64 0, .int .i64 0] 107) := ⟨_, rfl⟩
  obtain ⟨A3, e3⟩ : ∃ A, A = A2.alloc (.cells #[.slice none 0 0, .int .i64 0, .int .i64 0] 107) := ⟨_, rfl⟩
  obtain ⟨A4, e4⟩ : ∃ A, A = A3.alloc (.cells #[.slice none 0 0, .slice none 0 0] 117) := ⟨_, rfl⟩
  obtain ⟨A5, e5⟩ : ∃ A, A = A4.alloc (.cells #[.int .i64 l, .int .i64 kd, .int .i64 f, .int .i64 s, .int .i64 c] 23) := ⟨_, rfl⟩
  obtain ⟨A6, e6⟩ : ∃ A, A = A5.alloc (.cells #[.slice (some ⟨b, off, none⟩) n cap] 54) := ⟨_, rfl⟩
  have s1 : A1.heap.size = w.heap.size + 1 := by rw [e1]; exact World.size_alloc _ _
  have s2 : A2.heap.size = w.heap.size + 1 + 1 := by rw [e2, World.size_alloc, s1]
  have s3 : A3.heap.size = w.heap.size + 1 + 1 + 1 := by rw [e3, World.size_alloc, s2]
  have s4 : A4.heap.size = w.heap.size + 1 + 1 + 1 + 1 := by rw [e4, World.size_alloc, s3]
  have s5 : A5.heap.size = w.heap.size + 1 + 1 + 1 + 1 + 1 := by rw [e5, World.size_alloc, s4]
  have s6 : A6.heap.size = w.heap.size + 6 := by rw [e6, World.size_alloc, s5]
  rw [← e1, ← e2, ← e3, ← e4, ← e5, ← e6]
  have b1 : Below w.heap.size w A1 := by rw [e1]; exact below_alloc _ _
  have b2 : Below A1.heap.size A1 A2 := by rw [e2]; exact below_alloc _ _
  have b3 : Below A2.heap.size A2 A3 := by rw [e3]; exact below_alloc _ _
  have b4 : Below A3.heap.size A3 A4 := by rw [e4]; exact below_alloc _ _
  have b5 : Below A4.heap.size A4 A5 := by rw [e5]; exact below_alloc _ _
  have b6 : Below A5.heap.size A5 A6 := by rw [e6]; exact below_alloc _ _
  have c46 : Below A4.heap.size A4 A6 := b5.trans (b6.mono (by omega))
  have c36 : Below A3.heap.size A3 A6 := b4.trans (c46.mono (by omega))
  have c26 : Below A2.heap.size A2 A6 := b3.trans (c36.mono (by omega))
  have c16 : Below A1.heap.size A1 A6 := b2.trans (c26.mono (by omega))
  refine ⟨⟨⟨_, _, ⟨?_⟩, World.ownsRow_nil _ _ _ _, World.ownsRow_nil _ _ _ _, by simp [valsB], by simp [valsB], fun k h => by simp [Value.ownBlock] at h⟩, ?_, ?_, by omega, b1.trans (c16.mono (by omega))⟩, s6, ?_, ?_, ?_, ?_, ?_, ?_⟩
  · rw [c46.block _ (by omega), e4, ← s3]; exact World.alloc_heap_new _ _
  · exact ArcAt.keep (by rw [e2, ← s1]; exact ArcAt.new _ _ _ _ _) c26 (by omega)
  · exact ArcAt.keep (by rw [e3, ← s2]; exact ArcAt.new _ _ _ _ _) c36 (by omega)
  · exact keepB b6 (by omega) (by rw [e5, ← s4]; exact alloc_new rfl rfl)
  · exact keepB b6 (by omega) (by rw [e5, ← s4]; exact alloc_new rfl rfl)
  · exact keepB b6 (by omega) (by rw [e5, ← s4]; exact alloc_new rfl rfl)
  · exact keepB b6 (by omega) (by rw [e5, ← s4]; exact alloc_new rfl rfl)
  · exact keepB b6 (by omega) (by rw [e5, ← s4]; exact alloc_new rfl rfl)
  · rw [e6, ← s5]; exact alloc_new rfl rfl
theorem row_ints {W : World} {n0 m : Nat} {v : Value} {xs : List Int} (h : W.ownsRow n0 3 1 v m (xs.map (Value.int .i64))) : IntsL W v xs := by
  have hl : xs.length = m := by simpa using h.1
  rcases h.2 with ⟨rfl, hm⟩ | ⟨g, cap, cur, rfl, _, hgb, _, _, _, _⟩
  · exact .inl ⟨rfl, List.eq_nil_of_length_eq_zero (by omega)⟩
  · refine .inr ⟨g, 0, cap, by rw [hl], (Array.getElem?_eq_some_iff.1 hgb).1, fun j hj => ?_⟩
    have := h.cells (g := g) rfl j (.int .i64 (xs[j]?.getD 0)) (by simp [hj])
    rcases Nat.eq_zero_or_pos j with e | e
    · subst e; simpa [Addr.add] using this
    · simpa [Addr.add, show j ≠ 0 by omega] using this
theorem arcOf_any (v : Value) (xs : List Int) (w : World) (hI : IntsL w v xs) (hl : xs.length ≤ 1000000) (hp : ∀ x, x ∈ xs → 0 ≤ x ∧ x < 65536) :
    Calls Try.prog 59 #[v] w fun e w' => e = .returned (.agg #[v, .int .i64 (arcB xs), .int .i64 (arcW xs)]) ∧ Below w.heap.size w w' := by
  by_cases hne : xs = []
  · subst hne
    obtain ⟨a, cap, rfl⟩ := hI.slice
    exact arcOf_none a 0 cap w rfl hI
  · rcases hI with ⟨_, h⟩ | ⟨g, off, cap, rfl, hg, hc⟩
    · exact absurd h hne
    · exact arcOf_some g off xs.length cap xs w rfl hl hne hp (.inr ⟨g, off, cap, rfl, hg, hc⟩)
/-- the ints of a slice in a block from n0 on -/
def RowL (n0 : Nat) (w : World) (v : Value) (xs : List Int) : Prop := (v = .slice none 0 0 ∧ xs = []) ∨ ∃ b off cap, v = .slice (some ⟨b, off, none⟩) xs.length cap ∧ n0 ≤ b ∧ ∀ j, j < xs.length + 1 → (j < xs.length → w.cell? ⟨b, off + j, none⟩ = some (.int .i64 (xs[j]?.getD 0))) ∧ b < w.heap.size
theorem RowL.ints {n0 : Nat} {w : World} {v : Value} {xs : List Int} (h : RowL n0 w v xs) : IntsL w v xs := by
  rcases h with h | ⟨b, off, cap, h1, h2, h3⟩
  · exact .inl h
  · exact .inr ⟨b, off, cap, h1, (h3 0 (by omega)).2, fun j hj => (h3 j (by omega)).1 hj⟩
theorem RowL.of {W : World} {n0 m : Nat} {v : Value} {xs : List Int} (h : W.ownsRow n0 3 1 v m (xs.map (Value.int .i64))) : RowL n0 W v xs := by
  rcases row_ints h with h1 | ⟨b, off, cap, h1, h2, h3⟩
  · exact .inl h1
  · exact .inr ⟨b, off, cap, h1, (h.lt b (by rw [h1]; rfl)).1, fun j hj => ⟨fun hj2 => h3 j hj2, h2⟩⟩
theorem RowL.mono {n0 n1 : Nat} {w : World} {v : Value} {xs : List Int} (h : RowL n0 w v xs) (hn : n1 ≤ n0) : RowL n1 w v xs := by
  rcases h with h | ⟨b, off, cap, h1, h2, h3⟩
  · exact .inl h
  · exact .inr ⟨b, off, cap, h1, Nat.le_trans hn h2, h3⟩
theorem RowL.keep {n0 : Nat} {w w' : World} {v : Value} {xs : List Int} (h : RowL n0 w v xs) (hb : Below w.heap.size w w') : RowL n0 w' v xs := by
  rcases h with h | ⟨b, off, cap, h1, h2, h3⟩
  · exact .inl h
  · exact .inr ⟨b, off, cap, h1, h2, fun j hj => ⟨fun hj2 => keepB hb (h3 j hj).2 ((h3 j hj).1 hj2), Nat.lt_of_lt_of_le (h3 j hj).2 hb.size⟩⟩
theorem RowL.set {n0 B i : Nat} {w : World} {v x : Value} {xs : List Int} (h : RowL n0 w v xs) (hB : B < n0) : RowL n0 (w.setCell ⟨B, i, none⟩ x) v xs := by
  rcases h with h | ⟨b, off, cap, h1, h2, h3⟩
  · exact .inl h
  · exact .inr ⟨b, off, cap, h1, h2, fun j hj => ⟨fun hj2 => cell_far (by omega) ((h3 j hj).1 hj2), by simpa using (h3 j hj).2⟩⟩
theorem RowL.put {n0 D : Nat} {w : World} {v : Value} {xs : List Int} {o o' : Obj} (h : RowL n0 w v xs) (hD : w.heap[D]? = some o) (ho : o.isCells = false) : RowL n0 (w.putObj D o') v xs := by
  rcases h with h | ⟨b, off, cap, h1, h2, h3⟩
  · exact .inl h
  · exact .inr ⟨b, off, cap, h1, h2, fun j hj => ⟨fun hj2 => cell_kept ((h3 j hj).1 hj2) (grownBy_putObj' _ D o') (fun r e => by cases e; exact ⟨_, hD, ho⟩), Nat.lt_of_lt_of_le (h3 j hj).2 (grownBy_putObj' w D o').size⟩⟩
theorem ArcAt.set3 {B : Nat} {W : World} {v v2 : Value} {b x b2 x2 : Int} (s : ArcAt W B v b x) : ArcAt (((W.setCell ⟨B, 0, none⟩ v2).setCell ⟨B, 1, none⟩ (.int .i64 b2)).setCell ⟨B, 2, none⟩ (.int .i64 x2)) B v2 b2 x2 :=
  ⟨set_other (by decide) (set_other (by decide) (set_same s.c0)), set_other (by decide) (set_same (set_other (by decide) s.c1)), set_same (set_other (by decide) (set_other (by decide) s.c2)), frz (frz (frz s.f0)), frz (frz (frz s.f1)), frz (frz (frz s.f2))⟩
theorem ArcAt.far3 {B C : Nat} {W : World} {v u0 u1 u2 : Value} {b x : Int} (s : ArcAt W B v b x) (h : C ≠ B) : ArcAt (((W.setCell ⟨C, 0, none⟩ u0).setCell ⟨C, 1, none⟩ u1).setCell ⟨C, 2, none⟩ u2) B v b x :=
  ⟨cell_far h (cell_far h (cell_far h s.c0)), cell_far h (cell_far h (cell_far h s.c1)), cell_far h (cell_far h (cell_far h s.c2)), frz (frz (frz s.f0)), frz (frz (frz s.f1)), frz (frz (frz s.f2))⟩
theorem valsB_part {zs : Nat → Smp} {kd c : Int} {t : Bool} : ∀ (i : Nat), ∀ x, x ∈ valsB (stpTo zs kd c i) t → 0 ≤ x ∧ x < 65536
  | 0, x, h => by simp [stpTo, valsB] at h
  | i + 1, x, h => by
    unfold valsB at h
    rw [stpTo, List.filter_append, List.map_append, List.mem_append] at h
    rcases h with h | h
    · exact valsB_part i x h
    · unfold stp at h
      split at h
      · simp at h
      · simp only [List.filter_cons, List.filter_nil] at h
        split at h
        · simp at h; omega
        · simp at h

set_option maxRecDepth 100000 in
set_option maxHeartbeats 8000000 in
theorem stepsOf_any (l kd f s c : Int) (b off n cap : Nat) (zs : Nat → Smp) (w : World) (hn : 1 ≤ n) (hn2 : n ≤ 64) (hc : kd = 2 → 4 ≤ c ∧ c ≤ 64 ∧ c % 2 = 0) (hcn : (n : Int) = c) (hzs : ∀ i, i < n → 0 ≤ (zs i).p ∧ (zs i).p < 65536) (hS : SmpsAt w b off n zs) (hb : b < w.heap.size) :
    Calls Try.prog 102 #[.agg #[.int .i64 l, .int .i64 kd, .int .i64 f, .int .i64 s, .int .i64 c], .slice (some ⟨b, off, none⟩) n cap] w fun e w' => ∃ v0 v1, e = .returned (.tuple #[.agg #[v0, .int .i64 (arcB (valsB (stpTo zs kd c (n - 1)) false)), .int .i64 (arcW (valsB (stpTo zs kd c (n - 1)) false))], .agg #[v1, .int .i64 (arcB (valsB (stpTo zs kd c (n - 1)) true)), .int .i64 (arcW (valsB (stpTo zs kd c (n - 1)) true))]]) ∧ RowL w.heap.size w' v0 (valsB (stpTo zs kd c (n - 1)) false) ∧ RowL w.heap.size w' v1 (valsB (stpTo zs kd c (n - 1)) true) ∧ Below w.heap.size w w' := by
  obtain ⟨x0, hx0⟩ : ∃ x, x = valsB (stpTo zs kd c (n - 1)) false := ⟨_, rfl⟩
  obtain ⟨x1, hx1⟩ : ∃ x, x = valsB (stpTo zs kd c (n - 1)) true := ⟨_, rfl⟩
  rw [← hx0, ← hx1]
  have HX := Lib.hid (And.intro hx0 hx1)
  clear hx0 hx1
  refine (callsIn_wide (n := 4)).1 ?_
  refine callsIn_of_wp_marks Try.func102 rfl trivial ?_ rfl
  simp only [Try.ntmps102, List.size_toArray, List.length_cons, List.length_nil, Nat.reduceAdd, Nat.reduceSub, Array.replicate_succ, Array.replicate_zero, List.push_toArray, List.append_toArray, List.nil_append, List.cons_append]
  gi_wp2_with (refine ⟨trivial, ?_⟩; gi_at_call 110; refine (callsIn_wide.2 (steps_any l kd f s c b off n cap _)).mono ?_; rintro e w1 ⟨rfl, rfl⟩)
  obtain ⟨W6, hW6, hI0, hz6, t0, t1, t2, t3, t4, t5⟩ := StI.new l kd f s c b off n cap w
  rw [← hW6]
  clear hW6
  obtain ⟨i0, hi, hz0, hz1, hz2⟩ := info_parts info3
  have hSl := hS.keep hI0.b hb
  have hb6 : b < W6.heap.size := by omega
  refine wpIn_rangeFunc_ownG rfl (by omega) (gf := 123) (lb := #[.pointer (some ⟨w.heap.size + 1 + 1 + 1 + 1 + 1, 0, none⟩), .pointer (some ⟨w.heap.size + 1 + 1 + 1 + 1, 0, none⟩)]) rfl trivial (enters_of Try.func123 (by kernel_rfl) rfl)
    (w0 := W6) (S := fun ys => ys = stpTo zs kd c (n - 1)) (Sp := fun _ => True) (N := 64) (Kp := KeepS (w.heap.size + 1 + 1 + 1 + 1) b) (encs := fun x1 : Bool × Int => #[.int .i64 (bI x1.1), .int .i64 x1.2])
    (fun ly J Jx W hW hJ hJx hY h0 => steps1_in l kd f s c b off n cap zs (4 - 1) (by omega) hn hn2 hc hcn hzs ly (w.heap.size + 1 + 1 + 1 + 1) J Jx W hJ hY (by have := hW.size; omega) (by have := hW.size; omega) (keepB hW (by omega) t0) (keepB hW (by omega) t1) (keepB hW (by omega) t2) (keepB hW (by omega) t3) (keepB hW (by omega) t4) (keepB hW (by omega) t5) (hSl.keep hW (by omega)) h0)
    KeepS.trans (fun W l o o' hl ho _ _ => fun k h1 => (grownBy_putObj' W l o').block k (by have := (Array.getElem?_eq_some_iff.1 ho).1; omega) (fun e => by injection e; omega)) (Below.refl _ _) (fun _ => rfl)
    (fun pre W => StI w W pre) (fun _ _ _ => False) (StI.own (by omega)) (fun _ _ _ _ _ hs _ _ => hs) hI0
    (fun x1 => { tmps := #[.agg #[.int .i64 l, .int .i64 kd, .int .i64 f, .int .i64 s, .int .i64 c], .slice (some ⟨b, off, none⟩) n cap, .pointer (some ⟨w.heap.size, 0, none⟩), undef, .pointer (some ⟨w.heap.size + 1, 0, none⟩), .pointer (some ⟨w.heap.size + 1 + 1, 0, none⟩), .pointer (some ⟨w.heap.size + 1 + 1 + 1, 0, none⟩), .int .i64 (bI x1.1), .int .i64 x1.2, .agg #[.int .i64 l, .int .i64 kd, .int .i64 f, .int .i64 s, .int .i64 c], .slice (some ⟨b, off, none⟩) n cap, .func (.func 123) #[] #[.pointer (some ⟨w.heap.size + 1 + 1 + 1 + 1 + 1, 0, none⟩), .pointer (some ⟨w.heap.size + 1 + 1 + 1 + 1, 0, none⟩)], .int .i64 (bI x1.1), .int .i64 x1.2, undef, undef, undef, undef, undef, undef, undef, undef, undef, undef, undef, undef, undef, undef], defers := [] }) ?assign ?body ?done ?stop
  case assign =>
    intro l x W K hK
    gi_wp2
    exact hK
  case body =>
    rintro l pre ⟨t, st⟩ W hI hlt
    obtain ⟨v0, v1, hnum, h0, h1, n0, n1, hdis⟩ := hI.v
    cases t
    · simp only [show bI ((false, st) : Bool × Int).1 = 0 from rfl]
      have hcn := hnum.cell0
      have hlen := valsB_len pre false
      have hmaxl : maxLen = 9223372036854775807 := rfl
      have hz6 := hI.z
      gi_wp2_with (gi_at_builtin; refine wpListIn_append_own_at _ rfl _ _ 50 rfl (w.heap.size + 6) 3 i0 (.int .i64 0) 1 8 Try.underlying50 hi hz0 hz1 hz2 rfl (by decide) _ _ _ rfl (h0.alloc _) ⟨W.heap.size, 0, none⟩ 1 1 [.int .i64 st] rfl rfl (cell_one_new _ _ _) (by simp [Value.oneCell']) (by omega) (by omega) (by simp; omega) ?_; intro v' w1 hown' hgrow hnl hat; have HG := hI.step0 hnum h0 h1 n0 n1 hdis hgrow hown' hat hb hnl; obtain ⟨hnum1, HG⟩ := HG; obtain ⟨g', cap', rfl⟩ := ownsRow_succ hown'; have hcn1 := hnum1.cell0; have hfn1 := hnum1.froz0)
      exact ⟨HG.1.from _, HG.2.1, HG.2.2⟩
    · simp only [show bI ((true, st) : Bool × Int).1 = 1 from rfl]
      have hcn := hnum.cell1
      have hlen := valsB_len pre true
      have hmaxl : maxLen = 9223372036854775807 := rfl
      have hz6 := hI.z
      gi_wp2_with (gi_at_builtin; refine wpListIn_append_own_at _ rfl _ _ 50 rfl (w.heap.size + 6) 3 i0 (.int .i64 0) 1 8 Try.underlying50 hi hz0 hz1 hz2 rfl (by decide) _ _ _ rfl (h1.alloc _) ⟨W.heap.size, 0, none⟩ 1 1 [.int .i64 st] rfl rfl (cell_one_new _ _ _) (by simp [Value.oneCell']) (by omega) (by omega) (by simp; omega) ?_; intro v' w1 hown' hgrow hnl hat; have HG := hI.step1 hnum h0 h1 n0 n1 hdis hgrow hown' hat hb hnl; obtain ⟨hnum1, HG⟩ := HG; obtain ⟨g', cap', rfl⟩ := ownsRow_succ hown'; have hcn1 := hnum1.cell1; have hfn1 := hnum1.froz1)
      exact ⟨HG.1.from _, HG.2.1, HG.2.2⟩
  case done =>
    rintro D ys W hD rfl hI hK
    obtain ⟨v0, v1, hnum, h0, h1, _, _, _⟩ := hI.v
    have hc0 := hnum.cell0
    have hc1 := hnum.cell1
    have L0 := (valsB_len (stpTo zs kd c (n - 1)) false)
    have L1 := (valsB_len (stpTo zs kd c (n - 1)) true)
    have L2 := stpTo_len zs kd c (n - 1)
    have P0 := Lib.hid (valsB_part (zs := zs) (kd := kd) (c := c) (t := false) (n - 1))
    have P1 := Lib.hid (valsB_part (zs := zs) (kd := kd) (c := c) (t := true) (n - 1))
    have I0 := Lib.hid (row_ints h0)
    have I1 := Lib.hid (row_ints h1)
    have R0 := Lib.hid (RowL.of h0)
    have R1 := Lib.hid (RowL.of h1)
    have hx0 := HX.out.1
    have hx1 := HX.out.2
    rw [← hx0] at L0 P0 I0 R0
    rw [← hx1] at L1 P1 I1 R1
    obtain ⟨q0, k0, e0⟩ := I0.out.slice
    obtain ⟨q1, k1, e1⟩ := I1.out.slice
    subst e0 e1
    have H4 := Lib.hid hI.a4
    have H5 := Lib.hid hI.a5
    have HZ := hI.z
    have HBW := hI.b
    have HK := Lib.hid hK
    clear hI h0 h1 hnum hx0 hx1 hSl t0 t1 t2 t3 t4 t5 hI0 hK
    gi_wp2_with fail
    have IK0 : ∀ w', Below W.drew.heap.size W.drew w' → IntsL w' (.slice q0 x0.length k0) x0 := fun w' h => (I0.out.keep (Below.refl _ W).drew).keep h
    have IK1 : ∀ w', Below W.drew.heap.size W.drew w' → IntsL w' (.slice q1 x1.length k1) x1 := fun w' h => (I1.out.keep (Below.refl _ W).drew).keep h
    have HR := Lib.hid (show (fun w' : World => w'.cell? ⟨w.heap.size + 1 + 1 + 1, 0, none⟩ = some (.slice q0 x0.length k0) ∧ w'.cell? ⟨w.heap.size + 1 + 1 + 1, 1, none⟩ = some (.slice q1 x1.length k1) ∧ Below W.drew.heap.size W.drew w') W.drew from ⟨hc0, hc1, Below.refl _ _⟩)
    refine wpIn_region_tail (S := (fun w' : World => w'.cell? ⟨w.heap.size + 1 + 1 + 1, 0, none⟩ = some (.slice q0 x0.length k0) ∧ w'.cell? ⟨w.heap.size + 1 + 1 + 1, 1, none⟩ = some (.slice q1 x1.length k1) ∧ Below W.drew.heap.size W.drew w')) 6 (by kernel_rfl) (by kernel_rfl) HR.out (fun hHeld => ?_)
    refine anyS_take (i := 0) (v := ?v0_1) rfl rfl (by kernel_rfl) (by kernel_rfl) (by kernel_rfl) (fun _ _ _ h => h) ⟨Or.inl ⟨by rfl, ?hy0_1⟩, fun _ => rfl⟩ (by assumption) ?rest0_1
    case hy0_1 => (intro w hSw; (try dsimp only at hSw); go_simp; (try with_reducible rfl))
    try simp only [Act.put, List.setIfInBounds_toArray, List.set_cons_zero, List.set_cons_succ]
    refine anyS_take (i := 1) (v := ?v1_2) rfl rfl (by kernel_rfl) (by kernel_rfl) (by kernel_rfl) (fun _ _ _ h => h) ⟨Or.inl ⟨by rfl, ?hy1_2⟩, fun _ => rfl⟩ (by assumption) ?rest1_2
    case hy1_2 => (intro w hSw; (try dsimp only at hSw); go_simp; (try with_reducible rfl))
    try simp only [Act.put, List.setIfInBounds_toArray, List.set_cons_zero, List.set_cons_succ]
    refine anyS_take (i := 3) (v := ?v3_3) rfl rfl (by kernel_rfl) (by kernel_rfl) (by kernel_rfl) (fun _ _ _ h => h) ⟨Or.inl ⟨by rfl, ?hy3_3⟩, fun _ => rfl⟩ (by assumption) ?rest3_3
    case hy3_3 => (intro w hSw; (try dsimp only at hSw); go_simp; (try with_reducible rfl))
    try simp only [Act.put, List.setIfInBounds_toArray, List.set_cons_zero, List.set_cons_succ]
    refine anyS_take (i := 4) (v := ?v4_4) rfl rfl (by kernel_rfl) (by kernel_rfl) (by kernel_rfl) (fun _ _ _ h => h) ⟨Or.inl ⟨by rfl, ?hy4_4⟩, fun _ => rfl⟩ (by assumption) ?rest4_4
    case hy4_4 => (intro w hSw; (try dsimp only at hSw); go_simp; (try with_reducible rfl))
    try simp only [Act.put, List.setIfInBounds_toArray, List.set_cons_zero, List.set_cons_succ]
    refine anyS_one (i := 2) (by kernel_rfl) rfl (fun K hK => ?_)
    go_simp
    refine ⟨trivial, ?_⟩
    refine (callsIn_wide.2 (arcOf_any _ x0 _ (IK0 _ hHeld.2.2) (by omega) P0.out)).mono ?_; rintro e w' ⟨rfl, hb'⟩
    refine hK.out _ _ (⟨keepW hb' hHeld.1, keepW hb' hHeld.2.1, hHeld.2.2.trans (hb'.mono hHeld.2.2.size)⟩) (fun hHeld => ?_)
    clear hK K
    try simp only [Act.put, List.setIfInBounds_toArray, List.set_cons_zero, List.set_cons_succ]
    refine anyS_one (i := 5) (by kernel_rfl) rfl (fun K hK => ?_)
    go_simp
    refine ⟨trivial, ?_⟩
    refine (callsIn_wide.2 (arcOf_any _ x1 _ (IK1 _ hHeld.2.2) (by omega) P1.out)).mono ?_; rintro e w' ⟨rfl, hb'⟩
    refine hK.out _ _ (⟨keepW hb' hHeld.1, keepW hb' hHeld.2.1, hHeld.2.2.trans (hb'.mono hHeld.2.2.size)⟩) (fun hHeld => ?_)
    clear hK K
    try simp only [Act.put, List.setIfInBounds_toArray, List.set_cons_zero, List.set_cons_succ]
    refine anyS_done (by kernel_rfl) ?_ _
    change wpListIn _ _ _ _ _ _ _ _
    simp only [List.drop_succ_cons, List.drop_zero]
    obtain ⟨X, hX⟩ : ∃ X, X = w' := ⟨_, rfl⟩
    rw [← hX] at hHeld ⊢
    clear hX
    have hbX : Below W.heap.size W X := (Below.refl _ W).drew.trans hHeld.2.2
    have J0 := Lib.hid (R0.out.keep hbX)
    have J1 := Lib.hid (R1.out.keep hbX)
    have hzX := hbX.size
    have HK2 := Lib.hid ((hbX.block D (Array.getElem?_eq_some_iff.1 HK.out).1).trans HK.out)
    have A4 := H4.out.keep hbX (by omega)
    have A5 := H5.out.keep hbX (by omega)
    have bX : Below w.heap.size w X := HBW.trans (hbX.mono (by omega))
    have HA := Lib.hid (And.intro A4 A5)
    obtain ⟨c0, c1, c2, f0, f1, f2⟩ := A4
    obtain ⟨d0, d1, d2, g0, g1, g2⟩ := A5
    have y0 : w.heap.size + 1 < X.heap.size := by omega
    have y1 : w.heap.size + 1 + 1 < X.heap.size := by omega
    clear hHeld HR IK0 IK1 I0 I1 H4 H5 hc0 hc1
    gi_wp2
    obtain ⟨Y, hY⟩ : ∃ Y, Y = ((((((X.setCell ⟨w.heap.size + 1, 0, none⟩ (.slice q0 x0.length k0)).setCell ⟨w.heap.size + 1, 1, none⟩ (.int .i64 (arcB x0))).setCell ⟨w.heap.size + 1, 2, none⟩ (.int .i64 (arcW x0))).setCell ⟨w.heap.size + 1 + 1, 0, none⟩ (.slice q1 x1.length k1)).setCell ⟨w.heap.size + 1 + 1, 1, none⟩ (.int .i64 (arcB x1))).setCell ⟨w.heap.size + 1 + 1, 2, none⟩ (.int .i64 (arcW x1))) := ⟨_, rfl⟩
    rw [← hY]
    have hKY : Y.heap[D]? = some (.deferred (some [])) := by
      rw [hY]
      exact (((((((KeepsOthers.setCell _ _ _).trans (KeepsOthers.setCell _ _ _)).trans (KeepsOthers.setCell _ _ _)).trans (KeepsOthers.setCell _ _ _)).trans (KeepsOthers.setCell _ _ _)).trans (KeepsOthers.setCell _ _ _)).same D _ HK2.out rfl)
    have S4 : ArcAt Y (w.heap.size + 1) (.slice q0 x0.length k0) (arcB x0) (arcW x0) := by rw [hY]; exact (HA.out.1.set3).far3 (by omega)
    have S5 : ArcAt Y (w.heap.size + 1 + 1) (.slice q1 x1.length k1) (arcB x1) (arcW x1) := by rw [hY]; exact (HA.out.2.far3 (by omega)).set3
    have T0 : RowL (w.heap.size + 6) Y (.slice q0 x0.length k0) x0 := by rw [hY]; exact (((((J0.out.set (by omega)).set (by omega)).set (by omega)).set (by omega)).set (by omega)).set (by omega)
    have T1 : RowL (w.heap.size + 6) Y (.slice q1 x1.length k1) x1 := by rw [hY]; exact (((((J1.out.set (by omega)).set (by omega)).set (by omega)).set (by omega)).set (by omega)).set (by omega)
    have bY : Below w.heap.size w Y := by
      rw [hY]
      exact ((((((bX.setCell (p := ⟨w.heap.size + 1, 0, none⟩) (by dsimp only; omega) _).setCell (p := ⟨w.heap.size + 1, 1, none⟩) (by dsimp only; omega) _).setCell (p := ⟨w.heap.size + 1, 2, none⟩) (by dsimp only; omega) _).setCell (p := ⟨w.heap.size + 1 + 1, 0, none⟩) (by dsimp only; omega) _).setCell (p := ⟨w.heap.size + 1 + 1, 1, none⟩) (by dsimp only; omega) _).setCell (p := ⟨w.heap.size + 1 + 1, 2, none⟩) (by dsimp only; omega) _)
    clear hY c0 c1 c2 f0 f1 f2 d0 d1 d2 g0 g1 g2
    refine ⟨by simp, .inl ⟨_, _, rfl, run_takeDeferred hKY, ?_⟩⟩
    have kp : ∀ {a : Addr} {u : Value}, Y.cell? a = some u → (Y.putObj D (.deferred none)).cell? a = some u := fun h => cell_kept h (grownBy_putObj' _ D (.deferred none)) (fun r e => by cases e; exact ⟨_, hKY, rfl⟩)
    have a0 := kp S4.c0
    have a1 := kp S4.c1
    have a2 := kp S4.c2
    have a3 := kp S5.c0
    have a4 := kp S5.c1
    have a5 := kp S5.c2
    have bZ : Below w.heap.size w (Y.putObj D (.deferred none)) := bY.trans (belowK_b (w := w) (Nat.le_refl _) Y D _ _ (by omega) hKY rfl rfl)
    refine ⟨.tuple #[.agg #[.slice q0 x0.length k0, .int .i64 (arcB x0), .int .i64 (arcW x0)], .agg #[.slice q1 x1.length k1, .int .i64 (arcB x1), .int .i64 (arcW x1)]], ?_, _, _, rfl, (T0.put hKY rfl).mono (by omega), (T1.put hKY rfl).mono (by omega), bZ⟩
    simp [results, Try.results102, go_sem, a0, a1, a2, a3, a4, a5]
  case stop =>
    rintro D c pre W _ _ h _
    exact h.elim

end Go.Proofs.Ytmojnopgpgnfeaa

namespace Go.Proofs.Ytmojnopgpgnfeaa
open Go.RowKit
set_option linter.unusedVariables false
set_option linter.unusedSimpArgs false

/-- how far the second channel is behind the first one, in each pulse -/
def trnTo (zs : Nat → Smp) : Nat → List Int
  | 0 => []
  | k + 1 => trnTo zs k ++ [((zs k).q - (zs k).p) % 65536]
theorem trnTo_len (zs : Nat → Smp) : ∀ k, (trnTo zs k).length = k
  | 0 => rfl
  | k + 1 => by rw [trnTo, List.length_append, trnTo_len zs k]; rfl
theorem trnTo_part {zs : Nat → Smp} : ∀ (k : Nat), ∀ x, x ∈ trnTo zs k → 0 ≤ x ∧ x < 65536
  | 0, x, h => by simp [trnTo] at h
  | k + 1, x, h => by
    rw [trnTo, List.mem_append] at h
    rcases h with h | h
    · exact trnTo_part k x h
    · simp at h; omega
/-- between two rounds -/
structure TrI (w W : World) (v : Value) (xs : List Int) : Prop where
  r : W.ownsRow (w.heap.size + 1) 3 1 v xs.length (xs.map (Value.int .i64))
  a : ArcAt W w.heap.size (.slice none 0 0) 0 0
  z : w.heap.size + 1 ≤ W.heap.size
  b : Below w.heap.size w W
theorem TrI.new (w : World) : TrI w (w.alloc (.cells #[.slice none 0 0, .int .i64 0, .int .i64 0] 107)) (.slice none 0 0) [] :=
  ⟨World.ownsRow_nil _ _ _ _, ArcAt.new _ _ _ _ _, by simp, below_alloc _ _⟩
theorem TrI.alloc {w W : World} {v : Value} {xs : List Int} (h : TrI w W v xs) (o : Obj) : TrI w (W.alloc o) v xs :=
  ⟨h.r.alloc o, h.a.keep (below_alloc W o) (by have := h.z; omega), by have := h.z; simp; omega, h.b.trans ((below_alloc W o).mono (by have := h.z; omega))⟩
theorem TrI.grown {w W w1 : World} {v v' : Value} {xs : List Int} {x : Int} {tmp : Obj} (h : TrI w W v xs) (hg : (W.alloc tmp).grownBy w1 v.ownBlock) (ho : w1.ownsRow (w.heap.size + 1) 3 1 v' (xs.length + 1) (xs.map (Value.int .i64) ++ [.int .i64 x])) : TrI w w1 v' (xs ++ [x]) := by
  have hb : Below (w.heap.size + 1) W w1 := ((Below.refl _ W).alloc h.z tmp).grown hg (by have := h.z; simp; omega) fun j ej => (h.r.lt j ej).1
  exact ⟨by simpa using ho, h.a.keep hb (by omega), Nat.le_trans h.z hb.size, h.b.trans (hb.mono (by omega))⟩

set_option maxRecDepth 100000 in
set_option maxHeartbeats 6400000 in
theorem turnsOf_any (b off n cap : Nat) (zs : Nat → Smp) (w : World) (hn2 : n ≤ 64) (hzs : ∀ i, i < n → (0 ≤ (zs i).p ∧ (zs i).p < 65536) ∧ (0 ≤ (zs i).q ∧ (zs i).q < 65536)) (hS : SmpsAt w b off n zs) (hb : b < w.heap.size) :
    Calls Try.prog 103 #[.slice (some ⟨b, off, none⟩) n cap] w fun e w' => ∃ v, e = .returned (.agg #[v, .int .i64 (arcB (trnTo zs n)), .int .i64 (arcW (trnTo zs n))]) ∧ RowL w.heap.size w' v (trnTo zs n) ∧ Below w.heap.size w w' := by
  have HS := Lib.hid hS
  have HZ := Lib.hid hzs
  clear hS hzs
  obtain ⟨i0, hi, hz0, hz1, hz2⟩ := info_parts info3
  obtain ⟨x0, hx0⟩ : ∃ x, x = trnTo zs n := ⟨_, rfl⟩
  rw [← hx0]
  have HX := Lib.hid hx0
  clear hx0
  go_enter Try.func103, Try.ntmps103
  go_wp2
  go_loopw [3, 8] (fun v i wr => ∃ k : Nat, k ≤ n ∧ i = .int .i64 k ∧ TrI w wr v (trnTo zs k)) (fun _ i _ => n - (intOf i).toNat)
  case atStart => exact ⟨0, Nat.zero_le _, rfl, TrI.new w⟩
  case round =>
    obtain ⟨k, hk, rfl, hI⟩ := hrel
    by_cases hlt : k < n
    · have hbr : b < wr.heap.size := Nat.lt_of_lt_of_le hb hI.b.size
      have z0 := keepB hI.b hb (HS.out.c0 k hlt)
      have z1 := keepB hI.b hb (HS.out.c1 k hlt)
      have z2 := keepB hI.b hb (HS.out.c2 k hlt)
      have z3 := keepB hI.b hb (HS.out.c3 k hlt)
      obtain ⟨⟨p0, p1⟩, q0, q1⟩ := HZ.out k hlt
      have i1 : IntKind.i64.wrap ((zs k).q - (zs k).p) = (zs k).q - (zs k).p := IntWalk.i64_in _ (by omega)
      have HI := Lib.hid (hI.alloc (.cells #[.int .i64 (zs k).h, .int .i64 (zs k).p, .int .i64 (zs k).v, .int .i64 (zs k).q] 84))
      have hln := trnTo_len zs k
      have hmaxl : maxLen = 9223372036854775807 := rfl
      clear hI
      go_wp2_with (first
        | (go_at_call 86; refine (modulo_any _ _ (by omega) (by omega)).mono ?_; rintro e W ⟨rfl, hW⟩; have hI2 := HI.out; rw [hW] at hI2; clear hW HI; have hz2' := hI2.z)
        | (at_builtin; refine wpList_append_own _ rfl _ _ 50 rfl (w.heap.size + 1) 3 i0 (.int .i64 0) 1 8 Try.underlying50 hi hz0 hz1 hz2 rfl (by decide) _ _ _ rfl (hI2.r.alloc _) ⟨W.heap.size, 0, none⟩ 1 1 [.int .i64 (((zs k).q - (zs k).p) % 65536)] rfl rfl (cell_one_new _ _ _) (by simp [Value.oneCell']) (by omega) (by omega) (by simp; omega) ?_; intro v' w1 hown' hgrow _; have HE := Lib.hid (hI2.grown hgrow hown')))
      go_roundw
      case rel => exact ⟨k + 1, by omega, by go_num, HE.out⟩
      case measure => simp [intOf]; omega
    · have hkn : k = n := by omega
      subst hkn
      have hx := HX.out
      rw [← hx] at hI
      have hl2 : x0.length ≤ 1000000 := by rw [hx, trnTo_len zs k]; omega
      have P0 := Lib.hid (show ∀ x, x ∈ x0 → 0 ≤ x ∧ x < 65536 by rw [hx]; exact trnTo_part k)
      have I0 := row_ints hI.r
      obtain ⟨q0, k0, e0⟩ := I0.slice
      subst e0
      have HR := Lib.hid (RowL.of hI.r)
      have II := Lib.hid I0
      have hz := hI.z
      have hbw := hI.b
      have HA := Lib.hid hI.a
      clear hI I0 hx
      go_wp2_with fail
      refine (arcOf_any (.slice q0 x0.length k0) x0 _ II.out hl2 P0.out).mono ?_; rintro e X ⟨rfl, hbX⟩
      have R0 := Lib.hid (HR.out.keep hbX)
      obtain ⟨c0, c1, c2, f0, f1, f2⟩ := HA.out.keep hbX (by omega)
      have HA2 := Lib.hid (HA.out.keep hbX (by omega))
      have bX := hbw.trans (hbX.mono (by omega))
      have y0 : w.heap.size < X.heap.size := by have := hbX.size; omega
      clear hbX HA HR II
      go_wp2
      obtain ⟨Y, hY⟩ : ∃ Y, Y = (((X.setCell ⟨w.heap.size, 0, none⟩ (.slice q0 x0.length k0)).setCell ⟨w.heap.size, 1, none⟩ (.int .i64 (arcB x0))).setCell ⟨w.heap.size, 2, none⟩ (.int .i64 (arcW x0))) := ⟨_, rfl⟩
      rw [← hY]
      have S4 : ArcAt Y w.heap.size (.slice q0 x0.length k0) (arcB x0) (arcW x0) := by rw [hY]; exact HA2.out.set3
      have T0 : RowL (w.heap.size + 1) Y (.slice q0 x0.length k0) x0 := by rw [hY]; exact ((R0.out.set (by omega)).set (by omega)).set (by omega)
      have bY : Below w.heap.size w Y := by
        rw [hY]
        exact (((bX.setCell (p := ⟨w.heap.size, 0, none⟩) (by dsimp only; omega) _).setCell (p := ⟨w.heap.size, 1, none⟩) (by dsimp only; omega) _).setCell (p := ⟨w.heap.size, 2, none⟩) (by dsimp only; omega) _)
      clear hY c0 c1 c2 f0 f1 f2
      obtain ⟨a0, a1, a2, _, _, _⟩ := S4
      exact bodyPost_ret (v := .agg #[.slice q0 x0.length k0, .int .i64 (arcB x0), .int .i64 (arcW x0)]) (by simp [results, Try.results103, go_sem, a0, a1, a2]) rfl ⟨_, rfl, T0.mono (by omega), bY⟩

end Go.Proofs.Ytmojnopgpgnfeaa
