/-
  Small laws on worlds; walks over the leaves.
-/
import Derived.Test.YtdmbkhmhaininaaM
import Derived.Test.YtdmbkhmhaininaaProg
import Derived.WalkKit
import Derived.WalkSpells
import Derived.WalkLawsBesides
import Derived.BigQuiet
import Derived.Deep.QuietTactic
import Derived.Lib.Hide
import Derived.IntWalk
import Derived.Deep.RegionHeld3
import Derived.Below
import Derived.RowKit
namespace Go.Proofs.Ytdmbkhmhaininaa
open Go.RowKit
set_option linter.unusedVariables false
set_option linter.unusedSimpArgs false

theorem bcell {B : Nat} {W w1 : World} (hb : Below B W w1) : (∀ b o, b < B → w1.cell? ⟨b, o, none⟩ = W.cell? ⟨b, o, none⟩) ∧ (∀ b o, b < B → w1.frozen? ⟨b, o, none⟩ = W.frozen? ⟨b, o, none⟩) :=
  ⟨fun b o h => hb.cell (p := ⟨b, o, none⟩) h, fun b o h => hb.frozen (p := ⟨b, o, none⟩) h⟩
theorem keepB {B b o : Nat} {W w1 : World} {v : Value} (hb : Below B W w1) (h : b < B) (hc : W.cell? ⟨b, o, none⟩ = some v) : w1.cell? ⟨b, o, none⟩ = some v := by
  rw [hb.cell (p := ⟨b, o, none⟩) h]; exact hc
theorem keepF {B b o : Nat} {W w1 : World} {v : Bool} (hb : Below B W w1) (h : b < B) (hc : W.frozen? ⟨b, o, none⟩ = v) : w1.frozen? ⟨b, o, none⟩ = v := by
  rw [hb.frozen (p := ⟨b, o, none⟩) h]; exact hc
/-- what a cell holds, behind a name -/
def cellAt (w : World) (a : Addr) : Value := (w.cell? a).getD (.bool false)
theorem cellAt_mk {w : World} {a : Addr} {v : Value} (h : w.cell? a = some v) : w.cell? a = some (cellAt w a) := by unfold cellAt; rw [h]; rfl
theorem keepA {B b o : Nat} {W w1 : World} (hb : Below B W w1) (h : b < B) (hc : W.cell? ⟨b, o, none⟩ = some (cellAt W ⟨b, o, none⟩)) : w1.cell? ⟨b, o, none⟩ = some (cellAt w1 ⟨b, o, none⟩) :=
  cellAt_mk (keepB hb h hc)
theorem cellAt_set {w : World} {p q : Addr} {x : Value} (h : w.cell? q = some (cellAt w q)) : (w.setCell p x).cell? q = some (cellAt (w.setCell p x) q) := by
  obtain ⟨v', h'⟩ := cell?_setCell_some (p := p) (x := x) h
  exact cellAt_mk h'
theorem isSome_of_set {w : World} {p q : Addr} {x : Value} (h : ((w.setCell p x).cell? q).isSome = true) : (w.cell? q).isSome = true := by
  unfold World.cell? at *
  simp only [World.setCell, Array.getElem?_modify] at h
  by_cases e : p.block = q.block
  · rw [if_pos e] at h
    cases hq : w.heap[q.block]? with
    | none => rw [hq] at h; exact h
    | some o =>
      rw [hq] at h
      cases o with
      | cells c t f =>
        simp only [Option.map_some] at h
        by_cases hs : q.spot.isSome
        · simp [hs] at h
        · simp only [hs] at h ⊢
          by_cases hp : p.spot.isSome
          · simpa [hp] using h
          · simpa [hp] using h
      | _ => exact h
  · rw [if_neg e] at h; exact h
theorem set_read {w : World} {b i : Nat} {u c0 : Value} (h0 : (w.setCell ⟨b, i, none⟩ u).cell? ⟨b, i, none⟩ = some c0) :
    (w.setCell ⟨b, i, none⟩ u).cell? ⟨b, i, none⟩ = some u :=
  World.cell?_setCell_same' _ _ _ (isSome_of_set (by rw [h0]; rfl))
theorem pair_read {w : World} {b : Nat} {u v c0 c1 : Value} (h0 : ((w.setCell ⟨b, 0, none⟩ u).setCell ⟨b, 1, none⟩ v).cell? ⟨b, 0, none⟩ = some c0)
    (h1 : ((w.setCell ⟨b, 0, none⟩ u).setCell ⟨b, 1, none⟩ v).cell? ⟨b, 1, none⟩ = some c1) :
    ((w.setCell ⟨b, 0, none⟩ u).setCell ⟨b, 1, none⟩ v).cell? ⟨b, 0, none⟩ = some u ∧ ((w.setCell ⟨b, 0, none⟩ u).setCell ⟨b, 1, none⟩ v).cell? ⟨b, 1, none⟩ = some v := by
  have e : (w.setCell ⟨b, 0, none⟩ u).cell? ⟨b, 0, none⟩ = some c0 := by rw [← h0]; exact (World.cell?_setCell_other _ _ _ _ (by simp)).symm
  refine ⟨?_, set_read h1⟩
  rw [World.cell?_setCell_other _ _ _ _ (by simp)]
  exact set_read e
theorem alloc_new {w : World} {b i : Nat} {cs : Array Value} {T : TypeId} {v : Value} (hb : b = w.heap.size) (hi : cs[i]? = some v) : (w.alloc (.cells cs T)).cell? ⟨b, i, none⟩ = some v := by
  rw [World.cell?_alloc_at _ _ _ _ hb]; exact hi
theorem alloc_keep {w : World} {b i : Nat} {o : Obj} {v : Value} (hb : b < w.heap.size) (hc : w.cell? ⟨b, i, none⟩ = some v) : (w.alloc o).cell? ⟨b, i, none⟩ = some v :=
  keepB ((Below.refl w.heap.size w).alloc (Nat.le_refl _) o) hb hc
theorem alloc_newF {w : World} {b i : Nat} {cs : Array Value} {T : TypeId} (hb : b = w.heap.size) : (w.alloc (.cells cs T)).frozen? ⟨b, i, none⟩ = false := by
  rw [World.frozen?_alloc_at _ _ _ _ hb]
theorem alloc_keepF {w : World} {b i : Nat} {o : Obj} {v : Bool} (hb : b < w.heap.size) (hc : w.frozen? ⟨b, i, none⟩ = v) : (w.alloc o).frozen? ⟨b, i, none⟩ = v :=
  keepF ((Below.refl w.heap.size w).alloc (Nat.le_refl _) o) hb hc
structure PairAt (w : World) (b : Nat) (u v : Value) : Prop where
  c0 : w.cell? ⟨b, 0, none⟩ = some u
  c1 : w.cell? ⟨b, 1, none⟩ = some v
theorem PairAt.new (w : World) (u v : Value) (T : TypeId) : PairAt (w.alloc (.cells #[u, v] T)) w.heap.size u v := ⟨alloc_new rfl rfl, alloc_new rfl rfl⟩
theorem PairAt.keep {B b : Nat} {W w1 : World} {u v : Value} (s : PairAt W b u v) (hb : Below B W w1) (h : b < B) : PairAt w1 b u v := ⟨keepB hb h s.c0, keepB hb h s.c1⟩
structure OpenAt (w : World) (b : Nat) : Prop where
  c0 : w.cell? ⟨b, 0, none⟩ = some (cellAt w ⟨b, 0, none⟩)
  c1 : w.cell? ⟨b, 1, none⟩ = some (cellAt w ⟨b, 1, none⟩)
  f0 : w.frozen? ⟨b, 0, none⟩ = false
  f1 : w.frozen? ⟨b, 1, none⟩ = false
theorem OpenAt.new (w : World) (u v : Value) (T : TypeId) : OpenAt (w.alloc (.cells #[u, v] T)) w.heap.size :=
  ⟨cellAt_mk (alloc_new (v := u) rfl rfl), cellAt_mk (alloc_new (v := v) rfl rfl), alloc_newF rfl, alloc_newF rfl⟩
theorem OpenAt.keep {B b : Nat} {W w1 : World} (s : OpenAt W b) (hb : Below B W w1) (h : b < B) : OpenAt w1 b :=
  ⟨keepA hb h s.c0, keepA hb h s.c1, keepF hb h s.f0, keepF hb h s.f1⟩
theorem below_alloc (w : World) (o : Obj) : Below w.heap.size w (w.alloc o) := (Below.refl _ _).alloc (Nat.le_refl _) _
theorem set_other {w : World} {b i j : Nat} {v x : Value} (h : i ≠ j) (hc : w.cell? ⟨b, j, none⟩ = some x) : (w.setCell ⟨b, i, none⟩ v).cell? ⟨b, j, none⟩ = some x := by
  rw [World.cell?_setCell_other _ _ _ _ (fun e => h (by injection e))]; exact hc
theorem set_same {w : World} {b i : Nat} {v x : Value} (hc : w.cell? ⟨b, i, none⟩ = some x) : (w.setCell ⟨b, i, none⟩ v).cell? ⟨b, i, none⟩ = some v :=
  World.cell?_setCell_same' _ _ _ (by rw [hc]; rfl)
theorem cell_far {w : World} {b c i j : Nat} {u v : Value} (h : c ≠ b) (hc : w.cell? ⟨b, i, none⟩ = some v) : (w.setCell ⟨c, j, none⟩ u).cell? ⟨b, i, none⟩ = some v := by
  rw [World.cell?_setCell_far _ _ _ _ (by dsimp only; omega)]; exact hc


theorem floor_pos {a b : Int} (hb : 1 ≤ b) (ha : 0 ≤ a) : 0 ≤ a / b ∧ a / b ≤ a ∧ 0 ≤ a % b := by
  refine ⟨Int.ediv_nonneg ha (by omega), Int.ediv_le_self b ha, Int.emod_nonneg _ (by omega)⟩
theorem tdiv_neg_bd {a b : Int} (hb : 1 ≤ b) (ha : a < 0) : a ≤ a.tdiv b ∧ a.tdiv b ≤ 0 := by
  have h : a.tdiv b = -((-a) / b) := by
    have h1 := Int.neg_tdiv (-a) b
    rw [Int.neg_neg] at h1
    rw [h1, Int.tdiv_eq_ediv_of_nonneg (by omega)]
  have := floor_pos (a := -a) hb (by omega)
  omega
theorem tmod_neg_bd {a b : Int} (hb : 1 ≤ b) (ha : a < 0) : a.tmod b ≤ 0 ∧ -b < a.tmod b := by
  have h1 := Int.neg_tmod (-a) b
  rw [Int.neg_neg] at h1
  have h2 : (-a).tmod b = (-a) % b := Int.tmod_eq_emod_of_nonneg (by omega)
  have h3 := Int.emod_nonneg (-a) (b := b) (by omega)
  have h4 := Int.emod_lt_of_pos (-a) (b := b) (by omega)
  omega
theorem floor_neg {a b : Int} (hb : 1 ≤ b) (ha : a < 0) : (a.tmod b < 0 → a.tdiv b - 1 = a / b) ∧ (¬ a.tmod b < 0 → a.tdiv b = a / b) := by
  have h0 := Int.mul_tdiv_add_tmod a b
  have h1 := tmod_neg_bd hb ha
  refine ⟨fun h => ?_, fun h => ?_⟩
  · have h5 : b * (a.tdiv b - 1) = b * a.tdiv b - b := by rw [Int.mul_sub, Int.mul_one]
    symm
    exact ((Int.ediv_emod_unique (r := a.tmod b + b) (by omega)).2 ⟨by rw [h5]; omega, by omega, by omega⟩).1
  · symm
    exact ((Int.ediv_emod_unique (r := a.tmod b) (by omega)).2 ⟨by omega, by omega, by omega⟩).1

theorem drewN_below {B : Nat} {W w1 : World} (h : Below B W w1) : ∀ n, Below B W (w1.drewN n)
  | 0 => h
  | n + 1 => by
    have := drewN_below h n
    exact this.drew

set_option maxHeartbeats 400000 in
theorem isIn_any (n a b : Int) (w : World) :
    Calls Try.prog 49 #[.int .i64 n, .int .i64 a, .int .i64 b] w fun e w' => e = .returned (.bool (inB n a b)) ∧ w = w' := by
  by_cases h1 : a ≤ n
  · by_cases h2 : n ≤ b
    · have h : inB n a b = true := inB_true.2 ⟨h1, h2⟩
      rw [h]; clear h
      go_enter Try.func49, Try.ntmps49
      go_wp2
      go_ret
      exact ⟨rfl, rfl⟩
    · have h : inB n a b = false := inB_false.2 (by omega)
      rw [h]; clear h
      go_enter Try.func49, Try.ntmps49
      go_wp2
      go_ret
      exact ⟨rfl, rfl⟩
  · have h : inB n a b = false := inB_false.2 (by omega)
    rw [h]; clear h
    go_enter Try.func49, Try.ntmps49
    go_wp2
    go_ret
    exact ⟨rfl, rfl⟩

set_option maxHeartbeats 400000 in
theorem refIn_any (n a b : Int) (w : World) :
    Calls Try.prog 51 #[.int .i64 n, .int .i64 a, .int .i64 b] w fun e w' => e = .returned (.bool (inB n a b)) ∧ w = w' := by
  by_cases h1 : a ≤ n
  · by_cases h2 : n ≤ b
    · have h : inB n a b = true := inB_true.2 ⟨h1, h2⟩
      rw [h]; clear h
      go_enter Try.func51, Try.ntmps51
      go_wp2
      go_ret
      exact ⟨rfl, rfl⟩
    · have h : inB n a b = false := inB_false.2 (by omega)
      rw [h]; clear h
      go_enter Try.func51, Try.ntmps51
      go_wp2
      go_ret
      exact ⟨rfl, rfl⟩
  · have h : inB n a b = false := inB_false.2 (by omega)
    rw [h]; clear h
    go_enter Try.func51, Try.ntmps51
    go_wp2
    go_ret
    exact ⟨rfl, rfl⟩

set_option maxHeartbeats 800000 in
theorem isWithin_any (lo hi a b : Int) (w : World) :
    Calls Try.prog 52 #[.agg #[.int .i64 lo, .int .i64 hi], .agg #[.int .i64 a, .int .i64 b]] w fun e w' => e = .returned (.bool (spanB lo hi a b)) ∧ Below w.heap.size w w' := by
  by_cases h1 : a ≤ lo <;> by_cases h2 : lo ≤ hi <;> by_cases h3 : hi ≤ b
  · have h : spanB lo hi a b = true := spanB_true.2 ⟨h1, h2, h3⟩
    (rw [h]; clear h; go_enter Try.func52, Try.ntmps52; go_wp2; go_ret; exact ⟨rfl, by repeat (first | exact Below.refl _ _ | (refine Below.alloc ?_ (by first | (simp; done) | (simp only [World.size_alloc]; omega) | (simp; omega)) _))⟩)
  all_goals
    have h : spanB lo hi a b = false := spanB_false.2 (by omega)
    (rw [h]; clear h; go_enter Try.func52, Try.ntmps52; go_wp2; go_ret; exact ⟨rfl, by repeat (first | exact Below.refl _ _ | (refine Below.alloc ?_ (by first | (simp; done) | (simp only [World.size_alloc]; omega) | (simp; omega)) _))⟩)

set_option maxHeartbeats 800000 in
theorem Valid_any (lo hi a b : Int) (w : World) :
    Calls Try.prog 53 #[.agg #[.int .i64 lo, .int .i64 hi], .int .i64 a, .int .i64 b] w fun e w' => e = .returned (.bool (spanB lo hi a b)) ∧ Below w.heap.size w w' := by
  by_cases h1 : a ≤ lo <;> by_cases h2 : lo ≤ hi <;> by_cases h3 : hi ≤ b
  · have h : spanB lo hi a b = true := spanB_true.2 ⟨h1, h2, h3⟩
    (rw [h]; clear h; go_enter Try.func53, Try.ntmps53; go_wp2; go_ret; exact ⟨rfl, by repeat (first | exact Below.refl _ _ | (refine Below.alloc ?_ (by first | (simp; done) | (simp only [World.size_alloc]; omega) | (simp; omega)) _))⟩)
  all_goals
    have h : spanB lo hi a b = false := spanB_false.2 (by omega)
    (rw [h]; clear h; go_enter Try.func53, Try.ntmps53; go_wp2; go_ret; exact ⟨rfl, by repeat (first | exact Below.refl _ _ | (refine Below.alloc ?_ (by first | (simp; done) | (simp only [World.size_alloc]; omega) | (simp; omega)) _))⟩)

theorem quo_bd {a b : Int} (hb : 1 ≤ b) (ha1 : -9200000000000000000 ≤ a) (ha2 : a ≤ 9200000000000000000) : -9200000000000000000 ≤ a / b ∧ a / b ≤ 9200000000000000000 := by
  have h1 : a / b < 9200000000000000000 + 1 := Int.ediv_lt_of_lt_mul (by omega) (by
    have := Int.mul_le_mul_of_nonneg_left hb (show (0:Int) ≤ 9200000000000000000 + 1 by decide)
    omega)
  have h2 : -9200000000000000000 ≤ a / b := Int.le_ediv_of_mul_le (by omega) (by
    have := Int.mul_le_mul_of_nonneg_left hb (show (0:Int) ≤ 9200000000000000000 by decide)
    omega)
  omega

set_option maxHeartbeats 400000 in
theorem Down_any (a b : Int) (w : World) (hb : 1 ≤ b) (ha1 : -9200000000000000000 ≤ a) (ha2 : a ≤ 9200000000000000000) :
    Calls Try.prog 60 #[.int .i64 a, .int .i64 b] w fun e w' => e = .returned (.int .i64 (a / b)) ∧ w = w' := by
  by_cases ha : 0 ≤ a
  · obtain ⟨h1, h2, h3⟩ := floor_pos hb ha
    go_enter Try.func60, Try.ntmps60
    go_wp2
    go_ret
    exact ⟨rfl, rfl⟩
  · obtain ⟨h1, h2⟩ := tdiv_neg_bd (a := a) hb (by omega)
    by_cases h : a.tmod b < 0
    · rw [← (floor_neg hb (by omega)).1 h]
      go_enter Try.func60, Try.ntmps60
      go_wp2
      go_ret
      exact ⟨rfl, rfl⟩
    · rw [← (floor_neg hb (by omega)).2 h]
      go_enter Try.func60, Try.ntmps60
      go_wp2
      go_ret
      exact ⟨rfl, rfl⟩

set_option maxHeartbeats 400000 in
theorem Up_any (a b : Int) (w : World) (hb : 1 ≤ b) (ha1 : -9200000000000000000 ≤ a) (ha2 : a ≤ 9200000000000000000) :
    Calls Try.prog 61 #[.int .i64 a, .int .i64 b] w fun e w' => e = .returned (.int .i64 (cdiv a b)) ∧ w = w' := by
  obtain ⟨h1, h2⟩ := quo_bd (a := -a) hb (by omega) (by omega)
  unfold cdiv
  go_enter Try.func61, Try.ntmps61
  go_wp2_with (go_at_call 60; refine (Down_any _ _ _ hb (by omega) (by omega)).mono ?_; rintro e w' ⟨rfl, rfl⟩)
  go_ret
  exact ⟨rfl, rfl⟩

theorem up_lo {a b : Int} (hb : 1 ≤ b) (h : 0 ≤ a) : 0 ≤ (a + b - 1) / b ∧ (a + b - 1) / b ≤ a + b - 1 := ⟨Int.ediv_nonneg (by omega) (by omega), Int.ediv_le_self _ (by omega)⟩
set_option maxHeartbeats 400000 in
theorem up_any (a b : Int) (w : World) (hb : 1 ≤ b) (hb2 : b ≤ 10000000000) (ha1 : 0 ≤ a) (ha2 : a ≤ 9200000000000000000) :
    Calls Try.prog 58 #[.int .i64 a, .int .i64 b] w fun e w' => e = .returned (.int .i64 (cdiv a b)) ∧ w = w' := by
  obtain ⟨h1, h2⟩ := up_lo hb ha1
  rw [← cdiv_eq hb]
  go_enter Try.func58, Try.ntmps58
  go_wp2
  go_ret
  exact ⟨rfl, rfl⟩

set_option maxHeartbeats 400000 in
theorem only_any (n : Int) (w : World) : Calls Try.prog 57 #[.int .i64 n] w fun e w' => e = .returned (.agg #[.int .i64 n, .int .i64 n]) ∧ Below w.heap.size w w' := by
  go_enter Try.func57, Try.ntmps57
  go_wp2
  exact bodyPost_ret (v := .agg #[.int .i64 n, .int .i64 n]) (by simp [results, Try.results57, go_sem]) rfl ⟨rfl, by repeat (first | exact Below.refl _ _ | (refine Below.alloc ?_ (by first | (simp; done) | (simp only [World.size_alloc]; omega) | (simp; omega)) _))⟩

set_option maxHeartbeats 400000 in
theorem point_any (n : Int) (w : World) : Calls Try.prog 34 #[.int .i64 n] w fun e w' => e = .returned (.agg #[.int .i64 n, .int .i64 n]) ∧ Below w.heap.size w w' := by
  go_enter Try.func34, Try.ntmps34
  go_wp2
  exact bodyPost_ret (v := .agg #[.int .i64 n, .int .i64 n]) (by simp [results, Try.results34, go_sem]) rfl ⟨rfl, by repeat (first | exact Below.refl _ _ | (refine Below.alloc ?_ (by first | (simp; done) | (simp only [World.size_alloc]; omega) | (simp; omega)) _))⟩

end Go.Proofs.Ytdmbkhmhaininaa
