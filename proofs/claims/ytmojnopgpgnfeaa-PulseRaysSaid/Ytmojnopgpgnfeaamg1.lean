/-
  Small laws on worlds; walks over the leaves: tests on numbers, roundings, parts of a turn.
-/
import Derived.Test.YtmojnopgpgnfeaaProg
import Derived.WalkKit
import Derived.WalkSpells
import Derived.WalkLawsBesides
import Derived.BigQuiet
import Derived.Deep.QuietTactic
import Derived.Lib.Hide
import Derived.IntWalk
import Derived.Deep.RegionHeld3
import Derived.Below
import Derived.RowKit
namespace Go.Proofs.Ytmojnopgpgnfeaa
open Go.RowKit
set_option linter.unusedVariables false

theorem bcell {B : Nat} {W w1 : World} (hb : Below B W w1) : (∀ b o, b < B → w1.cell? ⟨b, o, none⟩ = W.cell? ⟨b, o, none⟩) ∧ (∀ b o, b < B → w1.frozen? ⟨b, o, none⟩ = W.frozen? ⟨b, o, none⟩) :=
  ⟨fun b o h => hb.cell (p := ⟨b, o, none⟩) h, fun b o h => hb.frozen (p := ⟨b, o, none⟩) h⟩
theorem keepB {B b o : Nat} {W w1 : World} {v : Value} (hb : Below B W w1) (h : b < B) (hc : W.cell? ⟨b, o, none⟩ = some v) : w1.cell? ⟨b, o, none⟩ = some v := by
  rw [hb.cell (p := ⟨b, o, none⟩) h]; exact hc
theorem keepF {B b o : Nat} {W w1 : World} {v : Bool} (hb : Below B W w1) (h : b < B) (hc : W.frozen? ⟨b, o, none⟩ = v) : w1.frozen? ⟨b, o, none⟩ = v := by
  rw [hb.frozen (p := ⟨b, o, none⟩) h]; exact hc
/-- what a cell holds, behind a name -/
def cellAt (w : World) (a : Addr) : Value := (w.cell? a).getD (.bool false)
theorem cellAt_mk {w : World} {a : Addr} {v : Value} (h : w.cell? a = some v) : w.cell? a = some (cellAt w a) := by unfold cellAt; rw [h]; rfl
theorem keepA {B b o : Nat} {W w1 : World} (hb : Below B W w1) (h : b < B) (hc : W.cell? ⟨b, o, none⟩ = some (cellAt W ⟨b, o, none⟩)) : w1.cell? ⟨b, o, none⟩ = some (cellAt w1 ⟨b, o, none⟩) :=
  cellAt_mk (keepB hb h hc)
theorem cellAt_set {w : World} {p q : Addr} {x : Value} (h : w.cell? q = some (cellAt w q)) : (w.setCell p x).cell? q = some (cellAt (w.setCell p x) q) := by
  obtain ⟨v', h'⟩ := cell?_setCell_some (p := p) (x := x) h
  exact cellAt_mk h'
theorem isSome_of_set {w : World} {p q : Addr} {x : Value} (h : ((w.setCell p x).cell? q).isSome = true) : (w.cell? q).isSome = true := by
  unfold World.cell? at *
  simp only [World.setCell, Array.getElem?_modify] at h
  by_cases e : p.block = q.block
  · rw [if_pos e] at h
    cases hq : w.heap[q.block]? with
    | none => rw [hq] at h; exact h
    | some o =>
      rw [hq] at h
      cases o with
      | cells c t f =>
        simp only [Option.map_some] at h
        by_cases hs : q.spot.isSome
        · simp [hs] at h
        · simp only [hs] at h ⊢
          by_cases hp : p.spot.isSome
          · simpa [hp] using h
          · simpa [hp] using h
      | _ => exact h
  · rw [if_neg e] at h; exact h
theorem set_read {w : World} {b i : Nat} {u c0 : Value} (h0 : (w.setCell ⟨b, i, none⟩ u).cell? ⟨b, i, none⟩ = some c0) :
    (w.setCell ⟨b, i, none⟩ u).cell? ⟨b, i, none⟩ = some u :=
  World.cell?_setCell_same' _ _ _ (isSome_of_set (by rw [h0]; rfl))
theorem pair_read {w : World} {b : Nat} {u v c0 c1 : Value} (h0 : ((w.setCell ⟨b, 0, none⟩ u).setCell ⟨b, 1, none⟩ v).cell? ⟨b, 0, none⟩ = some c0)
    (h1 : ((w.setCell ⟨b, 0, none⟩ u).setCell ⟨b, 1, none⟩ v).cell? ⟨b, 1, none⟩ = some c1) :
    ((w.setCell ⟨b, 0, none⟩ u).setCell ⟨b, 1, none⟩ v).cell? ⟨b, 0, none⟩ = some u ∧ ((w.setCell ⟨b, 0, none⟩ u).setCell ⟨b, 1, none⟩ v).cell? ⟨b, 1, none⟩ = some v := by
  have e : (w.setCell ⟨b, 0, none⟩ u).cell? ⟨b, 0, none⟩ = some c0 := by rw [← h0]; exact (World.cell?_setCell_other _ _ _ _ (by simp)).symm
  refine ⟨?_, set_read h1⟩
  rw [World.cell?_setCell_other _ _ _ _ (by simp)]
  exact set_read e
theorem alloc_new {w : World} {b i : Nat} {cs : Array Value} {T : TypeId} {v : Value} (hb : b = w.heap.size) (hi : cs[i]? = some v) : (w.alloc (.cells cs T)).cell? ⟨b, i, none⟩ = some v := by
  rw [World.cell?_alloc_at _ _ _ _ hb]; exact hi
theorem alloc_keep {w : World} {b i : Nat} {o : Obj} {v : Value} (hb : b < w.heap.size) (hc : w.cell? ⟨b, i, none⟩ = some v) : (w.alloc o).cell? ⟨b, i, none⟩ = some v :=
  keepB ((Below.refl w.heap.size w).alloc (Nat.le_refl _) o) hb hc
theorem alloc_newF {w : World} {b i : Nat} {cs : Array Value} {T : TypeId} (hb : b = w.heap.size) : (w.alloc (.cells cs T)).frozen? ⟨b, i, none⟩ = false := by
  rw [World.frozen?_alloc_at _ _ _ _ hb]
theorem alloc_keepF {w : World} {b i : Nat} {o : Obj} {v : Bool} (hb : b < w.heap.size) (hc : w.frozen? ⟨b, i, none⟩ = v) : (w.alloc o).frozen? ⟨b, i, none⟩ = v :=
  keepF ((Below.refl w.heap.size w).alloc (Nat.le_refl _) o) hb hc
structure PairAt (w : World) (b : Nat) (u v : Value) : Prop where
  c0 : w.cell? ⟨b, 0, none⟩ = some u
  c1 : w.cell? ⟨b, 1, none⟩ = some v
theorem PairAt.new (w : World) (u v : Value) (T : TypeId) : PairAt (w.alloc (.cells #[u, v] T)) w.heap.size u v := ⟨alloc_new rfl rfl, alloc_new rfl rfl⟩
theorem PairAt.keep {B b : Nat} {W w1 : World} {u v : Value} (s : PairAt W b u v) (hb : Below B W w1) (h : b < B) : PairAt w1 b u v := ⟨keepB hb h s.c0, keepB hb h s.c1⟩
structure OpenAt (w : World) (b : Nat) : Prop where
  c0 : w.cell? ⟨b, 0, none⟩ = some (cellAt w ⟨b, 0, none⟩)
  c1 : w.cell? ⟨b, 1, none⟩ = some (cellAt w ⟨b, 1, none⟩)
  f0 : w.frozen? ⟨b, 0, none⟩ = false
  f1 : w.frozen? ⟨b, 1, none⟩ = false
theorem OpenAt.new (w : World) (u v : Value) (T : TypeId) : OpenAt (w.alloc (.cells #[u, v] T)) w.heap.size :=
  ⟨cellAt_mk (alloc_new (v := u) rfl rfl), cellAt_mk (alloc_new (v := v) rfl rfl), alloc_newF rfl, alloc_newF rfl⟩
theorem OpenAt.keep {B b : Nat} {W w1 : World} (s : OpenAt W b) (hb : Below B W w1) (h : b < B) : OpenAt w1 b :=
  ⟨keepA hb h s.c0, keepA hb h s.c1, keepF hb h s.f0, keepF hb h s.f1⟩
theorem below_alloc (w : World) (o : Obj) : Below w.heap.size w (w.alloc o) := (Below.refl _ _).alloc (Nat.le_refl _) _
theorem set_other {w : World} {b i j : Nat} {v x : Value} (h : i ≠ j) (hc : w.cell? ⟨b, j, none⟩ = some x) : (w.setCell ⟨b, i, none⟩ v).cell? ⟨b, j, none⟩ = some x := by
  rw [World.cell?_setCell_other _ _ _ _ (fun e => h (by injection e))]; exact hc
theorem set_same {w : World} {b i : Nat} {v x : Value} (hc : w.cell? ⟨b, i, none⟩ = some x) : (w.setCell ⟨b, i, none⟩ v).cell? ⟨b, i, none⟩ = some v :=
  World.cell?_setCell_same' _ _ _ (by rw [hc]; rfl)
theorem cell_far {w : World} {b c i j : Nat} {u v : Value} (h : c ≠ b) (hc : w.cell? ⟨b, i, none⟩ = some v) : (w.setCell ⟨c, j, none⟩ u).cell? ⟨b, i, none⟩ = some v := by
  rw [World.cell?_setCell_far _ _ _ _ (by dsimp only; omega)]; exact hc


/-- is a number between two others? -/
def inB (n a b : Int) : Bool := decide (a ≤ n ∧ n ≤ b)
theorem inB_true {n a b : Int} : inB n a b = true ↔ a ≤ n ∧ n ≤ b := by unfold inB; simp
theorem inB_false {n a b : Int} : inB n a b = false ↔ ¬ (a ≤ n ∧ n ≤ b) := by unfold inB; rw [decide_eq_false_iff_not]
/-- a span that is valid, and within two numbers -/
def spanB (lo hi a b : Int) : Bool := decide (a ≤ lo ∧ lo ≤ hi ∧ hi ≤ b)
theorem spanB_true {lo hi a b : Int} : spanB lo hi a b = true ↔ a ≤ lo ∧ lo ≤ hi ∧ hi ≤ b := by unfold spanB; simp
theorem spanB_false {lo hi a b : Int} : spanB lo hi a b = false ↔ ¬ (a ≤ lo ∧ lo ≤ hi ∧ hi ≤ b) := by unfold spanB; rw [decide_eq_false_iff_not]

set_option maxHeartbeats 400000 in
theorem isIn_any (n a b : Int) (w : World) :
    Calls Try.prog 45 #[.int .i64 n, .int .i64 a, .int .i64 b] w fun e w' => e = .returned (.bool (inB n a b)) ∧ w = w' := by
  by_cases h1 : a ≤ n
  · by_cases h2 : n ≤ b
    · have h : inB n a b = true := inB_true.2 ⟨h1, h2⟩
      rw [h]; clear h
      go_enter Try.func45, Try.ntmps45
      go_wp2
      go_ret
      exact ⟨rfl, rfl⟩
    · have h : inB n a b = false := inB_false.2 (by omega)
      rw [h]; clear h
      go_enter Try.func45, Try.ntmps45
      go_wp2
      go_ret
      exact ⟨rfl, rfl⟩
  · have h : inB n a b = false := inB_false.2 (by omega)
    rw [h]; clear h
    go_enter Try.func45, Try.ntmps45
    go_wp2
    go_ret
    exact ⟨rfl, rfl⟩

set_option maxHeartbeats 400000 in
theorem refIn_any (n a b : Int) (w : World) :
    Calls Try.prog 48 #[.int .i64 n, .int .i64 a, .int .i64 b] w fun e w' => e = .returned (.bool (inB n a b)) ∧ w = w' := by
  by_cases h1 : a ≤ n
  · by_cases h2 : n ≤ b
    · have h : inB n a b = true := inB_true.2 ⟨h1, h2⟩
      rw [h]; clear h
      go_enter Try.func48, Try.ntmps48
      go_wp2
      go_ret
      exact ⟨rfl, rfl⟩
    · have h : inB n a b = false := inB_false.2 (by omega)
      rw [h]; clear h
      go_enter Try.func48, Try.ntmps48
      go_wp2
      go_ret
      exact ⟨rfl, rfl⟩
  · have h : inB n a b = false := inB_false.2 (by omega)
    rw [h]; clear h
    go_enter Try.func48, Try.ntmps48
    go_wp2
    go_ret
    exact ⟨rfl, rfl⟩
theorem floor_pos {a b : Int} (hb : 1 ≤ b) (ha : 0 ≤ a) : 0 ≤ a / b ∧ a / b ≤ a ∧ 0 ≤ a % b := by
  refine ⟨Int.ediv_nonneg ha (by omega), Int.ediv_le_self b ha, Int.emod_nonneg _ (by omega)⟩
theorem tdiv_neg_bd {a b : Int} (hb : 1 ≤ b) (ha : a < 0) : a ≤ a.tdiv b ∧ a.tdiv b ≤ 0 := by
  have h : a.tdiv b = -((-a) / b) := by
    have h1 := Int.neg_tdiv (-a) b
    rw [Int.neg_neg] at h1
    rw [h1, Int.tdiv_eq_ediv_of_nonneg (by omega)]
  have := floor_pos (a := -a) hb (by omega)
  omega
theorem tmod_neg_bd {a b : Int} (hb : 1 ≤ b) (ha : a < 0) : a.tmod b ≤ 0 ∧ -b < a.tmod b := by
  have h1 := Int.neg_tmod (-a) b
  rw [Int.neg_neg] at h1
  have h2 : (-a).tmod b = (-a) % b := Int.tmod_eq_emod_of_nonneg (by omega)
  have h3 := Int.emod_nonneg (-a) (b := b) (by omega)
  have h4 := Int.emod_lt_of_pos (-a) (b := b) (by omega)
  omega
theorem floor_neg {a b : Int} (hb : 1 ≤ b) (ha : a < 0) : (a.tmod b < 0 → a.tdiv b - 1 = a / b) ∧ (¬ a.tmod b < 0 → a.tdiv b = a / b) := by
  have h0 := Int.mul_tdiv_add_tmod a b
  have h1 := tmod_neg_bd hb ha
  refine ⟨fun h => ?_, fun h => ?_⟩
  · have h5 : b * (a.tdiv b - 1) = b * a.tdiv b - b := by rw [Int.mul_sub, Int.mul_one]
    symm
    exact ((Int.ediv_emod_unique (r := a.tmod b + b) (by omega)).2 ⟨by rw [h5]; omega, by omega, by omega⟩).1
  · symm
    exact ((Int.ediv_emod_unique (r := a.tmod b) (by omega)).2 ⟨by omega, by omega, by omega⟩).1
theorem floor_bd {a b : Int} (hb : 1 ≤ b) (ha1 : -1000000000000000000 ≤ a) (ha2 : a ≤ 1000000000000000000) : -1000000000000000000 ≤ a / b ∧ a / b ≤ 1000000000000000000 := by
  have h1 : a / b < 1000000000000000000 + 1 := Int.ediv_lt_of_lt_mul (by omega) (by
    have := Int.mul_le_mul_of_nonneg_left hb (show (0:Int) ≤ 1000000000000000000 + 1 by decide)
    omega)
  have h2 : -1000000000000000000 ≤ a / b := Int.le_ediv_of_mul_le (by omega) (by
    have := Int.mul_le_mul_of_nonneg_left hb (show (0:Int) ≤ 1000000000000000000 by decide)
    omega)
  omega

set_option maxHeartbeats 400000 in
theorem down_any (a b : Int) (w : World) (hb : 1 ≤ b) (ha1 : -1000000000000000000 ≤ a) (ha2 : a ≤ 1000000000000000000) :
    Calls Try.prog 71 #[.int .i64 a, .int .i64 b] w fun e w' => e = .returned (.int .i64 (a / b)) ∧ w = w' := by
  by_cases ha : 0 ≤ a
  · obtain ⟨h1, h2, h3⟩ := floor_pos hb ha
    go_enter Try.func71, Try.ntmps71
    go_wp2
    go_ret
    exact ⟨rfl, rfl⟩
  · obtain ⟨h1, h2⟩ := tdiv_neg_bd (a := a) hb (by omega)
    by_cases h : a.tmod b < 0
    · rw [← (floor_neg hb (by omega)).1 h]
      go_enter Try.func71, Try.ntmps71
      go_wp2
      go_ret
      exact ⟨rfl, rfl⟩
    · rw [← (floor_neg hb (by omega)).2 h]
      go_enter Try.func71, Try.ntmps71
      go_wp2
      go_ret
      exact ⟨rfl, rfl⟩

set_option maxHeartbeats 400000 in
theorem Down_any (a b : Int) (w : World) (hb : 1 ≤ b) (ha1 : -1000000000000000000 ≤ a) (ha2 : a ≤ 1000000000000000000) :
    Calls Try.prog 74 #[.int .i64 a, .int .i64 b] w fun e w' => e = .returned (.int .i64 (a / b)) ∧ w = w' := by
  by_cases ha : 0 ≤ a
  · obtain ⟨h1, h2, h3⟩ := floor_pos hb ha
    go_enter Try.func74, Try.ntmps74
    go_wp2
    go_ret
    exact ⟨rfl, rfl⟩
  · obtain ⟨h1, h2⟩ := tdiv_neg_bd (a := a) hb (by omega)
    by_cases h : a.tmod b < 0
    · rw [← (floor_neg hb (by omega)).1 h]
      go_enter Try.func74, Try.ntmps74
      go_wp2
      go_ret
      exact ⟨rfl, rfl⟩
    · rw [← (floor_neg hb (by omega)).2 h]
      go_enter Try.func74, Try.ntmps74
      go_wp2
      go_ret
      exact ⟨rfl, rfl⟩

set_option maxHeartbeats 400000 in
theorem up_any (a b : Int) (w : World) (hb : 1 ≤ b) (ha1 : -1000000000000000000 ≤ a) (ha2 : a ≤ 1000000000000000000) :
    Calls Try.prog 72 #[.int .i64 a, .int .i64 b] w fun e w' => e = .returned (.int .i64 (-((-a) / b))) ∧ w = w' := by
  obtain ⟨h1, h2⟩ := floor_bd (a := -a) hb (by omega) (by omega)
  go_enter Try.func72, Try.ntmps72
  go_wp2_with (go_at_call 71; refine (down_any _ _ _ hb (by omega) (by omega)).mono ?_; rintro e w' ⟨rfl, rfl⟩)
  go_ret
  exact ⟨rfl, rfl⟩

set_option maxHeartbeats 400000 in
theorem Up_any (a b : Int) (w : World) (hb : 1 ≤ b) (ha1 : -1000000000000000000 ≤ a) (ha2 : a ≤ 1000000000000000000) :
    Calls Try.prog 66 #[.int .i64 a, .int .i64 b] w fun e w' => e = .returned (.int .i64 (-((-a) / b))) ∧ w = w' := by
  obtain ⟨h1, h2⟩ := floor_bd (a := -a) hb (by omega) (by omega)
  go_enter Try.func66, Try.ntmps66
  go_wp2_with (go_at_call 74; refine (Down_any _ _ _ hb (by omega) (by omega)).mono ?_; rintro e w' ⟨rfl, rfl⟩)
  go_ret
  exact ⟨rfl, rfl⟩

set_option maxHeartbeats 800000 in
theorem isWithin_any (lo hi a b : Int) (w : World) :
    Calls Try.prog 49 #[.agg #[.int .i64 lo, .int .i64 hi], .agg #[.int .i64 a, .int .i64 b]] w fun e w' => e = .returned (.bool (spanB lo hi a b)) ∧ Below w.heap.size w w' := by
  by_cases h1 : a ≤ lo <;> by_cases h2 : lo ≤ hi <;> by_cases h3 : hi ≤ b
  · have h : spanB lo hi a b = true := spanB_true.2 ⟨h1, h2, h3⟩
    (rw [h]; clear h; go_enter Try.func49, Try.ntmps49; go_wp2; go_ret; exact ⟨rfl, by repeat (first | exact Below.refl _ _ | (refine Below.alloc ?_ (by simp) _))⟩)
  all_goals
    have h : spanB lo hi a b = false := spanB_false.2 (by omega)
    (rw [h]; clear h; go_enter Try.func49, Try.ntmps49; go_wp2; go_ret; exact ⟨rfl, by repeat (first | exact Below.refl _ _ | (refine Below.alloc ?_ (by simp) _))⟩)

set_option maxHeartbeats 800000 in
theorem Valid_any (lo hi a b : Int) (w : World) :
    Calls Try.prog 50 #[.agg #[.int .i64 lo, .int .i64 hi], .int .i64 a, .int .i64 b] w fun e w' => e = .returned (.bool (spanB lo hi a b)) ∧ Below w.heap.size w w' := by
  by_cases h1 : a ≤ lo <;> by_cases h2 : lo ≤ hi <;> by_cases h3 : hi ≤ b
  · have h : spanB lo hi a b = true := spanB_true.2 ⟨h1, h2, h3⟩
    (rw [h]; clear h; go_enter Try.func50, Try.ntmps50; go_wp2; go_ret; exact ⟨rfl, by repeat (first | exact Below.refl _ _ | (refine Below.alloc ?_ (by simp) _))⟩)
  all_goals
    have h : spanB lo hi a b = false := spanB_false.2 (by omega)
    (rw [h]; clear h; go_enter Try.func50, Try.ntmps50; go_wp2; go_ret; exact ⟨rfl, by repeat (first | exact Below.refl _ _ | (refine Below.alloc ?_ (by simp) _))⟩)

/-- a number modulo a turn -/
theorem mod_bd (a : Int) : 0 ≤ a % 65536 ∧ a % 65536 < 65536 := ⟨Int.emod_nonneg _ (by decide), Int.emod_lt_of_pos _ (by decide)⟩
theorem isPart_any (n : Int) (w : World) : Calls Try.prog 58 #[.int .i64 n] w fun e w' => e = .returned (.bool (inB n 0 65535)) ∧ w = w' := by
  go_enter Try.func58, Try.ntmps58
  go_wp2_with (go_at_call 45; refine (isIn_any _ _ _ _).mono ?_; rintro e w' ⟨rfl, rfl⟩)
  go_ret
  exact ⟨rfl, rfl⟩
theorem modulo_any (a : Int) (w : World) (h1 : -1000000000000 ≤ a) (h2 : a ≤ 1000000000000) : Calls Try.prog 86 #[.int .i64 a] w fun e w' => e = .returned (.int .i64 (a % 65536)) ∧ w = w' := by
  have e0 := Int.mul_ediv_add_emod a 65536
  obtain ⟨m1, m2⟩ := mod_bd a
  have i1 : IntKind.i64.wrap (a / 65536 * 65536) = a / 65536 * 65536 := IntWalk.i64_in _ (by omega)
  have i2 : IntKind.i64.wrap (a - a / 65536 * 65536) = a % 65536 := by rw [IntWalk.i64_in _ (by omega)]; omega
  clear e0
  go_enter Try.func86, Try.ntmps86
  go_wp2_with (go_at_call 71; refine (down_any _ _ _ (by decide) (by omega) (by omega)).mono ?_; rintro e w' ⟨rfl, rfl⟩)
  go_ret
  exact ⟨rfl, rfl⟩
theorem Modulo_any (a : Int) (w : World) (h1 : -1000000000000 ≤ a) (h2 : a ≤ 1000000000000) : Calls Try.prog 87 #[.int .i64 a, .int .i64 65536] w fun e w' => e = .returned (.int .i64 (a % 65536)) ∧ w = w' := by
  have t1 : -65536 < a.tmod 65536 ∧ a.tmod 65536 < 65536 := by
    by_cases h : 0 ≤ a
    · rw [Int.tmod_eq_emod_of_nonneg h]; have := mod_bd a; omega
    · have := tmod_neg_bd (a := a) (b := 65536) (by decide) (by omega); omega
  have t2 : (a.tmod 65536 + 65536).tmod 65536 = a % 65536 := by
    rw [Int.tmod_eq_emod_of_nonneg (by omega), Int.add_emod_right]
    have e1 := Int.mul_tdiv_add_tmod a 65536
    have e2 : a.tmod 65536 = a - 65536 * a.tdiv 65536 := by omega
    rw [e2]
    exact Int.sub_mul_emod_self_left _ _ _
  have i0 : IntKind.i64.wrap (a.tmod 65536) = a.tmod 65536 := IntWalk.i64_in _ (by omega)
  have i1 : IntKind.i64.wrap (a.tmod 65536 + 65536) = a.tmod 65536 + 65536 := IntWalk.i64_in _ (by omega)
  have m := mod_bd a
  have i2 : IntKind.i64.wrap (a % 65536) = a % 65536 := IntWalk.i64_in _ (by omega)
  go_enter Try.func87, Try.ntmps87
  go_wp2
  go_ret
  exact ⟨rfl, rfl⟩
theorem Wrap_any (a : Int) (w : World) (h1 : -1000000000000 ≤ a) (h2 : a ≤ 1000000000000) : Calls Try.prog 60 #[.int .i64 a] w fun e w' => e = .returned (.int .i64 (a % 65536)) ∧ w = w' := by
  go_enter Try.func60, Try.ntmps60
  go_wp2_with (go_at_call 87; refine (Modulo_any _ _ h1 h2).mono ?_; rintro e w' ⟨rfl, rfl⟩)
  go_ret
  exact ⟨rfl, rfl⟩

end Go.Proofs.Ytmojnopgpgnfeaa

namespace Go.Proofs.Ytmojnopgpgnfeaa
open Go.RowKit
set_option linter.unusedVariables false

def one (l f s c : Int) : Prop := 10000 ≤ l ∧ l ≤ 1000000 ∧ 200 ≤ f ∧ f ≤ 5000 ∧ s = 0 ∧ 2 ≤ c ∧ c ≤ 64
def two (l f s c : Int) : Prop := 10000 ≤ l ∧ l ≤ 1000000 ∧ 200 ≤ f ∧ f < s ∧ s ≤ 5000 ∧ 4 ≤ c ∧ c ≤ 64 ∧ c % 2 = 0
def thr (l f s c : Int) : Prop := 10000 ≤ l ∧ l ≤ 1000000 ∧ 200 ≤ f ∧ f < s ∧ s ≤ 5000 ∧ 3 ≤ c ∧ c ≤ 64
instance (l f s c : Int) : Decidable (one l f s c) := by unfold one; infer_instance
instance (l f s c : Int) : Decidable (two l f s c) := by unfold two; infer_instance
instance (l f s c : Int) : Decidable (thr l f s c) := by unfold thr; infer_instance
theorem tmod2 (c : Int) : (0 ≤ c → c.tmod 2 = c % 2) ∧ -2 < c.tmod 2 ∧ c.tmod 2 < 2 := by
  refine ⟨fun h => Int.tmod_eq_emod_of_nonneg h, ?_⟩
  by_cases h : 0 ≤ c
  · rw [Int.tmod_eq_emod_of_nonneg h]; omega
  · have := tmod_neg_bd (a := c) (b := 2) (by decide) (by omega); omega
theorem tmod_zero (c : Int) : c.tmod 2 = 0 ↔ c % 2 = 0 := by
  have e := Int.mul_tdiv_add_tmod c 2
  obtain ⟨_, b1, b2⟩ := tmod2 c
  omega
/-- the error of a train -/
def trainC (l k f s c : Int) : Int := if k = 1 then (if one l f s c then 0 else 3) else if k = 2 then (if two l f s c then 0 else 3) else if k = 3 then (if thr l f s c then 0 else 3) else 2
theorem trainC1 {l f s c : Int} : trainC l 1 f s c = if one l f s c then 0 else 3 := rfl
theorem trainC2 {l f s c : Int} : trainC l 2 f s c = if two l f s c then 0 else 3 := rfl
theorem trainC3 {l f s c : Int} : trainC l 3 f s c = if thr l f s c then 0 else 3 := rfl
theorem trainC0 {l k f s c : Int} (h1 : ¬ k = 1) (h2 : ¬ k = 2) (h3 : ¬ k = 3) : trainC l k f s c = 2 := by unfold trainC; rw [if_neg h1, if_neg h2, if_neg h3]

set_option maxHeartbeats 3200000 in
theorem CheckTrain_1 (l f s c : Int) (w : World) :
    Calls Try.prog 15 #[.agg #[.int .i64 l, .int .i64 1, .int .i64 f, .int .i64 s, .int .i64 c]] w fun e w' => e = .returned (.int .i64 (trainC l 1 f s c)) ∧ Below w.heap.size w w' := by
  by_cases a1 : 10000 ≤ l
  · by_cases a2 : l ≤ 1000000
    · by_cases a3 : 200 ≤ f
      · by_cases a4 : f ≤ 5000
        · by_cases a5 : s = 0
          · by_cases a6 : 2 ≤ c
            · by_cases a7 : c ≤ 64
              · have h : trainC l 1 f s c = 0 := by rw [trainC1, if_pos (by unfold one; omega)]
                rw [h]; clear h
                go_enter Try.func15, Try.ntmps15
                go_wp2
                go_ret
                exact ⟨rfl, by repeat (first | exact Below.refl _ _ | (refine Below.alloc ?_ (by first | (simp; done) | (simp only [World.size_alloc]; omega) | (simp; omega)) _))⟩
              · have h : trainC l 1 f s c = 3 := by rw [trainC1, if_neg (by unfold one; omega)]
                rw [h]; clear h
                go_enter Try.func15, Try.ntmps15
                go_wp2
                go_ret
                exact ⟨rfl, by repeat (first | exact Below.refl _ _ | (refine Below.alloc ?_ (by first | (simp; done) | (simp only [World.size_alloc]; omega) | (simp; omega)) _))⟩
            · have h : trainC l 1 f s c = 3 := by rw [trainC1, if_neg (by unfold one; omega)]
              rw [h]; clear h
              go_enter Try.func15, Try.ntmps15
              go_wp2
              go_ret
              exact ⟨rfl, by repeat (first | exact Below.refl _ _ | (refine Below.alloc ?_ (by first | (simp; done) | (simp only [World.size_alloc]; omega) | (simp; omega)) _))⟩
          · have h : trainC l 1 f s c = 3 := by rw [trainC1, if_neg (by unfold one; omega)]
            rw [h]; clear h
            go_enter Try.func15, Try.ntmps15
            go_wp2
            go_ret
            exact ⟨rfl, by repeat (first | exact Below.refl _ _ | (refine Below.alloc ?_ (by first | (simp; done) | (simp only [World.size_alloc]; omega) | (simp; omega)) _))⟩
        · have h : trainC l 1 f s c = 3 := by rw [trainC1, if_neg (by unfold one; omega)]
          rw [h]; clear h
          go_enter Try.func15, Try.ntmps15
          go_wp2
          go_ret
          exact ⟨rfl, by repeat (first | exact Below.refl _ _ | (refine Below.alloc ?_ (by first | (simp; done) | (simp only [World.size_alloc]; omega) | (simp; omega)) _))⟩
      · have h : trainC l 1 f s c = 3 := by rw [trainC1, if_neg (by unfold one; omega)]
        rw [h]; clear h
        go_enter Try.func15, Try.ntmps15
        go_wp2
        go_ret
        exact ⟨rfl, by repeat (first | exact Below.refl _ _ | (refine Below.alloc ?_ (by first | (simp; done) | (simp only [World.size_alloc]; omega) | (simp; omega)) _))⟩
    · have h : trainC l 1 f s c = 3 := by rw [trainC1, if_neg (by unfold one; omega)]
      rw [h]; clear h
      go_enter Try.func15, Try.ntmps15
      go_wp2
      go_ret
      exact ⟨rfl, by repeat (first | exact Below.refl _ _ | (refine Below.alloc ?_ (by first | (simp; done) | (simp only [World.size_alloc]; omega) | (simp; omega)) _))⟩
  · have h : trainC l 1 f s c = 3 := by rw [trainC1, if_neg (by unfold one; omega)]
    rw [h]; clear h
    go_enter Try.func15, Try.ntmps15
    go_wp2
    go_ret
    exact ⟨rfl, by repeat (first | exact Below.refl _ _ | (refine Below.alloc ?_ (by first | (simp; done) | (simp only [World.size_alloc]; omega) | (simp; omega)) _))⟩

set_option maxHeartbeats 3200000 in
theorem CheckTrain_2 (l f s c : Int) (w : World) :
    Calls Try.prog 15 #[.agg #[.int .i64 l, .int .i64 2, .int .i64 f, .int .i64 s, .int .i64 c]] w fun e w' => e = .returned (.int .i64 (trainC l 2 f s c)) ∧ Below w.heap.size w w' := by
  by_cases a1 : 10000 ≤ l
  · by_cases a2 : l ≤ 1000000
    · by_cases a3 : 200 ≤ f
      · by_cases a4 : f < s
        · by_cases a5 : s ≤ 5000
          · by_cases a6 : 4 ≤ c
            · by_cases a7 : c ≤ 64
              · by_cases a8 : c % 2 = 0
                · have h : trainC l 2 f s c = 0 := by rw [trainC2, if_pos (by unfold two; omega)]
                  rw [h]; clear h
                  have t1 := (tmod2 c).1 (by omega)
                  have t4 : (c.tmod 2 == 0) = true := by rw [beq_iff_eq]; omega
                  have t5 : (c % 2 == 0) = true := by rw [beq_iff_eq]; omega
                  have t6 : (c.tmod 2 != 0) = false := by rw [bne_eq_false_iff_eq]; omega
                  have t7 : (c % 2 != 0) = false := by rw [bne_eq_false_iff_eq]; omega
                  have i1 : IntKind.i64.wrap (c.tmod 2) = c.tmod 2 := IntWalk.i64_in _ (by omega)
                  have i2 : IntKind.i64.wrap (c % 2) = c % 2 := IntWalk.i64_in _ (by omega)
                  clear t1
                  go_enter Try.func15, Try.ntmps15
                  go_wp2
                  go_ret
                  exact ⟨rfl, by repeat (first | exact Below.refl _ _ | (refine Below.alloc ?_ (by first | (simp; done) | (simp only [World.size_alloc]; omega) | (simp; omega)) _))⟩
                · have h : trainC l 2 f s c = 3 := by rw [trainC2, if_neg (by unfold two; omega)]
                  rw [h]; clear h
                  have t1 := (tmod2 c).1 (by omega)
                  have t4 : (c.tmod 2 == 0) = false := by rw [beq_eq_false_iff_ne]; omega
                  have t5 : (c % 2 == 0) = false := by rw [beq_eq_false_iff_ne]; omega
                  have t6 : (c.tmod 2 != 0) = true := by rw [bne_iff_ne]; omega
                  have t7 : (c % 2 != 0) = true := by rw [bne_iff_ne]; omega
                  have i1 : IntKind.i64.wrap (c.tmod 2) = c.tmod 2 := IntWalk.i64_in _ (by omega)
                  have i2 : IntKind.i64.wrap (c % 2) = c % 2 := IntWalk.i64_in _ (by omega)
                  clear t1
                  go_enter Try.func15, Try.ntmps15
                  go_wp2
                  go_ret
                  exact ⟨rfl, by repeat (first | exact Below.refl _ _ | (refine Below.alloc ?_ (by first | (simp; done) | (simp only [World.size_alloc]; omega) | (simp; omega)) _))⟩
              · have h : trainC l 2 f s c = 3 := by rw [trainC2, if_neg (by unfold two; omega)]
                rw [h]; clear h
                go_enter Try.func15, Try.ntmps15
                go_wp2
                go_ret
                exact ⟨rfl, by repeat (first | exact Below.refl _ _ | (refine Below.alloc ?_ (by first | (simp; done) | (simp only [World.size_alloc]; omega) | (simp; omega)) _))⟩
            · have h : trainC l 2 f s c = 3 := by rw [trainC2, if_neg (by unfold two; omega)]
              rw [h]; clear h
              go_enter Try.func15, Try.ntmps15
              go_wp2
              go_ret
              exact ⟨rfl, by repeat (first | exact Below.refl _ _ | (refine Below.alloc ?_ (by first | (simp; done) | (simp only [World.size_alloc]; omega) | (simp; omega)) _))⟩
          · have h : trainC l 2 f s c = 3 := by rw [trainC2, if_neg (by unfold two; omega)]
            rw [h]; clear h
            go_enter Try.func15, Try.ntmps15
            go_wp2
            go_ret
            exact ⟨rfl, by repeat (first | exact Below.refl _ _ | (refine Below.alloc ?_ (by first | (simp; done) | (simp only [World.size_alloc]; omega) | (simp; omega)) _))⟩
        · have h : trainC l 2 f s c = 3 := by rw [trainC2, if_neg (by unfold two; omega)]
          rw [h]; clear h
          go_enter Try.func15, Try.ntmps15
          go_wp2
          go_ret
          exact ⟨rfl, by repeat (first | exact Below.refl _ _ | (refine Below.alloc ?_ (by first | (simp; done) | (simp only [World.size_alloc]; omega) | (simp; omega)) _))⟩
      · have h : trainC l 2 f s c = 3 := by rw [trainC2, if_neg (by unfold two; omega)]
        rw [h]; clear h
        go_enter Try.func15, Try.ntmps15
        go_wp2
        go_ret
        exact ⟨rfl, by repeat (first | exact Below.refl _ _ | (refine Below.alloc ?_ (by first | (simp; done) | (simp only [World.size_alloc]; omega) | (simp; omega)) _))⟩
    · have h : trainC l 2 f s c = 3 := by rw [trainC2, if_neg (by unfold two; omega)]
      rw [h]; clear h
      go_enter Try.func15, Try.ntmps15
      go_wp2
      go_ret
      exact ⟨rfl, by repeat (first | exact Below.refl _ _ | (refine Below.alloc ?_ (by first | (simp; done) | (simp only [World.size_alloc]; omega) | (simp; omega)) _))⟩
  · have h : trainC l 2 f s c = 3 := by rw [trainC2, if_neg (by unfold two; omega)]
    rw [h]; clear h
    go_enter Try.func15, Try.ntmps15
    go_wp2
    go_ret
    exact ⟨rfl, by repeat (first | exact Below.refl _ _ | (refine Below.alloc ?_ (by first | (simp; done) | (simp only [World.size_alloc]; omega) | (simp; omega)) _))⟩

set_option maxHeartbeats 3200000 in
theorem CheckTrain_3 (l f s c : Int) (w : World) :
    Calls Try.prog 15 #[.agg #[.int .i64 l, .int .i64 3, .int .i64 f, .int .i64 s, .int .i64 c]] w fun e w' => e = .returned (.int .i64 (trainC l 3 f s c)) ∧ Below w.heap.size w w' := by
  by_cases a1 : 10000 ≤ l
  · by_cases a2 : l ≤ 1000000
    · by_cases a3 : 200 ≤ f
      · by_cases a4 : f < s
        · by_cases a5 : s ≤ 5000
          · by_cases a6 : 3 ≤ c
            · by_cases a7 : c ≤ 64
              · have h : trainC l 3 f s c = 0 := by rw [trainC3, if_pos (by unfold thr; omega)]
                rw [h]; clear h
                go_enter Try.func15, Try.ntmps15
                go_wp2
                go_ret
                exact ⟨rfl, by repeat (first | exact Below.refl _ _ | (refine Below.alloc ?_ (by first | (simp; done) | (simp only [World.size_alloc]; omega) | (simp; omega)) _))⟩
              · have h : trainC l 3 f s c = 3 := by rw [trainC3, if_neg (by unfold thr; omega)]
                rw [h]; clear h
                go_enter Try.func15, Try.ntmps15
                go_wp2
                go_ret
                exact ⟨rfl, by repeat (first | exact Below.refl _ _ | (refine Below.alloc ?_ (by first | (simp; done) | (simp only [World.size_alloc]; omega) | (simp; omega)) _))⟩
            · have h : trainC l 3 f s c = 3 := by rw [trainC3, if_neg (by unfold thr; omega)]
              rw [h]; clear h
              go_enter Try.func15, Try.ntmps15
              go_wp2
              go_ret
              exact ⟨rfl, by repeat (first | exact Below.refl _ _ | (refine Below.alloc ?_ (by first | (simp; done) | (simp only [World.size_alloc]; omega) | (simp; omega)) _))⟩
          · have h : trainC l 3 f s c = 3 := by rw [trainC3, if_neg (by unfold thr; omega)]
            rw [h]; clear h
            go_enter Try.func15, Try.ntmps15
            go_wp2
            go_ret
            exact ⟨rfl, by repeat (first | exact Below.refl _ _ | (refine Below.alloc ?_ (by first | (simp; done) | (simp only [World.size_alloc]; omega) | (simp; omega)) _))⟩
        · have h : trainC l 3 f s c = 3 := by rw [trainC3, if_neg (by unfold thr; omega)]
          rw [h]; clear h
          go_enter Try.func15, Try.ntmps15
          go_wp2
          go_ret
          exact ⟨rfl, by repeat (first | exact Below.refl _ _ | (refine Below.alloc ?_ (by first | (simp; done) | (simp only [World.size_alloc]; omega) | (simp; omega)) _))⟩
      · have h : trainC l 3 f s c = 3 := by rw [trainC3, if_neg (by unfold thr; omega)]
        rw [h]; clear h
        go_enter Try.func15, Try.ntmps15
        go_wp2
        go_ret
        exact ⟨rfl, by repeat (first | exact Below.refl _ _ | (refine Below.alloc ?_ (by first | (simp; done) | (simp only [World.size_alloc]; omega) | (simp; omega)) _))⟩
    · have h : trainC l 3 f s c = 3 := by rw [trainC3, if_neg (by unfold thr; omega)]
      rw [h]; clear h
      go_enter Try.func15, Try.ntmps15
      go_wp2
      go_ret
      exact ⟨rfl, by repeat (first | exact Below.refl _ _ | (refine Below.alloc ?_ (by first | (simp; done) | (simp only [World.size_alloc]; omega) | (simp; omega)) _))⟩
  · have h : trainC l 3 f s c = 3 := by rw [trainC3, if_neg (by unfold thr; omega)]
    rw [h]; clear h
    go_enter Try.func15, Try.ntmps15
    go_wp2
    go_ret
    exact ⟨rfl, by repeat (first | exact Below.refl _ _ | (refine Below.alloc ?_ (by first | (simp; done) | (simp only [World.size_alloc]; omega) | (simp; omega)) _))⟩

set_option maxHeartbeats 3200000 in
theorem refCheckTrain_1 (l f s c : Int) (w : World) :
    Calls Try.prog 16 #[.agg #[.int .i64 l, .int .i64 1, .int .i64 f, .int .i64 s, .int .i64 c]] w fun e w' => e = .returned (.int .i64 (trainC l 1 f s c)) ∧ Below w.heap.size w w' := by
  by_cases a1 : 10000 ≤ l
  · by_cases a2 : l ≤ 1000000
    · by_cases a3 : 200 ≤ f
      · by_cases a4 : f ≤ 5000
        · by_cases a5 : s = 0
          · by_cases a6 : 2 ≤ c
            · by_cases a7 : c ≤ 64
              · have h : trainC l 1 f s c = 0 := by rw [trainC1, if_pos (by unfold one; omega)]
                rw [h]; clear h
                go_enter Try.func16, Try.ntmps16
                go_wp2
                go_ret
                exact ⟨rfl, by repeat (first | exact Below.refl _ _ | (refine Below.alloc ?_ (by first | (simp; done) | (simp only [World.size_alloc]; omega) | (simp; omega)) _))⟩
              · have h : trainC l 1 f s c = 3 := by rw [trainC1, if_neg (by unfold one; omega)]
                rw [h]; clear h
                go_enter Try.func16, Try.ntmps16
                go_wp2
                go_ret
                exact ⟨rfl, by repeat (first | exact Below.refl _ _ | (refine Below.alloc ?_ (by first | (simp; done) | (simp only [World.size_alloc]; omega) | (simp; omega)) _))⟩
            · have h : trainC l 1 f s c = 3 := by rw [trainC1, if_neg (by unfold one; omega)]
              rw [h]; clear h
              go_enter Try.func16, Try.ntmps16
              go_wp2
              go_ret
              exact ⟨rfl, by repeat (first | exact Below.refl _ _ | (refine Below.alloc ?_ (by first | (simp; done) | (simp only [World.size_alloc]; omega) | (simp; omega)) _))⟩
          · have h : trainC l 1 f s c = 3 := by rw [trainC1, if_neg (by unfold one; omega)]
            rw [h]; clear h
            have t9 : (s != 0) = true := bne_iff_ne.2 a5
            go_enter Try.func16, Try.ntmps16
            go_wp2
            go_ret
            exact ⟨rfl, by repeat (first | exact Below.refl _ _ | (refine Below.alloc ?_ (by first | (simp; done) | (simp only [World.size_alloc]; omega) | (simp; omega)) _))⟩
        · have h : trainC l 1 f s c = 3 := by rw [trainC1, if_neg (by unfold one; omega)]
          rw [h]; clear h
          go_enter Try.func16, Try.ntmps16
          go_wp2
          go_ret
          exact ⟨rfl, by repeat (first | exact Below.refl _ _ | (refine Below.alloc ?_ (by first | (simp; done) | (simp only [World.size_alloc]; omega) | (simp; omega)) _))⟩
      · have h : trainC l 1 f s c = 3 := by rw [trainC1, if_neg (by unfold one; omega)]
        rw [h]; clear h
        go_enter Try.func16, Try.ntmps16
        go_wp2
        go_ret
        exact ⟨rfl, by repeat (first | exact Below.refl _ _ | (refine Below.alloc ?_ (by first | (simp; done) | (simp only [World.size_alloc]; omega) | (simp; omega)) _))⟩
    · have h : trainC l 1 f s c = 3 := by rw [trainC1, if_neg (by unfold one; omega)]
      rw [h]; clear h
      go_enter Try.func16, Try.ntmps16
      go_wp2
      go_ret
      exact ⟨rfl, by repeat (first | exact Below.refl _ _ | (refine Below.alloc ?_ (by first | (simp; done) | (simp only [World.size_alloc]; omega) | (simp; omega)) _))⟩
  · have h : trainC l 1 f s c = 3 := by rw [trainC1, if_neg (by unfold one; omega)]
    rw [h]; clear h
    go_enter Try.func16, Try.ntmps16
    go_wp2
    go_ret
    exact ⟨rfl, by repeat (first | exact Below.refl _ _ | (refine Below.alloc ?_ (by first | (simp; done) | (simp only [World.size_alloc]; omega) | (simp; omega)) _))⟩

set_option maxHeartbeats 3200000 in
theorem refCheckTrain_2 (l f s c : Int) (w : World) :
    Calls Try.prog 16 #[.agg #[.int .i64 l, .int .i64 2, .int .i64 f, .int .i64 s, .int .i64 c]] w fun e w' => e = .returned (.int .i64 (trainC l 2 f s c)) ∧ Below w.heap.size w w' := by
  by_cases a1 : 10000 ≤ l
  · by_cases a2 : l ≤ 1000000
    · by_cases a3 : 200 ≤ f
      · by_cases a0 : f ≤ 5000
        · by_cases a8 : c % 2 = 0
          · by_cases b1 : 200 ≤ s
            · by_cases a5 : s ≤ 5000
              · by_cases a4 : f < s
                · by_cases a6 : 4 ≤ c
                  · by_cases a7 : c ≤ 64
                    · have h : trainC l 2 f s c = 0 := by rw [trainC2, if_pos (by unfold two; omega)]
                      rw [h]; clear h
                      obtain ⟨_, t2, t3⟩ := tmod2 c
                      have t0 : (c.tmod 2 = 0 ↔ c % 2 = 0) := tmod_zero c
                      have t6 : (c.tmod 2 != 0) = false := by rw [bne_eq_false_iff_eq]; omega
                      have t7 : (c % 2 != 0) = false := by rw [bne_eq_false_iff_eq]; omega
                      have i1 : IntKind.i64.wrap (c.tmod 2) = c.tmod 2 := IntWalk.i64_in _ (by omega)
                      have i2 : IntKind.i64.wrap (c % 2) = c % 2 := IntWalk.i64_in _ (by omega)
                      clear t0 t2 t3
                      go_enter Try.func16, Try.ntmps16
                      go_wp2
                      go_ret
                      exact ⟨rfl, by repeat (first | exact Below.refl _ _ | (refine Below.alloc ?_ (by first | (simp; done) | (simp only [World.size_alloc]; omega) | (simp; omega)) _))⟩
                    · have h : trainC l 2 f s c = 3 := by rw [trainC2, if_neg (by unfold two; omega)]
                      rw [h]; clear h
                      obtain ⟨_, t2, t3⟩ := tmod2 c
                      have t0 : (c.tmod 2 = 0 ↔ c % 2 = 0) := tmod_zero c
                      have t6 : (c.tmod 2 != 0) = false := by rw [bne_eq_false_iff_eq]; omega
                      have t7 : (c % 2 != 0) = false := by rw [bne_eq_false_iff_eq]; omega
                      have i1 : IntKind.i64.wrap (c.tmod 2) = c.tmod 2 := IntWalk.i64_in _ (by omega)
                      have i2 : IntKind.i64.wrap (c % 2) = c % 2 := IntWalk.i64_in _ (by omega)
                      clear t0 t2 t3
                      go_enter Try.func16, Try.ntmps16
                      go_wp2
                      go_ret
                      exact ⟨rfl, by repeat (first | exact Below.refl _ _ | (refine Below.alloc ?_ (by first | (simp; done) | (simp only [World.size_alloc]; omega) | (simp; omega)) _))⟩
                  · have h : trainC l 2 f s c = 3 := by rw [trainC2, if_neg (by unfold two; omega)]
                    rw [h]; clear h
                    obtain ⟨_, t2, t3⟩ := tmod2 c
                    have t0 : (c.tmod 2 = 0 ↔ c % 2 = 0) := tmod_zero c
                    have t6 : (c.tmod 2 != 0) = false := by rw [bne_eq_false_iff_eq]; omega
                    have t7 : (c % 2 != 0) = false := by rw [bne_eq_false_iff_eq]; omega
                    have i1 : IntKind.i64.wrap (c.tmod 2) = c.tmod 2 := IntWalk.i64_in _ (by omega)
                    have i2 : IntKind.i64.wrap (c % 2) = c % 2 := IntWalk.i64_in _ (by omega)
                    clear t0 t2 t3
                    go_enter Try.func16, Try.ntmps16
                    go_wp2
                    go_ret
                    exact ⟨rfl, by repeat (first | exact Below.refl _ _ | (refine Below.alloc ?_ (by first | (simp; done) | (simp only [World.size_alloc]; omega) | (simp; omega)) _))⟩
                · have h : trainC l 2 f s c = 3 := by rw [trainC2, if_neg (by unfold two; omega)]
                  rw [h]; clear h
                  obtain ⟨_, t2, t3⟩ := tmod2 c
                  have t0 : (c.tmod 2 = 0 ↔ c % 2 = 0) := tmod_zero c
                  have t6 : (c.tmod 2 != 0) = false := by rw [bne_eq_false_iff_eq]; omega
                  have t7 : (c % 2 != 0) = false := by rw [bne_eq_false_iff_eq]; omega
                  have i1 : IntKind.i64.wrap (c.tmod 2) = c.tmod 2 := IntWalk.i64_in _ (by omega)
                  have i2 : IntKind.i64.wrap (c % 2) = c % 2 := IntWalk.i64_in _ (by omega)
                  clear t0 t2 t3
                  go_enter Try.func16, Try.ntmps16
                  go_wp2
                  go_ret
                  exact ⟨rfl, by repeat (first | exact Below.refl _ _ | (refine Below.alloc ?_ (by first | (simp; done) | (simp only [World.size_alloc]; omega) | (simp; omega)) _))⟩
              · have h : trainC l 2 f s c = 3 := by rw [trainC2, if_neg (by unfold two; omega)]
                rw [h]; clear h
                obtain ⟨_, t2, t3⟩ := tmod2 c
                have t0 : (c.tmod 2 = 0 ↔ c % 2 = 0) := tmod_zero c
                have t6 : (c.tmod 2 != 0) = false := by rw [bne_eq_false_iff_eq]; omega
                have t7 : (c % 2 != 0) = false := by rw [bne_eq_false_iff_eq]; omega
                have i1 : IntKind.i64.wrap (c.tmod 2) = c.tmod 2 := IntWalk.i64_in _ (by omega)
                have i2 : IntKind.i64.wrap (c % 2) = c % 2 := IntWalk.i64_in _ (by omega)
                clear t0 t2 t3
                go_enter Try.func16, Try.ntmps16
                go_wp2
                go_ret
                exact ⟨rfl, by repeat (first | exact Below.refl _ _ | (refine Below.alloc ?_ (by first | (simp; done) | (simp only [World.size_alloc]; omega) | (simp; omega)) _))⟩
            · have h : trainC l 2 f s c = 3 := by rw [trainC2, if_neg (by unfold two; omega)]
              rw [h]; clear h
              obtain ⟨_, t2, t3⟩ := tmod2 c
              have t0 : (c.tmod 2 = 0 ↔ c % 2 = 0) := tmod_zero c
              have t6 : (c.tmod 2 != 0) = false := by rw [bne_eq_false_iff_eq]; omega
              have t7 : (c % 2 != 0) = false := by rw [bne_eq_false_iff_eq]; omega
              have i1 : IntKind.i64.wrap (c.tmod 2) = c.tmod 2 := IntWalk.i64_in _ (by omega)
              have i2 : IntKind.i64.wrap (c % 2) = c % 2 := IntWalk.i64_in _ (by omega)
              clear t0 t2 t3
              go_enter Try.func16, Try.ntmps16
              go_wp2
              go_ret
              exact ⟨rfl, by repeat (first | exact Below.refl _ _ | (refine Below.alloc ?_ (by first | (simp; done) | (simp only [World.size_alloc]; omega) | (simp; omega)) _))⟩
          · have h : trainC l 2 f s c = 3 := by rw [trainC2, if_neg (by unfold two; omega)]
            rw [h]; clear h
            obtain ⟨_, t2, t3⟩ := tmod2 c
            have t0 : (c.tmod 2 = 0 ↔ c % 2 = 0) := tmod_zero c
            have t6 : (c.tmod 2 != 0) = true := by rw [bne_iff_ne]; omega
            have t7 : (c % 2 != 0) = true := by rw [bne_iff_ne]; omega
            have i1 : IntKind.i64.wrap (c.tmod 2) = c.tmod 2 := IntWalk.i64_in _ (by omega)
            have i2 : IntKind.i64.wrap (c % 2) = c % 2 := IntWalk.i64_in _ (by omega)
            clear t0 t2 t3
            go_enter Try.func16, Try.ntmps16
            go_wp2
            go_ret
            exact ⟨rfl, by repeat (first | exact Below.refl _ _ | (refine Below.alloc ?_ (by first | (simp; done) | (simp only [World.size_alloc]; omega) | (simp; omega)) _))⟩
        · have h : trainC l 2 f s c = 3 := by rw [trainC2, if_neg (by unfold two; omega)]
          rw [h]; clear h
          go_enter Try.func16, Try.ntmps16
          go_wp2
          go_ret
          exact ⟨rfl, by repeat (first | exact Below.refl _ _ | (refine Below.alloc ?_ (by first | (simp; done) | (simp only [World.size_alloc]; omega) | (simp; omega)) _))⟩
      · have h : trainC l 2 f s c = 3 := by rw [trainC2, if_neg (by unfold two; omega)]
        rw [h]; clear h
        go_enter Try.func16, Try.ntmps16
        go_wp2
        go_ret
        exact ⟨rfl, by repeat (first | exact Below.refl _ _ | (refine Below.alloc ?_ (by first | (simp; done) | (simp only [World.size_alloc]; omega) | (simp; omega)) _))⟩
    · have h : trainC l 2 f s c = 3 := by rw [trainC2, if_neg (by unfold two; omega)]
      rw [h]; clear h
      go_enter Try.func16, Try.ntmps16
      go_wp2
      go_ret
      exact ⟨rfl, by repeat (first | exact Below.refl _ _ | (refine Below.alloc ?_ (by first | (simp; done) | (simp only [World.size_alloc]; omega) | (simp; omega)) _))⟩
  · have h : trainC l 2 f s c = 3 := by rw [trainC2, if_neg (by unfold two; omega)]
    rw [h]; clear h
    go_enter Try.func16, Try.ntmps16
    go_wp2
    go_ret
    exact ⟨rfl, by repeat (first | exact Below.refl _ _ | (refine Below.alloc ?_ (by first | (simp; done) | (simp only [World.size_alloc]; omega) | (simp; omega)) _))⟩

set_option maxHeartbeats 3200000 in
theorem refCheckTrain_3 (l f s c : Int) (w : World) :
    Calls Try.prog 16 #[.agg #[.int .i64 l, .int .i64 3, .int .i64 f, .int .i64 s, .int .i64 c]] w fun e w' => e = .returned (.int .i64 (trainC l 3 f s c)) ∧ Below w.heap.size w w' := by
  by_cases a1 : 10000 ≤ l
  · by_cases a2 : l ≤ 1000000
    · by_cases a3 : 200 ≤ f
      · by_cases a0 : f ≤ 5000
        · by_cases b1 : 200 ≤ s
          · by_cases a5 : s ≤ 5000
            · by_cases a4 : f < s
              · by_cases a6 : 3 ≤ c
                · by_cases a7 : c ≤ 64
                  · have h : trainC l 3 f s c = 0 := by rw [trainC3, if_pos (by unfold thr; omega)]
                    rw [h]; clear h
                    go_enter Try.func16, Try.ntmps16
                    go_wp2
                    go_ret
                    exact ⟨rfl, by repeat (first | exact Below.refl _ _ | (refine Below.alloc ?_ (by first | (simp; done) | (simp only [World.size_alloc]; omega) | (simp; omega)) _))⟩
                  · have h : trainC l 3 f s c = 3 := by rw [trainC3, if_neg (by unfold thr; omega)]
                    rw [h]; clear h
                    go_enter Try.func16, Try.ntmps16
                    go_wp2
                    go_ret
                    exact ⟨rfl, by repeat (first | exact Below.refl _ _ | (refine Below.alloc ?_ (by first | (simp; done) | (simp only [World.size_alloc]; omega) | (simp; omega)) _))⟩
                · have h : trainC l 3 f s c = 3 := by rw [trainC3, if_neg (by unfold thr; omega)]
                  rw [h]; clear h
                  go_enter Try.func16, Try.ntmps16
                  go_wp2
                  go_ret
                  exact ⟨rfl, by repeat (first | exact Below.refl _ _ | (refine Below.alloc ?_ (by first | (simp; done) | (simp only [World.size_alloc]; omega) | (simp; omega)) _))⟩
              · have h : trainC l 3 f s c = 3 := by rw [trainC3, if_neg (by unfold thr; omega)]
                rw [h]; clear h
                go_enter Try.func16, Try.ntmps16
                go_wp2
                go_ret
                exact ⟨rfl, by repeat (first | exact Below.refl _ _ | (refine Below.alloc ?_ (by first | (simp; done) | (simp only [World.size_alloc]; omega) | (simp; omega)) _))⟩
            · have h : trainC l 3 f s c = 3 := by rw [trainC3, if_neg (by unfold thr; omega)]
              rw [h]; clear h
              go_enter Try.func16, Try.ntmps16
              go_wp2
              go_ret
              exact ⟨rfl, by repeat (first | exact Below.refl _ _ | (refine Below.alloc ?_ (by first | (simp; done) | (simp only [World.size_alloc]; omega) | (simp; omega)) _))⟩
          · have h : trainC l 3 f s c = 3 := by rw [trainC3, if_neg (by unfold thr; omega)]
            rw [h]; clear h
            go_enter Try.func16, Try.ntmps16
            go_wp2
            go_ret
            exact ⟨rfl, by repeat (first | exact Below.refl _ _ | (refine Below.alloc ?_ (by first | (simp; done) | (simp only [World.size_alloc]; omega) | (simp; omega)) _))⟩
        · have h : trainC l 3 f s c = 3 := by rw [trainC3, if_neg (by unfold thr; omega)]
          rw [h]; clear h
          go_enter Try.func16, Try.ntmps16
          go_wp2
          go_ret
          exact ⟨rfl, by repeat (first | exact Below.refl _ _ | (refine Below.alloc ?_ (by first | (simp; done) | (simp only [World.size_alloc]; omega) | (simp; omega)) _))⟩
      · have h : trainC l 3 f s c = 3 := by rw [trainC3, if_neg (by unfold thr; omega)]
        rw [h]; clear h
        go_enter Try.func16, Try.ntmps16
        go_wp2
        go_ret
        exact ⟨rfl, by repeat (first | exact Below.refl _ _ | (refine Below.alloc ?_ (by first | (simp; done) | (simp only [World.size_alloc]; omega) | (simp; omega)) _))⟩
    · have h : trainC l 3 f s c = 3 := by rw [trainC3, if_neg (by unfold thr; omega)]
      rw [h]; clear h
      go_enter Try.func16, Try.ntmps16
      go_wp2
      go_ret
      exact ⟨rfl, by repeat (first | exact Below.refl _ _ | (refine Below.alloc ?_ (by first | (simp; done) | (simp only [World.size_alloc]; omega) | (simp; omega)) _))⟩
  · have h : trainC l 3 f s c = 3 := by rw [trainC3, if_neg (by unfold thr; omega)]
    rw [h]; clear h
    go_enter Try.func16, Try.ntmps16
    go_wp2
    go_ret
    exact ⟨rfl, by repeat (first | exact Below.refl _ _ | (refine Below.alloc ?_ (by first | (simp; done) | (simp only [World.size_alloc]; omega) | (simp; omega)) _))⟩

set_option maxHeartbeats 3200000 in
theorem CheckTrain_0 (l k f s c : Int) (w : World) (h1 : ¬ k = 1) (h2 : ¬ k = 2) (h3 : ¬ k = 3) :
    Calls Try.prog 15 #[.agg #[.int .i64 l, .int .i64 k, .int .i64 f, .int .i64 s, .int .i64 c]] w fun e w' => e = .returned (.int .i64 (trainC l k f s c)) ∧ Below w.heap.size w w' := by
  rw [trainC0 h1 h2 h3]
  have e1 : (k != 1) = true := bne_iff_ne.2 h1
  have e2 : (k != 2) = true := bne_iff_ne.2 h2
  have e3 : (k != 3) = true := bne_iff_ne.2 h3
  go_enter Try.func15, Try.ntmps15
  go_wp2
  go_ret
  exact ⟨rfl, below_alloc _ _⟩

set_option maxHeartbeats 3200000 in
theorem refCheckTrain_0 (l k f s c : Int) (w : World) (h1 : ¬ k = 1) (h2 : ¬ k = 2) (h3 : ¬ k = 3) :
    Calls Try.prog 16 #[.agg #[.int .i64 l, .int .i64 k, .int .i64 f, .int .i64 s, .int .i64 c]] w fun e w' => e = .returned (.int .i64 (trainC l k f s c)) ∧ Below w.heap.size w w' := by
  rw [trainC0 h1 h2 h3]
  have e1 : (k != 1) = true := bne_iff_ne.2 h1
  have e2 : (k != 2) = true := bne_iff_ne.2 h2
  have e3 : (k != 3) = true := bne_iff_ne.2 h3
  go_enter Try.func16, Try.ntmps16
  go_wp2
  go_ret
  exact ⟨rfl, below_alloc _ _⟩

theorem CheckTrain_any (l k f s c : Int) (w : World) : Calls Try.prog 15 #[.agg #[.int .i64 l, .int .i64 k, .int .i64 f, .int .i64 s, .int .i64 c]] w fun e w' => e = .returned (.int .i64 (trainC l k f s c)) ∧ Below w.heap.size w w' := by
  by_cases h1 : k = 1
  · subst h1; exact CheckTrain_1 l f s c w
  by_cases h2 : k = 2
  · subst h2; exact CheckTrain_2 l f s c w
  by_cases h3 : k = 3
  · subst h3; exact CheckTrain_3 l f s c w
  exact CheckTrain_0 l k f s c w h1 h2 h3

theorem refCheckTrain_any (l k f s c : Int) (w : World) : Calls Try.prog 16 #[.agg #[.int .i64 l, .int .i64 k, .int .i64 f, .int .i64 s, .int .i64 c]] w fun e w' => e = .returned (.int .i64 (trainC l k f s c)) ∧ Below w.heap.size w w' := by
  by_cases h1 : k = 1
  · subst h1; exact refCheckTrain_1 l f s c w
  by_cases h2 : k = 2
  · subst h2; exact refCheckTrain_2 l f s c w
  by_cases h3 : k = 3
  · subst h3; exact refCheckTrain_3 l f s c w
  exact refCheckTrain_0 l k f s c w h1 h2 h3

def rcv (lv ph lo hi : Int) : Prop := 0 ≤ lv ∧ lv ≤ 64 ∧ 0 ≤ ph ∧ ph ≤ 4096 ∧ 0 ≤ lo ∧ lo ≤ hi ∧ hi ≤ 1048576
instance (lv ph lo hi : Int) : Decidable (rcv lv ph lo hi) := by unfold rcv; infer_instance
/-- the error of a receiver -/
def recvC (lv ph lo hi : Int) : Int := if rcv lv ph lo hi then 0 else 3

set_option maxHeartbeats 3200000 in
theorem CheckReceiver_any (lv ph lo hi : Int) (w : World) :
    Calls Try.prog 17 #[.agg #[.int .i64 lv, .int .i64 ph, .int .i64 lo, .int .i64 hi]] w fun e w' => e = .returned (.int .i64 (recvC lv ph lo hi)) ∧ Below w.heap.size w w' := by
  by_cases a1 : 0 ≤ lv
  · by_cases a2 : lv ≤ 64
    · by_cases a3 : 0 ≤ ph
      · by_cases a4 : ph ≤ 4096
        · by_cases a5 : 0 ≤ lo
          · by_cases a6 : lo ≤ hi
            · by_cases a7 : hi ≤ 1048576
              · have h : recvC lv ph lo hi = 0 := if_pos (by unfold rcv; omega)
                rw [h]; clear h
                go_enter Try.func17, Try.ntmps17
                go_wp2
                go_ret
                exact ⟨rfl, by repeat (first | exact Below.refl _ _ | (refine Below.alloc ?_ (by first | (simp; done) | (simp only [World.size_alloc]; omega) | (simp; omega)) _))⟩
              · have h : recvC lv ph lo hi = 3 := if_neg (by unfold rcv; omega)
                rw [h]; clear h
                go_enter Try.func17, Try.ntmps17
                go_wp2
                go_ret
                exact ⟨rfl, by repeat (first | exact Below.refl _ _ | (refine Below.alloc ?_ (by first | (simp; done) | (simp only [World.size_alloc]; omega) | (simp; omega)) _))⟩
            · have h : recvC lv ph lo hi = 3 := if_neg (by unfold rcv; omega)
              rw [h]; clear h
              go_enter Try.func17, Try.ntmps17
              go_wp2
              go_ret
              exact ⟨rfl, by repeat (first | exact Below.refl _ _ | (refine Below.alloc ?_ (by first | (simp; done) | (simp only [World.size_alloc]; omega) | (simp; omega)) _))⟩
          · have h : recvC lv ph lo hi = 3 := if_neg (by unfold rcv; omega)
            rw [h]; clear h
            go_enter Try.func17, Try.ntmps17
            go_wp2
            go_ret
            exact ⟨rfl, by repeat (first | exact Below.refl _ _ | (refine Below.alloc ?_ (by first | (simp; done) | (simp only [World.size_alloc]; omega) | (simp; omega)) _))⟩
        · have h : recvC lv ph lo hi = 3 := if_neg (by unfold rcv; omega)
          rw [h]; clear h
          go_enter Try.func17, Try.ntmps17
          go_wp2
          go_ret
          exact ⟨rfl, by repeat (first | exact Below.refl _ _ | (refine Below.alloc ?_ (by first | (simp; done) | (simp only [World.size_alloc]; omega) | (simp; omega)) _))⟩
      · have h : recvC lv ph lo hi = 3 := if_neg (by unfold rcv; omega)
        rw [h]; clear h
        go_enter Try.func17, Try.ntmps17
        go_wp2
        go_ret
        exact ⟨rfl, by repeat (first | exact Below.refl _ _ | (refine Below.alloc ?_ (by first | (simp; done) | (simp only [World.size_alloc]; omega) | (simp; omega)) _))⟩
    · have h : recvC lv ph lo hi = 3 := if_neg (by unfold rcv; omega)
      rw [h]; clear h
      go_enter Try.func17, Try.ntmps17
      go_wp2
      go_ret
      exact ⟨rfl, by repeat (first | exact Below.refl _ _ | (refine Below.alloc ?_ (by first | (simp; done) | (simp only [World.size_alloc]; omega) | (simp; omega)) _))⟩
  · have h : recvC lv ph lo hi = 3 := if_neg (by unfold rcv; omega)
    rw [h]; clear h
    go_enter Try.func17, Try.ntmps17
    go_wp2
    go_ret
    exact ⟨rfl, by repeat (first | exact Below.refl _ _ | (refine Below.alloc ?_ (by first | (simp; done) | (simp only [World.size_alloc]; omega) | (simp; omega)) _))⟩

set_option maxHeartbeats 3200000 in
theorem refCheckReceiver_any (lv ph lo hi : Int) (w : World) :
    Calls Try.prog 18 #[.agg #[.int .i64 lv, .int .i64 ph, .int .i64 lo, .int .i64 hi]] w fun e w' => e = .returned (.int .i64 (recvC lv ph lo hi)) ∧ Below w.heap.size w w' := by
  by_cases a1 : 0 ≤ lv
  · by_cases a2 : lv ≤ 64
    · by_cases a3 : 0 ≤ ph
      · by_cases a4 : ph ≤ 4096
        · by_cases a6 : lo ≤ hi
          · by_cases a5 : 0 ≤ lo
            · by_cases a7 : hi ≤ 1048576
              · have h : recvC lv ph lo hi = 0 := if_pos (by unfold rcv; omega)
                rw [h]; clear h
                go_enter Try.func18, Try.ntmps18
                go_wp2
                go_ret
                exact ⟨rfl, by repeat (first | exact Below.refl _ _ | (refine Below.alloc ?_ (by first | (simp; done) | (simp only [World.size_alloc]; omega) | (simp; omega)) _))⟩
              · have h : recvC lv ph lo hi = 3 := if_neg (by unfold rcv; omega)
                rw [h]; clear h
                go_enter Try.func18, Try.ntmps18
                go_wp2
                go_ret
                exact ⟨rfl, by repeat (first | exact Below.refl _ _ | (refine Below.alloc ?_ (by first | (simp; done) | (simp only [World.size_alloc]; omega) | (simp; omega)) _))⟩
            · have h : recvC lv ph lo hi = 3 := if_neg (by unfold rcv; omega)
              rw [h]; clear h
              go_enter Try.func18, Try.ntmps18
              go_wp2
              go_ret
              exact ⟨rfl, by repeat (first | exact Below.refl _ _ | (refine Below.alloc ?_ (by first | (simp; done) | (simp only [World.size_alloc]; omega) | (simp; omega)) _))⟩
          · have h : recvC lv ph lo hi = 3 := if_neg (by unfold rcv; omega)
            rw [h]; clear h
            go_enter Try.func18, Try.ntmps18
            go_wp2
            go_ret
            exact ⟨rfl, by repeat (first | exact Below.refl _ _ | (refine Below.alloc ?_ (by first | (simp; done) | (simp only [World.size_alloc]; omega) | (simp; omega)) _))⟩
        · have h : recvC lv ph lo hi = 3 := if_neg (by unfold rcv; omega)
          rw [h]; clear h
          go_enter Try.func18, Try.ntmps18
          go_wp2
          go_ret
          exact ⟨rfl, by repeat (first | exact Below.refl _ _ | (refine Below.alloc ?_ (by first | (simp; done) | (simp only [World.size_alloc]; omega) | (simp; omega)) _))⟩
      · have h : recvC lv ph lo hi = 3 := if_neg (by unfold rcv; omega)
        rw [h]; clear h
        go_enter Try.func18, Try.ntmps18
        go_wp2
        go_ret
        exact ⟨rfl, by repeat (first | exact Below.refl _ _ | (refine Below.alloc ?_ (by first | (simp; done) | (simp only [World.size_alloc]; omega) | (simp; omega)) _))⟩
    · have h : recvC lv ph lo hi = 3 := if_neg (by unfold rcv; omega)
      rw [h]; clear h
      go_enter Try.func18, Try.ntmps18
      go_wp2
      go_ret
      exact ⟨rfl, by repeat (first | exact Below.refl _ _ | (refine Below.alloc ?_ (by first | (simp; done) | (simp only [World.size_alloc]; omega) | (simp; omega)) _))⟩
  · have h : recvC lv ph lo hi = 3 := if_neg (by unfold rcv; omega)
    rw [h]; clear h
    go_enter Try.func18, Try.ntmps18
    go_wp2
    go_ret
    exact ⟨rfl, by repeat (first | exact Below.refl _ _ | (refine Below.alloc ?_ (by first | (simp; done) | (simp only [World.size_alloc]; omega) | (simp; omega)) _))⟩

end Go.Proofs.Ytmojnopgpgnfeaa
