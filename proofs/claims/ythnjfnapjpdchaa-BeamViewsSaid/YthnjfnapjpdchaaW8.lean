/-
  Walks over few, and over sector of the statements.
-/
import Derived.Test.YthnjfnapjpdchaaW7
import Derived.Test.YthnjfnapjpdchaaE
namespace Go.Proofs.Ythnjfnapjpdchaa
open Go.RowKit
set_option linter.unusedVariables false

def fewB (len : Nat) (rose gates wide high : Int) : Bool := decide (rose ≤ 20 ∧ gates ≤ 60 ∧ wide ≤ 16 ∧ high ≤ 16 ∧ len ≤ 20)
theorem fewB_true {len : Nat} {rose gates wide high : Int} : fewB len rose gates wide high = true ↔ rose ≤ 20 ∧ gates ≤ 60 ∧ wide ≤ 16 ∧ high ≤ 16 ∧ len ≤ 20 := by unfold fewB; rw [decide_eq_true_iff]
theorem fewB_false {len : Nat} {rose gates wide high : Int} : fewB len rose gates wide high = false ↔ ¬ (rose ≤ 20 ∧ gates ≤ 60 ∧ wide ≤ 16 ∧ high ≤ 16 ∧ len ≤ 20) := by unfold fewB; rw [decide_eq_false_iff_not]

set_option maxHeartbeats 1600000 in
theorem few_any (nm : ByteArray) (x y z rose gates step width : Int) (gx gy size wide high : Int) (w : World) (hs : nm.size ≤ maxLen) :
    Calls Try.prog 35 #[.agg #[.string nm, .int .i64 x, .int .i64 y, .int .i64 z, .int .i64 rose, .int .i64 gates, .int .i64 step, .int .i64 width], .agg #[.int .i64 gx, .int .i64 gy, .int .i64 size, .int .i64 wide, .int .i64 high]] w fun e w' => e = .returned (.bool (fewB nm.size rose gates wide high)) ∧ Below w.heap.size w w' := by
  unfold maxLen at hs
  by_cases c0 : rose ≤ 20
  · skip
    by_cases c1 : gates ≤ 60
    · skip
      by_cases c2 : wide ≤ 16
      · skip
        by_cases c3 : high ≤ 16
        · skip
          by_cases c4 : nm.size ≤ 20
          · skip
            have c4' : decide ((nm.size : Int) ≤ 20) = true := by rw [decide_eq_true_iff]; omega
            rw [show fewB nm.size rose gates wide high = true from fewB_true.2 ⟨c0, c1, c2, c3, c4⟩]
            go_enter Try.func35, Try.ntmps35
            go_wp2
            go_ret
            exact ⟨rfl, by repeat (first | exact Below.refl _ _ | (refine Below.alloc ?_ (by simp) _))⟩
          · have c4' : decide ((nm.size : Int) ≤ 20) = false := by rw [decide_eq_false_iff_not]; omega
            rw [show fewB nm.size rose gates wide high = false from fewB_false.2 (by omega)]
            go_enter Try.func35, Try.ntmps35
            go_wp2
            go_ret
            exact ⟨rfl, by repeat (first | exact Below.refl _ _ | (refine Below.alloc ?_ (by simp) _))⟩
        · rw [show fewB nm.size rose gates wide high = false from fewB_false.2 (by omega)]
          go_enter Try.func35, Try.ntmps35
          go_wp2
          go_ret
          exact ⟨rfl, by repeat (first | exact Below.refl _ _ | (refine Below.alloc ?_ (by simp) _))⟩
      · rw [show fewB nm.size rose gates wide high = false from fewB_false.2 (by omega)]
        go_enter Try.func35, Try.ntmps35
        go_wp2
        go_ret
        exact ⟨rfl, by repeat (first | exact Below.refl _ _ | (refine Below.alloc ?_ (by simp) _))⟩
    · rw [show fewB nm.size rose gates wide high = false from fewB_false.2 (by omega)]
      go_enter Try.func35, Try.ntmps35
      go_wp2
      go_ret
      exact ⟨rfl, by repeat (first | exact Below.refl _ _ | (refine Below.alloc ?_ (by simp) _))⟩
  · rw [show fewB nm.size rose gates wide high = false from fewB_false.2 (by omega)]
    go_enter Try.func35, Try.ntmps35
    go_wp2
    go_ret
    exact ⟨rfl, by repeat (first | exact Below.refl _ _ | (refine Below.alloc ?_ (by simp) _))⟩

set_option maxHeartbeats 1600000 in
theorem lsector_yes (n a dx dy : Int) (w : World) (h1 : 1 ≤ n) (h2 : n ≤ 90) (a1 : 0 ≤ a) (a2 : a < 4 * n) (b1 : -1000000 ≤ dx) (b2 : dx ≤ 1000000) (b3 : -1000000 ≤ dy) (b4 : dy ≤ 1000000) (hp : SecP n a dx dy) :
    Calls Try.prog 51 #[.int .i64 n, .int .i64 a, .int .i64 dx, .int .i64 dy] w fun e w' => e = .returned (.bool true) ∧ Below w.heap.size w w' := by
  have e0 : 0 ≤ (a + 1) % (4 * n) := Int.emod_nonneg _ (by omega)
  have e1 : (a + 1) % (4 * n) < 4 * n := Int.emod_lt_of_pos _ (by omega)
  obtain ⟨⟨d1, d2⟩, ⟨d3, d4⟩, _⟩ := dir_bd h1 (by omega) a1 a2
  obtain ⟨⟨d5, d6⟩, ⟨d7, d8⟩, _⟩ := dir_bd h1 (by omega) e0 e1
  have m1 := M.mul_abs (a := dirY n a) (b := dx) (A := 64800) (B := 1000000) d3 d4 b1 b2
  have m2 := M.mul_abs (a := dirX n a) (b := dy) (A := 64800) (B := 1000000) d1 d2 b3 b4
  have m3 := M.mul_abs (a := dy) (b := dirX n ((a + 1) % (4 * n))) (A := 1000000) (B := 64800) b3 b4 d5 d6
  have m4 := M.mul_abs (a := dx) (b := dirY n ((a + 1) % (4 * n))) (A := 1000000) (B := 64800) b1 b2 d7 d8
  obtain ⟨s1, s2⟩ := hp
  have s3 : decide (dx * dirY n ((a + 1) % (4 * n)) < dy * dirX n ((a + 1) % (4 * n))) = true := by rw [decide_eq_true_iff]; omega
  go_enter Try.func51, Try.ntmps51
  go_wp2_with fail
  refine (Direction_ok n a _ h1 (by omega) a1 a2).mono ?_; rintro e w1 ⟨rfl, hb1⟩
  go_wp2_with fail
  refine (Direction_ok n ((a + 1) % (4 * n)) _ h1 (by omega) e0 e1).mono ?_; rintro e w2 ⟨rfl, hb2⟩
  go_wp2
  go_ret
  exact ⟨rfl, hb1.trans (hb2.mono hb1.size)⟩

set_option maxHeartbeats 3200000 in
theorem lsector_no (n a dx dy : Int) (w : World) (h1 : 1 ≤ n) (h2 : n ≤ 90) (a1 : 0 ≤ a) (a2 : a < 4 * n) (b1 : -1000000 ≤ dx) (b2 : dx ≤ 1000000) (b3 : -1000000 ≤ dy) (b4 : dy ≤ 1000000) (hp : ¬ SecP n a dx dy) :
    Calls Try.prog 51 #[.int .i64 n, .int .i64 a, .int .i64 dx, .int .i64 dy] w fun e w' => e = .returned (.bool false) ∧ Below w.heap.size w w' := by
  have e0 : 0 ≤ (a + 1) % (4 * n) := Int.emod_nonneg _ (by omega)
  have e1 : (a + 1) % (4 * n) < 4 * n := Int.emod_lt_of_pos _ (by omega)
  obtain ⟨⟨d1, d2⟩, ⟨d3, d4⟩, _⟩ := dir_bd h1 (by omega) a1 a2
  obtain ⟨⟨d5, d6⟩, ⟨d7, d8⟩, _⟩ := dir_bd h1 (by omega) e0 e1
  have m1 := M.mul_abs (a := dirY n a) (b := dx) (A := 64800) (B := 1000000) d3 d4 b1 b2
  have m2 := M.mul_abs (a := dirX n a) (b := dy) (A := 64800) (B := 1000000) d1 d2 b3 b4
  have m3 := M.mul_abs (a := dy) (b := dirX n ((a + 1) % (4 * n))) (A := 1000000) (B := 64800) b3 b4 d5 d6
  have m4 := M.mul_abs (a := dx) (b := dirY n ((a + 1) % (4 * n))) (A := 1000000) (B := 64800) b1 b2 d7 d8
  by_cases s1 : 0 ≤ dirY n a * dx - dirX n a * dy
  · have s2 : ¬ 0 < dy * dirX n ((a + 1) % (4 * n)) - dx * dirY n ((a + 1) % (4 * n)) := fun h => hp ⟨s1, h⟩
    have s3 : decide (dx * dirY n ((a + 1) % (4 * n)) < dy * dirX n ((a + 1) % (4 * n))) = false := by rw [decide_eq_false_iff_not]; omega
    clear hp
    go_enter Try.func51, Try.ntmps51
    go_wp2_with fail
    refine (Direction_ok n a _ h1 (by omega) a1 a2).mono ?_; rintro e w1 ⟨rfl, hb1⟩
    go_wp2_with fail
    refine (Direction_ok n ((a + 1) % (4 * n)) _ h1 (by omega) e0 e1).mono ?_; rintro e w2 ⟨rfl, hb2⟩
    go_wp2
    go_ret
    exact ⟨rfl, hb1.trans (hb2.mono hb1.size)⟩
  · clear hp
    go_enter Try.func51, Try.ntmps51
    go_wp2_with fail
    refine (Direction_ok n a _ h1 (by omega) a1 a2).mono ?_; rintro e w1 ⟨rfl, hb1⟩
    go_wp2_with fail
    refine (Direction_ok n ((a + 1) % (4 * n)) _ h1 (by omega) e0 e1).mono ?_; rintro e w2 ⟨rfl, hb2⟩
    go_wp2
    go_ret
    exact ⟨rfl, hb1.trans (hb2.mono hb1.size)⟩

end Go.Proofs.Ythnjfnapjpdchaa
