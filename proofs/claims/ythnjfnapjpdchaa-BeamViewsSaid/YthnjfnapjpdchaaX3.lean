/-
  Clockwise, Sector and Border of the reference.
-/
import Derived.Test.YthnjfnapjpdchaaW8
import Derived.Test.YthnjfnapjpdchaaX1
namespace Go.Proofs.Ythnjfnapjpdchaa
open Go.RowKit
set_option linter.unusedVariables false

set_option maxHeartbeats 800000 in
theorem Clockwise_any (a b x y : Int) (w : World) (h1 : -1000000000000000 ≤ b * x) (h2 : b * x ≤ 1000000000000000) (h3 : -1000000000000000 ≤ a * y) (h4 : a * y ≤ 1000000000000000) :
    Calls Try.prog 99 #[.int .i64 a, .int .i64 b, .int .i64 x, .int .i64 y] w fun e w' => e = .returned (.int .i64 (b * x - a * y)) ∧ w = w' := by
  have i1 : IntKind.i64.wrap (b * x) = b * x := IntWalk.i64_in _ (by omega)
  have i2 : IntKind.i64.wrap (a * y) = a * y := IntWalk.i64_in _ (by omega)
  have i3 : IntKind.i64.wrap (b * x - a * y) = b * x - a * y := IntWalk.i64_in _ (by omega)
  go_enter Try.func99, Try.ntmps99
  go_wp2
  go_ret
  exact ⟨rfl, rfl⟩

set_option maxHeartbeats 3200000 in
theorem refSector_yes (n a dx dy : Int) (w : World) (h1 : 1 ≤ n) (h2 : n ≤ 90) (a1 : 0 ≤ a) (a2 : a < 4 * n) (b1 : -6000000 ≤ dx) (b2 : dx ≤ 6000000) (b3 : -6000000 ≤ dy) (b4 : dy ≤ 6000000) (hp : SecP n a dx dy) :
    Calls Try.prog 81 #[.int .i64 n, .int .i64 a, .int .i64 dx, .int .i64 dy] w fun e w' => e = .returned (.bool true) ∧ w = w' := by
  have e0 : 0 ≤ (a + 1) % (4 * n) := Int.emod_nonneg _ (by omega)
  have e1 : (a + 1) % (4 * n) < 4 * n := Int.emod_lt_of_pos _ (by omega)
  obtain ⟨⟨d1, d2⟩, ⟨d3, d4⟩, _⟩ := dir_bd h1 (by omega) a1 a2
  obtain ⟨⟨d5, d6⟩, ⟨d7, d8⟩, _⟩ := dir_bd h1 (by omega) e0 e1
  have m1 := M.mul_abs (a := dirY n a) (b := dx) (A := 64800) (B := 6000000) d3 d4 b1 b2
  have m2 := M.mul_abs (a := dirX n a) (b := dy) (A := 64800) (B := 6000000) d1 d2 b3 b4
  have m3 := M.mul_abs (a := dy) (b := dirX n ((a + 1) % (4 * n))) (A := 6000000) (B := 64800) b3 b4 d5 d6
  have m4 := M.mul_abs (a := dx) (b := dirY n ((a + 1) % (4 * n))) (A := 6000000) (B := 64800) b1 b2 d7 d8
  obtain ⟨s1, s2⟩ := hp
  have s3 : decide (0 ≤ dirY n a * dx - dirX n a * dy) = true := by rw [decide_eq_true_iff]; exact s1
  have s4 : decide (0 < dy * dirX n ((a + 1) % (4 * n)) - dx * dirY n ((a + 1) % (4 * n))) = true := by rw [decide_eq_true_iff]; exact s2
  have s5 : decide (dx * dirY n ((a + 1) % (4 * n)) < dy * dirX n ((a + 1) % (4 * n))) = true := by rw [decide_eq_true_iff]; omega
  go_enter Try.func81, Try.ntmps81
  go_wp2_with fail
  refine (refDirection_ok n a _ h1 (by omega) a1 a2).mono ?_; rintro e w' ⟨rfl, rfl⟩
  go_wp2_with fail
  refine (refDirection_ok n ((a + 1) % (4 * n)) _ h1 (by omega) e0 e1).mono ?_; rintro e w' ⟨rfl, rfl⟩
  go_wp2_with fail
  refine (Clockwise_any _ _ _ _ _ (by omega) (by omega) (by omega) (by omega)).mono ?_; rintro e w' ⟨rfl, rfl⟩
  go_wp2_with fail
  refine (Clockwise_any _ _ _ _ _ (by omega) (by omega) (by omega) (by omega)).mono ?_; rintro e w' ⟨rfl, rfl⟩
  go_wp2
  go_ret
  exact ⟨rfl, rfl⟩

set_option maxHeartbeats 3200000 in
theorem refSector_no (n a dx dy : Int) (w : World) (h1 : 1 ≤ n) (h2 : n ≤ 90) (a1 : 0 ≤ a) (a2 : a < 4 * n) (b1 : -6000000 ≤ dx) (b2 : dx ≤ 6000000) (b3 : -6000000 ≤ dy) (b4 : dy ≤ 6000000) (hp : ¬ SecP n a dx dy) :
    Calls Try.prog 81 #[.int .i64 n, .int .i64 a, .int .i64 dx, .int .i64 dy] w fun e w' => e = .returned (.bool false) ∧ w = w' := by
  have e0 : 0 ≤ (a + 1) % (4 * n) := Int.emod_nonneg _ (by omega)
  have e1 : (a + 1) % (4 * n) < 4 * n := Int.emod_lt_of_pos _ (by omega)
  obtain ⟨⟨d1, d2⟩, ⟨d3, d4⟩, _⟩ := dir_bd h1 (by omega) a1 a2
  obtain ⟨⟨d5, d6⟩, ⟨d7, d8⟩, _⟩ := dir_bd h1 (by omega) e0 e1
  have m1 := M.mul_abs (a := dirY n a) (b := dx) (A := 64800) (B := 6000000) d3 d4 b1 b2
  have m2 := M.mul_abs (a := dirX n a) (b := dy) (A := 64800) (B := 6000000) d1 d2 b3 b4
  have m3 := M.mul_abs (a := dy) (b := dirX n ((a + 1) % (4 * n))) (A := 6000000) (B := 64800) b3 b4 d5 d6
  have m4 := M.mul_abs (a := dx) (b := dirY n ((a + 1) % (4 * n))) (A := 6000000) (B := 64800) b1 b2 d7 d8
  by_cases s1 : 0 ≤ dirY n a * dx - dirX n a * dy
  · have s2 : ¬ 0 < dy * dirX n ((a + 1) % (4 * n)) - dx * dirY n ((a + 1) % (4 * n)) := fun h => hp ⟨s1, h⟩
    have s3 : decide (0 ≤ dirY n a * dx - dirX n a * dy) = true := by rw [decide_eq_true_iff]; exact s1
    have s4 : decide (0 < dy * dirX n ((a + 1) % (4 * n)) - dx * dirY n ((a + 1) % (4 * n))) = false := by rw [decide_eq_false_iff_not]; exact s2
    have s5 : decide (dx * dirY n ((a + 1) % (4 * n)) < dy * dirX n ((a + 1) % (4 * n))) = false := by rw [decide_eq_false_iff_not]; omega
    clear hp
    go_enter Try.func81, Try.ntmps81
    go_wp2_with fail
    refine (refDirection_ok n a _ h1 (by omega) a1 a2).mono ?_; rintro e w' ⟨rfl, rfl⟩
    go_wp2_with fail
    refine (refDirection_ok n ((a + 1) % (4 * n)) _ h1 (by omega) e0 e1).mono ?_; rintro e w' ⟨rfl, rfl⟩
    go_wp2_with fail
    refine (Clockwise_any _ _ _ _ _ (by omega) (by omega) (by omega) (by omega)).mono ?_; rintro e w' ⟨rfl, rfl⟩
    go_wp2_with fail
    refine (Clockwise_any _ _ _ _ _ (by omega) (by omega) (by omega) (by omega)).mono ?_; rintro e w' ⟨rfl, rfl⟩
    go_wp2
    go_ret
    exact ⟨rfl, rfl⟩
  · have s3 : decide (0 ≤ dirY n a * dx - dirX n a * dy) = false := by rw [decide_eq_false_iff_not]; exact s1
    clear hp
    go_enter Try.func81, Try.ntmps81
    go_wp2_with fail
    refine (refDirection_ok n a _ h1 (by omega) a1 a2).mono ?_; rintro e w' ⟨rfl, rfl⟩
    go_wp2_with fail
    refine (refDirection_ok n ((a + 1) % (4 * n)) _ h1 (by omega) e0 e1).mono ?_; rintro e w' ⟨rfl, rfl⟩
    go_wp2_with fail
    refine (Clockwise_any _ _ _ _ _ (by omega) (by omega) (by omega) (by omega)).mono ?_; rintro e w' ⟨rfl, rfl⟩
    go_wp2
    go_ret
    exact ⟨rfl, rfl⟩

set_option maxHeartbeats 1600000 in
theorem refBorder_any (nm : ByteArray) (x y z rose gates step width t : Int) (k : Nat) (w : World) (h1 : 0 ≤ t) (h2 : t ≤ 256) (s1 : 50 ≤ step) (s2 : step ≤ 2000) (hk : k ≤ 200) :
    Calls Try.prog 80 #[.agg #[.string nm, .int .i64 x, .int .i64 y, .int .i64 z, .int .i64 rose, .int .i64 gates, .int .i64 step, .int .i64 width], .int .i64 t, .int .i64 (k : Int)] w fun e w' => e = .returned (.int .i64 (bordI step t k)) ∧ Below w.heap.size w w' := by
  obtain ⟨⟨c1, c2⟩, ⟨c3, c4⟩, c5, c6⟩ := bordI_bd h1 h2 s1 s2 hk
  have tt := M.sq_nonneg t
  have t2 := (M.sq_bd (a := t) (A := 256) (by omega) h2).2
  have i1 : IntKind.i64.wrap ((k : Int) * step) = (k : Int) * step := IntWalk.i64_in _ (by omega)
  have i2 : IntKind.i64.wrap ((k : Int) * step * (262144 - t * t)) = (k : Int) * step * (262144 - t * t) := IntWalk.i64_in _ (by omega)
  go_enter Try.func80, Try.ntmps80
  go_wp2_with fail
  refine (refSlant_ok _ _ (by omega) (by omega)).mono ?_; rintro e w' ⟨rfl, rfl⟩
  go_wp2_with fail
  refine (Down_any _ _ _ (by omega) (by omega) (by omega)).mono ?_; rintro e w' ⟨rfl, rfl⟩
  go_wp2
  go_ret
  exact ⟨rfl, below_alloc _ _⟩

end Go.Proofs.Ythnjfnapjpdchaa
