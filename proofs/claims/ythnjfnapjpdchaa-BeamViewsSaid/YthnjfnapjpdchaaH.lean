/-
  Walks over roundings, in the code and in the reference.
-/
import Derived.Test.YthnjfnapjpdchaaB
namespace Go.Proofs.Ythnjfnapjpdchaa
open Go.RowKit

theorem floor_pos {a b : Int} (hb : 1 ≤ b) (ha : 0 ≤ a) : 0 ≤ a / b ∧ a / b ≤ a ∧ 0 ≤ a % b := by
  refine ⟨Int.ediv_nonneg ha (by omega), Int.ediv_le_self b ha, Int.emod_nonneg _ (by omega)⟩

theorem tdiv_neg_bd {a b : Int} (hb : 1 ≤ b) (ha : a < 0) : a ≤ a.tdiv b ∧ a.tdiv b ≤ 0 := by
  have h : a.tdiv b = -((-a) / b) := by
    have h1 := Int.neg_tdiv (-a) b
    rw [Int.neg_neg] at h1
    rw [h1, Int.tdiv_eq_ediv_of_nonneg (by omega)]
  have := floor_pos (a := -a) hb (by omega)
  omega

theorem tmod_neg_bd {a b : Int} (hb : 1 ≤ b) (ha : a < 0) : a.tmod b ≤ 0 ∧ -b < a.tmod b := by
  have h1 := Int.neg_tmod (-a) b
  rw [Int.neg_neg] at h1
  have h2 : (-a).tmod b = (-a) % b := Int.tmod_eq_emod_of_nonneg (by omega)
  have h3 := Int.emod_nonneg (-a) (b := b) (by omega)
  have h4 := Int.emod_lt_of_pos (-a) (b := b) (by omega)
  omega

theorem floor_neg {a b : Int} (hb : 1 ≤ b) (ha : a < 0) : (a.tmod b < 0 → a.tdiv b - 1 = a / b) ∧ (¬ a.tmod b < 0 → a.tdiv b = a / b) := by
  have h0 := Int.mul_tdiv_add_tmod a b
  have h1 := tmod_neg_bd hb ha
  refine ⟨fun h => ?_, fun h => ?_⟩
  · have h5 : b * (a.tdiv b - 1) = b * a.tdiv b - b := by rw [Int.mul_sub, Int.mul_one]
    symm
    exact ((Int.ediv_emod_unique (r := a.tmod b + b) (by omega)).2 ⟨by rw [h5]; omega, by omega, by omega⟩).1
  · symm
    exact ((Int.ediv_emod_unique (r := a.tmod b) (by omega)).2 ⟨by omega, by omega, by omega⟩).1

set_option maxHeartbeats 400000 in
theorem Down_any (a b : Int) (w : World) (hb : 1 ≤ b) (ha1 : -1000000000000000 ≤ a) (ha2 : a ≤ 1000000000000000) :
    Calls Try.prog 77 #[.int .i64 a, .int .i64 b] w fun e w' => e = .returned (.int .i64 (a / b)) ∧ w = w' := by
  by_cases ha : 0 ≤ a
  · obtain ⟨h1, h2, h3⟩ := floor_pos hb ha
    go_enter Try.func77, Try.ntmps77
    go_wp2
    go_ret
    exact ⟨rfl, rfl⟩
  · obtain ⟨h1, h2⟩ := tdiv_neg_bd (a := a) hb (by omega)
    by_cases h : a.tmod b < 0
    · rw [← (floor_neg hb (by omega)).1 h]
      go_enter Try.func77, Try.ntmps77
      go_wp2
      go_ret
      exact ⟨rfl, rfl⟩
    · rw [← (floor_neg hb (by omega)).2 h]
      go_enter Try.func77, Try.ntmps77
      go_wp2
      go_ret
      exact ⟨rfl, rfl⟩

set_option maxHeartbeats 400000 in
theorem down_any (a b : Int) (w : World) (hb : 1 ≤ b) (ha1 : -1000000000000000 ≤ a) (ha2 : a ≤ 1000000000000000) :
    Calls Try.prog 92 #[.int .i64 a, .int .i64 b] w fun e w' => e = .returned (.int .i64 (a / b)) ∧ w = w' := by
  by_cases ha : 0 ≤ a
  · obtain ⟨h1, h2, h3⟩ := floor_pos hb ha
    go_enter Try.func92, Try.ntmps92
    go_wp2
    go_ret
    exact ⟨rfl, rfl⟩
  · obtain ⟨h1, h2⟩ := tdiv_neg_bd (a := a) hb (by omega)
    by_cases h : a.tmod b < 0
    · rw [← (floor_neg hb (by omega)).1 h]
      go_enter Try.func92, Try.ntmps92
      go_wp2
      go_ret
      exact ⟨rfl, rfl⟩
    · rw [← (floor_neg hb (by omega)).2 h]
      go_enter Try.func92, Try.ntmps92
      go_wp2
      go_ret
      exact ⟨rfl, rfl⟩

theorem floor_bd {a b : Int} (hb : 1 ≤ b) (ha1 : -1000000000000000 ≤ a) (ha2 : a ≤ 1000000000000000) : -1000000000000000 ≤ a / b ∧ a / b ≤ 1000000000000000 := by
  have h1 : a / b < 1000000000000000 + 1 := Int.ediv_lt_of_lt_mul (by omega) (by
    have := Int.mul_le_mul_of_nonneg_left hb (show (0:Int) ≤ 1000000000000000 + 1 by decide)
    omega)
  have h2 : -1000000000000000 ≤ a / b := Int.le_ediv_of_mul_le (by omega) (by
    have := Int.mul_le_mul_of_nonneg_left hb (show (0:Int) ≤ 1000000000000000 by decide)
    omega)
  omega

set_option maxHeartbeats 400000 in
theorem Up_any (a b : Int) (w : World) (hb : 1 ≤ b) (ha1 : -1000000000000000 ≤ a) (ha2 : a ≤ 1000000000000000) :
    Calls Try.prog 94 #[.int .i64 a, .int .i64 b] w fun e w' => e = .returned (.int .i64 (-((-a) / b))) ∧ w = w' := by
  obtain ⟨h1, h2⟩ := floor_bd (a := -a) hb (by omega) (by omega)
  go_enter Try.func94, Try.ntmps94
  go_wp2_with (go_at_call 77; refine (Down_any _ _ _ hb (by omega) (by omega)).mono ?_; rintro e w' ⟨rfl, rfl⟩)
  go_ret
  exact ⟨rfl, rfl⟩

end Go.Proofs.Ythnjfnapjpdchaa
