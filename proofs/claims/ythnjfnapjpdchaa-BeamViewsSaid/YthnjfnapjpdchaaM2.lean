/-
  Plain lemmas on the directions of a rose.
-/
import Derived.Test.YthnjfnapjpdchaaM
namespace Go.Proofs.Ythnjfnapjpdchaa.M

theorem divmod {n q k : Int} (h0 : 0 ≤ k) (h1 : k < n) : (q * n + k) / n = q ∧ (q * n + k) % n = k := by
  have h : 0 < n := by omega
  exact (Int.ediv_emod_unique h).2 ⟨by rw [Int.mul_comm n q]; omega, h0, h1⟩

theorem emod_small {x m : Int} (h0 : 0 ≤ x) (h1 : x < m) : x % m = x := Int.emod_eq_of_lt h0 h1
theorem emod_wrap {x m : Int} (h0 : m ≤ x) (h1 : x < 2 * m) : x % m = x - m := by
  have h : 0 < m := by omega
  exact ((Int.ediv_emod_unique (q := 1) (r := x - m) h).2 ⟨by omega, by omega, by omega⟩).2

/-- a direction of a rose, by its quarter and its number in it -/
def dx (n q k : Int) : Int := if q = 0 then 2 * n * k else if q = 1 then n * n - k * k else if q = 2 then -(2 * n * k) else -(n * n - k * k)
def dy (n q k : Int) : Int := if q = 0 then n * n - k * k else if q = 1 then -(2 * n * k) else if q = 2 then -(n * n - k * k) else 2 * n * k

theorem unit (n k : Int) : (2 * n * k) * (2 * n * k) + (n * n - k * k) * (n * n - k * k) = (n * n + k * k) * (n * n + k * k) := by
  have e1 : (2 * n * k) * (2 * n * k) = 4 * ((n * k) * (n * k)) := by
    rw [Int.mul_assoc 2 n k, Int.mul_assoc 2 (n * k), Int.mul_left_comm (n * k) 2 (n * k)]; omega
  have e2 : (n * k) * (n * k) = (n * n) * (k * k) := by
    rw [Int.mul_assoc n k (n * k), Int.mul_left_comm k n k, ← Int.mul_assoc n n (k * k)]
  have e3 : (n * n - k * k) * (n * n - k * k) = (n * n) * (n * n) - 2 * ((n * n) * (k * k)) + (k * k) * (k * k) := by
    rw [Int.sub_mul, Int.mul_sub, Int.mul_sub, Int.mul_comm (k * k) (n * n)]; omega
  have e4 : (n * n + k * k) * (n * n + k * k) = (n * n) * (n * n) + 2 * ((n * n) * (k * k)) + (k * k) * (k * k) := by
    rw [Int.add_mul, Int.mul_add, Int.mul_add, Int.mul_comm (k * k) (n * n)]; omega
  rw [e1, e2, e3, e4]; omega

/-- the next direction is clockwise behind -/
theorem next_in {n k : Int} (h0 : 0 ≤ k) (h1 : k < n) : 0 < (n * n - k * k) * (2 * n * (k + 1)) - (2 * n * k) * (n * n - (k + 1) * (k + 1)) := by
  have e1 : (n * n - k * k) * (2 * n * (k + 1)) = 2 * n * ((n * n - k * k) * (k + 1)) := by rw [Int.mul_left_comm]
  have e2 : (2 * n * k) * (n * n - (k + 1) * (k + 1)) = 2 * n * (k * (n * n - (k + 1) * (k + 1))) := by rw [Int.mul_assoc]
  have e3 : (n * n - k * k) * (k + 1) - k * (n * n - (k + 1) * (k + 1)) = n * n + k * (k + 1) := by
    rw [Int.sub_mul, Int.mul_sub, Int.mul_add (n * n), Int.mul_comm k (n * n), Int.mul_one]
    have e4 : k * ((k + 1) * (k + 1)) = k * k * (k + 1) + k * (k + 1) := by
      rw [Int.mul_assoc k k (k + 1), ← Int.mul_add, Int.add_mul k 1 (k + 1), Int.one_mul]
    rw [e4]; omega
  rw [e1, e2, ← Int.mul_sub, e3]
  have h2 : 0 < n * n := Int.mul_pos (by omega) (by omega)
  have h3 : 0 ≤ k * (k + 1) := Int.mul_nonneg h0 (by omega)
  exact Int.mul_pos (by omega) (by omega)

theorem sq_lt {n k : Int} (h0 : 0 ≤ k) (h1 : k < n) : 0 < n * n - k * k := by
  have h2 : k * k ≤ k * n := Int.mul_le_mul_of_nonneg_left (by omega) h0
  have h3 : k * n < n * n := Int.mul_lt_mul_of_pos_right h1 (by omega)
  omega

end Go.Proofs.Ythnjfnapjpdchaa.M
