/-
  What the directions of a rose are to each other.
-/
import Derived.Test.YthnjfnapjpdchaaD
import Derived.Test.YthnjfnapjpdchaaM2
namespace Go.Proofs.Ythnjfnapjpdchaa

theorem decomp {n d : Int} (h1 : 1 ≤ n) (h3 : 0 ≤ d) (h4 : d < 4 * n) : ∃ q k : Int, (q = 0 ∨ q = 1 ∨ q = 2 ∨ q = 3) ∧ 0 ≤ k ∧ k < n ∧ d = q * n + k := by
  refine ⟨d / n, d % n, quarter h1 h3 h4, Int.emod_nonneg _ (by omega), Int.emod_lt_of_pos _ (by omega), ?_⟩
  have := Int.mul_ediv_add_emod d n
  rw [Int.mul_comm] at this; omega

theorem dir_eq {n q k : Int} (h0 : 0 ≤ k) (h1 : k < n) : dirX n (q * n + k) = M.dx n q k ∧ dirY n (q * n + k) = M.dy n q k ∧ dirL n (q * n + k) = n * n + k * k := by
  obtain ⟨e1, e2⟩ := M.divmod (q := q) h0 h1
  unfold dirX dirY dirL M.dx M.dy
  rw [e1, e2]
  exact ⟨rfl, rfl, rfl⟩

theorem dir_unit {n d : Int} (h1 : 1 ≤ n) (h3 : 0 ≤ d) (h4 : d < 4 * n) : dirX n d * dirX n d + dirY n d * dirY n d = dirL n d * dirL n d ∧ 1 ≤ dirL n d := by
  obtain ⟨q, k, hq, k0, k1, rfl⟩ := decomp h1 h3 h4
  obtain ⟨e1, e2, e3⟩ := dir_eq (q := q) k0 k1
  rw [e1, e2, e3]
  have hu := M.unit n k
  have h5 : 1 ≤ n * n := by have := Int.mul_pos (show 0 < n by omega) (show 0 < n by omega); omega
  have h6 := Int.mul_nonneg k0 k0
  refine ⟨?_, by omega⟩
  rcases hq with rfl | rfl | rfl | rfl <;> simp [M.dx, M.dy, Int.neg_mul_neg] <;> omega

theorem dir_quarter {n d : Int} (h1 : 1 ≤ n) (h3 : 0 ≤ d) (h4 : d < 4 * n) : dirX n ((d + n) % (4 * n)) = dirY n d ∧ dirY n ((d + n) % (4 * n)) = -dirX n d ∧ dirL n ((d + n) % (4 * n)) = dirL n d := by
  obtain ⟨q, k, hq, k0, k1, rfl⟩ := decomp h1 h3 h4
  obtain ⟨e1, e2, e3⟩ := dir_eq (q := q) k0 k1
  rw [e1, e2, e3]
  rcases hq with rfl | rfl | rfl | rfl
  · rw [M.emod_small (by omega) (by omega), show (0 * n + k + n : Int) = 1 * n + k by omega]
    obtain ⟨g1, g2, g3⟩ := dir_eq (q := 1) k0 k1
    rw [g1, g2, g3]; simp [M.dx, M.dy]
  · rw [M.emod_small (by omega) (by omega), show (1 * n + k + n : Int) = 2 * n + k by omega]
    obtain ⟨g1, g2, g3⟩ := dir_eq (q := 2) k0 k1
    rw [g1, g2, g3]; simp [M.dx, M.dy]
  · rw [M.emod_small (by omega) (by omega), show (2 * n + k + n : Int) = 3 * n + k by omega]
    obtain ⟨g1, g2, g3⟩ := dir_eq (q := 3) k0 k1
    rw [g1, g2, g3]; simp [M.dx, M.dy]
  · rw [M.emod_wrap (by omega) (by omega), show (3 * n + k + n - 4 * n : Int) = 0 * n + k by omega]
    obtain ⟨g1, g2, g3⟩ := dir_eq (q := 0) k0 k1
    rw [g1, g2, g3]; simp [M.dx, M.dy]

theorem dir_next {n d : Int} (h1 : 1 ≤ n) (h3 : 0 ≤ d) (h4 : d < 4 * n) : 0 < dirY n d * dirX n ((d + 1) % (4 * n)) - dirX n d * dirY n ((d + 1) % (4 * n)) := by
  obtain ⟨q, k, hq, k0, k1, rfl⟩ := decomp h1 h3 h4
  obtain ⟨e1, e2, _⟩ := dir_eq (q := q) k0 k1
  rw [e1, e2]
  by_cases hk : k + 1 < n
  · have hn := M.next_in k0 k1
    have e : (q * n + k + 1) % (4 * n) = q * n + (k + 1) := by
      rw [M.emod_small (by omega) (by rcases hq with rfl | rfl | rfl | rfl <;> omega)]; omega
    rw [e]
    obtain ⟨g1, g2, _⟩ := dir_eq (n := n) (q := q) (k := k + 1) (by omega) hk
    rw [g1, g2]
    rcases hq with rfl | rfl | rfl | rfl <;> simp [M.dx, M.dy, Int.neg_mul, Int.mul_neg] <;> omega
  · have hk' : k = n - 1 := by omega
    have hr := M.sq_lt k0 k1
    have hn : 0 < n * n := Int.mul_pos (by omega) (by omega)
    have hp := Int.mul_pos hr hn
    rcases hq with rfl | rfl | rfl | rfl
    · rw [M.emod_small (by omega) (by omega), show (0 * n + k + 1 : Int) = 1 * n + 0 by omega]
      obtain ⟨g1, g2, _⟩ := dir_eq (n := n) (q := 1) (k := 0) (by omega) (by omega)
      rw [g1, g2]; simp [M.dx, M.dy]; omega
    · rw [M.emod_small (by omega) (by omega), show (1 * n + k + 1 : Int) = 2 * n + 0 by omega]
      obtain ⟨g1, g2, _⟩ := dir_eq (n := n) (q := 2) (k := 0) (by omega) (by omega)
      rw [g1, g2]; simp [M.dx, M.dy, Int.mul_neg]; omega
    · rw [M.emod_small (by omega) (by omega), show (2 * n + k + 1 : Int) = 3 * n + 0 by omega]
      obtain ⟨g1, g2, _⟩ := dir_eq (n := n) (q := 3) (k := 0) (by omega) (by omega)
      rw [g1, g2]; simp [M.dx, M.dy, Int.neg_mul_neg]; omega
    · rw [M.emod_wrap (by omega) (by omega), show (3 * n + k + 1 - 4 * n : Int) = 0 * n + 0 by omega]
      obtain ⟨g1, g2, _⟩ := dir_eq (n := n) (q := 0) (k := 0) (by omega) (by omega)
      rw [g1, g2]; simp [M.dx, M.dy, Int.neg_mul]; omega

theorem dir_twice {n d : Int} (h1 : 1 ≤ n) (h3 : 0 ≤ d) (h4 : d < 4 * n) : dirX (2 * n) (2 * d) = 4 * dirX n d ∧ dirY (2 * n) (2 * d) = 4 * dirY n d ∧ dirL (2 * n) (2 * d) = 4 * dirL n d := by
  obtain ⟨q, k, hq, k0, k1, rfl⟩ := decomp h1 h3 h4
  obtain ⟨e1, e2, e3⟩ := dir_eq (q := q) k0 k1
  have e : 2 * (q * n + k) = q * (2 * n) + 2 * k := by rw [Int.mul_left_comm q 2 n]; omega
  rw [e1, e2, e3, e]
  obtain ⟨g1, g2, g3⟩ := dir_eq (n := 2 * n) (q := q) (k := 2 * k) (by omega) (by omega)
  rw [g1, g2, g3]
  have a1 : (2 * n) * (2 * n) = 4 * (n * n) := by rw [Int.mul_assoc, Int.mul_left_comm n 2 n]; omega
  have a2 : (2 * k) * (2 * k) = 4 * (k * k) := by rw [Int.mul_assoc, Int.mul_left_comm k 2 k]; omega
  have a3 : 2 * (2 * n) * (2 * k) = 4 * (2 * n * k) := by
    rw [Int.mul_left_comm (2 * (2 * n)) 2 k, Int.mul_assoc 2 (2 * n) k]; omega
  rcases hq with rfl | rfl | rfl | rfl <;> simp only [M.dx, M.dy, a1, a2, a3] <;> simp <;> omega

theorem dir_bd {n d : Int} (h1 : 1 ≤ n) (h2 : n ≤ 180) (h3 : 0 ≤ d) (h4 : d < 4 * n) :
    (-64800 ≤ dirX n d ∧ dirX n d ≤ 64800) ∧ (-64800 ≤ dirY n d ∧ dirY n d ≤ 64800) ∧ (1 ≤ dirL n d ∧ dirL n d ≤ 64800) := by
  have hu := (dir_unit h1 h3 h4).2
  obtain ⟨q, k, hq, k0, k1, rfl⟩ := decomp h1 h3 h4
  obtain ⟨e1, e2, e3⟩ := dir_eq (q := q) k0 k1
  rw [e3] at hu
  rw [e1, e2, e3]
  have b1 := M.mul_bd (a := n) (b := n) (A := 180) (B := 180) (by omega) h2 (by omega) h2
  have b2 := M.mul_bd (a := k) (b := k) (A := 180) (B := 180) k0 (by omega) k0 (by omega)
  have b3 := M.mul_bd (a := 2 * n) (b := k) (A := 360) (B := 180) (by omega) (by omega) k0 (by omega)
  have b4 := M.sq_mono k0 (Int.le_of_lt k1)
  rcases hq with rfl | rfl | rfl | rfl <;> simp only [M.dx, M.dy] <;> simp <;> omega

end Go.Proofs.Ythnjfnapjpdchaa
