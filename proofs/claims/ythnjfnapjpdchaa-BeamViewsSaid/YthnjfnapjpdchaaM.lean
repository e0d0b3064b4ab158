/-
  Plain lemmas on integers: bounds of products.
-/
namespace Go.Proofs.Ythnjfnapjpdchaa.M

theorem mul_bd {a b A B : Int} (h1 : 0 ≤ a) (h2 : a ≤ A) (h3 : 0 ≤ b) (h4 : b ≤ B) : 0 ≤ a * b ∧ a * b ≤ A * B :=
  ⟨Int.mul_nonneg h1 h3, Int.mul_le_mul h2 h4 h3 (Int.le_trans h1 h2)⟩

theorem sq_nonneg (a : Int) : 0 ≤ a * a := by
  rcases Int.le_total 0 a with h | h
  · exact Int.mul_nonneg h h
  · have := Int.mul_nonneg (a := -a) (b := -a) (by omega) (by omega)
    rwa [Int.neg_mul_neg] at this

theorem sq_bd {a A : Int} (h1 : -A ≤ a) (h2 : a ≤ A) : 0 ≤ a * a ∧ a * a ≤ A * A := by
  refine ⟨sq_nonneg a, ?_⟩
  rcases Int.le_total 0 a with h | h
  · exact Int.mul_le_mul h2 h2 h (by omega)
  · have := Int.mul_le_mul (a := -a) (b := -a) (c := A) (d := A) (by omega) (by omega) (by omega) (by omega)
    rwa [Int.neg_mul_neg] at this

theorem mul_abs {a b A B : Int} (h1 : -A ≤ a) (h2 : a ≤ A) (h3 : -B ≤ b) (h4 : b ≤ B) : -(A * B) ≤ a * b ∧ a * b ≤ A * B := by
  rcases Int.le_total 0 a with ha | ha
  · rcases Int.le_total 0 b with hb | hb
    · have := mul_bd ha h2 hb h4
      have := Int.mul_nonneg (a := A) (b := B) (by omega) (by omega)
      omega
    · have := mul_bd (b := -b) (B := B) ha h2 (by omega) (by omega)
      rw [Int.mul_neg] at this
      have := Int.mul_nonneg (a := A) (b := B) (by omega) (by omega)
      omega
  · rcases Int.le_total 0 b with hb | hb
    · have := mul_bd (a := -a) (A := A) (by omega) (by omega) hb h4
      rw [Int.neg_mul] at this
      have := Int.mul_nonneg (a := A) (b := B) (by omega) (by omega)
      omega
    · have := mul_bd (a := -a) (A := A) (b := -b) (B := B) (by omega) (by omega) (by omega) (by omega)
      rw [Int.neg_mul_neg] at this
      have := Int.mul_nonneg (a := A) (b := B) (by omega) (by omega)
      omega

theorem sq_mono {a b : Int} (h1 : 0 ≤ a) (h2 : a ≤ b) : a * a ≤ b * b := Int.mul_le_mul h2 h2 h1 (by omega)

end Go.Proofs.Ythnjfnapjpdchaa.M
