/-
  Plain lemmas on heights: they rise with the tilt, and with a smaller sphere.
-/
import Derived.Test.YthnjfnapjpdchaaL
namespace Go.Proofs.Ythnjfnapjpdchaa.M

theorem core {q K A1 A2 N1 N2 F1 F2 G1 G2 : Int} (hq : 0 < q) (hK : 0 < K) (h1 : q * F1 ≤ A1) (h2 : A2 ≤ q * F2) (h3 : K * q * G1 ≤ N1) (h4 : N2 ≤ K * q * G2)
    (h5 : N1 + A1 * A1 = N2 + A2 * A2) (h6 : A1 ≤ A2) (h7 : A1 + A2 ≤ K) : F1 + G1 ≤ F2 + G2 := by
  have e1 : K * q * F1 ≤ K * A1 := by rw [Int.mul_assoc]; exact Int.mul_le_mul_of_nonneg_left h1 (by omega)
  have e2 : K * A2 ≤ K * q * F2 := by rw [Int.mul_assoc]; exact Int.mul_le_mul_of_nonneg_left h2 (by omega)
  have e3 : (A2 - A1) * (A1 + A2) ≤ (A2 - A1) * K := Int.mul_le_mul_of_nonneg_left h7 (by omega)
  have e4 : (A2 - A1) * (A1 + A2) = A2 * A2 - A1 * A1 := by rw [Int.sub_mul, Int.mul_add, Int.mul_add, Int.mul_comm A2 A1]; omega
  have e5 : (A2 - A1) * K = K * A2 - K * A1 := by rw [Int.sub_mul, Int.mul_comm A2, Int.mul_comm A1]
  have hKq : 0 < K * q := Int.mul_pos hK hq
  have e6 : 0 ≤ K * q * (F2 + G2 - (F1 + G1)) := by
    rw [Int.mul_sub, Int.mul_add, Int.mul_add]; omega
  by_cases h : F1 + G1 ≤ F2 + G2
  · exact h
  · exfalso
    have h8 : K * q * (F2 + G2 - (F1 + G1)) < 0 := Int.mul_neg_of_pos_of_neg hKq (by omega)
    omega

theorem sq_le_sq {a b : Int} (h0 : 0 ≤ a) (h : a ≤ b) : a * a ≤ b * b := Int.mul_le_mul h h h0 (by omega)
theorem fl_le {a b : Int} : b * (a / b) ≤ a ∨ b = 0 := by
  by_cases h : b = 0
  · exact .inr h
  · exact .inl (Int.mul_ediv_self_le h)
theorem floor_le {a b : Int} (hb : 0 < b) : b * (a / b) ≤ a := Int.mul_ediv_self_le (by omega)
theorem ceil_ge {a b : Int} (hb : 0 < b) : a ≤ b * -((-a) / b) := by
  have := floor_le (a := -a) hb
  rw [Int.mul_neg]; omega

theorem slant_unit (t : Int) : (262144 - t * t) * (262144 - t * t) + (1024 * t) * (1024 * t) = (262144 + t * t) * (262144 + t * t) := by
  have e1 : (1024 * t) * (1024 * t) = 1048576 * (t * t) := by rw [Int.mul_assoc, Int.mul_left_comm t 1024 t]; omega
  have e2 : (262144 - t * t) * (262144 - t * t) = 68719476736 - 524288 * (t * t) + (t * t) * (t * t) := by rw [Int.sub_mul, Int.mul_sub, Int.mul_sub]; omega
  have e3 : (262144 + t * t) * (262144 + t * t) = 68719476736 + 524288 * (t * t) + (t * t) * (t * t) := by rw [Int.add_mul, Int.mul_add, Int.mul_add]; omega
  rw [e1, e2, e3]; omega

theorem mul_sq (a b : Int) : (a * b) * (a * b) = (a * a) * (b * b) := by
  rw [Int.mul_assoc, Int.mul_left_comm b a b, ← Int.mul_assoc a a]

/-- a gate seen at a lower tilt is not higher than at a higher one, within roundings -/
theorem rise {z step s t gate lo hi : Int} (s1 : -8 ≤ s) (s2 : s ≤ t) (t2 : t ≤ 264) (p1 : 50 ≤ step) (p2 : step ≤ 2000) (g1 : 0 ≤ gate) (g2 : gate ≤ 199)
    (e1 : 1000000 ≤ lo) (e2 : lo ≤ hi) : climbLo z step s gate hi ≤ climbHi z step t gate lo := by
  obtain ⟨m, hm⟩ : ∃ m, m = (2 * gate + 1) * step := ⟨_, rfl⟩
  obtain ⟨x, hx⟩ : ∃ x, x = 262144 + s * s := ⟨_, rfl⟩
  obtain ⟨y, hy⟩ : ∃ y, y = 262144 + t * t := ⟨_, rfl⟩
  have m1 := mul_bd (a := 2 * gate + 1) (b := step) (A := 399) (B := 2000) (by omega) (by omega) (by omega) p2
  rw [← hm] at m1
  have ss := sq_nonneg s
  have tt := sq_nonneg t
  have ss2 := (sq_bd (a := s) (A := 264) (by omega) (by omega)).2
  have tt2 := (sq_bd (a := t) (A := 264) (by omega) t2).2
  have xpos : 0 < x := by omega
  have ypos : 0 < y := by omega
  have hxy : 0 < x * y := Int.mul_pos xpos ypos
  -- the pieces
  obtain ⟨F1, hF1⟩ : ∃ F, F = sinN step s gate / runD s := ⟨_, rfl⟩
  obtain ⟨L1, hL1⟩ : ∃ F, F = runLo step s gate := ⟨_, rfl⟩
  obtain ⟨H2, hH2⟩ : ∃ F, F = runHi step t gate := ⟨_, rfl⟩
  obtain ⟨F2, hF2⟩ : ∃ F, F = -((-sinN step t gate) / runD t) := ⟨_, rfl⟩
  obtain ⟨G1, hG1⟩ : ∃ F, F = L1 * L1 / (2 * hi) := ⟨_, rfl⟩
  obtain ⟨G2, hG2⟩ : ∃ F, F = -((-(H2 * H2)) / (2 * lo)) := ⟨_, rfl⟩
  have goal : climbLo z step s gate hi = z + (F1 + G1) ∧ climbHi z step t gate lo = z + (F2 + G2) := by
    unfold climbLo climbHi
    rw [← hL1, ← hH2, ← hF1, ← hF2, ← hG1, ← hG2]
    constructor <;> omega
  rw [goal.1, goal.2]
  have dS : runD s = 2 * x := by unfold runD; rw [hx]
  have dT : runD t = 2 * y := by unfold runD; rw [hy]
  have a1 : sinN step s gate = m * (1024 * s) := by unfold sinN; rw [← hm]
  have a2 : sinN step t gate = m * (1024 * t) := by unfold sinN; rw [← hm]
  have n1 : runN step s gate = m * (262144 - s * s) := by unfold runN; rw [← hm]
  have n2 : runN step t gate = m * (262144 - t * t) := by unfold runN; rw [← hm]
  have f1 : 2 * x * F1 ≤ m * (1024 * s) := by rw [hF1, dS, a1]; exact floor_le (by omega)
  have f2 : m * (1024 * t) ≤ 2 * y * F2 := by rw [hF2, dT, a2]; exact ceil_ge (by omega)
  have l1 : 2 * x * L1 ≤ m * (262144 - s * s) := by rw [hL1]; unfold runLo; rw [dS, n1]; exact floor_le (by omega)
  have l0 : 0 ≤ L1 := by rw [hL1]; exact (runLo_bd s1 (by omega) p1 p2 g1 g2).1
  have h2 : m * (262144 - t * t) ≤ 2 * y * H2 := by rw [hH2]; unfold runHi; rw [dT, n2]; exact ceil_ge (by omega)
  have w1 : 2 * hi * G1 ≤ L1 * L1 := by rw [hG1]; exact floor_le (by omega)
  have w2 : H2 * H2 ≤ 2 * lo * G2 := by rw [hG2]; exact ceil_ge (by omega)
  have G1n : 0 ≤ G1 := by rw [hG1]; exact Int.ediv_nonneg (sq_nonneg _) (by omega)
  clear hF1 hL1 hH2 hF2 hG1 hG2 goal
  have c1 : 0 ≤ m * (262144 - s * s) := Int.mul_nonneg (by omega) (by omega)
  have c2 : 0 ≤ m * (262144 - t * t) := Int.mul_nonneg (by omega) (by omega)
  have hq : 0 < 2 * (x * y) := by omega
  have hK : 0 < 2 * lo * (2 * (x * y)) := Int.mul_pos (by omega) hq
  have key : F1 + G1 ≤ F2 + G2 := by
    refine core (q := 2 * (x * y)) (K := 2 * lo * (2 * (x * y))) (A1 := y * (m * (1024 * s))) (A2 := x * (m * (1024 * t)))
      (N1 := (y * (m * (262144 - s * s))) * (y * (m * (262144 - s * s)))) (N2 := (x * (m * (262144 - t * t))) * (x * (m * (262144 - t * t)))) hq hK ?_ ?_ ?_ ?_ ?_ ?_ ?_
    · have e : 2 * (x * y) * F1 = y * (2 * x * F1) := by
        rw [Int.mul_comm x y, Int.mul_left_comm 2 y x, Int.mul_assoc]
      rw [e]; exact Int.mul_le_mul_of_nonneg_left f1 (by omega)
    · have e : 2 * (x * y) * F2 = x * (2 * y * F2) := by
        rw [Int.mul_left_comm 2 x y, Int.mul_assoc]
      rw [e]; exact Int.mul_le_mul_of_nonneg_left f2 (by omega)
    · have e : 2 * (x * y) * L1 = y * (2 * x * L1) := by
        rw [Int.mul_comm x y, Int.mul_left_comm 2 y x, Int.mul_assoc]
      have b1 : 2 * (x * y) * L1 ≤ y * (m * (262144 - s * s)) := by rw [e]; exact Int.mul_le_mul_of_nonneg_left l1 (by omega)
      have b2 := sq_le_sq (Int.mul_nonneg (by omega) l0) b1
      have b3 : 2 * lo * G1 ≤ L1 * L1 := by
        have : 2 * lo * G1 ≤ 2 * hi * G1 := Int.mul_le_mul_of_nonneg_right (by omega) G1n
        omega
      have b4 := Int.mul_le_mul_of_nonneg_left b3 (show 0 ≤ (2 * (x * y)) * (2 * (x * y)) from sq_nonneg _)
      have e2 : 2 * lo * (2 * (x * y)) * (2 * (x * y)) * G1 = (2 * (x * y)) * (2 * (x * y)) * (2 * lo * G1) := by
        rw [Int.mul_assoc (2 * lo), Int.mul_assoc (2 * lo), Int.mul_left_comm (2 * lo)]
      rw [e2]
      rw [mul_sq (2 * (x * y)) L1] at b2
      omega
    · have e : 2 * (x * y) * H2 = x * (2 * y * H2) := by
        rw [Int.mul_left_comm 2 x y, Int.mul_assoc]
      have b1 : x * (m * (262144 - t * t)) ≤ 2 * (x * y) * H2 := by rw [e]; exact Int.mul_le_mul_of_nonneg_left h2 (by omega)
      have b2 := sq_le_sq (Int.mul_nonneg (by omega) c2) b1
      have b4 := Int.mul_le_mul_of_nonneg_left w2 (show 0 ≤ (2 * (x * y)) * (2 * (x * y)) from sq_nonneg _)
      have e2 : 2 * lo * (2 * (x * y)) * (2 * (x * y)) * G2 = (2 * (x * y)) * (2 * (x * y)) * (2 * lo * G2) := by
        rw [Int.mul_assoc (2 * lo), Int.mul_assoc (2 * lo), Int.mul_left_comm (2 * lo)]
      rw [e2]
      rw [mul_sq (2 * (x * y)) H2] at b2
      omega
    · have us := slant_unit s
      have ut := slant_unit t
      rw [← hx] at us
      rw [← hy] at ut
      rw [mul_sq y, mul_sq y, mul_sq x, mul_sq x, mul_sq m, mul_sq m, mul_sq m, mul_sq m, ← Int.mul_add, ← Int.mul_add, ← Int.mul_add, ← Int.mul_add, us, ut]
      rw [Int.mul_left_comm (y * y), Int.mul_left_comm (x * x), Int.mul_comm (y * y)]
    · have d1 : s * y ≤ t * x := by
        have v1 : s * t ≤ 69696 := (mul_abs (a := s) (b := t) (A := 264) (B := 264) (by omega) (by omega) (by omega) (by omega)).2
        have v2 : 0 ≤ (t - s) * (262144 - s * t) := Int.mul_nonneg (by omega) (by omega)
        have v3 : (t - s) * (262144 - s * t) = t * x - s * y := by
          rw [hx, hy, Int.sub_mul, Int.mul_sub, Int.mul_sub, Int.mul_add, Int.mul_add, ← Int.mul_assoc s t t, Int.mul_left_comm t s t, Int.mul_left_comm t s s, Int.mul_comm t s, ← Int.mul_assoc s s t, Int.mul_assoc s t t, Int.mul_assoc s s t]
          omega
        omega
      have d2 := Int.mul_le_mul_of_nonneg_left d1 (show 0 ≤ m * 1024 by omega)
      have z1 : y * (m * (1024 * s)) = m * 1024 * (s * y) := by
        rw [Int.mul_left_comm y m, Int.mul_left_comm y 1024 s, Int.mul_comm y s, ← Int.mul_assoc m 1024]
      have z2 : x * (m * (1024 * t)) = m * 1024 * (t * x) := by
        rw [Int.mul_left_comm x m, Int.mul_left_comm x 1024 t, Int.mul_comm x t, ← Int.mul_assoc m 1024]
      rw [z1, z2]; exact d2
    · have u1 : 1024 * s ≤ x := by
        have := sq_nonneg (s - 512)
        rw [Int.sub_mul, Int.mul_sub, Int.mul_sub] at this
        omega
      have u2 : 1024 * t ≤ y := by
        have := sq_nonneg (t - 512)
        rw [Int.sub_mul, Int.mul_sub, Int.mul_sub] at this
        omega
      have v1 := Int.mul_le_mul_of_nonneg_left u1 (show 0 ≤ m by omega)
      have v2 := Int.mul_le_mul_of_nonneg_left u2 (show 0 ≤ m by omega)
      have w3 := Int.mul_le_mul_of_nonneg_left v1 (show 0 ≤ y by omega)
      have w4 := Int.mul_le_mul_of_nonneg_left v2 (show 0 ≤ x by omega)
      have z1 : y * (m * x) = m * (x * y) := by rw [Int.mul_left_comm y m x, Int.mul_comm y x]
      have z2 : x * (m * y) = m * (x * y) := by rw [Int.mul_left_comm x m y]
      rw [z1] at w3
      rw [z2] at w4
      have z3 : 2 * m * (x * y) ≤ 2 * lo * (2 * (x * y)) := by
        rw [Int.mul_left_comm (2 * lo) 2]
        rw [Int.mul_assoc 2 m]
        have := Int.mul_le_mul_of_nonneg_right (show m ≤ 2 * lo by omega) (show 0 ≤ x * y by omega)
        omega
      rw [Int.mul_assoc 2 m] at z3
      omega
  omega

theorem lo_mono {z step t gate hi hi' : Int} (h1 : 0 < hi') (h2 : hi' ≤ hi) : climbLo z step t gate hi ≤ climbLo z step t gate hi' := by
  unfold climbLo
  have hn : 0 ≤ runLo step t gate * runLo step t gate := sq_nonneg _
  have h3 : 0 ≤ runLo step t gate * runLo step t gate / (2 * hi) := Int.ediv_nonneg hn (by omega)
  have h4 := floor_le (a := runLo step t gate * runLo step t gate) (b := 2 * hi) (by omega)
  have h5 : runLo step t gate * runLo step t gate / (2 * hi) ≤ runLo step t gate * runLo step t gate / (2 * hi') := by
    apply Int.le_ediv_of_mul_le (by omega)
    have := Int.mul_le_mul_of_nonneg_left (show 2 * hi' ≤ 2 * hi by omega) h3
    rw [Int.mul_comm _ (2 * hi)] at this
    omega
  omega

theorem hi_mono {z step t gate lo lo' : Int} (h1 : 0 < lo) (h2 : lo ≤ lo') : climbHi z step t gate lo' ≤ climbHi z step t gate lo := by
  unfold climbHi
  have hn : 0 ≤ runHi step t gate * runHi step t gate := sq_nonneg _
  have h3 : (-(runHi step t gate * runHi step t gate)) / (2 * lo) ≤ 0 := by
    have : (-(runHi step t gate * runHi step t gate)) / (2 * lo) < 1 := Int.ediv_lt_of_lt_mul (by omega) (by omega)
    omega
  have h4 := floor_le (a := -(runHi step t gate * runHi step t gate)) (b := 2 * lo) (by omega)
  have h5 : (-(runHi step t gate * runHi step t gate)) / (2 * lo) ≤ (-(runHi step t gate * runHi step t gate)) / (2 * lo') := by
    apply Int.le_ediv_of_mul_le (by omega)
    have := Int.mul_le_mul_of_nonpos_left h3 (show 2 * lo ≤ 2 * lo' by omega)
    rw [Int.mul_comm _ (2 * lo)] at this
    omega
  omega

end Go.Proofs.Ythnjfnapjpdchaa.M
