/-
  Plain lemmas on heights: they rise with the tilt, and with a smaller sphere.
-/
import Derived.Test.YthnjfnapjpdchaaKm3
import Derived.Test.YthnjfnapjpdchaaKm4
import Derived.Test.YthnjfnapjpdchaaKm7
namespace Go.Proofs.Ythnjfnapjpdchaa.M

theorem core {q K A1 A2 N1 N2 F1 F2 G1 G2 : Int} (hq : 0 < q) (hK : 0 < K) (h1 : q * F1 ≤ A1) (h2 : A2 ≤ q * F2) (h3 : K * q * G1 ≤ N1) (h4 : N2 ≤ K * q * G2)
    (h5 : N1 + A1 * A1 = N2 + A2 * A2) (h6 : A1 ≤ A2) (h7 : A1 + A2 ≤ K) : F1 + G1 ≤ F2 + G2 := by
  have e1 : K * q * F1 ≤ K * A1 := by rw [Int.mul_assoc]; exact Int.mul_le_mul_of_nonneg_left h1 (by omega)
  have e2 : K * A2 ≤ K * q * F2 := by rw [Int.mul_assoc]; exact Int.mul_le_mul_of_nonneg_left h2 (by omega)
  have e3 : (A2 - A1) * (A1 + A2) ≤ (A2 - A1) * K := Int.mul_le_mul_of_nonneg_left h7 (by omega)
  have e4 : (A2 - A1) * (A1 + A2) = A2 * A2 - A1 * A1 := by rw [Int.sub_mul, Int.mul_add, Int.mul_add, Int.mul_comm A2 A1]; omega
  have e5 : (A2 - A1) * K = K * A2 - K * A1 := by rw [Int.sub_mul, Int.mul_comm A2, Int.mul_comm A1]
  have hKq : 0 < K * q := Int.mul_pos hK hq
  have e6 : 0 ≤ K * q * (F2 + G2 - (F1 + G1)) := by
    rw [Int.mul_sub, Int.mul_add, Int.mul_add]; omega
  by_cases h : F1 + G1 ≤ F2 + G2
  · exact h
  · exfalso
    have h8 : K * q * (F2 + G2 - (F1 + G1)) < 0 := Int.mul_neg_of_pos_of_neg hKq (by omega)
    omega

theorem sq_le_sq {a b : Int} (h0 : 0 ≤ a) (h : a ≤ b) : a * a ≤ b * b := Int.mul_le_mul h h h0 (by omega)
theorem fl_le {a b : Int} : b * (a / b) ≤ a ∨ b = 0 := by
  by_cases h : b = 0
  · exact .inr h
  · exact .inl (Int.mul_ediv_self_le h)
theorem floor_le {a b : Int} (hb : 0 < b) : b * (a / b) ≤ a := Int.mul_ediv_self_le (by omega)
theorem ceil_ge {a b : Int} (hb : 0 < b) : a ≤ b * -((-a) / b) := by
  have := floor_le (a := -a) hb
  rw [Int.mul_neg]; omega

theorem slant_unit (t : Int) : (262144 - t * t) * (262144 - t * t) + (1024 * t) * (1024 * t) = (262144 + t * t) * (262144 + t * t) := by
  have e1 : (1024 * t) * (1024 * t) = 1048576 * (t * t) := by rw [Int.mul_assoc, Int.mul_left_comm t 1024 t]; omega
  have e2 : (262144 - t * t) * (262144 - t * t) = 68719476736 - 524288 * (t * t) + (t * t) * (t * t) := by rw [Int.sub_mul, Int.mul_sub, Int.mul_sub]; omega
  have e3 : (262144 + t * t) * (262144 + t * t) = 68719476736 + 524288 * (t * t) + (t * t) * (t * t) := by rw [Int.add_mul, Int.mul_add, Int.mul_add]; omega
  rw [e1, e2, e3]; omega

theorem mul_sq (a b : Int) : (a * b) * (a * b) = (a * a) * (b * b) := by
  rw [Int.mul_assoc, Int.mul_left_comm b a b, ← Int.mul_assoc a a]

/-- a gate seen at a lower tilt is not higher than at a higher one, within roundings -/
theorem rise {z step s t gate lo hi : Int} (s1 : -8 ≤ s) (s2 : s ≤ t) (t2 : t ≤ 264) (p1 : 50 ≤ step) (p2 : step ≤ 2000) (g1 : 0 ≤ gate) (g2 : gate ≤ 199)
    (e1 : 1000000 ≤ lo) (e2 : lo ≤ hi) : climbLo z step s gate hi ≤ climbHi z step t gate lo := by
  obtain ⟨m, hm⟩ : ∃ m, m = (2 * gate + 1) * step := ⟨_, rfl⟩
  obtain ⟨x, hx⟩ : ∃ x, x = 262144 + s * s := ⟨_, rfl⟩
  obtain ⟨y, hy⟩ : ∃ y, y = 262144 + t * t := ⟨_, rfl⟩
  have m1 := mul_bd (a := 2 * gate + 1) (b := step) (A := 399) (B := 2000) (by omega) (by omega) (by omega) p2
  rw [← hm] at m1
  have ss := sq_nonneg s
  have tt := sq_nonneg t
  have ss2 := (sq_bd (a := s) (A := 264) (by omega) (by omega)).2
  have tt2 := (sq_bd (a := t) (A := 264) (by omega) t2).2
  have xpos : 0 < x := by omega
  have ypos : 0 < y := by omega
  have hxy : 0 < x * y := Int.mul_pos xpos ypos
  -- the pieces
  obtain ⟨F1, hF1⟩ : ∃ F, F = sinN step s gate / runD s := ⟨_, rfl⟩
  obtain ⟨L1, hL1⟩ : ∃ F, F = runLo step s gate := ⟨_, rfl⟩
  obtain ⟨H2, hH2⟩ : ∃ F, F = runHi step t gate := ⟨_, rfl⟩
  obtain ⟨F2, hF2⟩ : ∃ F, F = -((-sinN step t gate) / runD t) := ⟨_, rfl⟩
  obtain ⟨G1, hG1⟩ : ∃ F, F = L1 * L1 / (2 * hi) := ⟨_, rfl⟩
  obtain ⟨G2, hG2⟩ : ∃ F, F = -((-(H2 * H2)) / (2 * lo)) := ⟨_, rfl⟩
  have goal : climbLo z step s gate hi = z + (F1 + G1) ∧ climbHi z step t gate lo = z + (F2 + G2) := by
    unfold climbLo climbHi
    rw [← hL1, ← hH2, ← hF1, ← hF2, ← hG1, ← hG2]
    constructor <;> omega
  rw [goal.1, goal.2]
  have dS : runD s = 2 * x := by unfold runD; rw [hx]
  have dT : runD t = 2 * y := by unfold runD; rw [hy]
  have a1 : sinN step s gate = m * (1024 * s) := by unfold sinN; rw [← hm]
  have a2 : sinN step t gate = m * (1024 * t) := by unfold sinN; rw [← hm]
  have n1 : runN step s gate = m * (262144 - s * s) := by unfold runN; rw [← hm]
  have n2 : runN step t gate = m * (262144 - t * t) := by unfold runN; rw [← hm]
  have f1 : 2 * x * F1 ≤ m * (1024 * s) := by rw [hF1, dS, a1]; exact floor_le (by omega)
  have f2 : m * (1024 * t) ≤ 2 * y * F2 := by rw [hF2, dT, a2]; exact ceil_ge (by omega)
  have l1 : 2 * x * L1 ≤ m * (262144 - s * s) := by rw [hL1]; unfold runLo; rw [dS, n1]; exact floor_le (by omega)
  have l0 : 0 ≤ L1 := by rw [hL1]; exact (runLo_bd s1 (by omega) p1 p2 g1 g2).1
  have h2 : m * (262144 - t * t) ≤ 2 * y * H2 := by rw [hH2]; unfold runHi; rw [dT, n2]; exact ceil_ge (by omega)
  have w1 : 2 * hi * G1 ≤ L1 * L1 := by rw [hG1]; exact floor_le (by omega)
  have w2 : H2 * H2 ≤ 2 * lo * G2 := by rw [hG2]; exact ceil_ge (by omega)
  have G1n : 0 ≤ G1 := by rw [hG1]; exact Int.ediv_nonneg (sq_nonneg _) (by omega)
  clear hF1 hL1 hH2 hF2 hG1 hG2 goal
  have c1 : 0 ≤ m * (262144 - s * s) := Int.mul_nonneg (by omega) (by omega)
  have c2 : 0 ≤ m * (262144 - t * t) := Int.mul_nonneg (by omega) (by omega)
  have hq : 0 < 2 * (x * y) := by omega
  have hK : 0 < 2 * lo * (2 * (x * y)) := Int.mul_pos (by omega) hq
  have key : F1 + G1 ≤ F2 + G2 := by
    refine core (q := 2 * (x * y)) (K := 2 * lo * (2 * (x * y))) (A1 := y * (m * (1024 * s))) (A2 := x * (m * (1024 * t)))
      (N1 := (y * (m * (262144 - s * s))) * (y * (m * (262144 - s * s)))) (N2 := (x * (m * (262144 - t * t))) * (x * (m * (262144 - t * t)))) hq hK ?_ ?_ ?_ ?_ ?_ ?_ ?_
    · have e : 2 * (x * y) * F1 = y * (2 * x * F1) := by
        rw [Int.mul_comm x y, Int.mul_left_comm 2 y x, Int.mul_assoc]
      rw [e]; exact Int.mul_le_mul_of_nonneg_left f1 (by omega)
    · have e : 2 * (x * y) * F2 = x * (2 * y * F2) := by
        rw [Int.mul_left_comm 2 x y, Int.mul_assoc]
      rw [e]; exact Int.mul_le_mul_of_nonneg_left f2 (by omega)
    · have e : 2 * (x * y) * L1 = y * (2 * x * L1) := by
        rw [Int.mul_comm x y, Int.mul_left_comm 2 y x, Int.mul_assoc]
      have b1 : 2 * (x * y) * L1 ≤ y * (m * (262144 - s * s)) := by rw [e]; exact Int.mul_le_mul_of_nonneg_left l1 (by omega)
      have b2 := sq_le_sq (Int.mul_nonneg (by omega) l0) b1
      have b3 : 2 * lo * G1 ≤ L1 * L1 := by
        have : 2 * lo * G1 ≤ 2 * hi * G1 := Int.mul_le_mul_of_nonneg_right (by omega) G1n
        omega
      have b4 := Int.mul_le_mul_of_nonneg_left b3 (show 0 ≤ (2 * (x * y)) * (2 * (x * y)) from sq_nonneg _)
      have e2 : 2 * lo * (2 * (x * y)) * (2 * (x * y)) * G1 = (2 * (x * y)) * (2 * (x * y)) * (2 * lo * G1) := by
        rw [Int.mul_assoc (2 * lo), Int.mul_assoc (2 * lo), Int.mul_left_comm (2 * lo)]
      rw [e2]
      rw [mul_sq (2 * (x * y)) L1] at b2
      omega
    · have e : 2 * (x * y) * H2 = x * (2 * y * H2) := by
        rw [Int.mul_left_comm 2 x y, Int.mul_assoc]
      have b1 : x * (m * (262144 - t * t)) ≤ 2 * (x * y) * H2 := by rw [e]; exact Int.mul_le_mul_of_nonneg_left h2 (by omega)
      have b2 := sq_le_sq (Int.mul_nonneg (by omega) c2) b1
      have b4 := Int.mul_le_mul_of_nonneg_left w2 (show 0 ≤ (2 * (x * y)) * (2 * (x * y)) from sq_nonneg _)
      have e2 : 2 * lo * (2 * (x * y)) * (2 * (x * y)) * G2 = (2 * (x * y)) * (2 * (x * y)) * (2 * lo * G2) := by
        rw [Int.mul_assoc (2 * lo), Int.mul_assoc (2 * lo), Int.mul_left_comm (2 * lo)]
      rw [e2]
      rw [mul_sq (2 * (x * y)) H2] at b2
      omega
    · have us := slant_unit s
      have ut := slant_unit t
      rw [← hx] at us
      rw [← hy] at ut
      rw [mul_sq y, mul_sq y, mul_sq x, mul_sq x, mul_sq m, mul_sq m, mul_sq m, mul_sq m, ← Int.mul_add, ← Int.mul_add, ← Int.mul_add, ← Int.mul_add, us, ut]
      rw [Int.mul_left_comm (y * y), Int.mul_left_comm (x * x), Int.mul_comm (y * y)]
    · have d1 : s * y ≤ t * x := by
        have v1 : s * t ≤ 69696 := (mul_abs (a := s) (b := t) (A := 264) (B := 264) (by omega) (by omega) (by omega) (by omega)).2
        have v2 : 0 ≤ (t - s) * (262144 - s * t) := Int.mul_nonneg (by omega) (by omega)
        have v3 : (t - s) * (262144 - s * t) = t * x - s * y := by
          rw [hx, hy, Int.sub_mul, Int.mul_sub, Int.mul_sub, Int.mul_add, Int.mul_add, ← Int.mul_assoc s t t, Int.mul_left_comm t s t, Int.mul_left_comm t s s, Int.mul_comm t s, ← Int.mul_assoc s s t, Int.mul_assoc s t t, Int.mul_assoc s s t]
          omega
        omega
      have d2 := Int.mul_le_mul_of_nonneg_left d1 (show 0 ≤ m * 1024 by omega)
      have z1 : y * (m * (1024 * s)) = m * 1024 * (s * y) := by
        rw [Int.mul_left_comm y m, Int.mul_left_comm y 1024 s, Int.mul_comm y s, ← Int.mul_assoc m 1024]
      have z2 : x * (m * (1024 * t)) = m * 1024 * (t * x) := by
        rw [Int.mul_left_comm x m, Int.mul_left_comm x 1024 t, Int.mul_comm x t, ← Int.mul_assoc m 1024]
      rw [z1, z2]; exact d2
    · have u1 : 1024 * s ≤ x := by
        have := sq_nonneg (s - 512)
        rw [Int.sub_mul, Int.mul_sub, Int.mul_sub] at this
        omega
      have u2 : 1024 * t ≤ y := by
        have := sq_nonneg (t - 512)
        rw [Int.sub_mul, Int.mul_sub, Int.mul_sub] at this
        omega
      have v1 := Int.mul_le_mul_of_nonneg_left u1 (show 0 ≤ m by omega)
      have v2 := Int.mul_le_mul_of_nonneg_left u2 (show 0 ≤ m by omega)
      have w3 := Int.mul_le_mul_of_nonneg_left v1 (show 0 ≤ y by omega)
      have w4 := Int.mul_le_mul_of_nonneg_left v2 (show 0 ≤ x by omega)
      have z1 : y * (m * x) = m * (x * y) := by rw [Int.mul_left_comm y m x, Int.mul_comm y x]
      have z2 : x * (m * y) = m * (x * y) := by rw [Int.mul_left_comm x m y]
      rw [z1] at w3
      rw [z2] at w4
      have z3 : 2 * m * (x * y) ≤ 2 * lo * (2 * (x * y)) := by
        rw [Int.mul_left_comm (2 * lo) 2]
        rw [Int.mul_assoc 2 m]
        have := Int.mul_le_mul_of_nonneg_right (show m ≤ 2 * lo by omega) (show 0 ≤ x * y by omega)
        omega
      rw [Int.mul_assoc 2 m] at z3
      omega
  omega

theorem lo_mono {z step t gate hi hi' : Int} (h1 : 0 < hi') (h2 : hi' ≤ hi) : climbLo z step t gate hi ≤ climbLo z step t gate hi' := by
  unfold climbLo
  have hn : 0 ≤ runLo step t gate * runLo step t gate := sq_nonneg _
  have h3 : 0 ≤ runLo step t gate * runLo step t gate / (2 * hi) := Int.ediv_nonneg hn (by omega)
  have h4 := floor_le (a := runLo step t gate * runLo step t gate) (b := 2 * hi) (by omega)
  have h5 : runLo step t gate * runLo step t gate / (2 * hi) ≤ runLo step t gate * runLo step t gate / (2 * hi') := by
    apply Int.le_ediv_of_mul_le (by omega)
    have := Int.mul_le_mul_of_nonneg_left (show 2 * hi' ≤ 2 * hi by omega) h3
    rw [Int.mul_comm _ (2 * hi)] at this
    omega
  omega

theorem hi_mono {z step t gate lo lo' : Int} (h1 : 0 < lo) (h2 : lo ≤ lo') : climbHi z step t gate lo' ≤ climbHi z step t gate lo := by
  unfold climbHi
  have hn : 0 ≤ runHi step t gate * runHi step t gate := sq_nonneg _
  have h3 : (-(runHi step t gate * runHi step t gate)) / (2 * lo) ≤ 0 := by
    have : (-(runHi step t gate * runHi step t gate)) / (2 * lo) < 1 := Int.ediv_lt_of_lt_mul (by omega) (by omega)
    omega
  have h4 := floor_le (a := -(runHi step t gate * runHi step t gate)) (b := 2 * lo) (by omega)
  have h5 : (-(runHi step t gate * runHi step t gate)) / (2 * lo) ≤ (-(runHi step t gate * runHi step t gate)) / (2 * lo') := by
    apply Int.le_ediv_of_mul_le (by omega)
    have := Int.mul_le_mul_of_nonpos_left h3 (show 2 * lo ≤ 2 * lo' by omega)
    rw [Int.mul_comm _ (2 * lo)] at this
    omega
  omega

end Go.Proofs.Ythnjfnapjpdchaa.M

namespace Go.Proofs.Ythnjfnapjpdchaa
open Go.RowKit

theorem cellAt_drew {w : World} {q : Addr} (h : w.cell? q = some (cellAt w q)) : w.drew.cell? q = some (cellAt w.drew q) := h
theorem pair_readD {w : World} {b : Nat} {u v c0 c1 : Value} (h0 : ((w.setCell ⟨b, 0, none⟩ u).setCell ⟨b, 1, none⟩ v).drew.cell? ⟨b, 0, none⟩ = some c0)
    (h1 : ((w.setCell ⟨b, 0, none⟩ u).setCell ⟨b, 1, none⟩ v).drew.cell? ⟨b, 1, none⟩ = some c1) :
    ((w.setCell ⟨b, 0, none⟩ u).setCell ⟨b, 1, none⟩ v).drew.cell? ⟨b, 0, none⟩ = some u ∧ ((w.setCell ⟨b, 0, none⟩ u).setCell ⟨b, 1, none⟩ v).drew.cell? ⟨b, 1, none⟩ = some v :=
  pair_read (w := w) h0 h1

set_option maxHeartbeats 1600000 in
theorem refheight_any (nm : ByteArray) (x y z rose gates step width t lo hi gate : Int) (w : World) (h1 : -8 ≤ t) (h2 : t ≤ 264) (s1 : 50 ≤ step) (s2 : step ≤ 2000) (g1 : 0 ≤ gate) (g2 : gate ≤ 199) (z1 : 0 ≤ z) (z2 : z ≤ 20000) (e1 : 1000000 ≤ lo) (e2 : lo ≤ 100000000) (e3 : 1000000 ≤ hi) (e4 : hi ≤ 100000000) :
    Calls Try.prog 74 #[.agg #[.string nm, .int .i64 x, .int .i64 y, .int .i64 z, .int .i64 rose, .int .i64 gates, .int .i64 step, .int .i64 width], .int .i64 t, .agg #[.int .i64 lo, .int .i64 hi], .int .i64 gate] w
      fun e w' => e = .returned (.agg #[.int .i64 (climbLo z step t gate hi), .int .i64 (climbHi z step t gate lo)]) ∧ Below w.heap.size w w' := by
  obtain ⟨a1, a2⟩ := runLo_bd h1 h2 s1 s2 g1 g2
  obtain ⟨a3, a4⟩ := runHi_bd h1 h2 s1 s2 g1 g2
  have b3 := M.mul_bd a1 a2 a1 a2
  have b3' := M.mul_bd a3 a4 a3 a4
  have b4 := sinN_bd h1 h2 s1 s2 g1 g2
  unfold sinN at b4
  have b5 := runD_bd h1 h2
  have b6 := M.mul_bd (a := 2 * gate + 1) (b := step) (A := 399) (B := 2000) (by omega) (by omega) (by omega) s2
  have b7 : 0 ≤ t * t := M.sq_nonneg t
  have b8 : t * t ≤ 69696 := (M.sq_bd (a := t) (A := 264) (by omega) h2).2
  have b9 := quo_bd (a := (2 * gate + 1) * step * (1024 * t)) (b := runD t) (A := 215728128000) (by omega) (by omega) (by omega)
  have b9' := quo_bd (a := -((2 * gate + 1) * step * (1024 * t))) (b := runD t) (A := 215728128000) (by omega) (by omega) (by omega)
  have b10 := quo_bd (a := runLo step t gate * runLo step t gate) (b := 2 * hi) (A := 399000 * 399000) (by omega) (by omega) (by omega)
  have b10' := quo_bd (a := -(runHi step t gate * runHi step t gate)) (b := 2 * lo) (A := 399000 * 399000) (by omega) (by omega) (by omega)
  have q5 : IntKind.i64.wrap (2 * (262144 + t * t)) = runD t := IntWalk.i64_in _ (by omega)
  have q6 : IntKind.i64.wrap (runLo step t gate * runLo step t gate) = runLo step t gate * runLo step t gate := IntWalk.i64_in _ (by omega)
  have q6' : IntKind.i64.wrap (runHi step t gate * runHi step t gate) = runHi step t gate * runHi step t gate := IntWalk.i64_in _ (by omega)
  have q7 : IntKind.i64.wrap (2 * hi) = 2 * hi := IntWalk.i64_in _ (by omega)
  have q7' : IntKind.i64.wrap (2 * lo) = 2 * lo := IntWalk.i64_in _ (by omega)
  have q8 : IntKind.i64.wrap (z + (2 * gate + 1) * step * (1024 * t) / runD t) = z + (2 * gate + 1) * step * (1024 * t) / runD t := IntWalk.i64_in _ (by omega)
  have q8' : IntKind.i64.wrap (z + -(-((2 * gate + 1) * step * (1024 * t)) / runD t)) = z + -(-((2 * gate + 1) * step * (1024 * t)) / runD t) := IntWalk.i64_in _ (by omega)
  have q9 : IntKind.i64.wrap (z + (2 * gate + 1) * step * (1024 * t) / runD t + runLo step t gate * runLo step t gate / (2 * hi)) = climbLo z step t gate hi := IntWalk.i64_in _ (by omega)
  have q9' : IntKind.i64.wrap (z + -(-((2 * gate + 1) * step * (1024 * t)) / runD t) + -(-(runHi step t gate * runHi step t gate) / (2 * lo))) = climbHi z step t gate lo := IntWalk.i64_in _ (by omega)
  go_enter Try.func74, Try.ntmps74
  go_wp2_with (first | (go_at_call 28; refine (refSlant_ok _ _ h1 h2).mono ?_; rintro e w' ⟨rfl, rfl⟩) | (go_at_call 70; refine (refground_any _ _ _ _ _ _ _ _ _ _ _ h1 h2 s1 s2 g1 g2).mono ?_; rintro e w1 ⟨rfl, hb⟩; have hz := hb.size; simp only [World.size_alloc] at hz; obtain ⟨k0, k1, k2, k3, k4, k5, k6, k7, k8⟩ : w1.cell? ⟨w.heap.size, 0, none⟩ = some (.string nm) ∧ w1.cell? ⟨w.heap.size, 1, none⟩ = some (.int .i64 x) ∧ w1.cell? ⟨w.heap.size, 2, none⟩ = some (.int .i64 y) ∧ w1.cell? ⟨w.heap.size, 3, none⟩ = some (.int .i64 z) ∧ w1.cell? ⟨w.heap.size, 4, none⟩ = some (.int .i64 rose) ∧ w1.cell? ⟨w.heap.size, 5, none⟩ = some (.int .i64 gates) ∧ w1.cell? ⟨w.heap.size, 6, none⟩ = some (.int .i64 step) ∧ w1.cell? ⟨w.heap.size, 7, none⟩ = some (.int .i64 width) ∧ w.heap.size < w1.heap.size := by (refine ⟨?_, ?_, ?_, ?_, ?_, ?_, ?_, ?_, ?_⟩ <;> first | ((repeat (first | (refine alloc_new ?_ rfl; with_reducible rfl) | (refine alloc_keep ?_ ?_; ((try simp only [World.size_alloc]); omega)) | (refine keepB hb ?_ ?_; ((try simp only [World.size_alloc]); omega)))); done) | omega)))
  generalize hw2 : w1.alloc (.cells #[.int .i64 (runLo step t gate), .int .i64 (runHi step t gate)] 43) = w2
  obtain ⟨K0, K1, K2, K3, K4, K5, K6, K7, K8, K9, K10, K11, K12, K13, K14, K15, K16, K17⟩ : w2.cell? ⟨w.heap.size, 0, none⟩ = some (.string nm) ∧ w2.cell? ⟨w.heap.size, 1, none⟩ = some (.int .i64 x) ∧ w2.cell? ⟨w.heap.size, 2, none⟩ = some (.int .i64 y) ∧ w2.cell? ⟨w.heap.size, 3, none⟩ = some (.int .i64 z) ∧ w2.cell? ⟨w.heap.size, 4, none⟩ = some (.int .i64 rose) ∧ w2.cell? ⟨w.heap.size, 5, none⟩ = some (.int .i64 gates) ∧ w2.cell? ⟨w.heap.size, 6, none⟩ = some (.int .i64 step) ∧ w2.cell? ⟨w.heap.size, 7, none⟩ = some (.int .i64 width) ∧ w2.cell? ⟨w.heap.size + 1, 0, none⟩ = some (.int .i64 lo) ∧ w2.cell? ⟨w.heap.size + 1, 1, none⟩ = some (.int .i64 hi) ∧ w2.cell? ⟨w.heap.size + 1 + 1, 0, none⟩ = some (cellAt w2 ⟨w.heap.size + 1 + 1, 0, none⟩) ∧ w2.cell? ⟨w.heap.size + 1 + 1, 1, none⟩ = some (cellAt w2 ⟨w.heap.size + 1 + 1, 1, none⟩) ∧ w2.frozen? ⟨w.heap.size + 1 + 1, 0, none⟩ = false ∧ w2.frozen? ⟨w.heap.size + 1 + 1, 1, none⟩ = false ∧
      w2.cell? ⟨w1.heap.size, 0, none⟩ = some (.int .i64 (runLo step t gate)) ∧ w2.cell? ⟨w1.heap.size, 1, none⟩ = some (.int .i64 (runHi step t gate)) ∧ w1.heap.size < w2.heap.size ∧ Below w.heap.size w w2 := by
    subst hw2
    refine ⟨?_, ?_, ?_, ?_, ?_, ?_, ?_, ?_, ?_, ?_, ?_, ?_, ?_, ?_, ?_, ?_, ?_, ?_⟩ <;> first | ((repeat (first | (refine alloc_new ?_ rfl; with_reducible rfl) | (refine alloc_new ?_ rfl; simp only [World.size_alloc]; done) | (refine alloc_keep ?_ ?_; ((try simp only [World.size_alloc]); omega)) | (refine keepB hb ?_ ?_; ((try simp only [World.size_alloc]); omega)))); done) | (refine cellAt_mk (v := .int .i64 0) ?_; (repeat (first | (refine alloc_new ?_ rfl; with_reducible rfl) | (refine alloc_new ?_ rfl; simp only [World.size_alloc]; done) | (refine alloc_keep ?_ ?_; ((try simp only [World.size_alloc]); omega)) | (refine keepB hb ?_ ?_; ((try simp only [World.size_alloc]); omega)))); done) | ((repeat (first | (refine alloc_newF ?_; with_reducible rfl) | (refine alloc_newF ?_; simp only [World.size_alloc]; done) | (refine alloc_keepF ?_ ?_; ((try simp only [World.size_alloc]); omega)) | (refine keepF hb ?_ ?_; ((try simp only [World.size_alloc]); omega)))); done) | (simp; done) | (simp; omega) | (refine Below.alloc (Below.trans ?_ (hb.mono ?_)) ?_ _; exact (((Below.refl _ _).alloc (Nat.le_refl _) _).alloc (by simp) _).alloc (by simp; omega) _; (simp; omega); omega)
  clear hw2 k0 k1 k2 k3 k4 k5 k6 k7
  go_region_held3 (fun w' => w'.cell? ⟨w.heap.size, 0, none⟩ = some (.string nm) ∧ w'.cell? ⟨w.heap.size, 1, none⟩ = some (.int .i64 x) ∧ w'.cell? ⟨w.heap.size, 2, none⟩ = some (.int .i64 y) ∧ w'.cell? ⟨w.heap.size, 3, none⟩ = some (.int .i64 z) ∧ w'.cell? ⟨w.heap.size, 4, none⟩ = some (.int .i64 rose) ∧ w'.cell? ⟨w.heap.size, 5, none⟩ = some (.int .i64 gates) ∧ w'.cell? ⟨w.heap.size, 6, none⟩ = some (.int .i64 step) ∧ w'.cell? ⟨w.heap.size, 7, none⟩ = some (.int .i64 width) ∧ w'.cell? ⟨w.heap.size + 1, 0, none⟩ = some (.int .i64 lo) ∧ w'.cell? ⟨w.heap.size + 1, 1, none⟩ = some (.int .i64 hi) ∧ w'.cell? ⟨w.heap.size + 1 + 1, 0, none⟩ = some (cellAt w' ⟨w.heap.size + 1 + 1, 0, none⟩) ∧ w'.cell? ⟨w.heap.size + 1 + 1, 1, none⟩ = some (cellAt w' ⟨w.heap.size + 1 + 1, 1, none⟩) ∧ w'.frozen? ⟨w.heap.size + 1 + 1, 0, none⟩ = false ∧ w'.frozen? ⟨w.heap.size + 1 + 1, 1, none⟩ = false ∧
      w'.cell? ⟨w1.heap.size, 0, none⟩ = some (.int .i64 (runLo step t gate)) ∧ w'.cell? ⟨w1.heap.size, 1, none⟩ = some (.int .i64 (runHi step t gate)) ∧ w1.heap.size < w'.heap.size ∧ Below w.heap.size w w')
    (first | exact ⟨K0, K1, K2, K3, K4, K5, K6, K7, K8, K9, K10, K11, K12, K13, K14, K15, K16, K17.drew⟩ | (go_split_ands; refine ⟨?_, ?_, ?_, ?_, ?_, ?_, ?_, ?_, ?_, ?_, ?_, ?_, ?_, ?_, ?_, ?_, ?_, ?_⟩ <;> first | assumption | exact cellAt_drew (cellAt_set (cellAt_set (by assumption))) | (refine drew_cell ?_; rw [World.cell?_setCell_far _ _ _ _ (by dsimp only; omega), World.cell?_setCell_far _ _ _ _ (by dsimp only; omega)]; assumption) | (refine drew_frozen ?_; simp; assumption) | (refine Below.drew (Below.setCell (Below.setCell K17 ?_ _) ?_ _); (dsimp only; omega); (dsimp only; omega)) | exact keepB hb4 (by omega) (by assumption) | exact keepA hb4 (by omega) (by assumption) | exact keepF hb4 (by omega) (by assumption) | (have := hb4.size; omega) | exact Below.trans (by assumption) (hb4.mono (by omega)) | (refine Below.setCell (Below.setCell ?_ ?_ _) ?_ _; (assumption); (dsimp only; omega); (dsimp only; omega)) | exact cellAt_set (cellAt_set (by assumption)) | (rw [World.cell?_setCell_far _ _ _ _ (by dsimp only; omega), World.cell?_setCell_far _ _ _ _ (by dsimp only; omega)]; assumption) | (simp; assumption) | (simp; omega)))
    (first | (go_at_call 77; refine (Down_any _ _ _ (by omega) (by omega) (by omega)).mono ?_; rintro e w' ⟨rfl, rfl⟩) | (go_at_call 94; refine (Up_any _ _ _ (by omega) (by omega) (by omega)).mono ?_; rintro e w' ⟨rfl, rfl⟩))
  go_split_ands
  have hp := pair_readD (by assumption) (by assumption)
  obtain ⟨hp0, hp1⟩ := hp
  go_wp2
  exact bodyPost_ret (v := .agg #[.int .i64 (climbLo z step t gate hi), .int .i64 (climbHi z step t gate lo)]) (by simp [results, Try.results74, go_sem, hp0, hp1]) rfl ⟨rfl, by assumption⟩

end Go.Proofs.Ythnjfnapjpdchaa

namespace Go.Proofs.Ythnjfnapjpdchaa
open Go.RowKit
set_option linter.unusedVariables false

set_option maxHeartbeats 1600000 in
theorem Height_err (nm : ByteArray) (x y z rose gates step width : Int) (t lo hi gate : Int) (w : World) (hs : nm.size ≤ maxLen) (hne : (siteC nm x y z rose gates step width != 0) = true) :
    Calls Try.prog 31 #[.agg #[.string nm, .int .i64 x, .int .i64 y, .int .i64 z, .int .i64 rose, .int .i64 gates, .int .i64 step, .int .i64 width], .int .i64 t, .agg #[.int .i64 lo, .int .i64 hi], .int .i64 gate] w
      fun e w' => e = .returned (.tuple #[.agg #[.int .i64 0, .int .i64 0], .int .i64 (siteC nm x y z rose gates step width)]) ∧ Below w.heap.size w w' := by
  have HS := Lib.hid hs
  clear hs
  go_enter Try.func31, Try.ntmps31
  go_wp2_with fail
  refine (CheckSite_any _ _ _ _ _ _ _ _ _ HS.out).mono ?_; rintro e w1 ⟨rfl, hb1⟩
  have T1 := (Three.new w nm x y z rose gates step width lo hi (.int .i64 0) (.int .i64 0) 43 43).keep hb1 (by simp only [World.size_alloc]; omega)
  clear hb1
  obtain ⟨⟨k0, k1, k2, k3, k4, k5, k6, k7⟩, ⟨p0, p1⟩, ⟨o0, o1, f0, f1⟩, hz, hbw⟩ := T1
  go_wp2
  exact bodyPost_ret (v := .tuple #[.agg #[.int .i64 0, .int .i64 0], .int .i64 (siteC nm x y z rose gates step width)]) (by simp [results, Try.results31, go_sem, o0, o1]) rfl ⟨rfl, Below.setCell (Below.setCell hbw (by dsimp only; omega) _) (by dsimp only; omega) _⟩

set_option maxHeartbeats 1600000 in
theorem Height_no0 (nm : ByteArray) (x y z rose gates step width : Int) (t lo hi gate : Int) (w : World) (hs : nm.size ≤ maxLen) (h0 : siteC nm x y z rose gates step width = 0) (hg1 : 1 ≤ gates) (hg2 : gates ≤ 200) (c0 : inB t (-8) 264 = false) :
    Calls Try.prog 31 #[.agg #[.string nm, .int .i64 x, .int .i64 y, .int .i64 z, .int .i64 rose, .int .i64 gates, .int .i64 step, .int .i64 width], .int .i64 t, .agg #[.int .i64 lo, .int .i64 hi], .int .i64 gate] w
      fun e w' => e = .returned (.tuple #[.agg #[.int .i64 0, .int .i64 0], .int .i64 3]) ∧ Below w.heap.size w w' := by
  have HS := Lib.hid hs
  have H0 := Lib.hid h0
  clear hs h0
  go_enter Try.func31, Try.ntmps31
  go_wp2_with fail
  refine (CheckSite_any _ _ _ _ _ _ _ _ _ HS.out).mono ?_; rintro e w1 ⟨rfl, hb1⟩
  have T1 := (Three.new w nm x y z rose gates step width lo hi (.int .i64 0) (.int .i64 0) 43 43).keep hb1 (by simp only [World.size_alloc]; omega)
  clear hb1
  rw [H0.out]
  obtain ⟨⟨k0, k1, k2, k3, k4, k5, k6, k7⟩, ⟨p0, p1⟩, ⟨o0, o1, f0, f1⟩, hz, hbw⟩ := T1
  go_wp2_with fail
  refine (isSlanted_any _ _).mono ?_; rintro e w' ⟨rfl, rfl⟩
  go_wp2
  exact bodyPost_ret (v := .tuple #[.agg #[.int .i64 0, .int .i64 0], .int .i64 3]) (by simp [results, Try.results31, go_sem, o0, o1]) rfl ⟨rfl, Below.setCell (Below.setCell hbw (by dsimp only; omega) _) (by dsimp only; omega) _⟩

set_option maxHeartbeats 1600000 in
theorem Height_no1 (nm : ByteArray) (x y z rose gates step width : Int) (t lo hi gate : Int) (w : World) (hs : nm.size ≤ maxLen) (h0 : siteC nm x y z rose gates step width = 0) (hg1 : 1 ≤ gates) (hg2 : gates ≤ 200) (c0 : inB t (-8) 264 = true) (c1 : spanB lo hi 1000000 100000000 = false) :
    Calls Try.prog 31 #[.agg #[.string nm, .int .i64 x, .int .i64 y, .int .i64 z, .int .i64 rose, .int .i64 gates, .int .i64 step, .int .i64 width], .int .i64 t, .agg #[.int .i64 lo, .int .i64 hi], .int .i64 gate] w
      fun e w' => e = .returned (.tuple #[.agg #[.int .i64 0, .int .i64 0], .int .i64 3]) ∧ Below w.heap.size w w' := by
  have HS := Lib.hid hs
  have H0 := Lib.hid h0
  clear hs h0
  go_enter Try.func31, Try.ntmps31
  go_wp2_with fail
  refine (CheckSite_any _ _ _ _ _ _ _ _ _ HS.out).mono ?_; rintro e w1 ⟨rfl, hb1⟩
  have T1 := (Three.new w nm x y z rose gates step width lo hi (.int .i64 0) (.int .i64 0) 43 43).keep hb1 (by simp only [World.size_alloc]; omega)
  clear hb1
  rw [H0.out]
  obtain ⟨⟨k0, k1, k2, k3, k4, k5, k6, k7⟩, ⟨p0, p1⟩, ⟨o0, o1, f0, f1⟩, hz, hbw⟩ := T1
  go_wp2_with fail
  refine (isSlanted_any _ _).mono ?_; rintro e w' ⟨rfl, rfl⟩
  go_wp2_with fail
  refine (isEarth_any _ _ _).mono ?_; rintro e w2 ⟨rfl, hb2⟩
  have T2 := (⟨⟨k0, k1, k2, k3, k4, k5, k6, k7⟩, ⟨p0, p1⟩, ⟨o0, o1, f0, f1⟩, hz, hbw⟩ : Three w w1 nm x y z rose gates step width lo hi).keep hb2 (by omega)
  clear k0 k1 k2 k3 k4 k5 k6 k7 o0 o1 f0 f1 hz hbw p0 p1
  clear hb2
  obtain ⟨⟨k0, k1, k2, k3, k4, k5, k6, k7⟩, ⟨p0, p1⟩, ⟨o0, o1, f0, f1⟩, hz, hbw⟩ := T2
  go_wp2
  exact bodyPost_ret (v := .tuple #[.agg #[.int .i64 0, .int .i64 0], .int .i64 3]) (by simp [results, Try.results31, go_sem, o0, o1]) rfl ⟨rfl, Below.setCell (Below.setCell hbw (by dsimp only; omega) _) (by dsimp only; omega) _⟩

set_option maxHeartbeats 1600000 in
theorem Height_no2 (nm : ByteArray) (x y z rose gates step width : Int) (t lo hi gate : Int) (w : World) (hs : nm.size ≤ maxLen) (h0 : siteC nm x y z rose gates step width = 0) (hg1 : 1 ≤ gates) (hg2 : gates ≤ 200) (c0 : inB t (-8) 264 = true) (c1 : spanB lo hi 1000000 100000000 = true) (c2 : inB gate 0 (gates - 1) = false) :
    Calls Try.prog 31 #[.agg #[.string nm, .int .i64 x, .int .i64 y, .int .i64 z, .int .i64 rose, .int .i64 gates, .int .i64 step, .int .i64 width], .int .i64 t, .agg #[.int .i64 lo, .int .i64 hi], .int .i64 gate] w
      fun e w' => e = .returned (.tuple #[.agg #[.int .i64 0, .int .i64 0], .int .i64 3]) ∧ Below w.heap.size w w' := by
  have HS := Lib.hid hs
  have H0 := Lib.hid h0
  clear hs h0
  go_enter Try.func31, Try.ntmps31
  go_wp2_with fail
  refine (CheckSite_any _ _ _ _ _ _ _ _ _ HS.out).mono ?_; rintro e w1 ⟨rfl, hb1⟩
  have T1 := (Three.new w nm x y z rose gates step width lo hi (.int .i64 0) (.int .i64 0) 43 43).keep hb1 (by simp only [World.size_alloc]; omega)
  clear hb1
  rw [H0.out]
  obtain ⟨⟨k0, k1, k2, k3, k4, k5, k6, k7⟩, ⟨p0, p1⟩, ⟨o0, o1, f0, f1⟩, hz, hbw⟩ := T1
  go_wp2_with fail
  refine (isSlanted_any _ _).mono ?_; rintro e w' ⟨rfl, rfl⟩
  go_wp2_with fail
  refine (isEarth_any _ _ _).mono ?_; rintro e w2 ⟨rfl, hb2⟩
  have T2 := (⟨⟨k0, k1, k2, k3, k4, k5, k6, k7⟩, ⟨p0, p1⟩, ⟨o0, o1, f0, f1⟩, hz, hbw⟩ : Three w w1 nm x y z rose gates step width lo hi).keep hb2 (by omega)
  clear k0 k1 k2 k3 k4 k5 k6 k7 o0 o1 f0 f1 hz hbw p0 p1
  clear hb2
  obtain ⟨⟨k0, k1, k2, k3, k4, k5, k6, k7⟩, ⟨p0, p1⟩, ⟨o0, o1, f0, f1⟩, hz, hbw⟩ := T2
  go_wp2_with fail
  refine (isGate_any _ _ _ _ _ _ _ _ _ _ hg1 hg2).mono ?_; rintro e w3 ⟨rfl, hb3⟩
  have T3 := (⟨⟨k0, k1, k2, k3, k4, k5, k6, k7⟩, ⟨p0, p1⟩, ⟨o0, o1, f0, f1⟩, hz, hbw⟩ : Three w w2 nm x y z rose gates step width lo hi).keep hb3 (by omega)
  clear k0 k1 k2 k3 k4 k5 k6 k7 o0 o1 f0 f1 hz hbw p0 p1
  clear hb3
  obtain ⟨⟨k0, k1, k2, k3, k4, k5, k6, k7⟩, ⟨p0, p1⟩, ⟨o0, o1, f0, f1⟩, hz, hbw⟩ := T3
  go_wp2
  exact bodyPost_ret (v := .tuple #[.agg #[.int .i64 0, .int .i64 0], .int .i64 3]) (by simp [results, Try.results31, go_sem, o0, o1]) rfl ⟨rfl, Below.setCell (Below.setCell hbw (by dsimp only; omega) _) (by dsimp only; omega) _⟩

set_option maxHeartbeats 3200000 in
theorem Height_ok (nm : ByteArray) (x y z rose gates step width : Int) (t lo hi gate : Int) (w : World) (hs : nm.size ≤ maxLen) (h0 : siteC nm x y z rose gates step width = 0) (hk : SiteOk x y z rose gates step width) (c0 : inB t (-8) 264 = true) (c1 : spanB lo hi 1000000 100000000 = true) (c2 : inB gate 0 (gates - 1) = true) :
    Calls Try.prog 31 #[.agg #[.string nm, .int .i64 x, .int .i64 y, .int .i64 z, .int .i64 rose, .int .i64 gates, .int .i64 step, .int .i64 width], .int .i64 t, .agg #[.int .i64 lo, .int .i64 hi], .int .i64 gate] w
      fun e w' => e = .returned (.tuple #[.agg #[.int .i64 (climbLo z step t gate hi), .int .i64 (climbHi z step t gate lo)], .int .i64 0]) ∧ Below w.heap.size w w' := by
  have HS := Lib.hid hs
  have H0 := Lib.hid h0
  obtain ⟨x1, x2, y1, y2, z1, z2, r1, r2, hg1, hg2, s1, s2, d1, d2⟩ := hk
  obtain ⟨t1, t2⟩ := inB_true.1 c0
  obtain ⟨g1, g3⟩ := inB_gate c2
  obtain ⟨e1, e0, e4⟩ := spanB_true.1 c1
  clear hs h0
  go_enter Try.func31, Try.ntmps31
  go_wp2_with fail
  refine (CheckSite_any _ _ _ _ _ _ _ _ _ HS.out).mono ?_; rintro e w1 ⟨rfl, hb1⟩
  have T1 := (Three.new w nm x y z rose gates step width lo hi (.int .i64 0) (.int .i64 0) 43 43).keep hb1 (by simp only [World.size_alloc]; omega)
  clear hb1
  rw [H0.out]
  obtain ⟨⟨k0, k1, k2, k3, k4, k5, k6, k7⟩, ⟨p0, p1⟩, ⟨o0, o1, f0, f1⟩, hz, hbw⟩ := T1
  go_wp2_with fail
  refine (isSlanted_any _ _).mono ?_; rintro e w' ⟨rfl, rfl⟩
  go_wp2_with fail
  refine (isEarth_any _ _ _).mono ?_; rintro e w2 ⟨rfl, hb2⟩
  have T2 := (⟨⟨k0, k1, k2, k3, k4, k5, k6, k7⟩, ⟨p0, p1⟩, ⟨o0, o1, f0, f1⟩, hz, hbw⟩ : Three w w1 nm x y z rose gates step width lo hi).keep hb2 (by omega)
  clear k0 k1 k2 k3 k4 k5 k6 k7 o0 o1 f0 f1 hz hbw p0 p1
  clear hb2
  obtain ⟨⟨k0, k1, k2, k3, k4, k5, k6, k7⟩, ⟨p0, p1⟩, ⟨o0, o1, f0, f1⟩, hz, hbw⟩ := T2
  go_wp2_with fail
  refine (isGate_any _ _ _ _ _ _ _ _ _ _ hg1 hg2).mono ?_; rintro e w3 ⟨rfl, hb3⟩
  have T3 := (⟨⟨k0, k1, k2, k3, k4, k5, k6, k7⟩, ⟨p0, p1⟩, ⟨o0, o1, f0, f1⟩, hz, hbw⟩ : Three w w2 nm x y z rose gates step width lo hi).keep hb3 (by omega)
  clear k0 k1 k2 k3 k4 k5 k6 k7 o0 o1 f0 f1 hz hbw p0 p1
  clear hb3
  obtain ⟨⟨k0, k1, k2, k3, k4, k5, k6, k7⟩, ⟨p0, p1⟩, ⟨o0, o1, f0, f1⟩, hz, hbw⟩ := T3
  go_wp2_with fail
  refine (height_any _ _ _ _ _ _ _ _ _ _ _ _ _ (by omega) (by omega) s1 s2 g1 (by omega) z1 z2 e1 (by omega) (by omega) e4).mono ?_; rintro e w4 ⟨rfl, hb4⟩
  have T4 := (⟨⟨k0, k1, k2, k3, k4, k5, k6, k7⟩, ⟨p0, p1⟩, ⟨o0, o1, f0, f1⟩, hz, hbw⟩ : Three w w3 nm x y z rose gates step width lo hi).keep hb4 (by omega)
  clear k0 k1 k2 k3 k4 k5 k6 k7 o0 o1 f0 f1 hz hbw p0 p1
  clear hb4
  obtain ⟨⟨k0, k1, k2, k3, k4, k5, k6, k7⟩, ⟨p0, p1⟩, ⟨o0, o1, f0, f1⟩, hz, hbw⟩ := T4
  go_wp2
  exact bodyPost_ret (v := .tuple #[.agg #[.int .i64 (climbLo z step t gate hi), .int .i64 (climbHi z step t gate lo)], .int .i64 0]) (by simp [results, Try.results31, go_sem, o0, o1]) rfl ⟨rfl, Below.setCell (Below.setCell hbw (by dsimp only; omega) _) (by dsimp only; omega) _⟩

theorem Height_any (nm : ByteArray) (x y z rose gates step width : Int) (t lo hi gate : Int) (w : World) (hs : nm.size ≤ maxLen) :
    Calls Try.prog 31 #[.agg #[.string nm, .int .i64 x, .int .i64 y, .int .i64 z, .int .i64 rose, .int .i64 gates, .int .i64 step, .int .i64 width], .int .i64 t, .agg #[.int .i64 lo, .int .i64 hi], .int .i64 gate] w
      fun e w' => e = .returned (.tuple #[.agg #[.int .i64 (val (codeE (siteC nm x y z rose gates step width) (inB t (-8) 264 && spanB lo hi 1000000 100000000 && inB gate 0 (gates - 1))) (climbLo z step t gate hi)), .int .i64 (val (codeE (siteC nm x y z rose gates step width) (inB t (-8) 264 && spanB lo hi 1000000 100000000 && inB gate 0 (gates - 1))) (climbHi z step t gate lo))], .int .i64 (codeE (siteC nm x y z rose gates step width) (inB t (-8) 264 && spanB lo hi 1000000 100000000 && inB gate 0 (gates - 1)))]) ∧ Below w.heap.size w w' := by
  by_cases h0 : siteC nm x y z rose gates step width = 0
  · have hk := (siteC_zero.1 h0).2
    have hg1 := hk.g1
    have hg2 := hk.g2
    rcases (Bool.eq_false_or_eq_true (inB t (-8) 264)).symm with c0 | c0
    · have e : (codeE (siteC nm x y z rose gates step width) (inB t (-8) 264 && spanB lo hi 1000000 100000000 && inB gate 0 (gates - 1))) = 3 := by rw [h0, c0]; rfl
      rw [e, val_no, val_no]
      exact Height_no0 nm x y z rose gates step width t lo hi gate w hs h0 hg1 hg2 c0
    · have _u := hg1
      rcases (Bool.eq_false_or_eq_true (spanB lo hi 1000000 100000000)).symm with c1 | c1
      · have e : (codeE (siteC nm x y z rose gates step width) (inB t (-8) 264 && spanB lo hi 1000000 100000000 && inB gate 0 (gates - 1))) = 3 := by rw [h0, c0, c1]; rfl
        rw [e, val_no, val_no]
        exact Height_no1 nm x y z rose gates step width t lo hi gate w hs h0 hg1 hg2 c0 c1
      · have _u := hg1
        rcases (Bool.eq_false_or_eq_true (inB gate 0 (gates - 1))).symm with c2 | c2
        · have e : (codeE (siteC nm x y z rose gates step width) (inB t (-8) 264 && spanB lo hi 1000000 100000000 && inB gate 0 (gates - 1))) = 3 := by rw [h0, c0, c1, c2]; rfl
          rw [e, val_no, val_no]
          exact Height_no2 nm x y z rose gates step width t lo hi gate w hs h0 hg1 hg2 c0 c1 c2
        · have e : (codeE (siteC nm x y z rose gates step width) (inB t (-8) 264 && spanB lo hi 1000000 100000000 && inB gate 0 (gates - 1))) = 0 := by rw [h0, c0, c1, c2]; rfl
          rw [e, val_ok, val_ok]
          exact Height_ok nm x y z rose gates step width t lo hi gate w hs h0 hk c0 c1 c2
  · rw [codeE_err h0, val_err h0, val_err h0]
    exact Height_err nm x y z rose gates step width t lo hi gate w hs (bne_iff_ne.2 h0)

set_option maxHeartbeats 1600000 in
theorem refHeight_err (nm : ByteArray) (x y z rose gates step width : Int) (t lo hi gate : Int) (w : World) (hs : nm.size ≤ maxLen) (hne : (siteC nm x y z rose gates step width != 0) = true) :
    Calls Try.prog 32 #[.agg #[.string nm, .int .i64 x, .int .i64 y, .int .i64 z, .int .i64 rose, .int .i64 gates, .int .i64 step, .int .i64 width], .int .i64 t, .agg #[.int .i64 lo, .int .i64 hi], .int .i64 gate] w
      fun e w' => e = .returned (.tuple #[.agg #[.int .i64 0, .int .i64 0], .int .i64 (siteC nm x y z rose gates step width)]) ∧ Below w.heap.size w w' := by
  have HS := Lib.hid hs
  clear hs
  go_enter Try.func32, Try.ntmps32
  go_wp2_with fail
  refine (refCheckSite_any _ _ _ _ _ _ _ _ _ HS.out).mono ?_; rintro e w1 ⟨rfl, hb1⟩
  have T1 := (Three.new w nm x y z rose gates step width lo hi (.int .i64 0) (.int .i64 0) 43 43).keep hb1 (by simp only [World.size_alloc]; omega)
  clear hb1
  obtain ⟨⟨k0, k1, k2, k3, k4, k5, k6, k7⟩, ⟨p0, p1⟩, ⟨o0, o1, f0, f1⟩, hz, hbw⟩ := T1
  go_wp2
  exact bodyPost_ret (v := .tuple #[.agg #[.int .i64 0, .int .i64 0], .int .i64 (siteC nm x y z rose gates step width)]) (by simp [results, Try.results32, go_sem, o0, o1]) rfl ⟨rfl, Below.setCell (Below.setCell hbw (by dsimp only; omega) _) (by dsimp only; omega) _⟩

set_option maxHeartbeats 1600000 in
theorem refHeight_no0 (nm : ByteArray) (x y z rose gates step width : Int) (t lo hi gate : Int) (w : World) (hs : nm.size ≤ maxLen) (h0 : siteC nm x y z rose gates step width = 0) (hg1 : 1 ≤ gates) (hg2 : gates ≤ 200) (c0 : inB t (-8) 264 = false) :
    Calls Try.prog 32 #[.agg #[.string nm, .int .i64 x, .int .i64 y, .int .i64 z, .int .i64 rose, .int .i64 gates, .int .i64 step, .int .i64 width], .int .i64 t, .agg #[.int .i64 lo, .int .i64 hi], .int .i64 gate] w
      fun e w' => e = .returned (.tuple #[.agg #[.int .i64 0, .int .i64 0], .int .i64 3]) ∧ Below w.heap.size w w' := by
  have HS := Lib.hid hs
  have H0 := Lib.hid h0
  clear hs h0
  go_enter Try.func32, Try.ntmps32
  go_wp2_with fail
  refine (refCheckSite_any _ _ _ _ _ _ _ _ _ HS.out).mono ?_; rintro e w1 ⟨rfl, hb1⟩
  have T1 := (Three.new w nm x y z rose gates step width lo hi (.int .i64 0) (.int .i64 0) 43 43).keep hb1 (by simp only [World.size_alloc]; omega)
  clear hb1
  rw [H0.out]
  obtain ⟨⟨k0, k1, k2, k3, k4, k5, k6, k7⟩, ⟨p0, p1⟩, ⟨o0, o1, f0, f1⟩, hz, hbw⟩ := T1
  go_wp2_with fail
  refine (refIn_any _ _ _ _).mono ?_; rintro e w' ⟨rfl, rfl⟩
  go_wp2
  exact bodyPost_ret (v := .tuple #[.agg #[.int .i64 0, .int .i64 0], .int .i64 3]) (by simp [results, Try.results32, go_sem, o0, o1]) rfl ⟨rfl, Below.setCell (Below.setCell hbw (by dsimp only; omega) _) (by dsimp only; omega) _⟩

set_option maxHeartbeats 1600000 in
theorem refHeight_no1 (nm : ByteArray) (x y z rose gates step width : Int) (t lo hi gate : Int) (w : World) (hs : nm.size ≤ maxLen) (h0 : siteC nm x y z rose gates step width = 0) (hg1 : 1 ≤ gates) (hg2 : gates ≤ 200) (c0 : inB t (-8) 264 = true) (c1 : spanB lo hi 1000000 100000000 = false) :
    Calls Try.prog 32 #[.agg #[.string nm, .int .i64 x, .int .i64 y, .int .i64 z, .int .i64 rose, .int .i64 gates, .int .i64 step, .int .i64 width], .int .i64 t, .agg #[.int .i64 lo, .int .i64 hi], .int .i64 gate] w
      fun e w' => e = .returned (.tuple #[.agg #[.int .i64 0, .int .i64 0], .int .i64 3]) ∧ Below w.heap.size w w' := by
  have HS := Lib.hid hs
  have H0 := Lib.hid h0
  clear hs h0
  go_enter Try.func32, Try.ntmps32
  go_wp2_with fail
  refine (refCheckSite_any _ _ _ _ _ _ _ _ _ HS.out).mono ?_; rintro e w1 ⟨rfl, hb1⟩
  have T1 := (Three.new w nm x y z rose gates step width lo hi (.int .i64 0) (.int .i64 0) 43 43).keep hb1 (by simp only [World.size_alloc]; omega)
  clear hb1
  rw [H0.out]
  obtain ⟨⟨k0, k1, k2, k3, k4, k5, k6, k7⟩, ⟨p0, p1⟩, ⟨o0, o1, f0, f1⟩, hz, hbw⟩ := T1
  go_wp2_with fail
  refine (refIn_any _ _ _ _).mono ?_; rintro e w' ⟨rfl, rfl⟩
  go_wp2_with fail
  refine (Earth_any _ _ _).mono ?_; rintro e w2 ⟨rfl, hb2⟩
  have T2 := (⟨⟨k0, k1, k2, k3, k4, k5, k6, k7⟩, ⟨p0, p1⟩, ⟨o0, o1, f0, f1⟩, hz, hbw⟩ : Three w w1 nm x y z rose gates step width lo hi).keep hb2 (by omega)
  clear k0 k1 k2 k3 k4 k5 k6 k7 o0 o1 f0 f1 hz hbw p0 p1
  clear hb2
  obtain ⟨⟨k0, k1, k2, k3, k4, k5, k6, k7⟩, ⟨p0, p1⟩, ⟨o0, o1, f0, f1⟩, hz, hbw⟩ := T2
  go_wp2
  exact bodyPost_ret (v := .tuple #[.agg #[.int .i64 0, .int .i64 0], .int .i64 3]) (by simp [results, Try.results32, go_sem, o0, o1]) rfl ⟨rfl, Below.setCell (Below.setCell hbw (by dsimp only; omega) _) (by dsimp only; omega) _⟩

set_option maxHeartbeats 1600000 in
theorem refHeight_no2 (nm : ByteArray) (x y z rose gates step width : Int) (t lo hi gate : Int) (w : World) (hs : nm.size ≤ maxLen) (h0 : siteC nm x y z rose gates step width = 0) (hg1 : 1 ≤ gates) (hg2 : gates ≤ 200) (c0 : inB t (-8) 264 = true) (c1 : spanB lo hi 1000000 100000000 = true) (c2 : inB gate 0 (gates - 1) = false) :
    Calls Try.prog 32 #[.agg #[.string nm, .int .i64 x, .int .i64 y, .int .i64 z, .int .i64 rose, .int .i64 gates, .int .i64 step, .int .i64 width], .int .i64 t, .agg #[.int .i64 lo, .int .i64 hi], .int .i64 gate] w
      fun e w' => e = .returned (.tuple #[.agg #[.int .i64 0, .int .i64 0], .int .i64 3]) ∧ Below w.heap.size w w' := by
  have HS := Lib.hid hs
  have H0 := Lib.hid h0
  clear hs h0
  go_enter Try.func32, Try.ntmps32
  go_wp2_with fail
  refine (refCheckSite_any _ _ _ _ _ _ _ _ _ HS.out).mono ?_; rintro e w1 ⟨rfl, hb1⟩
  have T1 := (Three.new w nm x y z rose gates step width lo hi (.int .i64 0) (.int .i64 0) 43 43).keep hb1 (by simp only [World.size_alloc]; omega)
  clear hb1
  rw [H0.out]
  obtain ⟨⟨k0, k1, k2, k3, k4, k5, k6, k7⟩, ⟨p0, p1⟩, ⟨o0, o1, f0, f1⟩, hz, hbw⟩ := T1
  go_wp2_with fail
  refine (refIn_any _ _ _ _).mono ?_; rintro e w' ⟨rfl, rfl⟩
  go_wp2_with fail
  refine (Earth_any _ _ _).mono ?_; rintro e w2 ⟨rfl, hb2⟩
  have T2 := (⟨⟨k0, k1, k2, k3, k4, k5, k6, k7⟩, ⟨p0, p1⟩, ⟨o0, o1, f0, f1⟩, hz, hbw⟩ : Three w w1 nm x y z rose gates step width lo hi).keep hb2 (by omega)
  clear k0 k1 k2 k3 k4 k5 k6 k7 o0 o1 f0 f1 hz hbw p0 p1
  clear hb2
  obtain ⟨⟨k0, k1, k2, k3, k4, k5, k6, k7⟩, ⟨p0, p1⟩, ⟨o0, o1, f0, f1⟩, hz, hbw⟩ := T2
  go_wp2_with fail
  refine (refIn_any _ _ _ _).mono ?_; rintro e w' ⟨rfl, rfl⟩
  go_wp2
  exact bodyPost_ret (v := .tuple #[.agg #[.int .i64 0, .int .i64 0], .int .i64 3]) (by simp [results, Try.results32, go_sem, o0, o1]) rfl ⟨rfl, Below.setCell (Below.setCell hbw (by dsimp only; omega) _) (by dsimp only; omega) _⟩

set_option maxHeartbeats 3200000 in
theorem refHeight_ok (nm : ByteArray) (x y z rose gates step width : Int) (t lo hi gate : Int) (w : World) (hs : nm.size ≤ maxLen) (h0 : siteC nm x y z rose gates step width = 0) (hk : SiteOk x y z rose gates step width) (c0 : inB t (-8) 264 = true) (c1 : spanB lo hi 1000000 100000000 = true) (c2 : inB gate 0 (gates - 1) = true) :
    Calls Try.prog 32 #[.agg #[.string nm, .int .i64 x, .int .i64 y, .int .i64 z, .int .i64 rose, .int .i64 gates, .int .i64 step, .int .i64 width], .int .i64 t, .agg #[.int .i64 lo, .int .i64 hi], .int .i64 gate] w
      fun e w' => e = .returned (.tuple #[.agg #[.int .i64 (climbLo z step t gate hi), .int .i64 (climbHi z step t gate lo)], .int .i64 0]) ∧ Below w.heap.size w w' := by
  have HS := Lib.hid hs
  have H0 := Lib.hid h0
  obtain ⟨x1, x2, y1, y2, z1, z2, r1, r2, hg1, hg2, s1, s2, d1, d2⟩ := hk
  obtain ⟨t1, t2⟩ := inB_true.1 c0
  obtain ⟨g1, g3⟩ := inB_gate c2
  obtain ⟨e1, e0, e4⟩ := spanB_true.1 c1
  clear hs h0
  go_enter Try.func32, Try.ntmps32
  go_wp2_with fail
  refine (refCheckSite_any _ _ _ _ _ _ _ _ _ HS.out).mono ?_; rintro e w1 ⟨rfl, hb1⟩
  have T1 := (Three.new w nm x y z rose gates step width lo hi (.int .i64 0) (.int .i64 0) 43 43).keep hb1 (by simp only [World.size_alloc]; omega)
  clear hb1
  rw [H0.out]
  obtain ⟨⟨k0, k1, k2, k3, k4, k5, k6, k7⟩, ⟨p0, p1⟩, ⟨o0, o1, f0, f1⟩, hz, hbw⟩ := T1
  go_wp2_with fail
  refine (refIn_any _ _ _ _).mono ?_; rintro e w' ⟨rfl, rfl⟩
  go_wp2_with fail
  refine (Earth_any _ _ _).mono ?_; rintro e w2 ⟨rfl, hb2⟩
  have T2 := (⟨⟨k0, k1, k2, k3, k4, k5, k6, k7⟩, ⟨p0, p1⟩, ⟨o0, o1, f0, f1⟩, hz, hbw⟩ : Three w w1 nm x y z rose gates step width lo hi).keep hb2 (by omega)
  clear k0 k1 k2 k3 k4 k5 k6 k7 o0 o1 f0 f1 hz hbw p0 p1
  clear hb2
  obtain ⟨⟨k0, k1, k2, k3, k4, k5, k6, k7⟩, ⟨p0, p1⟩, ⟨o0, o1, f0, f1⟩, hz, hbw⟩ := T2
  go_wp2_with fail
  refine (refIn_any _ _ _ _).mono ?_; rintro e w' ⟨rfl, rfl⟩
  go_wp2_with fail
  refine (refheight_any _ _ _ _ _ _ _ _ _ _ _ _ _ (by omega) (by omega) s1 s2 g1 (by omega) z1 z2 e1 (by omega) (by omega) e4).mono ?_; rintro e w3 ⟨rfl, hb3⟩
  have T3 := (⟨⟨k0, k1, k2, k3, k4, k5, k6, k7⟩, ⟨p0, p1⟩, ⟨o0, o1, f0, f1⟩, hz, hbw⟩ : Three w w2 nm x y z rose gates step width lo hi).keep hb3 (by omega)
  clear k0 k1 k2 k3 k4 k5 k6 k7 o0 o1 f0 f1 hz hbw p0 p1
  clear hb3
  obtain ⟨⟨k0, k1, k2, k3, k4, k5, k6, k7⟩, ⟨p0, p1⟩, ⟨o0, o1, f0, f1⟩, hz, hbw⟩ := T3
  go_wp2
  exact bodyPost_ret (v := .tuple #[.agg #[.int .i64 (climbLo z step t gate hi), .int .i64 (climbHi z step t gate lo)], .int .i64 0]) (by simp [results, Try.results32, go_sem, o0, o1]) rfl ⟨rfl, Below.setCell (Below.setCell hbw (by dsimp only; omega) _) (by dsimp only; omega) _⟩

theorem refHeight_any (nm : ByteArray) (x y z rose gates step width : Int) (t lo hi gate : Int) (w : World) (hs : nm.size ≤ maxLen) :
    Calls Try.prog 32 #[.agg #[.string nm, .int .i64 x, .int .i64 y, .int .i64 z, .int .i64 rose, .int .i64 gates, .int .i64 step, .int .i64 width], .int .i64 t, .agg #[.int .i64 lo, .int .i64 hi], .int .i64 gate] w
      fun e w' => e = .returned (.tuple #[.agg #[.int .i64 (val (codeE (siteC nm x y z rose gates step width) (inB t (-8) 264 && spanB lo hi 1000000 100000000 && inB gate 0 (gates - 1))) (climbLo z step t gate hi)), .int .i64 (val (codeE (siteC nm x y z rose gates step width) (inB t (-8) 264 && spanB lo hi 1000000 100000000 && inB gate 0 (gates - 1))) (climbHi z step t gate lo))], .int .i64 (codeE (siteC nm x y z rose gates step width) (inB t (-8) 264 && spanB lo hi 1000000 100000000 && inB gate 0 (gates - 1)))]) ∧ Below w.heap.size w w' := by
  by_cases h0 : siteC nm x y z rose gates step width = 0
  · have hk := (siteC_zero.1 h0).2
    have hg1 := hk.g1
    have hg2 := hk.g2
    rcases (Bool.eq_false_or_eq_true (inB t (-8) 264)).symm with c0 | c0
    · have e : (codeE (siteC nm x y z rose gates step width) (inB t (-8) 264 && spanB lo hi 1000000 100000000 && inB gate 0 (gates - 1))) = 3 := by rw [h0, c0]; rfl
      rw [e, val_no, val_no]
      exact refHeight_no0 nm x y z rose gates step width t lo hi gate w hs h0 hg1 hg2 c0
    · have _u := hg1
      rcases (Bool.eq_false_or_eq_true (spanB lo hi 1000000 100000000)).symm with c1 | c1
      · have e : (codeE (siteC nm x y z rose gates step width) (inB t (-8) 264 && spanB lo hi 1000000 100000000 && inB gate 0 (gates - 1))) = 3 := by rw [h0, c0, c1]; rfl
        rw [e, val_no, val_no]
        exact refHeight_no1 nm x y z rose gates step width t lo hi gate w hs h0 hg1 hg2 c0 c1
      · have _u := hg1
        rcases (Bool.eq_false_or_eq_true (inB gate 0 (gates - 1))).symm with c2 | c2
        · have e : (codeE (siteC nm x y z rose gates step width) (inB t (-8) 264 && spanB lo hi 1000000 100000000 && inB gate 0 (gates - 1))) = 3 := by rw [h0, c0, c1, c2]; rfl
          rw [e, val_no, val_no]
          exact refHeight_no2 nm x y z rose gates step width t lo hi gate w hs h0 hg1 hg2 c0 c1 c2
        · have e : (codeE (siteC nm x y z rose gates step width) (inB t (-8) 264 && spanB lo hi 1000000 100000000 && inB gate 0 (gates - 1))) = 0 := by rw [h0, c0, c1, c2]; rfl
          rw [e, val_ok, val_ok]
          exact refHeight_ok nm x y z rose gates step width t lo hi gate w hs h0 hk c0 c1 c2
  · rw [codeE_err h0, val_err h0, val_err h0]
    exact refHeight_err nm x y z rose gates step width t lo hi gate w hs (bne_iff_ne.2 h0)

end Go.Proofs.Ythnjfnapjpdchaa
