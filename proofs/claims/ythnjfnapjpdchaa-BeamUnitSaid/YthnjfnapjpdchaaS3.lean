/-
  The walk over BeamUnit.
-/
import Derived.Test.YthnjfnapjpdchaaR
import Derived.Test.YthnjfnapjpdchaaC
import Derived.Test.YthnjfnapjpdchaaS2
namespace Go.Proofs.Ythnjfnapjpdchaa
open Go.RowKit

/-- Direction answers so, in whatever world -/
def DirIs (n d x y l : Int) : Prop := ∀ w : World, Calls Try.prog 25 #[.int .i64 n, .int .i64 d] w fun e w' => e = .returned (.tuple #[.int .i64 x, .int .i64 y, .int .i64 l, .int .i64 0]) ∧ Below w.heap.size w w'
/-- Slant answers so, in whatever world -/
def SlantIs (t c s d : Int) : Prop := ∀ w : World, Calls Try.prog 27 #[.int .i64 t] w fun e w' => e = .returned (.tuple #[.int .i64 c, .int .i64 s, .int .i64 d, .int .i64 0]) ∧ w = w'

def Within (a : Int) (b : Int) : Prop := -b ≤ a ∧ a ≤ b

theorem unit_dirs {n d : Int} (h1 : 1 ≤ n) (h2 : n ≤ 90) (h3 : 0 ≤ d) (h4 : d < 4 * n) :
    ∃ X Y L U V L3 B C D : Int, DirIs n d X Y L ∧ DirIs n ((d + n) % (4 * n)) Y (-X) L ∧ DirIs n ((d + 1) % (4 * n)) U V L3 ∧ DirIs (2 * n) (2 * d) B C D ∧
      1 ≤ L ∧ X * X + Y * Y = L * L ∧ 0 < Y * U - X * V ∧ B * L = X * D ∧ C * L = Y * D ∧ 1 ≤ D ∧
      Within X 64800 ∧ Within Y 64800 ∧ L ≤ 64800 ∧ Within U 64800 ∧ Within V 64800 ∧ Within B 259200 ∧ Within C 259200 ∧ D ≤ 259200 := by
  obtain ⟨q1, q2, q3⟩ := dir_quarter h1 h3 h4
  obtain ⟨t1, t2, t3⟩ := dir_twice h1 h3 h4
  obtain ⟨u1, u2⟩ := dir_unit h1 h3 h4
  obtain ⟨⟨b1, b2⟩, ⟨b3, b4⟩, b5, b6⟩ := dir_bd h1 (by omega) h3 h4
  have e0 : 0 ≤ (d + 1) % (4 * n) := Int.emod_nonneg _ (by omega)
  have e1 : (d + 1) % (4 * n) < 4 * n := Int.emod_lt_of_pos _ (by omega)
  have e2 : 0 ≤ (d + n) % (4 * n) := Int.emod_nonneg _ (by omega)
  have e3 : (d + n) % (4 * n) < 4 * n := Int.emod_lt_of_pos _ (by omega)
  obtain ⟨⟨c1, c2⟩, ⟨c3, c4⟩, _, _⟩ := dir_bd h1 (by omega) e0 e1
  refine ⟨dirX n d, dirY n d, dirL n d, dirX n ((d + 1) % (4 * n)), dirY n ((d + 1) % (4 * n)), dirL n ((d + 1) % (4 * n)), dirX (2 * n) (2 * d), dirY (2 * n) (2 * d), dirL (2 * n) (2 * d),
    fun w => Direction_ok n d w h1 (by omega) h3 h4, fun w => ?_, fun w => Direction_ok n _ w h1 (by omega) e0 e1, fun w => Direction_ok (2 * n) (2 * d) w (by omega) (by omega) (by omega) (by omega),
    u2, u1, dir_next h1 h3 h4, ?_, ?_, by omega, ⟨b1, b2⟩, ⟨b3, b4⟩, b6, ⟨c1, c2⟩, ⟨c3, c4⟩, ⟨by omega, by omega⟩, ⟨by omega, by omega⟩, by omega⟩
  · have h := Direction_ok n _ w h1 (by omega) e2 e3
    rw [q1, q2, q3] at h
    exact h
  · rw [t1, t3, Int.mul_left_comm, Int.mul_assoc]
  · rw [t2, t3, Int.mul_left_comm, Int.mul_assoc]

theorem slant_is {t : Int} (h1 : -8 ≤ t) (h2 : t ≤ 264) : ∃ C S D : Int, SlantIs t C S D ∧ C * C + S * S = D * D ∧ 0 < C ∧ (0 < S ↔ 0 < t) ∧ C ≤ 262144 ∧ Within S 270336 ∧ 0 < D ∧ D ≤ 331840 := by
  have hb : 0 ≤ t * t := M.sq_nonneg t
  have hb2 : t * t ≤ 69696 := (M.sq_bd (a := t) (A := 264) (by omega) h2).2
  refine ⟨_, _, _, fun w => Slant_ok t w h1 h2, ?_, by omega, by omega, by omega, ⟨by omega, by omega⟩, by omega, by omega⟩
  have e1 : (1024 * t) * (1024 * t) = 1048576 * (t * t) := by rw [Int.mul_assoc, Int.mul_left_comm t 1024 t]; omega
  have e2 : (262144 - t * t) * (262144 - t * t) = 68719476736 - 524288 * (t * t) + (t * t) * (t * t) := by rw [Int.sub_mul, Int.mul_sub, Int.mul_sub]; omega
  have e3 : (262144 + t * t) * (262144 + t * t) = 68719476736 + 524288 * (t * t) + (t * t) * (t * t) := by rw [Int.add_mul, Int.mul_add, Int.mul_add]; omega
  rw [e1, e2, e3]; omega

set_option maxHeartbeats 400000 in
theorem turn_any (a n : Int) (w : World) (h1 : 1 ≤ n) (h2 : n ≤ 1000000) (a1 : 0 ≤ a) (a2 : a ≤ 4294967295) :
    Calls Try.prog 50 #[.int .u32 a, .int .i64 n] w fun e w' => e = .returned (.int .i64 (a % n)) ∧ w = w' := by
  have k0 : 0 ≤ a % n := Int.emod_nonneg _ (by omega)
  go_enter Try.func50, Try.ntmps50
  go_wp2
  go_ret
  exact ⟨rfl, rfl⟩

theorem wf_mul {a b A B : Int} (h1 : Within a A) (h2 : Within b B) : -(A * B) ≤ a * b ∧ a * b ≤ A * B := M.mul_abs h1.1 h1.2 h2.1 h2.2

set_option maxRecDepth 100000 in
set_option maxHeartbeats 1600000 in
theorem BeamUnit_walk (a0 a1 a2 : Int) (w : World) (h1 : 0 ≤ a0) (h2 : a0 ≤ 255) (h3 : 0 ≤ a1) (h4 : a1 ≤ 4294967295) (h5 : 0 ≤ a2) (h6 : a2 ≤ 65535) :
    Calls Try.prog 9 #[.int .u8 a0, .int .u32 a1, .int .u16 a2] w fun e w' => e = .returned (.bool true) ∧ Below w.heap.size w w' := by
  obtain ⟨N, hN⟩ : ∃ N, 1 + a0 % 90 = N := ⟨_, rfl⟩
  have n1 : 1 ≤ N := by omega
  have n2 : N ≤ 90 := by omega
  obtain ⟨K, hK⟩ : ∃ K, a1 % (4 * N) = K := ⟨_, rfl⟩
  have k1 : 0 ≤ K := by rw [← hK]; exact Int.emod_nonneg _ (by omega)
  have k2 : K < 4 * N := by rw [← hK]; exact Int.emod_lt_of_pos _ (by omega)
  obtain ⟨T, hT⟩ : ∃ T, a2 % 273 - 8 = T := ⟨_, rfl⟩
  have t1 : -8 ≤ T := by omega
  have t2 : T ≤ 264 := by omega
  obtain ⟨X, Y, L, U, V, L3, B, C, D, c1, c2, c3, c4, l1, e1, e2, e3, e4, d1, b1, b2, b3, b4, b5, b6, b7, b8⟩ := unit_dirs n1 n2 k1 k2
  obtain ⟨Co, Si, De, s1, s2, s3, s4, s5, s6, s7, s8⟩ := slant_is t1 t2
  have C1 := Lib.hid c1
  have C2 := Lib.hid c2
  have C3 := Lib.hid c3
  have C4 := Lib.hid c4
  have S1 := Lib.hid s1
  have m0 : Within L 64800 := ⟨by omega, by omega⟩
  have m1 := wf_mul b1 b1
  have m2 := wf_mul b2 b2
  have m3 := wf_mul m0 m0
  have m4 := wf_mul b2 b4
  have m5 := wf_mul b1 b5
  have m6 := wf_mul b6 m0
  have m7 := wf_mul b7 m0
  have m8 := wf_mul b1 (show Within D 259200 from ⟨by omega, by omega⟩)
  have m9 := wf_mul b2 (show Within D 259200 from ⟨by omega, by omega⟩)
  have m10 := wf_mul (show Within Co 262144 from ⟨by omega, by omega⟩) (show Within Co 262144 from ⟨by omega, by omega⟩)
  have m11 := wf_mul s6 s6
  have m12 := wf_mul (show Within De 331840 from ⟨by omega, by omega⟩) (show Within De 331840 from ⟨by omega, by omega⟩)
  have x1 : -64800 ≤ X ∧ X ≤ 64800 := b1
  have f1 : (X * X + Y * Y != L * L) = false := by rw [e1]; simp
  have f2 : (B * L != X * D) = false := by rw [e3]; simp
  have f3 : (C * L != Y * D) = false := by rw [e4]; simp
  have f4 : (Co * Co + Si * Si == De * De) = true := by rw [s2]; simp
  have f5 : 1 ≤ Y * U - X * V := by omega
  have HK := Lib.hid hK
  clear c1 c2 c3 c4 s1 e1 e2 e3 e4 s2 b1 b2 b4 b5 b6 b7 m0 hK
  by_cases hs : 0 < T
  all_goals
    first | (have q1 : 0 < Si := s4.2 hs) | (have q1 : ¬ 0 < Si := fun h => hs (s4.1 h))
    clear s4
    go_enter Try.func9, Try.ntmps9
    go_wp2_with fail
    refine (turn_any _ _ _ (by omega) (by omega) h3 h4).mono ?_; rintro e w' ⟨rfl, rfl⟩; rw [HK.out]
    go_wp2_with fail
    refine (C1.out _).mono ?_; rintro e w1 ⟨rfl, hb1⟩
    go_wp2_with fail
    refine (C2.out _).mono ?_; rintro e w2 ⟨rfl, hb2⟩
    go_wp2_with fail
    refine (C3.out _).mono ?_; rintro e w3 ⟨rfl, hb3⟩
    go_wp2_with fail
    refine (C4.out _).mono ?_; rintro e w4 ⟨rfl, hb4⟩
    have hb : Below w.heap.size w w4 := ((hb1.trans (hb2.mono hb1.size)).trans (hb3.mono (Nat.le_trans hb1.size hb2.size))).trans (hb4.mono (Nat.le_trans hb1.size (Nat.le_trans hb2.size hb3.size)))
    clear hb1 hb2 hb3 hb4
    go_wp2_with fail
    refine (S1.out _).mono ?_; rintro e w' ⟨rfl, rfl⟩
    go_wp2_with fail
    refine (works_any _).mono ?_; rintro e w5 ⟨rfl, hb5⟩
    go_wp2
    go_ret
    exact ⟨rfl, hb.trans (hb5.mono hb.size)⟩

end Go.Proofs.Ythnjfnapjpdchaa
