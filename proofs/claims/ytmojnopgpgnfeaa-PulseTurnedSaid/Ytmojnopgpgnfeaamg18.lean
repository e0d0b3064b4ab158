/-
  Echoes: CheckEcho.
-/
import Derived.Test.Ytmojnopgpgnfeaamg16
import Derived.Test.Ytmojnopgpgnfeaamg17
namespace Go.Proofs.Ytmojnopgpgnfeaa
open Go.RowKit
set_option linter.unusedVariables false

set_option maxHeartbeats 800000 in
theorem eq28t (a b c e a' b' c' e' : Int) (w : World) : (Op.equalIn 10000 28 (.agg #[.int .i64 a, .int .i64 b, .int .i64 c, .int .i64 e]) (.agg #[.int .i64 a', .int .i64 b', .int .i64 c', .int .i64 e'])).run Try.prog w = .ok (a == a' && b == b' && c == c' && e == e') w := by
  have u3 := Try.underlying3
  have a3 := Try.isAgg3
  have z3 := Try.sizeOf3
  have u25 := Try.underlying25
  have a25 := Try.isAgg25
  have z25 := Try.sizeOf25
  rw [show (10000 : Nat) = 9999 + 1 from rfl, Op.equalIn]
  simp only [Sem.run_bind, run_underlying Try.underlying28, Result.andThen_ok]
  simp only [Std.Legacy.Range.forIn_eq_forIn_range', Std.Legacy.Range.size, Nat.sub_zero, Nat.add_sub_cancel, Nat.div_one, List.range'_succ, List.range'_zero, List.forIn_cons, List.forIn_nil]
  go_simp
  by_cases h1 : a = a' <;> by_cases h2 : b = b' <;> by_cases h3 : c = c' <;> by_cases h4 : e = e' <;> simp [h1, h2, h3, h4]


def mixedB (kd p0 p1 s0 s1 s2 s3 sp r0 r1 m0 m1 t0 t1 : Int) : Bool := heardB p0 p1 sp r0 r1 m0 m1 && decide (s0 = 0 ∧ s1 = 0 ∧ s2 = 0 ∧ s3 = 0 ∧ t0 = 0 ∧ t1 = 0)
def clearB (kd p0 p1 s0 s1 s2 s3 sp r0 r1 m0 m1 t0 t1 : Int) : Bool := heardB p0 p1 sp r0 r1 m0 m1 && (turnB s0 s1 && turnB s2 s3 && turnB t0 t1)
/-- the error of an echo -/
def echoC (kd p0 p1 s0 s1 s2 s3 sp r0 r1 m0 m1 t0 t1 : Int) : Int := if kd = 1 then (if quietB kd p0 p1 s0 s1 s2 s3 sp r0 r1 m0 m1 t0 t1 = true then 0 else 3) else if kd = 2 then (if mixedB kd p0 p1 s0 s1 s2 s3 sp r0 r1 m0 m1 t0 t1 = true then 0 else 3) else if kd = 3 then (if clearB kd p0 p1 s0 s1 s2 s3 sp r0 r1 m0 m1 t0 t1 = true then 0 else 3) else 2
/-- three spans of an echo -/
def zs3 (s0 s1 s2 s3 t0 t1 : Int) (i : Nat) : Int × Int := if i = 0 then (s0, s1) else if i = 1 then (s2, s3) else (t0, t1)
theorem spans3_new (w : World) (el : Nat) (s0 s1 s2 s3 t0 t1 : Int) : SpansAt (w.alloc (.cells #[.int .i64 s0, .int .i64 s1, .int .i64 s2, .int .i64 s3, .int .i64 t0, .int .i64 t1] el)) w.heap.size 0 3 (zs3 s0 s1 s2 s3 t0 t1) := fun k hk => by
  have hk' : k = 0 ∨ k = 1 ∨ k = 2 := by omega
  rcases hk' with rfl | rfl | rfl <;> exact ⟨alloc_new rfl rfl, alloc_new rfl rfl⟩
theorem all3 (s0 s1 s2 s3 t0 t1 : Int) : allB (zs3 s0 s1 s2 s3 t0 t1) 3 = (turnB s0 s1 && turnB s2 s3 && turnB t0 t1) := by
  show (((true && turnB s0 s1) && turnB s2 s3) && turnB t0 t1) = _
  rw [Bool.true_and]

set_option maxRecDepth 100000 in
set_option maxHeartbeats 3200000 in
theorem echo_1y (p0 p1 s0 s1 s2 s3 sp r0 r1 m0 m1 t0 t1 : Int) (w : World) (h : quietB 1 p0 p1 s0 s1 s2 s3 sp r0 r1 m0 m1 t0 t1 = true) :
    Calls Try.prog 19 #[.agg #[.int .i64 1, .int .i64 p0, .int .i64 p1, .int .i64 s0, .int .i64 s1, .int .i64 s2, .int .i64 s3, .int .i64 sp, .int .i64 r0, .int .i64 r1, .int .i64 m0, .int .i64 m1, .int .i64 t0, .int .i64 t1]] w fun e w' => e = .returned (.int .i64 (0)) ∧ Below w.heap.size w w' := by
  go_enter Try.func19, Try.ntmps19
  go_wp2_with fail
  refine (isQuiet_any _ _ _ _ _ _ _ _ _ _ _ _ _ _ _).mono ?_; rintro e w1 ⟨rfl, hb1⟩
  rw [h]
  obtain ⟨⟨c0, c1, c2, c3, c4, c5, c6, c7, c8, c9, c10, c11, c12, c13⟩, hz, hbw⟩ := (EcE.new w 1 p0 p1 s0 s1 s2 s3 sp r0 r1 m0 m1 t0 t1).keep hb1 (by simp)
  clear hb1
  go_wp2
  go_ret
  exact ⟨rfl, hbw⟩

set_option maxRecDepth 100000 in
set_option maxHeartbeats 3200000 in
theorem echo_1n (p0 p1 s0 s1 s2 s3 sp r0 r1 m0 m1 t0 t1 : Int) (w : World) (h : quietB 1 p0 p1 s0 s1 s2 s3 sp r0 r1 m0 m1 t0 t1 = false) :
    Calls Try.prog 19 #[.agg #[.int .i64 1, .int .i64 p0, .int .i64 p1, .int .i64 s0, .int .i64 s1, .int .i64 s2, .int .i64 s3, .int .i64 sp, .int .i64 r0, .int .i64 r1, .int .i64 m0, .int .i64 m1, .int .i64 t0, .int .i64 t1]] w fun e w' => e = .returned (.int .i64 (3)) ∧ Below w.heap.size w w' := by
  go_enter Try.func19, Try.ntmps19
  go_wp2_with fail
  refine (isQuiet_any _ _ _ _ _ _ _ _ _ _ _ _ _ _ _).mono ?_; rintro e w1 ⟨rfl, hb1⟩
  rw [h]
  obtain ⟨⟨c0, c1, c2, c3, c4, c5, c6, c7, c8, c9, c10, c11, c12, c13⟩, hz, hbw⟩ := (EcE.new w 1 p0 p1 s0 s1 s2 s3 sp r0 r1 m0 m1 t0 t1).keep hb1 (by simp)
  clear hb1
  go_wp2
  go_ret
  exact ⟨rfl, hbw⟩

set_option maxRecDepth 100000 in
set_option maxHeartbeats 3200000 in
theorem echo_2n (p0 p1 s0 s1 s2 s3 sp r0 r1 m0 m1 t0 t1 : Int) (w : World) (h : heardB p0 p1 sp r0 r1 m0 m1 = false) :
    Calls Try.prog 19 #[.agg #[.int .i64 2, .int .i64 p0, .int .i64 p1, .int .i64 s0, .int .i64 s1, .int .i64 s2, .int .i64 s3, .int .i64 sp, .int .i64 r0, .int .i64 r1, .int .i64 m0, .int .i64 m1, .int .i64 t0, .int .i64 t1]] w fun e w' => e = .returned (.int .i64 (3)) ∧ Below w.heap.size w w' := by
  go_enter Try.func19, Try.ntmps19
  go_wp2_with fail
  refine (isHeard_any _ _ _ _ _ _ _ _ _ _ _ _ _ _ _).mono ?_; rintro e w1 ⟨rfl, hb1⟩
  rw [h]
  obtain ⟨⟨c0, c1, c2, c3, c4, c5, c6, c7, c8, c9, c10, c11, c12, c13⟩, hz, hbw⟩ := (EcE.new w 2 p0 p1 s0 s1 s2 s3 sp r0 r1 m0 m1 t0 t1).keep hb1 (by simp)
  clear hb1
  go_wp2
  go_ret
  exact ⟨rfl, hbw⟩

set_option maxRecDepth 100000 in
set_option maxHeartbeats 3200000 in
theorem echo_3n (p0 p1 s0 s1 s2 s3 sp r0 r1 m0 m1 t0 t1 : Int) (w : World) (h : heardB p0 p1 sp r0 r1 m0 m1 = false) :
    Calls Try.prog 19 #[.agg #[.int .i64 3, .int .i64 p0, .int .i64 p1, .int .i64 s0, .int .i64 s1, .int .i64 s2, .int .i64 s3, .int .i64 sp, .int .i64 r0, .int .i64 r1, .int .i64 m0, .int .i64 m1, .int .i64 t0, .int .i64 t1]] w fun e w' => e = .returned (.int .i64 (3)) ∧ Below w.heap.size w w' := by
  go_enter Try.func19, Try.ntmps19
  go_wp2_with fail
  refine (isHeard_any _ _ _ _ _ _ _ _ _ _ _ _ _ _ _).mono ?_; rintro e w1 ⟨rfl, hb1⟩
  rw [h]
  obtain ⟨⟨c0, c1, c2, c3, c4, c5, c6, c7, c8, c9, c10, c11, c12, c13⟩, hz, hbw⟩ := (EcE.new w 3 p0 p1 s0 s1 s2 s3 sp r0 r1 m0 m1 t0 t1).keep hb1 (by simp)
  clear hb1
  go_wp2
  go_ret
  exact ⟨rfl, hbw⟩

set_option maxRecDepth 100000 in
set_option maxHeartbeats 3200000 in
theorem echo_2_0 (p0 p1 s0 s1 s2 s3 sp r0 r1 m0 m1 t0 t1 : Int) (w : World) (h : heardB p0 p1 sp r0 r1 m0 m1 = true) (f0 : (s0 == 0) = false) :
    Calls Try.prog 19 #[.agg #[.int .i64 2, .int .i64 p0, .int .i64 p1, .int .i64 s0, .int .i64 s1, .int .i64 s2, .int .i64 s3, .int .i64 sp, .int .i64 r0, .int .i64 r1, .int .i64 m0, .int .i64 m1, .int .i64 t0, .int .i64 t1]] w fun e w' => e = .returned (.int .i64 (3)) ∧ Below w.heap.size w w' := by
  have e28 := fun w : World => eq28t s0 s1 s2 s3 0 0 0 0 w
  go_enter Try.func19, Try.ntmps19
  go_wp2_with fail
  refine (isHeard_any _ _ _ _ _ _ _ _ _ _ _ _ _ _ _).mono ?_; rintro e w1 ⟨rfl, hb1⟩
  rw [h]
  obtain ⟨⟨c0, c1, c2, c3, c4, c5, c6, c7, c8, c9, c10, c11, c12, c13⟩, hz, hbw⟩ := (EcE.new w 2 p0 p1 s0 s1 s2 s3 sp r0 r1 m0 m1 t0 t1).keep hb1 (by simp)
  clear hb1
  go_wp2
  go_ret
  exact ⟨rfl, hbw⟩

set_option maxRecDepth 100000 in
set_option maxHeartbeats 3200000 in
theorem echo_2_1 (p0 p1 s0 s1 s2 s3 sp r0 r1 m0 m1 t0 t1 : Int) (w : World) (h : heardB p0 p1 sp r0 r1 m0 m1 = true) (f0 : (s0 == 0) = true) (f1 : (s1 == 0) = false) :
    Calls Try.prog 19 #[.agg #[.int .i64 2, .int .i64 p0, .int .i64 p1, .int .i64 s0, .int .i64 s1, .int .i64 s2, .int .i64 s3, .int .i64 sp, .int .i64 r0, .int .i64 r1, .int .i64 m0, .int .i64 m1, .int .i64 t0, .int .i64 t1]] w fun e w' => e = .returned (.int .i64 (3)) ∧ Below w.heap.size w w' := by
  have e28 := fun w : World => eq28t s0 s1 s2 s3 0 0 0 0 w
  go_enter Try.func19, Try.ntmps19
  go_wp2_with fail
  refine (isHeard_any _ _ _ _ _ _ _ _ _ _ _ _ _ _ _).mono ?_; rintro e w1 ⟨rfl, hb1⟩
  rw [h]
  obtain ⟨⟨c0, c1, c2, c3, c4, c5, c6, c7, c8, c9, c10, c11, c12, c13⟩, hz, hbw⟩ := (EcE.new w 2 p0 p1 s0 s1 s2 s3 sp r0 r1 m0 m1 t0 t1).keep hb1 (by simp)
  clear hb1
  go_wp2
  go_ret
  exact ⟨rfl, hbw⟩

set_option maxRecDepth 100000 in
set_option maxHeartbeats 3200000 in
theorem echo_2_2 (p0 p1 s0 s1 s2 s3 sp r0 r1 m0 m1 t0 t1 : Int) (w : World) (h : heardB p0 p1 sp r0 r1 m0 m1 = true) (f0 : (s0 == 0) = true) (f1 : (s1 == 0) = true) (f2 : (s2 == 0) = false) :
    Calls Try.prog 19 #[.agg #[.int .i64 2, .int .i64 p0, .int .i64 p1, .int .i64 s0, .int .i64 s1, .int .i64 s2, .int .i64 s3, .int .i64 sp, .int .i64 r0, .int .i64 r1, .int .i64 m0, .int .i64 m1, .int .i64 t0, .int .i64 t1]] w fun e w' => e = .returned (.int .i64 (3)) ∧ Below w.heap.size w w' := by
  have e28 := fun w : World => eq28t s0 s1 s2 s3 0 0 0 0 w
  go_enter Try.func19, Try.ntmps19
  go_wp2_with fail
  refine (isHeard_any _ _ _ _ _ _ _ _ _ _ _ _ _ _ _).mono ?_; rintro e w1 ⟨rfl, hb1⟩
  rw [h]
  obtain ⟨⟨c0, c1, c2, c3, c4, c5, c6, c7, c8, c9, c10, c11, c12, c13⟩, hz, hbw⟩ := (EcE.new w 2 p0 p1 s0 s1 s2 s3 sp r0 r1 m0 m1 t0 t1).keep hb1 (by simp)
  clear hb1
  go_wp2
  go_ret
  exact ⟨rfl, hbw⟩

set_option maxRecDepth 100000 in
set_option maxHeartbeats 3200000 in
theorem echo_2_3 (p0 p1 s0 s1 s2 s3 sp r0 r1 m0 m1 t0 t1 : Int) (w : World) (h : heardB p0 p1 sp r0 r1 m0 m1 = true) (f0 : (s0 == 0) = true) (f1 : (s1 == 0) = true) (f2 : (s2 == 0) = true) (f3 : (s3 == 0) = false) :
    Calls Try.prog 19 #[.agg #[.int .i64 2, .int .i64 p0, .int .i64 p1, .int .i64 s0, .int .i64 s1, .int .i64 s2, .int .i64 s3, .int .i64 sp, .int .i64 r0, .int .i64 r1, .int .i64 m0, .int .i64 m1, .int .i64 t0, .int .i64 t1]] w fun e w' => e = .returned (.int .i64 (3)) ∧ Below w.heap.size w w' := by
  have e28 := fun w : World => eq28t s0 s1 s2 s3 0 0 0 0 w
  go_enter Try.func19, Try.ntmps19
  go_wp2_with fail
  refine (isHeard_any _ _ _ _ _ _ _ _ _ _ _ _ _ _ _).mono ?_; rintro e w1 ⟨rfl, hb1⟩
  rw [h]
  obtain ⟨⟨c0, c1, c2, c3, c4, c5, c6, c7, c8, c9, c10, c11, c12, c13⟩, hz, hbw⟩ := (EcE.new w 2 p0 p1 s0 s1 s2 s3 sp r0 r1 m0 m1 t0 t1).keep hb1 (by simp)
  clear hb1
  go_wp2
  go_ret
  exact ⟨rfl, hbw⟩

set_option maxRecDepth 100000 in
set_option maxHeartbeats 3200000 in
theorem echo_2_4 (p0 p1 s0 s1 s2 s3 sp r0 r1 m0 m1 t0 t1 : Int) (w : World) (h : heardB p0 p1 sp r0 r1 m0 m1 = true) (f0 : (s0 == 0) = true) (f1 : (s1 == 0) = true) (f2 : (s2 == 0) = true) (f3 : (s3 == 0) = true) (f4 : (t0 == 0) = false) :
    Calls Try.prog 19 #[.agg #[.int .i64 2, .int .i64 p0, .int .i64 p1, .int .i64 s0, .int .i64 s1, .int .i64 s2, .int .i64 s3, .int .i64 sp, .int .i64 r0, .int .i64 r1, .int .i64 m0, .int .i64 m1, .int .i64 t0, .int .i64 t1]] w fun e w' => e = .returned (.int .i64 (3)) ∧ Below w.heap.size w w' := by
  have e28 := fun w : World => eq28t s0 s1 s2 s3 0 0 0 0 w
  go_enter Try.func19, Try.ntmps19
  go_wp2_with fail
  refine (isHeard_any _ _ _ _ _ _ _ _ _ _ _ _ _ _ _).mono ?_; rintro e w1 ⟨rfl, hb1⟩
  rw [h]
  obtain ⟨⟨c0, c1, c2, c3, c4, c5, c6, c7, c8, c9, c10, c11, c12, c13⟩, hz, hbw⟩ := (EcE.new w 2 p0 p1 s0 s1 s2 s3 sp r0 r1 m0 m1 t0 t1).keep hb1 (by simp)
  clear hb1
  go_wp2
  go_ret
  exact ⟨rfl, hbw⟩

set_option maxRecDepth 100000 in
set_option maxHeartbeats 3200000 in
theorem echo_2_5 (p0 p1 s0 s1 s2 s3 sp r0 r1 m0 m1 t0 t1 : Int) (w : World) (h : heardB p0 p1 sp r0 r1 m0 m1 = true) (f0 : (s0 == 0) = true) (f1 : (s1 == 0) = true) (f2 : (s2 == 0) = true) (f3 : (s3 == 0) = true) (f4 : (t0 == 0) = true) (f5 : (t1 == 0) = false) :
    Calls Try.prog 19 #[.agg #[.int .i64 2, .int .i64 p0, .int .i64 p1, .int .i64 s0, .int .i64 s1, .int .i64 s2, .int .i64 s3, .int .i64 sp, .int .i64 r0, .int .i64 r1, .int .i64 m0, .int .i64 m1, .int .i64 t0, .int .i64 t1]] w fun e w' => e = .returned (.int .i64 (3)) ∧ Below w.heap.size w w' := by
  have e28 := fun w : World => eq28t s0 s1 s2 s3 0 0 0 0 w
  go_enter Try.func19, Try.ntmps19
  go_wp2_with fail
  refine (isHeard_any _ _ _ _ _ _ _ _ _ _ _ _ _ _ _).mono ?_; rintro e w1 ⟨rfl, hb1⟩
  rw [h]
  obtain ⟨⟨c0, c1, c2, c3, c4, c5, c6, c7, c8, c9, c10, c11, c12, c13⟩, hz, hbw⟩ := (EcE.new w 2 p0 p1 s0 s1 s2 s3 sp r0 r1 m0 m1 t0 t1).keep hb1 (by simp)
  clear hb1
  go_wp2
  go_ret
  exact ⟨rfl, hbw⟩

set_option maxRecDepth 100000 in
set_option maxHeartbeats 3200000 in
theorem echo_2_6 (p0 p1 s0 s1 s2 s3 sp r0 r1 m0 m1 t0 t1 : Int) (w : World) (h : heardB p0 p1 sp r0 r1 m0 m1 = true) (f0 : (s0 == 0) = true) (f1 : (s1 == 0) = true) (f2 : (s2 == 0) = true) (f3 : (s3 == 0) = true) (f4 : (t0 == 0) = true) (f5 : (t1 == 0) = true) :
    Calls Try.prog 19 #[.agg #[.int .i64 2, .int .i64 p0, .int .i64 p1, .int .i64 s0, .int .i64 s1, .int .i64 s2, .int .i64 s3, .int .i64 sp, .int .i64 r0, .int .i64 r1, .int .i64 m0, .int .i64 m1, .int .i64 t0, .int .i64 t1]] w fun e w' => e = .returned (.int .i64 (0)) ∧ Below w.heap.size w w' := by
  have e28 := fun w : World => eq28t s0 s1 s2 s3 0 0 0 0 w
  go_enter Try.func19, Try.ntmps19
  go_wp2_with fail
  refine (isHeard_any _ _ _ _ _ _ _ _ _ _ _ _ _ _ _).mono ?_; rintro e w1 ⟨rfl, hb1⟩
  rw [h]
  obtain ⟨⟨c0, c1, c2, c3, c4, c5, c6, c7, c8, c9, c10, c11, c12, c13⟩, hz, hbw⟩ := (EcE.new w 2 p0 p1 s0 s1 s2 s3 sp r0 r1 m0 m1 t0 t1).keep hb1 (by simp)
  clear hb1
  go_wp2
  go_ret
  exact ⟨rfl, hbw⟩

set_option maxRecDepth 100000 in
set_option maxHeartbeats 3200000 in
theorem echo_3y (p0 p1 s0 s1 s2 s3 sp r0 r1 m0 m1 t0 t1 : Int) (w : World) (h : heardB p0 p1 sp r0 r1 m0 m1 = true) (g : (turnB s0 s1 && turnB s2 s3 && turnB t0 t1) = true) :
    Calls Try.prog 19 #[.agg #[.int .i64 3, .int .i64 p0, .int .i64 p1, .int .i64 s0, .int .i64 s1, .int .i64 s2, .int .i64 s3, .int .i64 sp, .int .i64 r0, .int .i64 r1, .int .i64 m0, .int .i64 m1, .int .i64 t0, .int .i64 t1]] w fun e w' => e = .returned (.int .i64 (0)) ∧ Below w.heap.size w w' := by
  go_enter Try.func19, Try.ntmps19
  go_wp2_with fail
  refine (isHeard_any _ _ _ _ _ _ _ _ _ _ _ _ _ _ _).mono ?_; rintro e w1 ⟨rfl, hb1⟩
  rw [h]
  obtain ⟨⟨c0, c1, c2, c3, c4, c5, c6, c7, c8, c9, c10, c11, c12, c13⟩, hz, hbw⟩ := (EcE.new w 3 p0 p1 s0 s1 s2 s3 sp r0 r1 m0 m1 t0 t1).keep hb1 (by simp)
  clear hb1
  go_wp2_with fail
  refine (areParts_any w1.heap.size 0 3 3 (zs3 s0 s1 s2 s3 t0 t1) _ (by decide) (spans3_new _ _ _ _ _ _ _ _) (by simp)).mono ?_; rintro e w2 ⟨rfl, hb2⟩
  rw [all3, g]
  have hbw2 := hbw.trans (Below.trans ((below_alloc w1 _).mono hbw.size) (hb2.mono (by simp; exact Nat.le_succ_of_le hbw.size)))
  go_wp2
  go_ret
  exact ⟨rfl, hbw2⟩

set_option maxRecDepth 100000 in
set_option maxHeartbeats 3200000 in
theorem echo_3f (p0 p1 s0 s1 s2 s3 sp r0 r1 m0 m1 t0 t1 : Int) (w : World) (h : heardB p0 p1 sp r0 r1 m0 m1 = true) (g : (turnB s0 s1 && turnB s2 s3 && turnB t0 t1) = false) :
    Calls Try.prog 19 #[.agg #[.int .i64 3, .int .i64 p0, .int .i64 p1, .int .i64 s0, .int .i64 s1, .int .i64 s2, .int .i64 s3, .int .i64 sp, .int .i64 r0, .int .i64 r1, .int .i64 m0, .int .i64 m1, .int .i64 t0, .int .i64 t1]] w fun e w' => e = .returned (.int .i64 (3)) ∧ Below w.heap.size w w' := by
  go_enter Try.func19, Try.ntmps19
  go_wp2_with fail
  refine (isHeard_any _ _ _ _ _ _ _ _ _ _ _ _ _ _ _).mono ?_; rintro e w1 ⟨rfl, hb1⟩
  rw [h]
  obtain ⟨⟨c0, c1, c2, c3, c4, c5, c6, c7, c8, c9, c10, c11, c12, c13⟩, hz, hbw⟩ := (EcE.new w 3 p0 p1 s0 s1 s2 s3 sp r0 r1 m0 m1 t0 t1).keep hb1 (by simp)
  clear hb1
  go_wp2_with fail
  refine (areParts_any w1.heap.size 0 3 3 (zs3 s0 s1 s2 s3 t0 t1) _ (by decide) (spans3_new _ _ _ _ _ _ _ _) (by simp)).mono ?_; rintro e w2 ⟨rfl, hb2⟩
  rw [all3, g]
  have hbw2 := hbw.trans (Below.trans ((below_alloc w1 _).mono hbw.size) (hb2.mono (by simp; exact Nat.le_succ_of_le hbw.size)))
  go_wp2
  go_ret
  exact ⟨rfl, hbw2⟩

set_option maxHeartbeats 1600000 in
theorem echo_0 (kd p0 p1 s0 s1 s2 s3 sp r0 r1 m0 m1 t0 t1 : Int) (w : World) (h1 : ¬ kd = 1) (h2 : ¬ kd = 2) (h3 : ¬ kd = 3) : Calls Try.prog 19 #[.agg #[.int .i64 kd, .int .i64 p0, .int .i64 p1, .int .i64 s0, .int .i64 s1, .int .i64 s2, .int .i64 s3, .int .i64 sp, .int .i64 r0, .int .i64 r1, .int .i64 m0, .int .i64 m1, .int .i64 t0, .int .i64 t1]] w fun e w' => e = .returned (.int .i64 (2)) ∧ Below w.heap.size w w' := by
  have e1 : (kd == 1) = false := beq_eq_false_iff_ne.2 h1
  have e2 : (kd == 2) = false := beq_eq_false_iff_ne.2 h2
  have e3 : (kd == 3) = false := beq_eq_false_iff_ne.2 h3
  go_enter Try.func19, Try.ntmps19
  go_wp2
  go_ret
  exact ⟨rfl, below_alloc _ _⟩

theorem CheckEcho_any (kd p0 p1 s0 s1 s2 s3 sp r0 r1 m0 m1 t0 t1 : Int) (w : World) : Calls Try.prog 19 #[.agg #[.int .i64 kd, .int .i64 p0, .int .i64 p1, .int .i64 s0, .int .i64 s1, .int .i64 s2, .int .i64 s3, .int .i64 sp, .int .i64 r0, .int .i64 r1, .int .i64 m0, .int .i64 m1, .int .i64 t0, .int .i64 t1]] w fun e w' => e = .returned (.int .i64 (echoC kd p0 p1 s0 s1 s2 s3 sp r0 r1 m0 m1 t0 t1)) ∧ Below w.heap.size w w' := by
  by_cases h1 : kd = 1
  · subst h1
    have e : echoC 1 p0 p1 s0 s1 s2 s3 sp r0 r1 m0 m1 t0 t1 = if quietB 1 p0 p1 s0 s1 s2 s3 sp r0 r1 m0 m1 t0 t1 = true then 0 else 3 := rfl
    rw [e]
    rcases (Bool.eq_false_or_eq_true (quietB 1 p0 p1 s0 s1 s2 s3 sp r0 r1 m0 m1 t0 t1)).symm with h | h
    · rw [h, if_neg (by decide)]; exact echo_1n p0 p1 s0 s1 s2 s3 sp r0 r1 m0 m1 t0 t1 w h
    · rw [h, if_pos rfl]; exact echo_1y p0 p1 s0 s1 s2 s3 sp r0 r1 m0 m1 t0 t1 w h
  by_cases h2 : kd = 2
  · subst h2
    have e : echoC 2 p0 p1 s0 s1 s2 s3 sp r0 r1 m0 m1 t0 t1 = if mixedB 2 p0 p1 s0 s1 s2 s3 sp r0 r1 m0 m1 t0 t1 = true then 0 else 3 := rfl
    rw [e]
    rcases (Bool.eq_false_or_eq_true (heardB p0 p1 sp r0 r1 m0 m1)).symm with h | h
    · rw [if_neg (by unfold mixedB; rw [h]; simp)]; exact echo_2n p0 p1 s0 s1 s2 s3 sp r0 r1 m0 m1 t0 t1 w h
    · by_cases g0 : s0 = 0
      · by_cases g1 : s1 = 0
        · by_cases g2 : s2 = 0
          · by_cases g3 : s3 = 0
            · by_cases g4 : t0 = 0
              · by_cases g5 : t1 = 0
                · rw [if_pos (by unfold mixedB; rw [h]; simp [g0, g1, g2, g3, g4, g5])]
                  exact echo_2_6 p0 p1 s0 s1 s2 s3 sp r0 r1 m0 m1 t0 t1 w h (beq_iff_eq.2 g0) (beq_iff_eq.2 g1) (beq_iff_eq.2 g2) (beq_iff_eq.2 g3) (beq_iff_eq.2 g4) (beq_iff_eq.2 g5)
                · rw [if_neg (by unfold mixedB; rw [h]; simp [g5])]
                  exact echo_2_5 p0 p1 s0 s1 s2 s3 sp r0 r1 m0 m1 t0 t1 w h (beq_iff_eq.2 g0) (beq_iff_eq.2 g1) (beq_iff_eq.2 g2) (beq_iff_eq.2 g3) (beq_iff_eq.2 g4) (beq_eq_false_iff_ne.2 g5)
              · rw [if_neg (by unfold mixedB; rw [h]; simp [g4])]
                exact echo_2_4 p0 p1 s0 s1 s2 s3 sp r0 r1 m0 m1 t0 t1 w h (beq_iff_eq.2 g0) (beq_iff_eq.2 g1) (beq_iff_eq.2 g2) (beq_iff_eq.2 g3) (beq_eq_false_iff_ne.2 g4)
            · rw [if_neg (by unfold mixedB; rw [h]; simp [g3])]
              exact echo_2_3 p0 p1 s0 s1 s2 s3 sp r0 r1 m0 m1 t0 t1 w h (beq_iff_eq.2 g0) (beq_iff_eq.2 g1) (beq_iff_eq.2 g2) (beq_eq_false_iff_ne.2 g3)
          · rw [if_neg (by unfold mixedB; rw [h]; simp [g2])]
            exact echo_2_2 p0 p1 s0 s1 s2 s3 sp r0 r1 m0 m1 t0 t1 w h (beq_iff_eq.2 g0) (beq_iff_eq.2 g1) (beq_eq_false_iff_ne.2 g2)
        · rw [if_neg (by unfold mixedB; rw [h]; simp [g1])]
          exact echo_2_1 p0 p1 s0 s1 s2 s3 sp r0 r1 m0 m1 t0 t1 w h (beq_iff_eq.2 g0) (beq_eq_false_iff_ne.2 g1)
      · rw [if_neg (by unfold mixedB; rw [h]; simp [g0])]
        exact echo_2_0 p0 p1 s0 s1 s2 s3 sp r0 r1 m0 m1 t0 t1 w h  (beq_eq_false_iff_ne.2 g0)
  by_cases h3 : kd = 3
  · subst h3
    have e : echoC 3 p0 p1 s0 s1 s2 s3 sp r0 r1 m0 m1 t0 t1 = if clearB 3 p0 p1 s0 s1 s2 s3 sp r0 r1 m0 m1 t0 t1 = true then 0 else 3 := rfl
    rw [e]
    rcases (Bool.eq_false_or_eq_true (heardB p0 p1 sp r0 r1 m0 m1)).symm with h | h
    · rw [if_neg (by unfold clearB; rw [h]; simp)]; exact echo_3n p0 p1 s0 s1 s2 s3 sp r0 r1 m0 m1 t0 t1 w h
    · rcases (Bool.eq_false_or_eq_true (turnB s0 s1 && turnB s2 s3 && turnB t0 t1)).symm with g | g
      · rw [if_neg (by unfold clearB; rw [h, g]; simp)]; exact echo_3f p0 p1 s0 s1 s2 s3 sp r0 r1 m0 m1 t0 t1 w h g
      · rw [if_pos (by unfold clearB; rw [h, g]; rfl)]; exact echo_3y p0 p1 s0 s1 s2 s3 sp r0 r1 m0 m1 t0 t1 w h g
  rw [show echoC kd p0 p1 s0 s1 s2 s3 sp r0 r1 m0 m1 t0 t1 = 2 by unfold echoC; rw [if_neg h1, if_neg h2, if_neg h3]]
  exact echo_0 kd p0 p1 s0 s1 s2 s3 sp r0 r1 m0 m1 t0 t1 w h1 h2 h3

end Go.Proofs.Ytmojnopgpgnfeaa

namespace Go.Proofs.Ytmojnopgpgnfeaa
open Go.RowKit
set_option linter.unusedVariables false

set_option maxRecDepth 100000 in
set_option maxHeartbeats 3200000 in
theorem ref_1v (p0 p1 s0 s1 s2 s3 sp r0 r1 m0 m1 t0 t1 : Int) (w : World) (h : spanB p0 p1 0 1073741824 = false) :
    Calls Try.prog 20 #[.agg #[.int .i64 1, .int .i64 p0, .int .i64 p1, .int .i64 s0, .int .i64 s1, .int .i64 s2, .int .i64 s3, .int .i64 sp, .int .i64 r0, .int .i64 r1, .int .i64 m0, .int .i64 m1, .int .i64 t0, .int .i64 t1]] w fun e w' => e = .returned (.int .i64 (3)) ∧ Below w.heap.size w w' := by
  go_enter Try.func20, Try.ntmps20
  go_wp2_with fail
  refine (Valid_any _ _ _ _ _).mono ?_; rintro e w1 ⟨rfl, hb1⟩
  obtain ⟨⟨c0, c1, c2, c3, c4, c5, c6, c7, c8, c9, c10, c11, c12, c13⟩, hz, hbw⟩ := (EcE.new w 1 p0 p1 s0 s1 s2 s3 sp r0 r1 m0 m1 t0 t1).keep hb1 (by simp)
  clear hb1
  go_wp2
  go_ret
  exact ⟨rfl, (by repeat (first | exact hbw | (refine Below.alloc ?_ (by have := hbw.size; first | omega | (simp; omega)) _)))⟩

set_option maxRecDepth 100000 in
set_option maxHeartbeats 3200000 in
theorem ref_2v (p0 p1 s0 s1 s2 s3 sp r0 r1 m0 m1 t0 t1 : Int) (w : World) (h : spanB p0 p1 0 1073741824 = false) :
    Calls Try.prog 20 #[.agg #[.int .i64 2, .int .i64 p0, .int .i64 p1, .int .i64 s0, .int .i64 s1, .int .i64 s2, .int .i64 s3, .int .i64 sp, .int .i64 r0, .int .i64 r1, .int .i64 m0, .int .i64 m1, .int .i64 t0, .int .i64 t1]] w fun e w' => e = .returned (.int .i64 (3)) ∧ Below w.heap.size w w' := by
  go_enter Try.func20, Try.ntmps20
  go_wp2_with fail
  refine (Valid_any _ _ _ _ _).mono ?_; rintro e w1 ⟨rfl, hb1⟩
  obtain ⟨⟨c0, c1, c2, c3, c4, c5, c6, c7, c8, c9, c10, c11, c12, c13⟩, hz, hbw⟩ := (EcE.new w 2 p0 p1 s0 s1 s2 s3 sp r0 r1 m0 m1 t0 t1).keep hb1 (by simp)
  clear hb1
  go_wp2
  go_ret
  exact ⟨rfl, (by repeat (first | exact hbw | (refine Below.alloc ?_ (by have := hbw.size; first | omega | (simp; omega)) _)))⟩

set_option maxRecDepth 100000 in
set_option maxHeartbeats 3200000 in
theorem ref_3v (p0 p1 s0 s1 s2 s3 sp r0 r1 m0 m1 t0 t1 : Int) (w : World) (h : spanB p0 p1 0 1073741824 = false) :
    Calls Try.prog 20 #[.agg #[.int .i64 3, .int .i64 p0, .int .i64 p1, .int .i64 s0, .int .i64 s1, .int .i64 s2, .int .i64 s3, .int .i64 sp, .int .i64 r0, .int .i64 r1, .int .i64 m0, .int .i64 m1, .int .i64 t0, .int .i64 t1]] w fun e w' => e = .returned (.int .i64 (3)) ∧ Below w.heap.size w w' := by
  go_enter Try.func20, Try.ntmps20
  go_wp2_with fail
  refine (Valid_any _ _ _ _ _).mono ?_; rintro e w1 ⟨rfl, hb1⟩
  obtain ⟨⟨c0, c1, c2, c3, c4, c5, c6, c7, c8, c9, c10, c11, c12, c13⟩, hz, hbw⟩ := (EcE.new w 3 p0 p1 s0 s1 s2 s3 sp r0 r1 m0 m1 t0 t1).keep hb1 (by simp)
  clear hb1
  go_wp2
  go_ret
  exact ⟨rfl, (by repeat (first | exact hbw | (refine Below.alloc ?_ (by have := hbw.size; first | omega | (simp; omega)) _)))⟩

set_option maxRecDepth 100000 in
set_option maxHeartbeats 3200000 in
theorem ref_1_0 (p0 p1 s0 s1 s2 s3 sp r0 r1 m0 m1 t0 t1 : Int) (w : World) (h : spanB p0 p1 0 1073741824 = true) (f0 : (p0 == 0) = false) :
    Calls Try.prog 20 #[.agg #[.int .i64 1, .int .i64 p0, .int .i64 p1, .int .i64 s0, .int .i64 s1, .int .i64 s2, .int .i64 s3, .int .i64 sp, .int .i64 r0, .int .i64 r1, .int .i64 m0, .int .i64 m1, .int .i64 t0, .int .i64 t1]] w fun e w' => e = .returned (.int .i64 (3)) ∧ Below w.heap.size w w' := by
  have n0 : (p0 != 0) = true := by unfold bne; rw [f0]; rfl
  go_enter Try.func20, Try.ntmps20
  go_wp2_with fail
  refine (Valid_any _ _ _ _ _).mono ?_; rintro e w1 ⟨rfl, hb1⟩
  obtain ⟨⟨c0, c1, c2, c3, c4, c5, c6, c7, c8, c9, c10, c11, c12, c13⟩, hz, hbw⟩ := (EcE.new w 1 p0 p1 s0 s1 s2 s3 sp r0 r1 m0 m1 t0 t1).keep hb1 (by simp)
  clear hb1
  go_wp2
  go_ret
  exact ⟨rfl, (by repeat (first | exact hbw | (refine Below.alloc ?_ (by have := hbw.size; first | omega | (simp; omega)) _)))⟩

set_option maxRecDepth 100000 in
set_option maxHeartbeats 3200000 in
theorem ref_1_1 (p0 p1 s0 s1 s2 s3 sp r0 r1 m0 m1 t0 t1 : Int) (w : World) (h : spanB p0 p1 0 1073741824 = true) (f0 : (p0 == 0) = true) (f1 : (s0 == 0) = false) :
    Calls Try.prog 20 #[.agg #[.int .i64 1, .int .i64 p0, .int .i64 p1, .int .i64 s0, .int .i64 s1, .int .i64 s2, .int .i64 s3, .int .i64 sp, .int .i64 r0, .int .i64 r1, .int .i64 m0, .int .i64 m1, .int .i64 t0, .int .i64 t1]] w fun e w' => e = .returned (.int .i64 (3)) ∧ Below w.heap.size w w' := by
  have n0 : (p0 != 0) = false := by unfold bne; rw [f0]; rfl
  go_enter Try.func20, Try.ntmps20
  go_wp2_with fail
  refine (Valid_any _ _ _ _ _).mono ?_; rintro e w1 ⟨rfl, hb1⟩
  obtain ⟨⟨c0, c1, c2, c3, c4, c5, c6, c7, c8, c9, c10, c11, c12, c13⟩, hz, hbw⟩ := (EcE.new w 1 p0 p1 s0 s1 s2 s3 sp r0 r1 m0 m1 t0 t1).keep hb1 (by simp)
  clear hb1
  go_wp2
  go_ret
  exact ⟨rfl, (by repeat (first | exact hbw | (refine Below.alloc ?_ (by have := hbw.size; first | omega | (simp; omega)) _)))⟩

set_option maxRecDepth 100000 in
set_option maxHeartbeats 3200000 in
theorem ref_1_2 (p0 p1 s0 s1 s2 s3 sp r0 r1 m0 m1 t0 t1 : Int) (w : World) (h : spanB p0 p1 0 1073741824 = true) (f0 : (p0 == 0) = true) (f1 : (s0 == 0) = true) (f2 : (s1 == 0) = false) :
    Calls Try.prog 20 #[.agg #[.int .i64 1, .int .i64 p0, .int .i64 p1, .int .i64 s0, .int .i64 s1, .int .i64 s2, .int .i64 s3, .int .i64 sp, .int .i64 r0, .int .i64 r1, .int .i64 m0, .int .i64 m1, .int .i64 t0, .int .i64 t1]] w fun e w' => e = .returned (.int .i64 (3)) ∧ Below w.heap.size w w' := by
  have n0 : (p0 != 0) = false := by unfold bne; rw [f0]; rfl
  go_enter Try.func20, Try.ntmps20
  go_wp2_with fail
  refine (Valid_any _ _ _ _ _).mono ?_; rintro e w1 ⟨rfl, hb1⟩
  obtain ⟨⟨c0, c1, c2, c3, c4, c5, c6, c7, c8, c9, c10, c11, c12, c13⟩, hz, hbw⟩ := (EcE.new w 1 p0 p1 s0 s1 s2 s3 sp r0 r1 m0 m1 t0 t1).keep hb1 (by simp)
  clear hb1
  go_wp2
  go_ret
  exact ⟨rfl, (by repeat (first | exact hbw | (refine Below.alloc ?_ (by have := hbw.size; first | omega | (simp; omega)) _)))⟩

set_option maxRecDepth 100000 in
set_option maxHeartbeats 3200000 in
theorem ref_1_3 (p0 p1 s0 s1 s2 s3 sp r0 r1 m0 m1 t0 t1 : Int) (w : World) (h : spanB p0 p1 0 1073741824 = true) (f0 : (p0 == 0) = true) (f1 : (s0 == 0) = true) (f2 : (s1 == 0) = true) (f3 : (s2 == 0) = false) :
    Calls Try.prog 20 #[.agg #[.int .i64 1, .int .i64 p0, .int .i64 p1, .int .i64 s0, .int .i64 s1, .int .i64 s2, .int .i64 s3, .int .i64 sp, .int .i64 r0, .int .i64 r1, .int .i64 m0, .int .i64 m1, .int .i64 t0, .int .i64 t1]] w fun e w' => e = .returned (.int .i64 (3)) ∧ Below w.heap.size w w' := by
  have n0 : (p0 != 0) = false := by unfold bne; rw [f0]; rfl
  go_enter Try.func20, Try.ntmps20
  go_wp2_with fail
  refine (Valid_any _ _ _ _ _).mono ?_; rintro e w1 ⟨rfl, hb1⟩
  obtain ⟨⟨c0, c1, c2, c3, c4, c5, c6, c7, c8, c9, c10, c11, c12, c13⟩, hz, hbw⟩ := (EcE.new w 1 p0 p1 s0 s1 s2 s3 sp r0 r1 m0 m1 t0 t1).keep hb1 (by simp)
  clear hb1
  go_wp2
  go_ret
  exact ⟨rfl, (by repeat (first | exact hbw | (refine Below.alloc ?_ (by have := hbw.size; first | omega | (simp; omega)) _)))⟩

set_option maxRecDepth 100000 in
set_option maxHeartbeats 3200000 in
theorem ref_1_4 (p0 p1 s0 s1 s2 s3 sp r0 r1 m0 m1 t0 t1 : Int) (w : World) (h : spanB p0 p1 0 1073741824 = true) (f0 : (p0 == 0) = true) (f1 : (s0 == 0) = true) (f2 : (s1 == 0) = true) (f3 : (s2 == 0) = true) (f4 : (s3 == 0) = false) :
    Calls Try.prog 20 #[.agg #[.int .i64 1, .int .i64 p0, .int .i64 p1, .int .i64 s0, .int .i64 s1, .int .i64 s2, .int .i64 s3, .int .i64 sp, .int .i64 r0, .int .i64 r1, .int .i64 m0, .int .i64 m1, .int .i64 t0, .int .i64 t1]] w fun e w' => e = .returned (.int .i64 (3)) ∧ Below w.heap.size w w' := by
  have n0 : (p0 != 0) = false := by unfold bne; rw [f0]; rfl
  go_enter Try.func20, Try.ntmps20
  go_wp2_with fail
  refine (Valid_any _ _ _ _ _).mono ?_; rintro e w1 ⟨rfl, hb1⟩
  obtain ⟨⟨c0, c1, c2, c3, c4, c5, c6, c7, c8, c9, c10, c11, c12, c13⟩, hz, hbw⟩ := (EcE.new w 1 p0 p1 s0 s1 s2 s3 sp r0 r1 m0 m1 t0 t1).keep hb1 (by simp)
  clear hb1
  go_wp2
  go_ret
  exact ⟨rfl, (by repeat (first | exact hbw | (refine Below.alloc ?_ (by have := hbw.size; first | omega | (simp; omega)) _)))⟩

set_option maxRecDepth 100000 in
set_option maxHeartbeats 3200000 in
theorem ref_1_5 (p0 p1 s0 s1 s2 s3 sp r0 r1 m0 m1 t0 t1 : Int) (w : World) (h : spanB p0 p1 0 1073741824 = true) (f0 : (p0 == 0) = true) (f1 : (s0 == 0) = true) (f2 : (s1 == 0) = true) (f3 : (s2 == 0) = true) (f4 : (s3 == 0) = true) (f5 : (sp == 0) = false) :
    Calls Try.prog 20 #[.agg #[.int .i64 1, .int .i64 p0, .int .i64 p1, .int .i64 s0, .int .i64 s1, .int .i64 s2, .int .i64 s3, .int .i64 sp, .int .i64 r0, .int .i64 r1, .int .i64 m0, .int .i64 m1, .int .i64 t0, .int .i64 t1]] w fun e w' => e = .returned (.int .i64 (3)) ∧ Below w.heap.size w w' := by
  have n0 : (p0 != 0) = false := by unfold bne; rw [f0]; rfl
  have n5 : (sp != 0) = true := by unfold bne; rw [f5]; rfl
  go_enter Try.func20, Try.ntmps20
  go_wp2_with fail
  refine (Valid_any _ _ _ _ _).mono ?_; rintro e w1 ⟨rfl, hb1⟩
  obtain ⟨⟨c0, c1, c2, c3, c4, c5, c6, c7, c8, c9, c10, c11, c12, c13⟩, hz, hbw⟩ := (EcE.new w 1 p0 p1 s0 s1 s2 s3 sp r0 r1 m0 m1 t0 t1).keep hb1 (by simp)
  clear hb1
  go_wp2
  go_ret
  exact ⟨rfl, (by repeat (first | exact hbw | (refine Below.alloc ?_ (by have := hbw.size; first | omega | (simp; omega)) _)))⟩

set_option maxRecDepth 100000 in
set_option maxHeartbeats 3200000 in
theorem ref_1_6 (p0 p1 s0 s1 s2 s3 sp r0 r1 m0 m1 t0 t1 : Int) (w : World) (h : spanB p0 p1 0 1073741824 = true) (f0 : (p0 == 0) = true) (f1 : (s0 == 0) = true) (f2 : (s1 == 0) = true) (f3 : (s2 == 0) = true) (f4 : (s3 == 0) = true) (f5 : (sp == 0) = true) (f6 : (r0 == 0) = false) :
    Calls Try.prog 20 #[.agg #[.int .i64 1, .int .i64 p0, .int .i64 p1, .int .i64 s0, .int .i64 s1, .int .i64 s2, .int .i64 s3, .int .i64 sp, .int .i64 r0, .int .i64 r1, .int .i64 m0, .int .i64 m1, .int .i64 t0, .int .i64 t1]] w fun e w' => e = .returned (.int .i64 (3)) ∧ Below w.heap.size w w' := by
  have n0 : (p0 != 0) = false := by unfold bne; rw [f0]; rfl
  have n5 : (sp != 0) = false := by unfold bne; rw [f5]; rfl
  go_enter Try.func20, Try.ntmps20
  go_wp2_with fail
  refine (Valid_any _ _ _ _ _).mono ?_; rintro e w1 ⟨rfl, hb1⟩
  obtain ⟨⟨c0, c1, c2, c3, c4, c5, c6, c7, c8, c9, c10, c11, c12, c13⟩, hz, hbw⟩ := (EcE.new w 1 p0 p1 s0 s1 s2 s3 sp r0 r1 m0 m1 t0 t1).keep hb1 (by simp)
  clear hb1
  go_wp2
  go_ret
  exact ⟨rfl, (by repeat (first | exact hbw | (refine Below.alloc ?_ (by have := hbw.size; first | omega | (simp; omega)) _)))⟩

set_option maxRecDepth 100000 in
set_option maxHeartbeats 3200000 in
theorem ref_1_7 (p0 p1 s0 s1 s2 s3 sp r0 r1 m0 m1 t0 t1 : Int) (w : World) (h : spanB p0 p1 0 1073741824 = true) (f0 : (p0 == 0) = true) (f1 : (s0 == 0) = true) (f2 : (s1 == 0) = true) (f3 : (s2 == 0) = true) (f4 : (s3 == 0) = true) (f5 : (sp == 0) = true) (f6 : (r0 == 0) = true) (f7 : (r1 == 0) = false) :
    Calls Try.prog 20 #[.agg #[.int .i64 1, .int .i64 p0, .int .i64 p1, .int .i64 s0, .int .i64 s1, .int .i64 s2, .int .i64 s3, .int .i64 sp, .int .i64 r0, .int .i64 r1, .int .i64 m0, .int .i64 m1, .int .i64 t0, .int .i64 t1]] w fun e w' => e = .returned (.int .i64 (3)) ∧ Below w.heap.size w w' := by
  have n0 : (p0 != 0) = false := by unfold bne; rw [f0]; rfl
  have n5 : (sp != 0) = false := by unfold bne; rw [f5]; rfl
  go_enter Try.func20, Try.ntmps20
  go_wp2_with fail
  refine (Valid_any _ _ _ _ _).mono ?_; rintro e w1 ⟨rfl, hb1⟩
  obtain ⟨⟨c0, c1, c2, c3, c4, c5, c6, c7, c8, c9, c10, c11, c12, c13⟩, hz, hbw⟩ := (EcE.new w 1 p0 p1 s0 s1 s2 s3 sp r0 r1 m0 m1 t0 t1).keep hb1 (by simp)
  clear hb1
  go_wp2
  go_ret
  exact ⟨rfl, (by repeat (first | exact hbw | (refine Below.alloc ?_ (by have := hbw.size; first | omega | (simp; omega)) _)))⟩

set_option maxRecDepth 100000 in
set_option maxHeartbeats 3200000 in
theorem ref_1_8 (p0 p1 s0 s1 s2 s3 sp r0 r1 m0 m1 t0 t1 : Int) (w : World) (h : spanB p0 p1 0 1073741824 = true) (f0 : (p0 == 0) = true) (f1 : (s0 == 0) = true) (f2 : (s1 == 0) = true) (f3 : (s2 == 0) = true) (f4 : (s3 == 0) = true) (f5 : (sp == 0) = true) (f6 : (r0 == 0) = true) (f7 : (r1 == 0) = true) (f8 : (m0 == 0) = false) :
    Calls Try.prog 20 #[.agg #[.int .i64 1, .int .i64 p0, .int .i64 p1, .int .i64 s0, .int .i64 s1, .int .i64 s2, .int .i64 s3, .int .i64 sp, .int .i64 r0, .int .i64 r1, .int .i64 m0, .int .i64 m1, .int .i64 t0, .int .i64 t1]] w fun e w' => e = .returned (.int .i64 (3)) ∧ Below w.heap.size w w' := by
  have n0 : (p0 != 0) = false := by unfold bne; rw [f0]; rfl
  have n5 : (sp != 0) = false := by unfold bne; rw [f5]; rfl
  go_enter Try.func20, Try.ntmps20
  go_wp2_with fail
  refine (Valid_any _ _ _ _ _).mono ?_; rintro e w1 ⟨rfl, hb1⟩
  obtain ⟨⟨c0, c1, c2, c3, c4, c5, c6, c7, c8, c9, c10, c11, c12, c13⟩, hz, hbw⟩ := (EcE.new w 1 p0 p1 s0 s1 s2 s3 sp r0 r1 m0 m1 t0 t1).keep hb1 (by simp)
  clear hb1
  go_wp2
  go_ret
  exact ⟨rfl, (by repeat (first | exact hbw | (refine Below.alloc ?_ (by have := hbw.size; first | omega | (simp; omega)) _)))⟩

set_option maxRecDepth 100000 in
set_option maxHeartbeats 3200000 in
theorem ref_1_9 (p0 p1 s0 s1 s2 s3 sp r0 r1 m0 m1 t0 t1 : Int) (w : World) (h : spanB p0 p1 0 1073741824 = true) (f0 : (p0 == 0) = true) (f1 : (s0 == 0) = true) (f2 : (s1 == 0) = true) (f3 : (s2 == 0) = true) (f4 : (s3 == 0) = true) (f5 : (sp == 0) = true) (f6 : (r0 == 0) = true) (f7 : (r1 == 0) = true) (f8 : (m0 == 0) = true) (f9 : (m1 == 0) = false) :
    Calls Try.prog 20 #[.agg #[.int .i64 1, .int .i64 p0, .int .i64 p1, .int .i64 s0, .int .i64 s1, .int .i64 s2, .int .i64 s3, .int .i64 sp, .int .i64 r0, .int .i64 r1, .int .i64 m0, .int .i64 m1, .int .i64 t0, .int .i64 t1]] w fun e w' => e = .returned (.int .i64 (3)) ∧ Below w.heap.size w w' := by
  have n0 : (p0 != 0) = false := by unfold bne; rw [f0]; rfl
  have n5 : (sp != 0) = false := by unfold bne; rw [f5]; rfl
  go_enter Try.func20, Try.ntmps20
  go_wp2_with fail
  refine (Valid_any _ _ _ _ _).mono ?_; rintro e w1 ⟨rfl, hb1⟩
  obtain ⟨⟨c0, c1, c2, c3, c4, c5, c6, c7, c8, c9, c10, c11, c12, c13⟩, hz, hbw⟩ := (EcE.new w 1 p0 p1 s0 s1 s2 s3 sp r0 r1 m0 m1 t0 t1).keep hb1 (by simp)
  clear hb1
  go_wp2
  go_ret
  exact ⟨rfl, (by repeat (first | exact hbw | (refine Below.alloc ?_ (by have := hbw.size; first | omega | (simp; omega)) _)))⟩

set_option maxRecDepth 100000 in
set_option maxHeartbeats 3200000 in
theorem ref_1_10 (p0 p1 s0 s1 s2 s3 sp r0 r1 m0 m1 t0 t1 : Int) (w : World) (h : spanB p0 p1 0 1073741824 = true) (f0 : (p0 == 0) = true) (f1 : (s0 == 0) = true) (f2 : (s1 == 0) = true) (f3 : (s2 == 0) = true) (f4 : (s3 == 0) = true) (f5 : (sp == 0) = true) (f6 : (r0 == 0) = true) (f7 : (r1 == 0) = true) (f8 : (m0 == 0) = true) (f9 : (m1 == 0) = true) (f10 : (t0 == 0) = false) :
    Calls Try.prog 20 #[.agg #[.int .i64 1, .int .i64 p0, .int .i64 p1, .int .i64 s0, .int .i64 s1, .int .i64 s2, .int .i64 s3, .int .i64 sp, .int .i64 r0, .int .i64 r1, .int .i64 m0, .int .i64 m1, .int .i64 t0, .int .i64 t1]] w fun e w' => e = .returned (.int .i64 (3)) ∧ Below w.heap.size w w' := by
  have n0 : (p0 != 0) = false := by unfold bne; rw [f0]; rfl
  have n5 : (sp != 0) = false := by unfold bne; rw [f5]; rfl
  go_enter Try.func20, Try.ntmps20
  go_wp2_with fail
  refine (Valid_any _ _ _ _ _).mono ?_; rintro e w1 ⟨rfl, hb1⟩
  obtain ⟨⟨c0, c1, c2, c3, c4, c5, c6, c7, c8, c9, c10, c11, c12, c13⟩, hz, hbw⟩ := (EcE.new w 1 p0 p1 s0 s1 s2 s3 sp r0 r1 m0 m1 t0 t1).keep hb1 (by simp)
  clear hb1
  go_wp2
  go_ret
  exact ⟨rfl, (by repeat (first | exact hbw | (refine Below.alloc ?_ (by have := hbw.size; first | omega | (simp; omega)) _)))⟩

set_option maxRecDepth 100000 in
set_option maxHeartbeats 3200000 in
theorem ref_1_11 (p0 p1 s0 s1 s2 s3 sp r0 r1 m0 m1 t0 t1 : Int) (w : World) (h : spanB p0 p1 0 1073741824 = true) (f0 : (p0 == 0) = true) (f1 : (s0 == 0) = true) (f2 : (s1 == 0) = true) (f3 : (s2 == 0) = true) (f4 : (s3 == 0) = true) (f5 : (sp == 0) = true) (f6 : (r0 == 0) = true) (f7 : (r1 == 0) = true) (f8 : (m0 == 0) = true) (f9 : (m1 == 0) = true) (f10 : (t0 == 0) = true) (f11 : (t1 == 0) = false) :
    Calls Try.prog 20 #[.agg #[.int .i64 1, .int .i64 p0, .int .i64 p1, .int .i64 s0, .int .i64 s1, .int .i64 s2, .int .i64 s3, .int .i64 sp, .int .i64 r0, .int .i64 r1, .int .i64 m0, .int .i64 m1, .int .i64 t0, .int .i64 t1]] w fun e w' => e = .returned (.int .i64 (3)) ∧ Below w.heap.size w w' := by
  have n0 : (p0 != 0) = false := by unfold bne; rw [f0]; rfl
  have n5 : (sp != 0) = false := by unfold bne; rw [f5]; rfl
  go_enter Try.func20, Try.ntmps20
  go_wp2_with fail
  refine (Valid_any _ _ _ _ _).mono ?_; rintro e w1 ⟨rfl, hb1⟩
  obtain ⟨⟨c0, c1, c2, c3, c4, c5, c6, c7, c8, c9, c10, c11, c12, c13⟩, hz, hbw⟩ := (EcE.new w 1 p0 p1 s0 s1 s2 s3 sp r0 r1 m0 m1 t0 t1).keep hb1 (by simp)
  clear hb1
  go_wp2
  go_ret
  exact ⟨rfl, (by repeat (first | exact hbw | (refine Below.alloc ?_ (by have := hbw.size; first | omega | (simp; omega)) _)))⟩

set_option maxRecDepth 100000 in
set_option maxHeartbeats 3200000 in
theorem ref_1_12 (p0 p1 s0 s1 s2 s3 sp r0 r1 m0 m1 t0 t1 : Int) (w : World) (h : spanB p0 p1 0 1073741824 = true) (f0 : (p0 == 0) = true) (f1 : (s0 == 0) = true) (f2 : (s1 == 0) = true) (f3 : (s2 == 0) = true) (f4 : (s3 == 0) = true) (f5 : (sp == 0) = true) (f6 : (r0 == 0) = true) (f7 : (r1 == 0) = true) (f8 : (m0 == 0) = true) (f9 : (m1 == 0) = true) (f10 : (t0 == 0) = true) (f11 : (t1 == 0) = true) :
    Calls Try.prog 20 #[.agg #[.int .i64 1, .int .i64 p0, .int .i64 p1, .int .i64 s0, .int .i64 s1, .int .i64 s2, .int .i64 s3, .int .i64 sp, .int .i64 r0, .int .i64 r1, .int .i64 m0, .int .i64 m1, .int .i64 t0, .int .i64 t1]] w fun e w' => e = .returned (.int .i64 (0)) ∧ Below w.heap.size w w' := by
  have n0 : (p0 != 0) = false := by unfold bne; rw [f0]; rfl
  have n5 : (sp != 0) = false := by unfold bne; rw [f5]; rfl
  go_enter Try.func20, Try.ntmps20
  go_wp2_with fail
  refine (Valid_any _ _ _ _ _).mono ?_; rintro e w1 ⟨rfl, hb1⟩
  obtain ⟨⟨c0, c1, c2, c3, c4, c5, c6, c7, c8, c9, c10, c11, c12, c13⟩, hz, hbw⟩ := (EcE.new w 1 p0 p1 s0 s1 s2 s3 sp r0 r1 m0 m1 t0 t1).keep hb1 (by simp)
  clear hb1
  go_wp2
  go_ret
  exact ⟨rfl, (by repeat (first | exact hbw | (refine Below.alloc ?_ (by have := hbw.size; first | omega | (simp; omega)) _)))⟩

set_option maxRecDepth 100000 in
set_option maxHeartbeats 3200000 in
theorem ref_2h0 (p0 p1 s0 s1 s2 s3 sp r0 r1 m0 m1 t0 t1 : Int) (w : World) (h : spanB p0 p1 0 1073741824 = true)  (hp : p0 < 1) :
    Calls Try.prog 20 #[.agg #[.int .i64 2, .int .i64 p0, .int .i64 p1, .int .i64 s0, .int .i64 s1, .int .i64 s2, .int .i64 s3, .int .i64 sp, .int .i64 r0, .int .i64 r1, .int .i64 m0, .int .i64 m1, .int .i64 t0, .int .i64 t1]] w fun e w' => e = .returned (.int .i64 (3)) ∧ Below w.heap.size w w' := by
  go_enter Try.func20, Try.ntmps20
  go_wp2_with fail
  refine (Valid_any _ _ _ _ _).mono ?_; rintro e w1 ⟨rfl, hb1⟩
  obtain ⟨⟨c0, c1, c2, c3, c4, c5, c6, c7, c8, c9, c10, c11, c12, c13⟩, hz, hbw⟩ := (EcE.new w 2 p0 p1 s0 s1 s2 s3 sp r0 r1 m0 m1 t0 t1).keep hb1 (by simp)
  clear hb1
  go_wp2
  go_ret
  exact ⟨rfl, (by repeat (first | exact hbw | (refine Below.alloc ?_ (by have := hbw.size; first | omega | (simp; omega)) _)))⟩

set_option maxRecDepth 100000 in
set_option maxHeartbeats 3200000 in
theorem ref_2h1 (p0 p1 s0 s1 s2 s3 sp r0 r1 m0 m1 t0 t1 : Int) (w : World) (h : spanB p0 p1 0 1073741824 = true) (hp : ¬ p0 < 1) (hr : spanB r0 r1 0 1000000 = false) :
    Calls Try.prog 20 #[.agg #[.int .i64 2, .int .i64 p0, .int .i64 p1, .int .i64 s0, .int .i64 s1, .int .i64 s2, .int .i64 s3, .int .i64 sp, .int .i64 r0, .int .i64 r1, .int .i64 m0, .int .i64 m1, .int .i64 t0, .int .i64 t1]] w fun e w' => e = .returned (.int .i64 (3)) ∧ Below w.heap.size w w' := by
  go_enter Try.func20, Try.ntmps20
  go_wp2_with fail
  refine (Valid_any _ _ _ _ _).mono ?_; rintro e w1 ⟨rfl, hb1⟩
  obtain ⟨⟨c0, c1, c2, c3, c4, c5, c6, c7, c8, c9, c10, c11, c12, c13⟩, hz, hbw⟩ := (EcE.new w 2 p0 p1 s0 s1 s2 s3 sp r0 r1 m0 m1 t0 t1).keep hb1 (by simp)
  clear hb1
  go_wp2_with fail
  refine (Valid_any _ _ _ _ _).mono ?_; rintro e w2 ⟨rfl, hb2⟩
  have O2 := (⟨⟨c0, c1, c2, c3, c4, c5, c6, c7, c8, c9, c10, c11, c12, c13⟩, hz, hbw⟩ : EcE w w1 2 p0 p1 s0 s1 s2 s3 sp r0 r1 m0 m1 t0 t1).keep hb2 hz
  clear c0 c1 c2 c3 c4 c5 c6 c7 c8 c9 c10 c11 c12 c13 hz hbw hb2
  obtain ⟨⟨c0, c1, c2, c3, c4, c5, c6, c7, c8, c9, c10, c11, c12, c13⟩, hz, hbw⟩ := O2
  go_wp2
  go_ret
  exact ⟨rfl, (by repeat (first | exact hbw | (refine Below.alloc ?_ (by have := hbw.size; first | omega | (simp; omega)) _)))⟩

set_option maxRecDepth 100000 in
set_option maxHeartbeats 3200000 in
theorem ref_2h2 (p0 p1 s0 s1 s2 s3 sp r0 r1 m0 m1 t0 t1 : Int) (w : World) (h : spanB p0 p1 0 1073741824 = true) (hp : ¬ p0 < 1) (hr : spanB r0 r1 0 1000000 = true) (hm : spanB m0 m1 0 1000 = false) :
    Calls Try.prog 20 #[.agg #[.int .i64 2, .int .i64 p0, .int .i64 p1, .int .i64 s0, .int .i64 s1, .int .i64 s2, .int .i64 s3, .int .i64 sp, .int .i64 r0, .int .i64 r1, .int .i64 m0, .int .i64 m1, .int .i64 t0, .int .i64 t1]] w fun e w' => e = .returned (.int .i64 (3)) ∧ Below w.heap.size w w' := by
  go_enter Try.func20, Try.ntmps20
  go_wp2_with fail
  refine (Valid_any _ _ _ _ _).mono ?_; rintro e w1 ⟨rfl, hb1⟩
  obtain ⟨⟨c0, c1, c2, c3, c4, c5, c6, c7, c8, c9, c10, c11, c12, c13⟩, hz, hbw⟩ := (EcE.new w 2 p0 p1 s0 s1 s2 s3 sp r0 r1 m0 m1 t0 t1).keep hb1 (by simp)
  clear hb1
  go_wp2_with fail
  refine (Valid_any _ _ _ _ _).mono ?_; rintro e w2 ⟨rfl, hb2⟩
  have O2 := (⟨⟨c0, c1, c2, c3, c4, c5, c6, c7, c8, c9, c10, c11, c12, c13⟩, hz, hbw⟩ : EcE w w1 2 p0 p1 s0 s1 s2 s3 sp r0 r1 m0 m1 t0 t1).keep hb2 hz
  clear c0 c1 c2 c3 c4 c5 c6 c7 c8 c9 c10 c11 c12 c13 hz hbw hb2
  obtain ⟨⟨c0, c1, c2, c3, c4, c5, c6, c7, c8, c9, c10, c11, c12, c13⟩, hz, hbw⟩ := O2
  go_wp2_with fail
  refine (Valid_any _ _ _ _ _).mono ?_; rintro e w3 ⟨rfl, hb3⟩
  have O3 := (⟨⟨c0, c1, c2, c3, c4, c5, c6, c7, c8, c9, c10, c11, c12, c13⟩, hz, hbw⟩ : EcE w w2 2 p0 p1 s0 s1 s2 s3 sp r0 r1 m0 m1 t0 t1).keep hb3 hz
  clear c0 c1 c2 c3 c4 c5 c6 c7 c8 c9 c10 c11 c12 c13 hz hbw hb3
  obtain ⟨⟨c0, c1, c2, c3, c4, c5, c6, c7, c8, c9, c10, c11, c12, c13⟩, hz, hbw⟩ := O3
  go_wp2
  go_ret
  exact ⟨rfl, (by repeat (first | exact hbw | (refine Below.alloc ?_ (by have := hbw.size; first | omega | (simp; omega)) _)))⟩

set_option maxRecDepth 100000 in
set_option maxHeartbeats 3200000 in
theorem ref_2h3 (p0 p1 s0 s1 s2 s3 sp r0 r1 m0 m1 t0 t1 : Int) (w : World) (h : spanB p0 p1 0 1073741824 = true) (hp : ¬ p0 < 1) (hr : spanB r0 r1 0 1000000 = true) (hm : spanB m0 m1 0 1000 = true) (hs : inB sp 0 65535 = false) :
    Calls Try.prog 20 #[.agg #[.int .i64 2, .int .i64 p0, .int .i64 p1, .int .i64 s0, .int .i64 s1, .int .i64 s2, .int .i64 s3, .int .i64 sp, .int .i64 r0, .int .i64 r1, .int .i64 m0, .int .i64 m1, .int .i64 t0, .int .i64 t1]] w fun e w' => e = .returned (.int .i64 (3)) ∧ Below w.heap.size w w' := by
  go_enter Try.func20, Try.ntmps20
  go_wp2_with fail
  refine (Valid_any _ _ _ _ _).mono ?_; rintro e w1 ⟨rfl, hb1⟩
  obtain ⟨⟨c0, c1, c2, c3, c4, c5, c6, c7, c8, c9, c10, c11, c12, c13⟩, hz, hbw⟩ := (EcE.new w 2 p0 p1 s0 s1 s2 s3 sp r0 r1 m0 m1 t0 t1).keep hb1 (by simp)
  clear hb1
  go_wp2_with fail
  refine (Valid_any _ _ _ _ _).mono ?_; rintro e w2 ⟨rfl, hb2⟩
  have O2 := (⟨⟨c0, c1, c2, c3, c4, c5, c6, c7, c8, c9, c10, c11, c12, c13⟩, hz, hbw⟩ : EcE w w1 2 p0 p1 s0 s1 s2 s3 sp r0 r1 m0 m1 t0 t1).keep hb2 hz
  clear c0 c1 c2 c3 c4 c5 c6 c7 c8 c9 c10 c11 c12 c13 hz hbw hb2
  obtain ⟨⟨c0, c1, c2, c3, c4, c5, c6, c7, c8, c9, c10, c11, c12, c13⟩, hz, hbw⟩ := O2
  go_wp2_with fail
  refine (Valid_any _ _ _ _ _).mono ?_; rintro e w3 ⟨rfl, hb3⟩
  have O3 := (⟨⟨c0, c1, c2, c3, c4, c5, c6, c7, c8, c9, c10, c11, c12, c13⟩, hz, hbw⟩ : EcE w w2 2 p0 p1 s0 s1 s2 s3 sp r0 r1 m0 m1 t0 t1).keep hb3 hz
  clear c0 c1 c2 c3 c4 c5 c6 c7 c8 c9 c10 c11 c12 c13 hz hbw hb3
  obtain ⟨⟨c0, c1, c2, c3, c4, c5, c6, c7, c8, c9, c10, c11, c12, c13⟩, hz, hbw⟩ := O3
  go_wp2_with fail
  refine (refIn_any _ _ _ _).mono ?_; rintro e w' ⟨rfl, rfl⟩
  go_wp2
  go_ret
  exact ⟨rfl, (by repeat (first | exact hbw | (refine Below.alloc ?_ (by have := hbw.size; first | omega | (simp; omega)) _)))⟩

set_option maxRecDepth 100000 in
set_option maxHeartbeats 3200000 in
theorem ref_3h0 (p0 p1 s0 s1 s2 s3 sp r0 r1 m0 m1 t0 t1 : Int) (w : World) (h : spanB p0 p1 0 1073741824 = true)  (hp : p0 < 1) :
    Calls Try.prog 20 #[.agg #[.int .i64 3, .int .i64 p0, .int .i64 p1, .int .i64 s0, .int .i64 s1, .int .i64 s2, .int .i64 s3, .int .i64 sp, .int .i64 r0, .int .i64 r1, .int .i64 m0, .int .i64 m1, .int .i64 t0, .int .i64 t1]] w fun e w' => e = .returned (.int .i64 (3)) ∧ Below w.heap.size w w' := by
  go_enter Try.func20, Try.ntmps20
  go_wp2_with fail
  refine (Valid_any _ _ _ _ _).mono ?_; rintro e w1 ⟨rfl, hb1⟩
  obtain ⟨⟨c0, c1, c2, c3, c4, c5, c6, c7, c8, c9, c10, c11, c12, c13⟩, hz, hbw⟩ := (EcE.new w 3 p0 p1 s0 s1 s2 s3 sp r0 r1 m0 m1 t0 t1).keep hb1 (by simp)
  clear hb1
  go_wp2
  go_ret
  exact ⟨rfl, (by repeat (first | exact hbw | (refine Below.alloc ?_ (by have := hbw.size; first | omega | (simp; omega)) _)))⟩

set_option maxRecDepth 100000 in
set_option maxHeartbeats 3200000 in
theorem ref_3h1 (p0 p1 s0 s1 s2 s3 sp r0 r1 m0 m1 t0 t1 : Int) (w : World) (h : spanB p0 p1 0 1073741824 = true) (hp : ¬ p0 < 1) (hr : spanB r0 r1 0 1000000 = false) :
    Calls Try.prog 20 #[.agg #[.int .i64 3, .int .i64 p0, .int .i64 p1, .int .i64 s0, .int .i64 s1, .int .i64 s2, .int .i64 s3, .int .i64 sp, .int .i64 r0, .int .i64 r1, .int .i64 m0, .int .i64 m1, .int .i64 t0, .int .i64 t1]] w fun e w' => e = .returned (.int .i64 (3)) ∧ Below w.heap.size w w' := by
  go_enter Try.func20, Try.ntmps20
  go_wp2_with fail
  refine (Valid_any _ _ _ _ _).mono ?_; rintro e w1 ⟨rfl, hb1⟩
  obtain ⟨⟨c0, c1, c2, c3, c4, c5, c6, c7, c8, c9, c10, c11, c12, c13⟩, hz, hbw⟩ := (EcE.new w 3 p0 p1 s0 s1 s2 s3 sp r0 r1 m0 m1 t0 t1).keep hb1 (by simp)
  clear hb1
  go_wp2_with fail
  refine (Valid_any _ _ _ _ _).mono ?_; rintro e w2 ⟨rfl, hb2⟩
  have O2 := (⟨⟨c0, c1, c2, c3, c4, c5, c6, c7, c8, c9, c10, c11, c12, c13⟩, hz, hbw⟩ : EcE w w1 3 p0 p1 s0 s1 s2 s3 sp r0 r1 m0 m1 t0 t1).keep hb2 hz
  clear c0 c1 c2 c3 c4 c5 c6 c7 c8 c9 c10 c11 c12 c13 hz hbw hb2
  obtain ⟨⟨c0, c1, c2, c3, c4, c5, c6, c7, c8, c9, c10, c11, c12, c13⟩, hz, hbw⟩ := O2
  go_wp2
  go_ret
  exact ⟨rfl, (by repeat (first | exact hbw | (refine Below.alloc ?_ (by have := hbw.size; first | omega | (simp; omega)) _)))⟩

set_option maxRecDepth 100000 in
set_option maxHeartbeats 3200000 in
theorem ref_3h2 (p0 p1 s0 s1 s2 s3 sp r0 r1 m0 m1 t0 t1 : Int) (w : World) (h : spanB p0 p1 0 1073741824 = true) (hp : ¬ p0 < 1) (hr : spanB r0 r1 0 1000000 = true) (hm : spanB m0 m1 0 1000 = false) :
    Calls Try.prog 20 #[.agg #[.int .i64 3, .int .i64 p0, .int .i64 p1, .int .i64 s0, .int .i64 s1, .int .i64 s2, .int .i64 s3, .int .i64 sp, .int .i64 r0, .int .i64 r1, .int .i64 m0, .int .i64 m1, .int .i64 t0, .int .i64 t1]] w fun e w' => e = .returned (.int .i64 (3)) ∧ Below w.heap.size w w' := by
  go_enter Try.func20, Try.ntmps20
  go_wp2_with fail
  refine (Valid_any _ _ _ _ _).mono ?_; rintro e w1 ⟨rfl, hb1⟩
  obtain ⟨⟨c0, c1, c2, c3, c4, c5, c6, c7, c8, c9, c10, c11, c12, c13⟩, hz, hbw⟩ := (EcE.new w 3 p0 p1 s0 s1 s2 s3 sp r0 r1 m0 m1 t0 t1).keep hb1 (by simp)
  clear hb1
  go_wp2_with fail
  refine (Valid_any _ _ _ _ _).mono ?_; rintro e w2 ⟨rfl, hb2⟩
  have O2 := (⟨⟨c0, c1, c2, c3, c4, c5, c6, c7, c8, c9, c10, c11, c12, c13⟩, hz, hbw⟩ : EcE w w1 3 p0 p1 s0 s1 s2 s3 sp r0 r1 m0 m1 t0 t1).keep hb2 hz
  clear c0 c1 c2 c3 c4 c5 c6 c7 c8 c9 c10 c11 c12 c13 hz hbw hb2
  obtain ⟨⟨c0, c1, c2, c3, c4, c5, c6, c7, c8, c9, c10, c11, c12, c13⟩, hz, hbw⟩ := O2
  go_wp2_with fail
  refine (Valid_any _ _ _ _ _).mono ?_; rintro e w3 ⟨rfl, hb3⟩
  have O3 := (⟨⟨c0, c1, c2, c3, c4, c5, c6, c7, c8, c9, c10, c11, c12, c13⟩, hz, hbw⟩ : EcE w w2 3 p0 p1 s0 s1 s2 s3 sp r0 r1 m0 m1 t0 t1).keep hb3 hz
  clear c0 c1 c2 c3 c4 c5 c6 c7 c8 c9 c10 c11 c12 c13 hz hbw hb3
  obtain ⟨⟨c0, c1, c2, c3, c4, c5, c6, c7, c8, c9, c10, c11, c12, c13⟩, hz, hbw⟩ := O3
  go_wp2
  go_ret
  exact ⟨rfl, (by repeat (first | exact hbw | (refine Below.alloc ?_ (by have := hbw.size; first | omega | (simp; omega)) _)))⟩

set_option maxRecDepth 100000 in
set_option maxHeartbeats 3200000 in
theorem ref_3h3 (p0 p1 s0 s1 s2 s3 sp r0 r1 m0 m1 t0 t1 : Int) (w : World) (h : spanB p0 p1 0 1073741824 = true) (hp : ¬ p0 < 1) (hr : spanB r0 r1 0 1000000 = true) (hm : spanB m0 m1 0 1000 = true) (hs : inB sp 0 65535 = false) :
    Calls Try.prog 20 #[.agg #[.int .i64 3, .int .i64 p0, .int .i64 p1, .int .i64 s0, .int .i64 s1, .int .i64 s2, .int .i64 s3, .int .i64 sp, .int .i64 r0, .int .i64 r1, .int .i64 m0, .int .i64 m1, .int .i64 t0, .int .i64 t1]] w fun e w' => e = .returned (.int .i64 (3)) ∧ Below w.heap.size w w' := by
  go_enter Try.func20, Try.ntmps20
  go_wp2_with fail
  refine (Valid_any _ _ _ _ _).mono ?_; rintro e w1 ⟨rfl, hb1⟩
  obtain ⟨⟨c0, c1, c2, c3, c4, c5, c6, c7, c8, c9, c10, c11, c12, c13⟩, hz, hbw⟩ := (EcE.new w 3 p0 p1 s0 s1 s2 s3 sp r0 r1 m0 m1 t0 t1).keep hb1 (by simp)
  clear hb1
  go_wp2_with fail
  refine (Valid_any _ _ _ _ _).mono ?_; rintro e w2 ⟨rfl, hb2⟩
  have O2 := (⟨⟨c0, c1, c2, c3, c4, c5, c6, c7, c8, c9, c10, c11, c12, c13⟩, hz, hbw⟩ : EcE w w1 3 p0 p1 s0 s1 s2 s3 sp r0 r1 m0 m1 t0 t1).keep hb2 hz
  clear c0 c1 c2 c3 c4 c5 c6 c7 c8 c9 c10 c11 c12 c13 hz hbw hb2
  obtain ⟨⟨c0, c1, c2, c3, c4, c5, c6, c7, c8, c9, c10, c11, c12, c13⟩, hz, hbw⟩ := O2
  go_wp2_with fail
  refine (Valid_any _ _ _ _ _).mono ?_; rintro e w3 ⟨rfl, hb3⟩
  have O3 := (⟨⟨c0, c1, c2, c3, c4, c5, c6, c7, c8, c9, c10, c11, c12, c13⟩, hz, hbw⟩ : EcE w w2 3 p0 p1 s0 s1 s2 s3 sp r0 r1 m0 m1 t0 t1).keep hb3 hz
  clear c0 c1 c2 c3 c4 c5 c6 c7 c8 c9 c10 c11 c12 c13 hz hbw hb3
  obtain ⟨⟨c0, c1, c2, c3, c4, c5, c6, c7, c8, c9, c10, c11, c12, c13⟩, hz, hbw⟩ := O3
  go_wp2_with fail
  refine (refIn_any _ _ _ _).mono ?_; rintro e w' ⟨rfl, rfl⟩
  go_wp2
  go_ret
  exact ⟨rfl, (by repeat (first | exact hbw | (refine Below.alloc ?_ (by have := hbw.size; first | omega | (simp; omega)) _)))⟩

set_option maxRecDepth 100000 in
set_option maxHeartbeats 3200000 in
theorem ref_2_0 (p0 p1 s0 s1 s2 s3 sp r0 r1 m0 m1 t0 t1 : Int) (w : World) (h : spanB p0 p1 0 1073741824 = true) (hp : ¬ p0 < 1) (hr : spanB r0 r1 0 1000000 = true) (hm : spanB m0 m1 0 1000 = true) (hs : inB sp 0 65535 = true) (f0 : (s0 == 0) = false) :
    Calls Try.prog 20 #[.agg #[.int .i64 2, .int .i64 p0, .int .i64 p1, .int .i64 s0, .int .i64 s1, .int .i64 s2, .int .i64 s3, .int .i64 sp, .int .i64 r0, .int .i64 r1, .int .i64 m0, .int .i64 m1, .int .i64 t0, .int .i64 t1]] w fun e w' => e = .returned (.int .i64 (3)) ∧ Below w.heap.size w w' := by
  go_enter Try.func20, Try.ntmps20
  go_wp2_with fail
  refine (Valid_any _ _ _ _ _).mono ?_; rintro e w1 ⟨rfl, hb1⟩
  obtain ⟨⟨c0, c1, c2, c3, c4, c5, c6, c7, c8, c9, c10, c11, c12, c13⟩, hz, hbw⟩ := (EcE.new w 2 p0 p1 s0 s1 s2 s3 sp r0 r1 m0 m1 t0 t1).keep hb1 (by simp)
  clear hb1
  go_wp2_with fail
  refine (Valid_any _ _ _ _ _).mono ?_; rintro e w2 ⟨rfl, hb2⟩
  have O2 := (⟨⟨c0, c1, c2, c3, c4, c5, c6, c7, c8, c9, c10, c11, c12, c13⟩, hz, hbw⟩ : EcE w w1 2 p0 p1 s0 s1 s2 s3 sp r0 r1 m0 m1 t0 t1).keep hb2 hz
  clear c0 c1 c2 c3 c4 c5 c6 c7 c8 c9 c10 c11 c12 c13 hz hbw hb2
  obtain ⟨⟨c0, c1, c2, c3, c4, c5, c6, c7, c8, c9, c10, c11, c12, c13⟩, hz, hbw⟩ := O2
  go_wp2_with fail
  refine (Valid_any _ _ _ _ _).mono ?_; rintro e w3 ⟨rfl, hb3⟩
  have O3 := (⟨⟨c0, c1, c2, c3, c4, c5, c6, c7, c8, c9, c10, c11, c12, c13⟩, hz, hbw⟩ : EcE w w2 2 p0 p1 s0 s1 s2 s3 sp r0 r1 m0 m1 t0 t1).keep hb3 hz
  clear c0 c1 c2 c3 c4 c5 c6 c7 c8 c9 c10 c11 c12 c13 hz hbw hb3
  obtain ⟨⟨c0, c1, c2, c3, c4, c5, c6, c7, c8, c9, c10, c11, c12, c13⟩, hz, hbw⟩ := O3
  go_wp2_with fail
  refine (refIn_any _ _ _ _).mono ?_; rintro e w' ⟨rfl, rfl⟩
  go_wp2
  go_ret
  exact ⟨rfl, (by repeat (first | exact hbw | (refine Below.alloc ?_ (by have := hbw.size; first | omega | (simp; omega)) _)))⟩

set_option maxRecDepth 100000 in
set_option maxHeartbeats 3200000 in
theorem ref_2_1 (p0 p1 s0 s1 s2 s3 sp r0 r1 m0 m1 t0 t1 : Int) (w : World) (h : spanB p0 p1 0 1073741824 = true) (hp : ¬ p0 < 1) (hr : spanB r0 r1 0 1000000 = true) (hm : spanB m0 m1 0 1000 = true) (hs : inB sp 0 65535 = true) (f0 : (s0 == 0) = true) (f1 : (s1 == 0) = false) :
    Calls Try.prog 20 #[.agg #[.int .i64 2, .int .i64 p0, .int .i64 p1, .int .i64 s0, .int .i64 s1, .int .i64 s2, .int .i64 s3, .int .i64 sp, .int .i64 r0, .int .i64 r1, .int .i64 m0, .int .i64 m1, .int .i64 t0, .int .i64 t1]] w fun e w' => e = .returned (.int .i64 (3)) ∧ Below w.heap.size w w' := by
  go_enter Try.func20, Try.ntmps20
  go_wp2_with fail
  refine (Valid_any _ _ _ _ _).mono ?_; rintro e w1 ⟨rfl, hb1⟩
  obtain ⟨⟨c0, c1, c2, c3, c4, c5, c6, c7, c8, c9, c10, c11, c12, c13⟩, hz, hbw⟩ := (EcE.new w 2 p0 p1 s0 s1 s2 s3 sp r0 r1 m0 m1 t0 t1).keep hb1 (by simp)
  clear hb1
  go_wp2_with fail
  refine (Valid_any _ _ _ _ _).mono ?_; rintro e w2 ⟨rfl, hb2⟩
  have O2 := (⟨⟨c0, c1, c2, c3, c4, c5, c6, c7, c8, c9, c10, c11, c12, c13⟩, hz, hbw⟩ : EcE w w1 2 p0 p1 s0 s1 s2 s3 sp r0 r1 m0 m1 t0 t1).keep hb2 hz
  clear c0 c1 c2 c3 c4 c5 c6 c7 c8 c9 c10 c11 c12 c13 hz hbw hb2
  obtain ⟨⟨c0, c1, c2, c3, c4, c5, c6, c7, c8, c9, c10, c11, c12, c13⟩, hz, hbw⟩ := O2
  go_wp2_with fail
  refine (Valid_any _ _ _ _ _).mono ?_; rintro e w3 ⟨rfl, hb3⟩
  have O3 := (⟨⟨c0, c1, c2, c3, c4, c5, c6, c7, c8, c9, c10, c11, c12, c13⟩, hz, hbw⟩ : EcE w w2 2 p0 p1 s0 s1 s2 s3 sp r0 r1 m0 m1 t0 t1).keep hb3 hz
  clear c0 c1 c2 c3 c4 c5 c6 c7 c8 c9 c10 c11 c12 c13 hz hbw hb3
  obtain ⟨⟨c0, c1, c2, c3, c4, c5, c6, c7, c8, c9, c10, c11, c12, c13⟩, hz, hbw⟩ := O3
  go_wp2_with fail
  refine (refIn_any _ _ _ _).mono ?_; rintro e w' ⟨rfl, rfl⟩
  go_wp2
  go_ret
  exact ⟨rfl, (by repeat (first | exact hbw | (refine Below.alloc ?_ (by have := hbw.size; first | omega | (simp; omega)) _)))⟩

set_option maxRecDepth 100000 in
set_option maxHeartbeats 3200000 in
theorem ref_2_2 (p0 p1 s0 s1 s2 s3 sp r0 r1 m0 m1 t0 t1 : Int) (w : World) (h : spanB p0 p1 0 1073741824 = true) (hp : ¬ p0 < 1) (hr : spanB r0 r1 0 1000000 = true) (hm : spanB m0 m1 0 1000 = true) (hs : inB sp 0 65535 = true) (f0 : (s0 == 0) = true) (f1 : (s1 == 0) = true) (f2 : (s2 == 0) = false) :
    Calls Try.prog 20 #[.agg #[.int .i64 2, .int .i64 p0, .int .i64 p1, .int .i64 s0, .int .i64 s1, .int .i64 s2, .int .i64 s3, .int .i64 sp, .int .i64 r0, .int .i64 r1, .int .i64 m0, .int .i64 m1, .int .i64 t0, .int .i64 t1]] w fun e w' => e = .returned (.int .i64 (3)) ∧ Below w.heap.size w w' := by
  go_enter Try.func20, Try.ntmps20
  go_wp2_with fail
  refine (Valid_any _ _ _ _ _).mono ?_; rintro e w1 ⟨rfl, hb1⟩
  obtain ⟨⟨c0, c1, c2, c3, c4, c5, c6, c7, c8, c9, c10, c11, c12, c13⟩, hz, hbw⟩ := (EcE.new w 2 p0 p1 s0 s1 s2 s3 sp r0 r1 m0 m1 t0 t1).keep hb1 (by simp)
  clear hb1
  go_wp2_with fail
  refine (Valid_any _ _ _ _ _).mono ?_; rintro e w2 ⟨rfl, hb2⟩
  have O2 := (⟨⟨c0, c1, c2, c3, c4, c5, c6, c7, c8, c9, c10, c11, c12, c13⟩, hz, hbw⟩ : EcE w w1 2 p0 p1 s0 s1 s2 s3 sp r0 r1 m0 m1 t0 t1).keep hb2 hz
  clear c0 c1 c2 c3 c4 c5 c6 c7 c8 c9 c10 c11 c12 c13 hz hbw hb2
  obtain ⟨⟨c0, c1, c2, c3, c4, c5, c6, c7, c8, c9, c10, c11, c12, c13⟩, hz, hbw⟩ := O2
  go_wp2_with fail
  refine (Valid_any _ _ _ _ _).mono ?_; rintro e w3 ⟨rfl, hb3⟩
  have O3 := (⟨⟨c0, c1, c2, c3, c4, c5, c6, c7, c8, c9, c10, c11, c12, c13⟩, hz, hbw⟩ : EcE w w2 2 p0 p1 s0 s1 s2 s3 sp r0 r1 m0 m1 t0 t1).keep hb3 hz
  clear c0 c1 c2 c3 c4 c5 c6 c7 c8 c9 c10 c11 c12 c13 hz hbw hb3
  obtain ⟨⟨c0, c1, c2, c3, c4, c5, c6, c7, c8, c9, c10, c11, c12, c13⟩, hz, hbw⟩ := O3
  go_wp2_with fail
  refine (refIn_any _ _ _ _).mono ?_; rintro e w' ⟨rfl, rfl⟩
  go_wp2
  go_ret
  exact ⟨rfl, (by repeat (first | exact hbw | (refine Below.alloc ?_ (by have := hbw.size; first | omega | (simp; omega)) _)))⟩

set_option maxRecDepth 100000 in
set_option maxHeartbeats 3200000 in
theorem ref_2_3 (p0 p1 s0 s1 s2 s3 sp r0 r1 m0 m1 t0 t1 : Int) (w : World) (h : spanB p0 p1 0 1073741824 = true) (hp : ¬ p0 < 1) (hr : spanB r0 r1 0 1000000 = true) (hm : spanB m0 m1 0 1000 = true) (hs : inB sp 0 65535 = true) (f0 : (s0 == 0) = true) (f1 : (s1 == 0) = true) (f2 : (s2 == 0) = true) (f3 : (s3 == 0) = false) :
    Calls Try.prog 20 #[.agg #[.int .i64 2, .int .i64 p0, .int .i64 p1, .int .i64 s0, .int .i64 s1, .int .i64 s2, .int .i64 s3, .int .i64 sp, .int .i64 r0, .int .i64 r1, .int .i64 m0, .int .i64 m1, .int .i64 t0, .int .i64 t1]] w fun e w' => e = .returned (.int .i64 (3)) ∧ Below w.heap.size w w' := by
  go_enter Try.func20, Try.ntmps20
  go_wp2_with fail
  refine (Valid_any _ _ _ _ _).mono ?_; rintro e w1 ⟨rfl, hb1⟩
  obtain ⟨⟨c0, c1, c2, c3, c4, c5, c6, c7, c8, c9, c10, c11, c12, c13⟩, hz, hbw⟩ := (EcE.new w 2 p0 p1 s0 s1 s2 s3 sp r0 r1 m0 m1 t0 t1).keep hb1 (by simp)
  clear hb1
  go_wp2_with fail
  refine (Valid_any _ _ _ _ _).mono ?_; rintro e w2 ⟨rfl, hb2⟩
  have O2 := (⟨⟨c0, c1, c2, c3, c4, c5, c6, c7, c8, c9, c10, c11, c12, c13⟩, hz, hbw⟩ : EcE w w1 2 p0 p1 s0 s1 s2 s3 sp r0 r1 m0 m1 t0 t1).keep hb2 hz
  clear c0 c1 c2 c3 c4 c5 c6 c7 c8 c9 c10 c11 c12 c13 hz hbw hb2
  obtain ⟨⟨c0, c1, c2, c3, c4, c5, c6, c7, c8, c9, c10, c11, c12, c13⟩, hz, hbw⟩ := O2
  go_wp2_with fail
  refine (Valid_any _ _ _ _ _).mono ?_; rintro e w3 ⟨rfl, hb3⟩
  have O3 := (⟨⟨c0, c1, c2, c3, c4, c5, c6, c7, c8, c9, c10, c11, c12, c13⟩, hz, hbw⟩ : EcE w w2 2 p0 p1 s0 s1 s2 s3 sp r0 r1 m0 m1 t0 t1).keep hb3 hz
  clear c0 c1 c2 c3 c4 c5 c6 c7 c8 c9 c10 c11 c12 c13 hz hbw hb3
  obtain ⟨⟨c0, c1, c2, c3, c4, c5, c6, c7, c8, c9, c10, c11, c12, c13⟩, hz, hbw⟩ := O3
  go_wp2_with fail
  refine (refIn_any _ _ _ _).mono ?_; rintro e w' ⟨rfl, rfl⟩
  go_wp2
  go_ret
  exact ⟨rfl, (by repeat (first | exact hbw | (refine Below.alloc ?_ (by have := hbw.size; first | omega | (simp; omega)) _)))⟩

set_option maxRecDepth 100000 in
set_option maxHeartbeats 3200000 in
theorem ref_2_4 (p0 p1 s0 s1 s2 s3 sp r0 r1 m0 m1 t0 t1 : Int) (w : World) (h : spanB p0 p1 0 1073741824 = true) (hp : ¬ p0 < 1) (hr : spanB r0 r1 0 1000000 = true) (hm : spanB m0 m1 0 1000 = true) (hs : inB sp 0 65535 = true) (f0 : (s0 == 0) = true) (f1 : (s1 == 0) = true) (f2 : (s2 == 0) = true) (f3 : (s3 == 0) = true) (f4 : (t0 == 0) = false) :
    Calls Try.prog 20 #[.agg #[.int .i64 2, .int .i64 p0, .int .i64 p1, .int .i64 s0, .int .i64 s1, .int .i64 s2, .int .i64 s3, .int .i64 sp, .int .i64 r0, .int .i64 r1, .int .i64 m0, .int .i64 m1, .int .i64 t0, .int .i64 t1]] w fun e w' => e = .returned (.int .i64 (3)) ∧ Below w.heap.size w w' := by
  go_enter Try.func20, Try.ntmps20
  go_wp2_with fail
  refine (Valid_any _ _ _ _ _).mono ?_; rintro e w1 ⟨rfl, hb1⟩
  obtain ⟨⟨c0, c1, c2, c3, c4, c5, c6, c7, c8, c9, c10, c11, c12, c13⟩, hz, hbw⟩ := (EcE.new w 2 p0 p1 s0 s1 s2 s3 sp r0 r1 m0 m1 t0 t1).keep hb1 (by simp)
  clear hb1
  go_wp2_with fail
  refine (Valid_any _ _ _ _ _).mono ?_; rintro e w2 ⟨rfl, hb2⟩
  have O2 := (⟨⟨c0, c1, c2, c3, c4, c5, c6, c7, c8, c9, c10, c11, c12, c13⟩, hz, hbw⟩ : EcE w w1 2 p0 p1 s0 s1 s2 s3 sp r0 r1 m0 m1 t0 t1).keep hb2 hz
  clear c0 c1 c2 c3 c4 c5 c6 c7 c8 c9 c10 c11 c12 c13 hz hbw hb2
  obtain ⟨⟨c0, c1, c2, c3, c4, c5, c6, c7, c8, c9, c10, c11, c12, c13⟩, hz, hbw⟩ := O2
  go_wp2_with fail
  refine (Valid_any _ _ _ _ _).mono ?_; rintro e w3 ⟨rfl, hb3⟩
  have O3 := (⟨⟨c0, c1, c2, c3, c4, c5, c6, c7, c8, c9, c10, c11, c12, c13⟩, hz, hbw⟩ : EcE w w2 2 p0 p1 s0 s1 s2 s3 sp r0 r1 m0 m1 t0 t1).keep hb3 hz
  clear c0 c1 c2 c3 c4 c5 c6 c7 c8 c9 c10 c11 c12 c13 hz hbw hb3
  obtain ⟨⟨c0, c1, c2, c3, c4, c5, c6, c7, c8, c9, c10, c11, c12, c13⟩, hz, hbw⟩ := O3
  go_wp2_with fail
  refine (refIn_any _ _ _ _).mono ?_; rintro e w' ⟨rfl, rfl⟩
  go_wp2
  go_ret
  exact ⟨rfl, (by repeat (first | exact hbw | (refine Below.alloc ?_ (by have := hbw.size; first | omega | (simp; omega)) _)))⟩

set_option maxRecDepth 100000 in
set_option maxHeartbeats 3200000 in
theorem ref_2_5 (p0 p1 s0 s1 s2 s3 sp r0 r1 m0 m1 t0 t1 : Int) (w : World) (h : spanB p0 p1 0 1073741824 = true) (hp : ¬ p0 < 1) (hr : spanB r0 r1 0 1000000 = true) (hm : spanB m0 m1 0 1000 = true) (hs : inB sp 0 65535 = true) (f0 : (s0 == 0) = true) (f1 : (s1 == 0) = true) (f2 : (s2 == 0) = true) (f3 : (s3 == 0) = true) (f4 : (t0 == 0) = true) (f5 : (t1 == 0) = false) :
    Calls Try.prog 20 #[.agg #[.int .i64 2, .int .i64 p0, .int .i64 p1, .int .i64 s0, .int .i64 s1, .int .i64 s2, .int .i64 s3, .int .i64 sp, .int .i64 r0, .int .i64 r1, .int .i64 m0, .int .i64 m1, .int .i64 t0, .int .i64 t1]] w fun e w' => e = .returned (.int .i64 (3)) ∧ Below w.heap.size w w' := by
  go_enter Try.func20, Try.ntmps20
  go_wp2_with fail
  refine (Valid_any _ _ _ _ _).mono ?_; rintro e w1 ⟨rfl, hb1⟩
  obtain ⟨⟨c0, c1, c2, c3, c4, c5, c6, c7, c8, c9, c10, c11, c12, c13⟩, hz, hbw⟩ := (EcE.new w 2 p0 p1 s0 s1 s2 s3 sp r0 r1 m0 m1 t0 t1).keep hb1 (by simp)
  clear hb1
  go_wp2_with fail
  refine (Valid_any _ _ _ _ _).mono ?_; rintro e w2 ⟨rfl, hb2⟩
  have O2 := (⟨⟨c0, c1, c2, c3, c4, c5, c6, c7, c8, c9, c10, c11, c12, c13⟩, hz, hbw⟩ : EcE w w1 2 p0 p1 s0 s1 s2 s3 sp r0 r1 m0 m1 t0 t1).keep hb2 hz
  clear c0 c1 c2 c3 c4 c5 c6 c7 c8 c9 c10 c11 c12 c13 hz hbw hb2
  obtain ⟨⟨c0, c1, c2, c3, c4, c5, c6, c7, c8, c9, c10, c11, c12, c13⟩, hz, hbw⟩ := O2
  go_wp2_with fail
  refine (Valid_any _ _ _ _ _).mono ?_; rintro e w3 ⟨rfl, hb3⟩
  have O3 := (⟨⟨c0, c1, c2, c3, c4, c5, c6, c7, c8, c9, c10, c11, c12, c13⟩, hz, hbw⟩ : EcE w w2 2 p0 p1 s0 s1 s2 s3 sp r0 r1 m0 m1 t0 t1).keep hb3 hz
  clear c0 c1 c2 c3 c4 c5 c6 c7 c8 c9 c10 c11 c12 c13 hz hbw hb3
  obtain ⟨⟨c0, c1, c2, c3, c4, c5, c6, c7, c8, c9, c10, c11, c12, c13⟩, hz, hbw⟩ := O3
  go_wp2_with fail
  refine (refIn_any _ _ _ _).mono ?_; rintro e w' ⟨rfl, rfl⟩
  go_wp2
  go_ret
  exact ⟨rfl, (by repeat (first | exact hbw | (refine Below.alloc ?_ (by have := hbw.size; first | omega | (simp; omega)) _)))⟩

set_option maxRecDepth 100000 in
set_option maxHeartbeats 3200000 in
theorem ref_2_6 (p0 p1 s0 s1 s2 s3 sp r0 r1 m0 m1 t0 t1 : Int) (w : World) (h : spanB p0 p1 0 1073741824 = true) (hp : ¬ p0 < 1) (hr : spanB r0 r1 0 1000000 = true) (hm : spanB m0 m1 0 1000 = true) (hs : inB sp 0 65535 = true) (f0 : (s0 == 0) = true) (f1 : (s1 == 0) = true) (f2 : (s2 == 0) = true) (f3 : (s3 == 0) = true) (f4 : (t0 == 0) = true) (f5 : (t1 == 0) = true) :
    Calls Try.prog 20 #[.agg #[.int .i64 2, .int .i64 p0, .int .i64 p1, .int .i64 s0, .int .i64 s1, .int .i64 s2, .int .i64 s3, .int .i64 sp, .int .i64 r0, .int .i64 r1, .int .i64 m0, .int .i64 m1, .int .i64 t0, .int .i64 t1]] w fun e w' => e = .returned (.int .i64 (0)) ∧ Below w.heap.size w w' := by
  go_enter Try.func20, Try.ntmps20
  go_wp2_with fail
  refine (Valid_any _ _ _ _ _).mono ?_; rintro e w1 ⟨rfl, hb1⟩
  obtain ⟨⟨c0, c1, c2, c3, c4, c5, c6, c7, c8, c9, c10, c11, c12, c13⟩, hz, hbw⟩ := (EcE.new w 2 p0 p1 s0 s1 s2 s3 sp r0 r1 m0 m1 t0 t1).keep hb1 (by simp)
  clear hb1
  go_wp2_with fail
  refine (Valid_any _ _ _ _ _).mono ?_; rintro e w2 ⟨rfl, hb2⟩
  have O2 := (⟨⟨c0, c1, c2, c3, c4, c5, c6, c7, c8, c9, c10, c11, c12, c13⟩, hz, hbw⟩ : EcE w w1 2 p0 p1 s0 s1 s2 s3 sp r0 r1 m0 m1 t0 t1).keep hb2 hz
  clear c0 c1 c2 c3 c4 c5 c6 c7 c8 c9 c10 c11 c12 c13 hz hbw hb2
  obtain ⟨⟨c0, c1, c2, c3, c4, c5, c6, c7, c8, c9, c10, c11, c12, c13⟩, hz, hbw⟩ := O2
  go_wp2_with fail
  refine (Valid_any _ _ _ _ _).mono ?_; rintro e w3 ⟨rfl, hb3⟩
  have O3 := (⟨⟨c0, c1, c2, c3, c4, c5, c6, c7, c8, c9, c10, c11, c12, c13⟩, hz, hbw⟩ : EcE w w2 2 p0 p1 s0 s1 s2 s3 sp r0 r1 m0 m1 t0 t1).keep hb3 hz
  clear c0 c1 c2 c3 c4 c5 c6 c7 c8 c9 c10 c11 c12 c13 hz hbw hb3
  obtain ⟨⟨c0, c1, c2, c3, c4, c5, c6, c7, c8, c9, c10, c11, c12, c13⟩, hz, hbw⟩ := O3
  go_wp2_with fail
  refine (refIn_any _ _ _ _).mono ?_; rintro e w' ⟨rfl, rfl⟩
  go_wp2
  go_ret
  exact ⟨rfl, (by repeat (first | exact hbw | (refine Below.alloc ?_ (by have := hbw.size; first | omega | (simp; omega)) _)))⟩

set_option maxRecDepth 100000 in
set_option maxHeartbeats 3200000 in
theorem ref_3_0 (p0 p1 s0 s1 s2 s3 sp r0 r1 m0 m1 t0 t1 : Int) (w : World) (h : spanB p0 p1 0 1073741824 = true) (hp : ¬ p0 < 1) (hr : spanB r0 r1 0 1000000 = true) (hm : spanB m0 m1 0 1000 = true) (hs : inB sp 0 65535 = true) (ta : turnB s0 s1 = false) :
    Calls Try.prog 20 #[.agg #[.int .i64 3, .int .i64 p0, .int .i64 p1, .int .i64 s0, .int .i64 s1, .int .i64 s2, .int .i64 s3, .int .i64 sp, .int .i64 r0, .int .i64 r1, .int .i64 m0, .int .i64 m1, .int .i64 t0, .int .i64 t1]] w fun e w' => e = .returned (.int .i64 (3)) ∧ Below w.heap.size w w' := by
  go_enter Try.func20, Try.ntmps20
  go_wp2_with fail
  refine (Valid_any _ _ _ _ _).mono ?_; rintro e w1 ⟨rfl, hb1⟩
  obtain ⟨⟨c0, c1, c2, c3, c4, c5, c6, c7, c8, c9, c10, c11, c12, c13⟩, hz, hbw⟩ := (EcE.new w 3 p0 p1 s0 s1 s2 s3 sp r0 r1 m0 m1 t0 t1).keep hb1 (by simp)
  clear hb1
  go_wp2_with fail
  refine (Valid_any _ _ _ _ _).mono ?_; rintro e w2 ⟨rfl, hb2⟩
  have O2 := (⟨⟨c0, c1, c2, c3, c4, c5, c6, c7, c8, c9, c10, c11, c12, c13⟩, hz, hbw⟩ : EcE w w1 3 p0 p1 s0 s1 s2 s3 sp r0 r1 m0 m1 t0 t1).keep hb2 hz
  clear c0 c1 c2 c3 c4 c5 c6 c7 c8 c9 c10 c11 c12 c13 hz hbw hb2
  obtain ⟨⟨c0, c1, c2, c3, c4, c5, c6, c7, c8, c9, c10, c11, c12, c13⟩, hz, hbw⟩ := O2
  go_wp2_with fail
  refine (Valid_any _ _ _ _ _).mono ?_; rintro e w3 ⟨rfl, hb3⟩
  have O3 := (⟨⟨c0, c1, c2, c3, c4, c5, c6, c7, c8, c9, c10, c11, c12, c13⟩, hz, hbw⟩ : EcE w w2 3 p0 p1 s0 s1 s2 s3 sp r0 r1 m0 m1 t0 t1).keep hb3 hz
  clear c0 c1 c2 c3 c4 c5 c6 c7 c8 c9 c10 c11 c12 c13 hz hbw hb3
  obtain ⟨⟨c0, c1, c2, c3, c4, c5, c6, c7, c8, c9, c10, c11, c12, c13⟩, hz, hbw⟩ := O3
  go_wp2_with fail
  refine (refIn_any _ _ _ _).mono ?_; rintro e w' ⟨rfl, rfl⟩
  go_wp2_with fail
  refine (refturns_any _ _ _).mono ?_; rintro e w4 ⟨rfl, hb4⟩
  have O4 := (⟨⟨c0, c1, c2, c3, c4, c5, c6, c7, c8, c9, c10, c11, c12, c13⟩, hz, hbw⟩ : EcE w w3 3 p0 p1 s0 s1 s2 s3 sp r0 r1 m0 m1 t0 t1).keep hb4 hz
  clear c0 c1 c2 c3 c4 c5 c6 c7 c8 c9 c10 c11 c12 c13 hz hbw hb4
  obtain ⟨⟨c0, c1, c2, c3, c4, c5, c6, c7, c8, c9, c10, c11, c12, c13⟩, hz, hbw⟩ := O4
  go_wp2
  go_ret
  exact ⟨rfl, hbw⟩

set_option maxRecDepth 100000 in
set_option maxHeartbeats 3200000 in
theorem ref_3_1 (p0 p1 s0 s1 s2 s3 sp r0 r1 m0 m1 t0 t1 : Int) (w : World) (h : spanB p0 p1 0 1073741824 = true) (hp : ¬ p0 < 1) (hr : spanB r0 r1 0 1000000 = true) (hm : spanB m0 m1 0 1000 = true) (hs : inB sp 0 65535 = true) (ta : turnB s0 s1 = true) (tb : turnB s2 s3 = false) :
    Calls Try.prog 20 #[.agg #[.int .i64 3, .int .i64 p0, .int .i64 p1, .int .i64 s0, .int .i64 s1, .int .i64 s2, .int .i64 s3, .int .i64 sp, .int .i64 r0, .int .i64 r1, .int .i64 m0, .int .i64 m1, .int .i64 t0, .int .i64 t1]] w fun e w' => e = .returned (.int .i64 (3)) ∧ Below w.heap.size w w' := by
  go_enter Try.func20, Try.ntmps20
  go_wp2_with fail
  refine (Valid_any _ _ _ _ _).mono ?_; rintro e w1 ⟨rfl, hb1⟩
  obtain ⟨⟨c0, c1, c2, c3, c4, c5, c6, c7, c8, c9, c10, c11, c12, c13⟩, hz, hbw⟩ := (EcE.new w 3 p0 p1 s0 s1 s2 s3 sp r0 r1 m0 m1 t0 t1).keep hb1 (by simp)
  clear hb1
  go_wp2_with fail
  refine (Valid_any _ _ _ _ _).mono ?_; rintro e w2 ⟨rfl, hb2⟩
  have O2 := (⟨⟨c0, c1, c2, c3, c4, c5, c6, c7, c8, c9, c10, c11, c12, c13⟩, hz, hbw⟩ : EcE w w1 3 p0 p1 s0 s1 s2 s3 sp r0 r1 m0 m1 t0 t1).keep hb2 hz
  clear c0 c1 c2 c3 c4 c5 c6 c7 c8 c9 c10 c11 c12 c13 hz hbw hb2
  obtain ⟨⟨c0, c1, c2, c3, c4, c5, c6, c7, c8, c9, c10, c11, c12, c13⟩, hz, hbw⟩ := O2
  go_wp2_with fail
  refine (Valid_any _ _ _ _ _).mono ?_; rintro e w3 ⟨rfl, hb3⟩
  have O3 := (⟨⟨c0, c1, c2, c3, c4, c5, c6, c7, c8, c9, c10, c11, c12, c13⟩, hz, hbw⟩ : EcE w w2 3 p0 p1 s0 s1 s2 s3 sp r0 r1 m0 m1 t0 t1).keep hb3 hz
  clear c0 c1 c2 c3 c4 c5 c6 c7 c8 c9 c10 c11 c12 c13 hz hbw hb3
  obtain ⟨⟨c0, c1, c2, c3, c4, c5, c6, c7, c8, c9, c10, c11, c12, c13⟩, hz, hbw⟩ := O3
  go_wp2_with fail
  refine (refIn_any _ _ _ _).mono ?_; rintro e w' ⟨rfl, rfl⟩
  go_wp2_with fail
  refine (refturns_any _ _ _).mono ?_; rintro e w4 ⟨rfl, hb4⟩
  have O4 := (⟨⟨c0, c1, c2, c3, c4, c5, c6, c7, c8, c9, c10, c11, c12, c13⟩, hz, hbw⟩ : EcE w w3 3 p0 p1 s0 s1 s2 s3 sp r0 r1 m0 m1 t0 t1).keep hb4 hz
  clear c0 c1 c2 c3 c4 c5 c6 c7 c8 c9 c10 c11 c12 c13 hz hbw hb4
  obtain ⟨⟨c0, c1, c2, c3, c4, c5, c6, c7, c8, c9, c10, c11, c12, c13⟩, hz, hbw⟩ := O4
  go_wp2_with fail
  refine (refturns_any _ _ _).mono ?_; rintro e w5 ⟨rfl, hb5⟩
  have O5 := (⟨⟨c0, c1, c2, c3, c4, c5, c6, c7, c8, c9, c10, c11, c12, c13⟩, hz, hbw⟩ : EcE w w4 3 p0 p1 s0 s1 s2 s3 sp r0 r1 m0 m1 t0 t1).keep hb5 hz
  clear c0 c1 c2 c3 c4 c5 c6 c7 c8 c9 c10 c11 c12 c13 hz hbw hb5
  obtain ⟨⟨c0, c1, c2, c3, c4, c5, c6, c7, c8, c9, c10, c11, c12, c13⟩, hz, hbw⟩ := O5
  go_wp2
  go_ret
  exact ⟨rfl, hbw⟩

set_option maxRecDepth 100000 in
set_option maxHeartbeats 3200000 in
theorem ref_3_2 (p0 p1 s0 s1 s2 s3 sp r0 r1 m0 m1 t0 t1 : Int) (w : World) (h : spanB p0 p1 0 1073741824 = true) (hp : ¬ p0 < 1) (hr : spanB r0 r1 0 1000000 = true) (hm : spanB m0 m1 0 1000 = true) (hs : inB sp 0 65535 = true) (ta : turnB s0 s1 = true) (tb : turnB s2 s3 = true) (tc : turnB t0 t1 = false) :
    Calls Try.prog 20 #[.agg #[.int .i64 3, .int .i64 p0, .int .i64 p1, .int .i64 s0, .int .i64 s1, .int .i64 s2, .int .i64 s3, .int .i64 sp, .int .i64 r0, .int .i64 r1, .int .i64 m0, .int .i64 m1, .int .i64 t0, .int .i64 t1]] w fun e w' => e = .returned (.int .i64 (3)) ∧ Below w.heap.size w w' := by
  go_enter Try.func20, Try.ntmps20
  go_wp2_with fail
  refine (Valid_any _ _ _ _ _).mono ?_; rintro e w1 ⟨rfl, hb1⟩
  obtain ⟨⟨c0, c1, c2, c3, c4, c5, c6, c7, c8, c9, c10, c11, c12, c13⟩, hz, hbw⟩ := (EcE.new w 3 p0 p1 s0 s1 s2 s3 sp r0 r1 m0 m1 t0 t1).keep hb1 (by simp)
  clear hb1
  go_wp2_with fail
  refine (Valid_any _ _ _ _ _).mono ?_; rintro e w2 ⟨rfl, hb2⟩
  have O2 := (⟨⟨c0, c1, c2, c3, c4, c5, c6, c7, c8, c9, c10, c11, c12, c13⟩, hz, hbw⟩ : EcE w w1 3 p0 p1 s0 s1 s2 s3 sp r0 r1 m0 m1 t0 t1).keep hb2 hz
  clear c0 c1 c2 c3 c4 c5 c6 c7 c8 c9 c10 c11 c12 c13 hz hbw hb2
  obtain ⟨⟨c0, c1, c2, c3, c4, c5, c6, c7, c8, c9, c10, c11, c12, c13⟩, hz, hbw⟩ := O2
  go_wp2_with fail
  refine (Valid_any _ _ _ _ _).mono ?_; rintro e w3 ⟨rfl, hb3⟩
  have O3 := (⟨⟨c0, c1, c2, c3, c4, c5, c6, c7, c8, c9, c10, c11, c12, c13⟩, hz, hbw⟩ : EcE w w2 3 p0 p1 s0 s1 s2 s3 sp r0 r1 m0 m1 t0 t1).keep hb3 hz
  clear c0 c1 c2 c3 c4 c5 c6 c7 c8 c9 c10 c11 c12 c13 hz hbw hb3
  obtain ⟨⟨c0, c1, c2, c3, c4, c5, c6, c7, c8, c9, c10, c11, c12, c13⟩, hz, hbw⟩ := O3
  go_wp2_with fail
  refine (refIn_any _ _ _ _).mono ?_; rintro e w' ⟨rfl, rfl⟩
  go_wp2_with fail
  refine (refturns_any _ _ _).mono ?_; rintro e w4 ⟨rfl, hb4⟩
  have O4 := (⟨⟨c0, c1, c2, c3, c4, c5, c6, c7, c8, c9, c10, c11, c12, c13⟩, hz, hbw⟩ : EcE w w3 3 p0 p1 s0 s1 s2 s3 sp r0 r1 m0 m1 t0 t1).keep hb4 hz
  clear c0 c1 c2 c3 c4 c5 c6 c7 c8 c9 c10 c11 c12 c13 hz hbw hb4
  obtain ⟨⟨c0, c1, c2, c3, c4, c5, c6, c7, c8, c9, c10, c11, c12, c13⟩, hz, hbw⟩ := O4
  go_wp2_with fail
  refine (refturns_any _ _ _).mono ?_; rintro e w5 ⟨rfl, hb5⟩
  have O5 := (⟨⟨c0, c1, c2, c3, c4, c5, c6, c7, c8, c9, c10, c11, c12, c13⟩, hz, hbw⟩ : EcE w w4 3 p0 p1 s0 s1 s2 s3 sp r0 r1 m0 m1 t0 t1).keep hb5 hz
  clear c0 c1 c2 c3 c4 c5 c6 c7 c8 c9 c10 c11 c12 c13 hz hbw hb5
  obtain ⟨⟨c0, c1, c2, c3, c4, c5, c6, c7, c8, c9, c10, c11, c12, c13⟩, hz, hbw⟩ := O5
  go_wp2_with fail
  refine (refturns_any _ _ _).mono ?_; rintro e w6 ⟨rfl, hb6⟩
  have O6 := (⟨⟨c0, c1, c2, c3, c4, c5, c6, c7, c8, c9, c10, c11, c12, c13⟩, hz, hbw⟩ : EcE w w5 3 p0 p1 s0 s1 s2 s3 sp r0 r1 m0 m1 t0 t1).keep hb6 hz
  clear c0 c1 c2 c3 c4 c5 c6 c7 c8 c9 c10 c11 c12 c13 hz hbw hb6
  obtain ⟨⟨c0, c1, c2, c3, c4, c5, c6, c7, c8, c9, c10, c11, c12, c13⟩, hz, hbw⟩ := O6
  go_wp2
  go_ret
  exact ⟨rfl, hbw⟩

set_option maxRecDepth 100000 in
set_option maxHeartbeats 3200000 in
theorem ref_3_3 (p0 p1 s0 s1 s2 s3 sp r0 r1 m0 m1 t0 t1 : Int) (w : World) (h : spanB p0 p1 0 1073741824 = true) (hp : ¬ p0 < 1) (hr : spanB r0 r1 0 1000000 = true) (hm : spanB m0 m1 0 1000 = true) (hs : inB sp 0 65535 = true) (ta : turnB s0 s1 = true) (tb : turnB s2 s3 = true) (tc : turnB t0 t1 = true) :
    Calls Try.prog 20 #[.agg #[.int .i64 3, .int .i64 p0, .int .i64 p1, .int .i64 s0, .int .i64 s1, .int .i64 s2, .int .i64 s3, .int .i64 sp, .int .i64 r0, .int .i64 r1, .int .i64 m0, .int .i64 m1, .int .i64 t0, .int .i64 t1]] w fun e w' => e = .returned (.int .i64 (0)) ∧ Below w.heap.size w w' := by
  go_enter Try.func20, Try.ntmps20
  go_wp2_with fail
  refine (Valid_any _ _ _ _ _).mono ?_; rintro e w1 ⟨rfl, hb1⟩
  obtain ⟨⟨c0, c1, c2, c3, c4, c5, c6, c7, c8, c9, c10, c11, c12, c13⟩, hz, hbw⟩ := (EcE.new w 3 p0 p1 s0 s1 s2 s3 sp r0 r1 m0 m1 t0 t1).keep hb1 (by simp)
  clear hb1
  go_wp2_with fail
  refine (Valid_any _ _ _ _ _).mono ?_; rintro e w2 ⟨rfl, hb2⟩
  have O2 := (⟨⟨c0, c1, c2, c3, c4, c5, c6, c7, c8, c9, c10, c11, c12, c13⟩, hz, hbw⟩ : EcE w w1 3 p0 p1 s0 s1 s2 s3 sp r0 r1 m0 m1 t0 t1).keep hb2 hz
  clear c0 c1 c2 c3 c4 c5 c6 c7 c8 c9 c10 c11 c12 c13 hz hbw hb2
  obtain ⟨⟨c0, c1, c2, c3, c4, c5, c6, c7, c8, c9, c10, c11, c12, c13⟩, hz, hbw⟩ := O2
  go_wp2_with fail
  refine (Valid_any _ _ _ _ _).mono ?_; rintro e w3 ⟨rfl, hb3⟩
  have O3 := (⟨⟨c0, c1, c2, c3, c4, c5, c6, c7, c8, c9, c10, c11, c12, c13⟩, hz, hbw⟩ : EcE w w2 3 p0 p1 s0 s1 s2 s3 sp r0 r1 m0 m1 t0 t1).keep hb3 hz
  clear c0 c1 c2 c3 c4 c5 c6 c7 c8 c9 c10 c11 c12 c13 hz hbw hb3
  obtain ⟨⟨c0, c1, c2, c3, c4, c5, c6, c7, c8, c9, c10, c11, c12, c13⟩, hz, hbw⟩ := O3
  go_wp2_with fail
  refine (refIn_any _ _ _ _).mono ?_; rintro e w' ⟨rfl, rfl⟩
  go_wp2_with fail
  refine (refturns_any _ _ _).mono ?_; rintro e w4 ⟨rfl, hb4⟩
  have O4 := (⟨⟨c0, c1, c2, c3, c4, c5, c6, c7, c8, c9, c10, c11, c12, c13⟩, hz, hbw⟩ : EcE w w3 3 p0 p1 s0 s1 s2 s3 sp r0 r1 m0 m1 t0 t1).keep hb4 hz
  clear c0 c1 c2 c3 c4 c5 c6 c7 c8 c9 c10 c11 c12 c13 hz hbw hb4
  obtain ⟨⟨c0, c1, c2, c3, c4, c5, c6, c7, c8, c9, c10, c11, c12, c13⟩, hz, hbw⟩ := O4
  go_wp2_with fail
  refine (refturns_any _ _ _).mono ?_; rintro e w5 ⟨rfl, hb5⟩
  have O5 := (⟨⟨c0, c1, c2, c3, c4, c5, c6, c7, c8, c9, c10, c11, c12, c13⟩, hz, hbw⟩ : EcE w w4 3 p0 p1 s0 s1 s2 s3 sp r0 r1 m0 m1 t0 t1).keep hb5 hz
  clear c0 c1 c2 c3 c4 c5 c6 c7 c8 c9 c10 c11 c12 c13 hz hbw hb5
  obtain ⟨⟨c0, c1, c2, c3, c4, c5, c6, c7, c8, c9, c10, c11, c12, c13⟩, hz, hbw⟩ := O5
  go_wp2_with fail
  refine (refturns_any _ _ _).mono ?_; rintro e w6 ⟨rfl, hb6⟩
  have O6 := (⟨⟨c0, c1, c2, c3, c4, c5, c6, c7, c8, c9, c10, c11, c12, c13⟩, hz, hbw⟩ : EcE w w5 3 p0 p1 s0 s1 s2 s3 sp r0 r1 m0 m1 t0 t1).keep hb6 hz
  clear c0 c1 c2 c3 c4 c5 c6 c7 c8 c9 c10 c11 c12 c13 hz hbw hb6
  obtain ⟨⟨c0, c1, c2, c3, c4, c5, c6, c7, c8, c9, c10, c11, c12, c13⟩, hz, hbw⟩ := O6
  go_wp2
  go_ret
  exact ⟨rfl, hbw⟩

set_option maxHeartbeats 1600000 in
theorem ref_0 (kd p0 p1 s0 s1 s2 s3 sp r0 r1 m0 m1 t0 t1 : Int) (w : World) (h1 : ¬ kd = 1) (h2 : ¬ kd = 2) (h3 : ¬ kd = 3) : Calls Try.prog 20 #[.agg #[.int .i64 kd, .int .i64 p0, .int .i64 p1, .int .i64 s0, .int .i64 s1, .int .i64 s2, .int .i64 s3, .int .i64 sp, .int .i64 r0, .int .i64 r1, .int .i64 m0, .int .i64 m1, .int .i64 t0, .int .i64 t1]] w fun e w' => e = .returned (.int .i64 (2)) ∧ Below w.heap.size w w' := by
  have e1 : (kd != 1) = true := bne_iff_ne.2 h1
  have e2 : (kd != 2) = true := bne_iff_ne.2 h2
  have e3 : (kd != 3) = true := bne_iff_ne.2 h3
  go_enter Try.func20, Try.ntmps20
  go_wp2
  go_ret
  exact ⟨rfl, below_alloc _ _⟩
theorem span_zero {p0 p1 : Int} (h : p0 = 0) : spanB p0 p1 0 1073741824 = spanB 0 p1 0 1073741824 := by rw [h]
theorem refCheckEcho_any (kd p0 p1 s0 s1 s2 s3 sp r0 r1 m0 m1 t0 t1 : Int) (w : World) : Calls Try.prog 20 #[.agg #[.int .i64 kd, .int .i64 p0, .int .i64 p1, .int .i64 s0, .int .i64 s1, .int .i64 s2, .int .i64 s3, .int .i64 sp, .int .i64 r0, .int .i64 r1, .int .i64 m0, .int .i64 m1, .int .i64 t0, .int .i64 t1]] w fun e w' => e = .returned (.int .i64 (echoC kd p0 p1 s0 s1 s2 s3 sp r0 r1 m0 m1 t0 t1)) ∧ Below w.heap.size w w' := by
  by_cases h1 : kd = 1
  · subst h1
    have e : echoC 1 p0 p1 s0 s1 s2 s3 sp r0 r1 m0 m1 t0 t1 = if quietB 1 p0 p1 s0 s1 s2 s3 sp r0 r1 m0 m1 t0 t1 = true then 0 else 3 := rfl
    rw [e]
    rcases (Bool.eq_false_or_eq_true (spanB p0 p1 0 1073741824)).symm with h | h
    · have hq : quietB 1 p0 p1 s0 s1 s2 s3 sp r0 r1 m0 m1 t0 t1 = false := by
        by_cases g : p0 = 0
        · unfold quietB; rw [← span_zero g, h]; rfl
        · unfold quietB; simp [g]
      rw [hq, if_neg (by decide)]; exact ref_1v p0 p1 s0 s1 s2 s3 sp r0 r1 m0 m1 t0 t1 w h
    · by_cases g0 : p0 = 0
      · by_cases g1 : s0 = 0
        · by_cases g2 : s1 = 0
          · by_cases g3 : s2 = 0
            · by_cases g4 : s3 = 0
              · by_cases g5 : sp = 0
                · by_cases g6 : r0 = 0
                  · by_cases g7 : r1 = 0
                    · by_cases g8 : m0 = 0
                      · by_cases g9 : m1 = 0
                        · by_cases g10 : t0 = 0
                          · by_cases g11 : t1 = 0
                            · have hq : quietB 1 p0 p1 s0 s1 s2 s3 sp r0 r1 m0 m1 t0 t1 = true := by unfold quietB; rw [← span_zero g0, h]; simp [g0, g1, g2, g3, g4, g5, g6, g7, g8, g9, g10, g11]
                              rw [hq, if_pos rfl]; exact ref_1_12 p0 p1 s0 s1 s2 s3 sp r0 r1 m0 m1 t0 t1 w h (beq_iff_eq.2 g0) (beq_iff_eq.2 g1) (beq_iff_eq.2 g2) (beq_iff_eq.2 g3) (beq_iff_eq.2 g4) (beq_iff_eq.2 g5) (beq_iff_eq.2 g6) (beq_iff_eq.2 g7) (beq_iff_eq.2 g8) (beq_iff_eq.2 g9) (beq_iff_eq.2 g10) (beq_iff_eq.2 g11)
                            · have hq : quietB 1 p0 p1 s0 s1 s2 s3 sp r0 r1 m0 m1 t0 t1 = false := by unfold quietB; simp [g11]
                              rw [hq, if_neg (by decide)]; exact ref_1_11 p0 p1 s0 s1 s2 s3 sp r0 r1 m0 m1 t0 t1 w h (beq_iff_eq.2 g0) (beq_iff_eq.2 g1) (beq_iff_eq.2 g2) (beq_iff_eq.2 g3) (beq_iff_eq.2 g4) (beq_iff_eq.2 g5) (beq_iff_eq.2 g6) (beq_iff_eq.2 g7) (beq_iff_eq.2 g8) (beq_iff_eq.2 g9) (beq_iff_eq.2 g10) (beq_eq_false_iff_ne.2 g11)
                          · have hq : quietB 1 p0 p1 s0 s1 s2 s3 sp r0 r1 m0 m1 t0 t1 = false := by unfold quietB; simp [g10]
                            rw [hq, if_neg (by decide)]; exact ref_1_10 p0 p1 s0 s1 s2 s3 sp r0 r1 m0 m1 t0 t1 w h (beq_iff_eq.2 g0) (beq_iff_eq.2 g1) (beq_iff_eq.2 g2) (beq_iff_eq.2 g3) (beq_iff_eq.2 g4) (beq_iff_eq.2 g5) (beq_iff_eq.2 g6) (beq_iff_eq.2 g7) (beq_iff_eq.2 g8) (beq_iff_eq.2 g9) (beq_eq_false_iff_ne.2 g10)
                        · have hq : quietB 1 p0 p1 s0 s1 s2 s3 sp r0 r1 m0 m1 t0 t1 = false := by unfold quietB; simp [g9]
                          rw [hq, if_neg (by decide)]; exact ref_1_9 p0 p1 s0 s1 s2 s3 sp r0 r1 m0 m1 t0 t1 w h (beq_iff_eq.2 g0) (beq_iff_eq.2 g1) (beq_iff_eq.2 g2) (beq_iff_eq.2 g3) (beq_iff_eq.2 g4) (beq_iff_eq.2 g5) (beq_iff_eq.2 g6) (beq_iff_eq.2 g7) (beq_iff_eq.2 g8) (beq_eq_false_iff_ne.2 g9)
                      · have hq : quietB 1 p0 p1 s0 s1 s2 s3 sp r0 r1 m0 m1 t0 t1 = false := by unfold quietB; simp [g8]
                        rw [hq, if_neg (by decide)]; exact ref_1_8 p0 p1 s0 s1 s2 s3 sp r0 r1 m0 m1 t0 t1 w h (beq_iff_eq.2 g0) (beq_iff_eq.2 g1) (beq_iff_eq.2 g2) (beq_iff_eq.2 g3) (beq_iff_eq.2 g4) (beq_iff_eq.2 g5) (beq_iff_eq.2 g6) (beq_iff_eq.2 g7) (beq_eq_false_iff_ne.2 g8)
                    · have hq : quietB 1 p0 p1 s0 s1 s2 s3 sp r0 r1 m0 m1 t0 t1 = false := by unfold quietB; simp [g7]
                      rw [hq, if_neg (by decide)]; exact ref_1_7 p0 p1 s0 s1 s2 s3 sp r0 r1 m0 m1 t0 t1 w h (beq_iff_eq.2 g0) (beq_iff_eq.2 g1) (beq_iff_eq.2 g2) (beq_iff_eq.2 g3) (beq_iff_eq.2 g4) (beq_iff_eq.2 g5) (beq_iff_eq.2 g6) (beq_eq_false_iff_ne.2 g7)
                  · have hq : quietB 1 p0 p1 s0 s1 s2 s3 sp r0 r1 m0 m1 t0 t1 = false := by unfold quietB; simp [g6]
                    rw [hq, if_neg (by decide)]; exact ref_1_6 p0 p1 s0 s1 s2 s3 sp r0 r1 m0 m1 t0 t1 w h (beq_iff_eq.2 g0) (beq_iff_eq.2 g1) (beq_iff_eq.2 g2) (beq_iff_eq.2 g3) (beq_iff_eq.2 g4) (beq_iff_eq.2 g5) (beq_eq_false_iff_ne.2 g6)
                · have hq : quietB 1 p0 p1 s0 s1 s2 s3 sp r0 r1 m0 m1 t0 t1 = false := by unfold quietB; simp [g5]
                  rw [hq, if_neg (by decide)]; exact ref_1_5 p0 p1 s0 s1 s2 s3 sp r0 r1 m0 m1 t0 t1 w h (beq_iff_eq.2 g0) (beq_iff_eq.2 g1) (beq_iff_eq.2 g2) (beq_iff_eq.2 g3) (beq_iff_eq.2 g4) (beq_eq_false_iff_ne.2 g5)
              · have hq : quietB 1 p0 p1 s0 s1 s2 s3 sp r0 r1 m0 m1 t0 t1 = false := by unfold quietB; simp [g4]
                rw [hq, if_neg (by decide)]; exact ref_1_4 p0 p1 s0 s1 s2 s3 sp r0 r1 m0 m1 t0 t1 w h (beq_iff_eq.2 g0) (beq_iff_eq.2 g1) (beq_iff_eq.2 g2) (beq_iff_eq.2 g3) (beq_eq_false_iff_ne.2 g4)
            · have hq : quietB 1 p0 p1 s0 s1 s2 s3 sp r0 r1 m0 m1 t0 t1 = false := by unfold quietB; simp [g3]
              rw [hq, if_neg (by decide)]; exact ref_1_3 p0 p1 s0 s1 s2 s3 sp r0 r1 m0 m1 t0 t1 w h (beq_iff_eq.2 g0) (beq_iff_eq.2 g1) (beq_iff_eq.2 g2) (beq_eq_false_iff_ne.2 g3)
          · have hq : quietB 1 p0 p1 s0 s1 s2 s3 sp r0 r1 m0 m1 t0 t1 = false := by unfold quietB; simp [g2]
            rw [hq, if_neg (by decide)]; exact ref_1_2 p0 p1 s0 s1 s2 s3 sp r0 r1 m0 m1 t0 t1 w h (beq_iff_eq.2 g0) (beq_iff_eq.2 g1) (beq_eq_false_iff_ne.2 g2)
        · have hq : quietB 1 p0 p1 s0 s1 s2 s3 sp r0 r1 m0 m1 t0 t1 = false := by unfold quietB; simp [g1]
          rw [hq, if_neg (by decide)]; exact ref_1_1 p0 p1 s0 s1 s2 s3 sp r0 r1 m0 m1 t0 t1 w h (beq_iff_eq.2 g0) (beq_eq_false_iff_ne.2 g1)
      · have hq : quietB 1 p0 p1 s0 s1 s2 s3 sp r0 r1 m0 m1 t0 t1 = false := by unfold quietB; simp [g0]
        rw [hq, if_neg (by decide)]; exact ref_1_0 p0 p1 s0 s1 s2 s3 sp r0 r1 m0 m1 t0 t1 w h  (beq_eq_false_iff_ne.2 g0)
  by_cases h2 : kd = 2
  · subst h2
    have e : echoC 2 p0 p1 s0 s1 s2 s3 sp r0 r1 m0 m1 t0 t1 = if mixedB 2 p0 p1 s0 s1 s2 s3 sp r0 r1 m0 m1 t0 t1 = true then 0 else 3 := rfl
    rw [e]
    rcases (Bool.eq_false_or_eq_true (spanB p0 p1 0 1073741824)).symm with h | h
    · rw [if_neg (by unfold mixedB heardB; rw [h]; simp)]; exact ref_2v p0 p1 s0 s1 s2 s3 sp r0 r1 m0 m1 t0 t1 w h
    by_cases hp : p0 < 1
    · rw [if_neg (by unfold mixedB heardB; rw [show decide (0 < p0) = false from decide_eq_false (by omega)]; simp)]; exact ref_2h0 p0 p1 s0 s1 s2 s3 sp r0 r1 m0 m1 t0 t1 w h hp
    rcases (Bool.eq_false_or_eq_true (spanB r0 r1 0 1000000)).symm with hr | hr
    · rw [if_neg (by unfold mixedB heardB; rw [hr]; simp)]; exact ref_2h1 p0 p1 s0 s1 s2 s3 sp r0 r1 m0 m1 t0 t1 w h hp hr
    rcases (Bool.eq_false_or_eq_true (spanB m0 m1 0 1000)).symm with hm | hm
    · rw [if_neg (by unfold mixedB heardB; rw [hm]; simp)]; exact ref_2h2 p0 p1 s0 s1 s2 s3 sp r0 r1 m0 m1 t0 t1 w h hp hr hm
    rcases (Bool.eq_false_or_eq_true (inB sp 0 65535)).symm with hs | hs
    · rw [if_neg (by unfold mixedB heardB; rw [hs]; simp)]; exact ref_2h3 p0 p1 s0 s1 s2 s3 sp r0 r1 m0 m1 t0 t1 w h hp hr hm hs
    have hd : heardB p0 p1 sp r0 r1 m0 m1 = true := by unfold heardB; rw [h, hr, hm, hs, show decide (0 < p0) = true from decide_eq_true (by omega)]; rfl
    by_cases g0 : s0 = 0
    · by_cases g1 : s1 = 0
      · by_cases g2 : s2 = 0
        · by_cases g3 : s3 = 0
          · by_cases g4 : t0 = 0
            · by_cases g5 : t1 = 0
              · rw [if_pos (by unfold mixedB; rw [hd]; simp [g0, g1, g2, g3, g4, g5])]
                exact ref_2_6 p0 p1 s0 s1 s2 s3 sp r0 r1 m0 m1 t0 t1 w h hp hr hm hs (beq_iff_eq.2 g0) (beq_iff_eq.2 g1) (beq_iff_eq.2 g2) (beq_iff_eq.2 g3) (beq_iff_eq.2 g4) (beq_iff_eq.2 g5)
              · rw [if_neg (by unfold mixedB; rw [hd]; simp [g5])]
                exact ref_2_5 p0 p1 s0 s1 s2 s3 sp r0 r1 m0 m1 t0 t1 w h hp hr hm hs (beq_iff_eq.2 g0) (beq_iff_eq.2 g1) (beq_iff_eq.2 g2) (beq_iff_eq.2 g3) (beq_iff_eq.2 g4) (beq_eq_false_iff_ne.2 g5)
            · rw [if_neg (by unfold mixedB; rw [hd]; simp [g4])]
              exact ref_2_4 p0 p1 s0 s1 s2 s3 sp r0 r1 m0 m1 t0 t1 w h hp hr hm hs (beq_iff_eq.2 g0) (beq_iff_eq.2 g1) (beq_iff_eq.2 g2) (beq_iff_eq.2 g3) (beq_eq_false_iff_ne.2 g4)
          · rw [if_neg (by unfold mixedB; rw [hd]; simp [g3])]
            exact ref_2_3 p0 p1 s0 s1 s2 s3 sp r0 r1 m0 m1 t0 t1 w h hp hr hm hs (beq_iff_eq.2 g0) (beq_iff_eq.2 g1) (beq_iff_eq.2 g2) (beq_eq_false_iff_ne.2 g3)
        · rw [if_neg (by unfold mixedB; rw [hd]; simp [g2])]
          exact ref_2_2 p0 p1 s0 s1 s2 s3 sp r0 r1 m0 m1 t0 t1 w h hp hr hm hs (beq_iff_eq.2 g0) (beq_iff_eq.2 g1) (beq_eq_false_iff_ne.2 g2)
      · rw [if_neg (by unfold mixedB; rw [hd]; simp [g1])]
        exact ref_2_1 p0 p1 s0 s1 s2 s3 sp r0 r1 m0 m1 t0 t1 w h hp hr hm hs (beq_iff_eq.2 g0) (beq_eq_false_iff_ne.2 g1)
    · rw [if_neg (by unfold mixedB; rw [hd]; simp [g0])]
      exact ref_2_0 p0 p1 s0 s1 s2 s3 sp r0 r1 m0 m1 t0 t1 w h hp hr hm hs  (beq_eq_false_iff_ne.2 g0)
  by_cases h3 : kd = 3
  · subst h3
    have e : echoC 3 p0 p1 s0 s1 s2 s3 sp r0 r1 m0 m1 t0 t1 = if clearB 3 p0 p1 s0 s1 s2 s3 sp r0 r1 m0 m1 t0 t1 = true then 0 else 3 := rfl
    rw [e]
    rcases (Bool.eq_false_or_eq_true (spanB p0 p1 0 1073741824)).symm with h | h
    · rw [if_neg (by unfold clearB heardB; rw [h]; simp)]; exact ref_3v p0 p1 s0 s1 s2 s3 sp r0 r1 m0 m1 t0 t1 w h
    by_cases hp : p0 < 1
    · rw [if_neg (by unfold clearB heardB; rw [show decide (0 < p0) = false from decide_eq_false (by omega)]; simp)]; exact ref_3h0 p0 p1 s0 s1 s2 s3 sp r0 r1 m0 m1 t0 t1 w h hp
    rcases (Bool.eq_false_or_eq_true (spanB r0 r1 0 1000000)).symm with hr | hr
    · rw [if_neg (by unfold clearB heardB; rw [hr]; simp)]; exact ref_3h1 p0 p1 s0 s1 s2 s3 sp r0 r1 m0 m1 t0 t1 w h hp hr
    rcases (Bool.eq_false_or_eq_true (spanB m0 m1 0 1000)).symm with hm | hm
    · rw [if_neg (by unfold clearB heardB; rw [hm]; simp)]; exact ref_3h2 p0 p1 s0 s1 s2 s3 sp r0 r1 m0 m1 t0 t1 w h hp hr hm
    rcases (Bool.eq_false_or_eq_true (inB sp 0 65535)).symm with hs | hs
    · rw [if_neg (by unfold clearB heardB; rw [hs]; simp)]; exact ref_3h3 p0 p1 s0 s1 s2 s3 sp r0 r1 m0 m1 t0 t1 w h hp hr hm hs
    have hd : heardB p0 p1 sp r0 r1 m0 m1 = true := by unfold heardB; rw [h, hr, hm, hs, show decide (0 < p0) = true from decide_eq_true (by omega)]; rfl
    rcases (Bool.eq_false_or_eq_true (turnB s0 s1)).symm with ta | ta
    · rw [if_neg (by unfold clearB; rw [ta]; simp)]
      exact ref_3_0 p0 p1 s0 s1 s2 s3 sp r0 r1 m0 m1 t0 t1 w h hp hr hm hs ta
    · rcases (Bool.eq_false_or_eq_true (turnB s2 s3)).symm with tb | tb
      · rw [if_neg (by unfold clearB; rw [tb]; simp)]
        exact ref_3_1 p0 p1 s0 s1 s2 s3 sp r0 r1 m0 m1 t0 t1 w h hp hr hm hs ta tb
      · rcases (Bool.eq_false_or_eq_true (turnB t0 t1)).symm with tc | tc
        · rw [if_neg (by unfold clearB; rw [tc]; simp)]
          exact ref_3_2 p0 p1 s0 s1 s2 s3 sp r0 r1 m0 m1 t0 t1 w h hp hr hm hs ta tb tc
        · rw [if_pos (by unfold clearB; rw [hd, ta, tb, tc]; rfl)]
          exact ref_3_3 p0 p1 s0 s1 s2 s3 sp r0 r1 m0 m1 t0 t1 w h hp hr hm hs ta tb tc
  rw [show echoC kd p0 p1 s0 s1 s2 s3 sp r0 r1 m0 m1 t0 t1 = 2 by unfold echoC; rw [if_neg h1, if_neg h2, if_neg h3]]
  exact ref_0 kd p0 p1 s0 s1 s2 s3 sp r0 r1 m0 m1 t0 t1 w h1 h2 h3

end Go.Proofs.Ytmojnopgpgnfeaa
