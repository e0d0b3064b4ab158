/-
  Pairs of spans compared.
-/
import Derived.Laws.StructEq
import Derived.Laws.Tables
import Derived.Laws.Cover2
import Derived.KernelRfl
import Derived.Test.Ytmojnopgpgnfeaamg12
namespace Go.Proofs.Ytmojnopgpgnfeaa
open Go.RowKit
set_option linter.unusedVariables false

set_option maxHeartbeats 800000 in
theorem eq28 (a b c e a' b' c' e' : Int) (w : World) : (Op.equalIn 9999 28 (.agg #[.int .i64 a, .int .i64 b, .int .i64 c, .int .i64 e]) (.agg #[.int .i64 a', .int .i64 b', .int .i64 c', .int .i64 e'])).run Try.prog w = .ok (a == a' && b == b' && c == c' && e == e') w := by
  have u3 := Try.underlying3
  have a3 := Try.isAgg3
  have z3 := Try.sizeOf3
  have u25 := Try.underlying25
  have a25 := Try.isAgg25
  have z25 := Try.sizeOf25
  rw [show (9999 : Nat) = 9998 + 1 from rfl, Op.equalIn]
  simp only [Sem.run_bind, run_underlying Try.underlying28, Result.andThen_ok]
  simp only [Std.Legacy.Range.forIn_eq_forIn_range', Std.Legacy.Range.size, Nat.sub_zero, Nat.add_sub_cancel, Nat.div_one, List.range'_succ, List.range'_zero, List.forIn_cons, List.forIn_nil]
  go_simp
  by_cases h1 : a = a' <;> by_cases h2 : b = b' <;> by_cases h3 : c = c' <;> by_cases h4 : e = e' <;> simp [h1, h2, h3, h4]

end Go.Proofs.Ytmojnopgpgnfeaa

namespace Go.Proofs.Ytmojnopgpgnfeaa
open Go.RowKit
set_option linter.unusedVariables false

/-- nothing is said of an echo but how strong it can be -/
def quietB (kd p0 p1 s0 s1 s2 s3 sp r0 r1 m0 m1 t0 t1 : Int) : Bool := spanB 0 p1 0 1073741824 && decide (kd = 1 ∧ p0 = 0 ∧ s0 = 0 ∧ s1 = 0 ∧ s2 = 0 ∧ s3 = 0 ∧ sp = 0 ∧ r0 = 0 ∧ r1 = 0 ∧ m0 = 0 ∧ m1 = 0 ∧ t0 = 0 ∧ t1 = 0)

set_option maxRecDepth 100000 in
set_option maxHeartbeats 3200000 in
theorem isQuiet_no (kd p0 p1 s0 s1 s2 s3 sp r0 r1 m0 m1 t0 t1 : Int) (w : World) (a : spanB 0 p1 0 1073741824 = false) :
    Calls Try.prog 51 #[.agg #[.int .i64 kd, .int .i64 p0, .int .i64 p1, .int .i64 s0, .int .i64 s1, .int .i64 s2, .int .i64 s3, .int .i64 sp, .int .i64 r0, .int .i64 r1, .int .i64 m0, .int .i64 m1, .int .i64 t0, .int .i64 t1]] w fun e w' => e = .returned (.bool (false)) ∧ Below w.heap.size w w' := by
  go_enter Try.func51, Try.ntmps51
  go_wp2_with fail
  refine (isPower_any _ _ _).mono ?_; rintro e w1 ⟨rfl, hb1⟩
  have E1 := ((EcE.new w kd p0 p1 s0 s1 s2 s3 sp r0 r1 m0 m1 t0 t1).keep (below_alloc _ (.cells #[.int .i64 0, .int .i64 p1] 25)) (by simp)).keep hb1 (by simp; omega)
  obtain ⟨⟨c0, c1, c2, c3, c4, c5, c6, c7, c8, c9, c10, c11, c12, c13⟩, hz, hbw⟩ := E1
  have L1 := PairAt.keep (PairAt.new (w.alloc (.cells #[.int .i64 kd, .int .i64 p0, .int .i64 p1, .int .i64 s0, .int .i64 s1, .int .i64 s2, .int .i64 s3, .int .i64 sp, .int .i64 r0, .int .i64 r1, .int .i64 m0, .int .i64 m1, .int .i64 t0, .int .i64 t1] 30)) (.int .i64 0) (.int .i64 p1) 25) hb1 (by simp)
  simp only [World.size_alloc] at L1
  obtain ⟨l0, l1⟩ := L1
  have hz2 : w.heap.size + 1 < w1.heap.size := by have := hb1.size; simp at this; omega
  clear hb1
  go_wp2
  go_ret
  exact ⟨rfl, hbw⟩

set_option maxRecDepth 100000 in
set_option maxHeartbeats 3200000 in
theorem isQuiet_yes (kd p0 p1 s0 s1 s2 s3 sp r0 r1 m0 m1 t0 t1 : Int) (w : World) (a : spanB 0 p1 0 1073741824 = true) (f0 : (kd == 1) = true) (f1 : (p0 == 0) = true) (f2 : (s0 == 0) = true) (f3 : (s1 == 0) = true) (f4 : (s2 == 0) = true) (f5 : (s3 == 0) = true) (f6 : (sp == 0) = true) (f7 : (r0 == 0) = true) (f8 : (r1 == 0) = true) (f9 : (m0 == 0) = true) (f10 : (m1 == 0) = true) (f11 : (t0 == 0) = true) (f12 : (t1 == 0) = true) :
    Calls Try.prog 51 #[.agg #[.int .i64 kd, .int .i64 p0, .int .i64 p1, .int .i64 s0, .int .i64 s1, .int .i64 s2, .int .i64 s3, .int .i64 sp, .int .i64 r0, .int .i64 r1, .int .i64 m0, .int .i64 m1, .int .i64 t0, .int .i64 t1]] w fun e w' => e = .returned (.bool (true)) ∧ Below w.heap.size w w' := by
  have e28 := fun w : World => eq28 s0 s1 s2 s3 0 0 0 0 w
  go_enter Try.func51, Try.ntmps51
  go_wp2_with fail
  refine (isPower_any _ _ _).mono ?_; rintro e w1 ⟨rfl, hb1⟩
  have E1 := ((EcE.new w kd p0 p1 s0 s1 s2 s3 sp r0 r1 m0 m1 t0 t1).keep (below_alloc _ (.cells #[.int .i64 0, .int .i64 p1] 25)) (by simp)).keep hb1 (by simp; omega)
  obtain ⟨⟨c0, c1, c2, c3, c4, c5, c6, c7, c8, c9, c10, c11, c12, c13⟩, hz, hbw⟩ := E1
  have L1 := PairAt.keep (PairAt.new (w.alloc (.cells #[.int .i64 kd, .int .i64 p0, .int .i64 p1, .int .i64 s0, .int .i64 s1, .int .i64 s2, .int .i64 s3, .int .i64 sp, .int .i64 r0, .int .i64 r1, .int .i64 m0, .int .i64 m1, .int .i64 t0, .int .i64 t1] 30)) (.int .i64 0) (.int .i64 p1) 25) hb1 (by simp)
  simp only [World.size_alloc] at L1
  obtain ⟨l0, l1⟩ := L1
  have hz2 : w.heap.size + 1 < w1.heap.size := by have := hb1.size; simp at this; omega
  clear hb1
  go_wp2
  go_ret
  exact ⟨rfl, hbw⟩

set_option maxRecDepth 100000 in
set_option maxHeartbeats 3200000 in
theorem isQuiet_f0 (kd p0 p1 s0 s1 s2 s3 sp r0 r1 m0 m1 t0 t1 : Int) (w : World) (a : spanB 0 p1 0 1073741824 = true) (f0 : (kd == 1) = false) :
    Calls Try.prog 51 #[.agg #[.int .i64 kd, .int .i64 p0, .int .i64 p1, .int .i64 s0, .int .i64 s1, .int .i64 s2, .int .i64 s3, .int .i64 sp, .int .i64 r0, .int .i64 r1, .int .i64 m0, .int .i64 m1, .int .i64 t0, .int .i64 t1]] w fun e w' => e = .returned (.bool (false)) ∧ Below w.heap.size w w' := by
  have e28 := fun w : World => eq28 s0 s1 s2 s3 0 0 0 0 w
  go_enter Try.func51, Try.ntmps51
  go_wp2_with fail
  refine (isPower_any _ _ _).mono ?_; rintro e w1 ⟨rfl, hb1⟩
  have E1 := ((EcE.new w kd p0 p1 s0 s1 s2 s3 sp r0 r1 m0 m1 t0 t1).keep (below_alloc _ (.cells #[.int .i64 0, .int .i64 p1] 25)) (by simp)).keep hb1 (by simp; omega)
  obtain ⟨⟨c0, c1, c2, c3, c4, c5, c6, c7, c8, c9, c10, c11, c12, c13⟩, hz, hbw⟩ := E1
  have L1 := PairAt.keep (PairAt.new (w.alloc (.cells #[.int .i64 kd, .int .i64 p0, .int .i64 p1, .int .i64 s0, .int .i64 s1, .int .i64 s2, .int .i64 s3, .int .i64 sp, .int .i64 r0, .int .i64 r1, .int .i64 m0, .int .i64 m1, .int .i64 t0, .int .i64 t1] 30)) (.int .i64 0) (.int .i64 p1) 25) hb1 (by simp)
  simp only [World.size_alloc] at L1
  obtain ⟨l0, l1⟩ := L1
  have hz2 : w.heap.size + 1 < w1.heap.size := by have := hb1.size; simp at this; omega
  clear hb1
  go_wp2
  go_ret
  exact ⟨rfl, hbw⟩

set_option maxRecDepth 100000 in
set_option maxHeartbeats 3200000 in
theorem isQuiet_f1 (kd p0 p1 s0 s1 s2 s3 sp r0 r1 m0 m1 t0 t1 : Int) (w : World) (a : spanB 0 p1 0 1073741824 = true) (f0 : (kd == 1) = true) (f1 : (p0 == 0) = false) :
    Calls Try.prog 51 #[.agg #[.int .i64 kd, .int .i64 p0, .int .i64 p1, .int .i64 s0, .int .i64 s1, .int .i64 s2, .int .i64 s3, .int .i64 sp, .int .i64 r0, .int .i64 r1, .int .i64 m0, .int .i64 m1, .int .i64 t0, .int .i64 t1]] w fun e w' => e = .returned (.bool (false)) ∧ Below w.heap.size w w' := by
  have e28 := fun w : World => eq28 s0 s1 s2 s3 0 0 0 0 w
  go_enter Try.func51, Try.ntmps51
  go_wp2_with fail
  refine (isPower_any _ _ _).mono ?_; rintro e w1 ⟨rfl, hb1⟩
  have E1 := ((EcE.new w kd p0 p1 s0 s1 s2 s3 sp r0 r1 m0 m1 t0 t1).keep (below_alloc _ (.cells #[.int .i64 0, .int .i64 p1] 25)) (by simp)).keep hb1 (by simp; omega)
  obtain ⟨⟨c0, c1, c2, c3, c4, c5, c6, c7, c8, c9, c10, c11, c12, c13⟩, hz, hbw⟩ := E1
  have L1 := PairAt.keep (PairAt.new (w.alloc (.cells #[.int .i64 kd, .int .i64 p0, .int .i64 p1, .int .i64 s0, .int .i64 s1, .int .i64 s2, .int .i64 s3, .int .i64 sp, .int .i64 r0, .int .i64 r1, .int .i64 m0, .int .i64 m1, .int .i64 t0, .int .i64 t1] 30)) (.int .i64 0) (.int .i64 p1) 25) hb1 (by simp)
  simp only [World.size_alloc] at L1
  obtain ⟨l0, l1⟩ := L1
  have hz2 : w.heap.size + 1 < w1.heap.size := by have := hb1.size; simp at this; omega
  clear hb1
  go_wp2
  go_ret
  exact ⟨rfl, hbw⟩

set_option maxRecDepth 100000 in
set_option maxHeartbeats 3200000 in
theorem isQuiet_f2 (kd p0 p1 s0 s1 s2 s3 sp r0 r1 m0 m1 t0 t1 : Int) (w : World) (a : spanB 0 p1 0 1073741824 = true) (f0 : (kd == 1) = true) (f1 : (p0 == 0) = true) (f2 : (s0 == 0) = false) :
    Calls Try.prog 51 #[.agg #[.int .i64 kd, .int .i64 p0, .int .i64 p1, .int .i64 s0, .int .i64 s1, .int .i64 s2, .int .i64 s3, .int .i64 sp, .int .i64 r0, .int .i64 r1, .int .i64 m0, .int .i64 m1, .int .i64 t0, .int .i64 t1]] w fun e w' => e = .returned (.bool (false)) ∧ Below w.heap.size w w' := by
  have e28 := fun w : World => eq28 s0 s1 s2 s3 0 0 0 0 w
  go_enter Try.func51, Try.ntmps51
  go_wp2_with fail
  refine (isPower_any _ _ _).mono ?_; rintro e w1 ⟨rfl, hb1⟩
  have E1 := ((EcE.new w kd p0 p1 s0 s1 s2 s3 sp r0 r1 m0 m1 t0 t1).keep (below_alloc _ (.cells #[.int .i64 0, .int .i64 p1] 25)) (by simp)).keep hb1 (by simp; omega)
  obtain ⟨⟨c0, c1, c2, c3, c4, c5, c6, c7, c8, c9, c10, c11, c12, c13⟩, hz, hbw⟩ := E1
  have L1 := PairAt.keep (PairAt.new (w.alloc (.cells #[.int .i64 kd, .int .i64 p0, .int .i64 p1, .int .i64 s0, .int .i64 s1, .int .i64 s2, .int .i64 s3, .int .i64 sp, .int .i64 r0, .int .i64 r1, .int .i64 m0, .int .i64 m1, .int .i64 t0, .int .i64 t1] 30)) (.int .i64 0) (.int .i64 p1) 25) hb1 (by simp)
  simp only [World.size_alloc] at L1
  obtain ⟨l0, l1⟩ := L1
  have hz2 : w.heap.size + 1 < w1.heap.size := by have := hb1.size; simp at this; omega
  clear hb1
  go_wp2
  go_ret
  exact ⟨rfl, hbw⟩

set_option maxRecDepth 100000 in
set_option maxHeartbeats 3200000 in
theorem isQuiet_f3 (kd p0 p1 s0 s1 s2 s3 sp r0 r1 m0 m1 t0 t1 : Int) (w : World) (a : spanB 0 p1 0 1073741824 = true) (f0 : (kd == 1) = true) (f1 : (p0 == 0) = true) (f2 : (s0 == 0) = true) (f3 : (s1 == 0) = false) :
    Calls Try.prog 51 #[.agg #[.int .i64 kd, .int .i64 p0, .int .i64 p1, .int .i64 s0, .int .i64 s1, .int .i64 s2, .int .i64 s3, .int .i64 sp, .int .i64 r0, .int .i64 r1, .int .i64 m0, .int .i64 m1, .int .i64 t0, .int .i64 t1]] w fun e w' => e = .returned (.bool (false)) ∧ Below w.heap.size w w' := by
  have e28 := fun w : World => eq28 s0 s1 s2 s3 0 0 0 0 w
  go_enter Try.func51, Try.ntmps51
  go_wp2_with fail
  refine (isPower_any _ _ _).mono ?_; rintro e w1 ⟨rfl, hb1⟩
  have E1 := ((EcE.new w kd p0 p1 s0 s1 s2 s3 sp r0 r1 m0 m1 t0 t1).keep (below_alloc _ (.cells #[.int .i64 0, .int .i64 p1] 25)) (by simp)).keep hb1 (by simp; omega)
  obtain ⟨⟨c0, c1, c2, c3, c4, c5, c6, c7, c8, c9, c10, c11, c12, c13⟩, hz, hbw⟩ := E1
  have L1 := PairAt.keep (PairAt.new (w.alloc (.cells #[.int .i64 kd, .int .i64 p0, .int .i64 p1, .int .i64 s0, .int .i64 s1, .int .i64 s2, .int .i64 s3, .int .i64 sp, .int .i64 r0, .int .i64 r1, .int .i64 m0, .int .i64 m1, .int .i64 t0, .int .i64 t1] 30)) (.int .i64 0) (.int .i64 p1) 25) hb1 (by simp)
  simp only [World.size_alloc] at L1
  obtain ⟨l0, l1⟩ := L1
  have hz2 : w.heap.size + 1 < w1.heap.size := by have := hb1.size; simp at this; omega
  clear hb1
  go_wp2
  go_ret
  exact ⟨rfl, hbw⟩

set_option maxRecDepth 100000 in
set_option maxHeartbeats 3200000 in
theorem isQuiet_f4 (kd p0 p1 s0 s1 s2 s3 sp r0 r1 m0 m1 t0 t1 : Int) (w : World) (a : spanB 0 p1 0 1073741824 = true) (f0 : (kd == 1) = true) (f1 : (p0 == 0) = true) (f2 : (s0 == 0) = true) (f3 : (s1 == 0) = true) (f4 : (s2 == 0) = false) :
    Calls Try.prog 51 #[.agg #[.int .i64 kd, .int .i64 p0, .int .i64 p1, .int .i64 s0, .int .i64 s1, .int .i64 s2, .int .i64 s3, .int .i64 sp, .int .i64 r0, .int .i64 r1, .int .i64 m0, .int .i64 m1, .int .i64 t0, .int .i64 t1]] w fun e w' => e = .returned (.bool (false)) ∧ Below w.heap.size w w' := by
  have e28 := fun w : World => eq28 s0 s1 s2 s3 0 0 0 0 w
  go_enter Try.func51, Try.ntmps51
  go_wp2_with fail
  refine (isPower_any _ _ _).mono ?_; rintro e w1 ⟨rfl, hb1⟩
  have E1 := ((EcE.new w kd p0 p1 s0 s1 s2 s3 sp r0 r1 m0 m1 t0 t1).keep (below_alloc _ (.cells #[.int .i64 0, .int .i64 p1] 25)) (by simp)).keep hb1 (by simp; omega)
  obtain ⟨⟨c0, c1, c2, c3, c4, c5, c6, c7, c8, c9, c10, c11, c12, c13⟩, hz, hbw⟩ := E1
  have L1 := PairAt.keep (PairAt.new (w.alloc (.cells #[.int .i64 kd, .int .i64 p0, .int .i64 p1, .int .i64 s0, .int .i64 s1, .int .i64 s2, .int .i64 s3, .int .i64 sp, .int .i64 r0, .int .i64 r1, .int .i64 m0, .int .i64 m1, .int .i64 t0, .int .i64 t1] 30)) (.int .i64 0) (.int .i64 p1) 25) hb1 (by simp)
  simp only [World.size_alloc] at L1
  obtain ⟨l0, l1⟩ := L1
  have hz2 : w.heap.size + 1 < w1.heap.size := by have := hb1.size; simp at this; omega
  clear hb1
  go_wp2
  go_ret
  exact ⟨rfl, hbw⟩

set_option maxRecDepth 100000 in
set_option maxHeartbeats 3200000 in
theorem isQuiet_f5 (kd p0 p1 s0 s1 s2 s3 sp r0 r1 m0 m1 t0 t1 : Int) (w : World) (a : spanB 0 p1 0 1073741824 = true) (f0 : (kd == 1) = true) (f1 : (p0 == 0) = true) (f2 : (s0 == 0) = true) (f3 : (s1 == 0) = true) (f4 : (s2 == 0) = true) (f5 : (s3 == 0) = false) :
    Calls Try.prog 51 #[.agg #[.int .i64 kd, .int .i64 p0, .int .i64 p1, .int .i64 s0, .int .i64 s1, .int .i64 s2, .int .i64 s3, .int .i64 sp, .int .i64 r0, .int .i64 r1, .int .i64 m0, .int .i64 m1, .int .i64 t0, .int .i64 t1]] w fun e w' => e = .returned (.bool (false)) ∧ Below w.heap.size w w' := by
  have e28 := fun w : World => eq28 s0 s1 s2 s3 0 0 0 0 w
  go_enter Try.func51, Try.ntmps51
  go_wp2_with fail
  refine (isPower_any _ _ _).mono ?_; rintro e w1 ⟨rfl, hb1⟩
  have E1 := ((EcE.new w kd p0 p1 s0 s1 s2 s3 sp r0 r1 m0 m1 t0 t1).keep (below_alloc _ (.cells #[.int .i64 0, .int .i64 p1] 25)) (by simp)).keep hb1 (by simp; omega)
  obtain ⟨⟨c0, c1, c2, c3, c4, c5, c6, c7, c8, c9, c10, c11, c12, c13⟩, hz, hbw⟩ := E1
  have L1 := PairAt.keep (PairAt.new (w.alloc (.cells #[.int .i64 kd, .int .i64 p0, .int .i64 p1, .int .i64 s0, .int .i64 s1, .int .i64 s2, .int .i64 s3, .int .i64 sp, .int .i64 r0, .int .i64 r1, .int .i64 m0, .int .i64 m1, .int .i64 t0, .int .i64 t1] 30)) (.int .i64 0) (.int .i64 p1) 25) hb1 (by simp)
  simp only [World.size_alloc] at L1
  obtain ⟨l0, l1⟩ := L1
  have hz2 : w.heap.size + 1 < w1.heap.size := by have := hb1.size; simp at this; omega
  clear hb1
  go_wp2
  go_ret
  exact ⟨rfl, hbw⟩

set_option maxRecDepth 100000 in
set_option maxHeartbeats 3200000 in
theorem isQuiet_f6 (kd p0 p1 s0 s1 s2 s3 sp r0 r1 m0 m1 t0 t1 : Int) (w : World) (a : spanB 0 p1 0 1073741824 = true) (f0 : (kd == 1) = true) (f1 : (p0 == 0) = true) (f2 : (s0 == 0) = true) (f3 : (s1 == 0) = true) (f4 : (s2 == 0) = true) (f5 : (s3 == 0) = true) (f6 : (sp == 0) = false) :
    Calls Try.prog 51 #[.agg #[.int .i64 kd, .int .i64 p0, .int .i64 p1, .int .i64 s0, .int .i64 s1, .int .i64 s2, .int .i64 s3, .int .i64 sp, .int .i64 r0, .int .i64 r1, .int .i64 m0, .int .i64 m1, .int .i64 t0, .int .i64 t1]] w fun e w' => e = .returned (.bool (false)) ∧ Below w.heap.size w w' := by
  have e28 := fun w : World => eq28 s0 s1 s2 s3 0 0 0 0 w
  go_enter Try.func51, Try.ntmps51
  go_wp2_with fail
  refine (isPower_any _ _ _).mono ?_; rintro e w1 ⟨rfl, hb1⟩
  have E1 := ((EcE.new w kd p0 p1 s0 s1 s2 s3 sp r0 r1 m0 m1 t0 t1).keep (below_alloc _ (.cells #[.int .i64 0, .int .i64 p1] 25)) (by simp)).keep hb1 (by simp; omega)
  obtain ⟨⟨c0, c1, c2, c3, c4, c5, c6, c7, c8, c9, c10, c11, c12, c13⟩, hz, hbw⟩ := E1
  have L1 := PairAt.keep (PairAt.new (w.alloc (.cells #[.int .i64 kd, .int .i64 p0, .int .i64 p1, .int .i64 s0, .int .i64 s1, .int .i64 s2, .int .i64 s3, .int .i64 sp, .int .i64 r0, .int .i64 r1, .int .i64 m0, .int .i64 m1, .int .i64 t0, .int .i64 t1] 30)) (.int .i64 0) (.int .i64 p1) 25) hb1 (by simp)
  simp only [World.size_alloc] at L1
  obtain ⟨l0, l1⟩ := L1
  have hz2 : w.heap.size + 1 < w1.heap.size := by have := hb1.size; simp at this; omega
  clear hb1
  go_wp2
  go_ret
  exact ⟨rfl, hbw⟩

set_option maxRecDepth 100000 in
set_option maxHeartbeats 3200000 in
theorem isQuiet_f7 (kd p0 p1 s0 s1 s2 s3 sp r0 r1 m0 m1 t0 t1 : Int) (w : World) (a : spanB 0 p1 0 1073741824 = true) (f0 : (kd == 1) = true) (f1 : (p0 == 0) = true) (f2 : (s0 == 0) = true) (f3 : (s1 == 0) = true) (f4 : (s2 == 0) = true) (f5 : (s3 == 0) = true) (f6 : (sp == 0) = true) (f7 : (r0 == 0) = false) :
    Calls Try.prog 51 #[.agg #[.int .i64 kd, .int .i64 p0, .int .i64 p1, .int .i64 s0, .int .i64 s1, .int .i64 s2, .int .i64 s3, .int .i64 sp, .int .i64 r0, .int .i64 r1, .int .i64 m0, .int .i64 m1, .int .i64 t0, .int .i64 t1]] w fun e w' => e = .returned (.bool (false)) ∧ Below w.heap.size w w' := by
  have e28 := fun w : World => eq28 s0 s1 s2 s3 0 0 0 0 w
  go_enter Try.func51, Try.ntmps51
  go_wp2_with fail
  refine (isPower_any _ _ _).mono ?_; rintro e w1 ⟨rfl, hb1⟩
  have E1 := ((EcE.new w kd p0 p1 s0 s1 s2 s3 sp r0 r1 m0 m1 t0 t1).keep (below_alloc _ (.cells #[.int .i64 0, .int .i64 p1] 25)) (by simp)).keep hb1 (by simp; omega)
  obtain ⟨⟨c0, c1, c2, c3, c4, c5, c6, c7, c8, c9, c10, c11, c12, c13⟩, hz, hbw⟩ := E1
  have L1 := PairAt.keep (PairAt.new (w.alloc (.cells #[.int .i64 kd, .int .i64 p0, .int .i64 p1, .int .i64 s0, .int .i64 s1, .int .i64 s2, .int .i64 s3, .int .i64 sp, .int .i64 r0, .int .i64 r1, .int .i64 m0, .int .i64 m1, .int .i64 t0, .int .i64 t1] 30)) (.int .i64 0) (.int .i64 p1) 25) hb1 (by simp)
  simp only [World.size_alloc] at L1
  obtain ⟨l0, l1⟩ := L1
  have hz2 : w.heap.size + 1 < w1.heap.size := by have := hb1.size; simp at this; omega
  clear hb1
  go_wp2
  go_ret
  exact ⟨rfl, hbw⟩

set_option maxRecDepth 100000 in
set_option maxHeartbeats 3200000 in
theorem isQuiet_f8 (kd p0 p1 s0 s1 s2 s3 sp r0 r1 m0 m1 t0 t1 : Int) (w : World) (a : spanB 0 p1 0 1073741824 = true) (f0 : (kd == 1) = true) (f1 : (p0 == 0) = true) (f2 : (s0 == 0) = true) (f3 : (s1 == 0) = true) (f4 : (s2 == 0) = true) (f5 : (s3 == 0) = true) (f6 : (sp == 0) = true) (f7 : (r0 == 0) = true) (f8 : (r1 == 0) = false) :
    Calls Try.prog 51 #[.agg #[.int .i64 kd, .int .i64 p0, .int .i64 p1, .int .i64 s0, .int .i64 s1, .int .i64 s2, .int .i64 s3, .int .i64 sp, .int .i64 r0, .int .i64 r1, .int .i64 m0, .int .i64 m1, .int .i64 t0, .int .i64 t1]] w fun e w' => e = .returned (.bool (false)) ∧ Below w.heap.size w w' := by
  have e28 := fun w : World => eq28 s0 s1 s2 s3 0 0 0 0 w
  go_enter Try.func51, Try.ntmps51
  go_wp2_with fail
  refine (isPower_any _ _ _).mono ?_; rintro e w1 ⟨rfl, hb1⟩
  have E1 := ((EcE.new w kd p0 p1 s0 s1 s2 s3 sp r0 r1 m0 m1 t0 t1).keep (below_alloc _ (.cells #[.int .i64 0, .int .i64 p1] 25)) (by simp)).keep hb1 (by simp; omega)
  obtain ⟨⟨c0, c1, c2, c3, c4, c5, c6, c7, c8, c9, c10, c11, c12, c13⟩, hz, hbw⟩ := E1
  have L1 := PairAt.keep (PairAt.new (w.alloc (.cells #[.int .i64 kd, .int .i64 p0, .int .i64 p1, .int .i64 s0, .int .i64 s1, .int .i64 s2, .int .i64 s3, .int .i64 sp, .int .i64 r0, .int .i64 r1, .int .i64 m0, .int .i64 m1, .int .i64 t0, .int .i64 t1] 30)) (.int .i64 0) (.int .i64 p1) 25) hb1 (by simp)
  simp only [World.size_alloc] at L1
  obtain ⟨l0, l1⟩ := L1
  have hz2 : w.heap.size + 1 < w1.heap.size := by have := hb1.size; simp at this; omega
  clear hb1
  go_wp2
  go_ret
  exact ⟨rfl, hbw⟩

set_option maxRecDepth 100000 in
set_option maxHeartbeats 3200000 in
theorem isQuiet_f9 (kd p0 p1 s0 s1 s2 s3 sp r0 r1 m0 m1 t0 t1 : Int) (w : World) (a : spanB 0 p1 0 1073741824 = true) (f0 : (kd == 1) = true) (f1 : (p0 == 0) = true) (f2 : (s0 == 0) = true) (f3 : (s1 == 0) = true) (f4 : (s2 == 0) = true) (f5 : (s3 == 0) = true) (f6 : (sp == 0) = true) (f7 : (r0 == 0) = true) (f8 : (r1 == 0) = true) (f9 : (m0 == 0) = false) :
    Calls Try.prog 51 #[.agg #[.int .i64 kd, .int .i64 p0, .int .i64 p1, .int .i64 s0, .int .i64 s1, .int .i64 s2, .int .i64 s3, .int .i64 sp, .int .i64 r0, .int .i64 r1, .int .i64 m0, .int .i64 m1, .int .i64 t0, .int .i64 t1]] w fun e w' => e = .returned (.bool (false)) ∧ Below w.heap.size w w' := by
  have e28 := fun w : World => eq28 s0 s1 s2 s3 0 0 0 0 w
  go_enter Try.func51, Try.ntmps51
  go_wp2_with fail
  refine (isPower_any _ _ _).mono ?_; rintro e w1 ⟨rfl, hb1⟩
  have E1 := ((EcE.new w kd p0 p1 s0 s1 s2 s3 sp r0 r1 m0 m1 t0 t1).keep (below_alloc _ (.cells #[.int .i64 0, .int .i64 p1] 25)) (by simp)).keep hb1 (by simp; omega)
  obtain ⟨⟨c0, c1, c2, c3, c4, c5, c6, c7, c8, c9, c10, c11, c12, c13⟩, hz, hbw⟩ := E1
  have L1 := PairAt.keep (PairAt.new (w.alloc (.cells #[.int .i64 kd, .int .i64 p0, .int .i64 p1, .int .i64 s0, .int .i64 s1, .int .i64 s2, .int .i64 s3, .int .i64 sp, .int .i64 r0, .int .i64 r1, .int .i64 m0, .int .i64 m1, .int .i64 t0, .int .i64 t1] 30)) (.int .i64 0) (.int .i64 p1) 25) hb1 (by simp)
  simp only [World.size_alloc] at L1
  obtain ⟨l0, l1⟩ := L1
  have hz2 : w.heap.size + 1 < w1.heap.size := by have := hb1.size; simp at this; omega
  clear hb1
  go_wp2
  go_ret
  exact ⟨rfl, hbw⟩

set_option maxRecDepth 100000 in
set_option maxHeartbeats 3200000 in
theorem isQuiet_f10 (kd p0 p1 s0 s1 s2 s3 sp r0 r1 m0 m1 t0 t1 : Int) (w : World) (a : spanB 0 p1 0 1073741824 = true) (f0 : (kd == 1) = true) (f1 : (p0 == 0) = true) (f2 : (s0 == 0) = true) (f3 : (s1 == 0) = true) (f4 : (s2 == 0) = true) (f5 : (s3 == 0) = true) (f6 : (sp == 0) = true) (f7 : (r0 == 0) = true) (f8 : (r1 == 0) = true) (f9 : (m0 == 0) = true) (f10 : (m1 == 0) = false) :
    Calls Try.prog 51 #[.agg #[.int .i64 kd, .int .i64 p0, .int .i64 p1, .int .i64 s0, .int .i64 s1, .int .i64 s2, .int .i64 s3, .int .i64 sp, .int .i64 r0, .int .i64 r1, .int .i64 m0, .int .i64 m1, .int .i64 t0, .int .i64 t1]] w fun e w' => e = .returned (.bool (false)) ∧ Below w.heap.size w w' := by
  have e28 := fun w : World => eq28 s0 s1 s2 s3 0 0 0 0 w
  go_enter Try.func51, Try.ntmps51
  go_wp2_with fail
  refine (isPower_any _ _ _).mono ?_; rintro e w1 ⟨rfl, hb1⟩
  have E1 := ((EcE.new w kd p0 p1 s0 s1 s2 s3 sp r0 r1 m0 m1 t0 t1).keep (below_alloc _ (.cells #[.int .i64 0, .int .i64 p1] 25)) (by simp)).keep hb1 (by simp; omega)
  obtain ⟨⟨c0, c1, c2, c3, c4, c5, c6, c7, c8, c9, c10, c11, c12, c13⟩, hz, hbw⟩ := E1
  have L1 := PairAt.keep (PairAt.new (w.alloc (.cells #[.int .i64 kd, .int .i64 p0, .int .i64 p1, .int .i64 s0, .int .i64 s1, .int .i64 s2, .int .i64 s3, .int .i64 sp, .int .i64 r0, .int .i64 r1, .int .i64 m0, .int .i64 m1, .int .i64 t0, .int .i64 t1] 30)) (.int .i64 0) (.int .i64 p1) 25) hb1 (by simp)
  simp only [World.size_alloc] at L1
  obtain ⟨l0, l1⟩ := L1
  have hz2 : w.heap.size + 1 < w1.heap.size := by have := hb1.size; simp at this; omega
  clear hb1
  go_wp2
  go_ret
  exact ⟨rfl, hbw⟩

set_option maxRecDepth 100000 in
set_option maxHeartbeats 3200000 in
theorem isQuiet_f11 (kd p0 p1 s0 s1 s2 s3 sp r0 r1 m0 m1 t0 t1 : Int) (w : World) (a : spanB 0 p1 0 1073741824 = true) (f0 : (kd == 1) = true) (f1 : (p0 == 0) = true) (f2 : (s0 == 0) = true) (f3 : (s1 == 0) = true) (f4 : (s2 == 0) = true) (f5 : (s3 == 0) = true) (f6 : (sp == 0) = true) (f7 : (r0 == 0) = true) (f8 : (r1 == 0) = true) (f9 : (m0 == 0) = true) (f10 : (m1 == 0) = true) (f11 : (t0 == 0) = false) :
    Calls Try.prog 51 #[.agg #[.int .i64 kd, .int .i64 p0, .int .i64 p1, .int .i64 s0, .int .i64 s1, .int .i64 s2, .int .i64 s3, .int .i64 sp, .int .i64 r0, .int .i64 r1, .int .i64 m0, .int .i64 m1, .int .i64 t0, .int .i64 t1]] w fun e w' => e = .returned (.bool (false)) ∧ Below w.heap.size w w' := by
  have e28 := fun w : World => eq28 s0 s1 s2 s3 0 0 0 0 w
  go_enter Try.func51, Try.ntmps51
  go_wp2_with fail
  refine (isPower_any _ _ _).mono ?_; rintro e w1 ⟨rfl, hb1⟩
  have E1 := ((EcE.new w kd p0 p1 s0 s1 s2 s3 sp r0 r1 m0 m1 t0 t1).keep (below_alloc _ (.cells #[.int .i64 0, .int .i64 p1] 25)) (by simp)).keep hb1 (by simp; omega)
  obtain ⟨⟨c0, c1, c2, c3, c4, c5, c6, c7, c8, c9, c10, c11, c12, c13⟩, hz, hbw⟩ := E1
  have L1 := PairAt.keep (PairAt.new (w.alloc (.cells #[.int .i64 kd, .int .i64 p0, .int .i64 p1, .int .i64 s0, .int .i64 s1, .int .i64 s2, .int .i64 s3, .int .i64 sp, .int .i64 r0, .int .i64 r1, .int .i64 m0, .int .i64 m1, .int .i64 t0, .int .i64 t1] 30)) (.int .i64 0) (.int .i64 p1) 25) hb1 (by simp)
  simp only [World.size_alloc] at L1
  obtain ⟨l0, l1⟩ := L1
  have hz2 : w.heap.size + 1 < w1.heap.size := by have := hb1.size; simp at this; omega
  clear hb1
  go_wp2
  go_ret
  exact ⟨rfl, hbw⟩

set_option maxRecDepth 100000 in
set_option maxHeartbeats 3200000 in
theorem isQuiet_f12 (kd p0 p1 s0 s1 s2 s3 sp r0 r1 m0 m1 t0 t1 : Int) (w : World) (a : spanB 0 p1 0 1073741824 = true) (f0 : (kd == 1) = true) (f1 : (p0 == 0) = true) (f2 : (s0 == 0) = true) (f3 : (s1 == 0) = true) (f4 : (s2 == 0) = true) (f5 : (s3 == 0) = true) (f6 : (sp == 0) = true) (f7 : (r0 == 0) = true) (f8 : (r1 == 0) = true) (f9 : (m0 == 0) = true) (f10 : (m1 == 0) = true) (f11 : (t0 == 0) = true) (f12 : (t1 == 0) = false) :
    Calls Try.prog 51 #[.agg #[.int .i64 kd, .int .i64 p0, .int .i64 p1, .int .i64 s0, .int .i64 s1, .int .i64 s2, .int .i64 s3, .int .i64 sp, .int .i64 r0, .int .i64 r1, .int .i64 m0, .int .i64 m1, .int .i64 t0, .int .i64 t1]] w fun e w' => e = .returned (.bool (false)) ∧ Below w.heap.size w w' := by
  have e28 := fun w : World => eq28 s0 s1 s2 s3 0 0 0 0 w
  go_enter Try.func51, Try.ntmps51
  go_wp2_with fail
  refine (isPower_any _ _ _).mono ?_; rintro e w1 ⟨rfl, hb1⟩
  have E1 := ((EcE.new w kd p0 p1 s0 s1 s2 s3 sp r0 r1 m0 m1 t0 t1).keep (below_alloc _ (.cells #[.int .i64 0, .int .i64 p1] 25)) (by simp)).keep hb1 (by simp; omega)
  obtain ⟨⟨c0, c1, c2, c3, c4, c5, c6, c7, c8, c9, c10, c11, c12, c13⟩, hz, hbw⟩ := E1
  have L1 := PairAt.keep (PairAt.new (w.alloc (.cells #[.int .i64 kd, .int .i64 p0, .int .i64 p1, .int .i64 s0, .int .i64 s1, .int .i64 s2, .int .i64 s3, .int .i64 sp, .int .i64 r0, .int .i64 r1, .int .i64 m0, .int .i64 m1, .int .i64 t0, .int .i64 t1] 30)) (.int .i64 0) (.int .i64 p1) 25) hb1 (by simp)
  simp only [World.size_alloc] at L1
  obtain ⟨l0, l1⟩ := L1
  have hz2 : w.heap.size + 1 < w1.heap.size := by have := hb1.size; simp at this; omega
  clear hb1
  go_wp2
  go_ret
  exact ⟨rfl, hbw⟩

theorem isQuiet_any (kd p0 p1 s0 s1 s2 s3 sp r0 r1 m0 m1 t0 t1 : Int) (w : World) :
    Calls Try.prog 51 #[.agg #[.int .i64 kd, .int .i64 p0, .int .i64 p1, .int .i64 s0, .int .i64 s1, .int .i64 s2, .int .i64 s3, .int .i64 sp, .int .i64 r0, .int .i64 r1, .int .i64 m0, .int .i64 m1, .int .i64 t0, .int .i64 t1]] w fun e w' => e = .returned (.bool (quietB kd p0 p1 s0 s1 s2 s3 sp r0 r1 m0 m1 t0 t1)) ∧ Below w.heap.size w w' := by
  rcases (Bool.eq_false_or_eq_true (spanB 0 p1 0 1073741824)).symm with a | a
  · rw [show quietB kd p0 p1 s0 s1 s2 s3 sp r0 r1 m0 m1 t0 t1 = false by unfold quietB; rw [a]; rfl]
    exact isQuiet_no kd p0 p1 s0 s1 s2 s3 sp r0 r1 m0 m1 t0 t1 w a
  by_cases g0 : kd = 1
  · skip
    by_cases g1 : p0 = 0
    · skip
      by_cases g2 : s0 = 0
      · skip
        by_cases g3 : s1 = 0
        · skip
          by_cases g4 : s2 = 0
          · skip
            by_cases g5 : s3 = 0
            · skip
              by_cases g6 : sp = 0
              · skip
                by_cases g7 : r0 = 0
                · skip
                  by_cases g8 : r1 = 0
                  · skip
                    by_cases g9 : m0 = 0
                    · skip
                      by_cases g10 : m1 = 0
                      · skip
                        by_cases g11 : t0 = 0
                        · skip
                          by_cases g12 : t1 = 0
                          · skip
                            rw [show quietB kd p0 p1 s0 s1 s2 s3 sp r0 r1 m0 m1 t0 t1 = true by unfold quietB; rw [a]; simp [g0, g1, g2, g3, g4, g5, g6, g7, g8, g9, g10, g11, g12]]
                            exact isQuiet_yes kd p0 p1 s0 s1 s2 s3 sp r0 r1 m0 m1 t0 t1 w a (beq_iff_eq.2 g0) (beq_iff_eq.2 g1) (beq_iff_eq.2 g2) (beq_iff_eq.2 g3) (beq_iff_eq.2 g4) (beq_iff_eq.2 g5) (beq_iff_eq.2 g6) (beq_iff_eq.2 g7) (beq_iff_eq.2 g8) (beq_iff_eq.2 g9) (beq_iff_eq.2 g10) (beq_iff_eq.2 g11) (beq_iff_eq.2 g12)
                          · rw [show quietB kd p0 p1 s0 s1 s2 s3 sp r0 r1 m0 m1 t0 t1 = false by unfold quietB; rw [a]; simp [g12]]
                            exact isQuiet_f12 kd p0 p1 s0 s1 s2 s3 sp r0 r1 m0 m1 t0 t1 w a (beq_iff_eq.2 g0) (beq_iff_eq.2 g1) (beq_iff_eq.2 g2) (beq_iff_eq.2 g3) (beq_iff_eq.2 g4) (beq_iff_eq.2 g5) (beq_iff_eq.2 g6) (beq_iff_eq.2 g7) (beq_iff_eq.2 g8) (beq_iff_eq.2 g9) (beq_iff_eq.2 g10) (beq_iff_eq.2 g11) (beq_eq_false_iff_ne.2 g12)
                        · rw [show quietB kd p0 p1 s0 s1 s2 s3 sp r0 r1 m0 m1 t0 t1 = false by unfold quietB; rw [a]; simp [g11]]
                          exact isQuiet_f11 kd p0 p1 s0 s1 s2 s3 sp r0 r1 m0 m1 t0 t1 w a (beq_iff_eq.2 g0) (beq_iff_eq.2 g1) (beq_iff_eq.2 g2) (beq_iff_eq.2 g3) (beq_iff_eq.2 g4) (beq_iff_eq.2 g5) (beq_iff_eq.2 g6) (beq_iff_eq.2 g7) (beq_iff_eq.2 g8) (beq_iff_eq.2 g9) (beq_iff_eq.2 g10) (beq_eq_false_iff_ne.2 g11)
                      · rw [show quietB kd p0 p1 s0 s1 s2 s3 sp r0 r1 m0 m1 t0 t1 = false by unfold quietB; rw [a]; simp [g10]]
                        exact isQuiet_f10 kd p0 p1 s0 s1 s2 s3 sp r0 r1 m0 m1 t0 t1 w a (beq_iff_eq.2 g0) (beq_iff_eq.2 g1) (beq_iff_eq.2 g2) (beq_iff_eq.2 g3) (beq_iff_eq.2 g4) (beq_iff_eq.2 g5) (beq_iff_eq.2 g6) (beq_iff_eq.2 g7) (beq_iff_eq.2 g8) (beq_iff_eq.2 g9) (beq_eq_false_iff_ne.2 g10)
                    · rw [show quietB kd p0 p1 s0 s1 s2 s3 sp r0 r1 m0 m1 t0 t1 = false by unfold quietB; rw [a]; simp [g9]]
                      exact isQuiet_f9 kd p0 p1 s0 s1 s2 s3 sp r0 r1 m0 m1 t0 t1 w a (beq_iff_eq.2 g0) (beq_iff_eq.2 g1) (beq_iff_eq.2 g2) (beq_iff_eq.2 g3) (beq_iff_eq.2 g4) (beq_iff_eq.2 g5) (beq_iff_eq.2 g6) (beq_iff_eq.2 g7) (beq_iff_eq.2 g8) (beq_eq_false_iff_ne.2 g9)
                  · rw [show quietB kd p0 p1 s0 s1 s2 s3 sp r0 r1 m0 m1 t0 t1 = false by unfold quietB; rw [a]; simp [g8]]
                    exact isQuiet_f8 kd p0 p1 s0 s1 s2 s3 sp r0 r1 m0 m1 t0 t1 w a (beq_iff_eq.2 g0) (beq_iff_eq.2 g1) (beq_iff_eq.2 g2) (beq_iff_eq.2 g3) (beq_iff_eq.2 g4) (beq_iff_eq.2 g5) (beq_iff_eq.2 g6) (beq_iff_eq.2 g7) (beq_eq_false_iff_ne.2 g8)
                · rw [show quietB kd p0 p1 s0 s1 s2 s3 sp r0 r1 m0 m1 t0 t1 = false by unfold quietB; rw [a]; simp [g7]]
                  exact isQuiet_f7 kd p0 p1 s0 s1 s2 s3 sp r0 r1 m0 m1 t0 t1 w a (beq_iff_eq.2 g0) (beq_iff_eq.2 g1) (beq_iff_eq.2 g2) (beq_iff_eq.2 g3) (beq_iff_eq.2 g4) (beq_iff_eq.2 g5) (beq_iff_eq.2 g6) (beq_eq_false_iff_ne.2 g7)
              · rw [show quietB kd p0 p1 s0 s1 s2 s3 sp r0 r1 m0 m1 t0 t1 = false by unfold quietB; rw [a]; simp [g6]]
                exact isQuiet_f6 kd p0 p1 s0 s1 s2 s3 sp r0 r1 m0 m1 t0 t1 w a (beq_iff_eq.2 g0) (beq_iff_eq.2 g1) (beq_iff_eq.2 g2) (beq_iff_eq.2 g3) (beq_iff_eq.2 g4) (beq_iff_eq.2 g5) (beq_eq_false_iff_ne.2 g6)
            · rw [show quietB kd p0 p1 s0 s1 s2 s3 sp r0 r1 m0 m1 t0 t1 = false by unfold quietB; rw [a]; simp [g5]]
              exact isQuiet_f5 kd p0 p1 s0 s1 s2 s3 sp r0 r1 m0 m1 t0 t1 w a (beq_iff_eq.2 g0) (beq_iff_eq.2 g1) (beq_iff_eq.2 g2) (beq_iff_eq.2 g3) (beq_iff_eq.2 g4) (beq_eq_false_iff_ne.2 g5)
          · rw [show quietB kd p0 p1 s0 s1 s2 s3 sp r0 r1 m0 m1 t0 t1 = false by unfold quietB; rw [a]; simp [g4]]
            exact isQuiet_f4 kd p0 p1 s0 s1 s2 s3 sp r0 r1 m0 m1 t0 t1 w a (beq_iff_eq.2 g0) (beq_iff_eq.2 g1) (beq_iff_eq.2 g2) (beq_iff_eq.2 g3) (beq_eq_false_iff_ne.2 g4)
        · rw [show quietB kd p0 p1 s0 s1 s2 s3 sp r0 r1 m0 m1 t0 t1 = false by unfold quietB; rw [a]; simp [g3]]
          exact isQuiet_f3 kd p0 p1 s0 s1 s2 s3 sp r0 r1 m0 m1 t0 t1 w a (beq_iff_eq.2 g0) (beq_iff_eq.2 g1) (beq_iff_eq.2 g2) (beq_eq_false_iff_ne.2 g3)
      · rw [show quietB kd p0 p1 s0 s1 s2 s3 sp r0 r1 m0 m1 t0 t1 = false by unfold quietB; rw [a]; simp [g2]]
        exact isQuiet_f2 kd p0 p1 s0 s1 s2 s3 sp r0 r1 m0 m1 t0 t1 w a (beq_iff_eq.2 g0) (beq_iff_eq.2 g1) (beq_eq_false_iff_ne.2 g2)
    · rw [show quietB kd p0 p1 s0 s1 s2 s3 sp r0 r1 m0 m1 t0 t1 = false by unfold quietB; rw [a]; simp [g1]]
      exact isQuiet_f1 kd p0 p1 s0 s1 s2 s3 sp r0 r1 m0 m1 t0 t1 w a (beq_iff_eq.2 g0) (beq_eq_false_iff_ne.2 g1)
  · rw [show quietB kd p0 p1 s0 s1 s2 s3 sp r0 r1 m0 m1 t0 t1 = false by unfold quietB; rw [a]; simp [g0]]
    exact isQuiet_f0 kd p0 p1 s0 s1 s2 s3 sp r0 r1 m0 m1 t0 t1 w a  (beq_eq_false_iff_ne.2 g0)

end Go.Proofs.Ytmojnopgpgnfeaa
