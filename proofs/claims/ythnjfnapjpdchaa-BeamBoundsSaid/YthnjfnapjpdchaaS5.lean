/-
  Walks over inner and lies.
-/
import Derived.Test.YthnjfnapjpdchaaN
namespace Go.Proofs.Ythnjfnapjpdchaa
open Go.RowKit

theorem cut_bd {a n : Int} (h : 1 ≤ n) : 0 ≤ a % n ∧ a % n < n := ⟨Int.emod_nonneg _ (by omega), Int.emod_lt_of_pos _ (by omega)⟩

set_option maxHeartbeats 800000 in
theorem inner_any (lo hi a b : Int) (w : World) (h1 : 0 ≤ lo) (h2 : lo ≤ hi) (h3 : hi ≤ 1000000000) (a1 : 0 ≤ a) (a2 : a ≤ 4294967295) (b1 : 0 ≤ b) (b2 : b ≤ 4294967295) :
    Calls Try.prog 52 #[.agg #[.int .i64 lo, .int .i64 hi], .int .u32 a, .int .u32 b] w
      fun e w' => e = .returned (.agg #[.int .i64 (lo + a % (hi - lo + 1)), .int .i64 (lo + a % (hi - lo + 1) + b % (hi - (lo + a % (hi - lo + 1)) + 1))]) ∧ Below w.heap.size w w' := by
  obtain ⟨c1, c2⟩ := cut_bd (a := a) (n := hi - lo + 1) (by omega)
  obtain ⟨c3, c4⟩ := cut_bd (a := b) (n := hi - (lo + a % (hi - lo + 1)) + 1) (by omega)
  have q1 : IntKind.i64.wrap (hi - lo) = hi - lo := IntWalk.i64_in _ (by omega)
  have q2 : IntKind.i64.wrap (hi - lo + 1) = hi - lo + 1 := IntWalk.i64_in _ (by omega)
  have q3 : a.tmod (hi - lo + 1) = a % (hi - lo + 1) := Int.tmod_eq_emod_of_nonneg a1
  have q4 : IntKind.i64.wrap (lo + a % (hi - lo + 1)) = lo + a % (hi - lo + 1) := IntWalk.i64_in _ (by omega)
  have q5 : (hi - lo + 1 == 0) = false := by rw [beq_eq_false_iff_ne]; omega
  have q6 : IntKind.i64.wrap a = a := IntWalk.i64_in _ (by omega)
  have q7 : IntKind.i64.wrap (a % (hi - lo + 1)) = a % (hi - lo + 1) := IntWalk.i64_in _ (by omega)
  go_enter Try.func52, Try.ntmps52
  go_wp2
  go_quiet (fail)
  clear q1 q2 q3 q4 q5 q6 q7
  go_wp2
  exact bodyPost_ret (v := .agg #[.int .i64 (lo + a % (hi - lo + 1)), .int .i64 (lo + a % (hi - lo + 1) + b % (hi - (lo + a % (hi - lo + 1)) + 1))]) (by simp [results, Try.results52, go_sem]) rfl ⟨rfl, by repeat (first | exact Below.refl _ _ | (refine below_drewN ?_ _) | (refine Below.setCell ?_ (by simp) _) | (refine Below.alloc ?_ (by simp) _))⟩

set_option maxHeartbeats 800000 in
theorem lies_yes (lo hi a b : Int) (w : World) (h1 : lo ≤ hi) (h2 : a ≤ lo) (h3 : hi ≤ b) :
    Calls Try.prog 53 #[.agg #[.int .i64 lo, .int .i64 hi], .agg #[.int .i64 a, .int .i64 b]] w
      fun e w' => e = .returned (.bool true) ∧ Below w.heap.size w w' := by
  go_enter Try.func53, Try.ntmps53
  go_wp2
  go_ret
  exact ⟨rfl, by repeat (first | exact Below.refl _ _ | (refine Below.alloc ?_ (by simp) _))⟩

end Go.Proofs.Ythnjfnapjpdchaa
