/-
  The closed example: Find and Place at the example's site.
-/
import Derived.Test.YthnjfnapjpdchaaW7
import Derived.Test.YthnjfnapjpdchaaX1
import Derived.Test.YthnjfnapjpdchaaR
namespace Go.Proofs.Ythnjfnapjpdchaa
open Go.RowKit
set_option linter.unusedVariables false

theorem srchS : SrchIs (4 + 1) (inside (705 * 705 + 1323 * 1323) (bordI 1000 0)) 2 := by
  refine ⟨by decide, by decide +kernel, fun k h1 h2 => ?_⟩
  have : k = 2 ∨ k = 3 ∨ k = 4 := by omega
  rcases this with rfl | rfl | rfl <;> decide +kernel
theorem rayS : RayIs 2 705 1323 0 := by
  refine .inr ⟨0, 705, 1323, by decide, by decide, by decide, by decide, by decide, 1, ⟨by decide, by decide +kernel, fun k h1 h2 => ?_⟩, by decide⟩
  obtain rfl : k = 1 := by omega
  decide +kernel
theorem okS : SiteOk 0 0 100 2 4 1000 1 := (siteC_zero.1 siteS).2
theorem Find_S (w : World) : Calls Try.prog 38 #[.agg #[.string nmS, .int .i64 0, .int .i64 0, .int .i64 100, .int .i64 2, .int .i64 4, .int .i64 1000, .int .i64 1], .int .i64 0, .int .i64 705, .int .i64 1323] w
    fun e w' => e = .returned (.tuple #[.int .i64 0, .int .i64 1, .int .i64 0]) ∧ Below w.heap.size w w' :=
  Find_in nmS 0 0 100 2 4 1000 1 0 705 1323 705 1323 (by decide) (by decide) 2 srchS w nmS_size siteS okS (by decide) (by decide) (by decide) (by decide) (by decide) 0 rayS
theorem p001 : codeE (siteC nmS 0 0 100 2 4 1000 1) (inB 0 0 256 && inB 0 0 (4 * 2 - 1) && inB 1 0 (4 - 1)) = 0 := by rw [siteS]; decide
theorem plS : plX 0 2 1000 0 0 1 = 705 ∧ plY 0 2 1000 0 0 1 = 1323 := by decide +kernel
theorem Place_S (w : World) : Calls Try.prog 36 #[.agg #[.string nmS, .int .i64 0, .int .i64 0, .int .i64 100, .int .i64 2, .int .i64 4, .int .i64 1000, .int .i64 1], .int .i64 0, .int .i64 0, .int .i64 1] w
    fun e w' => e = .returned (.tuple #[.int .i64 705, .int .i64 1323, .int .i64 0]) ∧ Below w.heap.size w w' := by
  have h := Place_any nmS 0 0 100 2 4 1000 1 0 0 1 w nmS_size
  rw [p001, val_ok, val_ok, plS.1, plS.2] at h
  exact h

set_option maxHeartbeats 800000 in
theorem places_any (w : World) :
    Calls Try.prog 42 #[] w fun e w' => e = .returned (.bool true) ∧ Below w.heap.size w w' := by
  go_enter Try.func42, Try.ntmps42
  go_wp2_with fail
  refine (S_any _).mono ?_; rintro e w1 ⟨rfl, hb1⟩
  go_wp2_with fail
  refine (Find_S _).mono ?_; rintro e w2 ⟨rfl, hb2⟩
  go_wp2_with fail
  refine (S_any _).mono ?_; rintro e w3 ⟨rfl, hb3⟩
  go_wp2_with fail
  refine (Place_S _).mono ?_; rintro e w4 ⟨rfl, hb4⟩
  have hb := ((hb1.trans (hb2.mono hb1.size)).trans (hb3.mono (Nat.le_trans hb1.size hb2.size))).trans (hb4.mono (Nat.le_trans (Nat.le_trans hb1.size hb2.size) hb3.size))
  go_wp2
  go_ret
  exact ⟨rfl, hb⟩

end Go.Proofs.Ythnjfnapjpdchaa
