/-
  Walks over the examples' grid and field.
-/
import Derived.Test.YthnjfnapjpdchaaV1
namespace Go.Proofs.Ythnjfnapjpdchaa
open Go.RowKit
set_option linter.unusedVariables false

set_option maxHeartbeats 400000 in
theorem G_any (w : World) :
    Calls Try.prog 55 #[] w fun e w' => e = .returned (.agg #[.int .i64 (-5000), .int .i64 (-5000), .int .i64 5000, .int .i64 2, .int .i64 2]) ∧ Below w.heap.size w w' := by
  go_enter Try.func55, Try.ntmps55
  go_wp2
  exact bodyPost_ret (v := .agg #[.int .i64 (-5000), .int .i64 (-5000), .int .i64 5000, .int .i64 2, .int .i64 2]) (by simp [results, Try.results55, go_sem]) rfl ⟨rfl, by repeat (first | exact Below.refl _ _ | (refine Below.setCell ?_ (by simp) _) | (refine Below.alloc ?_ (by simp) _))⟩

theorem set_other {w : World} {b i j : Nat} {v x : Value} (h : i ≠ j) (hc : w.cell? ⟨b, j, none⟩ = some x) : (w.setCell ⟨b, i, none⟩ v).cell? ⟨b, j, none⟩ = some x := by
  rw [World.cell?_setCell_other _ _ _ _ (fun e => h (by injection e))]; exact hc
theorem set_same {w : World} {b i : Nat} {v x : Value} (hc : w.cell? ⟨b, i, none⟩ = some x) : (w.setCell ⟨b, i, none⟩ v).cell? ⟨b, i, none⟩ = some v :=
  World.cell?_setCell_same' _ _ _ (by rw [hc]; rfl)

/-- the spans of the examples' field -/
def zsH (i : Nat) : Int × Int := if i = 3 then (150, 200) else (0, 0)

/-- what Hill answers -/
def HillRet (w : World) (e : Ending) (w' : World) : Prop := ∃ b : Nat, e = .returned (.agg #[.int .i64 (-5000), .int .i64 (-5000), .int .i64 5000, .int .i64 2, .int .i64 2, .slice (some ⟨b, 0, none⟩) 4 4]) ∧ SliceIs w' (some ⟨b, 0, none⟩) 4 4 zsH ∧ Below w.heap.size w w'

set_option maxHeartbeats 1600000 in
theorem Hill_any (w : World) : Calls Try.prog 24 #[] w (HillRet w) := by
  go_enter Try.func24, Try.ntmps24
  go_wp2_with fail
  refine (G_any _).mono ?_; rintro e w1 ⟨rfl, hb1⟩
  have hz := hb1.size
  simp only [World.size_alloc] at hz
  have y0 : w.heap.size < w1.heap.size := by omega
  have hbw : Below w.heap.size w w1 := Below.trans (below_alloc _ _) (hb1.mono (by simp))
  have H1 := Lib.hid hb1
  obtain ⟨hc, hf⟩ := bcell hb1
  clear hb1
  go_wp2
  have hb1 := H1.out
  have k0 : w1.cell? ⟨w.heap.size, 0, none⟩ = some (.int .i64 0) := keepB hb1 (by simp) (alloc_new rfl rfl)
  have k1 : w1.cell? ⟨w.heap.size, 1, none⟩ = some (.int .i64 0) := keepB hb1 (by simp) (alloc_new rfl rfl)
  have k2 : w1.cell? ⟨w.heap.size, 2, none⟩ = some (.int .i64 0) := keepB hb1 (by simp) (alloc_new rfl rfl)
  have k3 : w1.cell? ⟨w.heap.size, 3, none⟩ = some (.int .i64 0) := keepB hb1 (by simp) (alloc_new rfl rfl)
  have k4 : w1.cell? ⟨w.heap.size, 4, none⟩ = some (.int .i64 0) := keepB hb1 (by simp) (alloc_new rfl rfl)
  have k5 : w1.cell? ⟨w.heap.size, 5, none⟩ = some (.slice none 0 0) := keepB hb1 (by simp) (alloc_new rfl rfl)
  obtain ⟨X, hX⟩ : ∃ X : World, X = ((((((w1.setCell ⟨w.heap.size, 0, none⟩ (.int .i64 (-5000))).setCell ⟨w.heap.size, 1, none⟩ (.int .i64 (-5000))).setCell ⟨w.heap.size, 2, none⟩ (.int .i64 5000)).setCell ⟨w.heap.size, 3, none⟩ (.int .i64 2)).setCell ⟨w.heap.size, 4, none⟩ (.int .i64 2)).setCell ⟨w.heap.size, 5, none⟩ (.slice (some ⟨w1.heap.size, 0, none⟩) 4 4)) := ⟨_, rfl⟩
  have hsz : X.heap.size = w1.heap.size := by rw [hX]; simp
  have hXb : Below w.heap.size w X := by
    rw [hX]
    exact ((((((hbw.setCell (p := ⟨w.heap.size, 0, none⟩) (Nat.le_refl _) _).setCell (p := ⟨w.heap.size, 1, none⟩) (Nat.le_refl _) _).setCell (p := ⟨w.heap.size, 2, none⟩) (Nat.le_refl _) _).setCell (p := ⟨w.heap.size, 3, none⟩) (Nat.le_refl _) _).setCell (p := ⟨w.heap.size, 4, none⟩) (Nat.le_refl _) _).setCell (p := ⟨w.heap.size, 5, none⟩) (Nat.le_refl _) _)
  have c0 : X.cell? ⟨w.heap.size, 0, none⟩ = some (.int .i64 (-5000)) := by rw [hX]; exact (set_other (by decide) (set_other (by decide) (set_other (by decide) (set_other (by decide) (set_other (by decide) (set_same k0))))))
  have c1 : X.cell? ⟨w.heap.size, 1, none⟩ = some (.int .i64 (-5000)) := by rw [hX]; exact (set_other (by decide) (set_other (by decide) (set_other (by decide) (set_other (by decide) (set_same (set_other (by decide) k1))))))
  have c2 : X.cell? ⟨w.heap.size, 2, none⟩ = some (.int .i64 5000) := by rw [hX]; exact (set_other (by decide) (set_other (by decide) (set_other (by decide) (set_same (set_other (by decide) (set_other (by decide) k2))))))
  have c3 : X.cell? ⟨w.heap.size, 3, none⟩ = some (.int .i64 2) := by rw [hX]; exact (set_other (by decide) (set_other (by decide) (set_same (set_other (by decide) (set_other (by decide) (set_other (by decide) k3))))))
  have c4 : X.cell? ⟨w.heap.size, 4, none⟩ = some (.int .i64 2) := by rw [hX]; exact (set_other (by decide) (set_same (set_other (by decide) (set_other (by decide) (set_other (by decide) (set_other (by decide) k4))))))
  have c5 : X.cell? ⟨w.heap.size, 5, none⟩ = some (.slice (some ⟨w1.heap.size, 0, none⟩) 4 4) := by rw [hX]; exact (set_same (set_other (by decide) (set_other (by decide) (set_other (by decide) (set_other (by decide) (set_other (by decide) k5))))))
  rw [← hX]
  have d0 := alloc_keep (o := .cells #[.int .i64 0, .int .i64 0, .int .i64 0, .int .i64 0, .int .i64 0, .int .i64 0, .int .i64 150, .int .i64 200] 43) (by omega) c0
  have d1 := alloc_keep (o := .cells #[.int .i64 0, .int .i64 0, .int .i64 0, .int .i64 0, .int .i64 0, .int .i64 0, .int .i64 150, .int .i64 200] 43) (by omega) c1
  have d2 := alloc_keep (o := .cells #[.int .i64 0, .int .i64 0, .int .i64 0, .int .i64 0, .int .i64 0, .int .i64 0, .int .i64 150, .int .i64 200] 43) (by omega) c2
  have d3 := alloc_keep (o := .cells #[.int .i64 0, .int .i64 0, .int .i64 0, .int .i64 0, .int .i64 0, .int .i64 0, .int .i64 150, .int .i64 200] 43) (by omega) c3
  have d4 := alloc_keep (o := .cells #[.int .i64 0, .int .i64 0, .int .i64 0, .int .i64 0, .int .i64 0, .int .i64 0, .int .i64 150, .int .i64 200] 43) (by omega) c4
  have d5 := alloc_keep (o := .cells #[.int .i64 0, .int .i64 0, .int .i64 0, .int .i64 0, .int .i64 0, .int .i64 0, .int .i64 150, .int .i64 200] 43) (by omega) c5
  refine bodyPost_ret (v := .agg #[.int .i64 (-5000), .int .i64 (-5000), .int .i64 5000, .int .i64 2, .int .i64 2, .slice (some ⟨w1.heap.size, 0, none⟩) 4 4]) (by simp [results, Try.results24, go_sem, d0, d1, d2, d3, d4, d5]) rfl ⟨w1.heap.size, rfl, .inr ⟨w1.heap.size, 0, rfl, by simp only [World.size_alloc]; omega, fun i hi => ?_⟩, hXb.alloc (by omega) _⟩
  have hi' : i = 0 ∨ i = 1 ∨ i = 2 ∨ i = 3 := by omega
  rcases hi' with rfl | rfl | rfl | rfl <;> exact ⟨alloc_new (by omega) rfl, alloc_new (by omega) rfl⟩

theorem hill_C : fieldC (-5000) (-5000) 5000 2 2 4 zsH 1073741824 = 0 := by
  rw [fieldC_spans (by decide) (by decide), spansC_ok]
  intro j hj
  have hj' : j = 0 ∨ j = 1 ∨ j = 2 ∨ j = 3 := by omega
  rcases hj' with rfl | rfl | rfl | rfl <;> decide

theorem CheckField_Hill (b : Nat) (w : World) (hs : SliceIs w (some ⟨b, 0, none⟩) 4 4 zsH) :
    Calls Try.prog 21 #[.agg #[.int .i64 (-5000), .int .i64 (-5000), .int .i64 5000, .int .i64 2, .int .i64 2, .slice (some ⟨b, 0, none⟩) 4 4]] w fun e w' => e = .returned (.int .i64 0) ∧ Below w.heap.size w w' := by
  have h := CheckField_any (-5000) (-5000) 5000 2 2 (some ⟨b, 0, none⟩) 4 4 zsH w (by decide) hs
  rw [hill_C] at h
  exact h

end Go.Proofs.Ythnjfnapjpdchaa
