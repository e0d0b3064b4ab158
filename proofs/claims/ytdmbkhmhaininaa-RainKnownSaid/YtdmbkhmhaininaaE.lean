/-
  Value, and its reference; the tables of the examples.
-/
import Derived.Test.YtdmbkhmhaininaaD
import Derived.Test.YtdmbkhmhaininaaBR
namespace Go.Proofs.Ytdmbkhmhaininaa
open Go.RowKit
set_option linter.unusedVariables false
set_option linter.unusedSimpArgs false

/-- the answers of Value -/
def vE (n : Nat) (zs : Nat → Int × Int) (z : Int) : Int := if tabC n zs 1073741824 = 0 then (if inB z 0 1073741824 then 0 else 3) else tabC n zs 1073741824
def vL (n : Nat) (zs : Nat → Int × Int) (z : Int) : Int := if vE n zs z = 0 then valLo n zs z else 0
def vH (n : Nat) (zs : Nat → Int × Int) (z : Int) : Int := if vE n zs z = 0 then valHi n zs z else 0
set_option maxHeartbeats 800000 in
theorem worthOf_any (b off n cap : Nat) (zs : Nat → Int × Int) (w : World) (hs : SpansAt w b off n zs) (hb : b < w.heap.size) :
    Calls Try.prog 54 #[.slice (some ⟨b, off, none⟩) n cap] w fun e w' => e = .returned (.func (Fn.func 93) #[] #[.pointer (some ⟨w.heap.size, 0, none⟩)]) ∧ BoxAt w' w.heap.size b off n cap zs ∧ Below w.heap.size w w' := by
  have HS := Lib.hid hs
  clear hs
  go_enter Try.func54, Try.ntmps54
  go_wp2
  go_ret
  exact ⟨rfl, ⟨alloc_new rfl rfl, by rw [World.size_alloc]; omega, by rw [World.size_alloc]; omega, HS.out.keep (below_alloc _ _) hb⟩, below_alloc _ _⟩

set_option maxHeartbeats 1600000 in
theorem Value_bad (a : Option Addr) (n cap : Nat) (z e0 : Int) (w : World) (he : e0 ≠ 0) (hT : ∀ W, Below w.heap.size w W → Calls Try.prog 14 #[.slice a n cap, .int .i64 1073741824] W fun e w' => e = .returned (.int .i64 e0) ∧ Below W.heap.size W w') :
    Calls Try.prog 20 #[.slice a n cap, .int .i64 z] w fun e w' => e = .returned (.tuple #[.agg #[.int .i64 0, .int .i64 0], .int .i64 e0]) ∧ Below w.heap.size w w' := by
  have HT := Lib.hid hT
  clear hT
  have hne : (e0 != 0) = true := bne_iff_ne.2 he
  have hne2 : (e0 == 0) = false := beq_eq_false_iff_ne.2 he
  have pz : (w.alloc (.cells #[.int .i64 0, .int .i64 0] 24)).cell? ⟨w.heap.size, 0, none⟩ = some (.int .i64 0) ∧ (w.alloc (.cells #[.int .i64 0, .int .i64 0] 24)).cell? ⟨w.heap.size, 1, none⟩ = some (.int .i64 0) ∧ (w.alloc (.cells #[.int .i64 0, .int .i64 0] 24)).frozen? ⟨w.heap.size, 0, none⟩ = false ∧ (w.alloc (.cells #[.int .i64 0, .int .i64 0] 24)).frozen? ⟨w.heap.size, 1, none⟩ = false := ⟨alloc_new rfl rfl, alloc_new rfl rfl, alloc_newF rfl, alloc_newF rfl⟩
  have hz : w.heap.size < (w.alloc (.cells #[.int .i64 0, .int .i64 0] 24)).heap.size := by rw [World.size_alloc]; omega
  have bw0 : Below w.heap.size w (w.alloc (.cells #[.int .i64 0, .int .i64 0] 24)) := below_alloc _ _
  go_enter Try.func20, Try.ntmps20
  go_wp2_with fail
  refine (HT.out _ bw0).mono ?_; rintro e X ⟨rfl, hbX⟩
  have r0 := keepB hbX hz pz.1
  have r1 := keepB hbX hz pz.2.1
  have f0 := keepF hbX hz pz.2.2.1
  have f1 := keepF hbX hz pz.2.2.2
  have bX := bw0.trans (hbX.mono bw0.size)
  have y0 : w.heap.size < X.heap.size := Nat.lt_of_lt_of_le hz hbX.size
  clear hbX pz hz bw0
  go_wp2
  exact bodyPost_ret (v := .tuple #[.agg #[.int .i64 0, .int .i64 0], .int .i64 e0]) (by simp [results, Try.results20, go_sem, set_same (i := 0) (v := .int .i64 0) r0, set_other (i := 1) (j := 0) (v := .int .i64 0) (by decide) (set_same (i := 0) (v := .int .i64 0) r0), set_same (i := 1) (v := .int .i64 0) (set_other (i := 0) (j := 1) (v := .int .i64 0) (by decide) r1)]) rfl ⟨rfl, ((bX.setCell (p := ⟨w.heap.size, 0, none⟩) (by dsimp only; omega) _).setCell (p := ⟨w.heap.size, 1, none⟩) (by dsimp only; omega) _)⟩

set_option maxHeartbeats 1600000 in
theorem Value_out (a : Option Addr) (n cap : Nat) (z : Int) (w : World) (hz0 : inB z 0 1073741824 = false) (hT : ∀ W, Below w.heap.size w W → Calls Try.prog 14 #[.slice a n cap, .int .i64 1073741824] W fun e w' => e = .returned (.int .i64 0) ∧ Below W.heap.size W w') :
    Calls Try.prog 20 #[.slice a n cap, .int .i64 z] w fun e w' => e = .returned (.tuple #[.agg #[.int .i64 0, .int .i64 0], .int .i64 3]) ∧ Below w.heap.size w w' := by
  have HT := Lib.hid hT
  clear hT
  have pz : (w.alloc (.cells #[.int .i64 0, .int .i64 0] 24)).cell? ⟨w.heap.size, 0, none⟩ = some (.int .i64 0) ∧ (w.alloc (.cells #[.int .i64 0, .int .i64 0] 24)).cell? ⟨w.heap.size, 1, none⟩ = some (.int .i64 0) ∧ (w.alloc (.cells #[.int .i64 0, .int .i64 0] 24)).frozen? ⟨w.heap.size, 0, none⟩ = false ∧ (w.alloc (.cells #[.int .i64 0, .int .i64 0] 24)).frozen? ⟨w.heap.size, 1, none⟩ = false := ⟨alloc_new rfl rfl, alloc_new rfl rfl, alloc_newF rfl, alloc_newF rfl⟩
  have hz : w.heap.size < (w.alloc (.cells #[.int .i64 0, .int .i64 0] 24)).heap.size := by rw [World.size_alloc]; omega
  have bw0 : Below w.heap.size w (w.alloc (.cells #[.int .i64 0, .int .i64 0] 24)) := below_alloc _ _
  go_enter Try.func20, Try.ntmps20
  go_wp2_with fail
  refine (HT.out _ bw0).mono ?_; rintro e X ⟨rfl, hbX⟩
  have r0 := keepB hbX hz pz.1
  have r1 := keepB hbX hz pz.2.1
  have f0 := keepF hbX hz pz.2.2.1
  have f1 := keepF hbX hz pz.2.2.2
  have bX := bw0.trans (hbX.mono bw0.size)
  have y0 : w.heap.size < X.heap.size := Nat.lt_of_lt_of_le hz hbX.size
  clear hbX pz hz bw0
  go_wp2_with fail
  refine (isIn_any _ _ _ _).mono ?_; rintro e w' ⟨rfl, rfl⟩
  go_wp2
  exact bodyPost_ret (v := .tuple #[.agg #[.int .i64 0, .int .i64 0], .int .i64 3]) (by simp [results, Try.results20, go_sem, set_same (i := 0) (v := .int .i64 0) r0, set_other (i := 1) (j := 0) (v := .int .i64 0) (by decide) (set_same (i := 0) (v := .int .i64 0) r0), set_same (i := 1) (v := .int .i64 0) (set_other (i := 0) (j := 1) (v := .int .i64 0) (by decide) r1)]) rfl ⟨rfl, ((bX.setCell (p := ⟨w.heap.size, 0, none⟩) (by dsimp only; omega) _).setCell (p := ⟨w.heap.size, 1, none⟩) (by dsimp only; omega) _)⟩

set_option maxHeartbeats 3200000 in
theorem Value_ok (b off n cap : Nat) (zs : Nat → Int × Int) (z : Int) (w : World) (hk : TabOk n zs 1073741824) (hz0 : inB z 0 1073741824 = true) (hs : SpansAt w b off n zs) (hb : b < w.heap.size) (hT : ∀ W, Below w.heap.size w W → Calls Try.prog 14 #[.slice (some ⟨b, off, none⟩) n cap, .int .i64 1073741824] W fun e w' => e = .returned (.int .i64 0) ∧ Below W.heap.size W w') :
    Calls Try.prog 20 #[.slice (some ⟨b, off, none⟩) n cap, .int .i64 z] w fun e w' => e = .returned (.tuple #[.agg #[.int .i64 (valLo n zs z), .int .i64 (valHi n zs z)], .int .i64 0]) ∧ Below w.heap.size w w' := by
  have HT := Lib.hid hT
  have HS := Lib.hid hs
  clear hT hs
  obtain ⟨z0, z1⟩ := inB_true.1 hz0
  have pz : (w.alloc (.cells #[.int .i64 0, .int .i64 0] 24)).cell? ⟨w.heap.size, 0, none⟩ = some (.int .i64 0) ∧ (w.alloc (.cells #[.int .i64 0, .int .i64 0] 24)).cell? ⟨w.heap.size, 1, none⟩ = some (.int .i64 0) ∧ (w.alloc (.cells #[.int .i64 0, .int .i64 0] 24)).frozen? ⟨w.heap.size, 0, none⟩ = false ∧ (w.alloc (.cells #[.int .i64 0, .int .i64 0] 24)).frozen? ⟨w.heap.size, 1, none⟩ = false := ⟨alloc_new rfl rfl, alloc_new rfl rfl, alloc_newF rfl, alloc_newF rfl⟩
  have hz : w.heap.size < (w.alloc (.cells #[.int .i64 0, .int .i64 0] 24)).heap.size := by rw [World.size_alloc]; omega
  have bw0 : Below w.heap.size w (w.alloc (.cells #[.int .i64 0, .int .i64 0] 24)) := below_alloc _ _
  go_enter Try.func20, Try.ntmps20
  go_wp2_with fail
  refine (HT.out _ bw0).mono ?_; rintro e X ⟨rfl, hbX⟩
  have r0 := keepB hbX hz pz.1
  have r1 := keepB hbX hz pz.2.1
  have f0 := keepF hbX hz pz.2.2.1
  have f1 := keepF hbX hz pz.2.2.2
  have bX := bw0.trans (hbX.mono bw0.size)
  have y0 : w.heap.size < X.heap.size := Nat.lt_of_lt_of_le hz hbX.size
  clear hbX pz hz bw0
  go_wp2_with fail
  refine (isIn_any _ _ _ _).mono ?_; rintro e w' ⟨rfl, rfl⟩
  go_wp2_with fail
  refine (worthOf_any b off n cap zs _ (HS.out.keep bX hb) (Nat.lt_of_lt_of_le hb bX.size)).mono ?_; rintro e Y ⟨rfl, hB, hbY⟩
  have r0 := keepB hbY y0 r0
  have r1 := keepB hbY y0 r1
  have f0 := keepF hbY y0 f0
  have f1 := keepF hbY y0 f1
  have bY := bX.trans (hbY.mono bX.size)
  have y1 : w.heap.size < Y.heap.size := Nat.lt_of_lt_of_le y0 hbY.size
  clear hbY bX y0
  have HB := Lib.hid hB
  clear hB
  go_wp2_with fail
  refine (worth_any _ _ _ _ _ _ _ z _ hk (Int.le_refl _) z0 z1 HB.out).mono ?_; rintro e V ⟨rfl, hbV⟩
  have r0 := keepB hbV y1 r0
  have r1 := keepB hbV y1 r1
  have f0 := keepF hbV y1 f0
  have f1 := keepF hbV y1 f1
  have bX := bY.trans (hbV.mono bY.size)
  clear hbV bY
  go_wp2
  exact bodyPost_ret (v := .tuple #[.agg #[.int .i64 (valLo n zs z), .int .i64 (valHi n zs z)], .int .i64 0]) (by simp [results, Try.results20, go_sem, set_same (i := 0) (v := .int .i64 (valLo n zs z)) r0, set_other (i := 1) (j := 0) (v := .int .i64 (valHi n zs z)) (by decide) (set_same (i := 0) (v := .int .i64 (valLo n zs z)) r0), set_same (i := 1) (v := .int .i64 (valHi n zs z)) (set_other (i := 0) (j := 1) (v := .int .i64 (valLo n zs z)) (by decide) r1)]) rfl ⟨rfl, ((bX.setCell (p := ⟨w.heap.size, 0, none⟩) (by dsimp only; omega) _).setCell (p := ⟨w.heap.size, 1, none⟩) (by dsimp only; omega) _)⟩

theorem Value_any (a : Option Addr) (n cap : Nat) (zs : Nat → Int × Int) (z : Int) (w : World) (hs : SliceIs w a n cap zs) :
    Calls Try.prog 20 #[.slice a n cap, .int .i64 z] w fun e w' => e = .returned (.tuple #[.agg #[.int .i64 (vL n zs z), .int .i64 (vH n zs z)], .int .i64 (vE n zs z)]) ∧ Below w.heap.size w w' := by
  have hT : ∀ W, Below w.heap.size w W → Calls Try.prog 14 #[.slice a n cap, .int .i64 1073741824] W fun e w' => e = .returned (.int .i64 (tabC n zs 1073741824)) ∧ Below W.heap.size W w' := fun W hW => CheckTable_any a n cap zs _ W (hs.keep hW)
  by_cases h : tabC n zs 1073741824 = 0
  · rw [h] at hT
    cases hz : inB z 0 1073741824
    · have e : vE n zs z = 3 := by unfold vE; rw [if_pos h, hz]; rfl
      have e2 : vL n zs z = 0 ∧ vH n zs z = 0 := by unfold vL vH; rw [if_neg (by omega), if_neg (by omega)]; exact ⟨rfl, rfl⟩
      rw [e, e2.1, e2.2]
      exact Value_out a n cap z w hz hT
    · have e : vE n zs z = 0 := by unfold vE; rw [if_pos h, hz]; rfl
      have e2 : vL n zs z = valLo n zs z ∧ vH n zs z = valHi n zs z := by unfold vL vH; rw [if_pos e, if_pos e]; exact ⟨rfl, rfl⟩
      rw [e, e2.1, e2.2]
      have hk := tab_ok h
      rcases hs with h0 | ⟨b, off, rfl, hb, hs⟩
      · have := hk.n2; omega
      · exact Value_ok b off n cap zs z w hk hz hs hb hT
  · have e : vE n zs z = tabC n zs 1073741824 := by unfold vE; rw [if_neg h]
    have e2 : vL n zs z = 0 ∧ vH n zs z = 0 := by unfold vL vH; rw [if_neg (by omega), if_neg (by omega)]; exact ⟨rfl, rfl⟩
    rw [e, e2.1, e2.2]
    exact Value_bad a n cap z _ w h hT

set_option maxHeartbeats 1600000 in
theorem refValue_bad (a : Option Addr) (n cap : Nat) (z e0 : Int) (w : World) (he : e0 ≠ 0) (hT : ∀ W, Below w.heap.size w W → Calls Try.prog 15 #[.slice a n cap, .int .i64 1073741824] W fun e w' => e = .returned (.int .i64 e0) ∧ Below W.heap.size W w') :
    Calls Try.prog 21 #[.slice a n cap, .int .i64 z] w fun e w' => e = .returned (.tuple #[.agg #[.int .i64 0, .int .i64 0], .int .i64 e0]) ∧ Below w.heap.size w w' := by
  have HT := Lib.hid hT
  clear hT
  have hne : (e0 != 0) = true := bne_iff_ne.2 he
  have hne2 : (e0 == 0) = false := beq_eq_false_iff_ne.2 he
  have pz : (w.alloc (.cells #[.int .i64 0, .int .i64 0] 24)).cell? ⟨w.heap.size, 0, none⟩ = some (.int .i64 0) ∧ (w.alloc (.cells #[.int .i64 0, .int .i64 0] 24)).cell? ⟨w.heap.size, 1, none⟩ = some (.int .i64 0) ∧ (w.alloc (.cells #[.int .i64 0, .int .i64 0] 24)).frozen? ⟨w.heap.size, 0, none⟩ = false ∧ (w.alloc (.cells #[.int .i64 0, .int .i64 0] 24)).frozen? ⟨w.heap.size, 1, none⟩ = false := ⟨alloc_new rfl rfl, alloc_new rfl rfl, alloc_newF rfl, alloc_newF rfl⟩
  have hz : w.heap.size < (w.alloc (.cells #[.int .i64 0, .int .i64 0] 24)).heap.size := by rw [World.size_alloc]; omega
  have bw0 : Below w.heap.size w (w.alloc (.cells #[.int .i64 0, .int .i64 0] 24)) := below_alloc _ _
  go_enter Try.func21, Try.ntmps21
  go_wp2_with fail
  refine (HT.out _ bw0).mono ?_; rintro e X ⟨rfl, hbX⟩
  have r0 := keepB hbX hz pz.1
  have r1 := keepB hbX hz pz.2.1
  have f0 := keepF hbX hz pz.2.2.1
  have f1 := keepF hbX hz pz.2.2.2
  have bX := bw0.trans (hbX.mono bw0.size)
  have y0 : w.heap.size < X.heap.size := Nat.lt_of_lt_of_le hz hbX.size
  clear hbX pz hz bw0
  go_wp2
  exact bodyPost_ret (v := .tuple #[.agg #[.int .i64 0, .int .i64 0], .int .i64 e0]) (by simp [results, Try.results21, go_sem, set_same (i := 0) (v := .int .i64 0) r0, set_other (i := 1) (j := 0) (v := .int .i64 0) (by decide) (set_same (i := 0) (v := .int .i64 0) r0), set_same (i := 1) (v := .int .i64 0) (set_other (i := 0) (j := 1) (v := .int .i64 0) (by decide) r1)]) rfl ⟨rfl, ((bX.setCell (p := ⟨w.heap.size, 0, none⟩) (by dsimp only; omega) _).setCell (p := ⟨w.heap.size, 1, none⟩) (by dsimp only; omega) _)⟩

set_option maxHeartbeats 1600000 in
theorem refValue_out (a : Option Addr) (n cap : Nat) (z : Int) (w : World) (hz0 : inB z 0 1073741824 = false) (hT : ∀ W, Below w.heap.size w W → Calls Try.prog 15 #[.slice a n cap, .int .i64 1073741824] W fun e w' => e = .returned (.int .i64 0) ∧ Below W.heap.size W w') :
    Calls Try.prog 21 #[.slice a n cap, .int .i64 z] w fun e w' => e = .returned (.tuple #[.agg #[.int .i64 0, .int .i64 0], .int .i64 3]) ∧ Below w.heap.size w w' := by
  have HT := Lib.hid hT
  clear hT
  have pz : (w.alloc (.cells #[.int .i64 0, .int .i64 0] 24)).cell? ⟨w.heap.size, 0, none⟩ = some (.int .i64 0) ∧ (w.alloc (.cells #[.int .i64 0, .int .i64 0] 24)).cell? ⟨w.heap.size, 1, none⟩ = some (.int .i64 0) ∧ (w.alloc (.cells #[.int .i64 0, .int .i64 0] 24)).frozen? ⟨w.heap.size, 0, none⟩ = false ∧ (w.alloc (.cells #[.int .i64 0, .int .i64 0] 24)).frozen? ⟨w.heap.size, 1, none⟩ = false := ⟨alloc_new rfl rfl, alloc_new rfl rfl, alloc_newF rfl, alloc_newF rfl⟩
  have hz : w.heap.size < (w.alloc (.cells #[.int .i64 0, .int .i64 0] 24)).heap.size := by rw [World.size_alloc]; omega
  have bw0 : Below w.heap.size w (w.alloc (.cells #[.int .i64 0, .int .i64 0] 24)) := below_alloc _ _
  go_enter Try.func21, Try.ntmps21
  go_wp2_with fail
  refine (HT.out _ bw0).mono ?_; rintro e X ⟨rfl, hbX⟩
  have r0 := keepB hbX hz pz.1
  have r1 := keepB hbX hz pz.2.1
  have f0 := keepF hbX hz pz.2.2.1
  have f1 := keepF hbX hz pz.2.2.2
  have bX := bw0.trans (hbX.mono bw0.size)
  have y0 : w.heap.size < X.heap.size := Nat.lt_of_lt_of_le hz hbX.size
  clear hbX pz hz bw0
  go_wp2_with fail
  refine (refIn_any _ _ _ _).mono ?_; rintro e w' ⟨rfl, rfl⟩
  go_wp2
  exact bodyPost_ret (v := .tuple #[.agg #[.int .i64 0, .int .i64 0], .int .i64 3]) (by simp [results, Try.results21, go_sem, set_same (i := 0) (v := .int .i64 0) r0, set_other (i := 1) (j := 0) (v := .int .i64 0) (by decide) (set_same (i := 0) (v := .int .i64 0) r0), set_same (i := 1) (v := .int .i64 0) (set_other (i := 0) (j := 1) (v := .int .i64 0) (by decide) r1)]) rfl ⟨rfl, ((bX.setCell (p := ⟨w.heap.size, 0, none⟩) (by dsimp only; omega) _).setCell (p := ⟨w.heap.size, 1, none⟩) (by dsimp only; omega) _)⟩

set_option maxHeartbeats 3200000 in
theorem refValue_ok (b off n cap : Nat) (zs : Nat → Int × Int) (z : Int) (w : World) (hk : TabOk n zs 1073741824) (hz0 : inB z 0 1073741824 = true) (hs : SpansAt w b off n zs) (hb : b < w.heap.size) (hT : ∀ W, Below w.heap.size w W → Calls Try.prog 15 #[.slice (some ⟨b, off, none⟩) n cap, .int .i64 1073741824] W fun e w' => e = .returned (.int .i64 0) ∧ Below W.heap.size W w') :
    Calls Try.prog 21 #[.slice (some ⟨b, off, none⟩) n cap, .int .i64 z] w fun e w' => e = .returned (.tuple #[.agg #[.int .i64 (valLo n zs z), .int .i64 (valHi n zs z)], .int .i64 0]) ∧ Below w.heap.size w w' := by
  have HT := Lib.hid hT
  have HS := Lib.hid hs
  clear hT hs
  obtain ⟨z0, z1⟩ := inB_true.1 hz0
  have pz : (w.alloc (.cells #[.int .i64 0, .int .i64 0] 24)).cell? ⟨w.heap.size, 0, none⟩ = some (.int .i64 0) ∧ (w.alloc (.cells #[.int .i64 0, .int .i64 0] 24)).cell? ⟨w.heap.size, 1, none⟩ = some (.int .i64 0) ∧ (w.alloc (.cells #[.int .i64 0, .int .i64 0] 24)).frozen? ⟨w.heap.size, 0, none⟩ = false ∧ (w.alloc (.cells #[.int .i64 0, .int .i64 0] 24)).frozen? ⟨w.heap.size, 1, none⟩ = false := ⟨alloc_new rfl rfl, alloc_new rfl rfl, alloc_newF rfl, alloc_newF rfl⟩
  have hz : w.heap.size < (w.alloc (.cells #[.int .i64 0, .int .i64 0] 24)).heap.size := by rw [World.size_alloc]; omega
  have bw0 : Below w.heap.size w (w.alloc (.cells #[.int .i64 0, .int .i64 0] 24)) := below_alloc _ _
  go_enter Try.func21, Try.ntmps21
  go_wp2_with fail
  refine (HT.out _ bw0).mono ?_; rintro e X ⟨rfl, hbX⟩
  have r0 := keepB hbX hz pz.1
  have r1 := keepB hbX hz pz.2.1
  have f0 := keepF hbX hz pz.2.2.1
  have f1 := keepF hbX hz pz.2.2.2
  have bX := bw0.trans (hbX.mono bw0.size)
  have y0 : w.heap.size < X.heap.size := Nat.lt_of_lt_of_le hz hbX.size
  clear hbX pz hz bw0
  go_wp2_with fail
  refine (refIn_any _ _ _ _).mono ?_; rintro e w' ⟨rfl, rfl⟩
  go_wp2_with fail
  refine (refvalue_some b off n cap zs _ z _ hk (Int.le_refl _) z0 z1 (HS.out.keep bX hb) (Nat.lt_of_lt_of_le hb bX.size)).mono ?_; rintro e Y ⟨rfl, hbY⟩
  have r0 := keepB hbY y0 r0
  have r1 := keepB hbY y0 r1
  have f0 := keepF hbY y0 f0
  have f1 := keepF hbY y0 f1
  have bX := bX.trans (hbY.mono bX.size)
  clear hbY
  go_wp2
  exact bodyPost_ret (v := .tuple #[.agg #[.int .i64 (valLo n zs z), .int .i64 (valHi n zs z)], .int .i64 0]) (by simp [results, Try.results21, go_sem, set_same (i := 0) (v := .int .i64 (valLo n zs z)) r0, set_other (i := 1) (j := 0) (v := .int .i64 (valHi n zs z)) (by decide) (set_same (i := 0) (v := .int .i64 (valLo n zs z)) r0), set_same (i := 1) (v := .int .i64 (valHi n zs z)) (set_other (i := 0) (j := 1) (v := .int .i64 (valLo n zs z)) (by decide) r1)]) rfl ⟨rfl, ((bX.setCell (p := ⟨w.heap.size, 0, none⟩) (by dsimp only; omega) _).setCell (p := ⟨w.heap.size, 1, none⟩) (by dsimp only; omega) _)⟩

theorem refValue_any (a : Option Addr) (n cap : Nat) (zs : Nat → Int × Int) (z : Int) (w : World) (hs : SliceIs w a n cap zs) :
    Calls Try.prog 21 #[.slice a n cap, .int .i64 z] w fun e w' => e = .returned (.tuple #[.agg #[.int .i64 (vL n zs z), .int .i64 (vH n zs z)], .int .i64 (vE n zs z)]) ∧ Below w.heap.size w w' := by
  have hT : ∀ W, Below w.heap.size w W → Calls Try.prog 15 #[.slice a n cap, .int .i64 1073741824] W fun e w' => e = .returned (.int .i64 (tabC n zs 1073741824)) ∧ Below W.heap.size W w' := fun W hW => refCheckTable_any a n cap zs _ W (hs.keep hW)
  by_cases h : tabC n zs 1073741824 = 0
  · rw [h] at hT
    cases hz : inB z 0 1073741824
    · have e : vE n zs z = 3 := by unfold vE; rw [if_pos h, hz]; rfl
      have e2 : vL n zs z = 0 ∧ vH n zs z = 0 := by unfold vL vH; rw [if_neg (by omega), if_neg (by omega)]; exact ⟨rfl, rfl⟩
      rw [e, e2.1, e2.2]
      exact refValue_out a n cap z w hz hT
    · have e : vE n zs z = 0 := by unfold vE; rw [if_pos h, hz]; rfl
      have e2 : vL n zs z = valLo n zs z ∧ vH n zs z = valHi n zs z := by unfold vL vH; rw [if_pos e, if_pos e]; exact ⟨rfl, rfl⟩
      rw [e, e2.1, e2.2]
      have hk := tab_ok h
      rcases hs with h0 | ⟨b, off, rfl, hb, hs⟩
      · have := hk.n2; omega
      · exact refValue_ok b off n cap zs z w hk hz hs hb hT
  · have e : vE n zs z = tabC n zs 1073741824 := by unfold vE; rw [if_neg h]
    have e2 : vL n zs z = 0 ∧ vH n zs z = 0 := by unfold vL vH; rw [if_neg (by omega), if_neg (by omega)]; exact ⟨rfl, rfl⟩
    rw [e, e2.1, e2.2]
    exact refValue_bad a n cap z _ w h hT

/-- the points of an example -/
def tZ (i : Nat) : Int × Int := if i = 0 then (0, 0) else if i = 1 then (100, 10) else (200, 110)
set_option maxHeartbeats 800000 in
theorem T_any (w : World) : Calls Try.prog 22 #[] w fun e w' => e = .returned (.slice (some ⟨w.heap.size, 0, none⟩) 3 3) ∧ SpansAt w' w.heap.size 0 3 tZ ∧ w.heap.size < w'.heap.size ∧ Below w.heap.size w w' := by
  go_enter Try.func22, Try.ntmps22
  go_wp2
  go_ret
  refine ⟨rfl, fun i hi => ⟨?_, ?_⟩, by simp, below_alloc _ _⟩ <;> (match i, hi with
    | 0, _ => exact alloc_new rfl rfl
    | 1, _ => exact alloc_new rfl rfl
    | 2, _ => exact alloc_new rfl rfl
    | i + 3, h => omega)

/-- the points of an example -/
def lZ (i : Nat) : Int × Int := if i = 0 then (0, 0) else (1000, 32768)
set_option maxHeartbeats 800000 in
theorem L_any (w : World) : Calls Try.prog 48 #[] w fun e w' => e = .returned (.slice (some ⟨w.heap.size, 0, none⟩) 2 2) ∧ SpansAt w' w.heap.size 0 2 lZ ∧ w.heap.size < w'.heap.size ∧ Below w.heap.size w w' := by
  go_enter Try.func48, Try.ntmps48
  go_wp2
  go_ret
  refine ⟨rfl, fun i hi => ⟨?_, ?_⟩, by simp, below_alloc _ _⟩ <;> (match i, hi with
    | 0, _ => exact alloc_new rfl rfl
    | 1, _ => exact alloc_new rfl rfl
    | i + 2, h => omega)

end Go.Proofs.Ytdmbkhmhaininaa
