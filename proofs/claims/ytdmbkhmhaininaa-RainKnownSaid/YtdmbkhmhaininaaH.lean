/-
  Gauges.
-/
import Derived.Test.YtdmbkhmhaininaaF
namespace Go.Proofs.Ytdmbkhmhaininaa
open Go.RowKit
set_option linter.unusedVariables false
set_option linter.unusedSimpArgs false

/-- what fell into a gauge -/
def feL (tips size : Int) : Int := max 0 ((tips - 1) * size + 1)
def feH (tips size : Int) : Int := (tips + 1) * size - 1
def feE (tips size : Int) : Int := if inB tips 0 1000000 && inB size 1 10000 then 0 else 3
def feLo (tips size : Int) : Int := if feE tips size = 0 then feL tips size else 0
def feHi (tips size : Int) : Int := if feE tips size = 0 then feH tips size else 0
theorem fell_boxes (w : World) (tips size : Int) : ∃ A, A = (w.alloc (.cells #[.int .i64 tips, .int .i64 size] 68)).alloc (.cells #[.int .i64 0, .int .i64 0] 24) ∧ Below w.heap.size w A ∧ A.heap.size = w.heap.size + 2 ∧ A.cell? ⟨w.heap.size, 0, none⟩ = some (.int .i64 tips) ∧ A.cell? ⟨w.heap.size, 1, none⟩ = some (.int .i64 size) ∧ A.cell? ⟨w.heap.size + 1, 0, none⟩ = some (.int .i64 0) ∧ A.cell? ⟨w.heap.size + 1, 1, none⟩ = some (.int .i64 0) ∧ A.frozen? ⟨w.heap.size + 1, 0, none⟩ = false ∧ A.frozen? ⟨w.heap.size + 1, 1, none⟩ = false := by
  obtain ⟨A0, e0⟩ : ∃ A, A = w.alloc (.cells #[.int .i64 tips, .int .i64 size] 68) := ⟨_, rfl⟩
  have s0 : A0.heap.size = w.heap.size + 1 := by rw [e0, World.size_alloc]
  have b0 : Below w.heap.size w A0 := by rw [e0]; exact below_alloc _ _
  have c0_0_0 : A0.cell? ⟨w.heap.size, 0, none⟩ = some (.int .i64 tips) := by rw [e0]; exact alloc_new rfl rfl
  have c0_1_0 : A0.cell? ⟨w.heap.size, 1, none⟩ = some (.int .i64 size) := by rw [e0]; exact alloc_new rfl rfl
  rw [← e0]
  exact ⟨_, rfl, b0.trans ((below_alloc _ _).mono (by omega)), by rw [World.size_alloc]; omega, alloc_keep (by omega) c0_0_0, alloc_keep (by omega) c0_1_0, alloc_new s0.symm rfl, alloc_new s0.symm rfl, alloc_newF s0.symm, alloc_newF s0.symm⟩
theorem rfell_boxes (w : World) (tips size : Int) : ∃ A, A = (w.alloc (.cells #[.int .i64 tips, .int .i64 size] 71)).alloc (.cells #[.int .i64 0, .int .i64 0] 24) ∧ Below w.heap.size w A ∧ A.heap.size = w.heap.size + 2 ∧ A.cell? ⟨w.heap.size, 0, none⟩ = some (.int .i64 tips) ∧ A.cell? ⟨w.heap.size, 1, none⟩ = some (.int .i64 size) ∧ A.cell? ⟨w.heap.size + 1, 0, none⟩ = some (.int .i64 0) ∧ A.cell? ⟨w.heap.size + 1, 1, none⟩ = some (.int .i64 0) ∧ A.frozen? ⟨w.heap.size + 1, 0, none⟩ = false ∧ A.frozen? ⟨w.heap.size + 1, 1, none⟩ = false := by
  obtain ⟨A0, e0⟩ : ∃ A, A = w.alloc (.cells #[.int .i64 tips, .int .i64 size] 71) := ⟨_, rfl⟩
  have s0 : A0.heap.size = w.heap.size + 1 := by rw [e0, World.size_alloc]
  have b0 : Below w.heap.size w A0 := by rw [e0]; exact below_alloc _ _
  have c0_0_0 : A0.cell? ⟨w.heap.size, 0, none⟩ = some (.int .i64 tips) := by rw [e0]; exact alloc_new rfl rfl
  have c0_1_0 : A0.cell? ⟨w.heap.size, 1, none⟩ = some (.int .i64 size) := by rw [e0]; exact alloc_new rfl rfl
  rw [← e0]
  exact ⟨_, rfl, b0.trans ((below_alloc _ _).mono (by omega)), by rw [World.size_alloc]; omega, alloc_keep (by omega) c0_0_0, alloc_keep (by omega) c0_1_0, alloc_new s0.symm rfl, alloc_new s0.symm rfl, alloc_newF s0.symm, alloc_newF s0.symm⟩

set_option maxHeartbeats 1600000 in
theorem fell_any (tips size : Int) (w : World) (h1 : 0 ≤ tips) (h2 : tips ≤ 1000000) (h3 : 1 ≤ size) (h4 : size ≤ 10000) :
    Calls Try.prog 72 #[.agg #[.int .i64 tips, .int .i64 size]] w fun e w' => e = .returned (.agg #[.int .i64 (feL tips size), .int .i64 (feH tips size)]) ∧ Below w.heap.size w w' := by
  unfold feL feH
  have m0 := mul_bd (a := tips) (b := size) (A := 1000000) (B := 10000) h1 h2 (by omega) h4
  have e1 : (tips - 1) * size = tips * size - size := by rw [Int.sub_mul, Int.one_mul]
  have e2 : (tips + 1) * size = tips * size + size := by rw [Int.add_mul, Int.one_mul]
  obtain ⟨P1, hP1⟩ : ∃ x, x = (tips - 1) * size := ⟨_, rfl⟩
  obtain ⟨P2, hP2⟩ : ∃ x, x = (tips + 1) * size := ⟨_, rfl⟩
  have p1 : -10000 ≤ P1 ∧ P1 ≤ 10000000000 := by rw [hP1, e1]; omega
  have p2 : 0 ≤ P2 ∧ P2 ≤ 20000000000 := by rw [hP2, e2]; omega
  clear e1 e2 m0
  have j1 : IntKind.i64.wrap P1 = P1 := IntWalk.i64_in _ (by omega)
  have j2 : IntKind.i64.wrap P2 = P2 := IntWalk.i64_in _ (by omega)
  have i1 : IntKind.i64.wrap ((tips - 1) * size) = P1 := by rw [← hP1]; exact j1
  have i2 : IntKind.i64.wrap ((tips + 1) * size) = P2 := by rw [← hP2]; exact j2
  have i3 : (tips - 1) * size = P1 := hP1.symm
  have i4 : (tips + 1) * size = P2 := hP2.symm
  rw [← hP1, ← hP2]
  clear hP1 hP2
  obtain ⟨M, hM⟩ : ∃ x, x = max 0 (P1 + 1) := ⟨_, rfl⟩
  have i5 : (if 0 < P1 + 1 then P1 + 1 else 0) = M := by rw [hM]; split <;> omega
  have i6 : max 0 (P1 + 1) = M := hM.symm
  have i7 : IntKind.i64.wrap (P1 + 1) = P1 + 1 := IntWalk.i64_in _ (by omega)
  have i8 : IntKind.i64.wrap (P2 - 1) = P2 - 1 := IntWalk.i64_in _ (by omega)
  rw [← hM]
  clear hM
  obtain ⟨Y, hY, bY, zY, c0, c1, c2, c3, f2, f3⟩ := fell_boxes w tips size
  rw [hY] at c0 c1
  have hY2 := Lib.hid hY
  clear hY
  go_enter Try.func72, Try.ntmps72
  go_wp2
  exact bodyPost_ret (v := .agg #[.int .i64 M, .int .i64 (P2 - 1)]) (by simp [results, Try.results72, go_sem]) rfl ⟨rfl, by repeat (first | exact Below.refl _ _ | (refine Below.alloc ?_ (by first | (simp; done) | (simp only [World.size_alloc]; omega) | (simp; omega)) _))⟩

set_option maxHeartbeats 1600000 in
theorem Fell_bad1 (tips size : Int) (w : World) (h : inB tips 0 1000000 = false) : Calls Try.prog 35 #[.agg #[.int .i64 tips, .int .i64 size]] w fun e w' => e = .returned (.tuple #[.agg #[.int .i64 0, .int .i64 0], .int .i64 3]) ∧ Below w.heap.size w w' := by
  have HI : Hid (∀ W : World, Calls Try.prog 49 #[.int .i64 tips, .int .i64 0, .int .i64 1000000] W fun e w' => e = .returned (.bool false) ∧ W = w') := Lib.hid fun W => by rw [← h]; exact isIn_any _ _ _ W
  clear h
  obtain ⟨Y, hY, bY, zY, c0, c1, r0, r1, f0, f1⟩ := fell_boxes w tips size
  go_enter Try.func35, Try.ntmps35
  go_wp2_with fail
  rw [← hY]
  clear hY
  refine (HI.out _).mono ?_; rintro e w' ⟨rfl, rfl⟩
  go_wp2
  exact bodyPost_ret (v := .tuple #[.agg #[.int .i64 0, .int .i64 0], .int .i64 3]) (by simp [results, Try.results35, go_sem, set_same (i := 0) (v := .int .i64 0) r0, set_other (i := 1) (j := 0) (v := .int .i64 0) (by decide) (set_same (i := 0) (v := .int .i64 0) r0), set_same (i := 1) (v := .int .i64 0) (set_other (i := 0) (j := 1) (v := .int .i64 0) (by decide) r1)]) rfl ⟨rfl, ((bY.setCell (p := ⟨w.heap.size + 1, 0, none⟩) (by dsimp only; omega) _).setCell (p := ⟨w.heap.size + 1, 1, none⟩) (by dsimp only; omega) _)⟩

set_option maxHeartbeats 1600000 in
theorem Fell_bad2 (tips size : Int) (w : World) (h : inB tips 0 1000000 = true) (h2 : inB size 1 10000 = false) : Calls Try.prog 35 #[.agg #[.int .i64 tips, .int .i64 size]] w fun e w' => e = .returned (.tuple #[.agg #[.int .i64 0, .int .i64 0], .int .i64 3]) ∧ Below w.heap.size w w' := by
  have HI : Hid (∀ W : World, Calls Try.prog 49 #[.int .i64 tips, .int .i64 0, .int .i64 1000000] W fun e w' => e = .returned (.bool true) ∧ W = w') := Lib.hid fun W => by rw [← h]; exact isIn_any _ _ _ W
  have HI2 : Hid (∀ W : World, Calls Try.prog 49 #[.int .i64 size, .int .i64 1, .int .i64 10000] W fun e w' => e = .returned (.bool false) ∧ W = w') := Lib.hid fun W => by rw [← h2]; exact isIn_any _ _ _ W
  clear h h2
  obtain ⟨Y, hY, bY, zY, c0, c1, r0, r1, f0, f1⟩ := fell_boxes w tips size
  go_enter Try.func35, Try.ntmps35
  go_wp2_with fail
  rw [← hY]
  clear hY
  refine (HI.out _).mono ?_; rintro e w' ⟨rfl, rfl⟩
  go_wp2_with fail
  refine (HI2.out _).mono ?_; rintro e w' ⟨rfl, rfl⟩
  go_wp2
  exact bodyPost_ret (v := .tuple #[.agg #[.int .i64 0, .int .i64 0], .int .i64 3]) (by simp [results, Try.results35, go_sem, set_same (i := 0) (v := .int .i64 0) r0, set_other (i := 1) (j := 0) (v := .int .i64 0) (by decide) (set_same (i := 0) (v := .int .i64 0) r0), set_same (i := 1) (v := .int .i64 0) (set_other (i := 0) (j := 1) (v := .int .i64 0) (by decide) r1)]) rfl ⟨rfl, ((bY.setCell (p := ⟨w.heap.size + 1, 0, none⟩) (by dsimp only; omega) _).setCell (p := ⟨w.heap.size + 1, 1, none⟩) (by dsimp only; omega) _)⟩

set_option maxHeartbeats 1600000 in
theorem Fell_ok (tips size : Int) (w : World) (h : inB tips 0 1000000 = true) (hh : inB size 1 10000 = true) : Calls Try.prog 35 #[.agg #[.int .i64 tips, .int .i64 size]] w fun e w' => e = .returned (.tuple #[.agg #[.int .i64 (feL tips size), .int .i64 (feH tips size)], .int .i64 0]) ∧ Below w.heap.size w w' := by
  obtain ⟨h1, h2⟩ := inB_true.1 h
  obtain ⟨h3, h4⟩ := inB_true.1 hh
  have HI : Hid (∀ W : World, Calls Try.prog 49 #[.int .i64 tips, .int .i64 0, .int .i64 1000000] W fun e w' => e = .returned (.bool true) ∧ W = w') := Lib.hid fun W => by rw [← h]; exact isIn_any _ _ _ W
  have HI2 : Hid (∀ W : World, Calls Try.prog 49 #[.int .i64 size, .int .i64 1, .int .i64 10000] W fun e w' => e = .returned (.bool true) ∧ W = w') := Lib.hid fun W => by rw [← hh]; exact isIn_any _ _ _ W
  clear h hh
  obtain ⟨Y, hY, bY, zY, c0, c1, r0, r1, f0, f1⟩ := fell_boxes w tips size
  go_enter Try.func35, Try.ntmps35
  go_wp2_with fail
  rw [← hY]
  clear hY
  refine (HI.out _).mono ?_; rintro e w' ⟨rfl, rfl⟩
  go_wp2_with fail
  refine (HI2.out _).mono ?_; rintro e w' ⟨rfl, rfl⟩
  go_wp2_with fail
  refine (fell_any tips size _ h1 h2 h3 h4).mono ?_; rintro e X ⟨rfl, hbX⟩
  have x0 := keepB hbX (by omega) r0
  have x1 := keepB hbX (by omega) r1
  have g0 := keepF hbX (by omega) f0
  have g1 := keepF hbX (by omega) f1
  have bX := bY.trans (hbX.mono bY.size)
  clear r0 r1 f0 f1 c0 c1 hbX
  go_wp2
  exact bodyPost_ret (v := .tuple #[.agg #[.int .i64 (feL tips size), .int .i64 (feH tips size)], .int .i64 0]) (by simp [results, Try.results35, go_sem, set_same (i := 0) (v := .int .i64 (feL tips size)) x0, set_other (i := 1) (j := 0) (v := .int .i64 (feH tips size)) (by decide) (set_same (i := 0) (v := .int .i64 (feL tips size)) x0), set_same (i := 1) (v := .int .i64 (feH tips size)) (set_other (i := 0) (j := 1) (v := .int .i64 (feL tips size)) (by decide) x1)]) rfl ⟨rfl, ((bX.setCell (p := ⟨w.heap.size + 1, 0, none⟩) (by dsimp only; omega) _).setCell (p := ⟨w.heap.size + 1, 1, none⟩) (by dsimp only; omega) _)⟩

theorem Fell_any (tips size : Int) (w : World) : Calls Try.prog 35 #[.agg #[.int .i64 tips, .int .i64 size]] w fun e w' => e = .returned (.tuple #[.agg #[.int .i64 (feLo tips size), .int .i64 (feHi tips size)], .int .i64 (feE tips size)]) ∧ Below w.heap.size w w' := by
  cases h : inB tips 0 1000000
  · have e : feE tips size = 3 := by unfold feE; rw [h]; rfl
    have e2 : feLo tips size = 0 ∧ feHi tips size = 0 := by unfold feLo feHi; rw [if_neg (by omega), if_neg (by omega)]; exact ⟨rfl, rfl⟩
    rw [e, e2.1, e2.2]; exact Fell_bad1 tips size w h
  · cases h2 : inB size 1 10000
    · have e : feE tips size = 3 := by unfold feE; rw [h, h2]; rfl
      have e2 : feLo tips size = 0 ∧ feHi tips size = 0 := by unfold feLo feHi; rw [if_neg (by omega), if_neg (by omega)]; exact ⟨rfl, rfl⟩
      rw [e, e2.1, e2.2]; exact Fell_bad2 tips size w h h2
    · have e : feE tips size = 0 := by unfold feE; rw [h, h2]; rfl
      have e2 : feLo tips size = feL tips size ∧ feHi tips size = feH tips size := by unfold feLo feHi; rw [if_pos e, if_pos e]; exact ⟨rfl, rfl⟩
      rw [e, e2.1, e2.2]; exact Fell_ok tips size w h h2

set_option maxHeartbeats 1600000 in
theorem refFell_bad1 (tips size : Int) (w : World) (h : inB tips 0 1000000 = false) : Calls Try.prog 36 #[.agg #[.int .i64 tips, .int .i64 size]] w fun e w' => e = .returned (.tuple #[.agg #[.int .i64 0, .int .i64 0], .int .i64 3]) ∧ Below w.heap.size w w' := by
  have HI : Hid (∀ W : World, Calls Try.prog 51 #[.int .i64 tips, .int .i64 0, .int .i64 1000000] W fun e w' => e = .returned (.bool false) ∧ W = w') := Lib.hid fun W => by rw [← h]; exact refIn_any _ _ _ W
  clear h
  obtain ⟨Y, hY, bY, zY, c0, c1, r0, r1, f0, f1⟩ := rfell_boxes w tips size
  go_enter Try.func36, Try.ntmps36
  go_wp2_with fail
  rw [← hY]
  clear hY
  refine (HI.out _).mono ?_; rintro e w' ⟨rfl, rfl⟩
  go_wp2
  exact bodyPost_ret (v := .tuple #[.agg #[.int .i64 0, .int .i64 0], .int .i64 3]) (by simp [results, Try.results36, go_sem, set_same (i := 0) (v := .int .i64 0) r0, set_other (i := 1) (j := 0) (v := .int .i64 0) (by decide) (set_same (i := 0) (v := .int .i64 0) r0), set_same (i := 1) (v := .int .i64 0) (set_other (i := 0) (j := 1) (v := .int .i64 0) (by decide) r1)]) rfl ⟨rfl, ((bY.setCell (p := ⟨w.heap.size + 1, 0, none⟩) (by dsimp only; omega) _).setCell (p := ⟨w.heap.size + 1, 1, none⟩) (by dsimp only; omega) _)⟩

set_option maxHeartbeats 1600000 in
theorem refFell_bad2 (tips size : Int) (w : World) (h : inB tips 0 1000000 = true) (h2 : inB size 1 10000 = false) : Calls Try.prog 36 #[.agg #[.int .i64 tips, .int .i64 size]] w fun e w' => e = .returned (.tuple #[.agg #[.int .i64 0, .int .i64 0], .int .i64 3]) ∧ Below w.heap.size w w' := by
  have HI : Hid (∀ W : World, Calls Try.prog 51 #[.int .i64 tips, .int .i64 0, .int .i64 1000000] W fun e w' => e = .returned (.bool true) ∧ W = w') := Lib.hid fun W => by rw [← h]; exact refIn_any _ _ _ W
  have HI2 : Hid (∀ W : World, Calls Try.prog 51 #[.int .i64 size, .int .i64 1, .int .i64 10000] W fun e w' => e = .returned (.bool false) ∧ W = w') := Lib.hid fun W => by rw [← h2]; exact refIn_any _ _ _ W
  clear h h2
  obtain ⟨Y, hY, bY, zY, c0, c1, r0, r1, f0, f1⟩ := rfell_boxes w tips size
  go_enter Try.func36, Try.ntmps36
  go_wp2_with fail
  rw [← hY]
  clear hY
  refine (HI.out _).mono ?_; rintro e w' ⟨rfl, rfl⟩
  go_wp2_with fail
  refine (HI2.out _).mono ?_; rintro e w' ⟨rfl, rfl⟩
  go_wp2
  exact bodyPost_ret (v := .tuple #[.agg #[.int .i64 0, .int .i64 0], .int .i64 3]) (by simp [results, Try.results36, go_sem, set_same (i := 0) (v := .int .i64 0) r0, set_other (i := 1) (j := 0) (v := .int .i64 0) (by decide) (set_same (i := 0) (v := .int .i64 0) r0), set_same (i := 1) (v := .int .i64 0) (set_other (i := 0) (j := 1) (v := .int .i64 0) (by decide) r1)]) rfl ⟨rfl, ((bY.setCell (p := ⟨w.heap.size + 1, 0, none⟩) (by dsimp only; omega) _).setCell (p := ⟨w.heap.size + 1, 1, none⟩) (by dsimp only; omega) _)⟩

set_option maxHeartbeats 1600000 in
theorem refFell_ok (tips size : Int) (w : World) (h : inB tips 0 1000000 = true) (hh : inB size 1 10000 = true) : Calls Try.prog 36 #[.agg #[.int .i64 tips, .int .i64 size]] w fun e w' => e = .returned (.tuple #[.agg #[.int .i64 (feL tips size), .int .i64 (feH tips size)], .int .i64 0]) ∧ Below w.heap.size w w' := by
  obtain ⟨h1, h2⟩ := inB_true.1 h
  obtain ⟨h3, h4⟩ := inB_true.1 hh
  have HI : Hid (∀ W : World, Calls Try.prog 51 #[.int .i64 tips, .int .i64 0, .int .i64 1000000] W fun e w' => e = .returned (.bool true) ∧ W = w') := Lib.hid fun W => by rw [← h]; exact refIn_any _ _ _ W
  have HI2 : Hid (∀ W : World, Calls Try.prog 51 #[.int .i64 size, .int .i64 1, .int .i64 10000] W fun e w' => e = .returned (.bool true) ∧ W = w') := Lib.hid fun W => by rw [← hh]; exact refIn_any _ _ _ W
  clear h hh
  unfold feL feH
  have m0 := mul_bd (a := tips) (b := size) (A := 1000000) (B := 10000) h1 h2 (by omega) h4
  have e1 : (tips - 1) * size = tips * size - size := by rw [Int.sub_mul, Int.one_mul]
  have e2 : (tips + 1) * size = tips * size + size := by rw [Int.add_mul, Int.one_mul]
  obtain ⟨P1, hP1⟩ : ∃ x, x = (tips - 1) * size := ⟨_, rfl⟩
  obtain ⟨P2, hP2⟩ : ∃ x, x = (tips + 1) * size := ⟨_, rfl⟩
  have p1 : -10000 ≤ P1 ∧ P1 ≤ 10000000000 := by rw [hP1, e1]; omega
  have p2 : 0 ≤ P2 ∧ P2 ≤ 20000000000 := by rw [hP2, e2]; omega
  clear e1 e2 m0
  have j1 : IntKind.i64.wrap P1 = P1 := IntWalk.i64_in _ (by omega)
  have j2 : IntKind.i64.wrap P2 = P2 := IntWalk.i64_in _ (by omega)
  have i1 : IntKind.i64.wrap ((tips - 1) * size) = P1 := by rw [← hP1]; exact j1
  have i2 : IntKind.i64.wrap ((tips + 1) * size) = P2 := by rw [← hP2]; exact j2
  have i3 : (tips - 1) * size = P1 := hP1.symm
  have i4 : (tips + 1) * size = P2 := hP2.symm
  rw [← hP1, ← hP2]
  clear hP1 hP2
  obtain ⟨M, hM⟩ : ∃ x, x = max 0 (P1 + 1) := ⟨_, rfl⟩
  have i5 : (if 0 < P1 + 1 then P1 + 1 else 0) = M := by rw [hM]; split <;> omega
  have i6 : max 0 (P1 + 1) = M := hM.symm
  have i7 : IntKind.i64.wrap (P1 + 1) = P1 + 1 := IntWalk.i64_in _ (by omega)
  have i8 : IntKind.i64.wrap (P2 - 1) = P2 - 1 := IntWalk.i64_in _ (by omega)
  rw [← hM]
  clear hM
  obtain ⟨Y, hY, bY, zY, c0, c1, r0, r1, f0, f1⟩ := rfell_boxes w tips size
  go_enter Try.func36, Try.ntmps36
  go_wp2_with fail
  rw [← hY]
  clear hY
  refine (HI.out _).mono ?_; rintro e w' ⟨rfl, rfl⟩
  go_wp2_with fail
  refine (HI2.out _).mono ?_; rintro e w' ⟨rfl, rfl⟩
  go_wp2
  exact bodyPost_ret (v := .tuple #[.agg #[.int .i64 M, .int .i64 (P2 - 1)], .int .i64 0]) (by simp [results, Try.results36, go_sem, set_same (i := 0) (v := .int .i64 M) r0, set_other (i := 1) (j := 0) (v := .int .i64 (P2 - 1)) (by decide) (set_same (i := 0) (v := .int .i64 M) r0), set_same (i := 1) (v := .int .i64 (P2 - 1)) (set_other (i := 0) (j := 1) (v := .int .i64 M) (by decide) r1)]) rfl ⟨rfl, ((bY.setCell (p := ⟨w.heap.size + 1, 0, none⟩) (by dsimp only; omega) _).setCell (p := ⟨w.heap.size + 1, 1, none⟩) (by dsimp only; omega) _)⟩

theorem refFell_any (tips size : Int) (w : World) : Calls Try.prog 36 #[.agg #[.int .i64 tips, .int .i64 size]] w fun e w' => e = .returned (.tuple #[.agg #[.int .i64 (feLo tips size), .int .i64 (feHi tips size)], .int .i64 (feE tips size)]) ∧ Below w.heap.size w w' := by
  cases h : inB tips 0 1000000
  · have e : feE tips size = 3 := by unfold feE; rw [h]; rfl
    have e2 : feLo tips size = 0 ∧ feHi tips size = 0 := by unfold feLo feHi; rw [if_neg (by omega), if_neg (by omega)]; exact ⟨rfl, rfl⟩
    rw [e, e2.1, e2.2]; exact refFell_bad1 tips size w h
  · cases h2 : inB size 1 10000
    · have e : feE tips size = 3 := by unfold feE; rw [h, h2]; rfl
      have e2 : feLo tips size = 0 ∧ feHi tips size = 0 := by unfold feLo feHi; rw [if_neg (by omega), if_neg (by omega)]; exact ⟨rfl, rfl⟩
      rw [e, e2.1, e2.2]; exact refFell_bad2 tips size w h h2
    · have e : feE tips size = 0 := by unfold feE; rw [h, h2]; rfl
      have e2 : feLo tips size = feL tips size ∧ feHi tips size = feH tips size := by unfold feLo feHi; rw [if_pos e, if_pos e]; exact ⟨rfl, rfl⟩
      rw [e, e2.1, e2.2]; exact refFell_ok tips size w h h2

end Go.Proofs.Ytdmbkhmhaininaa
