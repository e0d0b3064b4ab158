/-
  The reference's Hear, whatever it is given.
-/
import Derived.Test.Ytmojnopgpgnfeaamh5
import Derived.Test.Ytmojnopgpgnfeaamh6
import Derived.Test.Ytmojnopgpgnfeaamh7
import Derived.Test.Ytmojnopgpgnfeaamh8
namespace Go.Proofs.Ytmojnopgpgnfeaa
open Go.RowKit
set_option linter.unusedVariables false
set_option linter.unusedSimpArgs false

set_option maxRecDepth 100000 in
set_option maxHeartbeats 4000000 in
theorem refHear_err (l kd f s c lv ph n0 n1 : Int) (a : Option Addr) (n cap : Nat) (w : World) (h : ckC l kd f s c lv ph n0 n1 ≠ 0) :
    Calls Try.prog 28 #[.agg #[.int .i64 l, .int .i64 kd, .int .i64 f, .int .i64 s, .int .i64 c], .agg #[.int .i64 lv, .int .i64 ph, .int .i64 n0, .int .i64 n1], .slice a n cap] w fun e w' => e = .returned (.tuple #[.agg #[.int .i64 0, .int .i64 0, .int .i64 0, .int .i64 0, .int .i64 0, .int .i64 0, .int .i64 0, .int .i64 0, .int .i64 0, .int .i64 0, .int .i64 0, .int .i64 0, .int .i64 0, .int .i64 0], .int .i64 (ckC l kd f s c lv ph n0 n1)]) ∧ Below w.heap.size w w' := by
  obtain ⟨E, hE⟩ : ∃ E, E = ckC l kd f s c lv ph n0 n1 := ⟨_, rfl⟩
  have HB0 : Hid (∀ W : World, Calls Try.prog 64 #[.agg #[.int .i64 l, .int .i64 kd, .int .i64 f, .int .i64 s, .int .i64 c], .agg #[.int .i64 lv, .int .i64 ph, .int .i64 n0, .int .i64 n1]] W fun e w' => e = .returned (.int .i64 E) ∧ Below W.heap.size W w') := Lib.hid fun W => by rw [hE]; exact both_any l kd f s c lv ph n0 n1 W
  rw [← hE] at h ⊢
  have hne : (E != 0) = true := bne_iff_ne.2 h
  have hne2 : (E == 0) = false := beq_eq_false_iff_ne.2 h
  clear h hE
  have P0 := Lib.hid (HrP.newR w l kd f s c lv ph n0 n1)
  obtain ⟨U, hU⟩ : ∃ U, U = (((w.alloc (.cells #[.int .i64 l, .int .i64 kd, .int .i64 f, .int .i64 s, .int .i64 c] 34)).alloc (.cells #[.int .i64 lv, .int .i64 ph, .int .i64 n0, .int .i64 n1] 37)).alloc (.cells #[.int .i64 0, .int .i64 0, .int .i64 0, .int .i64 0, .int .i64 0, .int .i64 0, .int .i64 0, .int .i64 0, .int .i64 0, .int .i64 0, .int .i64 0, .int .i64 0, .int .i64 0, .int .i64 0] 30)) := ⟨_, rfl⟩
  rw [← hU] at P0
  go_enter Try.func28, Try.ntmps28
  go_wp2_with fail
  rw [← hU]
  clear hU
  obtain ⟨t0, t1, t2, t3, t4, r0, r1, r2, r3, ho, hzz, hbw⟩ := P0.out
  clear ho
  refine (HB0.out _).mono ?_; rintro e' V ⟨rfl, hbV⟩
  have PV := Lib.hid (P0.out.keep hbV P0.out.z)
  clear t0 t1 t2 t3 t4 r0 r1 r2 r3 hzz hbw P0 hbV HB0
  obtain ⟨t0, t1, t2, t3, t4, r0, r1, r2, r3, ho, hzz, hbw⟩ := PV.out
  have HO := Lib.hid ho
  have oc0 := HO.out.c 0 (by decide)
  have of0 := HO.out.f 0 (by decide)
  have oc1 := HO.out.c 1 (by decide)
  have of1 := HO.out.f 1 (by decide)
  have oc2 := HO.out.c 2 (by decide)
  have of2 := HO.out.f 2 (by decide)
  have oc3 := HO.out.c 3 (by decide)
  have of3 := HO.out.f 3 (by decide)
  have oc4 := HO.out.c 4 (by decide)
  have of4 := HO.out.f 4 (by decide)
  have oc5 := HO.out.c 5 (by decide)
  have of5 := HO.out.f 5 (by decide)
  have oc6 := HO.out.c 6 (by decide)
  have of6 := HO.out.f 6 (by decide)
  have oc7 := HO.out.c 7 (by decide)
  have of7 := HO.out.f 7 (by decide)
  have oc8 := HO.out.c 8 (by decide)
  have of8 := HO.out.f 8 (by decide)
  have oc9 := HO.out.c 9 (by decide)
  have of9 := HO.out.f 9 (by decide)
  have oc10 := HO.out.c 10 (by decide)
  have of10 := HO.out.f 10 (by decide)
  have oc11 := HO.out.c 11 (by decide)
  have of11 := HO.out.f 11 (by decide)
  have oc12 := HO.out.c 12 (by decide)
  have of12 := HO.out.f 12 (by decide)
  have oc13 := HO.out.c 13 (by decide)
  have of13 := HO.out.f 13 (by decide)
  go_wp2
  obtain ⟨Z, hZ⟩ : ∃ Z, Z = ((((((((((((((V.setCell ⟨w.heap.size + 1 + 1, 0, none⟩ (.int .i64 (0))).setCell ⟨w.heap.size + 1 + 1, 1, none⟩ (.int .i64 (0))).setCell ⟨w.heap.size + 1 + 1, 2, none⟩ (.int .i64 (0))).setCell ⟨w.heap.size + 1 + 1, 3, none⟩ (.int .i64 (0))).setCell ⟨w.heap.size + 1 + 1, 4, none⟩ (.int .i64 (0))).setCell ⟨w.heap.size + 1 + 1, 5, none⟩ (.int .i64 (0))).setCell ⟨w.heap.size + 1 + 1, 6, none⟩ (.int .i64 (0))).setCell ⟨w.heap.size + 1 + 1, 7, none⟩ (.int .i64 (0))).setCell ⟨w.heap.size + 1 + 1, 8, none⟩ (.int .i64 (0))).setCell ⟨w.heap.size + 1 + 1, 9, none⟩ (.int .i64 (0))).setCell ⟨w.heap.size + 1 + 1, 10, none⟩ (.int .i64 (0))).setCell ⟨w.heap.size + 1 + 1, 11, none⟩ (.int .i64 (0))).setCell ⟨w.heap.size + 1 + 1, 12, none⟩ (.int .i64 (0))).setCell ⟨w.heap.size + 1 + 1, 13, none⟩ (.int .i64 (0))) := ⟨_, rfl⟩
  rw [← hZ]
  have EZ := ((((((((((((((HO.out.set (k := 0) (v := 0)).set (k := 1) (v := 0)).set (k := 2) (v := 0)).set (k := 3) (v := 0)).set (k := 4) (v := 0)).set (k := 5) (v := 0)).set (k := 6) (v := 0)).set (k := 7) (v := 0)).set (k := 8) (v := 0)).set (k := 9) (v := 0)).set (k := 10) (v := 0)).set (k := 11) (v := 0)).set (k := 12) (v := 0)).set (k := 13) (v := 0))
  rw [← hZ] at EZ
  have bZ : Below w.heap.size w Z := by rw [hZ]; exact ((((((((((((((hbw.setCell (p := ⟨w.heap.size + 1 + 1, 0, none⟩) (by dsimp only; omega) _).setCell (p := ⟨w.heap.size + 1 + 1, 1, none⟩) (by dsimp only; omega) _).setCell (p := ⟨w.heap.size + 1 + 1, 2, none⟩) (by dsimp only; omega) _).setCell (p := ⟨w.heap.size + 1 + 1, 3, none⟩) (by dsimp only; omega) _).setCell (p := ⟨w.heap.size + 1 + 1, 4, none⟩) (by dsimp only; omega) _).setCell (p := ⟨w.heap.size + 1 + 1, 5, none⟩) (by dsimp only; omega) _).setCell (p := ⟨w.heap.size + 1 + 1, 6, none⟩) (by dsimp only; omega) _).setCell (p := ⟨w.heap.size + 1 + 1, 7, none⟩) (by dsimp only; omega) _).setCell (p := ⟨w.heap.size + 1 + 1, 8, none⟩) (by dsimp only; omega) _).setCell (p := ⟨w.heap.size + 1 + 1, 9, none⟩) (by dsimp only; omega) _).setCell (p := ⟨w.heap.size + 1 + 1, 10, none⟩) (by dsimp only; omega) _).setCell (p := ⟨w.heap.size + 1 + 1, 11, none⟩) (by dsimp only; omega) _).setCell (p := ⟨w.heap.size + 1 + 1, 12, none⟩) (by dsimp only; omega) _).setCell (p := ⟨w.heap.size + 1 + 1, 13, none⟩) (by dsimp only; omega) _)
  clear hZ
  have h0 : Z.cell? ⟨w.heap.size + 1 + 1, 0, none⟩ = some (.int .i64 (0)) := EZ.c 0 (by decide)
  have h1 : Z.cell? ⟨w.heap.size + 1 + 1, 1, none⟩ = some (.int .i64 (0)) := EZ.c 1 (by decide)
  have h2 : Z.cell? ⟨w.heap.size + 1 + 1, 2, none⟩ = some (.int .i64 (0)) := EZ.c 2 (by decide)
  have h3 : Z.cell? ⟨w.heap.size + 1 + 1, 3, none⟩ = some (.int .i64 (0)) := EZ.c 3 (by decide)
  have h4 : Z.cell? ⟨w.heap.size + 1 + 1, 4, none⟩ = some (.int .i64 (0)) := EZ.c 4 (by decide)
  have h5 : Z.cell? ⟨w.heap.size + 1 + 1, 5, none⟩ = some (.int .i64 (0)) := EZ.c 5 (by decide)
  have h6 : Z.cell? ⟨w.heap.size + 1 + 1, 6, none⟩ = some (.int .i64 (0)) := EZ.c 6 (by decide)
  have h7 : Z.cell? ⟨w.heap.size + 1 + 1, 7, none⟩ = some (.int .i64 (0)) := EZ.c 7 (by decide)
  have h8 : Z.cell? ⟨w.heap.size + 1 + 1, 8, none⟩ = some (.int .i64 (0)) := EZ.c 8 (by decide)
  have h9 : Z.cell? ⟨w.heap.size + 1 + 1, 9, none⟩ = some (.int .i64 (0)) := EZ.c 9 (by decide)
  have h10 : Z.cell? ⟨w.heap.size + 1 + 1, 10, none⟩ = some (.int .i64 (0)) := EZ.c 10 (by decide)
  have h11 : Z.cell? ⟨w.heap.size + 1 + 1, 11, none⟩ = some (.int .i64 (0)) := EZ.c 11 (by decide)
  have h12 : Z.cell? ⟨w.heap.size + 1 + 1, 12, none⟩ = some (.int .i64 (0)) := EZ.c 12 (by decide)
  have h13 : Z.cell? ⟨w.heap.size + 1 + 1, 13, none⟩ = some (.int .i64 (0)) := EZ.c 13 (by decide)
  clear EZ
  exact bodyPost_ret (v := .tuple #[.agg #[.int .i64 (0), .int .i64 (0), .int .i64 (0), .int .i64 (0), .int .i64 (0), .int .i64 (0), .int .i64 (0), .int .i64 (0), .int .i64 (0), .int .i64 (0), .int .i64 (0), .int .i64 (0), .int .i64 (0), .int .i64 (0)], .int .i64 E]) (by simp [results, Try.results28, go_sem, h0, h1, h2, h3, h4, h5, h6, h7, h8, h9, h10, h11, h12, h13]) rfl ⟨rfl, bZ⟩

set_option maxRecDepth 100000 in
set_option maxHeartbeats 4000000 in
theorem refHear_shape (l kd f s c lv ph n0 n1 : Int) (a : Option Addr) (n cap : Nat) (w : World) (k1 : trainC l kd f s c = 0) (k2 : recvC lv ph n0 n1 = 0) (hnc : ¬ (n : Int) = c) :
    Calls Try.prog 28 #[.agg #[.int .i64 l, .int .i64 kd, .int .i64 f, .int .i64 s, .int .i64 c], .agg #[.int .i64 lv, .int .i64 ph, .int .i64 n0, .int .i64 n1], .slice a n cap] w fun e w' => e = .returned (.tuple #[.agg #[.int .i64 0, .int .i64 0, .int .i64 0, .int .i64 0, .int .i64 0, .int .i64 0, .int .i64 0, .int .i64 0, .int .i64 0, .int .i64 0, .int .i64 0, .int .i64 0, .int .i64 0, .int .i64 0], .int .i64 11]) ∧ Below w.heap.size w w' := by
  have HB0 : Hid (∀ W : World, Calls Try.prog 64 #[.agg #[.int .i64 l, .int .i64 kd, .int .i64 f, .int .i64 s, .int .i64 c], .agg #[.int .i64 lv, .int .i64 ph, .int .i64 n0, .int .i64 n1]] W fun e w' => e = .returned (.int .i64 0) ∧ Below W.heap.size W w') := Lib.hid fun W => by
    have h := both_any l kd f s c lv ph n0 n1 W
    unfold ckC at h
    rw [if_pos k1, k2] at h
    exact h
  have hne : ((n : Int) != c) = true := bne_iff_ne.2 hnc
  have hne2 : ((n : Int) == c) = false := beq_eq_false_iff_ne.2 hnc
  clear k1 k2 hnc
  have P0 := Lib.hid (HrP.newR w l kd f s c lv ph n0 n1)
  obtain ⟨U, hU⟩ : ∃ U, U = (((w.alloc (.cells #[.int .i64 l, .int .i64 kd, .int .i64 f, .int .i64 s, .int .i64 c] 34)).alloc (.cells #[.int .i64 lv, .int .i64 ph, .int .i64 n0, .int .i64 n1] 37)).alloc (.cells #[.int .i64 0, .int .i64 0, .int .i64 0, .int .i64 0, .int .i64 0, .int .i64 0, .int .i64 0, .int .i64 0, .int .i64 0, .int .i64 0, .int .i64 0, .int .i64 0, .int .i64 0, .int .i64 0] 30)) := ⟨_, rfl⟩
  rw [← hU] at P0
  go_enter Try.func28, Try.ntmps28
  go_wp2_with fail
  rw [← hU]
  clear hU
  obtain ⟨t0, t1, t2, t3, t4, r0, r1, r2, r3, ho, hzz, hbw⟩ := P0.out
  clear ho
  refine (HB0.out _).mono ?_; rintro e' V ⟨rfl, hbV⟩
  have PV := Lib.hid (P0.out.keep hbV P0.out.z)
  clear t0 t1 t2 t3 t4 r0 r1 r2 r3 hzz hbw P0 hbV HB0
  obtain ⟨t0, t1, t2, t3, t4, r0, r1, r2, r3, ho, hzz, hbw⟩ := PV.out
  have HO := Lib.hid ho
  have oc0 := HO.out.c 0 (by decide)
  have of0 := HO.out.f 0 (by decide)
  have oc1 := HO.out.c 1 (by decide)
  have of1 := HO.out.f 1 (by decide)
  have oc2 := HO.out.c 2 (by decide)
  have of2 := HO.out.f 2 (by decide)
  have oc3 := HO.out.c 3 (by decide)
  have of3 := HO.out.f 3 (by decide)
  have oc4 := HO.out.c 4 (by decide)
  have of4 := HO.out.f 4 (by decide)
  have oc5 := HO.out.c 5 (by decide)
  have of5 := HO.out.f 5 (by decide)
  have oc6 := HO.out.c 6 (by decide)
  have of6 := HO.out.f 6 (by decide)
  have oc7 := HO.out.c 7 (by decide)
  have of7 := HO.out.f 7 (by decide)
  have oc8 := HO.out.c 8 (by decide)
  have of8 := HO.out.f 8 (by decide)
  have oc9 := HO.out.c 9 (by decide)
  have of9 := HO.out.f 9 (by decide)
  have oc10 := HO.out.c 10 (by decide)
  have of10 := HO.out.f 10 (by decide)
  have oc11 := HO.out.c 11 (by decide)
  have of11 := HO.out.f 11 (by decide)
  have oc12 := HO.out.c 12 (by decide)
  have of12 := HO.out.f 12 (by decide)
  have oc13 := HO.out.c 13 (by decide)
  have of13 := HO.out.f 13 (by decide)
  go_wp2
  obtain ⟨Z, hZ⟩ : ∃ Z, Z = ((((((((((((((V.setCell ⟨w.heap.size + 1 + 1, 0, none⟩ (.int .i64 (0))).setCell ⟨w.heap.size + 1 + 1, 1, none⟩ (.int .i64 (0))).setCell ⟨w.heap.size + 1 + 1, 2, none⟩ (.int .i64 (0))).setCell ⟨w.heap.size + 1 + 1, 3, none⟩ (.int .i64 (0))).setCell ⟨w.heap.size + 1 + 1, 4, none⟩ (.int .i64 (0))).setCell ⟨w.heap.size + 1 + 1, 5, none⟩ (.int .i64 (0))).setCell ⟨w.heap.size + 1 + 1, 6, none⟩ (.int .i64 (0))).setCell ⟨w.heap.size + 1 + 1, 7, none⟩ (.int .i64 (0))).setCell ⟨w.heap.size + 1 + 1, 8, none⟩ (.int .i64 (0))).setCell ⟨w.heap.size + 1 + 1, 9, none⟩ (.int .i64 (0))).setCell ⟨w.heap.size + 1 + 1, 10, none⟩ (.int .i64 (0))).setCell ⟨w.heap.size + 1 + 1, 11, none⟩ (.int .i64 (0))).setCell ⟨w.heap.size + 1 + 1, 12, none⟩ (.int .i64 (0))).setCell ⟨w.heap.size + 1 + 1, 13, none⟩ (.int .i64 (0))) := ⟨_, rfl⟩
  rw [← hZ]
  have EZ := ((((((((((((((HO.out.set (k := 0) (v := 0)).set (k := 1) (v := 0)).set (k := 2) (v := 0)).set (k := 3) (v := 0)).set (k := 4) (v := 0)).set (k := 5) (v := 0)).set (k := 6) (v := 0)).set (k := 7) (v := 0)).set (k := 8) (v := 0)).set (k := 9) (v := 0)).set (k := 10) (v := 0)).set (k := 11) (v := 0)).set (k := 12) (v := 0)).set (k := 13) (v := 0))
  rw [← hZ] at EZ
  have bZ : Below w.heap.size w Z := by rw [hZ]; exact ((((((((((((((hbw.setCell (p := ⟨w.heap.size + 1 + 1, 0, none⟩) (by dsimp only; omega) _).setCell (p := ⟨w.heap.size + 1 + 1, 1, none⟩) (by dsimp only; omega) _).setCell (p := ⟨w.heap.size + 1 + 1, 2, none⟩) (by dsimp only; omega) _).setCell (p := ⟨w.heap.size + 1 + 1, 3, none⟩) (by dsimp only; omega) _).setCell (p := ⟨w.heap.size + 1 + 1, 4, none⟩) (by dsimp only; omega) _).setCell (p := ⟨w.heap.size + 1 + 1, 5, none⟩) (by dsimp only; omega) _).setCell (p := ⟨w.heap.size + 1 + 1, 6, none⟩) (by dsimp only; omega) _).setCell (p := ⟨w.heap.size + 1 + 1, 7, none⟩) (by dsimp only; omega) _).setCell (p := ⟨w.heap.size + 1 + 1, 8, none⟩) (by dsimp only; omega) _).setCell (p := ⟨w.heap.size + 1 + 1, 9, none⟩) (by dsimp only; omega) _).setCell (p := ⟨w.heap.size + 1 + 1, 10, none⟩) (by dsimp only; omega) _).setCell (p := ⟨w.heap.size + 1 + 1, 11, none⟩) (by dsimp only; omega) _).setCell (p := ⟨w.heap.size + 1 + 1, 12, none⟩) (by dsimp only; omega) _).setCell (p := ⟨w.heap.size + 1 + 1, 13, none⟩) (by dsimp only; omega) _)
  clear hZ
  have h0 : Z.cell? ⟨w.heap.size + 1 + 1, 0, none⟩ = some (.int .i64 (0)) := EZ.c 0 (by decide)
  have h1 : Z.cell? ⟨w.heap.size + 1 + 1, 1, none⟩ = some (.int .i64 (0)) := EZ.c 1 (by decide)
  have h2 : Z.cell? ⟨w.heap.size + 1 + 1, 2, none⟩ = some (.int .i64 (0)) := EZ.c 2 (by decide)
  have h3 : Z.cell? ⟨w.heap.size + 1 + 1, 3, none⟩ = some (.int .i64 (0)) := EZ.c 3 (by decide)
  have h4 : Z.cell? ⟨w.heap.size + 1 + 1, 4, none⟩ = some (.int .i64 (0)) := EZ.c 4 (by decide)
  have h5 : Z.cell? ⟨w.heap.size + 1 + 1, 5, none⟩ = some (.int .i64 (0)) := EZ.c 5 (by decide)
  have h6 : Z.cell? ⟨w.heap.size + 1 + 1, 6, none⟩ = some (.int .i64 (0)) := EZ.c 6 (by decide)
  have h7 : Z.cell? ⟨w.heap.size + 1 + 1, 7, none⟩ = some (.int .i64 (0)) := EZ.c 7 (by decide)
  have h8 : Z.cell? ⟨w.heap.size + 1 + 1, 8, none⟩ = some (.int .i64 (0)) := EZ.c 8 (by decide)
  have h9 : Z.cell? ⟨w.heap.size + 1 + 1, 9, none⟩ = some (.int .i64 (0)) := EZ.c 9 (by decide)
  have h10 : Z.cell? ⟨w.heap.size + 1 + 1, 10, none⟩ = some (.int .i64 (0)) := EZ.c 10 (by decide)
  have h11 : Z.cell? ⟨w.heap.size + 1 + 1, 11, none⟩ = some (.int .i64 (0)) := EZ.c 11 (by decide)
  have h12 : Z.cell? ⟨w.heap.size + 1 + 1, 12, none⟩ = some (.int .i64 (0)) := EZ.c 12 (by decide)
  have h13 : Z.cell? ⟨w.heap.size + 1 + 1, 13, none⟩ = some (.int .i64 (0)) := EZ.c 13 (by decide)
  clear EZ
  exact bodyPost_ret (v := .tuple #[.agg #[.int .i64 (0), .int .i64 (0), .int .i64 (0), .int .i64 (0), .int .i64 (0), .int .i64 (0), .int .i64 (0), .int .i64 (0), .int .i64 (0), .int .i64 (0), .int .i64 (0), .int .i64 (0), .int .i64 (0), .int .i64 (0)], .int .i64 11]) (by simp [results, Try.results28, go_sem, h0, h1, h2, h3, h4, h5, h6, h7, h8, h9, h10, h11, h12, h13]) rfl ⟨rfl, bZ⟩

theorem refHear_loop (l kd f s c lv ph n0 n1 : Int) (b off n cap : Nat) (zs : Nat → Smp) (w : World) (k1 : trainC l kd f s c = 0) (k2 : recvC lv ph n0 n1 = 0) (hnc : (n : Int) = c) (hb : b < w.heap.size) (hS : SmpsAt w b off n zs) (E : Int) (g : Nat → Int) (hE : E = if allS zs n = true then 0 else 3) (hg : g = if allS zs n = true then hearOf l kd c lv ph n0 n1 n zs else fun _ => 0) :
    Calls Try.prog 28 #[.agg #[.int .i64 l, .int .i64 kd, .int .i64 f, .int .i64 s, .int .i64 c], .agg #[.int .i64 lv, .int .i64 ph, .int .i64 n0, .int .i64 n1], .slice (some ⟨b, off, none⟩) n cap] w fun e w' => e = .returned (.tuple #[.agg #[.int .i64 (g 0), .int .i64 (g 1), .int .i64 (g 2), .int .i64 (g 3), .int .i64 (g 4), .int .i64 (g 5), .int .i64 (g 6), .int .i64 (g 7), .int .i64 (g 8), .int .i64 (g 9), .int .i64 (g 10), .int .i64 (g 11), .int .i64 (g 12), .int .i64 (g 13)], .int .i64 E]) ∧ Below w.heap.size w w' := by
  rcases Bool.eq_false_or_eq_true (allS zs n) with h | h
  · by_cases h3 : g 0 = 3
    · by_cases hk : kd = 3
      · exact refHear_C l kd f s c lv ph n0 n1 b off n cap zs w k1 k2 hnc hb hS E g hE hg h h3 hk
      · exact refHear_D l kd f s c lv ph n0 n1 b off n cap zs w k1 k2 hnc hb hS E g hE hg h h3 hk
    · exact refHear_Q l kd f s c lv ph n0 n1 b off n cap zs w k1 k2 hnc hb hS E g hE hg h h3
  · exact refHear_E l kd f s c lv ph n0 n1 b off n cap zs w k1 k2 hnc hb hS E g hE hg h
theorem refHear_any (l kd f s c lv ph n0 n1 : Int) (a : Option Addr) (n cap : Nat) (zs : Nat → Smp) (w : World) (hn : n ≤ 100) (hS : SmpsIs w a n zs) :
    Calls Try.prog 28 #[.agg #[.int .i64 l, .int .i64 kd, .int .i64 f, .int .i64 s, .int .i64 c], .agg #[.int .i64 lv, .int .i64 ph, .int .i64 n0, .int .i64 n1], .slice a n cap] w fun e w' => e = .returned (.tuple #[.agg #[.int .i64 ((herV l kd f s c lv ph n0 n1 n zs) 0), .int .i64 ((herV l kd f s c lv ph n0 n1 n zs) 1), .int .i64 ((herV l kd f s c lv ph n0 n1 n zs) 2), .int .i64 ((herV l kd f s c lv ph n0 n1 n zs) 3), .int .i64 ((herV l kd f s c lv ph n0 n1 n zs) 4), .int .i64 ((herV l kd f s c lv ph n0 n1 n zs) 5), .int .i64 ((herV l kd f s c lv ph n0 n1 n zs) 6), .int .i64 ((herV l kd f s c lv ph n0 n1 n zs) 7), .int .i64 ((herV l kd f s c lv ph n0 n1 n zs) 8), .int .i64 ((herV l kd f s c lv ph n0 n1 n zs) 9), .int .i64 ((herV l kd f s c lv ph n0 n1 n zs) 10), .int .i64 ((herV l kd f s c lv ph n0 n1 n zs) 11), .int .i64 ((herV l kd f s c lv ph n0 n1 n zs) 12), .int .i64 ((herV l kd f s c lv ph n0 n1 n zs) 13)], .int .i64 (herE l kd f s c lv ph n0 n1 n zs)]) ∧ Below w.heap.size w w' := by
  by_cases h : ckC l kd f s c lv ph n0 n1 = 0
  · obtain ⟨k1, k2⟩ := ckC_0 h
    by_cases hnc : (n : Int) = c
    · have hc := (train_ok k1).1
      rcases hS with h0 | ⟨b, off, rfl, hb, hs⟩
      · omega
      · refine refHear_loop l kd f s c lv ph n0 n1 b off n cap zs w k1 k2 hnc hb hs _ _ ?_ ?_
        · unfold herE samC
          rw [if_pos h, if_pos hnc]
        · unfold herV herE samC
          rw [if_pos h, if_pos hnc]
          cases allS zs n <;> rfl
    · have e1 : herE l kd f s c lv ph n0 n1 n zs = 11 := by unfold herE samC; rw [if_pos h, if_neg hnc]
      unfold herV
      rw [e1, if_neg (by decide)]
      exact refHear_shape l kd f s c lv ph n0 n1 a n cap w k1 k2 hnc
  · have e1 : herE l kd f s c lv ph n0 n1 n zs = ckC l kd f s c lv ph n0 n1 := by unfold herE; rw [if_neg h]
    unfold herV
    rw [e1, if_neg h]
    exact refHear_err l kd f s c lv ph n0 n1 a n cap w h

end Go.Proofs.Ytmojnopgpgnfeaa
