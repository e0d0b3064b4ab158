/-
  Hear: its errors.
-/
import Derived.Test.Ytmojnopgpgnfeaamg15
namespace Go.Proofs.Ytmojnopgpgnfeaa
open Go.RowKit
set_option linter.unusedVariables false
set_option linter.unusedSimpArgs false

/-- the error of a train, or else that of a receiver -/
def ckC (l kd f s c lv ph n0 n1 : Int) : Int := if trainC l kd f s c = 0 then recvC lv ph n0 n1 else trainC l kd f s c
theorem ckC_0 {l kd f s c lv ph n0 n1 : Int} (h : ckC l kd f s c lv ph n0 n1 = 0) : trainC l kd f s c = 0 ∧ recvC lv ph n0 n1 = 0 := by
  unfold ckC at h
  split at h
  · exact ⟨by assumption, h⟩
  · exact absurd h (by assumption)

set_option maxRecDepth 100000 in
set_option maxHeartbeats 8000000 in
theorem Hear_err1 (l kd f s c lv ph n0 n1 : Int) (a : Option Addr) (n cap : Nat) (e0 : Int) (w : World) (h0 : ckC l kd f s c lv ph n0 n1 = e0) (hne : e0 ≠ 0) :
    Calls Try.prog 27 #[.agg #[.int .i64 l, .int .i64 kd, .int .i64 f, .int .i64 s, .int .i64 c], .agg #[.int .i64 lv, .int .i64 ph, .int .i64 n0, .int .i64 n1], .slice a n cap] w fun e' w' => e' = .returned (.tuple #[.agg #[.int .i64 0, .int .i64 0, .int .i64 0, .int .i64 0, .int .i64 0, .int .i64 0, .int .i64 0, .int .i64 0, .int .i64 0, .int .i64 0, .int .i64 0, .int .i64 0, .int .i64 0, .int .i64 0], .int .i64 e0]) ∧ Below w.heap.size w w' := by
  have H1 : Hid (∀ W : World, Calls Try.prog 61 #[.agg #[.int .i64 l, .int .i64 kd, .int .i64 f, .int .i64 s, .int .i64 c], .agg #[.int .i64 lv, .int .i64 ph, .int .i64 n0, .int .i64 n1]] W fun e w' => e = .returned (.int .i64 e0) ∧ Below W.heap.size W w') := Lib.hid fun W => by
    have h := check_any l kd f s c lv ph n0 n1 W
    rw [← h0]; exact h
  have e1 : (e0 == 0) = false := beq_eq_false_iff_ne.2 hne
  have e2 : (e0 != 0) = true := by simpa using hne
  clear h0 hne
  have HP := Lib.hid (HrP.new w l kd f s c lv ph n0 n1)
  go_enter Try.func27, Try.ntmps27
  go_wp2_with fail
  obtain ⟨U, hU⟩ : ∃ U, U = ((w.alloc (.cells #[.int .i64 l, .int .i64 kd, .int .i64 f, .int .i64 s, .int .i64 c] 23)).alloc (.cells #[.int .i64 lv, .int .i64 ph, .int .i64 n0, .int .i64 n1] 27)).alloc (.cells #[.int .i64 0, .int .i64 0, .int .i64 0, .int .i64 0, .int .i64 0, .int .i64 0, .int .i64 0, .int .i64 0, .int .i64 0, .int .i64 0, .int .i64 0, .int .i64 0, .int .i64 0, .int .i64 0] 30) := ⟨_, rfl⟩
  rw [← hU] at HP ⊢
  clear hU
  refine (H1.out _).mono ?_; rintro e' X1 ⟨rfl, hb1⟩
  have P1 := Lib.hid (HP.out.keep hb1 HP.out.z)
  clear hb1 HP
  obtain ⟨t0, t1, t2, t3, t4, r0, r1, r2, r3, oo, hzz, hbw⟩ := P1.out
  have HO := Lib.hid oo
  have y2 : w.heap.size + 1 + 1 < X1.heap.size := by omega
  have oc0 := HO.out.c 0 (by decide)
  have of0 := HO.out.f 0 (by decide)
  have oc1 := HO.out.c 1 (by decide)
  have of1 := HO.out.f 1 (by decide)
  have oc2 := HO.out.c 2 (by decide)
  have of2 := HO.out.f 2 (by decide)
  have oc3 := HO.out.c 3 (by decide)
  have of3 := HO.out.f 3 (by decide)
  have oc4 := HO.out.c 4 (by decide)
  have of4 := HO.out.f 4 (by decide)
  have oc5 := HO.out.c 5 (by decide)
  have of5 := HO.out.f 5 (by decide)
  have oc6 := HO.out.c 6 (by decide)
  have of6 := HO.out.f 6 (by decide)
  have oc7 := HO.out.c 7 (by decide)
  have of7 := HO.out.f 7 (by decide)
  have oc8 := HO.out.c 8 (by decide)
  have of8 := HO.out.f 8 (by decide)
  have oc9 := HO.out.c 9 (by decide)
  have of9 := HO.out.f 9 (by decide)
  have oc10 := HO.out.c 10 (by decide)
  have of10 := HO.out.f 10 (by decide)
  have oc11 := HO.out.c 11 (by decide)
  have of11 := HO.out.f 11 (by decide)
  have oc12 := HO.out.c 12 (by decide)
  have of12 := HO.out.f 12 (by decide)
  have oc13 := HO.out.c 13 (by decide)
  have of13 := HO.out.f 13 (by decide)
  clear oo P1
  go_wp2
  obtain ⟨Z, hZ⟩ : ∃ Z, Z = ((((((((((((((X1.setCell ⟨w.heap.size + 1 + 1, 0, none⟩ (.int .i64 (0))).setCell ⟨w.heap.size + 1 + 1, 1, none⟩ (.int .i64 (0))).setCell ⟨w.heap.size + 1 + 1, 2, none⟩ (.int .i64 (0))).setCell ⟨w.heap.size + 1 + 1, 3, none⟩ (.int .i64 (0))).setCell ⟨w.heap.size + 1 + 1, 4, none⟩ (.int .i64 (0))).setCell ⟨w.heap.size + 1 + 1, 5, none⟩ (.int .i64 (0))).setCell ⟨w.heap.size + 1 + 1, 6, none⟩ (.int .i64 (0))).setCell ⟨w.heap.size + 1 + 1, 7, none⟩ (.int .i64 (0))).setCell ⟨w.heap.size + 1 + 1, 8, none⟩ (.int .i64 (0))).setCell ⟨w.heap.size + 1 + 1, 9, none⟩ (.int .i64 (0))).setCell ⟨w.heap.size + 1 + 1, 10, none⟩ (.int .i64 (0))).setCell ⟨w.heap.size + 1 + 1, 11, none⟩ (.int .i64 (0))).setCell ⟨w.heap.size + 1 + 1, 12, none⟩ (.int .i64 (0))).setCell ⟨w.heap.size + 1 + 1, 13, none⟩ (.int .i64 (0))) := ⟨_, rfl⟩
  rw [← hZ]
  have EZ := ((((((((((((((HO.out.set (k := 0) (v := 0)).set (k := 1) (v := 0)).set (k := 2) (v := 0)).set (k := 3) (v := 0)).set (k := 4) (v := 0)).set (k := 5) (v := 0)).set (k := 6) (v := 0)).set (k := 7) (v := 0)).set (k := 8) (v := 0)).set (k := 9) (v := 0)).set (k := 10) (v := 0)).set (k := 11) (v := 0)).set (k := 12) (v := 0)).set (k := 13) (v := 0))
  rw [← hZ] at EZ
  have bZ : Below w.heap.size w Z := by rw [hZ]; exact ((((((((((((((hbw.setCell (p := ⟨w.heap.size + 1 + 1, 0, none⟩) (by dsimp only; omega) _).setCell (p := ⟨w.heap.size + 1 + 1, 1, none⟩) (by dsimp only; omega) _).setCell (p := ⟨w.heap.size + 1 + 1, 2, none⟩) (by dsimp only; omega) _).setCell (p := ⟨w.heap.size + 1 + 1, 3, none⟩) (by dsimp only; omega) _).setCell (p := ⟨w.heap.size + 1 + 1, 4, none⟩) (by dsimp only; omega) _).setCell (p := ⟨w.heap.size + 1 + 1, 5, none⟩) (by dsimp only; omega) _).setCell (p := ⟨w.heap.size + 1 + 1, 6, none⟩) (by dsimp only; omega) _).setCell (p := ⟨w.heap.size + 1 + 1, 7, none⟩) (by dsimp only; omega) _).setCell (p := ⟨w.heap.size + 1 + 1, 8, none⟩) (by dsimp only; omega) _).setCell (p := ⟨w.heap.size + 1 + 1, 9, none⟩) (by dsimp only; omega) _).setCell (p := ⟨w.heap.size + 1 + 1, 10, none⟩) (by dsimp only; omega) _).setCell (p := ⟨w.heap.size + 1 + 1, 11, none⟩) (by dsimp only; omega) _).setCell (p := ⟨w.heap.size + 1 + 1, 12, none⟩) (by dsimp only; omega) _).setCell (p := ⟨w.heap.size + 1 + 1, 13, none⟩) (by dsimp only; omega) _)
  clear hZ
  have h0 : Z.cell? ⟨w.heap.size + 1 + 1, 0, none⟩ = some (.int .i64 (0)) := EZ.c 0 (by decide)
  have h1 : Z.cell? ⟨w.heap.size + 1 + 1, 1, none⟩ = some (.int .i64 (0)) := EZ.c 1 (by decide)
  have h2 : Z.cell? ⟨w.heap.size + 1 + 1, 2, none⟩ = some (.int .i64 (0)) := EZ.c 2 (by decide)
  have h3 : Z.cell? ⟨w.heap.size + 1 + 1, 3, none⟩ = some (.int .i64 (0)) := EZ.c 3 (by decide)
  have h4 : Z.cell? ⟨w.heap.size + 1 + 1, 4, none⟩ = some (.int .i64 (0)) := EZ.c 4 (by decide)
  have h5 : Z.cell? ⟨w.heap.size + 1 + 1, 5, none⟩ = some (.int .i64 (0)) := EZ.c 5 (by decide)
  have h6 : Z.cell? ⟨w.heap.size + 1 + 1, 6, none⟩ = some (.int .i64 (0)) := EZ.c 6 (by decide)
  have h7 : Z.cell? ⟨w.heap.size + 1 + 1, 7, none⟩ = some (.int .i64 (0)) := EZ.c 7 (by decide)
  have h8 : Z.cell? ⟨w.heap.size + 1 + 1, 8, none⟩ = some (.int .i64 (0)) := EZ.c 8 (by decide)
  have h9 : Z.cell? ⟨w.heap.size + 1 + 1, 9, none⟩ = some (.int .i64 (0)) := EZ.c 9 (by decide)
  have h10 : Z.cell? ⟨w.heap.size + 1 + 1, 10, none⟩ = some (.int .i64 (0)) := EZ.c 10 (by decide)
  have h11 : Z.cell? ⟨w.heap.size + 1 + 1, 11, none⟩ = some (.int .i64 (0)) := EZ.c 11 (by decide)
  have h12 : Z.cell? ⟨w.heap.size + 1 + 1, 12, none⟩ = some (.int .i64 (0)) := EZ.c 12 (by decide)
  have h13 : Z.cell? ⟨w.heap.size + 1 + 1, 13, none⟩ = some (.int .i64 (0)) := EZ.c 13 (by decide)
  clear EZ
  exact bodyPost_ret (v := .tuple #[.agg #[.int .i64 (0), .int .i64 (0), .int .i64 (0), .int .i64 (0), .int .i64 (0), .int .i64 (0), .int .i64 (0), .int .i64 (0), .int .i64 (0), .int .i64 (0), .int .i64 (0), .int .i64 (0), .int .i64 (0), .int .i64 (0)], .int .i64 e0]) (by simp [results, Try.results27, go_sem, h0, h1, h2, h3, h4, h5, h6, h7, h8, h9, h10, h11, h12, h13]) rfl ⟨rfl, bZ⟩

set_option maxRecDepth 100000 in
set_option maxHeartbeats 8000000 in
theorem Hear_err2 (l kd f s c lv ph n0 n1 : Int) (a : Option Addr) (n cap : Nat) (e0 : Int) (w : World) (h0 : ckC l kd f s c lv ph n0 n1 = 0) (hne : e0 ≠ 0) (H2 : Hid (∀ W : World, Below w.heap.size w W → Calls Try.prog 62 #[.agg #[.int .i64 l, .int .i64 kd, .int .i64 f, .int .i64 s, .int .i64 c], .slice a n cap] W fun e w' => e = .returned (.int .i64 e0) ∧ Below W.heap.size W w')) :
    Calls Try.prog 27 #[.agg #[.int .i64 l, .int .i64 kd, .int .i64 f, .int .i64 s, .int .i64 c], .agg #[.int .i64 lv, .int .i64 ph, .int .i64 n0, .int .i64 n1], .slice a n cap] w fun e' w' => e' = .returned (.tuple #[.agg #[.int .i64 0, .int .i64 0, .int .i64 0, .int .i64 0, .int .i64 0, .int .i64 0, .int .i64 0, .int .i64 0, .int .i64 0, .int .i64 0, .int .i64 0, .int .i64 0, .int .i64 0, .int .i64 0], .int .i64 e0]) ∧ Below w.heap.size w w' := by
  have H1 : Hid (∀ W : World, Calls Try.prog 61 #[.agg #[.int .i64 l, .int .i64 kd, .int .i64 f, .int .i64 s, .int .i64 c], .agg #[.int .i64 lv, .int .i64 ph, .int .i64 n0, .int .i64 n1]] W fun e w' => e = .returned (.int .i64 0) ∧ Below W.heap.size W w') := Lib.hid fun W => by
    have h := check_any l kd f s c lv ph n0 n1 W
    rw [← h0]; exact h
  have e1 : (e0 == 0) = false := beq_eq_false_iff_ne.2 hne
  have e2 : (e0 != 0) = true := by simpa using hne
  clear h0 hne
  have HP := Lib.hid (HrP.new w l kd f s c lv ph n0 n1)
  go_enter Try.func27, Try.ntmps27
  go_wp2_with fail
  obtain ⟨U, hU⟩ : ∃ U, U = ((w.alloc (.cells #[.int .i64 l, .int .i64 kd, .int .i64 f, .int .i64 s, .int .i64 c] 23)).alloc (.cells #[.int .i64 lv, .int .i64 ph, .int .i64 n0, .int .i64 n1] 27)).alloc (.cells #[.int .i64 0, .int .i64 0, .int .i64 0, .int .i64 0, .int .i64 0, .int .i64 0, .int .i64 0, .int .i64 0, .int .i64 0, .int .i64 0, .int .i64 0, .int .i64 0, .int .i64 0, .int .i64 0] 30) := ⟨_, rfl⟩
  rw [← hU] at HP ⊢
  clear hU
  refine (H1.out _).mono ?_; rintro e' X1 ⟨rfl, hb1⟩
  have P1 := Lib.hid (HP.out.keep hb1 HP.out.z)
  clear hb1 HP
  obtain ⟨t0, t1, t2, t3, t4, r0, r1, r2, r3, oo, hzz, hbw⟩ := P1.out
  go_wp2_with fail
  refine (H2.out _ hbw).mono ?_; rintro e' X2 ⟨rfl, hb2⟩
  have P2 := Lib.hid (P1.out.keep hb2 P1.out.z)
  clear hb2 P1 t0 t1 t2 t3 t4 r0 r1 r2 r3 oo hzz hbw
  obtain ⟨t0, t1, t2, t3, t4, r0, r1, r2, r3, oo, hzz, hbw⟩ := P2.out
  have HO := Lib.hid oo
  have y2 : w.heap.size + 1 + 1 < X2.heap.size := by omega
  have oc0 := HO.out.c 0 (by decide)
  have of0 := HO.out.f 0 (by decide)
  have oc1 := HO.out.c 1 (by decide)
  have of1 := HO.out.f 1 (by decide)
  have oc2 := HO.out.c 2 (by decide)
  have of2 := HO.out.f 2 (by decide)
  have oc3 := HO.out.c 3 (by decide)
  have of3 := HO.out.f 3 (by decide)
  have oc4 := HO.out.c 4 (by decide)
  have of4 := HO.out.f 4 (by decide)
  have oc5 := HO.out.c 5 (by decide)
  have of5 := HO.out.f 5 (by decide)
  have oc6 := HO.out.c 6 (by decide)
  have of6 := HO.out.f 6 (by decide)
  have oc7 := HO.out.c 7 (by decide)
  have of7 := HO.out.f 7 (by decide)
  have oc8 := HO.out.c 8 (by decide)
  have of8 := HO.out.f 8 (by decide)
  have oc9 := HO.out.c 9 (by decide)
  have of9 := HO.out.f 9 (by decide)
  have oc10 := HO.out.c 10 (by decide)
  have of10 := HO.out.f 10 (by decide)
  have oc11 := HO.out.c 11 (by decide)
  have of11 := HO.out.f 11 (by decide)
  have oc12 := HO.out.c 12 (by decide)
  have of12 := HO.out.f 12 (by decide)
  have oc13 := HO.out.c 13 (by decide)
  have of13 := HO.out.f 13 (by decide)
  clear oo P2
  go_wp2
  obtain ⟨Z, hZ⟩ : ∃ Z, Z = ((((((((((((((X2.setCell ⟨w.heap.size + 1 + 1, 0, none⟩ (.int .i64 (0))).setCell ⟨w.heap.size + 1 + 1, 1, none⟩ (.int .i64 (0))).setCell ⟨w.heap.size + 1 + 1, 2, none⟩ (.int .i64 (0))).setCell ⟨w.heap.size + 1 + 1, 3, none⟩ (.int .i64 (0))).setCell ⟨w.heap.size + 1 + 1, 4, none⟩ (.int .i64 (0))).setCell ⟨w.heap.size + 1 + 1, 5, none⟩ (.int .i64 (0))).setCell ⟨w.heap.size + 1 + 1, 6, none⟩ (.int .i64 (0))).setCell ⟨w.heap.size + 1 + 1, 7, none⟩ (.int .i64 (0))).setCell ⟨w.heap.size + 1 + 1, 8, none⟩ (.int .i64 (0))).setCell ⟨w.heap.size + 1 + 1, 9, none⟩ (.int .i64 (0))).setCell ⟨w.heap.size + 1 + 1, 10, none⟩ (.int .i64 (0))).setCell ⟨w.heap.size + 1 + 1, 11, none⟩ (.int .i64 (0))).setCell ⟨w.heap.size + 1 + 1, 12, none⟩ (.int .i64 (0))).setCell ⟨w.heap.size + 1 + 1, 13, none⟩ (.int .i64 (0))) := ⟨_, rfl⟩
  rw [← hZ]
  have EZ := ((((((((((((((HO.out.set (k := 0) (v := 0)).set (k := 1) (v := 0)).set (k := 2) (v := 0)).set (k := 3) (v := 0)).set (k := 4) (v := 0)).set (k := 5) (v := 0)).set (k := 6) (v := 0)).set (k := 7) (v := 0)).set (k := 8) (v := 0)).set (k := 9) (v := 0)).set (k := 10) (v := 0)).set (k := 11) (v := 0)).set (k := 12) (v := 0)).set (k := 13) (v := 0))
  rw [← hZ] at EZ
  have bZ : Below w.heap.size w Z := by rw [hZ]; exact ((((((((((((((hbw.setCell (p := ⟨w.heap.size + 1 + 1, 0, none⟩) (by dsimp only; omega) _).setCell (p := ⟨w.heap.size + 1 + 1, 1, none⟩) (by dsimp only; omega) _).setCell (p := ⟨w.heap.size + 1 + 1, 2, none⟩) (by dsimp only; omega) _).setCell (p := ⟨w.heap.size + 1 + 1, 3, none⟩) (by dsimp only; omega) _).setCell (p := ⟨w.heap.size + 1 + 1, 4, none⟩) (by dsimp only; omega) _).setCell (p := ⟨w.heap.size + 1 + 1, 5, none⟩) (by dsimp only; omega) _).setCell (p := ⟨w.heap.size + 1 + 1, 6, none⟩) (by dsimp only; omega) _).setCell (p := ⟨w.heap.size + 1 + 1, 7, none⟩) (by dsimp only; omega) _).setCell (p := ⟨w.heap.size + 1 + 1, 8, none⟩) (by dsimp only; omega) _).setCell (p := ⟨w.heap.size + 1 + 1, 9, none⟩) (by dsimp only; omega) _).setCell (p := ⟨w.heap.size + 1 + 1, 10, none⟩) (by dsimp only; omega) _).setCell (p := ⟨w.heap.size + 1 + 1, 11, none⟩) (by dsimp only; omega) _).setCell (p := ⟨w.heap.size + 1 + 1, 12, none⟩) (by dsimp only; omega) _).setCell (p := ⟨w.heap.size + 1 + 1, 13, none⟩) (by dsimp only; omega) _)
  clear hZ
  have h0 : Z.cell? ⟨w.heap.size + 1 + 1, 0, none⟩ = some (.int .i64 (0)) := EZ.c 0 (by decide)
  have h1 : Z.cell? ⟨w.heap.size + 1 + 1, 1, none⟩ = some (.int .i64 (0)) := EZ.c 1 (by decide)
  have h2 : Z.cell? ⟨w.heap.size + 1 + 1, 2, none⟩ = some (.int .i64 (0)) := EZ.c 2 (by decide)
  have h3 : Z.cell? ⟨w.heap.size + 1 + 1, 3, none⟩ = some (.int .i64 (0)) := EZ.c 3 (by decide)
  have h4 : Z.cell? ⟨w.heap.size + 1 + 1, 4, none⟩ = some (.int .i64 (0)) := EZ.c 4 (by decide)
  have h5 : Z.cell? ⟨w.heap.size + 1 + 1, 5, none⟩ = some (.int .i64 (0)) := EZ.c 5 (by decide)
  have h6 : Z.cell? ⟨w.heap.size + 1 + 1, 6, none⟩ = some (.int .i64 (0)) := EZ.c 6 (by decide)
  have h7 : Z.cell? ⟨w.heap.size + 1 + 1, 7, none⟩ = some (.int .i64 (0)) := EZ.c 7 (by decide)
  have h8 : Z.cell? ⟨w.heap.size + 1 + 1, 8, none⟩ = some (.int .i64 (0)) := EZ.c 8 (by decide)
  have h9 : Z.cell? ⟨w.heap.size + 1 + 1, 9, none⟩ = some (.int .i64 (0)) := EZ.c 9 (by decide)
  have h10 : Z.cell? ⟨w.heap.size + 1 + 1, 10, none⟩ = some (.int .i64 (0)) := EZ.c 10 (by decide)
  have h11 : Z.cell? ⟨w.heap.size + 1 + 1, 11, none⟩ = some (.int .i64 (0)) := EZ.c 11 (by decide)
  have h12 : Z.cell? ⟨w.heap.size + 1 + 1, 12, none⟩ = some (.int .i64 (0)) := EZ.c 12 (by decide)
  have h13 : Z.cell? ⟨w.heap.size + 1 + 1, 13, none⟩ = some (.int .i64 (0)) := EZ.c 13 (by decide)
  clear EZ
  exact bodyPost_ret (v := .tuple #[.agg #[.int .i64 (0), .int .i64 (0), .int .i64 (0), .int .i64 (0), .int .i64 (0), .int .i64 (0), .int .i64 (0), .int .i64 (0), .int .i64 (0), .int .i64 (0), .int .i64 (0), .int .i64 (0), .int .i64 (0), .int .i64 (0)], .int .i64 e0]) (by simp [results, Try.results27, go_sem, h0, h1, h2, h3, h4, h5, h6, h7, h8, h9, h10, h11, h12, h13]) rfl ⟨rfl, bZ⟩


/-- samples, in a slice -/
def SmpsIs (w : World) (a : Option Addr) (n : Nat) (zs : Nat → Smp) : Prop := n = 0 ∨ ∃ b off, a = some ⟨b, off, none⟩ ∧ b < w.heap.size ∧ SmpsAt w b off n zs
theorem SmpsIs.keep {W w1 : World} {a : Option Addr} {n : Nat} {zs : Nat → Smp} (h : SmpsIs W a n zs) (hb : Below W.heap.size W w1) : SmpsIs w1 a n zs := by
  rcases h with h | ⟨b, off, h, h1, h2⟩
  · exact .inl h
  · exact .inr ⟨b, off, h, Nat.lt_of_lt_of_le h1 hb.size, h2.keep hb h1⟩
/-- the error of Hear -/
def herE (l kd f s c lv ph n0 n1 : Int) (n : Nat) (zs : Nat → Smp) : Int := if ckC l kd f s c lv ph n0 n1 = 0 then samC zs n c else ckC l kd f s c lv ph n0 n1
/-- the echo that Hear returns -/
def herV (l kd f s c lv ph n0 n1 : Int) (n : Nat) (zs : Nat → Smp) : Nat → Int := if herE l kd f s c lv ph n0 n1 n zs = 0 then hearOf l kd c lv ph n0 n1 n zs else fun _ => 0
theorem herE_0 {l kd f s c lv ph n0 n1 : Int} {n : Nat} {zs : Nat → Smp} (h : herE l kd f s c lv ph n0 n1 n zs = 0) : trainC l kd f s c = 0 ∧ recvC lv ph n0 n1 = 0 ∧ (n : Int) = c ∧ allS zs n = true := by
  unfold herE at h
  split at h
  · rename_i h1
    obtain ⟨h2, h3⟩ := ckC_0 h1
    refine ⟨h2, h3, ?_⟩
    unfold samC at h
    split at h
    · rename_i h4
      split at h
      · rename_i h5; exact ⟨h4, h5⟩
      · omega
    · omega
  · exact absurd h (by assumption)
set_option maxHeartbeats 1000000 in
theorem Hear_any (l kd f s c lv ph n0 n1 : Int) (a : Option Addr) (n cap : Nat) (zs : Nat → Smp) (w : World) (hS : SmpsIs w a n zs) :
    Calls Try.prog 27 #[.agg #[.int .i64 l, .int .i64 kd, .int .i64 f, .int .i64 s, .int .i64 c], .agg #[.int .i64 lv, .int .i64 ph, .int .i64 n0, .int .i64 n1], .slice a n cap] w fun e' w' => e' = .returned (.tuple #[.agg #[.int .i64 ((herV l kd f s c lv ph n0 n1 n zs) 0), .int .i64 ((herV l kd f s c lv ph n0 n1 n zs) 1), .int .i64 ((herV l kd f s c lv ph n0 n1 n zs) 2), .int .i64 ((herV l kd f s c lv ph n0 n1 n zs) 3), .int .i64 ((herV l kd f s c lv ph n0 n1 n zs) 4), .int .i64 ((herV l kd f s c lv ph n0 n1 n zs) 5), .int .i64 ((herV l kd f s c lv ph n0 n1 n zs) 6), .int .i64 ((herV l kd f s c lv ph n0 n1 n zs) 7), .int .i64 ((herV l kd f s c lv ph n0 n1 n zs) 8), .int .i64 ((herV l kd f s c lv ph n0 n1 n zs) 9), .int .i64 ((herV l kd f s c lv ph n0 n1 n zs) 10), .int .i64 ((herV l kd f s c lv ph n0 n1 n zs) 11), .int .i64 ((herV l kd f s c lv ph n0 n1 n zs) 12), .int .i64 ((herV l kd f s c lv ph n0 n1 n zs) 13)], .int .i64 (herE l kd f s c lv ph n0 n1 n zs)]) ∧ Below w.heap.size w w' := by
  by_cases hE : herE l kd f s c lv ph n0 n1 n zs = 0
  · obtain ⟨h1, h2, h3, h4⟩ := herE_0 hE
    have h5 := (train_ok h1).1
    rcases hS with h | ⟨b, off, rfl, hb, hs⟩
    · omega
    · have h := Hear_ok l kd f s c lv ph n0 n1 b off n cap zs w h1 h2 h3 h4 hs hb
      have e : herV l kd f s c lv ph n0 n1 n zs = hearOf l kd c lv ph n0 n1 n zs := by unfold herV; rw [if_pos hE]
      rw [e, hE]; exact h
  · have e : herV l kd f s c lv ph n0 n1 n zs = fun _ => 0 := by unfold herV; rw [if_neg hE]
    rw [e]
    by_cases hc : ckC l kd f s c lv ph n0 n1 = 0
    · have e2 : herE l kd f s c lv ph n0 n1 n zs = samC zs n c := by unfold herE; rw [if_pos hc]
      rw [e2] at hE ⊢
      refine Hear_err2 l kd f s c lv ph n0 n1 a n cap _ w hc hE (Lib.hid fun W hW => ?_)
      unfold samC
      by_cases hn : (n : Int) = c
      · rw [if_pos hn]
        have h5 := (train_ok (ckC_0 hc).1).1
        rcases hS with h | ⟨b, off, rfl, hb, hs⟩
        · omega
        · exact checkSamples_all l kd f s c b off n cap zs W hn (by omega) (hs.keep hW hb) (Nat.lt_of_lt_of_le hb hW.size)
      · rw [if_neg hn]
        exact checkSamples_shape l kd f s c a n cap W hn
    · have e2 : herE l kd f s c lv ph n0 n1 n zs = ckC l kd f s c lv ph n0 n1 := by unfold herE; rw [if_neg hc]
      rw [e2] at hE ⊢
      exact Hear_err1 l kd f s c lv ph n0 n1 a n cap _ w rfl hE

end Go.Proofs.Ytmojnopgpgnfeaa
