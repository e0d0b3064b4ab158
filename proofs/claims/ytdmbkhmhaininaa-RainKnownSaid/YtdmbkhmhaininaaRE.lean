/-
  What was there, of what was measured.
-/
import Derived.Test.YtdmbkhmhaininaaF
import Derived.Deep.Cut
namespace Go.Proofs.Ytdmbkhmhaininaa
open Go.RowKit
set_option linter.unusedVariables false
set_option linter.unusedSimpArgs false

theorem rest_boxes (w : World) (m1 m2 tl th : Int) : ∃ A, A = ((w.alloc (.cells #[.int .i64 m1, .int .i64 m2] 24)).alloc (.cells #[.int .i64 tl, .int .i64 th] 24)).alloc (.cells #[.int .i64 0, .int .i64 0] 24) ∧ Below w.heap.size w A ∧ A.heap.size = w.heap.size + 3 ∧ A.cell? ⟨w.heap.size, 0, none⟩ = some (.int .i64 m1) ∧ A.cell? ⟨w.heap.size, 1, none⟩ = some (.int .i64 m2) ∧ A.cell? ⟨w.heap.size + 1, 0, none⟩ = some (.int .i64 tl) ∧ A.cell? ⟨w.heap.size + 1, 1, none⟩ = some (.int .i64 th) ∧ A.cell? ⟨w.heap.size + 1 + 1, 0, none⟩ = some (.int .i64 0) ∧ A.cell? ⟨w.heap.size + 1 + 1, 1, none⟩ = some (.int .i64 0) ∧ A.frozen? ⟨w.heap.size + 1 + 1, 0, none⟩ = false ∧ A.frozen? ⟨w.heap.size + 1 + 1, 1, none⟩ = false := by
  obtain ⟨A0, e0⟩ : ∃ A, A = w.alloc (.cells #[.int .i64 m1, .int .i64 m2] 24) := ⟨_, rfl⟩
  have s0 : A0.heap.size = w.heap.size + 1 := by rw [e0, World.size_alloc]
  have b0 : Below w.heap.size w A0 := by rw [e0]; exact below_alloc _ _
  have c0_0_0 : A0.cell? ⟨w.heap.size, 0, none⟩ = some (.int .i64 m1) := by rw [e0]; exact alloc_new rfl rfl
  have c0_1_0 : A0.cell? ⟨w.heap.size, 1, none⟩ = some (.int .i64 m2) := by rw [e0]; exact alloc_new rfl rfl
  rw [← e0]
  obtain ⟨A1, e1⟩ : ∃ A, A = A0.alloc (.cells #[.int .i64 tl, .int .i64 th] 24) := ⟨_, rfl⟩
  have s1 : A1.heap.size = w.heap.size + 2 := by rw [e1, World.size_alloc]; omega
  have b1 : Below w.heap.size w A1 := by rw [e1]; exact b0.trans ((below_alloc _ _).mono (by omega))
  have c0_0_1 : A1.cell? ⟨w.heap.size, 0, none⟩ = some (.int .i64 m1) := by rw [e1]; exact alloc_keep (by omega) c0_0_0
  have c0_1_1 : A1.cell? ⟨w.heap.size, 1, none⟩ = some (.int .i64 m2) := by rw [e1]; exact alloc_keep (by omega) c0_1_0
  have c1_0_1 : A1.cell? ⟨w.heap.size + 1, 0, none⟩ = some (.int .i64 tl) := by rw [e1]; exact alloc_new s0.symm rfl
  have c1_1_1 : A1.cell? ⟨w.heap.size + 1, 1, none⟩ = some (.int .i64 th) := by rw [e1]; exact alloc_new s0.symm rfl
  rw [← e1]
  exact ⟨_, rfl, b1.trans ((below_alloc _ _).mono (by omega)), by rw [World.size_alloc]; omega, alloc_keep (by omega) c0_0_1, alloc_keep (by omega) c0_1_1, alloc_keep (by omega) c1_0_1, alloc_keep (by omega) c1_1_1, alloc_new s1.symm rfl, alloc_new s1.symm rfl, alloc_newF s1.symm, alloc_newF s1.symm⟩

set_option maxRecDepth 100000 in
set_option maxHeartbeats 3200000 in
theorem restored_part (m1 m2 tl th : Int) (w : World) (h1 : 0 ≤ m1) (h2 : m1 ≤ m2) (h3 : m2 ≤ 1073741824) (t1 : 0 ≤ tl) (t2 : tl ≤ th) (t3 : th ≤ 1073741824) (t4 : 1 ≤ th) (hlt : 1048576 ≤ tl) :
    Calls Try.prog 96 #[.agg #[.int .i64 m1, .int .i64 m2], .agg #[.int .i64 tl, .int .i64 th]] w fun e w' => e = .returned (.agg #[.int .i64 (resLo (tl, th) (m1, m2)), .int .i64 (resHi (tl, th) (m1, m2))]) ∧ Below w.heap.size w w' := by
  obtain ⟨M1, hM1⟩ : ∃ x, x = m1 * 1073741824 := ⟨_, rfl⟩
  have k1 : 0 ≤ M1 ∧ M1 ≤ 1152921504606846976 := by rw [hM1]; omega
  have q1 := floor_bd (a := M1) (b := th) (q := 1152921504606846976) t4 k1.1 (by have := Int.mul_le_mul_of_nonneg_left t4 (show (0:Int) ≤ 1152921504606846976 by decide); omega)
  obtain ⟨Q1, hQ1⟩ : ∃ x, x = M1 / th := ⟨_, rfl⟩
  rw [← hQ1] at q1
  obtain ⟨RL, hRL⟩ : ∃ x, x = min 1073741824 Q1 := ⟨_, rfl⟩
  have HRL := Lib.hid (show RL = resLo (tl, th) (m1, m2) by unfold resLo; rw [hRL, hQ1, hM1])
  have rb : 0 ≤ RL ∧ RL ≤ 1073741824 := by rw [hRL]; omega
  have e3 : m1 * 1073741824 = M1 := hM1.symm
  have e4 : IntKind.i64.wrap M1 = M1 := IntWalk.i64_in _ (by omega)
  have e5 : IntKind.i64.wrap (m1 * 1073741824) = M1 := by rw [e3]; exact e4
  have e6 : M1.tdiv th = Q1 := by rw [hQ1]; exact Int.tdiv_eq_ediv_of_nonneg k1.1
  have e7 : M1 / th = Q1 := hQ1.symm
  have e8 : IntKind.i64.wrap Q1 = Q1 := IntWalk.i64_in _ (by omega)
  have e9 : (th == 0) = false := by rw [beq_eq_false_iff_ne]; omega
  have e10 : ¬ th = 0 := by omega
  have e11 : (if Q1 < 1073741824 then Q1 else 1073741824) = RL := by rw [hRL]; split <;> omega
  have e12 : min 1073741824 Q1 = RL := hRL.symm
  clear hM1 hQ1 hRL
  obtain ⟨Y, hY, bY, zY, a0, a1, b0, b1, r0, r1, g0, g1⟩ := rest_boxes w m1 m2 tl th
  have y0 : w.heap.size < Y.heap.size := by omega
  have y1 : w.heap.size + 1 < Y.heap.size := by omega
  have y2 : w.heap.size + 1 + 1 < Y.heap.size := by omega
  clear zY
  obtain ⟨M2, hM2⟩ : ∃ x, x = m2 * 1073741824 := ⟨_, rfl⟩
  have k2 : 0 ≤ M2 ∧ M2 ≤ 1152921504606846976 := by rw [hM2]; omega
  have d1 : 1 ≤ tl := by omega
  have c1 := cdiv_bd (a := M2) (b := tl) (q := 1152921504606846976) d1 k2.1 (by have := Int.mul_le_mul_of_nonneg_left d1 (show (0:Int) ≤ 1152921504606846976 by decide); omega)
  obtain ⟨C1, hC1⟩ : ∃ x, x = cdiv M2 tl := ⟨_, rfl⟩
  rw [← hC1] at c1
  obtain ⟨RH, hRH⟩ : ∃ x, x = min 1073741824 C1 := ⟨_, rfl⟩
  have HRH := Lib.hid (show RH = resHi (tl, th) (m1, m2) by unfold resHi; rw [if_pos hlt, hRH, hC1, hM2])
  have f1 : m2 * 1073741824 = M2 := hM2.symm
  have f2 : IntKind.i64.wrap M2 = M2 := IntWalk.i64_in _ (by omega)
  have f3 : IntKind.i64.wrap (m2 * 1073741824) = M2 := by rw [f1]; exact f2
  have f6 : (if C1 < 1073741824 then C1 else 1073741824) = RH := by rw [hRH]; split <;> omega
  have f7 : min 1073741824 C1 = RH := hRH.symm
  have f8 : decide (1048576 ≤ tl) = true := decide_eq_true hlt
  have HU := Lib.hid (fun W => show Calls Try.prog 58 #[.int .i64 M2, .int .i64 tl] W fun e w' => e = .returned (.int .i64 C1) ∧ W = w' from by rw [hC1]; exact up_any M2 tl W d1 (by omega) k2.1 (by omega))
  clear hM2 hC1 hRH hlt
  go_enter Try.func96, Try.ntmps96
  go_upto_region 1 with fail
  rw [← hY]
  clear hY
  have bb := below_alloc Y (.cells #[.int .i64 RL, .int .i64 1073741824] 24)
  have t0 : (Y.alloc (.cells #[.int .i64 RL, .int .i64 1073741824] 24)).cell? ⟨Y.heap.size, 0, none⟩ = some (.int .i64 RL) := alloc_new rfl rfl
  have t1' : (Y.alloc (.cells #[.int .i64 RL, .int .i64 1073741824] 24)).cell? ⟨Y.heap.size, 1, none⟩ = some (.int .i64 1073741824) := alloc_new rfl rfl
  have t2' : (Y.alloc (.cells #[.int .i64 RL, .int .i64 1073741824] 24)).frozen? ⟨Y.heap.size, 0, none⟩ = false := alloc_newF rfl
  have t3' : (Y.alloc (.cells #[.int .i64 RL, .int .i64 1073741824] 24)).frozen? ⟨Y.heap.size, 1, none⟩ = false := alloc_newF rfl
  have tz : Y.heap.size < (Y.alloc (.cells #[.int .i64 RL, .int .i64 1073741824] 24)).heap.size := by rw [World.size_alloc]; omega
  have a0 := keepB bb (by omega) a0
  have a1 := keepB bb (by omega) a1
  have b0 := keepB bb (by omega) b0
  have b1 := keepB bb (by omega) b1
  have r0 := keepB bb (by omega) r0
  have r1 := keepB bb (by omega) r1
  have g0 := keepF bb (by omega) g0
  have g1 := keepF bb (by omega) g1
  have bE := bY.trans (bb.mono bY.size)
  obtain ⟨q, hq⟩ : ∃ q, q = Y.heap.size := ⟨_, rfl⟩
  obtain ⟨E, hE⟩ : ∃ E, E = Y.alloc (.cells #[.int .i64 RL, .int .i64 1073741824] 24) := ⟨_, rfl⟩
  have q1' : w.heap.size + 1 + 1 < q := by omega
  rw [← hE, ← hq] at t0 t1' t2' t3' tz
  rw [← hE] at a0 a1 b0 b1 r0 r1 g0 g1 bE
  go_wp2_with fail
  rw [← hE]
  try rw [← hq]
  clear hE hq bb bY
  refine (HU.out _).mono ?_; rintro e w' ⟨rfl, rfl⟩
  have rz0 : (E.setCell ⟨q, 1, none⟩ (.int .i64 RH)).cell? ⟨w.heap.size + 1 + 1, 0, none⟩ = some (.int .i64 0) := cell_far (by omega) r0
  have rz1 : (E.setCell ⟨q, 1, none⟩ (.int .i64 RH)).cell? ⟨w.heap.size + 1 + 1, 1, none⟩ = some (.int .i64 0) := cell_far (by omega) r1
  have tz0 : (E.setCell ⟨q, 1, none⟩ (.int .i64 RH)).cell? ⟨q, 0, none⟩ = some (.int .i64 RL) := set_other (by decide) t0
  have tz1 : (E.setCell ⟨q, 1, none⟩ (.int .i64 RH)).cell? ⟨q, 1, none⟩ = some (.int .i64 RH) := set_same t1'
  have bZ : Below w.heap.size w (E.setCell ⟨q, 1, none⟩ (.int .i64 RH)) := bE.setCell (p := ⟨q, 1, none⟩) (by dsimp only; omega) _
  go_wp2
  exact bodyPost_ret (v := .agg #[.int .i64 RL, .int .i64 RH]) (by simp [results, Try.results96, go_sem, set_same (i := 0) (v := .int .i64 RL) rz0, set_other (i := 1) (j := 0) (v := .int .i64 RH) (by decide) (set_same (i := 0) (v := .int .i64 RL) rz0), set_same (i := 1) (v := .int .i64 RH) (set_other (i := 0) (j := 1) (v := .int .i64 RL) (by decide) rz1), tz0, tz1]) rfl ⟨by rw [HRL.out, HRH.out], ((bZ.setCell (p := ⟨w.heap.size + 1 + 1, 0, none⟩) (by dsimp only; omega) _).setCell (p := ⟨w.heap.size + 1 + 1, 1, none⟩) (by dsimp only; omega) _)⟩

set_option maxRecDepth 100000 in
set_option maxHeartbeats 3200000 in
theorem restored_all (m1 m2 tl th : Int) (w : World) (h1 : 0 ≤ m1) (h2 : m1 ≤ m2) (h3 : m2 ≤ 1073741824) (t1 : 0 ≤ tl) (t2 : tl ≤ th) (t3 : th ≤ 1073741824) (t4 : 1 ≤ th) (hlt : ¬ 1048576 ≤ tl) :
    Calls Try.prog 96 #[.agg #[.int .i64 m1, .int .i64 m2], .agg #[.int .i64 tl, .int .i64 th]] w fun e w' => e = .returned (.agg #[.int .i64 (resLo (tl, th) (m1, m2)), .int .i64 (resHi (tl, th) (m1, m2))]) ∧ Below w.heap.size w w' := by
  obtain ⟨M1, hM1⟩ : ∃ x, x = m1 * 1073741824 := ⟨_, rfl⟩
  have k1 : 0 ≤ M1 ∧ M1 ≤ 1152921504606846976 := by rw [hM1]; omega
  have q1 := floor_bd (a := M1) (b := th) (q := 1152921504606846976) t4 k1.1 (by have := Int.mul_le_mul_of_nonneg_left t4 (show (0:Int) ≤ 1152921504606846976 by decide); omega)
  obtain ⟨Q1, hQ1⟩ : ∃ x, x = M1 / th := ⟨_, rfl⟩
  rw [← hQ1] at q1
  obtain ⟨RL, hRL⟩ : ∃ x, x = min 1073741824 Q1 := ⟨_, rfl⟩
  have HRL := Lib.hid (show RL = resLo (tl, th) (m1, m2) by unfold resLo; rw [hRL, hQ1, hM1])
  have rb : 0 ≤ RL ∧ RL ≤ 1073741824 := by rw [hRL]; omega
  have e3 : m1 * 1073741824 = M1 := hM1.symm
  have e4 : IntKind.i64.wrap M1 = M1 := IntWalk.i64_in _ (by omega)
  have e5 : IntKind.i64.wrap (m1 * 1073741824) = M1 := by rw [e3]; exact e4
  have e6 : M1.tdiv th = Q1 := by rw [hQ1]; exact Int.tdiv_eq_ediv_of_nonneg k1.1
  have e7 : M1 / th = Q1 := hQ1.symm
  have e8 : IntKind.i64.wrap Q1 = Q1 := IntWalk.i64_in _ (by omega)
  have e9 : (th == 0) = false := by rw [beq_eq_false_iff_ne]; omega
  have e10 : ¬ th = 0 := by omega
  have e11 : (if Q1 < 1073741824 then Q1 else 1073741824) = RL := by rw [hRL]; split <;> omega
  have e12 : min 1073741824 Q1 = RL := hRL.symm
  clear hM1 hQ1 hRL
  obtain ⟨Y, hY, bY, zY, a0, a1, b0, b1, r0, r1, g0, g1⟩ := rest_boxes w m1 m2 tl th
  have y0 : w.heap.size < Y.heap.size := by omega
  have y1 : w.heap.size + 1 < Y.heap.size := by omega
  have y2 : w.heap.size + 1 + 1 < Y.heap.size := by omega
  clear zY
  have HRH := Lib.hid (show resHi (tl, th) (m1, m2) = 1073741824 by unfold resHi; rw [if_neg hlt])
  have f8 : decide (1048576 ≤ tl) = false := decide_eq_false hlt
  go_enter Try.func96, Try.ntmps96
  go_upto_region 1 with fail
  rw [← hY]
  clear hY
  have bb := below_alloc Y (.cells #[.int .i64 RL, .int .i64 1073741824] 24)
  have t0 : (Y.alloc (.cells #[.int .i64 RL, .int .i64 1073741824] 24)).cell? ⟨Y.heap.size, 0, none⟩ = some (.int .i64 RL) := alloc_new rfl rfl
  have t1' : (Y.alloc (.cells #[.int .i64 RL, .int .i64 1073741824] 24)).cell? ⟨Y.heap.size, 1, none⟩ = some (.int .i64 1073741824) := alloc_new rfl rfl
  have t2' : (Y.alloc (.cells #[.int .i64 RL, .int .i64 1073741824] 24)).frozen? ⟨Y.heap.size, 0, none⟩ = false := alloc_newF rfl
  have t3' : (Y.alloc (.cells #[.int .i64 RL, .int .i64 1073741824] 24)).frozen? ⟨Y.heap.size, 1, none⟩ = false := alloc_newF rfl
  have tz : Y.heap.size < (Y.alloc (.cells #[.int .i64 RL, .int .i64 1073741824] 24)).heap.size := by rw [World.size_alloc]; omega
  have a0 := keepB bb (by omega) a0
  have a1 := keepB bb (by omega) a1
  have b0 := keepB bb (by omega) b0
  have b1 := keepB bb (by omega) b1
  have r0 := keepB bb (by omega) r0
  have r1 := keepB bb (by omega) r1
  have g0 := keepF bb (by omega) g0
  have g1 := keepF bb (by omega) g1
  have bE := bY.trans (bb.mono bY.size)
  obtain ⟨q, hq⟩ : ∃ q, q = Y.heap.size := ⟨_, rfl⟩
  obtain ⟨E, hE⟩ : ∃ E, E = Y.alloc (.cells #[.int .i64 RL, .int .i64 1073741824] 24) := ⟨_, rfl⟩
  have q1' : w.heap.size + 1 + 1 < q := by omega
  rw [← hE, ← hq] at t0 t1' t2' t3' tz
  rw [← hE] at a0 a1 b0 b1 r0 r1 g0 g1 bE
  go_upto_region 4 with fail
  rw [← hE]
  try rw [← hq]
  clear hE hq bb bY
  go_wp2
  exact bodyPost_ret (v := .agg #[.int .i64 RL, .int .i64 1073741824]) (by simp [results, Try.results96, go_sem, set_same (i := 0) (v := .int .i64 RL) r0, set_other (i := 1) (j := 0) (v := .int .i64 1073741824) (by decide) (set_same (i := 0) (v := .int .i64 RL) r0), set_same (i := 1) (v := .int .i64 1073741824) (set_other (i := 0) (j := 1) (v := .int .i64 RL) (by decide) r1)]) rfl ⟨by rw [HRL.out, HRH.out], ((bE.setCell (p := ⟨w.heap.size + 1 + 1, 0, none⟩) (by dsimp only; omega) _).setCell (p := ⟨w.heap.size + 1 + 1, 1, none⟩) (by dsimp only; omega) _)⟩

theorem restored_any (m1 m2 tl th : Int) (w : World) (h1 : 0 ≤ m1) (h2 : m1 ≤ m2) (h3 : m2 ≤ 1073741824) (t1 : 0 ≤ tl) (t2 : tl ≤ th) (t3 : th ≤ 1073741824) (t4 : 1 ≤ th) :
    Calls Try.prog 96 #[.agg #[.int .i64 m1, .int .i64 m2], .agg #[.int .i64 tl, .int .i64 th]] w fun e w' => e = .returned (.agg #[.int .i64 (resLo (tl, th) (m1, m2)), .int .i64 (resHi (tl, th) (m1, m2))]) ∧ Below w.heap.size w w' := by
  by_cases h : 1048576 ≤ tl
  · exact restored_part m1 m2 tl th w h1 h2 h3 t1 t2 t3 t4 h
  · exact restored_all m1 m2 tl th w h1 h2 h3 t1 t2 t3 t4 h

end Go.Proofs.Ytdmbkhmhaininaa
