/-
  The reference's scales of a pair.
-/
import Derived.Test.YtdmbkhmhaininaaGP
import Derived.Test.YtdmbkhmhaininaaH
import Derived.Deep.Cut
namespace Go.Proofs.Ytdmbkhmhaininaa
open Go.RowKit
set_option linter.unusedVariables false
set_option linter.unusedSimpArgs false

/-- the boxes of the reference's scales: the pair, the result, what fell, the span -/
structure RsR (w wr : World) (p : Pr) (qf qo : Nat) (x y : Int) : Prop where
  a0 : wr.cell? ⟨w.heap.size, 0, none⟩ = some (.int .i64 p.s1)
  a1 : wr.cell? ⟨w.heap.size, 1, none⟩ = some (.int .i64 p.s2)
  r0 : wr.cell? ⟨w.heap.size + 1, 0, none⟩ = some (.int .i64 0)
  r1 : wr.cell? ⟨w.heap.size + 1, 1, none⟩ = some (.int .i64 0)
  g0 : wr.frozen? ⟨w.heap.size + 1, 0, none⟩ = false
  g1 : wr.frozen? ⟨w.heap.size + 1, 1, none⟩ = false
  f0 : wr.cell? ⟨qf, 0, none⟩ = some (.int .i64 (gL p))
  f1 : wr.cell? ⟨qf, 1, none⟩ = some (.int .i64 (gH p))
  t0 : wr.cell? ⟨qo, 0, none⟩ = some (.int .i64 x)
  t1 : wr.cell? ⟨qo, 1, none⟩ = some (.int .i64 y)
  u0 : wr.frozen? ⟨qo, 0, none⟩ = false
  u1 : wr.frozen? ⟨qo, 1, none⟩ = false
  l1 : w.heap.size + 1 < qf
  l2 : qf < qo
  l3 : qo < wr.heap.size
  b : Below w.heap.size w wr
theorem RsR.keep {w W w1 : World} {p : Pr} {qf qo : Nat} {x y : Int} (R : RsR w W p qf qo x y) (hb : Below W.heap.size W w1) : RsR w w1 p qf qo x y := by
  have l1 := R.l1
  have l2 := R.l2
  have l3 := R.l3
  exact ⟨keepB hb (by omega) R.a0, keepB hb (by omega) R.a1, keepB hb (by omega) R.r0, keepB hb (by omega) R.r1, keepF hb (by omega) R.g0, keepF hb (by omega) R.g1, keepB hb (by omega) R.f0, keepB hb (by omega) R.f1, keepB hb (by omega) R.t0, keepB hb (by omega) R.t1, keepF hb (by omega) R.u0, keepF hb (by omega) R.u1, l1, l2, Nat.lt_of_lt_of_le l3 hb.size, R.b.trans (hb.mono R.b.size)⟩
theorem RsR.set0 {w W : World} {p : Pr} {qf qo : Nat} {x y : Int} (R : RsR w W p qf qo x y) (v : Int) : RsR w (W.setCell ⟨qo, 0, none⟩ (.int .i64 v)) p qf qo v y := by
  have l1 := R.l1
  have l2 := R.l2
  have l3 := R.l3
  have hb : Below qo W (W.setCell ⟨qo, 0, none⟩ (.int .i64 v)) := (Below.refl qo W).setCell (p := ⟨qo, 0, none⟩) (Nat.le_refl _) _
  have z := R.b.size
  exact ⟨keepB hb (by omega) R.a0, keepB hb (by omega) R.a1, keepB hb (by omega) R.r0, keepB hb (by omega) R.r1, keepF hb (by omega) R.g0, keepF hb (by omega) R.g1, keepB hb (by omega) R.f0, keepB hb (by omega) R.f1, set_same R.t0, set_other (by decide) R.t1, by simp; exact R.u0, by simp; exact R.u1, l1, l2, by simp; exact l3, R.b.trans (hb.mono (by omega))⟩
theorem RsR.set1 {w W : World} {p : Pr} {qf qo : Nat} {x y : Int} (R : RsR w W p qf qo x y) (v : Int) : RsR w (W.setCell ⟨qo, 1, none⟩ (.int .i64 v)) p qf qo x v := by
  have l1 := R.l1
  have l2 := R.l2
  have l3 := R.l3
  have hb : Below qo W (W.setCell ⟨qo, 1, none⟩ (.int .i64 v)) := (Below.refl qo W).setCell (p := ⟨qo, 1, none⟩) (Nat.le_refl _) _
  have z := R.b.size
  exact ⟨keepB hb (by omega) R.a0, keepB hb (by omega) R.a1, keepB hb (by omega) R.r0, keepB hb (by omega) R.r1, keepF hb (by omega) R.g0, keepF hb (by omega) R.g1, keepB hb (by omega) R.f0, keepB hb (by omega) R.f1, set_other (by decide) R.t0, set_same R.t1, by simp; exact R.u0, by simp; exact R.u1, l1, l2, by simp; exact l3, R.b.trans (hb.mono (by omega))⟩
theorem rscale_boxes (w : World) (p : Pr) : ∃ A, A = (w.alloc (.cells #[.int .i64 p.s1, .int .i64 p.s2, .int .i64 p.ti, .int .i64 p.sz] 73)).alloc (.cells #[.int .i64 0, .int .i64 0] 24) ∧ Below w.heap.size w A ∧ A.heap.size = w.heap.size + 2 ∧ A.cell? ⟨w.heap.size, 0, none⟩ = some (.int .i64 p.s1) ∧ A.cell? ⟨w.heap.size, 1, none⟩ = some (.int .i64 p.s2) ∧ A.cell? ⟨w.heap.size, 2, none⟩ = some (.int .i64 p.ti) ∧ A.cell? ⟨w.heap.size, 3, none⟩ = some (.int .i64 p.sz) ∧ A.cell? ⟨w.heap.size + 1, 0, none⟩ = some (.int .i64 0) ∧ A.cell? ⟨w.heap.size + 1, 1, none⟩ = some (.int .i64 0) ∧ A.frozen? ⟨w.heap.size + 1, 0, none⟩ = false ∧ A.frozen? ⟨w.heap.size + 1, 1, none⟩ = false := by
  obtain ⟨A0, e0⟩ : ∃ A, A = w.alloc (.cells #[.int .i64 p.s1, .int .i64 p.s2, .int .i64 p.ti, .int .i64 p.sz] 73) := ⟨_, rfl⟩
  have s0 : A0.heap.size = w.heap.size + 1 := by rw [e0, World.size_alloc]
  have b0 : Below w.heap.size w A0 := by rw [e0]; exact below_alloc _ _
  have c0_0_0 : A0.cell? ⟨w.heap.size, 0, none⟩ = some (.int .i64 p.s1) := by rw [e0]; exact alloc_new rfl rfl
  have c0_1_0 : A0.cell? ⟨w.heap.size, 1, none⟩ = some (.int .i64 p.s2) := by rw [e0]; exact alloc_new rfl rfl
  have c0_2_0 : A0.cell? ⟨w.heap.size, 2, none⟩ = some (.int .i64 p.ti) := by rw [e0]; exact alloc_new rfl rfl
  have c0_3_0 : A0.cell? ⟨w.heap.size, 3, none⟩ = some (.int .i64 p.sz) := by rw [e0]; exact alloc_new rfl rfl
  rw [← e0]
  exact ⟨_, rfl, b0.trans ((below_alloc _ _).mono (by omega)), by rw [World.size_alloc]; omega, alloc_keep (by omega) c0_0_0, alloc_keep (by omega) c0_1_0, alloc_keep (by omega) c0_2_0, alloc_keep (by omega) c0_3_0, alloc_new s0.symm rfl, alloc_new s0.symm rfl, alloc_newF s0.symm, alloc_newF s0.symm⟩
theorem two_boxes (w : World) (g1 g2 : Int) : ∃ A, A = (w.alloc (.cells #[.int .i64 g1, .int .i64 g2] 24)).alloc (.cells #[.int .i64 1, .int .i64 100000] 24) ∧ Below w.heap.size w A ∧ A.heap.size = w.heap.size + 2 ∧ A.cell? ⟨w.heap.size, 0, none⟩ = some (.int .i64 g1) ∧ A.cell? ⟨w.heap.size, 1, none⟩ = some (.int .i64 g2) ∧ A.cell? ⟨w.heap.size + 1, 0, none⟩ = some (.int .i64 1) ∧ A.cell? ⟨w.heap.size + 1, 1, none⟩ = some (.int .i64 100000) ∧ A.frozen? ⟨w.heap.size + 1, 0, none⟩ = false ∧ A.frozen? ⟨w.heap.size + 1, 1, none⟩ = false := by
  obtain ⟨A0, e0⟩ : ∃ A, A = w.alloc (.cells #[.int .i64 g1, .int .i64 g2] 24) := ⟨_, rfl⟩
  have s0 : A0.heap.size = w.heap.size + 1 := by rw [e0, World.size_alloc]
  have b0 : Below w.heap.size w A0 := by rw [e0]; exact below_alloc _ _
  have c0_0_0 : A0.cell? ⟨w.heap.size, 0, none⟩ = some (.int .i64 g1) := by rw [e0]; exact alloc_new rfl rfl
  have c0_1_0 : A0.cell? ⟨w.heap.size, 1, none⟩ = some (.int .i64 g2) := by rw [e0]; exact alloc_new rfl rfl
  rw [← e0]
  exact ⟨_, rfl, b0.trans ((below_alloc _ _).mono (by omega)), by rw [World.size_alloc]; omega, alloc_keep (by omega) c0_0_0, alloc_keep (by omega) c0_1_0, alloc_new s0.symm rfl, alloc_new s0.symm rfl, alloc_newF s0.symm, alloc_newF s0.symm⟩

set_option maxRecDepth 100000 in
set_option maxHeartbeats 6400000 in
theorem rscales_p_pos (p : Pr) (w : World) (hp : PrOk p) (hhi : 0 < p.s1) (hlo : 0 < p.s2) :
    Calls Try.prog 77 #[.agg #[.int .i64 p.s1, .int .i64 p.s2, .int .i64 p.ti, .int .i64 p.sz]] w fun e w' => e = .returned (.agg #[.int .i64 (rLo p), .int .i64 (rHi p)]) ∧ Below w.heap.size w w' := by
  have g := hp.g
  have a1' := hp.a1
  have a2' := hp.a2
  have a3' := hp.a3
  have HF := Lib.hid (fun W => show Calls Try.prog 36 #[.agg #[.int .i64 p.ti, .int .i64 p.sz]] W fun e w' => e = .returned (.tuple #[.agg #[.int .i64 (gL p), .int .i64 (gH p)], .int .i64 0]) ∧ Below W.heap.size W w' from refFell_ok p.ti p.sz W (inB_true.2 ⟨hp.b1, hp.b2⟩) (inB_true.2 ⟨hp.c1, hp.c2⟩))
  obtain ⟨RH, hRH⟩ : ∃ RH, RH = min 100000 (1000 * gH p / p.s1) := ⟨_, rfl⟩
  have HRH := Lib.hid (show rHi p = RH by unfold rHi; rw [if_pos hhi, hRH])
  have q5 : 0 ≤ 1000 * gH p / p.s1 := Int.ediv_nonneg (by omega) (by omega)
  have q6 : 1000 * gH p / p.s1 ≤ 1000 * gH p := Int.ediv_le_self _ (by omega)
  have c1 : min 100000 (1000 * gH p / p.s1) = RH := hRH.symm
  have c2 : (if 1000 * gH p / p.s1 < 100000 then 1000 * gH p / p.s1 else 100000) = RH := by rw [hRH]; split <;> omega
  have c3 : IntKind.i64.wrap (1000 * gH p) = 1000 * gH p := IntWalk.i64_in _ (by omega)
  have c4 : IntKind.i64.wrap (1000 * gH p / p.s1) = 1000 * gH p / p.s1 := IntWalk.i64_in _ (by omega)
  have c5 : (1000 * gH p).tdiv p.s1 = 1000 * gH p / p.s1 := Int.tdiv_eq_ediv_of_nonneg (by omega)
  have c6 : ¬ p.s1 = 0 := by omega
  have c7 : (p.s1 == 0) = false := beq_eq_false_iff_ne.2 c6
  have c8 : decide (0 < p.s1) = true := decide_eq_true hhi
  clear hRH hhi
  have HU := Lib.hid (fun W => Up_any (1000 * gL p) p.s2 W (by omega) (by omega) (by omega))
  obtain ⟨RL, hRL⟩ : ∃ RL, RL = max 1 (cdiv (1000 * gL p) p.s2) := ⟨_, rfl⟩
  have HRL := Lib.hid (show rLo p = RL by unfold rLo; rw [if_pos hlo, hRL])
  have e1 : max 1 (cdiv (1000 * gL p) p.s2) = RL := hRL.symm
  have e2 : (if 1 < cdiv (1000 * gL p) p.s2 then cdiv (1000 * gL p) p.s2 else 1) = RL := by rw [hRL]; split <;> omega
  have e3 : IntKind.i64.wrap (1000 * gL p) = 1000 * gL p := IntWalk.i64_in _ (by omega)
  have d1 : decide (0 < p.s2) = true := decide_eq_true hlo
  have d2 : (p.s2 == 0) = false := beq_eq_false_iff_ne.2 (by omega)
  generalize cdiv (1000 * gL p) p.s2 = CD at *
  clear hRL hlo
  obtain ⟨Y, hY, bY, zY, a0, a1, a2, a3, r0, r1, g0, g1⟩ := rscale_boxes w p
  clear hp
  go_enter Try.func77, Try.ntmps77
  go_wp2_with fail
  rw [← hY]
  clear hY
  refine (HF.out _).mono ?_; rintro e X ⟨rfl, hb⟩
  have y0 : w.heap.size < Y.heap.size := by omega
  have y1 : w.heap.size + 1 < Y.heap.size := by omega
  have a0 := keepB hb y0 a0
  have a1 := keepB hb y0 a1
  have r0 := keepB hb y1 r0
  have r1 := keepB hb y1 r1
  have g0 := keepF hb y1 g0
  have g1 := keepF hb y1 g1
  have bX := bY.trans (hb.mono bY.size)
  have zX := hb.size
  clear hb bY a2 a3 HF
  obtain ⟨E, hE, bE, zE, f0, f1, t0, t1, u0, u1⟩ := two_boxes X (gL p) (gH p)
  have HR := Lib.hid (show RsR w E p X.heap.size (X.heap.size + 1) 1 100000 from ⟨keepB bE (by omega) a0, keepB bE (by omega) a1, keepB bE (by omega) r0, keepB bE (by omega) r1, keepF bE (by omega) g0, keepF bE (by omega) g1, f0, f1, t0, t1, u0, u1, by omega, by omega, by omega, bX.trans (bE.mono (by omega))⟩)
  clear a0 a1 r0 r1 g0 g1 f0 f1 t0 t1 u0 u1 bX bE
  obtain ⟨qf, hqf⟩ : ∃ q, q = X.heap.size := ⟨_, rfl⟩
  obtain ⟨qo, hqo⟩ : ∃ q, q = X.heap.size + 1 := ⟨_, rfl⟩
  rw [← hqo, ← hqf] at HR
  go_upto_region 3 with fail
  rw [← hE]
  try rw [← hqo]
  try rw [← hqf]
  clear hE hqf hqo zE zX zY y0 y1
  obtain ⟨a0, a1, r0, r1, g0, g1, f0, f1, t0, t1, u0, u1, l1, l2, l3, hbw⟩ := HR.out
  go_upto_region 4 with fail
  have HS := Lib.hid (show (fun w' : World => w'.cell? ⟨qf, 1, none⟩ = some (.int .i64 (gH p)) ∧ w'.cell? ⟨w.heap.size, 0, none⟩ = some (.int .i64 p.s1) ∧ w'.cell? ⟨qo, 1, none⟩ = some (.int .i64 100000) ∧ Below E.drew.heap.size E.drew w') E.drew from ⟨f1, a0, t1, Below.refl _ _⟩)
  refine wp_region_held_tail (S := (fun w' : World => w'.cell? ⟨qf, 1, none⟩ = some (.int .i64 (gH p)) ∧ w'.cell? ⟨w.heap.size, 0, none⟩ = some (.int .i64 p.s1) ∧ w'.cell? ⟨qo, 1, none⟩ = some (.int .i64 100000) ∧ Below E.drew.heap.size E.drew w')) 9 (by kernel_rfl) (by kernel_rfl) HS.out (fun hHeld => ?_)
  refine wpAnyH_take (i := 0) (v := ?v0_1) rfl (by kernel_rfl) (by kernel_rfl) (by kernel_rfl) (fun _ _ _ h => h) (Or.inl ⟨by rfl, ?hy0_1⟩) (by assumption) ?rest0_1
  case hy0_1 => (intro w hSw; (try dsimp only at hSw); go_simp; (try with_reducible rfl))
  try simp only [Act.put, List.getElem_toArray, List.getElem_cons_zero, List.getElem_cons_succ, List.setIfInBounds_toArray, List.set_cons_zero, List.set_cons_succ]
  refine wpAnyH_take (i := 1) (v := ?v1_2) rfl (by kernel_rfl) (by kernel_rfl) (by kernel_rfl) (fun _ _ _ h => h) (Or.inl ⟨by rfl, ?hy1_2⟩) (by assumption) ?rest1_2
  case hy1_2 => (intro w hSw; (try dsimp only at hSw); go_simp; (try with_reducible rfl))
  try simp only [Act.put, List.getElem_toArray, List.getElem_cons_zero, List.getElem_cons_succ, List.setIfInBounds_toArray, List.set_cons_zero, List.set_cons_succ]
  refine wpAnyH_take (i := 2) (v := ?v2_3) rfl (by kernel_rfl) (by kernel_rfl) (by kernel_rfl) (fun _ _ _ h => h) (Or.inl ⟨by rfl, ?hy2_3⟩) (by assumption) ?rest2_3
  case hy2_3 => (intro w hSw; (try dsimp only at hSw); go_simp; (try with_reducible rfl))
  try simp only [Act.put, List.getElem_toArray, List.getElem_cons_zero, List.getElem_cons_succ, List.setIfInBounds_toArray, List.set_cons_zero, List.set_cons_succ]
  refine wpAnyH_take (i := 3) (v := ?v3_4) rfl (by kernel_rfl) (by kernel_rfl) (by kernel_rfl) (fun _ _ _ h => h) (Or.inl ⟨by rfl, ?hy3_4⟩) (by assumption) ?rest3_4
  case hy3_4 => (intro w hSw; (try dsimp only at hSw); go_simp; (try with_reducible rfl))
  try simp only [Act.put, List.getElem_toArray, List.getElem_cons_zero, List.getElem_cons_succ, List.setIfInBounds_toArray, List.set_cons_zero, List.set_cons_succ]
  refine wpAnyH_take (i := 4) (v := ?v4_5) rfl (by kernel_rfl) (by kernel_rfl) (by kernel_rfl) (fun _ _ _ h => h) (Or.inl ⟨by rfl, ?hy4_5⟩) (by assumption) ?rest4_5
  case hy4_5 => (intro w hSw; (try dsimp only at hSw); go_simp; (try with_reducible rfl))
  try simp only [Act.put, List.getElem_toArray, List.getElem_cons_zero, List.getElem_cons_succ, List.setIfInBounds_toArray, List.set_cons_zero, List.set_cons_succ]
  refine wpAnyH_take (i := 5) (v := ?v5_6) rfl (by kernel_rfl) (by kernel_rfl) (by kernel_rfl) (fun _ _ _ h => h) (Or.inl ⟨by rfl, ?hy5_6⟩) (by assumption) ?rest5_6
  case hy5_6 => (intro w hSw; (try dsimp only at hSw); go_simp; (try with_reducible rfl))
  try simp only [Act.put, List.getElem_toArray, List.getElem_cons_zero, List.getElem_cons_succ, List.setIfInBounds_toArray, List.set_cons_zero, List.set_cons_succ]
  refine wpAnyH_take (i := 6) (v := ?v6_7) rfl (by kernel_rfl) (by kernel_rfl) (by kernel_rfl) (fun _ _ _ h => h) (Or.inl ⟨by rfl, ?hy6_7⟩) (by assumption) ?rest6_7
  case hy6_7 => (intro w hSw; (try dsimp only at hSw); go_simp; (try with_reducible rfl))
  try simp only [Act.put, List.getElem_toArray, List.getElem_cons_zero, List.getElem_cons_succ, List.setIfInBounds_toArray, List.set_cons_zero, List.set_cons_succ]
  refine wpAnyH_take (i := 7) (v := ?v7_8) rfl (by kernel_rfl) (by kernel_rfl) (by kernel_rfl) (fun _ _ _ h => h) (Or.inl ⟨by rfl, ?hy7_8⟩) (by assumption) ?rest7_8
  case hy7_8 => (intro w hSw; (try dsimp only at hSw); go_simp; (try with_reducible rfl))
  try simp only [Act.put, List.getElem_toArray, List.getElem_cons_zero, List.getElem_cons_succ, List.setIfInBounds_toArray, List.set_cons_zero, List.set_cons_succ]
  refine wpAnyH_take (i := 8) (v := ?v8_9) rfl (by kernel_rfl) (by kernel_rfl) (by kernel_rfl) (fun _ _ _ h => h) (Or.inl ⟨by rfl, ?hy8_9⟩) (by assumption) ?rest8_9
  case hy8_9 => (intro w hSw; (try dsimp only at hSw); go_simp; (try with_reducible rfl))
  try simp only [Act.put, List.getElem_toArray, List.getElem_cons_zero, List.getElem_cons_succ, List.setIfInBounds_toArray, List.set_cons_zero, List.set_cons_succ]
  refine wpAnyH_done (by kernel_rfl) ?_ _
  change wpList _ _ _ _ _ _
  simp only [List.drop_succ_cons, List.drop_zero]
  clear hHeld HS
  have HV := Lib.hid (HR.out.keep (Below.refl E.heap.size E).drew)
  clear HR a0 a1 r0 r1 g0 g1 f0 f1 t0 t1 u0 u1 hbw l3
  generalize E.drew = V at *
  obtain ⟨a0, a1, r0, r1, g0, g1, f0, f1, t0, t1, u0, u1, _, _, l3, hbw⟩ := HV.out
  have HR := Lib.hid (HV.out.set1 RH)
  go_upto_region 5 with fail
  obtain ⟨F, hF⟩ : ∃ Z, Z = V.setCell ⟨qo, 1, none⟩ (.int .i64 RH) := ⟨_, rfl⟩
  rw [← hF] at HR
  rw [← hF]
  clear hF a0 a1 r0 r1 g0 g1 f0 f1 t0 t1 u0 u1 hbw HV l3
  obtain ⟨a0, a1, r0, r1, g0, g1, f0, f1, t0, t1, u0, u1, _, _, l3, hbw⟩ := HR.out
  go_upto_region 6 with fail
  have HS := Lib.hid (show (fun w' : World => w'.cell? ⟨qf, 0, none⟩ = some (.int .i64 (gL p)) ∧ w'.cell? ⟨w.heap.size, 1, none⟩ = some (.int .i64 p.s2) ∧ w'.cell? ⟨qo, 0, none⟩ = some (.int .i64 1) ∧ Below F.drew.heap.size F.drew w') F.drew from ⟨HR.out.f0, HR.out.a1, HR.out.t0, Below.refl _ _⟩)
  refine wp_region_held_tail (S := (fun w' : World => w'.cell? ⟨qf, 0, none⟩ = some (.int .i64 (gL p)) ∧ w'.cell? ⟨w.heap.size, 1, none⟩ = some (.int .i64 p.s2) ∧ w'.cell? ⟨qo, 0, none⟩ = some (.int .i64 1) ∧ Below F.drew.heap.size F.drew w')) 9 (by kernel_rfl) (by kernel_rfl) HS.out (fun hHeld => ?_)
  refine wpAnyH_take (i := 0) (v := ?v0_10) rfl (by kernel_rfl) (by kernel_rfl) (by kernel_rfl) (fun _ _ _ h => h) (Or.inl ⟨by rfl, ?hy0_10⟩) (by assumption) ?rest0_10
  case hy0_10 => (intro w hSw; (try dsimp only at hSw); go_simp; (try with_reducible rfl))
  try simp only [Act.put, List.getElem_toArray, List.getElem_cons_zero, List.getElem_cons_succ, List.setIfInBounds_toArray, List.set_cons_zero, List.set_cons_succ]
  refine wpAnyH_take (i := 1) (v := ?v1_11) rfl (by kernel_rfl) (by kernel_rfl) (by kernel_rfl) (fun _ _ _ h => h) (Or.inl ⟨by rfl, ?hy1_11⟩) (by assumption) ?rest1_11
  case hy1_11 => (intro w hSw; (try dsimp only at hSw); go_simp; (try with_reducible rfl))
  try simp only [Act.put, List.getElem_toArray, List.getElem_cons_zero, List.getElem_cons_succ, List.setIfInBounds_toArray, List.set_cons_zero, List.set_cons_succ]
  refine wpAnyH_take (i := 2) (v := ?v2_12) rfl (by kernel_rfl) (by kernel_rfl) (by kernel_rfl) (fun _ _ _ h => h) (Or.inl ⟨by rfl, ?hy2_12⟩) (by assumption) ?rest2_12
  case hy2_12 => (intro w hSw; (try dsimp only at hSw); go_simp; (try with_reducible rfl))
  try simp only [Act.put, List.getElem_toArray, List.getElem_cons_zero, List.getElem_cons_succ, List.setIfInBounds_toArray, List.set_cons_zero, List.set_cons_succ]
  refine wpAnyH_take (i := 3) (v := ?v3_13) rfl (by kernel_rfl) (by kernel_rfl) (by kernel_rfl) (fun _ _ _ h => h) (Or.inl ⟨by rfl, ?hy3_13⟩) (by assumption) ?rest3_13
  case hy3_13 => (intro w hSw; (try dsimp only at hSw); go_simp; (try with_reducible rfl))
  try simp only [Act.put, List.getElem_toArray, List.getElem_cons_zero, List.getElem_cons_succ, List.setIfInBounds_toArray, List.set_cons_zero, List.set_cons_succ]
  refine wpAnyH_take (i := 4) (v := ?v4_14) rfl (by kernel_rfl) (by kernel_rfl) (by kernel_rfl) (fun _ _ _ h => h) (Or.inl ⟨by rfl, ?hy4_14⟩) (by assumption) ?rest4_14
  case hy4_14 => (intro w hSw; (try dsimp only at hSw); go_simp; (try with_reducible rfl))
  try simp only [Act.put, List.getElem_toArray, List.getElem_cons_zero, List.getElem_cons_succ, List.setIfInBounds_toArray, List.set_cons_zero, List.set_cons_succ]
  refine wpAnyH_take (i := 5) (v := ?v5_15) rfl (by kernel_rfl) (by kernel_rfl) (by kernel_rfl) (fun _ _ _ h => h) (Or.inl ⟨by rfl, ?hy5_15⟩) (by assumption) ?rest5_15
  case hy5_15 => (intro w hSw; (try dsimp only at hSw); go_simp; (try with_reducible rfl))
  try simp only [Act.put, List.getElem_toArray, List.getElem_cons_zero, List.getElem_cons_succ, List.setIfInBounds_toArray, List.set_cons_zero, List.set_cons_succ]
  refine wpAnyH_take (i := 6) (v := ?v6_16) rfl (by kernel_rfl) (by kernel_rfl) (by kernel_rfl) (fun _ _ _ h => h) (Or.inl ⟨by rfl, ?hy6_16⟩) (by assumption) ?rest6_16
  case hy6_16 => (intro w hSw; (try dsimp only at hSw); go_simp; (try with_reducible rfl))
  try simp only [Act.put, List.getElem_toArray, List.getElem_cons_zero, List.getElem_cons_succ, List.setIfInBounds_toArray, List.set_cons_zero, List.set_cons_succ]
  refine wpAnyH_take (i := 7) (v := ?v7_17) rfl (by kernel_rfl) (by kernel_rfl) (by kernel_rfl) (fun _ _ _ h => h) (Or.inl ⟨by rfl, ?hy7_17⟩) (by assumption) ?rest7_17
  case hy7_17 => (intro w hSw; (try dsimp only at hSw); go_simp; (try with_reducible rfl))
  try simp only [Act.put, List.getElem_toArray, List.getElem_cons_zero, List.getElem_cons_succ, List.setIfInBounds_toArray, List.set_cons_zero, List.set_cons_succ]
  refine wpAnyH_ready (rs := [8]) (by kernel_rfl) (by simp) ?_
  refine AllReadyH.cons rfl (fun K hK => ?_) AllReadyH.nil
  go_simp; go_at_call 61; refine (HU.out _).mono ?_; rintro e' w' ⟨rfl, rfl⟩
  refine hK.out _ _ hHeld (fun hHeld2 => ?_)
  clear hK K hHeld
  have hHeld := hHeld2
  clear hHeld2
  try simp only [Act.put, List.getElem_toArray, List.getElem_cons_zero, List.getElem_cons_succ, List.setIfInBounds_toArray, List.set_cons_zero, List.set_cons_succ]
  refine wpAnyH_done (by kernel_rfl) ?_ _
  change wpList _ _ _ _ _ _
  simp only [List.drop_succ_cons, List.drop_zero]
  clear hHeld HS
  have HV := Lib.hid (HR.out.keep (Below.refl F.heap.size F).drew)
  generalize F.drew = V at *
  obtain ⟨a0, a1, r0, r1, g0, g1, f0, f1, t0, t1, u0, u1, l1, l2, l3, hbw⟩ := HV.out
  have HZ := Lib.hid (HV.out.set0 RL)
  clear HR
  go_upto_region 7 with fail
  obtain ⟨Z, hZ⟩ : ∃ Z, Z = V.setCell ⟨qo, 0, none⟩ (.int .i64 RL) := ⟨_, rfl⟩
  rw [← hZ] at HZ
  rw [← hZ]
  clear hZ a0 a1 r0 r1 g0 g1 f0 f1 t0 t1 u0 u1 hbw l3 HV
  obtain ⟨a0, a1, r0, r1, g0, g1, f0, f1, t0, t1, u0, u1, l1, l2, l3, hbw⟩ := HZ.out
  clear HZ
  go_wp2
  exact bodyPost_ret (v := .agg #[.int .i64 RL, .int .i64 RH]) (by simp [results, Try.results77, go_sem, set_same (i := 0) (v := .int .i64 RL) r0, set_other (i := 1) (j := 0) (v := .int .i64 RH) (by decide) (set_same (i := 0) (v := .int .i64 RL) r0), set_same (i := 1) (v := .int .i64 RH) (set_other (i := 0) (j := 1) (v := .int .i64 RL) (by decide) r1), t0, t1]) rfl ⟨by rw [HRL.out, HRH.out], ((hbw.setCell (p := ⟨w.heap.size + 1, 0, none⟩) (by dsimp only; omega) _).setCell (p := ⟨w.heap.size + 1, 1, none⟩) (by dsimp only; omega) _)⟩

set_option maxRecDepth 100000 in
set_option maxHeartbeats 6400000 in
theorem rscales_z_pos (p : Pr) (w : World) (hp : PrOk p) (hhi : ¬ 0 < p.s1) (hlo : 0 < p.s2) :
    Calls Try.prog 77 #[.agg #[.int .i64 p.s1, .int .i64 p.s2, .int .i64 p.ti, .int .i64 p.sz]] w fun e w' => e = .returned (.agg #[.int .i64 (rLo p), .int .i64 (rHi p)]) ∧ Below w.heap.size w w' := by
  have g := hp.g
  have a1' := hp.a1
  have a2' := hp.a2
  have a3' := hp.a3
  have HF := Lib.hid (fun W => show Calls Try.prog 36 #[.agg #[.int .i64 p.ti, .int .i64 p.sz]] W fun e w' => e = .returned (.tuple #[.agg #[.int .i64 (gL p), .int .i64 (gH p)], .int .i64 0]) ∧ Below W.heap.size W w' from refFell_ok p.ti p.sz W (inB_true.2 ⟨hp.b1, hp.b2⟩) (inB_true.2 ⟨hp.c1, hp.c2⟩))
  obtain ⟨RH, hRH⟩ : ∃ RH : Int, RH = 100000 := ⟨_, rfl⟩
  have HRH := Lib.hid (show rHi p = RH by unfold rHi; rw [if_neg hhi, hRH])
  have c8 : decide (0 < p.s1) = false := decide_eq_false hhi
  clear hhi
  have HU := Lib.hid (fun W => Up_any (1000 * gL p) p.s2 W (by omega) (by omega) (by omega))
  obtain ⟨RL, hRL⟩ : ∃ RL, RL = max 1 (cdiv (1000 * gL p) p.s2) := ⟨_, rfl⟩
  have HRL := Lib.hid (show rLo p = RL by unfold rLo; rw [if_pos hlo, hRL])
  have e1 : max 1 (cdiv (1000 * gL p) p.s2) = RL := hRL.symm
  have e2 : (if 1 < cdiv (1000 * gL p) p.s2 then cdiv (1000 * gL p) p.s2 else 1) = RL := by rw [hRL]; split <;> omega
  have e3 : IntKind.i64.wrap (1000 * gL p) = 1000 * gL p := IntWalk.i64_in _ (by omega)
  have d1 : decide (0 < p.s2) = true := decide_eq_true hlo
  have d2 : (p.s2 == 0) = false := beq_eq_false_iff_ne.2 (by omega)
  generalize cdiv (1000 * gL p) p.s2 = CD at *
  clear hRL hlo
  obtain ⟨Y, hY, bY, zY, a0, a1, a2, a3, r0, r1, g0, g1⟩ := rscale_boxes w p
  clear hp
  go_enter Try.func77, Try.ntmps77
  go_wp2_with fail
  rw [← hY]
  clear hY
  refine (HF.out _).mono ?_; rintro e X ⟨rfl, hb⟩
  have y0 : w.heap.size < Y.heap.size := by omega
  have y1 : w.heap.size + 1 < Y.heap.size := by omega
  have a0 := keepB hb y0 a0
  have a1 := keepB hb y0 a1
  have r0 := keepB hb y1 r0
  have r1 := keepB hb y1 r1
  have g0 := keepF hb y1 g0
  have g1 := keepF hb y1 g1
  have bX := bY.trans (hb.mono bY.size)
  have zX := hb.size
  clear hb bY a2 a3 HF
  obtain ⟨E, hE, bE, zE, f0, f1, t0, t1, u0, u1⟩ := two_boxes X (gL p) (gH p)
  have HR := Lib.hid (show RsR w E p X.heap.size (X.heap.size + 1) 1 100000 from ⟨keepB bE (by omega) a0, keepB bE (by omega) a1, keepB bE (by omega) r0, keepB bE (by omega) r1, keepF bE (by omega) g0, keepF bE (by omega) g1, f0, f1, t0, t1, u0, u1, by omega, by omega, by omega, bX.trans (bE.mono (by omega))⟩)
  clear a0 a1 r0 r1 g0 g1 f0 f1 t0 t1 u0 u1 bX bE
  obtain ⟨qf, hqf⟩ : ∃ q, q = X.heap.size := ⟨_, rfl⟩
  obtain ⟨qo, hqo⟩ : ∃ q, q = X.heap.size + 1 := ⟨_, rfl⟩
  rw [← hqo, ← hqf] at HR
  go_upto_region 3 with fail
  rw [← hE]
  try rw [← hqo]
  try rw [← hqf]
  clear hE hqf hqo zE zX zY y0 y1
  obtain ⟨a0, a1, r0, r1, g0, g1, f0, f1, t0, t1, u0, u1, l1, l2, l3, hbw⟩ := HR.out
  obtain ⟨F, hF⟩ : ∃ F, F = E := ⟨_, rfl⟩
  subst hF
  subst hRH
  go_upto_region 6 with fail
  have HS := Lib.hid (show (fun w' : World => w'.cell? ⟨qf, 0, none⟩ = some (.int .i64 (gL p)) ∧ w'.cell? ⟨w.heap.size, 1, none⟩ = some (.int .i64 p.s2) ∧ w'.cell? ⟨qo, 0, none⟩ = some (.int .i64 1) ∧ Below F.drew.heap.size F.drew w') F.drew from ⟨HR.out.f0, HR.out.a1, HR.out.t0, Below.refl _ _⟩)
  refine wp_region_held_tail (S := (fun w' : World => w'.cell? ⟨qf, 0, none⟩ = some (.int .i64 (gL p)) ∧ w'.cell? ⟨w.heap.size, 1, none⟩ = some (.int .i64 p.s2) ∧ w'.cell? ⟨qo, 0, none⟩ = some (.int .i64 1) ∧ Below F.drew.heap.size F.drew w')) 9 (by kernel_rfl) (by kernel_rfl) HS.out (fun hHeld => ?_)
  refine wpAnyH_take (i := 0) (v := ?v0_18) rfl (by kernel_rfl) (by kernel_rfl) (by kernel_rfl) (fun _ _ _ h => h) (Or.inl ⟨by rfl, ?hy0_18⟩) (by assumption) ?rest0_18
  case hy0_18 => (intro w hSw; (try dsimp only at hSw); go_simp; (try with_reducible rfl))
  try simp only [Act.put, List.getElem_toArray, List.getElem_cons_zero, List.getElem_cons_succ, List.setIfInBounds_toArray, List.set_cons_zero, List.set_cons_succ]
  refine wpAnyH_take (i := 1) (v := ?v1_19) rfl (by kernel_rfl) (by kernel_rfl) (by kernel_rfl) (fun _ _ _ h => h) (Or.inl ⟨by rfl, ?hy1_19⟩) (by assumption) ?rest1_19
  case hy1_19 => (intro w hSw; (try dsimp only at hSw); go_simp; (try with_reducible rfl))
  try simp only [Act.put, List.getElem_toArray, List.getElem_cons_zero, List.getElem_cons_succ, List.setIfInBounds_toArray, List.set_cons_zero, List.set_cons_succ]
  refine wpAnyH_take (i := 2) (v := ?v2_20) rfl (by kernel_rfl) (by kernel_rfl) (by kernel_rfl) (fun _ _ _ h => h) (Or.inl ⟨by rfl, ?hy2_20⟩) (by assumption) ?rest2_20
  case hy2_20 => (intro w hSw; (try dsimp only at hSw); go_simp; (try with_reducible rfl))
  try simp only [Act.put, List.getElem_toArray, List.getElem_cons_zero, List.getElem_cons_succ, List.setIfInBounds_toArray, List.set_cons_zero, List.set_cons_succ]
  refine wpAnyH_take (i := 3) (v := ?v3_21) rfl (by kernel_rfl) (by kernel_rfl) (by kernel_rfl) (fun _ _ _ h => h) (Or.inl ⟨by rfl, ?hy3_21⟩) (by assumption) ?rest3_21
  case hy3_21 => (intro w hSw; (try dsimp only at hSw); go_simp; (try with_reducible rfl))
  try simp only [Act.put, List.getElem_toArray, List.getElem_cons_zero, List.getElem_cons_succ, List.setIfInBounds_toArray, List.set_cons_zero, List.set_cons_succ]
  refine wpAnyH_take (i := 4) (v := ?v4_22) rfl (by kernel_rfl) (by kernel_rfl) (by kernel_rfl) (fun _ _ _ h => h) (Or.inl ⟨by rfl, ?hy4_22⟩) (by assumption) ?rest4_22
  case hy4_22 => (intro w hSw; (try dsimp only at hSw); go_simp; (try with_reducible rfl))
  try simp only [Act.put, List.getElem_toArray, List.getElem_cons_zero, List.getElem_cons_succ, List.setIfInBounds_toArray, List.set_cons_zero, List.set_cons_succ]
  refine wpAnyH_take (i := 5) (v := ?v5_23) rfl (by kernel_rfl) (by kernel_rfl) (by kernel_rfl) (fun _ _ _ h => h) (Or.inl ⟨by rfl, ?hy5_23⟩) (by assumption) ?rest5_23
  case hy5_23 => (intro w hSw; (try dsimp only at hSw); go_simp; (try with_reducible rfl))
  try simp only [Act.put, List.getElem_toArray, List.getElem_cons_zero, List.getElem_cons_succ, List.setIfInBounds_toArray, List.set_cons_zero, List.set_cons_succ]
  refine wpAnyH_take (i := 6) (v := ?v6_24) rfl (by kernel_rfl) (by kernel_rfl) (by kernel_rfl) (fun _ _ _ h => h) (Or.inl ⟨by rfl, ?hy6_24⟩) (by assumption) ?rest6_24
  case hy6_24 => (intro w hSw; (try dsimp only at hSw); go_simp; (try with_reducible rfl))
  try simp only [Act.put, List.getElem_toArray, List.getElem_cons_zero, List.getElem_cons_succ, List.setIfInBounds_toArray, List.set_cons_zero, List.set_cons_succ]
  refine wpAnyH_take (i := 7) (v := ?v7_25) rfl (by kernel_rfl) (by kernel_rfl) (by kernel_rfl) (fun _ _ _ h => h) (Or.inl ⟨by rfl, ?hy7_25⟩) (by assumption) ?rest7_25
  case hy7_25 => (intro w hSw; (try dsimp only at hSw); go_simp; (try with_reducible rfl))
  try simp only [Act.put, List.getElem_toArray, List.getElem_cons_zero, List.getElem_cons_succ, List.setIfInBounds_toArray, List.set_cons_zero, List.set_cons_succ]
  refine wpAnyH_ready (rs := [8]) (by kernel_rfl) (by simp) ?_
  refine AllReadyH.cons rfl (fun K hK => ?_) AllReadyH.nil
  go_simp; go_at_call 61; refine (HU.out _).mono ?_; rintro e' w' ⟨rfl, rfl⟩
  refine hK.out _ _ hHeld (fun hHeld2 => ?_)
  clear hK K hHeld
  have hHeld := hHeld2
  clear hHeld2
  try simp only [Act.put, List.getElem_toArray, List.getElem_cons_zero, List.getElem_cons_succ, List.setIfInBounds_toArray, List.set_cons_zero, List.set_cons_succ]
  refine wpAnyH_done (by kernel_rfl) ?_ _
  change wpList _ _ _ _ _ _
  simp only [List.drop_succ_cons, List.drop_zero]
  clear hHeld HS
  have HV := Lib.hid (HR.out.keep (Below.refl F.heap.size F).drew)
  generalize F.drew = V at *
  obtain ⟨a0, a1, r0, r1, g0, g1, f0, f1, t0, t1, u0, u1, l1, l2, l3, hbw⟩ := HV.out
  have HZ := Lib.hid (HV.out.set0 RL)
  clear HR
  go_upto_region 7 with fail
  obtain ⟨Z, hZ⟩ : ∃ Z, Z = V.setCell ⟨qo, 0, none⟩ (.int .i64 RL) := ⟨_, rfl⟩
  rw [← hZ] at HZ
  rw [← hZ]
  clear hZ a0 a1 r0 r1 g0 g1 f0 f1 t0 t1 u0 u1 hbw l3 HV
  obtain ⟨a0, a1, r0, r1, g0, g1, f0, f1, t0, t1, u0, u1, l1, l2, l3, hbw⟩ := HZ.out
  clear HZ
  go_wp2
  exact bodyPost_ret (v := .agg #[.int .i64 RL, .int .i64 100000]) (by simp [results, Try.results77, go_sem, set_same (i := 0) (v := .int .i64 RL) r0, set_other (i := 1) (j := 0) (v := .int .i64 100000) (by decide) (set_same (i := 0) (v := .int .i64 RL) r0), set_same (i := 1) (v := .int .i64 100000) (set_other (i := 0) (j := 1) (v := .int .i64 RL) (by decide) r1), t0, t1]) rfl ⟨by rw [HRL.out, HRH.out], ((hbw.setCell (p := ⟨w.heap.size + 1, 0, none⟩) (by dsimp only; omega) _).setCell (p := ⟨w.heap.size + 1, 1, none⟩) (by dsimp only; omega) _)⟩

set_option maxRecDepth 100000 in
set_option maxHeartbeats 6400000 in
theorem rscales_z_none (p : Pr) (w : World) (hp : PrOk p) (hhi : ¬ 0 < p.s1) (hlo : ¬ 0 < p.s2 ∧ 0 < gL p) :
    Calls Try.prog 77 #[.agg #[.int .i64 p.s1, .int .i64 p.s2, .int .i64 p.ti, .int .i64 p.sz]] w fun e w' => e = .returned (.agg #[.int .i64 (rLo p), .int .i64 (rHi p)]) ∧ Below w.heap.size w w' := by
  have g := hp.g
  have a1' := hp.a1
  have a2' := hp.a2
  have a3' := hp.a3
  have HF := Lib.hid (fun W => show Calls Try.prog 36 #[.agg #[.int .i64 p.ti, .int .i64 p.sz]] W fun e w' => e = .returned (.tuple #[.agg #[.int .i64 (gL p), .int .i64 (gH p)], .int .i64 0]) ∧ Below W.heap.size W w' from refFell_ok p.ti p.sz W (inB_true.2 ⟨hp.b1, hp.b2⟩) (inB_true.2 ⟨hp.c1, hp.c2⟩))
  obtain ⟨RH, hRH⟩ : ∃ RH : Int, RH = 100000 := ⟨_, rfl⟩
  have HRH := Lib.hid (show rHi p = RH by unfold rHi; rw [if_neg hhi, hRH])
  have c8 : decide (0 < p.s1) = false := decide_eq_false hhi
  clear hhi
  have HRL := Lib.hid (show rLo p = 100001 by unfold rLo; rw [if_neg (by omega), if_pos hlo.2])
  have d1 : decide (0 < p.s2) = false := decide_eq_false (by omega)
  have d2 : (p.s2 == 0) = true := beq_iff_eq.2 (by omega)
  have d3 : decide (0 < gL p) = true := decide_eq_true hlo.2
  clear hlo
  obtain ⟨Y, hY, bY, zY, a0, a1, a2, a3, r0, r1, g0, g1⟩ := rscale_boxes w p
  clear hp
  go_enter Try.func77, Try.ntmps77
  go_wp2_with fail
  rw [← hY]
  clear hY
  refine (HF.out _).mono ?_; rintro e X ⟨rfl, hb⟩
  have y0 : w.heap.size < Y.heap.size := by omega
  have y1 : w.heap.size + 1 < Y.heap.size := by omega
  have a0 := keepB hb y0 a0
  have a1 := keepB hb y0 a1
  have r0 := keepB hb y1 r0
  have r1 := keepB hb y1 r1
  have g0 := keepF hb y1 g0
  have g1 := keepF hb y1 g1
  have bX := bY.trans (hb.mono bY.size)
  have zX := hb.size
  clear hb bY a2 a3 HF
  obtain ⟨E, hE, bE, zE, f0, f1, t0, t1, u0, u1⟩ := two_boxes X (gL p) (gH p)
  have HR := Lib.hid (show RsR w E p X.heap.size (X.heap.size + 1) 1 100000 from ⟨keepB bE (by omega) a0, keepB bE (by omega) a1, keepB bE (by omega) r0, keepB bE (by omega) r1, keepF bE (by omega) g0, keepF bE (by omega) g1, f0, f1, t0, t1, u0, u1, by omega, by omega, by omega, bX.trans (bE.mono (by omega))⟩)
  clear a0 a1 r0 r1 g0 g1 f0 f1 t0 t1 u0 u1 bX bE
  obtain ⟨qf, hqf⟩ : ∃ q, q = X.heap.size := ⟨_, rfl⟩
  obtain ⟨qo, hqo⟩ : ∃ q, q = X.heap.size + 1 := ⟨_, rfl⟩
  rw [← hqo, ← hqf] at HR
  go_upto_region 3 with fail
  rw [← hE]
  try rw [← hqo]
  try rw [← hqf]
  clear hE hqf hqo zE zX zY y0 y1
  obtain ⟨a0, a1, r0, r1, g0, g1, f0, f1, t0, t1, u0, u1, l1, l2, l3, hbw⟩ := HR.out
  obtain ⟨F, hF⟩ : ∃ F, F = E := ⟨_, rfl⟩
  subst hF
  subst hRH
  obtain ⟨a0, a1, r0, r1, g0, g1, f0, f1, t0, t1, u0, u1, l1, l2, l3, hbw⟩ := HR.out
  have HZ := Lib.hid (HR.out.set0 100001)
  clear HR
  go_upto_region 9 with fail
  obtain ⟨Z, hZ⟩ : ∃ Z, Z = F.setCell ⟨qo, 0, none⟩ (.int .i64 100001) := ⟨_, rfl⟩
  rw [← hZ] at HZ
  rw [← hZ]
  clear hZ a0 a1 r0 r1 g0 g1 f0 f1 t0 t1 u0 u1 hbw
  obtain ⟨a0, a1, r0, r1, g0, g1, f0, f1, t0, t1, u0, u1, l1, l2, l3, hbw⟩ := HZ.out
  clear HZ
  go_wp2
  exact bodyPost_ret (v := .agg #[.int .i64 100001, .int .i64 100000]) (by simp [results, Try.results77, go_sem, set_same (i := 0) (v := .int .i64 100001) r0, set_other (i := 1) (j := 0) (v := .int .i64 100000) (by decide) (set_same (i := 0) (v := .int .i64 100001) r0), set_same (i := 1) (v := .int .i64 100000) (set_other (i := 0) (j := 1) (v := .int .i64 100001) (by decide) r1), t0, t1]) rfl ⟨by rw [HRL.out, HRH.out], ((hbw.setCell (p := ⟨w.heap.size + 1, 0, none⟩) (by dsimp only; omega) _).setCell (p := ⟨w.heap.size + 1, 1, none⟩) (by dsimp only; omega) _)⟩

set_option maxRecDepth 100000 in
set_option maxHeartbeats 6400000 in
theorem rscales_z_one (p : Pr) (w : World) (hp : PrOk p) (hhi : ¬ 0 < p.s1) (hlo : ¬ 0 < p.s2 ∧ ¬ 0 < gL p) :
    Calls Try.prog 77 #[.agg #[.int .i64 p.s1, .int .i64 p.s2, .int .i64 p.ti, .int .i64 p.sz]] w fun e w' => e = .returned (.agg #[.int .i64 (rLo p), .int .i64 (rHi p)]) ∧ Below w.heap.size w w' := by
  have g := hp.g
  have a1' := hp.a1
  have a2' := hp.a2
  have a3' := hp.a3
  have HF := Lib.hid (fun W => show Calls Try.prog 36 #[.agg #[.int .i64 p.ti, .int .i64 p.sz]] W fun e w' => e = .returned (.tuple #[.agg #[.int .i64 (gL p), .int .i64 (gH p)], .int .i64 0]) ∧ Below W.heap.size W w' from refFell_ok p.ti p.sz W (inB_true.2 ⟨hp.b1, hp.b2⟩) (inB_true.2 ⟨hp.c1, hp.c2⟩))
  obtain ⟨RH, hRH⟩ : ∃ RH : Int, RH = 100000 := ⟨_, rfl⟩
  have HRH := Lib.hid (show rHi p = RH by unfold rHi; rw [if_neg hhi, hRH])
  have c8 : decide (0 < p.s1) = false := decide_eq_false hhi
  clear hhi
  have HRL := Lib.hid (show rLo p = 1 by unfold rLo; rw [if_neg (by omega), if_neg hlo.2])
  have d1 : decide (0 < p.s2) = false := decide_eq_false (by omega)
  have d2 : (p.s2 == 0) = true := beq_iff_eq.2 (by omega)
  have d3 : decide (0 < gL p) = false := decide_eq_false hlo.2
  clear hlo
  obtain ⟨Y, hY, bY, zY, a0, a1, a2, a3, r0, r1, g0, g1⟩ := rscale_boxes w p
  clear hp
  go_enter Try.func77, Try.ntmps77
  go_wp2_with fail
  rw [← hY]
  clear hY
  refine (HF.out _).mono ?_; rintro e X ⟨rfl, hb⟩
  have y0 : w.heap.size < Y.heap.size := by omega
  have y1 : w.heap.size + 1 < Y.heap.size := by omega
  have a0 := keepB hb y0 a0
  have a1 := keepB hb y0 a1
  have r0 := keepB hb y1 r0
  have r1 := keepB hb y1 r1
  have g0 := keepF hb y1 g0
  have g1 := keepF hb y1 g1
  have bX := bY.trans (hb.mono bY.size)
  have zX := hb.size
  clear hb bY a2 a3 HF
  obtain ⟨E, hE, bE, zE, f0, f1, t0, t1, u0, u1⟩ := two_boxes X (gL p) (gH p)
  have HR := Lib.hid (show RsR w E p X.heap.size (X.heap.size + 1) 1 100000 from ⟨keepB bE (by omega) a0, keepB bE (by omega) a1, keepB bE (by omega) r0, keepB bE (by omega) r1, keepF bE (by omega) g0, keepF bE (by omega) g1, f0, f1, t0, t1, u0, u1, by omega, by omega, by omega, bX.trans (bE.mono (by omega))⟩)
  clear a0 a1 r0 r1 g0 g1 f0 f1 t0 t1 u0 u1 bX bE
  obtain ⟨qf, hqf⟩ : ∃ q, q = X.heap.size := ⟨_, rfl⟩
  obtain ⟨qo, hqo⟩ : ∃ q, q = X.heap.size + 1 := ⟨_, rfl⟩
  rw [← hqo, ← hqf] at HR
  go_upto_region 3 with fail
  rw [← hE]
  try rw [← hqo]
  try rw [← hqf]
  clear hE hqf hqo zE zX zY y0 y1
  obtain ⟨a0, a1, r0, r1, g0, g1, f0, f1, t0, t1, u0, u1, l1, l2, l3, hbw⟩ := HR.out
  obtain ⟨F, hF⟩ : ∃ F, F = E := ⟨_, rfl⟩
  subst hF
  subst hRH
  obtain ⟨a0, a1, r0, r1, g0, g1, f0, f1, t0, t1, u0, u1, l1, l2, l3, hbw⟩ := HR.out
  clear HR
  go_wp2
  exact bodyPost_ret (v := .agg #[.int .i64 1, .int .i64 100000]) (by simp [results, Try.results77, go_sem, set_same (i := 0) (v := .int .i64 1) r0, set_other (i := 1) (j := 0) (v := .int .i64 100000) (by decide) (set_same (i := 0) (v := .int .i64 1) r0), set_same (i := 1) (v := .int .i64 100000) (set_other (i := 0) (j := 1) (v := .int .i64 1) (by decide) r1), t0, t1]) rfl ⟨by rw [HRL.out, HRH.out], ((hbw.setCell (p := ⟨w.heap.size + 1, 0, none⟩) (by dsimp only; omega) _).setCell (p := ⟨w.heap.size + 1, 1, none⟩) (by dsimp only; omega) _)⟩

theorem rscales_any (p : Pr) (w : World) (hp : PrOk p) :
    Calls Try.prog 77 #[.agg #[.int .i64 p.s1, .int .i64 p.s2, .int .i64 p.ti, .int .i64 p.sz]] w fun e w' => e = .returned (.agg #[.int .i64 (rLo p), .int .i64 (rHi p)]) ∧ Below w.heap.size w w' := by
  by_cases h1 : 0 < p.s1
  · exact rscales_p_pos p w hp h1 (by have := hp.a2; omega)
  · by_cases h2 : 0 < p.s2
    · exact rscales_z_pos p w hp h1 h2
    · by_cases h3 : 0 < gL p
      · exact rscales_z_none p w hp h1 ⟨h2, h3⟩
      · exact rscales_z_one p w hp h1 ⟨h2, h3⟩

end Go.Proofs.Ytdmbkhmhaininaa
