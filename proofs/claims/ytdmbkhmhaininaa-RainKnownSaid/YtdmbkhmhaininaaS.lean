/-
  A power without what is in the way.
-/
import Derived.Test.YtdmbkhmhaininaaF
import Derived.Deep.Cut
namespace Go.Proofs.Ytdmbkhmhaininaa
open Go.RowKit
set_option linter.unusedVariables false
set_option linter.unusedSimpArgs false

/-- a power without what is in the way -/
def fiL (lo n bl : Int) : Int := min 1073741824 (lo * n / max 1 (n - bl))
def fiH (hi n bh : Int) : Int := if bh < n then min 1073741824 (cdiv (hi * n) (n - bh)) else 1073741824
def fiE (lo hi n bl bh : Int) : Int := if spanB lo hi 0 1073741824 && inB n 1 17 && spanB bl bh 0 n then 0 else 3
def fiLo (lo hi n bl bh : Int) : Int := if fiE lo hi n bl bh = 0 then fiL lo n bl else 0
def fiHi (lo hi n bl bh : Int) : Int := if fiE lo hi n bl bh = 0 then fiH hi n bh else 0
set_option maxHeartbeats 800000 in
theorem isPower_any (lo hi : Int) (w : World) : Calls Try.prog 63 #[.agg #[.int .i64 lo, .int .i64 hi]] w fun e w' => e = .returned (.bool (spanB lo hi 0 1073741824)) ∧ Below w.heap.size w w' := by
  go_enter Try.func63, Try.ntmps63
  go_wp2_with fail
  refine (isWithin_any _ _ _ _ _).mono ?_; rintro e X ⟨rfl, hbX⟩
  have bX := (below_alloc w (.cells #[.int .i64 lo, .int .i64 hi] 24)).trans (hbX.mono (by simp))
  go_wp2
  go_ret
  exact ⟨rfl, bX⟩
theorem fill_boxes (w : World) (lo hi bl bh : Int) : ∃ A, A = ((w.alloc (.cells #[.int .i64 lo, .int .i64 hi] 24)).alloc (.cells #[.int .i64 bl, .int .i64 bh] 24)).alloc (.cells #[.int .i64 0, .int .i64 0] 24) ∧ Below w.heap.size w A ∧ A.heap.size = w.heap.size + 3 ∧ A.cell? ⟨w.heap.size, 0, none⟩ = some (.int .i64 lo) ∧ A.cell? ⟨w.heap.size, 1, none⟩ = some (.int .i64 hi) ∧ A.cell? ⟨w.heap.size + 1, 0, none⟩ = some (.int .i64 bl) ∧ A.cell? ⟨w.heap.size + 1, 1, none⟩ = some (.int .i64 bh) ∧ A.cell? ⟨w.heap.size + 1 + 1, 0, none⟩ = some (.int .i64 0) ∧ A.cell? ⟨w.heap.size + 1 + 1, 1, none⟩ = some (.int .i64 0) ∧ A.frozen? ⟨w.heap.size + 1 + 1, 0, none⟩ = false ∧ A.frozen? ⟨w.heap.size + 1 + 1, 1, none⟩ = false := by
  obtain ⟨A0, e0⟩ : ∃ A, A = w.alloc (.cells #[.int .i64 lo, .int .i64 hi] 24) := ⟨_, rfl⟩
  have s0 : A0.heap.size = w.heap.size + 1 := by rw [e0, World.size_alloc]
  have b0 : Below w.heap.size w A0 := by rw [e0]; exact below_alloc _ _
  have c0_0_0 : A0.cell? ⟨w.heap.size, 0, none⟩ = some (.int .i64 lo) := by rw [e0]; exact alloc_new rfl rfl
  have c0_1_0 : A0.cell? ⟨w.heap.size, 1, none⟩ = some (.int .i64 hi) := by rw [e0]; exact alloc_new rfl rfl
  rw [← e0]
  obtain ⟨A1, e1⟩ : ∃ A, A = A0.alloc (.cells #[.int .i64 bl, .int .i64 bh] 24) := ⟨_, rfl⟩
  have s1 : A1.heap.size = w.heap.size + 2 := by rw [e1, World.size_alloc]; omega
  have b1 : Below w.heap.size w A1 := by rw [e1]; exact b0.trans ((below_alloc _ _).mono (by omega))
  have c0_0_1 : A1.cell? ⟨w.heap.size, 0, none⟩ = some (.int .i64 lo) := by rw [e1]; exact alloc_keep (by omega) c0_0_0
  have c0_1_1 : A1.cell? ⟨w.heap.size, 1, none⟩ = some (.int .i64 hi) := by rw [e1]; exact alloc_keep (by omega) c0_1_0
  have c1_0_1 : A1.cell? ⟨w.heap.size + 1, 0, none⟩ = some (.int .i64 bl) := by rw [e1]; exact alloc_new s0.symm rfl
  have c1_1_1 : A1.cell? ⟨w.heap.size + 1, 1, none⟩ = some (.int .i64 bh) := by rw [e1]; exact alloc_new s0.symm rfl
  rw [← e1]
  exact ⟨_, rfl, b1.trans ((below_alloc _ _).mono (by omega)), by rw [World.size_alloc]; omega, alloc_keep (by omega) c0_0_1, alloc_keep (by omega) c0_1_1, alloc_keep (by omega) c1_0_1, alloc_keep (by omega) c1_1_1, alloc_new s1.symm rfl, alloc_new s1.symm rfl, alloc_newF s1.symm, alloc_newF s1.symm⟩

set_option maxRecDepth 100000 in
set_option maxHeartbeats 3200000 in
theorem filled_part (lo hi n bl bh : Int) (w : World) (h1 : 0 ≤ lo) (h2 : lo ≤ hi) (h3 : hi ≤ 1073741824) (n1 : 1 ≤ n) (n2 : n ≤ 17) (b1' : 0 ≤ bl) (b2' : bl ≤ bh) (b3' : bh ≤ n) (hlt : bh < n) :
    Calls Try.prog 66 #[.agg #[.int .i64 lo, .int .i64 hi], .int .i64 n, .agg #[.int .i64 bl, .int .i64 bh]] w fun e w' => e = .returned (.agg #[.int .i64 (fiL lo n bl), .int .i64 (fiH hi n bh)]) ∧ Below w.heap.size w w' := by
  obtain ⟨M1, hM1⟩ : ∃ x, x = lo * n := ⟨_, rfl⟩
  have m1 := mul_bd (a := lo) (b := n) (A := 1073741824) (B := 17) h1 (by omega) (by omega) n2
  rw [← hM1] at m1
  obtain ⟨OP, hOP⟩ : ∃ x, x = max 1 (n - bl) := ⟨_, rfl⟩
  have o1 : 1 ≤ OP ∧ OP ≤ 17 := by rw [hOP]; omega
  have q1 := floor_bd (a := M1) (b := OP) (q := 1073741824 * 17) o1.1 m1.1 (by have := Int.mul_le_mul_of_nonneg_left o1.1 (show (0:Int) ≤ 1073741824 * 17 by decide); omega)
  obtain ⟨Q1, hQ1⟩ : ∃ x, x = M1 / OP := ⟨_, rfl⟩
  rw [← hQ1] at q1
  obtain ⟨FL, hFL⟩ : ∃ x, x = min 1073741824 Q1 := ⟨_, rfl⟩
  have HFL := Lib.hid (show FL = fiL lo n bl by unfold fiL; rw [hFL, hQ1, hM1, hOP])
  have fb : 0 ≤ FL ∧ FL ≤ 1073741824 := by rw [hFL]; omega
  have e1 : (if 1 < n - bl then n - bl else 1) = OP := by rw [hOP]; split <;> omega
  have e2 : max 1 (n - bl) = OP := hOP.symm
  have e3 : lo * n = M1 := hM1.symm
  have e4 : IntKind.i64.wrap M1 = M1 := IntWalk.i64_in _ (by omega)
  have e5 : IntKind.i64.wrap (lo * n) = M1 := by rw [e3]; exact e4
  have e6 : M1.tdiv OP = Q1 := by rw [hQ1]; exact Int.tdiv_eq_ediv_of_nonneg m1.1
  have e7 : M1 / OP = Q1 := hQ1.symm
  have e8 : IntKind.i64.wrap Q1 = Q1 := IntWalk.i64_in _ (by omega)
  have e9 : (OP == 0) = false := by rw [beq_eq_false_iff_ne]; omega
  have e10 : ¬ OP = 0 := by omega
  have e11 : (if Q1 < 1073741824 then Q1 else 1073741824) = FL := by rw [hFL]; split <;> omega
  have e12 : min 1073741824 Q1 = FL := hFL.symm
  have e13 : IntKind.i64.wrap (n - bl) = n - bl := IntWalk.i64_in _ (by omega)
  have HDn := Lib.hid (fun W => show Calls Try.prog 60 #[.int .i64 M1, .int .i64 OP] W fun e w' => e = .returned (.int .i64 Q1) ∧ W = w' from by rw [hQ1]; exact Down_any M1 OP W o1.1 (by omega) (by omega))
  clear hM1 hOP hQ1 hFL
  obtain ⟨Y, hY, bY, zY, a0, a1, b0, b1, r0, r1, g0, g1⟩ := fill_boxes w lo hi bl bh
  have y0 : w.heap.size < Y.heap.size := by omega
  have y1 : w.heap.size + 1 < Y.heap.size := by omega
  have y2 : w.heap.size + 1 + 1 < Y.heap.size := by omega
  clear zY
  obtain ⟨M2, hM2⟩ : ∃ x, x = hi * n := ⟨_, rfl⟩
  have m2 := mul_bd (a := hi) (b := n) (A := 1073741824) (B := 17) (by omega) h3 (by omega) n2
  rw [← hM2] at m2
  obtain ⟨D, hD⟩ : ∃ x, x = n - bh := ⟨_, rfl⟩
  have d1 : 1 ≤ D ∧ D ≤ 17 := by rw [hD]; omega
  have c1 := cdiv_bd (a := M2) (b := D) (q := 1073741824 * 17) d1.1 m2.1 (by have := Int.mul_le_mul_of_nonneg_left d1.1 (show (0:Int) ≤ 1073741824 * 17 by decide); omega)
  obtain ⟨C1, hC1⟩ : ∃ x, x = cdiv M2 D := ⟨_, rfl⟩
  rw [← hC1] at c1
  obtain ⟨FH, hFH⟩ : ∃ x, x = min 1073741824 C1 := ⟨_, rfl⟩
  have HFH := Lib.hid (show FH = fiH hi n bh by unfold fiH; rw [if_pos hlt, hFH, hC1, hM2, hD])
  have f1 : hi * n = M2 := hM2.symm
  have f2 : IntKind.i64.wrap M2 = M2 := IntWalk.i64_in _ (by omega)
  have f3 : IntKind.i64.wrap (hi * n) = M2 := by rw [f1]; exact f2
  have f4 : n - bh = D := hD.symm
  have f5 : IntKind.i64.wrap (n - bh) = D := by rw [f4]; exact IntWalk.i64_in _ (by omega)
  have f6 : (if C1 < 1073741824 then C1 else 1073741824) = FH := by rw [hFH]; split <;> omega
  have f7 : min 1073741824 C1 = FH := hFH.symm
  have f8 : decide (0 < D) = true := decide_eq_true (by omega)
  have f9 : decide (bh < n) = true := decide_eq_true hlt
  have HU := Lib.hid (fun W => show Calls Try.prog 58 #[.int .i64 M2, .int .i64 D] W fun e w' => e = .returned (.int .i64 C1) ∧ W = w' from by rw [hC1]; exact up_any M2 D W d1.1 (by omega) m2.1 (by omega))
  clear hM2 hD hC1 hFH hlt
  go_enter Try.func66, Try.ntmps66
  go_upto_region 2 with fail
  rw [← hY]
  clear hY
  have bb := below_alloc Y (.cells #[.int .i64 FL, .int .i64 1073741824] 24)
  have t0 : (Y.alloc (.cells #[.int .i64 FL, .int .i64 1073741824] 24)).cell? ⟨Y.heap.size, 0, none⟩ = some (.int .i64 FL) := alloc_new rfl rfl
  have t1 : (Y.alloc (.cells #[.int .i64 FL, .int .i64 1073741824] 24)).cell? ⟨Y.heap.size, 1, none⟩ = some (.int .i64 1073741824) := alloc_new rfl rfl
  have t2 : (Y.alloc (.cells #[.int .i64 FL, .int .i64 1073741824] 24)).frozen? ⟨Y.heap.size, 0, none⟩ = false := alloc_newF rfl
  have t3 : (Y.alloc (.cells #[.int .i64 FL, .int .i64 1073741824] 24)).frozen? ⟨Y.heap.size, 1, none⟩ = false := alloc_newF rfl
  have tz : Y.heap.size < (Y.alloc (.cells #[.int .i64 FL, .int .i64 1073741824] 24)).heap.size := by rw [World.size_alloc]; omega
  have a0 := keepB bb (by omega) a0
  have a1 := keepB bb (by omega) a1
  have b0 := keepB bb (by omega) b0
  have b1 := keepB bb (by omega) b1
  have r0 := keepB bb (by omega) r0
  have r1 := keepB bb (by omega) r1
  have g0 := keepF bb (by omega) g0
  have g1 := keepF bb (by omega) g1
  have bE := bY.trans (bb.mono bY.size)
  obtain ⟨q, hq⟩ : ∃ q, q = Y.heap.size := ⟨_, rfl⟩
  obtain ⟨E, hE⟩ : ∃ E, E = Y.alloc (.cells #[.int .i64 FL, .int .i64 1073741824] 24) := ⟨_, rfl⟩
  have q1' : w.heap.size + 1 + 1 < q := by omega
  rw [← hE, ← hq] at t0 t1 t2 t3 tz
  rw [← hE] at a0 a1 b0 b1 r0 r1 g0 g1 bE
  go_wp2_with fail
  rw [← hE]
  try rw [← hq]
  clear hE hq bb bY
  refine (HU.out _).mono ?_; rintro e w' ⟨rfl, rfl⟩
  have rz0 : (E.setCell ⟨q, 1, none⟩ (.int .i64 FH)).cell? ⟨w.heap.size + 1 + 1, 0, none⟩ = some (.int .i64 0) := cell_far (by omega) r0
  have rz1 : (E.setCell ⟨q, 1, none⟩ (.int .i64 FH)).cell? ⟨w.heap.size + 1 + 1, 1, none⟩ = some (.int .i64 0) := cell_far (by omega) r1
  have tz0 : (E.setCell ⟨q, 1, none⟩ (.int .i64 FH)).cell? ⟨q, 0, none⟩ = some (.int .i64 FL) := set_other (by decide) t0
  have tz1 : (E.setCell ⟨q, 1, none⟩ (.int .i64 FH)).cell? ⟨q, 1, none⟩ = some (.int .i64 FH) := set_same t1
  have bZ : Below w.heap.size w (E.setCell ⟨q, 1, none⟩ (.int .i64 FH)) := bE.setCell (p := ⟨q, 1, none⟩) (by dsimp only; omega) _
  go_wp2
  exact bodyPost_ret (v := .agg #[.int .i64 FL, .int .i64 FH]) (by simp [results, Try.results66, go_sem, set_same (i := 0) (v := .int .i64 FL) rz0, set_other (i := 1) (j := 0) (v := .int .i64 FH) (by decide) (set_same (i := 0) (v := .int .i64 FL) rz0), set_same (i := 1) (v := .int .i64 FH) (set_other (i := 0) (j := 1) (v := .int .i64 FL) (by decide) rz1), tz0, tz1]) rfl ⟨by rw [HFL.out, HFH.out], ((bZ.setCell (p := ⟨w.heap.size + 1 + 1, 0, none⟩) (by dsimp only; omega) _).setCell (p := ⟨w.heap.size + 1 + 1, 1, none⟩) (by dsimp only; omega) _)⟩

set_option maxRecDepth 100000 in
set_option maxHeartbeats 3200000 in
theorem filled_all (lo hi n bl bh : Int) (w : World) (h1 : 0 ≤ lo) (h2 : lo ≤ hi) (h3 : hi ≤ 1073741824) (n1 : 1 ≤ n) (n2 : n ≤ 17) (b1' : 0 ≤ bl) (b2' : bl ≤ bh) (b3' : bh ≤ n) (hlt : ¬ bh < n) :
    Calls Try.prog 66 #[.agg #[.int .i64 lo, .int .i64 hi], .int .i64 n, .agg #[.int .i64 bl, .int .i64 bh]] w fun e w' => e = .returned (.agg #[.int .i64 (fiL lo n bl), .int .i64 (fiH hi n bh)]) ∧ Below w.heap.size w w' := by
  obtain ⟨M1, hM1⟩ : ∃ x, x = lo * n := ⟨_, rfl⟩
  have m1 := mul_bd (a := lo) (b := n) (A := 1073741824) (B := 17) h1 (by omega) (by omega) n2
  rw [← hM1] at m1
  obtain ⟨OP, hOP⟩ : ∃ x, x = max 1 (n - bl) := ⟨_, rfl⟩
  have o1 : 1 ≤ OP ∧ OP ≤ 17 := by rw [hOP]; omega
  have q1 := floor_bd (a := M1) (b := OP) (q := 1073741824 * 17) o1.1 m1.1 (by have := Int.mul_le_mul_of_nonneg_left o1.1 (show (0:Int) ≤ 1073741824 * 17 by decide); omega)
  obtain ⟨Q1, hQ1⟩ : ∃ x, x = M1 / OP := ⟨_, rfl⟩
  rw [← hQ1] at q1
  obtain ⟨FL, hFL⟩ : ∃ x, x = min 1073741824 Q1 := ⟨_, rfl⟩
  have HFL := Lib.hid (show FL = fiL lo n bl by unfold fiL; rw [hFL, hQ1, hM1, hOP])
  have fb : 0 ≤ FL ∧ FL ≤ 1073741824 := by rw [hFL]; omega
  have e1 : (if 1 < n - bl then n - bl else 1) = OP := by rw [hOP]; split <;> omega
  have e2 : max 1 (n - bl) = OP := hOP.symm
  have e3 : lo * n = M1 := hM1.symm
  have e4 : IntKind.i64.wrap M1 = M1 := IntWalk.i64_in _ (by omega)
  have e5 : IntKind.i64.wrap (lo * n) = M1 := by rw [e3]; exact e4
  have e6 : M1.tdiv OP = Q1 := by rw [hQ1]; exact Int.tdiv_eq_ediv_of_nonneg m1.1
  have e7 : M1 / OP = Q1 := hQ1.symm
  have e8 : IntKind.i64.wrap Q1 = Q1 := IntWalk.i64_in _ (by omega)
  have e9 : (OP == 0) = false := by rw [beq_eq_false_iff_ne]; omega
  have e10 : ¬ OP = 0 := by omega
  have e11 : (if Q1 < 1073741824 then Q1 else 1073741824) = FL := by rw [hFL]; split <;> omega
  have e12 : min 1073741824 Q1 = FL := hFL.symm
  have e13 : IntKind.i64.wrap (n - bl) = n - bl := IntWalk.i64_in _ (by omega)
  have HDn := Lib.hid (fun W => show Calls Try.prog 60 #[.int .i64 M1, .int .i64 OP] W fun e w' => e = .returned (.int .i64 Q1) ∧ W = w' from by rw [hQ1]; exact Down_any M1 OP W o1.1 (by omega) (by omega))
  clear hM1 hOP hQ1 hFL
  obtain ⟨Y, hY, bY, zY, a0, a1, b0, b1, r0, r1, g0, g1⟩ := fill_boxes w lo hi bl bh
  have y0 : w.heap.size < Y.heap.size := by omega
  have y1 : w.heap.size + 1 < Y.heap.size := by omega
  have y2 : w.heap.size + 1 + 1 < Y.heap.size := by omega
  clear zY
  have HFH := Lib.hid (show fiH hi n bh = 1073741824 by unfold fiH; rw [if_neg hlt])
  obtain rfl : n = bh := by omega
  have f4 : n - n = 0 := by omega
  have f9 : decide (n < n) = false := decide_eq_false (by omega)
  go_enter Try.func66, Try.ntmps66
  go_upto_region 2 with fail
  rw [← hY]
  clear hY
  have bb := below_alloc Y (.cells #[.int .i64 FL, .int .i64 1073741824] 24)
  have t0 : (Y.alloc (.cells #[.int .i64 FL, .int .i64 1073741824] 24)).cell? ⟨Y.heap.size, 0, none⟩ = some (.int .i64 FL) := alloc_new rfl rfl
  have t1 : (Y.alloc (.cells #[.int .i64 FL, .int .i64 1073741824] 24)).cell? ⟨Y.heap.size, 1, none⟩ = some (.int .i64 1073741824) := alloc_new rfl rfl
  have t2 : (Y.alloc (.cells #[.int .i64 FL, .int .i64 1073741824] 24)).frozen? ⟨Y.heap.size, 0, none⟩ = false := alloc_newF rfl
  have t3 : (Y.alloc (.cells #[.int .i64 FL, .int .i64 1073741824] 24)).frozen? ⟨Y.heap.size, 1, none⟩ = false := alloc_newF rfl
  have tz : Y.heap.size < (Y.alloc (.cells #[.int .i64 FL, .int .i64 1073741824] 24)).heap.size := by rw [World.size_alloc]; omega
  have a0 := keepB bb (by omega) a0
  have a1 := keepB bb (by omega) a1
  have b0 := keepB bb (by omega) b0
  have b1 := keepB bb (by omega) b1
  have r0 := keepB bb (by omega) r0
  have r1 := keepB bb (by omega) r1
  have g0 := keepF bb (by omega) g0
  have g1 := keepF bb (by omega) g1
  have bE := bY.trans (bb.mono bY.size)
  obtain ⟨q, hq⟩ : ∃ q, q = Y.heap.size := ⟨_, rfl⟩
  obtain ⟨E, hE⟩ : ∃ E, E = Y.alloc (.cells #[.int .i64 FL, .int .i64 1073741824] 24) := ⟨_, rfl⟩
  have q1' : w.heap.size + 1 + 1 < q := by omega
  rw [← hE, ← hq] at t0 t1 t2 t3 tz
  rw [← hE] at a0 a1 b0 b1 r0 r1 g0 g1 bE
  go_upto_region 6 with fail
  rw [← hE]
  try rw [← hq]
  clear hE hq bb bY
  go_wp2
  exact bodyPost_ret (v := .agg #[.int .i64 FL, .int .i64 1073741824]) (by simp [results, Try.results66, go_sem, set_same (i := 0) (v := .int .i64 FL) r0, set_other (i := 1) (j := 0) (v := .int .i64 1073741824) (by decide) (set_same (i := 0) (v := .int .i64 FL) r0), set_same (i := 1) (v := .int .i64 1073741824) (set_other (i := 0) (j := 1) (v := .int .i64 FL) (by decide) r1)]) rfl ⟨by rw [HFL.out, HFH.out], ((bE.setCell (p := ⟨w.heap.size + 1 + 1, 0, none⟩) (by dsimp only; omega) _).setCell (p := ⟨w.heap.size + 1 + 1, 1, none⟩) (by dsimp only; omega) _)⟩

end Go.Proofs.Ytdmbkhmhaininaa
