/-
  Adjust.
-/
import Derived.Test.YtdmbkhmhaininaaGS
import Derived.Test.YtdmbkhmhaininaaGR
import Derived.Deep.Cut
namespace Go.Proofs.Ytdmbkhmhaininaa
open Go.RowKit
set_option linter.unusedVariables false
set_option linter.unusedSimpArgs false

/-- the answers of Adjust -/
structure AdjIs (n : Nat) (ps : Nat → Pr) (x y : Int) (i j : Nat) (e : Int) : Prop where
  bad : adjC n ps ≠ 0 → x = 0 ∧ y = 0 ∧ i = 0 ∧ j = 0 ∧ e = adjC n ps
  good : adjC n ps = 0 → (rF ps n).1 ≤ (rF ps n).2 → x = (rF ps n).1 ∧ y = (rF ps n).2 ∧ i = 0 ∧ j = 0 ∧ e = 0
  conf : adjC n ps = 0 → ¬ (rF ps n).1 ≤ (rF ps n).2 → x = 0 ∧ y = 0 ∧ FirstBad n ps i j ∧ e = 14
def AdjRet (n : Nat) (ps : Nat → Pr) (w : World) (e : Ending) (w' : World) : Prop := ∃ (x y : Int) (i j : Nat) (c : Int), AdjIs n ps x y i j c ∧ e = .returned (.tuple #[.agg #[.int .i64 x, .int .i64 y], .agg #[.int .i64 (i : Int), .int .i64 (j : Int)], .int .i64 c]) ∧ Below w.heap.size w w'
theorem adj_boxes (w : World)  : ∃ A, A = (w.alloc (.cells #[.int .i64 0, .int .i64 0] 24)).alloc (.cells #[.int .i64 0, .int .i64 0] 76) ∧ Below w.heap.size w A ∧ A.heap.size = w.heap.size + 2 ∧ A.cell? ⟨w.heap.size, 0, none⟩ = some (.int .i64 0) ∧ A.cell? ⟨w.heap.size, 1, none⟩ = some (.int .i64 0) ∧ A.cell? ⟨w.heap.size + 1, 0, none⟩ = some (.int .i64 0) ∧ A.cell? ⟨w.heap.size + 1, 1, none⟩ = some (.int .i64 0) ∧ A.frozen? ⟨w.heap.size, 0, none⟩ = false ∧ A.frozen? ⟨w.heap.size, 1, none⟩ = false ∧ A.frozen? ⟨w.heap.size + 1, 0, none⟩ = false ∧ A.frozen? ⟨w.heap.size + 1, 1, none⟩ = false := by
  obtain ⟨A0, e0⟩ : ∃ A, A = w.alloc (.cells #[.int .i64 0, .int .i64 0] 24) := ⟨_, rfl⟩
  have s0 : A0.heap.size = w.heap.size + 1 := by rw [e0, World.size_alloc]
  have b0 : Below w.heap.size w A0 := by rw [e0]; exact below_alloc _ _
  have c0_0_0 : A0.cell? ⟨w.heap.size, 0, none⟩ = some (.int .i64 0) := by rw [e0]; exact alloc_new rfl rfl
  have c0_1_0 : A0.cell? ⟨w.heap.size, 1, none⟩ = some (.int .i64 0) := by rw [e0]; exact alloc_new rfl rfl
  have f0_0_0 : A0.frozen? ⟨w.heap.size, 0, none⟩ = false := by rw [e0]; exact alloc_newF rfl
  have f0_1_0 : A0.frozen? ⟨w.heap.size, 1, none⟩ = false := by rw [e0]; exact alloc_newF rfl
  rw [← e0]
  exact ⟨_, rfl, b0.trans ((below_alloc _ _).mono (by omega)), by rw [World.size_alloc]; omega, alloc_keep (by omega) c0_0_0, alloc_keep (by omega) c0_1_0, alloc_new s0.symm rfl, alloc_new s0.symm rfl, alloc_keepF (by omega) f0_0_0, alloc_keepF (by omega) f0_1_0, alloc_newF s0.symm, alloc_newF s0.symm⟩

/-- the boxes of the results -/
structure AdR (w wr : World) : Prop where
  r0 : wr.cell? ⟨w.heap.size, 0, none⟩ = some (.int .i64 0)
  r1 : wr.cell? ⟨w.heap.size, 1, none⟩ = some (.int .i64 0)
  s0 : wr.cell? ⟨w.heap.size + 1, 0, none⟩ = some (.int .i64 0)
  s1 : wr.cell? ⟨w.heap.size + 1, 1, none⟩ = some (.int .i64 0)
  g0 : wr.frozen? ⟨w.heap.size, 0, none⟩ = false
  g1 : wr.frozen? ⟨w.heap.size, 1, none⟩ = false
  k0 : wr.frozen? ⟨w.heap.size + 1, 0, none⟩ = false
  k1 : wr.frozen? ⟨w.heap.size + 1, 1, none⟩ = false
  z : w.heap.size + 1 < wr.heap.size
  b : Below w.heap.size w wr
/-- the same, the span being written -/
structure AdS (w wr : World) (x y : Int) : Prop where
  r0 : wr.cell? ⟨w.heap.size, 0, none⟩ = some (.int .i64 x)
  r1 : wr.cell? ⟨w.heap.size, 1, none⟩ = some (.int .i64 y)
  s0 : wr.cell? ⟨w.heap.size + 1, 0, none⟩ = some (.int .i64 0)
  s1 : wr.cell? ⟨w.heap.size + 1, 1, none⟩ = some (.int .i64 0)
  g0 : wr.frozen? ⟨w.heap.size, 0, none⟩ = false
  g1 : wr.frozen? ⟨w.heap.size, 1, none⟩ = false
  k0 : wr.frozen? ⟨w.heap.size + 1, 0, none⟩ = false
  k1 : wr.frozen? ⟨w.heap.size + 1, 1, none⟩ = false
  z : w.heap.size + 1 < wr.heap.size
  b : Below w.heap.size w wr
theorem AdR.keep {w W w1 : World} (R : AdR w W) (hb : Below W.heap.size W w1) : AdR w w1 := by
  have z := R.z
  exact ⟨keepB hb (by omega) R.r0, keepB hb (by omega) R.r1, keepB hb z R.s0, keepB hb z R.s1, keepF hb (by omega) R.g0, keepF hb (by omega) R.g1, keepF hb z R.k0, keepF hb z R.k1, Nat.lt_of_lt_of_le z hb.size, R.b.trans (hb.mono R.b.size)⟩
/-- the span written -/
theorem AdR.two {w W : World} (R : AdR w W) (x y : Int) : AdS w ((W.setCell ⟨w.heap.size, 0, none⟩ (.int .i64 x)).setCell ⟨w.heap.size, 1, none⟩ (.int .i64 y)) x y :=
  ⟨set_other (by decide) (set_same R.r0), set_same (set_other (by decide) R.r1), cell_far (by omega) (cell_far (by omega) R.s0), cell_far (by omega) (cell_far (by omega) R.s1), by simp; exact R.g0, by simp; exact R.g1, by simp; exact R.k0, by simp; exact R.k1, by simp; exact R.z, (R.b.setCell (p := ⟨w.heap.size, 0, none⟩) (by dsimp only; omega) _).setCell (p := ⟨w.heap.size, 1, none⟩) (by dsimp only; omega) _⟩
theorem AdS.keep {w W w1 : World} {x y : Int} (R : AdS w W x y) (hb : Below W.heap.size W w1) : AdS w w1 x y := by
  have z := R.z
  exact ⟨keepB hb (by omega) R.r0, keepB hb (by omega) R.r1, keepB hb z R.s0, keepB hb z R.s1, keepF hb (by omega) R.g0, keepF hb (by omega) R.g1, keepF hb z R.k0, keepF hb z R.k1, Nat.lt_of_lt_of_le z hb.size, R.b.trans (hb.mono R.b.size)⟩
theorem AdS.four {w W : World} {u v : Int} (R : AdS w W u v) (x y i j : Int) : ∃ V, V = (((W.setCell ⟨w.heap.size, 0, none⟩ (.int .i64 x)).setCell ⟨w.heap.size, 1, none⟩ (.int .i64 y)).setCell ⟨w.heap.size + 1, 0, none⟩ (.int .i64 i)).setCell ⟨w.heap.size + 1, 1, none⟩ (.int .i64 j) ∧ V.cell? ⟨w.heap.size, 0, none⟩ = some (.int .i64 x) ∧ V.cell? ⟨w.heap.size, 1, none⟩ = some (.int .i64 y) ∧ V.cell? ⟨w.heap.size + 1, 0, none⟩ = some (.int .i64 i) ∧ V.cell? ⟨w.heap.size + 1, 1, none⟩ = some (.int .i64 j) ∧ Below w.heap.size w V :=
  ⟨_, rfl, cell_far (by omega) (cell_far (by omega) (set_other (by decide) (set_same R.r0))), cell_far (by omega) (cell_far (by omega) (set_same (set_other (by decide) R.r1))), set_other (by decide) (set_same (cell_far (by omega) (cell_far (by omega) R.s0))), set_same (set_other (by decide) (cell_far (by omega) (cell_far (by omega) R.s1))),
   (((R.b.setCell (p := ⟨w.heap.size, 0, none⟩) (by dsimp only; omega) _).setCell (p := ⟨w.heap.size, 1, none⟩) (by dsimp only; omega) _).setCell (p := ⟨w.heap.size + 1, 0, none⟩) (by dsimp only; omega) _).setCell (p := ⟨w.heap.size + 1, 1, none⟩) (by dsimp only; omega) _⟩
/-- all four numbers written -/
theorem AdR.four {w W : World} (R : AdR w W) (x y i j : Int) : ∃ V, V = (((W.setCell ⟨w.heap.size, 0, none⟩ (.int .i64 x)).setCell ⟨w.heap.size, 1, none⟩ (.int .i64 y)).setCell ⟨w.heap.size + 1, 0, none⟩ (.int .i64 i)).setCell ⟨w.heap.size + 1, 1, none⟩ (.int .i64 j) ∧ V.cell? ⟨w.heap.size, 0, none⟩ = some (.int .i64 x) ∧ V.cell? ⟨w.heap.size, 1, none⟩ = some (.int .i64 y) ∧ V.cell? ⟨w.heap.size + 1, 0, none⟩ = some (.int .i64 i) ∧ V.cell? ⟨w.heap.size + 1, 1, none⟩ = some (.int .i64 j) ∧ Below w.heap.size w V :=
  ⟨_, rfl, cell_far (by omega) (cell_far (by omega) (set_other (by decide) (set_same R.r0))), cell_far (by omega) (cell_far (by omega) (set_same (set_other (by decide) R.r1))), set_other (by decide) (set_same (cell_far (by omega) (cell_far (by omega) R.s0))), set_same (set_other (by decide) (cell_far (by omega) (cell_far (by omega) R.s1))),
   (((R.b.setCell (p := ⟨w.heap.size, 0, none⟩) (by dsimp only; omega) _).setCell (p := ⟨w.heap.size, 1, none⟩) (by dsimp only; omega) _).setCell (p := ⟨w.heap.size + 1, 0, none⟩) (by dsimp only; omega) _).setCell (p := ⟨w.heap.size + 1, 1, none⟩) (by dsimp only; omega) _⟩

set_option maxRecDepth 100000 in
set_option maxHeartbeats 3200000 in
theorem Adjust_bad (a : Option Addr) (n cap : Nat) (ps : Nat → Pr) (w : World) (h : adjC n ps ≠ 0) (hC : ∀ W, Below w.heap.size w W → Calls Try.prog 73 #[.slice a n cap] W fun e w' => e = .returned (.int .i64 (adjC n ps)) ∧ Below W.heap.size W w') :
    Calls Try.prog 37 #[.slice a n cap] w (AdjRet n ps w) := by
  have HC := Lib.hid hC
  have HA := Lib.hid (show AdjIs n ps 0 0 0 0 (adjC n ps) from ⟨fun _ => ⟨rfl, rfl, rfl, rfl, rfl⟩, fun h2 => absurd h2 h, fun h2 => absurd h2 h⟩)
  have hne : (adjC n ps != 0) = true := bne_iff_ne.2 h
  have hne2 : (adjC n ps == 0) = false := beq_eq_false_iff_ne.2 h
  clear hC h
  generalize adjC n ps = e0 at *
  obtain ⟨A, hA, bA, zA, r0, r1, s0, s1, g0, g1, k0, k1⟩ := adj_boxes w
  have HR := Lib.hid (show AdR w A from ⟨r0, r1, s0, s1, g0, g1, k0, k1, by omega, bA⟩)
  clear r0 r1 s0 s1 g0 g1 k0 k1 zA
  go_enter Try.func37, Try.ntmps37
  go_wp2_with fail
  rw [← hA]
  clear hA
  refine (HC.out _ bA).mono ?_; rintro e X ⟨rfl, hbX⟩
  have HR := Lib.hid (HR.out.keep hbX)
  have bX := bA.trans (hbX.mono bA.size)
  clear hbX bA
  obtain ⟨V, hV, v0, v1, v2, v3, bV⟩ := HR.out.four 0 0 0 0
  obtain ⟨r0, r1, s0, s1, g0, g1, k0, k1, hz, hbw⟩ := HR.out
  go_wp2_with fail
  rw [← hV]
  clear hV
  exact bodyPost_ret (v := .tuple #[.agg #[.int .i64 0, .int .i64 0], .agg #[.int .i64 0, .int .i64 0], .int .i64 e0]) (by simp [results, Try.results37, go_sem, v0, v1, v2, v3]) rfl ⟨0, 0, 0, 0, e0, HA.out, rfl, bV⟩

set_option maxRecDepth 100000 in
set_option maxHeartbeats 3200000 in
theorem Adjust_good (b off n cap : Nat) (ps : Nat → Pr) (w : World) (h : adjC n ps = 0) (hg : (rF ps n).1 ≤ (rF ps n).2) (hs : PrsAt w b off n ps) (hb : b < w.heap.size) (hC : ∀ W, Below w.heap.size w W → Calls Try.prog 73 #[.slice (some ⟨b, off, none⟩) n cap] W fun e w' => e = .returned (.int .i64 0) ∧ Below W.heap.size W w') :
    Calls Try.prog 37 #[.slice (some ⟨b, off, none⟩) n cap] w (AdjRet n ps w) := by
  have HC := Lib.hid hC
  obtain ⟨n1, n2, hok⟩ := adj_ok h
  have HA := Lib.hid (show AdjIs n ps (rF ps n).1 (rF ps n).2 0 0 0 from ⟨fun h2 => absurd h h2, fun _ _ => ⟨rfl, rfl, rfl, rfl, rfl⟩, fun _ h2 => absurd hg h2⟩)
  have HM := Lib.hid (fun W (hW : Below w.heap.size w W) => show Calls Try.prog 74 #[.slice (some ⟨b, off, none⟩) n cap, .func (Fn.func 75) #[] #[]] W fun e w' => e = .returned (.tuple #[.agg #[.int .i64 (rF ps n).1, .int .i64 (rF ps n).2], .bool true]) ∧ Below W.heap.size W w' from by
    have := common_some b off n cap ps W (by omega) hok (hs.keep hW hb) (Nat.lt_of_lt_of_le hb hW.size)
    have g := (F_iff ps n).2 hg
    have e := F_eq hg
    unfold cmL cmH cmS at this
    rw [if_pos g, if_pos g, decide_eq_true g, e] at this
    exact this)
  clear hC h hs hg hok n1 n2
  generalize (rF ps n).1 = F1 at *
  generalize (rF ps n).2 = F2 at *
  obtain ⟨A, hA, bA, zA, r0, r1, s0, s1, g0, g1, k0, k1⟩ := adj_boxes w
  have HR := Lib.hid (show AdR w A from ⟨r0, r1, s0, s1, g0, g1, k0, k1, by omega, bA⟩)
  clear r0 r1 s0 s1 g0 g1 k0 k1 zA
  go_enter Try.func37, Try.ntmps37
  go_wp2_with fail
  rw [← hA]
  clear hA
  refine (HC.out _ bA).mono ?_; rintro e X ⟨rfl, hbX⟩
  have HR := Lib.hid (HR.out.keep hbX)
  have bX := bA.trans (hbX.mono bA.size)
  clear hbX bA
  go_wp2_with fail
  refine (HM.out _ bX).mono ?_; rintro e Y ⟨rfl, hbY⟩
  have HR := Lib.hid (HR.out.keep hbY)
  clear hbY HM HC bX
  have v9 := HR.out.two F1 F2
  obtain ⟨r0, r1, s0, s1, g0, g1, k0, k1, hz, hbw⟩ := HR.out
  go_upto_region 7 with fail
  obtain ⟨V, hV⟩ : ∃ V, V = (Y.setCell ⟨w.heap.size, 0, none⟩ (.int .i64 F1)).setCell ⟨w.heap.size, 1, none⟩ (.int .i64 F2) := ⟨_, rfl⟩
  rw [← hV] at v9
  rw [← hV]
  clear hV r0 r1 s0 s1 g0 g1 k0 k1 hbw hz HR
  obtain ⟨V2, hV2, x0, x1, x2, x3, bV⟩ := v9.four F1 F2 0 0
  obtain ⟨r0, r1, s0, s1, g0, g1, k0, k1, hz, hbw⟩ := v9
  go_wp2_with fail
  rw [← hV2]
  clear hV2
  exact bodyPost_ret (v := .tuple #[.agg #[.int .i64 F1, .int .i64 F2], .agg #[.int .i64 0, .int .i64 0], .int .i64 0]) (by simp [results, Try.results37, go_sem, x0, x1, x2, x3]) rfl ⟨F1, F2, 0, 0, 0, HA.out, rfl, bV⟩
set_option maxRecDepth 100000 in
set_option maxHeartbeats 3200000 in
theorem Adjust_conf (b off n cap : Nat) (ps : Nat → Pr) (w : World) (h : adjC n ps = 0) (hg : ¬ (rF ps n).1 ≤ (rF ps n).2) (hs : PrsAt w b off n ps) (hb : b < w.heap.size) (hC : ∀ W, Below w.heap.size w W → Calls Try.prog 73 #[.slice (some ⟨b, off, none⟩) n cap] W fun e w' => e = .returned (.int .i64 0) ∧ Below W.heap.size W w') :
    Calls Try.prog 37 #[.slice (some ⟨b, off, none⟩) n cap] w (AdjRet n ps w) := by
  have HC := Lib.hid hC
  obtain ⟨n1, n2, hok⟩ := adj_ok h
  have HA := Lib.hid (fun i j (hf : FirstBad n ps i j) => show AdjIs n ps 0 0 i j 14 from ⟨fun h2 => absurd h h2, fun _ h2 => absurd h2 hg, fun _ _ => ⟨rfl, rfl, hf, rfl⟩⟩)
  have HM := Lib.hid (fun W (hW : Below w.heap.size w W) => show Calls Try.prog 74 #[.slice (some ⟨b, off, none⟩) n cap, .func (Fn.func 75) #[] #[]] W fun e w' => e = .returned (.tuple #[.agg #[.int .i64 0, .int .i64 0], .bool false]) ∧ Below W.heap.size W w' from by
    have := common_some b off n cap ps W (by omega) hok (hs.keep hW hb) (Nat.lt_of_lt_of_le hb hW.size)
    have g : ¬ (cF ps n).1 ≤ (cF ps n).2 := fun x => hg ((F_iff ps n).1 x)
    unfold cmL cmH cmS at this
    rw [if_neg g, if_neg g, decide_eq_false g] at this
    exact this)
  have HK := Lib.hid (fun W (hW : Below w.heap.size w W) => contr_some b off n cap ps W n2 hok (hs.keep hW hb) (Nat.lt_of_lt_of_le hb hW.size) (helly hg))
  clear hC h hs hg hok n1 n2
  obtain ⟨A, hA, bA, zA, r0, r1, s0, s1, g0, g1, k0, k1⟩ := adj_boxes w
  have HR := Lib.hid (show AdR w A from ⟨r0, r1, s0, s1, g0, g1, k0, k1, by omega, bA⟩)
  clear r0 r1 s0 s1 g0 g1 k0 k1 zA
  go_enter Try.func37, Try.ntmps37
  go_wp2_with fail
  rw [← hA]
  clear hA
  refine (HC.out _ bA).mono ?_; rintro e X ⟨rfl, hbX⟩
  have HR := Lib.hid (HR.out.keep hbX)
  have bX := bA.trans (hbX.mono bA.size)
  clear hbX bA
  go_wp2_with fail
  refine (HM.out _ bX).mono ?_; rintro e Y ⟨rfl, hbY⟩
  have HR := Lib.hid (HR.out.keep hbY)
  have bY := bX.trans (hbY.mono bX.size)
  clear hbY HM HC bX
  have v9 := HR.out.two 0 0
  obtain ⟨r0, r1, s0, s1, g0, g1, k0, k1, hz, hbw⟩ := HR.out
  go_upto_region 6 with fail
  obtain ⟨V, hV⟩ : ∃ V, V = (Y.setCell ⟨w.heap.size, 0, none⟩ (.int .i64 0)).setCell ⟨w.heap.size, 1, none⟩ (.int .i64 0) := ⟨_, rfl⟩
  rw [← hV] at v9
  rw [← hV]
  clear hV r0 r1 s0 s1 g0 g1 k0 k1 hbw hz HR bY
  go_wp2_with fail
  refine (HK.out _ v9.b).mono ?_; rintro e U ⟨i, j, hf, rfl, hbU⟩
  have HF := Lib.hid (HA.out i j hf)
  have v9 := v9.keep hbU
  clear hbU HK HA hf
  obtain ⟨V2, hV2, x0, x1, x2, x3, bV⟩ := v9.four 0 0 (i : Int) (j : Int)
  obtain ⟨r0, r1, s0, s1, g0, g1, k0, k1, hz, hbw⟩ := v9
  go_wp2_with fail
  rw [← hV2]
  clear hV2
  exact bodyPost_ret (v := .tuple #[.agg #[.int .i64 0, .int .i64 0], .agg #[.int .i64 (i : Int), .int .i64 (j : Int)], .int .i64 14]) (by simp [results, Try.results37, go_sem, x0, x1, x2, x3]) rfl ⟨0, 0, i, j, 14, HF.out, rfl, bV⟩
theorem Adjust_any (a : Option Addr) (n cap : Nat) (ps : Nat → Pr) (w : World) (hm : n ≤ maxLen) (hs : PrsIs w a n ps) :
    Calls Try.prog 37 #[.slice a n cap] w (AdjRet n ps w) := by
  have hC := fun W (hW : Below w.heap.size w W) => checkPairs_any a n cap ps W hm (hs.keep hW)
  by_cases h : adjC n ps = 0
  · rw [h] at hC
    have n1 := (adj_ok h).1
    rcases hs with h0 | ⟨b, off, rfl, hb, hs⟩
    · omega
    by_cases hg : (rF ps n).1 ≤ (rF ps n).2
    · exact Adjust_good b off n cap ps w h hg hs hb hC
    · exact Adjust_conf b off n cap ps w h hg hs hb hC
  · exact Adjust_bad a n cap ps w h hC
theorem AdjIs.uniq {n : Nat} {ps : Nat → Pr} {x y : Int} {i j : Nat} {e x2 y2 : Int} {i2 j2 : Nat} {e2 : Int} (h : AdjIs n ps x y i j e) (g : AdjIs n ps x2 y2 i2 j2 e2) : x = x2 ∧ y = y2 ∧ i = i2 ∧ j = j2 ∧ e = e2 := by
  by_cases h0 : adjC n ps = 0
  · by_cases h1 : (rF ps n).1 ≤ (rF ps n).2
    · obtain ⟨a1, a2, a3, a4, a5⟩ := h.good h0 h1
      obtain ⟨b1, b2, b3, b4, b5⟩ := g.good h0 h1
      exact ⟨by omega, by omega, by omega, by omega, by omega⟩
    · obtain ⟨a1, a2, a3, a4⟩ := h.conf h0 h1
      obtain ⟨b1, b2, b3, b4⟩ := g.conf h0 h1
      have := a3.uniq b3
      exact ⟨by omega, by omega, this.1, this.2, by omega⟩
  · obtain ⟨a1, a2, a3, a4, a5⟩ := h.bad h0
    obtain ⟨b1, b2, b3, b4, b5⟩ := g.bad h0
    exact ⟨by omega, by omega, by omega, by omega, by omega⟩

end Go.Proofs.Ytdmbkhmhaininaa
