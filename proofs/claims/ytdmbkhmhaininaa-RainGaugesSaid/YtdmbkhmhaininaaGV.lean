/-
  The reference's Adjust.
-/
import Derived.Test.YtdmbkhmhaininaaGU
import Derived.Test.YtdmbkhmhaininaaGT
import Derived.Test.YtdmbkhmhaininaaY0
import Derived.Deep.Cut
import Derived.Deep.CutRange
import Derived.BigRegion
namespace Go.Proofs.Ytdmbkhmhaininaa
open Go.RowKit
set_option linter.unusedVariables false
set_option linter.unusedSimpArgs false

/-- the boxes of the reference's results, and the array of zeros -/
structure AeR (w wr : World) : Prop where
  r0 : wr.cell? ⟨w.heap.size, 0, none⟩ = some (.int .i64 0)
  r1 : wr.cell? ⟨w.heap.size, 1, none⟩ = some (.int .i64 0)
  s0 : wr.cell? ⟨w.heap.size + 1, 0, none⟩ = some (.int .i64 0)
  s1 : wr.cell? ⟨w.heap.size + 1, 1, none⟩ = some (.int .i64 0)
  g0 : wr.frozen? ⟨w.heap.size, 0, none⟩ = false
  g1 : wr.frozen? ⟨w.heap.size, 1, none⟩ = false
  k0 : wr.frozen? ⟨w.heap.size + 1, 0, none⟩ = false
  k1 : wr.frozen? ⟨w.heap.size + 1, 1, none⟩ = false
  x0 : wr.cell? ⟨w.heap.size + 1 + 1, 0, none⟩ = some (.int .i64 0)
  x1 : wr.cell? ⟨w.heap.size + 1 + 1, 1, none⟩ = some (.int .i64 0)
  z : w.heap.size + 1 + 1 < wr.heap.size
  b : Below w.heap.size w wr
theorem AeR.keep {w W w1 : World} (R : AeR w W) (hb : Below W.heap.size W w1) : AeR w w1 := by
  have z := R.z
  exact ⟨keepB hb (by omega) R.r0, keepB hb (by omega) R.r1, keepB hb (by omega) R.s0, keepB hb (by omega) R.s1, keepF hb (by omega) R.g0, keepF hb (by omega) R.g1, keepF hb (by omega) R.k0, keepF hb (by omega) R.k1, keepB hb z R.x0, keepB hb z R.x1, Nat.lt_of_lt_of_le z hb.size, R.b.trans (hb.mono R.b.size)⟩
/-- all four numbers written -/
theorem AeR.four {w W : World} (R : AeR w W) (x y i j : Int) : ∃ V, V = (((W.setCell ⟨w.heap.size, 0, none⟩ (.int .i64 x)).setCell ⟨w.heap.size, 1, none⟩ (.int .i64 y)).setCell ⟨w.heap.size + 1, 0, none⟩ (.int .i64 i)).setCell ⟨w.heap.size + 1, 1, none⟩ (.int .i64 j) ∧ V.cell? ⟨w.heap.size, 0, none⟩ = some (.int .i64 x) ∧ V.cell? ⟨w.heap.size, 1, none⟩ = some (.int .i64 y) ∧ V.cell? ⟨w.heap.size + 1, 0, none⟩ = some (.int .i64 i) ∧ V.cell? ⟨w.heap.size + 1, 1, none⟩ = some (.int .i64 j) ∧ Below w.heap.size w V :=
  ⟨_, rfl, cell_far (by omega) (cell_far (by omega) (set_other (by decide) (set_same R.r0))), cell_far (by omega) (cell_far (by omega) (set_same (set_other (by decide) R.r1))), set_other (by decide) (set_same (cell_far (by omega) (cell_far (by omega) R.s0))), set_same (set_other (by decide) (cell_far (by omega) (cell_far (by omega) R.s1))),
   (((R.b.setCell (p := ⟨w.heap.size, 0, none⟩) (by dsimp only; omega) _).setCell (p := ⟨w.heap.size, 1, none⟩) (by dsimp only; omega) _).setCell (p := ⟨w.heap.size + 1, 0, none⟩) (by dsimp only; omega) _).setCell (p := ⟨w.heap.size + 1, 1, none⟩) (by dsimp only; omega) _⟩
theorem radj_boxes (w : World)  : ∃ A, A = ((w.alloc (.cells #[.int .i64 0, .int .i64 0] 24)).alloc (.cells #[.int .i64 0, .int .i64 0] 76)).alloc (.cells #[.int .i64 0, .int .i64 0] 76) ∧ Below w.heap.size w A ∧ A.heap.size = w.heap.size + 3 ∧ A.cell? ⟨w.heap.size, 0, none⟩ = some (.int .i64 0) ∧ A.cell? ⟨w.heap.size, 1, none⟩ = some (.int .i64 0) ∧ A.cell? ⟨w.heap.size + 1, 0, none⟩ = some (.int .i64 0) ∧ A.cell? ⟨w.heap.size + 1, 1, none⟩ = some (.int .i64 0) ∧ A.cell? ⟨w.heap.size + 1 + 1, 0, none⟩ = some (.int .i64 0) ∧ A.cell? ⟨w.heap.size + 1 + 1, 1, none⟩ = some (.int .i64 0) ∧ A.frozen? ⟨w.heap.size, 0, none⟩ = false ∧ A.frozen? ⟨w.heap.size, 1, none⟩ = false ∧ A.frozen? ⟨w.heap.size + 1, 0, none⟩ = false ∧ A.frozen? ⟨w.heap.size + 1, 1, none⟩ = false := by
  obtain ⟨A0, e0⟩ : ∃ A, A = w.alloc (.cells #[.int .i64 0, .int .i64 0] 24) := ⟨_, rfl⟩
  have s0 : A0.heap.size = w.heap.size + 1 := by rw [e0, World.size_alloc]
  have b0 : Below w.heap.size w A0 := by rw [e0]; exact below_alloc _ _
  have c0_0_0 : A0.cell? ⟨w.heap.size, 0, none⟩ = some (.int .i64 0) := by rw [e0]; exact alloc_new rfl rfl
  have c0_1_0 : A0.cell? ⟨w.heap.size, 1, none⟩ = some (.int .i64 0) := by rw [e0]; exact alloc_new rfl rfl
  have f0_0_0 : A0.frozen? ⟨w.heap.size, 0, none⟩ = false := by rw [e0]; exact alloc_newF rfl
  have f0_1_0 : A0.frozen? ⟨w.heap.size, 1, none⟩ = false := by rw [e0]; exact alloc_newF rfl
  rw [← e0]
  obtain ⟨A1, e1⟩ : ∃ A, A = A0.alloc (.cells #[.int .i64 0, .int .i64 0] 76) := ⟨_, rfl⟩
  have s1 : A1.heap.size = w.heap.size + 2 := by rw [e1, World.size_alloc]; omega
  have b1 : Below w.heap.size w A1 := by rw [e1]; exact b0.trans ((below_alloc _ _).mono (by omega))
  have c0_0_1 : A1.cell? ⟨w.heap.size, 0, none⟩ = some (.int .i64 0) := by rw [e1]; exact alloc_keep (by omega) c0_0_0
  have c0_1_1 : A1.cell? ⟨w.heap.size, 1, none⟩ = some (.int .i64 0) := by rw [e1]; exact alloc_keep (by omega) c0_1_0
  have f0_0_1 : A1.frozen? ⟨w.heap.size, 0, none⟩ = false := by rw [e1]; exact alloc_keepF (by omega) f0_0_0
  have f0_1_1 : A1.frozen? ⟨w.heap.size, 1, none⟩ = false := by rw [e1]; exact alloc_keepF (by omega) f0_1_0
  have c1_0_1 : A1.cell? ⟨w.heap.size + 1, 0, none⟩ = some (.int .i64 0) := by rw [e1]; exact alloc_new s0.symm rfl
  have c1_1_1 : A1.cell? ⟨w.heap.size + 1, 1, none⟩ = some (.int .i64 0) := by rw [e1]; exact alloc_new s0.symm rfl
  have f1_0_1 : A1.frozen? ⟨w.heap.size + 1, 0, none⟩ = false := by rw [e1]; exact alloc_newF s0.symm
  have f1_1_1 : A1.frozen? ⟨w.heap.size + 1, 1, none⟩ = false := by rw [e1]; exact alloc_newF s0.symm
  rw [← e1]
  exact ⟨_, rfl, b1.trans ((below_alloc _ _).mono (by omega)), by rw [World.size_alloc]; omega, alloc_keep (by omega) c0_0_1, alloc_keep (by omega) c0_1_1, alloc_keep (by omega) c1_0_1, alloc_keep (by omega) c1_1_1, alloc_new s1.symm rfl, alloc_new s1.symm rfl, alloc_keepF (by omega) f0_0_1, alloc_keepF (by omega) f0_1_1, alloc_keepF (by omega) f1_0_1, alloc_keepF (by omega) f1_1_1⟩

theorem SpV.one24 (W : World) : SpV (W.alloc (.cells #[.int .i64 1, .int .i64 100000] 24)) W.heap.size 1 100000 := ⟨alloc_new rfl rfl, alloc_new rfl rfl, alloc_newF rfl, alloc_newF rfl⟩
theorem AeR.high {w W : World} {q : Nat} (R : AeR w W) (h : w.heap.size + 1 + 1 < q) (x y : Int) : AeR w ((W.setCell ⟨q, 0, none⟩ (.int .i64 x)).setCell ⟨q, 1, none⟩ (.int .i64 y)) :=
  ⟨cell_far (by omega) (cell_far (by omega) R.r0), cell_far (by omega) (cell_far (by omega) R.r1), cell_far (by omega) (cell_far (by omega) R.s0), cell_far (by omega) (cell_far (by omega) R.s1), by simp; exact R.g0, by simp; exact R.g1, by simp; exact R.k0, by simp; exact R.k1, cell_far (by omega) (cell_far (by omega) R.x0), cell_far (by omega) (cell_far (by omega) R.x1), by simp; exact R.z, (R.b.setCell (p := ⟨q, 0, none⟩) (by dsimp only; omega) _).setCell (p := ⟨q, 1, none⟩) (by dsimp only; omega) _⟩
theorem AdjIs.bad_of {n : Nat} {ps : Nat → Pr} {c : Int} (h : adjC n ps = c) (hc : c ≠ 0) : AdjIs n ps 0 0 0 0 c := by
  refine ⟨fun _ => ⟨rfl, rfl, rfl, rfl, h.symm⟩, fun h2 => ?_, fun h2 => ?_⟩
  · rw [h] at h2; exact absurd h2 hc
  · rw [h] at h2; exact absurd h2 hc
set_option maxRecDepth 100000 in
set_option maxHeartbeats 3200000 in
theorem refAdjust_nil (a : Option Addr) (cap : Nat) (ps : Nat → Pr) (w : World) :
    Calls Try.prog 38 #[.slice a 0 cap] w (AdjRet 0 ps w) := by
  have HA := Lib.hid (show AdjIs 0 ps 0 0 0 0 18 from AdjIs.bad_of rfl (by decide))
  obtain ⟨A, hA, bA, zA, r0, r1, s0, s1, x0, x1, g0, g1, k0, k1⟩ := radj_boxes w
  have HR := Lib.hid (show AeR w A from ⟨r0, r1, s0, s1, g0, g1, k0, k1, x0, x1, by omega, bA⟩)
  clear r0 r1 s0 s1 g0 g1 k0 k1 zA bA x0 x1
  go_enter Try.func38, Try.ntmps38
  go_upto_region 3 with fail
  rw [← hA]
  clear hA
  obtain ⟨V, hV, v0, v1, v2, v3, bV⟩ := HR.out.four 0 0 0 0
  obtain ⟨r0, r1, s0, s1, g0, g1, k0, k1, x0, x1, hz, hbw⟩ := HR.out
  go_region
  go_wp2_with fail
  rw [← hV]
  clear hV
  exact bodyPost_ret (v := .tuple #[.agg #[.int .i64 0, .int .i64 0], .agg #[.int .i64 0, .int .i64 0], .int .i64 18]) (by simp [results, Try.results38, go_sem, v0, v1, v2, v3]) rfl ⟨0, 0, 0, 0, 18, HA.out, rfl, bV.drew⟩

set_option maxRecDepth 100000 in
set_option maxHeartbeats 3200000 in
theorem refAdjust_many (a : Option Addr) (n cap : Nat) (ps : Nat → Pr) (w : World) (h : 100 < n) (hm : n ≤ maxLen) :
    Calls Try.prog 38 #[.slice a n cap] w (AdjRet n ps w) := by
  have HA := Lib.hid (show AdjIs n ps 0 0 0 0 9 from AdjIs.bad_of (by unfold adjC; rw [if_neg (by omega), if_pos h]) (by decide))
  unfold maxLen at hm
  have d0 : ((n : Int) == 0) = false := by rw [beq_eq_false_iff_ne]; omega
  have d1 : decide (100 < (n : Int)) = true := decide_eq_true (by omega)
  obtain ⟨A, hA, bA, zA, r0, r1, s0, s1, x0, x1, g0, g1, k0, k1⟩ := radj_boxes w
  have HR := Lib.hid (show AeR w A from ⟨r0, r1, s0, s1, g0, g1, k0, k1, x0, x1, by omega, bA⟩)
  clear r0 r1 s0 s1 g0 g1 k0 k1 zA bA x0 x1
  go_enter Try.func38, Try.ntmps38
  go_upto_region 5 with fail
  rw [← hA]
  clear hA
  obtain ⟨V, hV, v0, v1, v2, v3, bV⟩ := HR.out.four 0 0 0 0
  obtain ⟨r0, r1, s0, s1, g0, g1, k0, k1, x0, x1, hz, hbw⟩ := HR.out
  go_region
  go_wp2_with fail
  rw [← hV]
  clear hV
  exact bodyPost_ret (v := .tuple #[.agg #[.int .i64 0, .int .i64 0], .agg #[.int .i64 0, .int .i64 0], .int .i64 9]) (by simp [results, Try.results38, go_sem, v0, v1, v2, v3]) rfl ⟨0, 0, 0, 0, 9, HA.out, rfl, bV.drew⟩

theorem adjC_first {n : Nat} {ps : Nat → Pr} (h1 : 1 ≤ n) (h2 : n ≤ 100) : adjC n ps = firstE (fun j => prE (ps j)) n := by
  unfold adjC; rw [if_neg (by omega), if_neg (by omega)]

/-- two boxes of spans behind a world -/
structure TwoV (E W : World) (qa qb : Nat) (x y u v : Int) : Prop where
  a : SpV W qa x y
  b : SpV W qb u v
  za : qa < W.heap.size
  zb : qb < W.heap.size
  bel : Below E.heap.size E W
theorem SpV.far {W : World} {q c j : Nat} {x y : Int} {u : Value} (s : SpV W q x y) (h : c ≠ q) : SpV (W.setCell ⟨c, j, none⟩ u) q x y :=
  ⟨cell_far h s.c0, cell_far h s.c1, by simp; exact s.f0, by simp; exact s.f1⟩
theorem SpV.two {E W : World} {qa qb : Nat} {x y u v : Int} (a : SpV W qa x y) (b : SpV W qb u v) (za : qa < W.heap.size) (zb : qb < W.heap.size) (ne : qa ≠ qb) (la : E.heap.size ≤ qa) (lb : E.heap.size ≤ qb) (h : Below E.heap.size E W) (x1 y1 x2 y2 : Int) :
    TwoV E ((((W.setCell ⟨qa, 0, none⟩ (.int .i64 x1)).setCell ⟨qa, 1, none⟩ (.int .i64 y1)).setCell ⟨qb, 0, none⟩ (.int .i64 x2)).setCell ⟨qb, 1, none⟩ (.int .i64 y2)) qa qb x1 y1 x2 y2 :=
  ⟨((SpB.put a).far (Ne.symm ne)).far (Ne.symm ne), SpB.put ((b.far ne).far ne), by simp; exact za, by simp; exact zb, (((h.setCell (p := ⟨qa, 0, none⟩) (by dsimp only; omega) _).setCell (p := ⟨qa, 1, none⟩) (by dsimp only; omega) _).setCell (p := ⟨qb, 0, none⟩) (by dsimp only; omega) _).setCell (p := ⟨qb, 1, none⟩) (by dsimp only; omega) _⟩
theorem bad_dec (p q : Pr) : badP p q = decide (min (rHi p) (rHi q) < max (rLo p) (rLo q)) := rfl
set_option maxRecDepth 100000 in
set_option maxHeartbeats 12800000 in
theorem refAdjust_some (b off n cap : Nat) (ps : Nat → Pr) (w : World) (h1 : 1 ≤ n) (h2 : n ≤ 100) (hs : PrsAt w b off n ps) (hb : b < w.heap.size) :
    Calls Try.prog 38 #[.slice (some ⟨b, off, none⟩) n cap] w (AdjRet n ps w) := by
  have HS := Lib.hid hs
  have HC := Lib.hid (adjC_first (ps := ps) h1 h2)
  have d0 : ((n : Int) == 0) = false := by rw [beq_eq_false_iff_ne]; omega
  have d1 : decide (100 < (n : Int)) = false := decide_eq_false (by omega)
  clear hs
  obtain ⟨A, hA, bA, zA, r0, r1, s0, s1, x0, x1, g0, g1, k0, k1⟩ := radj_boxes w
  have HR := Lib.hid (show AeR w A from ⟨r0, r1, s0, s1, g0, g1, k0, k1, x0, x1, by omega, bA⟩)
  clear r0 r1 s0 s1 g0 g1 k0 k1 zA bA x0 x1
  go_enter Try.func38, Try.ntmps38
  go_wp2_with fail
  rw [← hA]
  clear hA
  go_loopw [6] (fun s6 wr => ∃ k : Nat, k ≤ n ∧ s6 = .int .i64 k ∧ AeR w wr ∧ firstE (fun j => prE (ps j)) k = 0) (fun s6 _ => n - (intOf s6).toNat)
  case atStart => exact ⟨0, Nat.zero_le _, rfl, HR.out, rfl⟩
  case round =>
    clear HR A
    obtain ⟨k, hk, rfl, hR, h0⟩ := hrel
    have HR := Lib.hid hR
    have H0 := Lib.hid h0
    have hbw := hR.b
    clear h0 hR
    by_cases hlt : k < n
    · have c0 := keepB hbw hb (HS.out k hlt).1
      have c1 := keepB hbw hb (HS.out k hlt).2.1
      have c2 := keepB hbw hb (HS.out k hlt).2.2.1
      have c3 := keepB hbw hb (HS.out k hlt).2.2.2
      have q0 : (0 : Int) ≤ (k : Int) := by omega
      have q1 : (k : Int) < (n : Int) := by omega
      have lbr : b < wr.heap.size := Nat.lt_of_lt_of_le hb hbw.size
      have HZ := Lib.hid (fun W => Valid_any (ps k).s1 (ps k).s2 0 2147483648 W)
      have HF := Lib.hid (fun W => refFell_any (ps k).ti (ps k).sz W)
      have HE1 := Lib.hid (fun h => prE_span (p := ps k) h)
      have HE2 := Lib.hid (fun h => prE_feE (p := ps k) h)
      have HB1 := Lib.hid (fun h => prE_bad (ps := ps) hlt H0.out h)
      have HB2 := Lib.hid (fun h => prE_fine (ps := ps) (k := k) H0.out h)
      generalize prE (ps k) = pe at *
      generalize hfe : feE (ps k).ti (ps k).sz = fe at *
      have hf3 : fe = 0 ∨ fe = 3 := by rw [← hfe]; unfold feE; split <;> simp
      clear hfe hbw H0
      generalize feLo (ps k).ti (ps k).sz = fl at *
      generalize feHi (ps k).ti (ps k).sz = fh at *
      generalize (ps k).s1 = x1 at *
      generalize (ps k).s2 = x2 at *
      generalize (ps k).ti = x3 at *
      generalize (ps k).sz = x4 at *
      rcases (Bool.eq_false_or_eq_true (spanB x1 x2 0 2147483648)).symm with hc | hc
      · rw [hc] at HZ
        have HA := Lib.hid (AdjIs.bad_of (HC.out.trans (HB1.out (HE1.out hc))) (by decide))
        clear hc HE1 HE2 HB1 HB2 HC
        go_wp2_with fail
        refine (HZ.out _).mono ?_; rintro e X ⟨rfl, hb2⟩
        have HR := Lib.hid (HR.out.keep hb2)
        clear hb2 HZ HF HS c0 c1 c2 c3
        go_upto_region 10 with fail
        obtain ⟨V, hV, v0, v1, v2, v3, bV⟩ := HR.out.four 0 0 0 0
        obtain ⟨r0, r1, s0, s1, g0, g1, k0, k1, x0, x1, hz, hbw⟩ := HR.out
        go_region
        go_wp2_with fail
        rw [← hV]
        clear hV
        exact bodyPost_ret (v := .tuple #[.agg #[.int .i64 0, .int .i64 0], .agg #[.int .i64 0, .int .i64 0], .int .i64 3]) (by simp [results, Try.results38, go_sem, v0, v1, v2, v3]) rfl ⟨0, 0, 0, 0, 3, HA.out, rfl, bV.drew⟩
      · rw [hc] at HZ
        have he := HE2.out hc
        subst he
        clear hc HE1 HE2
        go_wp2_with fail
        refine (HZ.out _).mono ?_; rintro e X ⟨rfl, hb2⟩
        have HR := Lib.hid (HR.out.keep hb2)
        have c2 := keepB hb2 lbr c2
        have c3 := keepB hb2 lbr c3
        clear hb2 HZ c0 c1
        go_wp2_with fail
        refine (HF.out _).mono ?_; rintro e Y ⟨rfl, hb2⟩
        have HR := Lib.hid ((HR.out.keep hb2).keep (below_alloc Y (.cells #[.int .i64 fl, .int .i64 fh] 24)))
        clear hb2 HF c2 c3
        rcases hf3 with rfl | rfl
        · have HE := Lib.hid (HB2.out rfl)
          clear HB1 HB2
          go_wp2
          go_roundw
          case rel => exact ⟨k + 1, by omega, by go_num, HR.out, HE.out⟩
          case measure => simp [intOf]; omega
        · have HA := Lib.hid (AdjIs.bad_of (HC.out.trans (HB1.out rfl)) (by decide))
          clear HB1 HB2 HC HS
          obtain ⟨U, hU⟩ : ∃ U, U = Y.alloc (.cells #[.int .i64 fl, .int .i64 fh] 24) := ⟨_, rfl⟩
          rw [← hU] at HR
          go_upto_region 13 with fail
          rw [← hU]
          clear hU
          obtain ⟨V, hV, v0, v1, v2, v3, bV⟩ := HR.out.four 0 0 0 0
          obtain ⟨r0, r1, s0, s1, g0, g1, k0, k1, x0, x1, hz, hbw⟩ := HR.out
          go_region
          go_wp2_with fail
          rw [← hV]
          clear hV
          exact bodyPost_ret (v := .tuple #[.agg #[.int .i64 0, .int .i64 0], .agg #[.int .i64 0, .int .i64 0], .int .i64 3]) (by simp [results, Try.results38, go_sem, v0, v1, v2, v3]) rfl ⟨0, 0, 0, 0, 3, HA.out, rfl, bV.drew⟩
    · obtain rfl : n = k := by omega
      have HC0 := Lib.hid (HC.out.trans H0.out)
      have HO := Lib.hid (adj_ok HC0.out).2.2
      clear HC H0 hlt hk
      have HQ := Lib.hid (SpV.one24 wr)
      have lq2 : w.heap.size + 1 + 1 < wr.heap.size := HR.out.z
      have HR := Lib.hid (HR.out.keep (below_alloc wr (.cells #[.int .i64 1, .int .i64 100000] 24)))
      have zq : wr.heap.size < (wr.alloc (.cells #[.int .i64 1, .int .i64 100000] 24)).heap.size := by rw [World.size_alloc]; omega
      obtain ⟨q, hq⟩ : ∃ q, q = wr.heap.size := ⟨_, rfl⟩
      obtain ⟨U, hU⟩ : ∃ U, U = wr.alloc (.cells #[.int .i64 1, .int .i64 100000] 24) := ⟨_, rfl⟩
      rw [← hU, ← hq] at HQ zq
      rw [← hU] at HR
      rw [← hq] at lq2
      clear hbw
      go_wp2_with fail
      rw [← hU, ← hq]
      clear hU hq
      go_loopw [10] (fun s10 wx => ∃ k : Nat, k ≤ n ∧ s10 = .int .i64 k ∧ AeR w wx ∧ SpV wx q (rF ps k).1 (rF ps k).2 ∧ q < wx.heap.size) (fun s10 _ => n - (intOf s10).toNat)
      case atStart => exact ⟨0, Nat.zero_le _, rfl, HR.out, HQ.out, zq⟩
      case round =>
      clear HR HQ zq U
      obtain ⟨k, hk, rfl, hR, hQ, hz⟩ := hrel
      have HR := Lib.hid hR
      have HQ := Lib.hid hQ
      have hbw := hR.b
      clear hQ hR
      by_cases hlt : k < n
      · have c0 := keepB hbw hb (HS.out k hlt).1
        have c1 := keepB hbw hb (HS.out k hlt).2.1
        have c2 := keepB hbw hb (HS.out k hlt).2.2.1
        have c3 := keepB hbw hb (HS.out k hlt).2.2.2
        have q0 : (0 : Int) ≤ (k : Int) := by omega
        have q1 : (k : Int) < (n : Int) := by omega
        have lbr : b < wr.heap.size := Nat.lt_of_lt_of_le hb hbw.size
        have HP := Lib.hid (fun W => rscales_any (ps k) W (HO.out k hlt))
        clear hbw
        go_wp2_with fail
        refine (HP.out _).mono ?_; rintro e X ⟨rfl, hb2⟩
        have HR := Lib.hid ((HR.out.keep hb2).keep (below_alloc X (.cells #[.int .i64 (rLo (ps k)), .int .i64 (rHi (ps k))] 24)))
        have HQ := Lib.hid ((HQ.out.keep hb2 hz).keep (below_alloc X (.cells #[.int .i64 (rLo (ps k)), .int .i64 (rHi (ps k))] 24)) (Nat.lt_of_lt_of_le hz hb2.size))
        have hz2 : q < X.heap.size := Nat.lt_of_lt_of_le hz hb2.size
        have m0 : (X.alloc (.cells #[.int .i64 (rLo (ps k)), .int .i64 (rHi (ps k))] 24)).cell? ⟨X.heap.size, 0, none⟩ = some (.int .i64 (rLo (ps k))) := alloc_new rfl rfl
        have m1 : (X.alloc (.cells #[.int .i64 (rLo (ps k)), .int .i64 (rHi (ps k))] 24)).cell? ⟨X.heap.size, 1, none⟩ = some (.int .i64 (rHi (ps k))) := alloc_new rfl rfl
        have mz : X.heap.size < (X.alloc (.cells #[.int .i64 (rLo (ps k)), .int .i64 (rHi (ps k))] 24)).heap.size := by rw [World.size_alloc]; omega
        obtain ⟨p, hp⟩ : ∃ p, p = X.heap.size := ⟨_, rfl⟩
        obtain ⟨U, hU⟩ : ∃ U, U = X.alloc (.cells #[.int .i64 (rLo (ps k)), .int .i64 (rHi (ps k))] 24) := ⟨_, rfl⟩
        rw [← hU, ← hp] at m0 m1 mz
        rw [← hU] at HR HQ
        rw [← hp] at hz2
        clear hb2 HP c0 c1 c2 c3 hz
        go_upto_region 19 with fail
        rw [← hU]
        try rw [← hp]
        clear hU hp
        have HF := Lib.hid (show (rF ps (k + 1)).1 = max (rF ps k).1 (rLo (ps k)) ∧ (rF ps (k + 1)).2 = min (rF ps k).2 (rHi (ps k)) from ⟨rfl, rfl⟩)
        generalize (rF ps k).1 = F1 at *
        generalize (rF ps k).2 = F2 at *
        generalize rLo (ps k) = L1 at *
        generalize rHi (ps k) = L2 at *
        obtain ⟨M1, hM1⟩ : ∃ M1, M1 = max F1 L1 := ⟨_, rfl⟩
        obtain ⟨M2, hM2⟩ : ∃ M2, M2 = min F2 L2 := ⟨_, rfl⟩
        rw [← hM1, ← hM2] at HF
        have e1 : max F1 L1 = M1 := hM1.symm
        have e2 : min F2 L2 = M2 := hM2.symm
        have e3 : (if F1 < L1 then L1 else F1) = M1 := by rw [hM1]; split <;> omega
        have e4 : (if L1 < F1 then F1 else L1) = M1 := by rw [hM1]; split <;> omega
        have e5 : (if F2 < L2 then F2 else L2) = M2 := by rw [hM2]; split <;> omega
        have e6 : (if L2 < F2 then L2 else F2) = M2 := by rw [hM2]; split <;> omega
        clear hM1 hM2
        have hzU : q < U.heap.size := by omega
        obtain ⟨t0, t1, u0, u1⟩ := HQ.out
        have HN := Lib.hid (show AeR w ((U.setCell ⟨q, 0, none⟩ (.int .i64 M1)).setCell ⟨q, 1, none⟩ (.int .i64 M2)).drew ∧ SpV ((U.setCell ⟨q, 0, none⟩ (.int .i64 M1)).setCell ⟨q, 1, none⟩ (.int .i64 M2)).drew q M1 M2 ∧ q < ((U.setCell ⟨q, 0, none⟩ (.int .i64 M1)).setCell ⟨q, 1, none⟩ (.int .i64 M2)).drew.heap.size from
          ⟨(HR.out.high lq2 M1 M2).keep (Below.refl _ _).drew, (SpB.put HQ.out).keep (Below.refl _ _).drew (by simp; exact hzU), by simp; exact hzU⟩)
        go_region
        all_goals
          go_wp2_with fail
          go_roundw
          case rel => exact ⟨k + 1, by omega, by go_num, HN.out.1, by rw [HF.out.1, HF.out.2]; exact HN.out.2.1, HN.out.2.2⟩
          case measure => simp [intOf]; omega
      · obtain rfl : n = k := by omega
        clear hlt hk hbw
        by_cases hg : (rF ps n).1 ≤ (rF ps n).2
        · have HA := Lib.hid (show AdjIs n ps (rF ps n).1 (rF ps n).2 0 0 0 from ⟨fun h2 => absurd HC0.out h2, fun _ _ => ⟨rfl, rfl, rfl, rfl, rfl⟩, fun _ h2 => absurd hg h2⟩)
          have dd : decide ((rF ps n).1 ≤ (rF ps n).2) = true := decide_eq_true hg
          clear HC0 HO hg HS
          generalize (rF ps n).1 = F1 at *
          generalize (rF ps n).2 = F2 at *
          obtain ⟨t0, t1, u0, u1⟩ := HQ.out
          go_upto_region 21 with fail
          obtain ⟨V, hV, v0, v1, v2, v3, bV⟩ := HR.out.four F1 F2 0 0
          obtain ⟨r0, r1, s0, s1, g0, g1, k0, k1, x0, x1, hz, hbw⟩ := HR.out
          go_region
          go_wp2_with fail
          rw [← hV]
          clear hV
          exact bodyPost_ret (v := .tuple #[.agg #[.int .i64 F1, .int .i64 F2], .agg #[.int .i64 0, .int .i64 0], .int .i64 0]) (by simp [results, Try.results38, go_sem, v0, v1, v2, v3]) rfl ⟨F1, F2, 0, 0, 0, HA.out, rfl, bV.drew⟩
        · have dd : decide ((rF ps n).1 ≤ (rF ps n).2) = false := decide_eq_false hg
          have HB := Lib.hid (helly hg)
          have HA := Lib.hid (fun i j (hf : FirstBad n ps i j) => show AdjIs n ps 0 0 i j 14 from ⟨fun h2 => absurd HC0.out h2, fun _ h2 => absurd h2 hg, fun _ _ => ⟨rfl, rfl, hf, rfl⟩⟩)
          obtain ⟨t0, t1, u0, u1⟩ := HQ.out
          clear HC0 hg
          go_wp2
          go_loopw [12] (fun s12 wx => ∃ i : Nat, i ≤ n ∧ s12 = .int .i64 i ∧ AeR w wx ∧ ∀ a b, a < i → a ≤ b → b < n → badP (ps a) (ps b) = false) (fun s12 _ => n - (intOf s12).toNat)
          case atStart => exact ⟨0, Nat.zero_le _, rfl, HR.out, fun a b h => by omega⟩
          case round =>
          clear HR HQ t0 t1 u0 u1
          obtain ⟨i, hi, rfl, hR, hrows⟩ := hrel
          have HR := Lib.hid hR
          have HRows := Lib.hid hrows
          clear hR hrows
          by_cases hil : i < n
          · have qi0 : (0 : Int) ≤ (i : Int) := by omega
            have qi1 : (i : Int) < (n : Int) := by omega
            go_wp2
            go_loopw [13] (fun s13 wx => ∃ j : Nat, i ≤ j ∧ j ≤ n ∧ s13 = .int .i64 j ∧ AeR w wx ∧ ∀ b, i ≤ b → b < j → badP (ps i) (ps b) = false) (fun s13 _ => n - (intOf s13).toNat)
            case atStart => exact ⟨i, Nat.le_refl _, hi, rfl, HR.out, fun b h1 h2 => by omega⟩
            case round =>
            clear HR
            obtain ⟨j, hij, hj, rfl, hR, hrow⟩ := hrel
            have HR := Lib.hid hR
            have HRow := Lib.hid hrow
            have hbw := hR.b
            clear hrow hR
            by_cases hjl : j < n
            · have c0 := keepB hbw hb (HS.out i hil).1
              have c1 := keepB hbw hb (HS.out i hil).2.1
              have c2 := keepB hbw hb (HS.out i hil).2.2.1
              have c3 := keepB hbw hb (HS.out i hil).2.2.2
              have d2 := keepB hbw hb (HS.out j hjl).1
              have d3 := keepB hbw hb (HS.out j hjl).2.1
              have d4 := keepB hbw hb (HS.out j hjl).2.2.1
              have d5 := keepB hbw hb (HS.out j hjl).2.2.2
              have lbr : b < wr.heap.size := Nat.lt_of_lt_of_le hb hbw.size
              have qj0 : (0 : Int) ≤ (j : Int) := by omega
              have qj1 : (j : Int) < (n : Int) := by omega
              have HQi := Lib.hid (fun W => rscales_any (ps i) W (HO.out i hil))
              have HQj := Lib.hid (fun W => rscales_any (ps j) W (HO.out j hjl))
              clear hbw
              go_upto_region 28 with fail
              have HS28 := Lib.hid (show (fun w' : World => w'.cell? ⟨b, off + i * 4, none⟩ = some (.int .i64 (ps i).s1) ∧ w'.cell? ⟨b, off + i * 4 + 1, none⟩ = some (.int .i64 (ps i).s2) ∧ w'.cell? ⟨b, off + i * 4 + 2, none⟩ = some (.int .i64 (ps i).ti) ∧ w'.cell? ⟨b, off + i * 4 + 3, none⟩ = some (.int .i64 (ps i).sz) ∧ w'.cell? ⟨b, off + j * 4, none⟩ = some (.int .i64 (ps j).s1) ∧ w'.cell? ⟨b, off + j * 4 + 1, none⟩ = some (.int .i64 (ps j).s2) ∧ w'.cell? ⟨b, off + j * 4 + 2, none⟩ = some (.int .i64 (ps j).ti) ∧ w'.cell? ⟨b, off + j * 4 + 3, none⟩ = some (.int .i64 (ps j).sz) ∧ Below wr.heap.size wr w') wr.drew from ⟨c0, c1, c2, c3, d2, d3, d4, d5, (Below.refl _ _).drew⟩)
              clear c0 c1 c2 c3 d2 d3 d4 d5
              go_cut [14, 15] from 94 to 124 (fun a b wQ => ∃ qa qb : Nat, a = .pointer (some ⟨qa, 0, none⟩) ∧ b = .pointer (some ⟨qb, 0, none⟩) ∧ TwoV wr wQ qa qb (rLo (ps i)) (rHi (ps i)) (rLo (ps j)) (rHi (ps j)))
              case first =>
                refine wp_region_held_tail (S := (fun w' : World => w'.cell? ⟨b, off + i * 4, none⟩ = some (.int .i64 (ps i).s1) ∧ w'.cell? ⟨b, off + i * 4 + 1, none⟩ = some (.int .i64 (ps i).s2) ∧ w'.cell? ⟨b, off + i * 4 + 2, none⟩ = some (.int .i64 (ps i).ti) ∧ w'.cell? ⟨b, off + i * 4 + 3, none⟩ = some (.int .i64 (ps i).sz) ∧ w'.cell? ⟨b, off + j * 4, none⟩ = some (.int .i64 (ps j).s1) ∧ w'.cell? ⟨b, off + j * 4 + 1, none⟩ = some (.int .i64 (ps j).s2) ∧ w'.cell? ⟨b, off + j * 4 + 2, none⟩ = some (.int .i64 (ps j).ti) ∧ w'.cell? ⟨b, off + j * 4 + 3, none⟩ = some (.int .i64 (ps j).sz) ∧ Below wr.heap.size wr w')) 12 (by kernel_rfl) (by kernel_rfl) HS28.out (fun hHeld => ?_)
                obtain ⟨D, hD⟩ : ∃ D, D = wr.drew := ⟨_, rfl⟩
                rw [← hD] at hHeld ⊢
                clear hD
                refine wpAnyH_take (i := 0) (v := ?v0_1) rfl (by kernel_rfl) (by kernel_rfl) (by kernel_rfl) (fun _ _ _ h => h) (Or.inl ⟨by rfl, ?hy0_1⟩) (by assumption) ?rest0_1
                case hy0_1 => (intro w hSw; (try dsimp only at hSw); go_simp; (try with_reducible rfl))
                try simp only [Act.put, List.getElem_toArray, List.getElem_cons_zero, List.getElem_cons_succ, List.setIfInBounds_toArray, List.set_cons_zero, List.set_cons_succ]
                refine wpAnyH_take (i := 1) (v := ?v1_2) rfl (by kernel_rfl) (by kernel_rfl) (by kernel_rfl) (fun _ _ _ h => h) (Or.inl ⟨by rfl, ?hy1_2⟩) (by assumption) ?rest1_2
                case hy1_2 => (intro w hSw; (try dsimp only at hSw); go_simp; (try with_reducible rfl))
                try simp only [Act.put, List.getElem_toArray, List.getElem_cons_zero, List.getElem_cons_succ, List.setIfInBounds_toArray, List.set_cons_zero, List.set_cons_succ]
                refine wpAnyH_take (i := 2) (v := ?v2_3) rfl (by kernel_rfl) (by kernel_rfl) (by kernel_rfl) (fun _ _ _ h => h) (Or.inl ⟨by rfl, ?hy2_3⟩) (by assumption) ?rest2_3
                case hy2_3 => (intro w hSw; (try dsimp only at hSw); go_simp; (try with_reducible rfl))
                try simp only [Act.put, List.getElem_toArray, List.getElem_cons_zero, List.getElem_cons_succ, List.setIfInBounds_toArray, List.set_cons_zero, List.set_cons_succ]
                refine wpAnyH_take (i := 3) (v := ?v3_4) rfl (by kernel_rfl) (by kernel_rfl) (by kernel_rfl) (fun _ _ _ h => h) (Or.inl ⟨by rfl, ?hy3_4⟩) (by assumption) ?rest3_4
                case hy3_4 => (intro w hSw; (try dsimp only at hSw); go_simp; (try with_reducible rfl))
                try simp only [Act.put, List.getElem_toArray, List.getElem_cons_zero, List.getElem_cons_succ, List.setIfInBounds_toArray, List.set_cons_zero, List.set_cons_succ]
                refine wpAnyH_take (i := 5) (v := ?v5_5) rfl (by kernel_rfl) (by kernel_rfl) (by kernel_rfl) (fun _ _ _ h => h) (Or.inl ⟨by rfl, ?hy5_5⟩) (by assumption) ?rest5_5
                case hy5_5 => (intro w hSw; (try dsimp only at hSw); go_simp; (try with_reducible rfl))
                try simp only [Act.put, List.getElem_toArray, List.getElem_cons_zero, List.getElem_cons_succ, List.setIfInBounds_toArray, List.set_cons_zero, List.set_cons_succ]
                refine wpAnyH_take (i := 6) (v := ?v6_6) rfl (by kernel_rfl) (by kernel_rfl) (by kernel_rfl) (fun _ _ _ h => h) (Or.inl ⟨by rfl, ?hy6_6⟩) (by assumption) ?rest6_6
                case hy6_6 => (intro w hSw; (try dsimp only at hSw); go_simp; (try with_reducible rfl))
                try simp only [Act.put, List.getElem_toArray, List.getElem_cons_zero, List.getElem_cons_succ, List.setIfInBounds_toArray, List.set_cons_zero, List.set_cons_succ]
                refine wpAnyH_take (i := 7) (v := ?v7_7) rfl (by kernel_rfl) (by kernel_rfl) (by kernel_rfl) (fun _ _ _ h => h) (Or.inl ⟨by rfl, ?hy7_7⟩) (by assumption) ?rest7_7
                case hy7_7 => (intro w hSw; (try dsimp only at hSw); go_simp; (try with_reducible rfl))
                try simp only [Act.put, List.getElem_toArray, List.getElem_cons_zero, List.getElem_cons_succ, List.setIfInBounds_toArray, List.set_cons_zero, List.set_cons_succ]
                refine wpAnyH_take (i := 8) (v := ?v8_8) rfl (by kernel_rfl) (by kernel_rfl) (by kernel_rfl) (fun _ _ _ h => h) (Or.inl ⟨by rfl, ?hy8_8⟩) (by assumption) ?rest8_8
                case hy8_8 => (intro w hSw; (try dsimp only at hSw); go_simp; (try with_reducible rfl))
                try simp only [Act.put, List.getElem_toArray, List.getElem_cons_zero, List.getElem_cons_succ, List.setIfInBounds_toArray, List.set_cons_zero, List.set_cons_succ]
                refine wpAnyH_ready (rs := [4, 10, 11]) (by kernel_rfl) (by simp) ?_
                refine AllReadyH.cons rfl (fun K hK => ?_) (AllReadyH.cons rfl (fun K hK => ?_) (AllReadyH.cons rfl (fun K hK => ?_) AllReadyH.nil))
                · skip
                  go_simp
                  go_at_call 77; refine (HQi.out _).mono ?_; rintro e' W1 ⟨rfl, hb'⟩
                  refine hK.out _ _ (⟨keepW hb' hHeld.1, keepW hb' hHeld.2.1, keepW hb' hHeld.2.2.1, keepW hb' hHeld.2.2.2.1, keepW hb' hHeld.2.2.2.2.1, keepW hb' hHeld.2.2.2.2.2.1, keepW hb' hHeld.2.2.2.2.2.2.1, keepW hb' hHeld.2.2.2.2.2.2.2.1, hHeld.2.2.2.2.2.2.2.2.trans (hb'.mono hHeld.2.2.2.2.2.2.2.2.size)⟩) (fun hHeld2 => ?_)
                  clear hK K hHeld hb'
                  have hHeld := hHeld2
                  clear hHeld2
                  try simp only [Act.put, List.getElem_toArray, List.getElem_cons_zero, List.getElem_cons_succ, List.setIfInBounds_toArray, List.set_cons_zero, List.set_cons_succ]
                  refine wpAnyH_ready (rs := [9, 10, 11]) (by kernel_rfl) (by simp) ?_
                  refine AllReadyH.cons rfl (fun K hK => ?_) (AllReadyH.cons rfl (fun K hK => ?_) (AllReadyH.cons rfl (fun K hK => ?_) AllReadyH.nil))
                  · skip
                    go_simp
                    go_at_call 77; refine (HQj.out _).mono ?_; rintro e' W2 ⟨rfl, hb'⟩
                    refine hK.out _ _ (⟨keepW hb' hHeld.1, keepW hb' hHeld.2.1, keepW hb' hHeld.2.2.1, keepW hb' hHeld.2.2.2.1, keepW hb' hHeld.2.2.2.2.1, keepW hb' hHeld.2.2.2.2.2.1, keepW hb' hHeld.2.2.2.2.2.2.1, keepW hb' hHeld.2.2.2.2.2.2.2.1, hHeld.2.2.2.2.2.2.2.2.trans (hb'.mono hHeld.2.2.2.2.2.2.2.2.size)⟩) (fun hHeld2 => ?_)
                    clear hK K hHeld hb'
                    have hHeld := hHeld2
                    clear hHeld2
                    try simp only [Act.put, List.getElem_toArray, List.getElem_cons_zero, List.getElem_cons_succ, List.setIfInBounds_toArray, List.set_cons_zero, List.set_cons_succ]
                    refine wpAnyH_ready (rs := [10, 11]) (by kernel_rfl) (by simp) ?_
                    refine AllReadyH.cons rfl (fun K hK => ?_) (AllReadyH.cons rfl (fun K hK => ?_) AllReadyH.nil)
                    · skip
                      go_simp
                      have pqa := SpB.new W2
                      have zqa : W2.heap.size < (W2.alloc (.cells #[.int .i64 0, .int .i64 0] 24)).heap.size := by rw [World.size_alloc]; omega
                      have lqa : wr.heap.size ≤ W2.heap.size := hHeld.2.2.2.2.2.2.2.2.size
                      have hb' : Below W2.heap.size W2 (W2.alloc (.cells #[.int .i64 0, .int .i64 0] 24)) := below_alloc _ _
                      obtain ⟨qa, hq⟩ : ∃ q, q = W2.heap.size := ⟨_, rfl⟩
                      obtain ⟨W3, hF⟩ : ∃ F, F = W2.alloc (.cells #[.int .i64 0, .int .i64 0] 24) := ⟨_, rfl⟩
                      rw [← hF, ← hq] at pqa zqa
                      rw [← hq] at lqa
                      rw [← hF] at hb' ⊢
                      rw [← hq]
                      refine hK.out _ _ (⟨keepW hb' hHeld.1, keepW hb' hHeld.2.1, keepW hb' hHeld.2.2.1, keepW hb' hHeld.2.2.2.1, keepW hb' hHeld.2.2.2.2.1, keepW hb' hHeld.2.2.2.2.2.1, keepW hb' hHeld.2.2.2.2.2.2.1, keepW hb' hHeld.2.2.2.2.2.2.2.1, hHeld.2.2.2.2.2.2.2.2.trans (hb'.mono hHeld.2.2.2.2.2.2.2.2.size)⟩) (fun hHeld2 => ?_)
                      clear hK K hHeld hb' hF hq
                      have hHeld := hHeld2
                      clear hHeld2
                      try simp only [Act.put, List.getElem_toArray, List.getElem_cons_zero, List.getElem_cons_succ, List.setIfInBounds_toArray, List.set_cons_zero, List.set_cons_succ]
                      refine wpAnyH_ready (rs := [11]) (by kernel_rfl) (by simp) ?_
                      refine AllReadyH.cons rfl (fun K hK => ?_) AllReadyH.nil
                      go_simp
                      have pqb := SpB.new W3
                      have zqb : W3.heap.size < (W3.alloc (.cells #[.int .i64 0, .int .i64 0] 24)).heap.size := by rw [World.size_alloc]; omega
                      have lqb : wr.heap.size ≤ W3.heap.size := hHeld.2.2.2.2.2.2.2.2.size
                      have hb' : Below W3.heap.size W3 (W3.alloc (.cells #[.int .i64 0, .int .i64 0] 24)) := below_alloc _ _
                      have neab : qa ≠ W3.heap.size := by omega
                      have pqa := pqa.keep hb' zqa
                      have zqa := Nat.lt_of_lt_of_le zqa hb'.size
                      obtain ⟨qb, hq⟩ : ∃ q, q = W3.heap.size := ⟨_, rfl⟩
                      obtain ⟨W4, hF⟩ : ∃ F, F = W3.alloc (.cells #[.int .i64 0, .int .i64 0] 24) := ⟨_, rfl⟩
                      rw [← hF, ← hq] at pqb zqb
                      rw [← hq] at lqb
                      rw [← hq] at neab
                      rw [← hF] at pqa zqa
                      rw [← hF] at hb' ⊢
                      rw [← hq]
                      refine hK.out _ _ (⟨keepW hb' hHeld.1, keepW hb' hHeld.2.1, keepW hb' hHeld.2.2.1, keepW hb' hHeld.2.2.2.1, keepW hb' hHeld.2.2.2.2.1, keepW hb' hHeld.2.2.2.2.2.1, keepW hb' hHeld.2.2.2.2.2.2.1, keepW hb' hHeld.2.2.2.2.2.2.2.1, hHeld.2.2.2.2.2.2.2.2.trans (hb'.mono hHeld.2.2.2.2.2.2.2.2.size)⟩) (fun hHeld2 => ?_)
                      clear hK K hHeld hb' hF hq
                      have hHeld := hHeld2
                      clear hHeld2
                      try simp only [Act.put, List.getElem_toArray, List.getElem_cons_zero, List.getElem_cons_succ, List.setIfInBounds_toArray, List.set_cons_zero, List.set_cons_succ]
                      refine wpAnyH_done (by kernel_rfl) ?_ _
                      change wpList _ _ _ _ _ _
                      simp only [List.drop_succ_cons, List.drop_zero]
                      have HP := Lib.hid (SpV.two pqa pqb zqa zqb (neab) lqa lqb (hHeld.2.2.2.2.2.2.2.2) (rLo (ps i)) (rHi (ps i)) (rLo (ps j)) (rHi (ps j)))
                      obtain ⟨u0, u1, u2, u3⟩ := pqa
                      obtain ⟨o0, o1, o2, o3⟩ := pqb
                      have ne : qa ≠ qb := neab
                      go_wp2_with fail
                      go_meet
                      exact ⟨qa, qb, rfl, rfl, HP.out⟩
                    · skip
                      go_simp
                      have pqb := SpB.new W2
                      have zqb : W2.heap.size < (W2.alloc (.cells #[.int .i64 0, .int .i64 0] 24)).heap.size := by rw [World.size_alloc]; omega
                      have lqb : wr.heap.size ≤ W2.heap.size := hHeld.2.2.2.2.2.2.2.2.size
                      have hb' : Below W2.heap.size W2 (W2.alloc (.cells #[.int .i64 0, .int .i64 0] 24)) := below_alloc _ _
                      obtain ⟨qb, hq⟩ : ∃ q, q = W2.heap.size := ⟨_, rfl⟩
                      obtain ⟨W5, hF⟩ : ∃ F, F = W2.alloc (.cells #[.int .i64 0, .int .i64 0] 24) := ⟨_, rfl⟩
                      rw [← hF, ← hq] at pqb zqb
                      rw [← hq] at lqb
                      rw [← hF] at hb' ⊢
                      rw [← hq]
                      refine hK.out _ _ (⟨keepW hb' hHeld.1, keepW hb' hHeld.2.1, keepW hb' hHeld.2.2.1, keepW hb' hHeld.2.2.2.1, keepW hb' hHeld.2.2.2.2.1, keepW hb' hHeld.2.2.2.2.2.1, keepW hb' hHeld.2.2.2.2.2.2.1, keepW hb' hHeld.2.2.2.2.2.2.2.1, hHeld.2.2.2.2.2.2.2.2.trans (hb'.mono hHeld.2.2.2.2.2.2.2.2.size)⟩) (fun hHeld2 => ?_)
                      clear hK K hHeld hb' hF hq
                      have hHeld := hHeld2
                      clear hHeld2
                      try simp only [Act.put, List.getElem_toArray, List.getElem_cons_zero, List.getElem_cons_succ, List.setIfInBounds_toArray, List.set_cons_zero, List.set_cons_succ]
                      refine wpAnyH_ready (rs := [10]) (by kernel_rfl) (by simp) ?_
                      refine AllReadyH.cons rfl (fun K hK => ?_) AllReadyH.nil
                      go_simp
                      have pqa := SpB.new W5
                      have zqa : W5.heap.size < (W5.alloc (.cells #[.int .i64 0, .int .i64 0] 24)).heap.size := by rw [World.size_alloc]; omega
                      have lqa : wr.heap.size ≤ W5.heap.size := hHeld.2.2.2.2.2.2.2.2.size
                      have hb' : Below W5.heap.size W5 (W5.alloc (.cells #[.int .i64 0, .int .i64 0] 24)) := below_alloc _ _
                      have neba : qb ≠ W5.heap.size := by omega
                      have pqb := pqb.keep hb' zqb
                      have zqb := Nat.lt_of_lt_of_le zqb hb'.size
                      obtain ⟨qa, hq⟩ : ∃ q, q = W5.heap.size := ⟨_, rfl⟩
                      obtain ⟨W6, hF⟩ : ∃ F, F = W5.alloc (.cells #[.int .i64 0, .int .i64 0] 24) := ⟨_, rfl⟩
                      rw [← hF, ← hq] at pqa zqa
                      rw [← hq] at lqa
                      rw [← hq] at neba
                      rw [← hF] at pqb zqb
                      rw [← hF] at hb' ⊢
                      rw [← hq]
                      refine hK.out _ _ (⟨keepW hb' hHeld.1, keepW hb' hHeld.2.1, keepW hb' hHeld.2.2.1, keepW hb' hHeld.2.2.2.1, keepW hb' hHeld.2.2.2.2.1, keepW hb' hHeld.2.2.2.2.2.1, keepW hb' hHeld.2.2.2.2.2.2.1, keepW hb' hHeld.2.2.2.2.2.2.2.1, hHeld.2.2.2.2.2.2.2.2.trans (hb'.mono hHeld.2.2.2.2.2.2.2.2.size)⟩) (fun hHeld2 => ?_)
                      clear hK K hHeld hb' hF hq
                      have hHeld := hHeld2
                      clear hHeld2
                      try simp only [Act.put, List.getElem_toArray, List.getElem_cons_zero, List.getElem_cons_succ, List.setIfInBounds_toArray, List.set_cons_zero, List.set_cons_succ]
                      refine wpAnyH_done (by kernel_rfl) ?_ _
                      change wpList _ _ _ _ _ _
                      simp only [List.drop_succ_cons, List.drop_zero]
                      have HP := Lib.hid (SpV.two pqa pqb zqa zqb (neba.symm) lqa lqb (hHeld.2.2.2.2.2.2.2.2) (rLo (ps i)) (rHi (ps i)) (rLo (ps j)) (rHi (ps j)))
                      obtain ⟨u0, u1, u2, u3⟩ := pqa
                      obtain ⟨o0, o1, o2, o3⟩ := pqb
                      have ne : qa ≠ qb := neba.symm
                      go_wp2_with fail
                      go_meet
                      exact ⟨qa, qb, rfl, rfl, HP.out⟩
                  · skip
                    go_simp
                    have pqa := SpB.new W1
                    have zqa : W1.heap.size < (W1.alloc (.cells #[.int .i64 0, .int .i64 0] 24)).heap.size := by rw [World.size_alloc]; omega
                    have lqa : wr.heap.size ≤ W1.heap.size := hHeld.2.2.2.2.2.2.2.2.size
                    have hb' : Below W1.heap.size W1 (W1.alloc (.cells #[.int .i64 0, .int .i64 0] 24)) := below_alloc _ _
                    obtain ⟨qa, hq⟩ : ∃ q, q = W1.heap.size := ⟨_, rfl⟩
                    obtain ⟨W7, hF⟩ : ∃ F, F = W1.alloc (.cells #[.int .i64 0, .int .i64 0] 24) := ⟨_, rfl⟩
                    rw [← hF, ← hq] at pqa zqa
                    rw [← hq] at lqa
                    rw [← hF] at hb' ⊢
                    rw [← hq]
                    refine hK.out _ _ (⟨keepW hb' hHeld.1, keepW hb' hHeld.2.1, keepW hb' hHeld.2.2.1, keepW hb' hHeld.2.2.2.1, keepW hb' hHeld.2.2.2.2.1, keepW hb' hHeld.2.2.2.2.2.1, keepW hb' hHeld.2.2.2.2.2.2.1, keepW hb' hHeld.2.2.2.2.2.2.2.1, hHeld.2.2.2.2.2.2.2.2.trans (hb'.mono hHeld.2.2.2.2.2.2.2.2.size)⟩) (fun hHeld2 => ?_)
                    clear hK K hHeld hb' hF hq
                    have hHeld := hHeld2
                    clear hHeld2
                    try simp only [Act.put, List.getElem_toArray, List.getElem_cons_zero, List.getElem_cons_succ, List.setIfInBounds_toArray, List.set_cons_zero, List.set_cons_succ]
                    refine wpAnyH_ready (rs := [9, 11]) (by kernel_rfl) (by simp) ?_
                    refine AllReadyH.cons rfl (fun K hK => ?_) (AllReadyH.cons rfl (fun K hK => ?_) AllReadyH.nil)
                    · skip
                      go_simp
                      go_at_call 77; refine (HQj.out _).mono ?_; rintro e' W8 ⟨rfl, hb'⟩
                      have pqa := pqa.keep hb' zqa
                      have zqa := Nat.lt_of_lt_of_le zqa hb'.size
                      refine hK.out _ _ (⟨keepW hb' hHeld.1, keepW hb' hHeld.2.1, keepW hb' hHeld.2.2.1, keepW hb' hHeld.2.2.2.1, keepW hb' hHeld.2.2.2.2.1, keepW hb' hHeld.2.2.2.2.2.1, keepW hb' hHeld.2.2.2.2.2.2.1, keepW hb' hHeld.2.2.2.2.2.2.2.1, hHeld.2.2.2.2.2.2.2.2.trans (hb'.mono hHeld.2.2.2.2.2.2.2.2.size)⟩) (fun hHeld2 => ?_)
                      clear hK K hHeld hb'
                      have hHeld := hHeld2
                      clear hHeld2
                      try simp only [Act.put, List.getElem_toArray, List.getElem_cons_zero, List.getElem_cons_succ, List.setIfInBounds_toArray, List.set_cons_zero, List.set_cons_succ]
                      refine wpAnyH_ready (rs := [11]) (by kernel_rfl) (by simp) ?_
                      refine AllReadyH.cons rfl (fun K hK => ?_) AllReadyH.nil
                      go_simp
                      have pqb := SpB.new W8
                      have zqb : W8.heap.size < (W8.alloc (.cells #[.int .i64 0, .int .i64 0] 24)).heap.size := by rw [World.size_alloc]; omega
                      have lqb : wr.heap.size ≤ W8.heap.size := hHeld.2.2.2.2.2.2.2.2.size
                      have hb' : Below W8.heap.size W8 (W8.alloc (.cells #[.int .i64 0, .int .i64 0] 24)) := below_alloc _ _
                      have neab : qa ≠ W8.heap.size := by omega
                      have pqa := pqa.keep hb' zqa
                      have zqa := Nat.lt_of_lt_of_le zqa hb'.size
                      obtain ⟨qb, hq⟩ : ∃ q, q = W8.heap.size := ⟨_, rfl⟩
                      obtain ⟨W9, hF⟩ : ∃ F, F = W8.alloc (.cells #[.int .i64 0, .int .i64 0] 24) := ⟨_, rfl⟩
                      rw [← hF, ← hq] at pqb zqb
                      rw [← hq] at lqb
                      rw [← hq] at neab
                      rw [← hF] at pqa zqa
                      rw [← hF] at hb' ⊢
                      rw [← hq]
                      refine hK.out _ _ (⟨keepW hb' hHeld.1, keepW hb' hHeld.2.1, keepW hb' hHeld.2.2.1, keepW hb' hHeld.2.2.2.1, keepW hb' hHeld.2.2.2.2.1, keepW hb' hHeld.2.2.2.2.2.1, keepW hb' hHeld.2.2.2.2.2.2.1, keepW hb' hHeld.2.2.2.2.2.2.2.1, hHeld.2.2.2.2.2.2.2.2.trans (hb'.mono hHeld.2.2.2.2.2.2.2.2.size)⟩) (fun hHeld2 => ?_)
                      clear hK K hHeld hb' hF hq
                      have hHeld := hHeld2
                      clear hHeld2
                      try simp only [Act.put, List.getElem_toArray, List.getElem_cons_zero, List.getElem_cons_succ, List.setIfInBounds_toArray, List.set_cons_zero, List.set_cons_succ]
                      refine wpAnyH_done (by kernel_rfl) ?_ _
                      change wpList _ _ _ _ _ _
                      simp only [List.drop_succ_cons, List.drop_zero]
                      have HP := Lib.hid (SpV.two pqa pqb zqa zqb (neab) lqa lqb (hHeld.2.2.2.2.2.2.2.2) (rLo (ps i)) (rHi (ps i)) (rLo (ps j)) (rHi (ps j)))
                      obtain ⟨u0, u1, u2, u3⟩ := pqa
                      obtain ⟨o0, o1, o2, o3⟩ := pqb
                      have ne : qa ≠ qb := neab
                      go_wp2_with fail
                      go_meet
                      exact ⟨qa, qb, rfl, rfl, HP.out⟩
                    · skip
                      go_simp
                      have pqb := SpB.new W7
                      have zqb : W7.heap.size < (W7.alloc (.cells #[.int .i64 0, .int .i64 0] 24)).heap.size := by rw [World.size_alloc]; omega
                      have lqb : wr.heap.size ≤ W7.heap.size := hHeld.2.2.2.2.2.2.2.2.size
                      have hb' : Below W7.heap.size W7 (W7.alloc (.cells #[.int .i64 0, .int .i64 0] 24)) := below_alloc _ _
                      have neab : qa ≠ W7.heap.size := by omega
                      have pqa := pqa.keep hb' zqa
                      have zqa := Nat.lt_of_lt_of_le zqa hb'.size
                      obtain ⟨qb, hq⟩ : ∃ q, q = W7.heap.size := ⟨_, rfl⟩
                      obtain ⟨W10, hF⟩ : ∃ F, F = W7.alloc (.cells #[.int .i64 0, .int .i64 0] 24) := ⟨_, rfl⟩
                      rw [← hF, ← hq] at pqb zqb
                      rw [← hq] at lqb
                      rw [← hq] at neab
                      rw [← hF] at pqa zqa
                      rw [← hF] at hb' ⊢
                      rw [← hq]
                      refine hK.out _ _ (⟨keepW hb' hHeld.1, keepW hb' hHeld.2.1, keepW hb' hHeld.2.2.1, keepW hb' hHeld.2.2.2.1, keepW hb' hHeld.2.2.2.2.1, keepW hb' hHeld.2.2.2.2.2.1, keepW hb' hHeld.2.2.2.2.2.2.1, keepW hb' hHeld.2.2.2.2.2.2.2.1, hHeld.2.2.2.2.2.2.2.2.trans (hb'.mono hHeld.2.2.2.2.2.2.2.2.size)⟩) (fun hHeld2 => ?_)
                      clear hK K hHeld hb' hF hq
                      have hHeld := hHeld2
                      clear hHeld2
                      try simp only [Act.put, List.getElem_toArray, List.getElem_cons_zero, List.getElem_cons_succ, List.setIfInBounds_toArray, List.set_cons_zero, List.set_cons_succ]
                      refine wpAnyH_ready (rs := [9]) (by kernel_rfl) (by simp) ?_
                      refine AllReadyH.cons rfl (fun K hK => ?_) AllReadyH.nil
                      go_simp
                      go_at_call 77; refine (HQj.out _).mono ?_; rintro e' W11 ⟨rfl, hb'⟩
                      have pqa := pqa.keep hb' zqa
                      have zqa := Nat.lt_of_lt_of_le zqa hb'.size
                      have pqb := pqb.keep hb' zqb
                      have zqb := Nat.lt_of_lt_of_le zqb hb'.size
                      refine hK.out _ _ (⟨keepW hb' hHeld.1, keepW hb' hHeld.2.1, keepW hb' hHeld.2.2.1, keepW hb' hHeld.2.2.2.1, keepW hb' hHeld.2.2.2.2.1, keepW hb' hHeld.2.2.2.2.2.1, keepW hb' hHeld.2.2.2.2.2.2.1, keepW hb' hHeld.2.2.2.2.2.2.2.1, hHeld.2.2.2.2.2.2.2.2.trans (hb'.mono hHeld.2.2.2.2.2.2.2.2.size)⟩) (fun hHeld2 => ?_)
                      clear hK K hHeld hb'
                      have hHeld := hHeld2
                      clear hHeld2
                      try simp only [Act.put, List.getElem_toArray, List.getElem_cons_zero, List.getElem_cons_succ, List.setIfInBounds_toArray, List.set_cons_zero, List.set_cons_succ]
                      refine wpAnyH_done (by kernel_rfl) ?_ _
                      change wpList _ _ _ _ _ _
                      simp only [List.drop_succ_cons, List.drop_zero]
                      have HP := Lib.hid (SpV.two pqa pqb zqa zqb (neab) lqa lqb (hHeld.2.2.2.2.2.2.2.2) (rLo (ps i)) (rHi (ps i)) (rLo (ps j)) (rHi (ps j)))
                      obtain ⟨u0, u1, u2, u3⟩ := pqa
                      obtain ⟨o0, o1, o2, o3⟩ := pqb
                      have ne : qa ≠ qb := neab
                      go_wp2_with fail
                      go_meet
                      exact ⟨qa, qb, rfl, rfl, HP.out⟩
                  · skip
                    go_simp
                    have pqb := SpB.new W1
                    have zqb : W1.heap.size < (W1.alloc (.cells #[.int .i64 0, .int .i64 0] 24)).heap.size := by rw [World.size_alloc]; omega
                    have lqb : wr.heap.size ≤ W1.heap.size := hHeld.2.2.2.2.2.2.2.2.size
                    have hb' : Below W1.heap.size W1 (W1.alloc (.cells #[.int .i64 0, .int .i64 0] 24)) := below_alloc _ _
                    obtain ⟨qb, hq⟩ : ∃ q, q = W1.heap.size := ⟨_, rfl⟩
                    obtain ⟨W12, hF⟩ : ∃ F, F = W1.alloc (.cells #[.int .i64 0, .int .i64 0] 24) := ⟨_, rfl⟩
                    rw [← hF, ← hq] at pqb zqb
                    rw [← hq] at lqb
                    rw [← hF] at hb' ⊢
                    rw [← hq]
                    refine hK.out _ _ (⟨keepW hb' hHeld.1, keepW hb' hHeld.2.1, keepW hb' hHeld.2.2.1, keepW hb' hHeld.2.2.2.1, keepW hb' hHeld.2.2.2.2.1, keepW hb' hHeld.2.2.2.2.2.1, keepW hb' hHeld.2.2.2.2.2.2.1, keepW hb' hHeld.2.2.2.2.2.2.2.1, hHeld.2.2.2.2.2.2.2.2.trans (hb'.mono hHeld.2.2.2.2.2.2.2.2.size)⟩) (fun hHeld2 => ?_)
                    clear hK K hHeld hb' hF hq
                    have hHeld := hHeld2
                    clear hHeld2
                    try simp only [Act.put, List.getElem_toArray, List.getElem_cons_zero, List.getElem_cons_succ, List.setIfInBounds_toArray, List.set_cons_zero, List.set_cons_succ]
                    refine wpAnyH_ready (rs := [9, 10]) (by kernel_rfl) (by simp) ?_
                    refine AllReadyH.cons rfl (fun K hK => ?_) (AllReadyH.cons rfl (fun K hK => ?_) AllReadyH.nil)
                    · skip
                      go_simp
                      go_at_call 77; refine (HQj.out _).mono ?_; rintro e' W13 ⟨rfl, hb'⟩
                      have pqb := pqb.keep hb' zqb
                      have zqb := Nat.lt_of_lt_of_le zqb hb'.size
                      refine hK.out _ _ (⟨keepW hb' hHeld.1, keepW hb' hHeld.2.1, keepW hb' hHeld.2.2.1, keepW hb' hHeld.2.2.2.1, keepW hb' hHeld.2.2.2.2.1, keepW hb' hHeld.2.2.2.2.2.1, keepW hb' hHeld.2.2.2.2.2.2.1, keepW hb' hHeld.2.2.2.2.2.2.2.1, hHeld.2.2.2.2.2.2.2.2.trans (hb'.mono hHeld.2.2.2.2.2.2.2.2.size)⟩) (fun hHeld2 => ?_)
                      clear hK K hHeld hb'
                      have hHeld := hHeld2
                      clear hHeld2
                      try simp only [Act.put, List.getElem_toArray, List.getElem_cons_zero, List.getElem_cons_succ, List.setIfInBounds_toArray, List.set_cons_zero, List.set_cons_succ]
                      refine wpAnyH_ready (rs := [10]) (by kernel_rfl) (by simp) ?_
                      refine AllReadyH.cons rfl (fun K hK => ?_) AllReadyH.nil
                      go_simp
                      have pqa := SpB.new W13
                      have zqa : W13.heap.size < (W13.alloc (.cells #[.int .i64 0, .int .i64 0] 24)).heap.size := by rw [World.size_alloc]; omega
                      have lqa : wr.heap.size ≤ W13.heap.size := hHeld.2.2.2.2.2.2.2.2.size
                      have hb' : Below W13.heap.size W13 (W13.alloc (.cells #[.int .i64 0, .int .i64 0] 24)) := below_alloc _ _
                      have neba : qb ≠ W13.heap.size := by omega
                      have pqb := pqb.keep hb' zqb
                      have zqb := Nat.lt_of_lt_of_le zqb hb'.size
                      obtain ⟨qa, hq⟩ : ∃ q, q = W13.heap.size := ⟨_, rfl⟩
                      obtain ⟨W14, hF⟩ : ∃ F, F = W13.alloc (.cells #[.int .i64 0, .int .i64 0] 24) := ⟨_, rfl⟩
                      rw [← hF, ← hq] at pqa zqa
                      rw [← hq] at lqa
                      rw [← hq] at neba
                      rw [← hF] at pqb zqb
                      rw [← hF] at hb' ⊢
                      rw [← hq]
                      refine hK.out _ _ (⟨keepW hb' hHeld.1, keepW hb' hHeld.2.1, keepW hb' hHeld.2.2.1, keepW hb' hHeld.2.2.2.1, keepW hb' hHeld.2.2.2.2.1, keepW hb' hHeld.2.2.2.2.2.1, keepW hb' hHeld.2.2.2.2.2.2.1, keepW hb' hHeld.2.2.2.2.2.2.2.1, hHeld.2.2.2.2.2.2.2.2.trans (hb'.mono hHeld.2.2.2.2.2.2.2.2.size)⟩) (fun hHeld2 => ?_)
                      clear hK K hHeld hb' hF hq
                      have hHeld := hHeld2
                      clear hHeld2
                      try simp only [Act.put, List.getElem_toArray, List.getElem_cons_zero, List.getElem_cons_succ, List.setIfInBounds_toArray, List.set_cons_zero, List.set_cons_succ]
                      refine wpAnyH_done (by kernel_rfl) ?_ _
                      change wpList _ _ _ _ _ _
                      simp only [List.drop_succ_cons, List.drop_zero]
                      have HP := Lib.hid (SpV.two pqa pqb zqa zqb (neba.symm) lqa lqb (hHeld.2.2.2.2.2.2.2.2) (rLo (ps i)) (rHi (ps i)) (rLo (ps j)) (rHi (ps j)))
                      obtain ⟨u0, u1, u2, u3⟩ := pqa
                      obtain ⟨o0, o1, o2, o3⟩ := pqb
                      have ne : qa ≠ qb := neba.symm
                      go_wp2_with fail
                      go_meet
                      exact ⟨qa, qb, rfl, rfl, HP.out⟩
                    · skip
                      go_simp
                      have pqa := SpB.new W12
                      have zqa : W12.heap.size < (W12.alloc (.cells #[.int .i64 0, .int .i64 0] 24)).heap.size := by rw [World.size_alloc]; omega
                      have lqa : wr.heap.size ≤ W12.heap.size := hHeld.2.2.2.2.2.2.2.2.size
                      have hb' : Below W12.heap.size W12 (W12.alloc (.cells #[.int .i64 0, .int .i64 0] 24)) := below_alloc _ _
                      have neba : qb ≠ W12.heap.size := by omega
                      have pqb := pqb.keep hb' zqb
                      have zqb := Nat.lt_of_lt_of_le zqb hb'.size
                      obtain ⟨qa, hq⟩ : ∃ q, q = W12.heap.size := ⟨_, rfl⟩
                      obtain ⟨W15, hF⟩ : ∃ F, F = W12.alloc (.cells #[.int .i64 0, .int .i64 0] 24) := ⟨_, rfl⟩
                      rw [← hF, ← hq] at pqa zqa
                      rw [← hq] at lqa
                      rw [← hq] at neba
                      rw [← hF] at pqb zqb
                      rw [← hF] at hb' ⊢
                      rw [← hq]
                      refine hK.out _ _ (⟨keepW hb' hHeld.1, keepW hb' hHeld.2.1, keepW hb' hHeld.2.2.1, keepW hb' hHeld.2.2.2.1, keepW hb' hHeld.2.2.2.2.1, keepW hb' hHeld.2.2.2.2.2.1, keepW hb' hHeld.2.2.2.2.2.2.1, keepW hb' hHeld.2.2.2.2.2.2.2.1, hHeld.2.2.2.2.2.2.2.2.trans (hb'.mono hHeld.2.2.2.2.2.2.2.2.size)⟩) (fun hHeld2 => ?_)
                      clear hK K hHeld hb' hF hq
                      have hHeld := hHeld2
                      clear hHeld2
                      try simp only [Act.put, List.getElem_toArray, List.getElem_cons_zero, List.getElem_cons_succ, List.setIfInBounds_toArray, List.set_cons_zero, List.set_cons_succ]
                      refine wpAnyH_ready (rs := [9]) (by kernel_rfl) (by simp) ?_
                      refine AllReadyH.cons rfl (fun K hK => ?_) AllReadyH.nil
                      go_simp
                      go_at_call 77; refine (HQj.out _).mono ?_; rintro e' W16 ⟨rfl, hb'⟩
                      have pqb := pqb.keep hb' zqb
                      have zqb := Nat.lt_of_lt_of_le zqb hb'.size
                      have pqa := pqa.keep hb' zqa
                      have zqa := Nat.lt_of_lt_of_le zqa hb'.size
                      refine hK.out _ _ (⟨keepW hb' hHeld.1, keepW hb' hHeld.2.1, keepW hb' hHeld.2.2.1, keepW hb' hHeld.2.2.2.1, keepW hb' hHeld.2.2.2.2.1, keepW hb' hHeld.2.2.2.2.2.1, keepW hb' hHeld.2.2.2.2.2.2.1, keepW hb' hHeld.2.2.2.2.2.2.2.1, hHeld.2.2.2.2.2.2.2.2.trans (hb'.mono hHeld.2.2.2.2.2.2.2.2.size)⟩) (fun hHeld2 => ?_)
                      clear hK K hHeld hb'
                      have hHeld := hHeld2
                      clear hHeld2
                      try simp only [Act.put, List.getElem_toArray, List.getElem_cons_zero, List.getElem_cons_succ, List.setIfInBounds_toArray, List.set_cons_zero, List.set_cons_succ]
                      refine wpAnyH_done (by kernel_rfl) ?_ _
                      change wpList _ _ _ _ _ _
                      simp only [List.drop_succ_cons, List.drop_zero]
                      have HP := Lib.hid (SpV.two pqa pqb zqa zqb (neba.symm) lqa lqb (hHeld.2.2.2.2.2.2.2.2) (rLo (ps i)) (rHi (ps i)) (rLo (ps j)) (rHi (ps j)))
                      obtain ⟨u0, u1, u2, u3⟩ := pqa
                      obtain ⟨o0, o1, o2, o3⟩ := pqb
                      have ne : qa ≠ qb := neba.symm
                      go_wp2_with fail
                      go_meet
                      exact ⟨qa, qb, rfl, rfl, HP.out⟩
                · skip
                  go_simp
                  have pqa := SpB.new D
                  have zqa : D.heap.size < (D.alloc (.cells #[.int .i64 0, .int .i64 0] 24)).heap.size := by rw [World.size_alloc]; omega
                  have lqa : wr.heap.size ≤ D.heap.size := hHeld.2.2.2.2.2.2.2.2.size
                  have hb' : Below D.heap.size D (D.alloc (.cells #[.int .i64 0, .int .i64 0] 24)) := below_alloc _ _
                  obtain ⟨qa, hq⟩ : ∃ q, q = D.heap.size := ⟨_, rfl⟩
                  obtain ⟨W17, hF⟩ : ∃ F, F = D.alloc (.cells #[.int .i64 0, .int .i64 0] 24) := ⟨_, rfl⟩
                  rw [← hF, ← hq] at pqa zqa
                  rw [← hq] at lqa
                  rw [← hF] at hb' ⊢
                  rw [← hq]
                  refine hK.out _ _ (⟨keepW hb' hHeld.1, keepW hb' hHeld.2.1, keepW hb' hHeld.2.2.1, keepW hb' hHeld.2.2.2.1, keepW hb' hHeld.2.2.2.2.1, keepW hb' hHeld.2.2.2.2.2.1, keepW hb' hHeld.2.2.2.2.2.2.1, keepW hb' hHeld.2.2.2.2.2.2.2.1, hHeld.2.2.2.2.2.2.2.2.trans (hb'.mono hHeld.2.2.2.2.2.2.2.2.size)⟩) (fun hHeld2 => ?_)
                  clear hK K hHeld hb' hF hq
                  have hHeld := hHeld2
                  clear hHeld2
                  try simp only [Act.put, List.getElem_toArray, List.getElem_cons_zero, List.getElem_cons_succ, List.setIfInBounds_toArray, List.set_cons_zero, List.set_cons_succ]
                  refine wpAnyH_ready (rs := [4, 11]) (by kernel_rfl) (by simp) ?_
                  refine AllReadyH.cons rfl (fun K hK => ?_) (AllReadyH.cons rfl (fun K hK => ?_) AllReadyH.nil)
                  · skip
                    go_simp
                    go_at_call 77; refine (HQi.out _).mono ?_; rintro e' W18 ⟨rfl, hb'⟩
                    have pqa := pqa.keep hb' zqa
                    have zqa := Nat.lt_of_lt_of_le zqa hb'.size
                    refine hK.out _ _ (⟨keepW hb' hHeld.1, keepW hb' hHeld.2.1, keepW hb' hHeld.2.2.1, keepW hb' hHeld.2.2.2.1, keepW hb' hHeld.2.2.2.2.1, keepW hb' hHeld.2.2.2.2.2.1, keepW hb' hHeld.2.2.2.2.2.2.1, keepW hb' hHeld.2.2.2.2.2.2.2.1, hHeld.2.2.2.2.2.2.2.2.trans (hb'.mono hHeld.2.2.2.2.2.2.2.2.size)⟩) (fun hHeld2 => ?_)
                    clear hK K hHeld hb'
                    have hHeld := hHeld2
                    clear hHeld2
                    try simp only [Act.put, List.getElem_toArray, List.getElem_cons_zero, List.getElem_cons_succ, List.setIfInBounds_toArray, List.set_cons_zero, List.set_cons_succ]
                    refine wpAnyH_ready (rs := [9, 11]) (by kernel_rfl) (by simp) ?_
                    refine AllReadyH.cons rfl (fun K hK => ?_) (AllReadyH.cons rfl (fun K hK => ?_) AllReadyH.nil)
                    · skip
                      go_simp
                      go_at_call 77; refine (HQj.out _).mono ?_; rintro e' W19 ⟨rfl, hb'⟩
                      have pqa := pqa.keep hb' zqa
                      have zqa := Nat.lt_of_lt_of_le zqa hb'.size
                      refine hK.out _ _ (⟨keepW hb' hHeld.1, keepW hb' hHeld.2.1, keepW hb' hHeld.2.2.1, keepW hb' hHeld.2.2.2.1, keepW hb' hHeld.2.2.2.2.1, keepW hb' hHeld.2.2.2.2.2.1, keepW hb' hHeld.2.2.2.2.2.2.1, keepW hb' hHeld.2.2.2.2.2.2.2.1, hHeld.2.2.2.2.2.2.2.2.trans (hb'.mono hHeld.2.2.2.2.2.2.2.2.size)⟩) (fun hHeld2 => ?_)
                      clear hK K hHeld hb'
                      have hHeld := hHeld2
                      clear hHeld2
                      try simp only [Act.put, List.getElem_toArray, List.getElem_cons_zero, List.getElem_cons_succ, List.setIfInBounds_toArray, List.set_cons_zero, List.set_cons_succ]
                      refine wpAnyH_ready (rs := [11]) (by kernel_rfl) (by simp) ?_
                      refine AllReadyH.cons rfl (fun K hK => ?_) AllReadyH.nil
                      go_simp
                      have pqb := SpB.new W19
                      have zqb : W19.heap.size < (W19.alloc (.cells #[.int .i64 0, .int .i64 0] 24)).heap.size := by rw [World.size_alloc]; omega
                      have lqb : wr.heap.size ≤ W19.heap.size := hHeld.2.2.2.2.2.2.2.2.size
                      have hb' : Below W19.heap.size W19 (W19.alloc (.cells #[.int .i64 0, .int .i64 0] 24)) := below_alloc _ _
                      have neab : qa ≠ W19.heap.size := by omega
                      have pqa := pqa.keep hb' zqa
                      have zqa := Nat.lt_of_lt_of_le zqa hb'.size
                      obtain ⟨qb, hq⟩ : ∃ q, q = W19.heap.size := ⟨_, rfl⟩
                      obtain ⟨W20, hF⟩ : ∃ F, F = W19.alloc (.cells #[.int .i64 0, .int .i64 0] 24) := ⟨_, rfl⟩
                      rw [← hF, ← hq] at pqb zqb
                      rw [← hq] at lqb
                      rw [← hq] at neab
                      rw [← hF] at pqa zqa
                      rw [← hF] at hb' ⊢
                      rw [← hq]
                      refine hK.out _ _ (⟨keepW hb' hHeld.1, keepW hb' hHeld.2.1, keepW hb' hHeld.2.2.1, keepW hb' hHeld.2.2.2.1, keepW hb' hHeld.2.2.2.2.1, keepW hb' hHeld.2.2.2.2.2.1, keepW hb' hHeld.2.2.2.2.2.2.1, keepW hb' hHeld.2.2.2.2.2.2.2.1, hHeld.2.2.2.2.2.2.2.2.trans (hb'.mono hHeld.2.2.2.2.2.2.2.2.size)⟩) (fun hHeld2 => ?_)
                      clear hK K hHeld hb' hF hq
                      have hHeld := hHeld2
                      clear hHeld2
                      try simp only [Act.put, List.getElem_toArray, List.getElem_cons_zero, List.getElem_cons_succ, List.setIfInBounds_toArray, List.set_cons_zero, List.set_cons_succ]
                      refine wpAnyH_done (by kernel_rfl) ?_ _
                      change wpList _ _ _ _ _ _
                      simp only [List.drop_succ_cons, List.drop_zero]
                      have HP := Lib.hid (SpV.two pqa pqb zqa zqb (neab) lqa lqb (hHeld.2.2.2.2.2.2.2.2) (rLo (ps i)) (rHi (ps i)) (rLo (ps j)) (rHi (ps j)))
                      obtain ⟨u0, u1, u2, u3⟩ := pqa
                      obtain ⟨o0, o1, o2, o3⟩ := pqb
                      have ne : qa ≠ qb := neab
                      go_wp2_with fail
                      go_meet
                      exact ⟨qa, qb, rfl, rfl, HP.out⟩
                    · skip
                      go_simp
                      have pqb := SpB.new W18
                      have zqb : W18.heap.size < (W18.alloc (.cells #[.int .i64 0, .int .i64 0] 24)).heap.size := by rw [World.size_alloc]; omega
                      have lqb : wr.heap.size ≤ W18.heap.size := hHeld.2.2.2.2.2.2.2.2.size
                      have hb' : Below W18.heap.size W18 (W18.alloc (.cells #[.int .i64 0, .int .i64 0] 24)) := below_alloc _ _
                      have neab : qa ≠ W18.heap.size := by omega
                      have pqa := pqa.keep hb' zqa
                      have zqa := Nat.lt_of_lt_of_le zqa hb'.size
                      obtain ⟨qb, hq⟩ : ∃ q, q = W18.heap.size := ⟨_, rfl⟩
                      obtain ⟨W21, hF⟩ : ∃ F, F = W18.alloc (.cells #[.int .i64 0, .int .i64 0] 24) := ⟨_, rfl⟩
                      rw [← hF, ← hq] at pqb zqb
                      rw [← hq] at lqb
                      rw [← hq] at neab
                      rw [← hF] at pqa zqa
                      rw [← hF] at hb' ⊢
                      rw [← hq]
                      refine hK.out _ _ (⟨keepW hb' hHeld.1, keepW hb' hHeld.2.1, keepW hb' hHeld.2.2.1, keepW hb' hHeld.2.2.2.1, keepW hb' hHeld.2.2.2.2.1, keepW hb' hHeld.2.2.2.2.2.1, keepW hb' hHeld.2.2.2.2.2.2.1, keepW hb' hHeld.2.2.2.2.2.2.2.1, hHeld.2.2.2.2.2.2.2.2.trans (hb'.mono hHeld.2.2.2.2.2.2.2.2.size)⟩) (fun hHeld2 => ?_)
                      clear hK K hHeld hb' hF hq
                      have hHeld := hHeld2
                      clear hHeld2
                      try simp only [Act.put, List.getElem_toArray, List.getElem_cons_zero, List.getElem_cons_succ, List.setIfInBounds_toArray, List.set_cons_zero, List.set_cons_succ]
                      refine wpAnyH_ready (rs := [9]) (by kernel_rfl) (by simp) ?_
                      refine AllReadyH.cons rfl (fun K hK => ?_) AllReadyH.nil
                      go_simp
                      go_at_call 77; refine (HQj.out _).mono ?_; rintro e' W22 ⟨rfl, hb'⟩
                      have pqa := pqa.keep hb' zqa
                      have zqa := Nat.lt_of_lt_of_le zqa hb'.size
                      have pqb := pqb.keep hb' zqb
                      have zqb := Nat.lt_of_lt_of_le zqb hb'.size
                      refine hK.out _ _ (⟨keepW hb' hHeld.1, keepW hb' hHeld.2.1, keepW hb' hHeld.2.2.1, keepW hb' hHeld.2.2.2.1, keepW hb' hHeld.2.2.2.2.1, keepW hb' hHeld.2.2.2.2.2.1, keepW hb' hHeld.2.2.2.2.2.2.1, keepW hb' hHeld.2.2.2.2.2.2.2.1, hHeld.2.2.2.2.2.2.2.2.trans (hb'.mono hHeld.2.2.2.2.2.2.2.2.size)⟩) (fun hHeld2 => ?_)
                      clear hK K hHeld hb'
                      have hHeld := hHeld2
                      clear hHeld2
                      try simp only [Act.put, List.getElem_toArray, List.getElem_cons_zero, List.getElem_cons_succ, List.setIfInBounds_toArray, List.set_cons_zero, List.set_cons_succ]
                      refine wpAnyH_done (by kernel_rfl) ?_ _
                      change wpList _ _ _ _ _ _
                      simp only [List.drop_succ_cons, List.drop_zero]
                      have HP := Lib.hid (SpV.two pqa pqb zqa zqb (neab) lqa lqb (hHeld.2.2.2.2.2.2.2.2) (rLo (ps i)) (rHi (ps i)) (rLo (ps j)) (rHi (ps j)))
                      obtain ⟨u0, u1, u2, u3⟩ := pqa
                      obtain ⟨o0, o1, o2, o3⟩ := pqb
                      have ne : qa ≠ qb := neab
                      go_wp2_with fail
                      go_meet
                      exact ⟨qa, qb, rfl, rfl, HP.out⟩
                  · skip
                    go_simp
                    have pqb := SpB.new W17
                    have zqb : W17.heap.size < (W17.alloc (.cells #[.int .i64 0, .int .i64 0] 24)).heap.size := by rw [World.size_alloc]; omega
                    have lqb : wr.heap.size ≤ W17.heap.size := hHeld.2.2.2.2.2.2.2.2.size
                    have hb' : Below W17.heap.size W17 (W17.alloc (.cells #[.int .i64 0, .int .i64 0] 24)) := below_alloc _ _
                    have neab : qa ≠ W17.heap.size := by omega
                    have pqa := pqa.keep hb' zqa
                    have zqa := Nat.lt_of_lt_of_le zqa hb'.size
                    obtain ⟨qb, hq⟩ : ∃ q, q = W17.heap.size := ⟨_, rfl⟩
                    obtain ⟨W23, hF⟩ : ∃ F, F = W17.alloc (.cells #[.int .i64 0, .int .i64 0] 24) := ⟨_, rfl⟩
                    rw [← hF, ← hq] at pqb zqb
                    rw [← hq] at lqb
                    rw [← hq] at neab
                    rw [← hF] at pqa zqa
                    rw [← hF] at hb' ⊢
                    rw [← hq]
                    refine hK.out _ _ (⟨keepW hb' hHeld.1, keepW hb' hHeld.2.1, keepW hb' hHeld.2.2.1, keepW hb' hHeld.2.2.2.1, keepW hb' hHeld.2.2.2.2.1, keepW hb' hHeld.2.2.2.2.2.1, keepW hb' hHeld.2.2.2.2.2.2.1, keepW hb' hHeld.2.2.2.2.2.2.2.1, hHeld.2.2.2.2.2.2.2.2.trans (hb'.mono hHeld.2.2.2.2.2.2.2.2.size)⟩) (fun hHeld2 => ?_)
                    clear hK K hHeld hb' hF hq
                    have hHeld := hHeld2
                    clear hHeld2
                    try simp only [Act.put, List.getElem_toArray, List.getElem_cons_zero, List.getElem_cons_succ, List.setIfInBounds_toArray, List.set_cons_zero, List.set_cons_succ]
                    refine wpAnyH_ready (rs := [4]) (by kernel_rfl) (by simp) ?_
                    refine AllReadyH.cons rfl (fun K hK => ?_) AllReadyH.nil
                    go_simp
                    go_at_call 77; refine (HQi.out _).mono ?_; rintro e' W24 ⟨rfl, hb'⟩
                    have pqa := pqa.keep hb' zqa
                    have zqa := Nat.lt_of_lt_of_le zqa hb'.size
                    have pqb := pqb.keep hb' zqb
                    have zqb := Nat.lt_of_lt_of_le zqb hb'.size
                    refine hK.out _ _ (⟨keepW hb' hHeld.1, keepW hb' hHeld.2.1, keepW hb' hHeld.2.2.1, keepW hb' hHeld.2.2.2.1, keepW hb' hHeld.2.2.2.2.1, keepW hb' hHeld.2.2.2.2.2.1, keepW hb' hHeld.2.2.2.2.2.2.1, keepW hb' hHeld.2.2.2.2.2.2.2.1, hHeld.2.2.2.2.2.2.2.2.trans (hb'.mono hHeld.2.2.2.2.2.2.2.2.size)⟩) (fun hHeld2 => ?_)
                    clear hK K hHeld hb'
                    have hHeld := hHeld2
                    clear hHeld2
                    try simp only [Act.put, List.getElem_toArray, List.getElem_cons_zero, List.getElem_cons_succ, List.setIfInBounds_toArray, List.set_cons_zero, List.set_cons_succ]
                    refine wpAnyH_ready (rs := [9]) (by kernel_rfl) (by simp) ?_
                    refine AllReadyH.cons rfl (fun K hK => ?_) AllReadyH.nil
                    go_simp
                    go_at_call 77; refine (HQj.out _).mono ?_; rintro e' W25 ⟨rfl, hb'⟩
                    have pqa := pqa.keep hb' zqa
                    have zqa := Nat.lt_of_lt_of_le zqa hb'.size
                    have pqb := pqb.keep hb' zqb
                    have zqb := Nat.lt_of_lt_of_le zqb hb'.size
                    refine hK.out _ _ (⟨keepW hb' hHeld.1, keepW hb' hHeld.2.1, keepW hb' hHeld.2.2.1, keepW hb' hHeld.2.2.2.1, keepW hb' hHeld.2.2.2.2.1, keepW hb' hHeld.2.2.2.2.2.1, keepW hb' hHeld.2.2.2.2.2.2.1, keepW hb' hHeld.2.2.2.2.2.2.2.1, hHeld.2.2.2.2.2.2.2.2.trans (hb'.mono hHeld.2.2.2.2.2.2.2.2.size)⟩) (fun hHeld2 => ?_)
                    clear hK K hHeld hb'
                    have hHeld := hHeld2
                    clear hHeld2
                    try simp only [Act.put, List.getElem_toArray, List.getElem_cons_zero, List.getElem_cons_succ, List.setIfInBounds_toArray, List.set_cons_zero, List.set_cons_succ]
                    refine wpAnyH_done (by kernel_rfl) ?_ _
                    change wpList _ _ _ _ _ _
                    simp only [List.drop_succ_cons, List.drop_zero]
                    have HP := Lib.hid (SpV.two pqa pqb zqa zqb (neab) lqa lqb (hHeld.2.2.2.2.2.2.2.2) (rLo (ps i)) (rHi (ps i)) (rLo (ps j)) (rHi (ps j)))
                    obtain ⟨u0, u1, u2, u3⟩ := pqa
                    obtain ⟨o0, o1, o2, o3⟩ := pqb
                    have ne : qa ≠ qb := neab
                    go_wp2_with fail
                    go_meet
                    exact ⟨qa, qb, rfl, rfl, HP.out⟩
                · skip
                  go_simp
                  have pqb := SpB.new D
                  have zqb : D.heap.size < (D.alloc (.cells #[.int .i64 0, .int .i64 0] 24)).heap.size := by rw [World.size_alloc]; omega
                  have lqb : wr.heap.size ≤ D.heap.size := hHeld.2.2.2.2.2.2.2.2.size
                  have hb' : Below D.heap.size D (D.alloc (.cells #[.int .i64 0, .int .i64 0] 24)) := below_alloc _ _
                  obtain ⟨qb, hq⟩ : ∃ q, q = D.heap.size := ⟨_, rfl⟩
                  obtain ⟨W26, hF⟩ : ∃ F, F = D.alloc (.cells #[.int .i64 0, .int .i64 0] 24) := ⟨_, rfl⟩
                  rw [← hF, ← hq] at pqb zqb
                  rw [← hq] at lqb
                  rw [← hF] at hb' ⊢
                  rw [← hq]
                  refine hK.out _ _ (⟨keepW hb' hHeld.1, keepW hb' hHeld.2.1, keepW hb' hHeld.2.2.1, keepW hb' hHeld.2.2.2.1, keepW hb' hHeld.2.2.2.2.1, keepW hb' hHeld.2.2.2.2.2.1, keepW hb' hHeld.2.2.2.2.2.2.1, keepW hb' hHeld.2.2.2.2.2.2.2.1, hHeld.2.2.2.2.2.2.2.2.trans (hb'.mono hHeld.2.2.2.2.2.2.2.2.size)⟩) (fun hHeld2 => ?_)
                  clear hK K hHeld hb' hF hq
                  have hHeld := hHeld2
                  clear hHeld2
                  try simp only [Act.put, List.getElem_toArray, List.getElem_cons_zero, List.getElem_cons_succ, List.setIfInBounds_toArray, List.set_cons_zero, List.set_cons_succ]
                  refine wpAnyH_ready (rs := [4, 10]) (by kernel_rfl) (by simp) ?_
                  refine AllReadyH.cons rfl (fun K hK => ?_) (AllReadyH.cons rfl (fun K hK => ?_) AllReadyH.nil)
                  · skip
                    go_simp
                    go_at_call 77; refine (HQi.out _).mono ?_; rintro e' W27 ⟨rfl, hb'⟩
                    have pqb := pqb.keep hb' zqb
                    have zqb := Nat.lt_of_lt_of_le zqb hb'.size
                    refine hK.out _ _ (⟨keepW hb' hHeld.1, keepW hb' hHeld.2.1, keepW hb' hHeld.2.2.1, keepW hb' hHeld.2.2.2.1, keepW hb' hHeld.2.2.2.2.1, keepW hb' hHeld.2.2.2.2.2.1, keepW hb' hHeld.2.2.2.2.2.2.1, keepW hb' hHeld.2.2.2.2.2.2.2.1, hHeld.2.2.2.2.2.2.2.2.trans (hb'.mono hHeld.2.2.2.2.2.2.2.2.size)⟩) (fun hHeld2 => ?_)
                    clear hK K hHeld hb'
                    have hHeld := hHeld2
                    clear hHeld2
                    try simp only [Act.put, List.getElem_toArray, List.getElem_cons_zero, List.getElem_cons_succ, List.setIfInBounds_toArray, List.set_cons_zero, List.set_cons_succ]
                    refine wpAnyH_ready (rs := [9, 10]) (by kernel_rfl) (by simp) ?_
                    refine AllReadyH.cons rfl (fun K hK => ?_) (AllReadyH.cons rfl (fun K hK => ?_) AllReadyH.nil)
                    · skip
                      go_simp
                      go_at_call 77; refine (HQj.out _).mono ?_; rintro e' W28 ⟨rfl, hb'⟩
                      have pqb := pqb.keep hb' zqb
                      have zqb := Nat.lt_of_lt_of_le zqb hb'.size
                      refine hK.out _ _ (⟨keepW hb' hHeld.1, keepW hb' hHeld.2.1, keepW hb' hHeld.2.2.1, keepW hb' hHeld.2.2.2.1, keepW hb' hHeld.2.2.2.2.1, keepW hb' hHeld.2.2.2.2.2.1, keepW hb' hHeld.2.2.2.2.2.2.1, keepW hb' hHeld.2.2.2.2.2.2.2.1, hHeld.2.2.2.2.2.2.2.2.trans (hb'.mono hHeld.2.2.2.2.2.2.2.2.size)⟩) (fun hHeld2 => ?_)
                      clear hK K hHeld hb'
                      have hHeld := hHeld2
                      clear hHeld2
                      try simp only [Act.put, List.getElem_toArray, List.getElem_cons_zero, List.getElem_cons_succ, List.setIfInBounds_toArray, List.set_cons_zero, List.set_cons_succ]
                      refine wpAnyH_ready (rs := [10]) (by kernel_rfl) (by simp) ?_
                      refine AllReadyH.cons rfl (fun K hK => ?_) AllReadyH.nil
                      go_simp
                      have pqa := SpB.new W28
                      have zqa : W28.heap.size < (W28.alloc (.cells #[.int .i64 0, .int .i64 0] 24)).heap.size := by rw [World.size_alloc]; omega
                      have lqa : wr.heap.size ≤ W28.heap.size := hHeld.2.2.2.2.2.2.2.2.size
                      have hb' : Below W28.heap.size W28 (W28.alloc (.cells #[.int .i64 0, .int .i64 0] 24)) := below_alloc _ _
                      have neba : qb ≠ W28.heap.size := by omega
                      have pqb := pqb.keep hb' zqb
                      have zqb := Nat.lt_of_lt_of_le zqb hb'.size
                      obtain ⟨qa, hq⟩ : ∃ q, q = W28.heap.size := ⟨_, rfl⟩
                      obtain ⟨W29, hF⟩ : ∃ F, F = W28.alloc (.cells #[.int .i64 0, .int .i64 0] 24) := ⟨_, rfl⟩
                      rw [← hF, ← hq] at pqa zqa
                      rw [← hq] at lqa
                      rw [← hq] at neba
                      rw [← hF] at pqb zqb
                      rw [← hF] at hb' ⊢
                      rw [← hq]
                      refine hK.out _ _ (⟨keepW hb' hHeld.1, keepW hb' hHeld.2.1, keepW hb' hHeld.2.2.1, keepW hb' hHeld.2.2.2.1, keepW hb' hHeld.2.2.2.2.1, keepW hb' hHeld.2.2.2.2.2.1, keepW hb' hHeld.2.2.2.2.2.2.1, keepW hb' hHeld.2.2.2.2.2.2.2.1, hHeld.2.2.2.2.2.2.2.2.trans (hb'.mono hHeld.2.2.2.2.2.2.2.2.size)⟩) (fun hHeld2 => ?_)
                      clear hK K hHeld hb' hF hq
                      have hHeld := hHeld2
                      clear hHeld2
                      try simp only [Act.put, List.getElem_toArray, List.getElem_cons_zero, List.getElem_cons_succ, List.setIfInBounds_toArray, List.set_cons_zero, List.set_cons_succ]
                      refine wpAnyH_done (by kernel_rfl) ?_ _
                      change wpList _ _ _ _ _ _
                      simp only [List.drop_succ_cons, List.drop_zero]
                      have HP := Lib.hid (SpV.two pqa pqb zqa zqb (neba.symm) lqa lqb (hHeld.2.2.2.2.2.2.2.2) (rLo (ps i)) (rHi (ps i)) (rLo (ps j)) (rHi (ps j)))
                      obtain ⟨u0, u1, u2, u3⟩ := pqa
                      obtain ⟨o0, o1, o2, o3⟩ := pqb
                      have ne : qa ≠ qb := neba.symm
                      go_wp2_with fail
                      go_meet
                      exact ⟨qa, qb, rfl, rfl, HP.out⟩
                    · skip
                      go_simp
                      have pqa := SpB.new W27
                      have zqa : W27.heap.size < (W27.alloc (.cells #[.int .i64 0, .int .i64 0] 24)).heap.size := by rw [World.size_alloc]; omega
                      have lqa : wr.heap.size ≤ W27.heap.size := hHeld.2.2.2.2.2.2.2.2.size
                      have hb' : Below W27.heap.size W27 (W27.alloc (.cells #[.int .i64 0, .int .i64 0] 24)) := below_alloc _ _
                      have neba : qb ≠ W27.heap.size := by omega
                      have pqb := pqb.keep hb' zqb
                      have zqb := Nat.lt_of_lt_of_le zqb hb'.size
                      obtain ⟨qa, hq⟩ : ∃ q, q = W27.heap.size := ⟨_, rfl⟩
                      obtain ⟨W30, hF⟩ : ∃ F, F = W27.alloc (.cells #[.int .i64 0, .int .i64 0] 24) := ⟨_, rfl⟩
                      rw [← hF, ← hq] at pqa zqa
                      rw [← hq] at lqa
                      rw [← hq] at neba
                      rw [← hF] at pqb zqb
                      rw [← hF] at hb' ⊢
                      rw [← hq]
                      refine hK.out _ _ (⟨keepW hb' hHeld.1, keepW hb' hHeld.2.1, keepW hb' hHeld.2.2.1, keepW hb' hHeld.2.2.2.1, keepW hb' hHeld.2.2.2.2.1, keepW hb' hHeld.2.2.2.2.2.1, keepW hb' hHeld.2.2.2.2.2.2.1, keepW hb' hHeld.2.2.2.2.2.2.2.1, hHeld.2.2.2.2.2.2.2.2.trans (hb'.mono hHeld.2.2.2.2.2.2.2.2.size)⟩) (fun hHeld2 => ?_)
                      clear hK K hHeld hb' hF hq
                      have hHeld := hHeld2
                      clear hHeld2
                      try simp only [Act.put, List.getElem_toArray, List.getElem_cons_zero, List.getElem_cons_succ, List.setIfInBounds_toArray, List.set_cons_zero, List.set_cons_succ]
                      refine wpAnyH_ready (rs := [9]) (by kernel_rfl) (by simp) ?_
                      refine AllReadyH.cons rfl (fun K hK => ?_) AllReadyH.nil
                      go_simp
                      go_at_call 77; refine (HQj.out _).mono ?_; rintro e' W31 ⟨rfl, hb'⟩
                      have pqb := pqb.keep hb' zqb
                      have zqb := Nat.lt_of_lt_of_le zqb hb'.size
                      have pqa := pqa.keep hb' zqa
                      have zqa := Nat.lt_of_lt_of_le zqa hb'.size
                      refine hK.out _ _ (⟨keepW hb' hHeld.1, keepW hb' hHeld.2.1, keepW hb' hHeld.2.2.1, keepW hb' hHeld.2.2.2.1, keepW hb' hHeld.2.2.2.2.1, keepW hb' hHeld.2.2.2.2.2.1, keepW hb' hHeld.2.2.2.2.2.2.1, keepW hb' hHeld.2.2.2.2.2.2.2.1, hHeld.2.2.2.2.2.2.2.2.trans (hb'.mono hHeld.2.2.2.2.2.2.2.2.size)⟩) (fun hHeld2 => ?_)
                      clear hK K hHeld hb'
                      have hHeld := hHeld2
                      clear hHeld2
                      try simp only [Act.put, List.getElem_toArray, List.getElem_cons_zero, List.getElem_cons_succ, List.setIfInBounds_toArray, List.set_cons_zero, List.set_cons_succ]
                      refine wpAnyH_done (by kernel_rfl) ?_ _
                      change wpList _ _ _ _ _ _
                      simp only [List.drop_succ_cons, List.drop_zero]
                      have HP := Lib.hid (SpV.two pqa pqb zqa zqb (neba.symm) lqa lqb (hHeld.2.2.2.2.2.2.2.2) (rLo (ps i)) (rHi (ps i)) (rLo (ps j)) (rHi (ps j)))
                      obtain ⟨u0, u1, u2, u3⟩ := pqa
                      obtain ⟨o0, o1, o2, o3⟩ := pqb
                      have ne : qa ≠ qb := neba.symm
                      go_wp2_with fail
                      go_meet
                      exact ⟨qa, qb, rfl, rfl, HP.out⟩
                  · skip
                    go_simp
                    have pqa := SpB.new W26
                    have zqa : W26.heap.size < (W26.alloc (.cells #[.int .i64 0, .int .i64 0] 24)).heap.size := by rw [World.size_alloc]; omega
                    have lqa : wr.heap.size ≤ W26.heap.size := hHeld.2.2.2.2.2.2.2.2.size
                    have hb' : Below W26.heap.size W26 (W26.alloc (.cells #[.int .i64 0, .int .i64 0] 24)) := below_alloc _ _
                    have neba : qb ≠ W26.heap.size := by omega
                    have pqb := pqb.keep hb' zqb
                    have zqb := Nat.lt_of_lt_of_le zqb hb'.size
                    obtain ⟨qa, hq⟩ : ∃ q, q = W26.heap.size := ⟨_, rfl⟩
                    obtain ⟨W32, hF⟩ : ∃ F, F = W26.alloc (.cells #[.int .i64 0, .int .i64 0] 24) := ⟨_, rfl⟩
                    rw [← hF, ← hq] at pqa zqa
                    rw [← hq] at lqa
                    rw [← hq] at neba
                    rw [← hF] at pqb zqb
                    rw [← hF] at hb' ⊢
                    rw [← hq]
                    refine hK.out _ _ (⟨keepW hb' hHeld.1, keepW hb' hHeld.2.1, keepW hb' hHeld.2.2.1, keepW hb' hHeld.2.2.2.1, keepW hb' hHeld.2.2.2.2.1, keepW hb' hHeld.2.2.2.2.2.1, keepW hb' hHeld.2.2.2.2.2.2.1, keepW hb' hHeld.2.2.2.2.2.2.2.1, hHeld.2.2.2.2.2.2.2.2.trans (hb'.mono hHeld.2.2.2.2.2.2.2.2.size)⟩) (fun hHeld2 => ?_)
                    clear hK K hHeld hb' hF hq
                    have hHeld := hHeld2
                    clear hHeld2
                    try simp only [Act.put, List.getElem_toArray, List.getElem_cons_zero, List.getElem_cons_succ, List.setIfInBounds_toArray, List.set_cons_zero, List.set_cons_succ]
                    refine wpAnyH_ready (rs := [4]) (by kernel_rfl) (by simp) ?_
                    refine AllReadyH.cons rfl (fun K hK => ?_) AllReadyH.nil
                    go_simp
                    go_at_call 77; refine (HQi.out _).mono ?_; rintro e' W33 ⟨rfl, hb'⟩
                    have pqb := pqb.keep hb' zqb
                    have zqb := Nat.lt_of_lt_of_le zqb hb'.size
                    have pqa := pqa.keep hb' zqa
                    have zqa := Nat.lt_of_lt_of_le zqa hb'.size
                    refine hK.out _ _ (⟨keepW hb' hHeld.1, keepW hb' hHeld.2.1, keepW hb' hHeld.2.2.1, keepW hb' hHeld.2.2.2.1, keepW hb' hHeld.2.2.2.2.1, keepW hb' hHeld.2.2.2.2.2.1, keepW hb' hHeld.2.2.2.2.2.2.1, keepW hb' hHeld.2.2.2.2.2.2.2.1, hHeld.2.2.2.2.2.2.2.2.trans (hb'.mono hHeld.2.2.2.2.2.2.2.2.size)⟩) (fun hHeld2 => ?_)
                    clear hK K hHeld hb'
                    have hHeld := hHeld2
                    clear hHeld2
                    try simp only [Act.put, List.getElem_toArray, List.getElem_cons_zero, List.getElem_cons_succ, List.setIfInBounds_toArray, List.set_cons_zero, List.set_cons_succ]
                    refine wpAnyH_ready (rs := [9]) (by kernel_rfl) (by simp) ?_
                    refine AllReadyH.cons rfl (fun K hK => ?_) AllReadyH.nil
                    go_simp
                    go_at_call 77; refine (HQj.out _).mono ?_; rintro e' W34 ⟨rfl, hb'⟩
                    have pqb := pqb.keep hb' zqb
                    have zqb := Nat.lt_of_lt_of_le zqb hb'.size
                    have pqa := pqa.keep hb' zqa
                    have zqa := Nat.lt_of_lt_of_le zqa hb'.size
                    refine hK.out _ _ (⟨keepW hb' hHeld.1, keepW hb' hHeld.2.1, keepW hb' hHeld.2.2.1, keepW hb' hHeld.2.2.2.1, keepW hb' hHeld.2.2.2.2.1, keepW hb' hHeld.2.2.2.2.2.1, keepW hb' hHeld.2.2.2.2.2.2.1, keepW hb' hHeld.2.2.2.2.2.2.2.1, hHeld.2.2.2.2.2.2.2.2.trans (hb'.mono hHeld.2.2.2.2.2.2.2.2.size)⟩) (fun hHeld2 => ?_)
                    clear hK K hHeld hb'
                    have hHeld := hHeld2
                    clear hHeld2
                    try simp only [Act.put, List.getElem_toArray, List.getElem_cons_zero, List.getElem_cons_succ, List.setIfInBounds_toArray, List.set_cons_zero, List.set_cons_succ]
                    refine wpAnyH_done (by kernel_rfl) ?_ _
                    change wpList _ _ _ _ _ _
                    simp only [List.drop_succ_cons, List.drop_zero]
                    have HP := Lib.hid (SpV.two pqa pqb zqa zqb (neba.symm) lqa lqb (hHeld.2.2.2.2.2.2.2.2) (rLo (ps i)) (rHi (ps i)) (rLo (ps j)) (rHi (ps j)))
                    obtain ⟨u0, u1, u2, u3⟩ := pqa
                    obtain ⟨o0, o1, o2, o3⟩ := pqb
                    have ne : qa ≠ qb := neba.symm
                    go_wp2_with fail
                    go_meet
                    exact ⟨qa, qb, rfl, rfl, HP.out⟩
              case rest =>
              clear HS28 HQi HQj
              obtain ⟨qa, qb, rfl, rfl, h2v⟩ := hcut
              obtain ⟨wx, hwx⟩ : ∃ x, x = wc := ⟨_, rfl⟩
              rw [← hwx] at h2v ⊢
              clear hwx wc
              have HR := Lib.hid (HR.out.keep h2v.bel)
              obtain ⟨⟨m0, m1, m2, m3⟩, ⟨n0, n1, n2, n3⟩, za, zb, _⟩ := h2v
              have hbd := bad_dec (ps i) (ps j)
              rcases Bool.eq_false_or_eq_true (badP (ps i) (ps j)) with hc | hc
              · have dd2 : decide (min (rHi (ps i)) (rHi (ps j)) < max (rLo (ps i)) (rLo (ps j))) = true := by rw [← hbd]; exact hc
                have HF := Lib.hid (HA.out i j ⟨hij, hjl, hc, HRow.out, HRows.out⟩)
                clear hbd hc HRow HRows HB HO HS HA
                generalize rLo (ps i) = L1 at *
                generalize rHi (ps i) = H1 at *
                generalize rLo (ps j) = L2 at *
                generalize rHi (ps j) = H2 at *
                obtain ⟨M1, hM1⟩ : ∃ M1, M1 = max L1 L2 := ⟨_, rfl⟩
                obtain ⟨M2, hM2⟩ : ∃ M2, M2 = min H1 H2 := ⟨_, rfl⟩
                rw [← hM1, ← hM2] at dd2
                have e1 : max L1 L2 = M1 := hM1.symm
                have e2 : min H1 H2 = M2 := hM2.symm
                have e3 : (if L1 < L2 then L2 else L1) = M1 := by rw [hM1]; split <;> omega
                have e4 : (if L2 < L1 then L1 else L2) = M1 := by rw [hM1]; split <;> omega
                have e5 : (if H1 < H2 then H1 else H2) = M2 := by rw [hM2]; split <;> omega
                have e6 : (if H2 < H1 then H2 else H1) = M2 := by rw [hM2]; split <;> omega
                clear hM1 hM2
                go_upto_region 30 with fail
                obtain ⟨V, hV, v0, v1, v2, v3, bV⟩ := HR.out.four 0 0 (i : Int) (j : Int)
                obtain ⟨r0, r1, s0, s1, g0, g1, k0, k1, x0, x1, hz, hbw⟩ := HR.out
                go_wp2_with fail
                rw [← hV]
                clear hV
                exact bodyPost_ret (v := .tuple #[.agg #[.int .i64 0, .int .i64 0], .agg #[.int .i64 (i : Int), .int .i64 (j : Int)], .int .i64 14]) (by simp [results, Try.results38, go_sem, v0, v1, v2, v3]) rfl ⟨0, 0, i, j, 14, HF.out, rfl, bV⟩
              · have dd2 : decide (min (rHi (ps i)) (rHi (ps j)) < max (rLo (ps i)) (rLo (ps j))) = false := by rw [← hbd]; exact hc
                have HRow2 := Lib.hid (show ∀ b, i ≤ b → b < j + 1 → badP (ps i) (ps b) = false from fun b h1 h2 => by
                  by_cases e : b = j
                  · subst e; exact hc
                  · exact HRow.out b h1 (by omega))
                clear hbd hc HRow
                generalize rLo (ps i) = L1 at *
                generalize rHi (ps i) = H1 at *
                generalize rLo (ps j) = L2 at *
                generalize rHi (ps j) = H2 at *
                obtain ⟨M1, hM1⟩ : ∃ M1, M1 = max L1 L2 := ⟨_, rfl⟩
                obtain ⟨M2, hM2⟩ : ∃ M2, M2 = min H1 H2 := ⟨_, rfl⟩
                rw [← hM1, ← hM2] at dd2
                have e1 : max L1 L2 = M1 := hM1.symm
                have e2 : min H1 H2 = M2 := hM2.symm
                have e3 : (if L1 < L2 then L2 else L1) = M1 := by rw [hM1]; split <;> omega
                have e4 : (if L2 < L1 then L1 else L2) = M1 := by rw [hM1]; split <;> omega
                have e5 : (if H1 < H2 then H1 else H2) = M2 := by rw [hM2]; split <;> omega
                have e6 : (if H2 < H1 then H2 else H1) = M2 := by rw [hM2]; split <;> omega
                clear hM1 hM2
                go_wp2
                go_roundw
                case rel => exact ⟨j + 1, by omega, by omega, by go_num, HR.out, HRow2.out⟩
                case measure => simp [intOf]; omega
            · obtain rfl : n = j := by omega
              have HRows2 := Lib.hid (show ∀ a b, a < i + 1 → a ≤ b → b < n → badP (ps a) (ps b) = false from fun a b h1 h2 h3 => by
                by_cases e : a = i
                · subst e; exact HRow.out b h2 h3
                · exact HRows.out a b (by omega) h2 h3)
              clear HRow HRows hjl hbw
              go_wp2
              go_roundw
              case rel => exact ⟨i + 1, by omega, by go_num, HR.out, HRows2.out⟩
              case measure => simp [intOf]; omega
          · obtain rfl : n = i := by omega
            obtain ⟨a, b2, h1, h2, h3⟩ := HB.out
            have := HRows.out a b2 (by omega) h1 h2
            rw [h3] at this
            cases this
theorem refAdjust_any (a : Option Addr) (n cap : Nat) (ps : Nat → Pr) (w : World) (hm : n ≤ maxLen) (hs : PrsIs w a n ps) :
    Calls Try.prog 38 #[.slice a n cap] w (AdjRet n ps w) := by
  by_cases h0 : n = 0
  · subst h0; exact refAdjust_nil a cap ps w
  by_cases h1 : 100 < n
  · exact refAdjust_many a n cap ps w h1 hm
  rcases hs with h | ⟨b, off, rfl, hb, hs⟩
  · exact absurd h h0
  exact refAdjust_some b off n cap ps w (by omega) (by omega) hs hb

end Go.Proofs.Ytdmbkhmhaininaa
