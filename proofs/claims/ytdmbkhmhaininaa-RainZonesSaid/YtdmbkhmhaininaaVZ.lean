/-
  RainZones, walked.
-/
import Derived.Test.YtdmbkhmhaininaaWK
import Derived.Test.YtdmbkhmhaininaaJ
import Derived.Test.YtdmbkhmhaininaaLF
namespace Go.Proofs.Ytdmbkhmhaininaa
open Go.RowKit
set_option linter.unusedVariables false
set_option linter.unusedSimpArgs false

/-- a box of a span that may be written -/
structure PQ (W : World) (q : Nat) : Prop where
  c0 : W.cell? ⟨q, 0, none⟩ = some (.int .i64 0)
  c1 : W.cell? ⟨q, 1, none⟩ = some (.int .i64 0)
  f0 : W.frozen? ⟨q, 0, none⟩ = false
  f1 : W.frozen? ⟨q, 1, none⟩ = false
theorem PQ.new (W : World) : PQ (W.alloc (.cells #[.int .i64 0, .int .i64 0] 24)) W.heap.size := ⟨alloc_new rfl rfl, alloc_new rfl rfl, alloc_newF rfl, alloc_newF rfl⟩
theorem PQ.keep {W w1 : World} {q : Nat} (s : PQ W q) (hb : Below W.heap.size W w1) (h : q < W.heap.size) : PQ w1 q := ⟨keepB hb h s.c0, keepB hb h s.c1, keepF hb h s.f0, keepF hb h s.f1⟩
theorem zone_boxes (w : World) (la : Option Addr) (ln lc : Nat) (ra : Option Addr) (rn rc : Nat) (ml mh il ih al ah : Int) (lo hi : Int) : ∃ A, A = (w.alloc (.cells #[.slice la ln lc, .slice ra rn rc, .int .i64 ml, .int .i64 mh, .int .i64 il, .int .i64 ih, .int .i64 al, .int .i64 ah] 26)).alloc (.cells #[.int .i64 lo, .int .i64 hi] 24) ∧ Below w.heap.size w A ∧ A.heap.size = w.heap.size + 2 ∧ A.cell? ⟨w.heap.size, 0, none⟩ = some (.slice la ln lc) ∧ A.cell? ⟨w.heap.size, 1, none⟩ = some (.slice ra rn rc) ∧ A.cell? ⟨w.heap.size, 2, none⟩ = some (.int .i64 ml) ∧ A.cell? ⟨w.heap.size, 3, none⟩ = some (.int .i64 mh) ∧ A.cell? ⟨w.heap.size, 4, none⟩ = some (.int .i64 il) ∧ A.cell? ⟨w.heap.size, 5, none⟩ = some (.int .i64 ih) ∧ A.cell? ⟨w.heap.size, 6, none⟩ = some (.int .i64 al) ∧ A.cell? ⟨w.heap.size, 7, none⟩ = some (.int .i64 ah) ∧ A.cell? ⟨w.heap.size + 1, 0, none⟩ = some (.int .i64 lo) ∧ A.cell? ⟨w.heap.size + 1, 1, none⟩ = some (.int .i64 hi) := by
  obtain ⟨A0, e0⟩ : ∃ A, A = w.alloc (.cells #[.slice la ln lc, .slice ra rn rc, .int .i64 ml, .int .i64 mh, .int .i64 il, .int .i64 ih, .int .i64 al, .int .i64 ah] 26) := ⟨_, rfl⟩
  have s0 : A0.heap.size = w.heap.size + 1 := by rw [e0, World.size_alloc]
  have b0 : Below w.heap.size w A0 := by rw [e0]; exact below_alloc _ _
  have c0_0_0 : A0.cell? ⟨w.heap.size, 0, none⟩ = some (.slice la ln lc) := by rw [e0]; exact alloc_new rfl rfl
  have c0_1_0 : A0.cell? ⟨w.heap.size, 1, none⟩ = some (.slice ra rn rc) := by rw [e0]; exact alloc_new rfl rfl
  have c0_2_0 : A0.cell? ⟨w.heap.size, 2, none⟩ = some (.int .i64 ml) := by rw [e0]; exact alloc_new rfl rfl
  have c0_3_0 : A0.cell? ⟨w.heap.size, 3, none⟩ = some (.int .i64 mh) := by rw [e0]; exact alloc_new rfl rfl
  have c0_4_0 : A0.cell? ⟨w.heap.size, 4, none⟩ = some (.int .i64 il) := by rw [e0]; exact alloc_new rfl rfl
  have c0_5_0 : A0.cell? ⟨w.heap.size, 5, none⟩ = some (.int .i64 ih) := by rw [e0]; exact alloc_new rfl rfl
  have c0_6_0 : A0.cell? ⟨w.heap.size, 6, none⟩ = some (.int .i64 al) := by rw [e0]; exact alloc_new rfl rfl
  have c0_7_0 : A0.cell? ⟨w.heap.size, 7, none⟩ = some (.int .i64 ah) := by rw [e0]; exact alloc_new rfl rfl
  rw [← e0]
  exact ⟨_, rfl, b0.trans ((below_alloc _ _).mono (by omega)), by rw [World.size_alloc]; omega, alloc_keep (by omega) c0_0_0, alloc_keep (by omega) c0_1_0, alloc_keep (by omega) c0_2_0, alloc_keep (by omega) c0_3_0, alloc_keep (by omega) c0_4_0, alloc_keep (by omega) c0_5_0, alloc_keep (by omega) c0_6_0, alloc_keep (by omega) c0_7_0, alloc_new s0.symm rfl, alloc_new s0.symm rfl⟩

set_option maxRecDepth 100000 in
set_option maxHeartbeats 6400000 in
theorem RainZones_big (la : Option Addr) (ln lc : Nat) (ra : Option Addr) (rn rc : Nat) (ml mh il ih al ah : Int) (lo hi : Int) (w : World) (hb : ln ≤ maxLen ∧ rn ≤ maxLen) (h : 100 < ln ∨ 100 < rn) :
    Calls Try.prog 5 #[.agg #[.slice la ln lc, .slice ra rn rc, .int .i64 ml, .int .i64 mh, .int .i64 il, .int .i64 ih, .int .i64 al, .int .i64 ah], .agg #[.int .i64 lo, .int .i64 hi]] w fun e w' => e = .returned (.bool true) ∧ Below w.heap.size w w' := by
  unfold maxLen at hb
  obtain ⟨A, hA, bA, _⟩ := zone_boxes w la ln lc ra rn rc ml mh il ih al ah lo hi
  by_cases h1 : 100 < ln
  · have d1 : decide (100 < (ln : Int)) = true := decide_eq_true (by omega)
    clear h
    go_enter Try.func5, Try.ntmps5
    go_wp2_with fail
    rw [← hA]
    clear hA
    refine (works_any _).mono ?_; rintro e X ⟨rfl, hbX⟩
    have bX := bA.trans (hbX.mono bA.size)
    go_wp2
    go_ret
    exact ⟨rfl, bX⟩
  · have h2 : 100 < rn := by omega
    have d1 : decide (100 < (ln : Int)) = false := decide_eq_false (by omega)
    have d3 : decide (100 < (rn : Int)) = true := decide_eq_true (by omega)
    clear h
    go_enter Try.func5, Try.ntmps5
    go_wp2_with fail
    rw [← hA]
    clear hA
    refine (works_any _).mono ?_; rintro e X ⟨rfl, hbX⟩
    have bX := bA.trans (hbX.mono bA.size)
    go_wp2
    go_ret
    exact ⟨rfl, bX⟩
set_option maxRecDepth 100000 in
set_option maxHeartbeats 12800000 in
theorem RainZones_few (la : Option Addr) (ln lc : Nat) (ra : Option Addr) (rn rc : Nat) (ml mh il ih al ah : Int) (lz rz : Nat → Int × Int) (lo hi : Int) (w : World) (hl1 : ln ≤ 100) (hl2 : rn ≤ 100) (sl : SliceIs w la ln lc lz) (sr : SliceIs w ra rn rc rz) :
    Calls Try.prog 5 #[.agg #[.slice la ln lc, .slice ra rn rc, .int .i64 ml, .int .i64 mh, .int .i64 il, .int .i64 ih, .int .i64 al, .int .i64 ah], .agg #[.int .i64 lo, .int .i64 hi]] w fun e w' => e = .returned (.bool true) ∧ Below w.heap.size w w' := by
  have d1 : decide (100 < (ln : Int)) = false := decide_eq_false (by omega)
  have d2 : decide (100 < (rn : Int)) = false := decide_eq_false (by omega)
  have HF1 := Lib.hid (fun W (hW : Below w.heap.size w W) => Factor_any la ln lc ra rn rc ml mh il ih al ah lz rz lo hi W (sl.keep hW) (sr.keep hW))
  have HMd := Lib.hid (fun W (hW : Below w.heap.size w W) => model_any la ln lc ra rn rc ml mh il ih al ah lz rz W (by omega) (by omega) (sl.keep hW) (sr.keep hW))
  have HF2 := Lib.hid (fun (a1 : Option Addr) (c1 : Nat) (a2 : Option Addr) (c2 : Nat) W (h : SliceIs W a1 ln c1 lz) (h2 : SliceIs W a2 rn c2 rz) => refFactor_any a1 ln c1 a2 rn c2 ml mh il ih al ah lz rz lo hi W h h2)
  clear sl sr
  generalize faL (faE ln lz rn rz ml mh il ih al ah lo hi) (facR ml mh il ih al ah lo hi) = fl at *
  generalize faH (faE ln lz rn rz ml mh il ih al ah lo hi) (facR ml mh il ih al ah lo hi) = fh at *
  generalize faE ln lz rn rz ml mh il ih al ah lo hi = fe at *
  obtain ⟨A, hA, bA, zA, k0, k1, k2, k3, k4, k5, k6, k7, k8, k9⟩ := zone_boxes w la ln lc ra rn rc ml mh il ih al ah lo hi
  go_enter Try.func5, Try.ntmps5
  go_wp2_with fail
  rw [← hA]
  clear hA d1 d2 hl1 hl2
  refine (HF1.out _ bA).mono ?_; rintro e C ⟨rfl, hbC⟩
  have k0 := keepB hbC (by omega) k0
  have k1 := keepB hbC (by omega) k1
  have k2 := keepB hbC (by omega) k2
  have k3 := keepB hbC (by omega) k3
  have k4 := keepB hbC (by omega) k4
  have k5 := keepB hbC (by omega) k5
  have k6 := keepB hbC (by omega) k6
  have k7 := keepB hbC (by omega) k7
  have k8 := keepB hbC (by omega) k8
  have k9 := keepB hbC (by omega) k9
  have bC := bA.trans (hbC.mono bA.size)
  clear hbC HF1 bA
  have bb := below_alloc C (.cells #[.int .i64 fl, .int .i64 fh] 24)
  have k0 := keepW bb k0
  have k1 := keepW bb k1
  have k2 := keepW bb k2
  have k3 := keepW bb k3
  have k4 := keepW bb k4
  have k5 := keepW bb k5
  have k6 := keepW bb k6
  have k7 := keepW bb k7
  have k8 := keepW bb k8
  have k9 := keepW bb k9
  have k10 : (C.alloc (.cells #[.int .i64 fl, .int .i64 fh] 24)).cell? ⟨C.heap.size, 0, none⟩ = some (.int .i64 fl) := alloc_new rfl rfl
  have k11 : (C.alloc (.cells #[.int .i64 fl, .int .i64 fh] 24)).cell? ⟨C.heap.size, 1, none⟩ = some (.int .i64 fh) := alloc_new rfl rfl
  have bE := bC.trans (bb.mono bC.size)
  obtain ⟨E, hE⟩ : ∃ E, E = C.alloc (.cells #[.int .i64 fl, .int .i64 fh] 24) := ⟨_, rfl⟩
  rw [← hE] at bE k0 k1 k2 k3 k4 k5 k6 k7 k8 k9 k10 k11
  have HS := Lib.hid (show (fun w' : World => w'.cell? ⟨w.heap.size, 0, none⟩ = some (.slice la ln lc) ∧ w'.cell? ⟨w.heap.size, 1, none⟩ = some (.slice ra rn rc) ∧ w'.cell? ⟨w.heap.size, 2, none⟩ = some (.int .i64 ml) ∧ w'.cell? ⟨w.heap.size, 3, none⟩ = some (.int .i64 mh) ∧ w'.cell? ⟨w.heap.size, 4, none⟩ = some (.int .i64 il) ∧ w'.cell? ⟨w.heap.size, 5, none⟩ = some (.int .i64 ih) ∧ w'.cell? ⟨w.heap.size, 6, none⟩ = some (.int .i64 al) ∧ w'.cell? ⟨w.heap.size, 7, none⟩ = some (.int .i64 ah) ∧ w'.cell? ⟨w.heap.size + 1, 0, none⟩ = some (.int .i64 lo) ∧ w'.cell? ⟨w.heap.size + 1, 1, none⟩ = some (.int .i64 hi) ∧ w'.cell? ⟨C.heap.size, 0, none⟩ = some (.int .i64 fl) ∧ w'.cell? ⟨C.heap.size, 1, none⟩ = some (.int .i64 fh) ∧ Below E.heap.size E w') E.drew from ⟨k0, k1, k2, k3, k4, k5, k6, k7, k8, k9, k10, k11, (Below.refl _ _).drew⟩)
  have ls : w.heap.size < E.heap.size := World.block_lt_of_cell? _ ⟨w.heap.size, 0, none⟩ k0
  have lt : w.heap.size + 1 < E.heap.size := World.block_lt_of_cell? _ ⟨w.heap.size + 1, 0, none⟩ k8
  have lc' : C.heap.size < E.heap.size := World.block_lt_of_cell? _ ⟨C.heap.size, 0, none⟩ k10
  clear bb bC zA k0 k1 k2 k3 k4 k5 k6 k7 k8 k9 k10 k11
  go_wp2_with fail
  rw [← hE]
  clear hE
  refine wp_region_held_tail (S := (fun w' : World => w'.cell? ⟨w.heap.size, 0, none⟩ = some (.slice la ln lc) ∧ w'.cell? ⟨w.heap.size, 1, none⟩ = some (.slice ra rn rc) ∧ w'.cell? ⟨w.heap.size, 2, none⟩ = some (.int .i64 ml) ∧ w'.cell? ⟨w.heap.size, 3, none⟩ = some (.int .i64 mh) ∧ w'.cell? ⟨w.heap.size, 4, none⟩ = some (.int .i64 il) ∧ w'.cell? ⟨w.heap.size, 5, none⟩ = some (.int .i64 ih) ∧ w'.cell? ⟨w.heap.size, 6, none⟩ = some (.int .i64 al) ∧ w'.cell? ⟨w.heap.size, 7, none⟩ = some (.int .i64 ah) ∧ w'.cell? ⟨w.heap.size + 1, 0, none⟩ = some (.int .i64 lo) ∧ w'.cell? ⟨w.heap.size + 1, 1, none⟩ = some (.int .i64 hi) ∧ w'.cell? ⟨C.heap.size, 0, none⟩ = some (.int .i64 fl) ∧ w'.cell? ⟨C.heap.size, 1, none⟩ = some (.int .i64 fh) ∧ Below E.heap.size E w')) 9 (by kernel_rfl) (by kernel_rfl) HS.out (fun hHeld => ?_)
  obtain ⟨D, hD⟩ : ∃ D, D = E.drew := ⟨_, rfl⟩
  rw [← hD] at hHeld ⊢
  clear hD
  refine wpAnyH_take (i := 0) (v := ?v0_1) rfl (by kernel_rfl) (by kernel_rfl) (by kernel_rfl) (fun _ _ _ h => h) (Or.inl ⟨by rfl, ?hy0_1⟩) (by assumption) ?rest0_1
  case hy0_1 => (intro w hSw; (try dsimp only at hSw); go_simp; (try with_reducible rfl))
  try simp only [Act.put, List.getElem_toArray, List.getElem_cons_zero, List.getElem_cons_succ, List.setIfInBounds_toArray, List.set_cons_zero, List.set_cons_succ]
  refine wpAnyH_take (i := 2) (v := ?v2_2) rfl (by kernel_rfl) (by kernel_rfl) (by kernel_rfl) (fun _ _ _ h => h) (Or.inl ⟨by rfl, ?hy2_2⟩) (by assumption) ?rest2_2
  case hy2_2 => (intro w hSw; (try dsimp only at hSw); go_simp; (try with_reducible rfl))
  try simp only [Act.put, List.getElem_toArray, List.getElem_cons_zero, List.getElem_cons_succ, List.setIfInBounds_toArray, List.set_cons_zero, List.set_cons_succ]
  refine wpAnyH_ready (rs := [1, 7]) (by kernel_rfl) (by simp) ?_
  refine AllReadyH.cons rfl (fun K hK => ?_) (AllReadyH.cons rfl (fun K hK => ?_) AllReadyH.nil)
  · skip
    go_simp
    refine (HMd.out _ (bE.trans (hHeld.2.2.2.2.2.2.2.2.2.2.2.2.mono bE.size))).mono ?_; rintro e' W1 ⟨a1, c1, a2, c2, rfl, hs1, hs2, hb'⟩
    refine hK.out _ _ (⟨keepW hb' hHeld.1, keepW hb' hHeld.2.1, keepW hb' hHeld.2.2.1, keepW hb' hHeld.2.2.2.1, keepW hb' hHeld.2.2.2.2.1, keepW hb' hHeld.2.2.2.2.2.1, keepW hb' hHeld.2.2.2.2.2.2.1, keepW hb' hHeld.2.2.2.2.2.2.2.1, keepW hb' hHeld.2.2.2.2.2.2.2.2.1, keepW hb' hHeld.2.2.2.2.2.2.2.2.2.1, keepW hb' hHeld.2.2.2.2.2.2.2.2.2.2.1, keepW hb' hHeld.2.2.2.2.2.2.2.2.2.2.2.1, hHeld.2.2.2.2.2.2.2.2.2.2.2.2.trans (hb'.mono hHeld.2.2.2.2.2.2.2.2.2.2.2.2.size)⟩) (fun hHeld2 => ?_)
    clear hK K hHeld hb'
    have hHeld := hHeld2
    clear hHeld2
    try simp only [Act.put, List.getElem_toArray, List.getElem_cons_zero, List.getElem_cons_succ, List.setIfInBounds_toArray, List.set_cons_zero, List.set_cons_succ]
    refine wpAnyH_ready (rs := [3, 7]) (by kernel_rfl) (by simp) ?_
    refine AllReadyH.cons rfl (fun K hK => ?_) (AllReadyH.cons rfl (fun K hK => ?_) AllReadyH.nil)
    · skip
      go_simp
      refine (HF2.out _ _ _ _ _ hs1 hs2).mono ?_; rintro e' W2 ⟨rfl, hb'⟩
      refine hK.out _ _ (⟨keepW hb' hHeld.1, keepW hb' hHeld.2.1, keepW hb' hHeld.2.2.1, keepW hb' hHeld.2.2.2.1, keepW hb' hHeld.2.2.2.2.1, keepW hb' hHeld.2.2.2.2.2.1, keepW hb' hHeld.2.2.2.2.2.2.1, keepW hb' hHeld.2.2.2.2.2.2.2.1, keepW hb' hHeld.2.2.2.2.2.2.2.2.1, keepW hb' hHeld.2.2.2.2.2.2.2.2.2.1, keepW hb' hHeld.2.2.2.2.2.2.2.2.2.2.1, keepW hb' hHeld.2.2.2.2.2.2.2.2.2.2.2.1, hHeld.2.2.2.2.2.2.2.2.2.2.2.2.trans (hb'.mono hHeld.2.2.2.2.2.2.2.2.2.2.2.2.size)⟩) (fun hHeld2 => ?_)
      clear hK K hHeld hb'
      have hHeld := hHeld2
      clear hHeld2
      try simp only [Act.put, List.getElem_toArray, List.getElem_cons_zero, List.getElem_cons_succ, List.setIfInBounds_toArray, List.set_cons_zero, List.set_cons_succ]
      refine wpAnyH_take (i := 4) (v := ?v4_3) rfl (by kernel_rfl) (by kernel_rfl) (by kernel_rfl) (fun _ _ _ h => h) (Or.inl ⟨by rfl, ?hy4_3⟩) (by assumption) ?rest4_3
      case hy4_3 => (intro w hSw; (try dsimp only at hSw); go_simp; (try with_reducible rfl))
      try simp only [Act.put, List.getElem_toArray, List.getElem_cons_zero, List.getElem_cons_succ, List.setIfInBounds_toArray, List.set_cons_zero, List.set_cons_succ]
      refine wpAnyH_take (i := 5) (v := ?v5_4) rfl (by kernel_rfl) (by kernel_rfl) (by kernel_rfl) (fun _ _ _ h => h) (Or.inl ⟨by rfl, ?hy5_4⟩) (by assumption) ?rest5_4
      case hy5_4 => (intro w hSw; (try dsimp only at hSw); go_simp; (try with_reducible rfl))
      try simp only [Act.put, List.getElem_toArray, List.getElem_cons_zero, List.getElem_cons_succ, List.setIfInBounds_toArray, List.set_cons_zero, List.set_cons_succ]
      refine wpAnyH_take (i := 6) (v := ?v6_5) rfl (by kernel_rfl) (by kernel_rfl) (by kernel_rfl) (fun _ _ _ h => h) (Or.inl ⟨by rfl, ?hy6_5⟩) (by assumption) ?rest6_5
      case hy6_5 => (intro w hSw; (try dsimp only at hSw); go_simp; (try with_reducible rfl))
      try simp only [Act.put, List.getElem_toArray, List.getElem_cons_zero, List.getElem_cons_succ, List.setIfInBounds_toArray, List.set_cons_zero, List.set_cons_succ]
      refine wpAnyH_ready (rs := [7]) (by kernel_rfl) (by simp) ?_
      refine AllReadyH.cons rfl (fun K hK => ?_) AllReadyH.nil
      go_simp
      have pq := PQ.new W2
      have zq : W2.heap.size < (W2.alloc (.cells #[.int .i64 0, .int .i64 0] 24)).heap.size := by rw [World.size_alloc]; omega
      have lq : E.heap.size ≤ W2.heap.size := hHeld.2.2.2.2.2.2.2.2.2.2.2.2.size
      have hb' : Below W2.heap.size W2 (W2.alloc (.cells #[.int .i64 0, .int .i64 0] 24)) := below_alloc _ _
      obtain ⟨q, hq⟩ : ∃ q, q = W2.heap.size := ⟨_, rfl⟩
      obtain ⟨W3, hF⟩ : ∃ F, F = W2.alloc (.cells #[.int .i64 0, .int .i64 0] 24) := ⟨_, rfl⟩
      rw [← hF, ← hq] at pq zq
      rw [← hq] at lq
      rw [← hF] at hb' ⊢
      rw [← hq]
      refine hK.out _ _ (⟨keepW hb' hHeld.1, keepW hb' hHeld.2.1, keepW hb' hHeld.2.2.1, keepW hb' hHeld.2.2.2.1, keepW hb' hHeld.2.2.2.2.1, keepW hb' hHeld.2.2.2.2.2.1, keepW hb' hHeld.2.2.2.2.2.2.1, keepW hb' hHeld.2.2.2.2.2.2.2.1, keepW hb' hHeld.2.2.2.2.2.2.2.2.1, keepW hb' hHeld.2.2.2.2.2.2.2.2.2.1, keepW hb' hHeld.2.2.2.2.2.2.2.2.2.2.1, keepW hb' hHeld.2.2.2.2.2.2.2.2.2.2.2.1, hHeld.2.2.2.2.2.2.2.2.2.2.2.2.trans (hb'.mono hHeld.2.2.2.2.2.2.2.2.2.2.2.2.size)⟩) (fun hHeld2 => ?_)
      clear hK K hHeld hb' hF hq
      have hHeld := hHeld2
      clear hHeld2
      try simp only [Act.put, List.getElem_toArray, List.getElem_cons_zero, List.getElem_cons_succ, List.setIfInBounds_toArray, List.set_cons_zero, List.set_cons_succ]
      obtain ⟨oc0, oc1, of0, of1⟩ := pq
      refine wpAnyH_ready (rs := [8]) (by kernel_rfl) (by simp) ?_
      refine AllReadyH.cons rfl (fun K hK => ?_) AllReadyH.nil
      go_simp
      have bZ : Below E.heap.size E ((W3.setCell ⟨q, 0, none⟩ (.int .i64 fl)).setCell ⟨q, 1, none⟩ (.int .i64 fh)) := ((hHeld.2.2.2.2.2.2.2.2.2.2.2.2).setCell (p := ⟨q, 0, none⟩) (by dsimp only; omega) _).setCell (p := ⟨q, 1, none⟩) (by dsimp only; omega) _
      have bS : Below q W3 ((W3.setCell ⟨q, 0, none⟩ (.int .i64 fl)).setCell ⟨q, 1, none⟩ (.int .i64 fh)) := ((Below.refl q W3).setCell (p := ⟨q, 0, none⟩) (Nat.le_refl _) _).setCell (p := ⟨q, 1, none⟩) (Nat.le_refl _) _
      have z0 : ((W3.setCell ⟨q, 0, none⟩ (.int .i64 fl)).setCell ⟨q, 1, none⟩ (.int .i64 fh)).cell? ⟨q, 0, none⟩ = some (.int .i64 fl) := set_other (by decide) (set_same oc0)
      have z1 : ((W3.setCell ⟨q, 0, none⟩ (.int .i64 fl)).setCell ⟨q, 1, none⟩ (.int .i64 fh)).cell? ⟨q, 1, none⟩ = some (.int .i64 fh) := set_same (set_other (by decide) oc1)
      have zz : q < ((W3.setCell ⟨q, 0, none⟩ (.int .i64 fl)).setCell ⟨q, 1, none⟩ (.int .i64 fh)).heap.size := by simp; exact zq
      obtain ⟨G, hG⟩ : ∃ G, G = (W3.setCell ⟨q, 0, none⟩ (.int .i64 fl)).setCell ⟨q, 1, none⟩ (.int .i64 fh) := ⟨_, rfl⟩
      rw [← hG] at bZ bS z0 z1 zz ⊢
      refine hK.out _ _ (⟨keepB bS (by omega) hHeld.1, keepB bS (by omega) hHeld.2.1, keepB bS (by omega) hHeld.2.2.1, keepB bS (by omega) hHeld.2.2.2.1, keepB bS (by omega) hHeld.2.2.2.2.1, keepB bS (by omega) hHeld.2.2.2.2.2.1, keepB bS (by omega) hHeld.2.2.2.2.2.2.1, keepB bS (by omega) hHeld.2.2.2.2.2.2.2.1, keepB bS (by omega) hHeld.2.2.2.2.2.2.2.2.1, keepB bS (by omega) hHeld.2.2.2.2.2.2.2.2.2.1, keepB bS (by omega) hHeld.2.2.2.2.2.2.2.2.2.2.1, keepB bS (by omega) hHeld.2.2.2.2.2.2.2.2.2.2.2.1, bZ⟩) (fun hHeld2 => ?_)
      clear hK K hHeld hG bS oc0 oc1 of0 of1
      have hHeld := hHeld2
      clear hHeld2
      try simp only [Act.put, List.getElem_toArray, List.getElem_cons_zero, List.getElem_cons_succ, List.setIfInBounds_toArray, List.set_cons_zero, List.set_cons_succ]
      refine wpAnyH_done (by kernel_rfl) ?_ _
      change wpList _ _ _ _ _ _
      simp only [List.drop_succ_cons, List.drop_zero]
      obtain ⟨h0, h1, h2, h3, h4, h5, h6, h7, h8, h9, h10, h11, hbG⟩ := hHeld
      have bG : Below w.heap.size w G := bE.trans (hbG.mono bE.size)
      clear HS HMd HF2 hbG bZ h0 h1 h2 h3 h4 h5 h6 h7 h8 h9
      have cz : C.heap.size < G.heap.size := World.block_lt_of_cell? _ ⟨C.heap.size, 0, none⟩ h10
      go_wp2_with fail
      refine (works_any _).mono ?_; rintro e G4 ⟨rfl, hb1⟩
      have bG4 := bG.trans (hb1.mono bG.size)
      clear hb1
      go_wp2
      go_ret
      exact ⟨rfl, bG4⟩
    · skip
      go_simp
      have pq := PQ.new W1
      have zq : W1.heap.size < (W1.alloc (.cells #[.int .i64 0, .int .i64 0] 24)).heap.size := by rw [World.size_alloc]; omega
      have lq : E.heap.size ≤ W1.heap.size := hHeld.2.2.2.2.2.2.2.2.2.2.2.2.size
      have hb' : Below W1.heap.size W1 (W1.alloc (.cells #[.int .i64 0, .int .i64 0] 24)) := below_alloc _ _
      obtain ⟨q, hq⟩ : ∃ q, q = W1.heap.size := ⟨_, rfl⟩
      obtain ⟨W2, hF⟩ : ∃ F, F = W1.alloc (.cells #[.int .i64 0, .int .i64 0] 24) := ⟨_, rfl⟩
      rw [← hF, ← hq] at pq zq
      rw [← hq] at lq
      rw [← hF] at hb' ⊢
      rw [← hq]
      have hs1 := hs1.keep hb'
      have hs2 := hs2.keep hb'
      refine hK.out _ _ (⟨keepW hb' hHeld.1, keepW hb' hHeld.2.1, keepW hb' hHeld.2.2.1, keepW hb' hHeld.2.2.2.1, keepW hb' hHeld.2.2.2.2.1, keepW hb' hHeld.2.2.2.2.2.1, keepW hb' hHeld.2.2.2.2.2.2.1, keepW hb' hHeld.2.2.2.2.2.2.2.1, keepW hb' hHeld.2.2.2.2.2.2.2.2.1, keepW hb' hHeld.2.2.2.2.2.2.2.2.2.1, keepW hb' hHeld.2.2.2.2.2.2.2.2.2.2.1, keepW hb' hHeld.2.2.2.2.2.2.2.2.2.2.2.1, hHeld.2.2.2.2.2.2.2.2.2.2.2.2.trans (hb'.mono hHeld.2.2.2.2.2.2.2.2.2.2.2.2.size)⟩) (fun hHeld2 => ?_)
      clear hK K hHeld hb' hF hq
      have hHeld := hHeld2
      clear hHeld2
      try simp only [Act.put, List.getElem_toArray, List.getElem_cons_zero, List.getElem_cons_succ, List.setIfInBounds_toArray, List.set_cons_zero, List.set_cons_succ]
      refine wpAnyH_ready (rs := [3]) (by kernel_rfl) (by simp) ?_
      refine AllReadyH.cons rfl (fun K hK => ?_) AllReadyH.nil
      go_simp
      refine (HF2.out _ _ _ _ _ hs1 hs2).mono ?_; rintro e' W3 ⟨rfl, hb'⟩
      have pq := pq.keep hb' zq
      have zq := Nat.lt_of_lt_of_le zq hb'.size
      refine hK.out _ _ (⟨keepW hb' hHeld.1, keepW hb' hHeld.2.1, keepW hb' hHeld.2.2.1, keepW hb' hHeld.2.2.2.1, keepW hb' hHeld.2.2.2.2.1, keepW hb' hHeld.2.2.2.2.2.1, keepW hb' hHeld.2.2.2.2.2.2.1, keepW hb' hHeld.2.2.2.2.2.2.2.1, keepW hb' hHeld.2.2.2.2.2.2.2.2.1, keepW hb' hHeld.2.2.2.2.2.2.2.2.2.1, keepW hb' hHeld.2.2.2.2.2.2.2.2.2.2.1, keepW hb' hHeld.2.2.2.2.2.2.2.2.2.2.2.1, hHeld.2.2.2.2.2.2.2.2.2.2.2.2.trans (hb'.mono hHeld.2.2.2.2.2.2.2.2.2.2.2.2.size)⟩) (fun hHeld2 => ?_)
      clear hK K hHeld hb'
      have hHeld := hHeld2
      clear hHeld2
      try simp only [Act.put, List.getElem_toArray, List.getElem_cons_zero, List.getElem_cons_succ, List.setIfInBounds_toArray, List.set_cons_zero, List.set_cons_succ]
      refine wpAnyH_take (i := 4) (v := ?v4_6) rfl (by kernel_rfl) (by kernel_rfl) (by kernel_rfl) (fun _ _ _ h => h) (Or.inl ⟨by rfl, ?hy4_6⟩) (by assumption) ?rest4_6
      case hy4_6 => (intro w hSw; (try dsimp only at hSw); go_simp; (try with_reducible rfl))
      try simp only [Act.put, List.getElem_toArray, List.getElem_cons_zero, List.getElem_cons_succ, List.setIfInBounds_toArray, List.set_cons_zero, List.set_cons_succ]
      refine wpAnyH_take (i := 5) (v := ?v5_7) rfl (by kernel_rfl) (by kernel_rfl) (by kernel_rfl) (fun _ _ _ h => h) (Or.inl ⟨by rfl, ?hy5_7⟩) (by assumption) ?rest5_7
      case hy5_7 => (intro w hSw; (try dsimp only at hSw); go_simp; (try with_reducible rfl))
      try simp only [Act.put, List.getElem_toArray, List.getElem_cons_zero, List.getElem_cons_succ, List.setIfInBounds_toArray, List.set_cons_zero, List.set_cons_succ]
      refine wpAnyH_take (i := 6) (v := ?v6_8) rfl (by kernel_rfl) (by kernel_rfl) (by kernel_rfl) (fun _ _ _ h => h) (Or.inl ⟨by rfl, ?hy6_8⟩) (by assumption) ?rest6_8
      case hy6_8 => (intro w hSw; (try dsimp only at hSw); go_simp; (try with_reducible rfl))
      try simp only [Act.put, List.getElem_toArray, List.getElem_cons_zero, List.getElem_cons_succ, List.setIfInBounds_toArray, List.set_cons_zero, List.set_cons_succ]
      obtain ⟨oc0, oc1, of0, of1⟩ := pq
      refine wpAnyH_ready (rs := [8]) (by kernel_rfl) (by simp) ?_
      refine AllReadyH.cons rfl (fun K hK => ?_) AllReadyH.nil
      go_simp
      have bZ : Below E.heap.size E ((W3.setCell ⟨q, 0, none⟩ (.int .i64 fl)).setCell ⟨q, 1, none⟩ (.int .i64 fh)) := ((hHeld.2.2.2.2.2.2.2.2.2.2.2.2).setCell (p := ⟨q, 0, none⟩) (by dsimp only; omega) _).setCell (p := ⟨q, 1, none⟩) (by dsimp only; omega) _
      have bS : Below q W3 ((W3.setCell ⟨q, 0, none⟩ (.int .i64 fl)).setCell ⟨q, 1, none⟩ (.int .i64 fh)) := ((Below.refl q W3).setCell (p := ⟨q, 0, none⟩) (Nat.le_refl _) _).setCell (p := ⟨q, 1, none⟩) (Nat.le_refl _) _
      have z0 : ((W3.setCell ⟨q, 0, none⟩ (.int .i64 fl)).setCell ⟨q, 1, none⟩ (.int .i64 fh)).cell? ⟨q, 0, none⟩ = some (.int .i64 fl) := set_other (by decide) (set_same oc0)
      have z1 : ((W3.setCell ⟨q, 0, none⟩ (.int .i64 fl)).setCell ⟨q, 1, none⟩ (.int .i64 fh)).cell? ⟨q, 1, none⟩ = some (.int .i64 fh) := set_same (set_other (by decide) oc1)
      have zz : q < ((W3.setCell ⟨q, 0, none⟩ (.int .i64 fl)).setCell ⟨q, 1, none⟩ (.int .i64 fh)).heap.size := by simp; exact zq
      obtain ⟨G, hG⟩ : ∃ G, G = (W3.setCell ⟨q, 0, none⟩ (.int .i64 fl)).setCell ⟨q, 1, none⟩ (.int .i64 fh) := ⟨_, rfl⟩
      rw [← hG] at bZ bS z0 z1 zz ⊢
      refine hK.out _ _ (⟨keepB bS (by omega) hHeld.1, keepB bS (by omega) hHeld.2.1, keepB bS (by omega) hHeld.2.2.1, keepB bS (by omega) hHeld.2.2.2.1, keepB bS (by omega) hHeld.2.2.2.2.1, keepB bS (by omega) hHeld.2.2.2.2.2.1, keepB bS (by omega) hHeld.2.2.2.2.2.2.1, keepB bS (by omega) hHeld.2.2.2.2.2.2.2.1, keepB bS (by omega) hHeld.2.2.2.2.2.2.2.2.1, keepB bS (by omega) hHeld.2.2.2.2.2.2.2.2.2.1, keepB bS (by omega) hHeld.2.2.2.2.2.2.2.2.2.2.1, keepB bS (by omega) hHeld.2.2.2.2.2.2.2.2.2.2.2.1, bZ⟩) (fun hHeld2 => ?_)
      clear hK K hHeld hG bS oc0 oc1 of0 of1
      have hHeld := hHeld2
      clear hHeld2
      try simp only [Act.put, List.getElem_toArray, List.getElem_cons_zero, List.getElem_cons_succ, List.setIfInBounds_toArray, List.set_cons_zero, List.set_cons_succ]
      refine wpAnyH_done (by kernel_rfl) ?_ _
      change wpList _ _ _ _ _ _
      simp only [List.drop_succ_cons, List.drop_zero]
      obtain ⟨h0, h1, h2, h3, h4, h5, h6, h7, h8, h9, h10, h11, hbG⟩ := hHeld
      have bG : Below w.heap.size w G := bE.trans (hbG.mono bE.size)
      clear HS HMd HF2 hbG bZ h0 h1 h2 h3 h4 h5 h6 h7 h8 h9
      have cz : C.heap.size < G.heap.size := World.block_lt_of_cell? _ ⟨C.heap.size, 0, none⟩ h10
      go_wp2_with fail
      refine (works_any _).mono ?_; rintro e G4 ⟨rfl, hb1⟩
      have bG4 := bG.trans (hb1.mono bG.size)
      clear hb1
      go_wp2
      go_ret
      exact ⟨rfl, bG4⟩
  · skip
    go_simp
    have pq := PQ.new D
    have zq : D.heap.size < (D.alloc (.cells #[.int .i64 0, .int .i64 0] 24)).heap.size := by rw [World.size_alloc]; omega
    have lq : E.heap.size ≤ D.heap.size := hHeld.2.2.2.2.2.2.2.2.2.2.2.2.size
    have hb' : Below D.heap.size D (D.alloc (.cells #[.int .i64 0, .int .i64 0] 24)) := below_alloc _ _
    obtain ⟨q, hq⟩ : ∃ q, q = D.heap.size := ⟨_, rfl⟩
    obtain ⟨W1, hF⟩ : ∃ F, F = D.alloc (.cells #[.int .i64 0, .int .i64 0] 24) := ⟨_, rfl⟩
    rw [← hF, ← hq] at pq zq
    rw [← hq] at lq
    rw [← hF] at hb' ⊢
    rw [← hq]
    refine hK.out _ _ (⟨keepW hb' hHeld.1, keepW hb' hHeld.2.1, keepW hb' hHeld.2.2.1, keepW hb' hHeld.2.2.2.1, keepW hb' hHeld.2.2.2.2.1, keepW hb' hHeld.2.2.2.2.2.1, keepW hb' hHeld.2.2.2.2.2.2.1, keepW hb' hHeld.2.2.2.2.2.2.2.1, keepW hb' hHeld.2.2.2.2.2.2.2.2.1, keepW hb' hHeld.2.2.2.2.2.2.2.2.2.1, keepW hb' hHeld.2.2.2.2.2.2.2.2.2.2.1, keepW hb' hHeld.2.2.2.2.2.2.2.2.2.2.2.1, hHeld.2.2.2.2.2.2.2.2.2.2.2.2.trans (hb'.mono hHeld.2.2.2.2.2.2.2.2.2.2.2.2.size)⟩) (fun hHeld2 => ?_)
    clear hK K hHeld hb' hF hq
    have hHeld := hHeld2
    clear hHeld2
    try simp only [Act.put, List.getElem_toArray, List.getElem_cons_zero, List.getElem_cons_succ, List.setIfInBounds_toArray, List.set_cons_zero, List.set_cons_succ]
    refine wpAnyH_ready (rs := [1]) (by kernel_rfl) (by simp) ?_
    refine AllReadyH.cons rfl (fun K hK => ?_) AllReadyH.nil
    go_simp
    refine (HMd.out _ (bE.trans (hHeld.2.2.2.2.2.2.2.2.2.2.2.2.mono bE.size))).mono ?_; rintro e' W2 ⟨a1, c1, a2, c2, rfl, hs1, hs2, hb'⟩
    have pq := pq.keep hb' zq
    have zq := Nat.lt_of_lt_of_le zq hb'.size
    refine hK.out _ _ (⟨keepW hb' hHeld.1, keepW hb' hHeld.2.1, keepW hb' hHeld.2.2.1, keepW hb' hHeld.2.2.2.1, keepW hb' hHeld.2.2.2.2.1, keepW hb' hHeld.2.2.2.2.2.1, keepW hb' hHeld.2.2.2.2.2.2.1, keepW hb' hHeld.2.2.2.2.2.2.2.1, keepW hb' hHeld.2.2.2.2.2.2.2.2.1, keepW hb' hHeld.2.2.2.2.2.2.2.2.2.1, keepW hb' hHeld.2.2.2.2.2.2.2.2.2.2.1, keepW hb' hHeld.2.2.2.2.2.2.2.2.2.2.2.1, hHeld.2.2.2.2.2.2.2.2.2.2.2.2.trans (hb'.mono hHeld.2.2.2.2.2.2.2.2.2.2.2.2.size)⟩) (fun hHeld2 => ?_)
    clear hK K hHeld hb'
    have hHeld := hHeld2
    clear hHeld2
    try simp only [Act.put, List.getElem_toArray, List.getElem_cons_zero, List.getElem_cons_succ, List.setIfInBounds_toArray, List.set_cons_zero, List.set_cons_succ]
    refine wpAnyH_ready (rs := [3]) (by kernel_rfl) (by simp) ?_
    refine AllReadyH.cons rfl (fun K hK => ?_) AllReadyH.nil
    go_simp
    refine (HF2.out _ _ _ _ _ hs1 hs2).mono ?_; rintro e' W3 ⟨rfl, hb'⟩
    have pq := pq.keep hb' zq
    have zq := Nat.lt_of_lt_of_le zq hb'.size
    refine hK.out _ _ (⟨keepW hb' hHeld.1, keepW hb' hHeld.2.1, keepW hb' hHeld.2.2.1, keepW hb' hHeld.2.2.2.1, keepW hb' hHeld.2.2.2.2.1, keepW hb' hHeld.2.2.2.2.2.1, keepW hb' hHeld.2.2.2.2.2.2.1, keepW hb' hHeld.2.2.2.2.2.2.2.1, keepW hb' hHeld.2.2.2.2.2.2.2.2.1, keepW hb' hHeld.2.2.2.2.2.2.2.2.2.1, keepW hb' hHeld.2.2.2.2.2.2.2.2.2.2.1, keepW hb' hHeld.2.2.2.2.2.2.2.2.2.2.2.1, hHeld.2.2.2.2.2.2.2.2.2.2.2.2.trans (hb'.mono hHeld.2.2.2.2.2.2.2.2.2.2.2.2.size)⟩) (fun hHeld2 => ?_)
    clear hK K hHeld hb'
    have hHeld := hHeld2
    clear hHeld2
    try simp only [Act.put, List.getElem_toArray, List.getElem_cons_zero, List.getElem_cons_succ, List.setIfInBounds_toArray, List.set_cons_zero, List.set_cons_succ]
    refine wpAnyH_take (i := 4) (v := ?v4_9) rfl (by kernel_rfl) (by kernel_rfl) (by kernel_rfl) (fun _ _ _ h => h) (Or.inl ⟨by rfl, ?hy4_9⟩) (by assumption) ?rest4_9
    case hy4_9 => (intro w hSw; (try dsimp only at hSw); go_simp; (try with_reducible rfl))
    try simp only [Act.put, List.getElem_toArray, List.getElem_cons_zero, List.getElem_cons_succ, List.setIfInBounds_toArray, List.set_cons_zero, List.set_cons_succ]
    refine wpAnyH_take (i := 5) (v := ?v5_10) rfl (by kernel_rfl) (by kernel_rfl) (by kernel_rfl) (fun _ _ _ h => h) (Or.inl ⟨by rfl, ?hy5_10⟩) (by assumption) ?rest5_10
    case hy5_10 => (intro w hSw; (try dsimp only at hSw); go_simp; (try with_reducible rfl))
    try simp only [Act.put, List.getElem_toArray, List.getElem_cons_zero, List.getElem_cons_succ, List.setIfInBounds_toArray, List.set_cons_zero, List.set_cons_succ]
    refine wpAnyH_take (i := 6) (v := ?v6_11) rfl (by kernel_rfl) (by kernel_rfl) (by kernel_rfl) (fun _ _ _ h => h) (Or.inl ⟨by rfl, ?hy6_11⟩) (by assumption) ?rest6_11
    case hy6_11 => (intro w hSw; (try dsimp only at hSw); go_simp; (try with_reducible rfl))
    try simp only [Act.put, List.getElem_toArray, List.getElem_cons_zero, List.getElem_cons_succ, List.setIfInBounds_toArray, List.set_cons_zero, List.set_cons_succ]
    obtain ⟨oc0, oc1, of0, of1⟩ := pq
    refine wpAnyH_ready (rs := [8]) (by kernel_rfl) (by simp) ?_
    refine AllReadyH.cons rfl (fun K hK => ?_) AllReadyH.nil
    go_simp
    have bZ : Below E.heap.size E ((W3.setCell ⟨q, 0, none⟩ (.int .i64 fl)).setCell ⟨q, 1, none⟩ (.int .i64 fh)) := ((hHeld.2.2.2.2.2.2.2.2.2.2.2.2).setCell (p := ⟨q, 0, none⟩) (by dsimp only; omega) _).setCell (p := ⟨q, 1, none⟩) (by dsimp only; omega) _
    have bS : Below q W3 ((W3.setCell ⟨q, 0, none⟩ (.int .i64 fl)).setCell ⟨q, 1, none⟩ (.int .i64 fh)) := ((Below.refl q W3).setCell (p := ⟨q, 0, none⟩) (Nat.le_refl _) _).setCell (p := ⟨q, 1, none⟩) (Nat.le_refl _) _
    have z0 : ((W3.setCell ⟨q, 0, none⟩ (.int .i64 fl)).setCell ⟨q, 1, none⟩ (.int .i64 fh)).cell? ⟨q, 0, none⟩ = some (.int .i64 fl) := set_other (by decide) (set_same oc0)
    have z1 : ((W3.setCell ⟨q, 0, none⟩ (.int .i64 fl)).setCell ⟨q, 1, none⟩ (.int .i64 fh)).cell? ⟨q, 1, none⟩ = some (.int .i64 fh) := set_same (set_other (by decide) oc1)
    have zz : q < ((W3.setCell ⟨q, 0, none⟩ (.int .i64 fl)).setCell ⟨q, 1, none⟩ (.int .i64 fh)).heap.size := by simp; exact zq
    obtain ⟨G, hG⟩ : ∃ G, G = (W3.setCell ⟨q, 0, none⟩ (.int .i64 fl)).setCell ⟨q, 1, none⟩ (.int .i64 fh) := ⟨_, rfl⟩
    rw [← hG] at bZ bS z0 z1 zz ⊢
    refine hK.out _ _ (⟨keepB bS (by omega) hHeld.1, keepB bS (by omega) hHeld.2.1, keepB bS (by omega) hHeld.2.2.1, keepB bS (by omega) hHeld.2.2.2.1, keepB bS (by omega) hHeld.2.2.2.2.1, keepB bS (by omega) hHeld.2.2.2.2.2.1, keepB bS (by omega) hHeld.2.2.2.2.2.2.1, keepB bS (by omega) hHeld.2.2.2.2.2.2.2.1, keepB bS (by omega) hHeld.2.2.2.2.2.2.2.2.1, keepB bS (by omega) hHeld.2.2.2.2.2.2.2.2.2.1, keepB bS (by omega) hHeld.2.2.2.2.2.2.2.2.2.2.1, keepB bS (by omega) hHeld.2.2.2.2.2.2.2.2.2.2.2.1, bZ⟩) (fun hHeld2 => ?_)
    clear hK K hHeld hG bS oc0 oc1 of0 of1
    have hHeld := hHeld2
    clear hHeld2
    try simp only [Act.put, List.getElem_toArray, List.getElem_cons_zero, List.getElem_cons_succ, List.setIfInBounds_toArray, List.set_cons_zero, List.set_cons_succ]
    refine wpAnyH_done (by kernel_rfl) ?_ _
    change wpList _ _ _ _ _ _
    simp only [List.drop_succ_cons, List.drop_zero]
    obtain ⟨h0, h1, h2, h3, h4, h5, h6, h7, h8, h9, h10, h11, hbG⟩ := hHeld
    have bG : Below w.heap.size w G := bE.trans (hbG.mono bE.size)
    clear HS HMd HF2 hbG bZ h0 h1 h2 h3 h4 h5 h6 h7 h8 h9
    have cz : C.heap.size < G.heap.size := World.block_lt_of_cell? _ ⟨C.heap.size, 0, none⟩ h10
    go_wp2_with fail
    refine (works_any _).mono ?_; rintro e G4 ⟨rfl, hb1⟩
    have bG4 := bG.trans (hb1.mono bG.size)
    clear hb1
    go_wp2
    go_ret
    exact ⟨rfl, bG4⟩

theorem RainZones_walk (la : Option Addr) (ln lc : Nat) (ra : Option Addr) (rn rc : Nat) (ml mh il ih al ah : Int) (lz rz : Nat → Int × Int) (lo hi : Int) (w : World) (hb : ln ≤ maxLen ∧ rn ≤ maxLen) (sl : SliceIs w la ln lc lz) (sr : SliceIs w ra rn rc rz) :
    Calls Try.prog 5 #[.agg #[.slice la ln lc, .slice ra rn rc, .int .i64 ml, .int .i64 mh, .int .i64 il, .int .i64 ih, .int .i64 al, .int .i64 ah], .agg #[.int .i64 lo, .int .i64 hi]] w fun e w' => e = .returned (.bool true) ∧ Below w.heap.size w w' := by
  by_cases h : 100 < ln ∨ 100 < rn
  · exact RainZones_big la ln lc ra rn rc ml mh il ih al ah lo hi w hb h
  · exact RainZones_few la ln lc ra rn rc ml mh il ih al ah lz rz lo hi w (by omega) (by omega) sl sr

end Go.Proofs.Ytdmbkhmhaininaa
