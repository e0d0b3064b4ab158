/-
  Rows of spans; spans compared; what is behind a gate.
-/
import Derived.Test.YtdmbkhmhaininaaE
import Derived.StillTailTactics
import Derived.Deep.OwnRows
namespace Go.Proofs.Ytdmbkhmhaininaa
open Go.RowKit
set_option linter.unusedVariables false
set_option linter.unusedSimpArgs false

/-- a row of spans that may be written -/
structure SpRow (w : World) (b n : Nat) (L H : Nat → Int) : Prop where
  c0 : ∀ k, k < n → w.cell? ⟨b, k * 2, none⟩ = some (.int .i64 (L k))
  c1 : ∀ k, k < n → w.cell? ⟨b, k * 2 + 1, none⟩ = some (.int .i64 (H k))
  f0 : ∀ k, k < n → w.frozen? ⟨b, k * 2, none⟩ = false
  f1 : ∀ k, k < n → w.frozen? ⟨b, k * 2 + 1, none⟩ = false
theorem SpRow.keep {C b n : Nat} {W w1 : World} {L H : Nat → Int} (s : SpRow W b n L H) (hb : Below C W w1) (h : b < C) : SpRow w1 b n L H :=
  ⟨fun k hk => keepB hb h (s.c0 k hk), fun k hk => keepB hb h (s.c1 k hk), fun k hk => keepF hb h (s.f0 k hk), fun k hk => keepF hb h (s.f1 k hk)⟩
theorem SpRow.ext {b n : Nat} {W : World} {L H L2 H2 : Nat → Int} (s : SpRow W b n L H) (h : ∀ k, k < n → L2 k = L k) (h2 : ∀ k, k < n → H2 k = H k) : SpRow W b n L2 H2 :=
  ⟨fun k hk => by rw [h k hk]; exact s.c0 k hk, fun k hk => by rw [h2 k hk]; exact s.c1 k hk, s.f0, s.f1⟩
theorem cell_set {w : World} {b i k : Nat} {u v : Value} (h : w.cell? ⟨b, i, none⟩ = some v) : (w.setCell ⟨b, k, none⟩ u).cell? ⟨b, i, none⟩ = some (if i = k then u else v) := by
  by_cases e : i = k
  · subst e
    rw [if_pos rfl]
    exact World.cell?_setCell_same' _ _ _ (by rw [h]; rfl)
  · rw [if_neg e, World.cell?_setCell_other _ _ _ _ (fun h => e (by injection h with _ h3; exact h3.symm))]; exact h
theorem SpRow.setL {b n k : Nat} {W : World} {L H L2 : Nat → Int} {v : Int} (s : SpRow W b n L H) (h1 : L2 k = v) (h2 : ∀ i, i ≠ k → L2 i = L i) : SpRow (W.setCell ⟨b, k * 2, none⟩ (.int .i64 v)) b n L2 H := by
  refine ⟨fun i hi => ?_, fun i hi => ?_, fun i hi => by simp; exact s.f0 i hi, fun i hi => by simp; exact s.f1 i hi⟩
  · have h := cell_set (k := k * 2) (u := .int .i64 v) (s.c0 i hi)
    by_cases e : i = k
    · subst e; rw [if_pos rfl] at h; rw [h1]; exact h
    · rw [if_neg (by omega)] at h; rw [h2 i e]; exact h
  · have h := cell_set (k := k * 2) (u := .int .i64 v) (s.c1 i hi)
    rw [if_neg (by omega)] at h; exact h
theorem SpRow.setH {b n k : Nat} {W : World} {L H H2 : Nat → Int} {v : Int} (s : SpRow W b n L H) (h1 : H2 k = v) (h2 : ∀ i, i ≠ k → H2 i = H i) : SpRow (W.setCell ⟨b, k * 2 + 1, none⟩ (.int .i64 v)) b n L H2 := by
  refine ⟨fun i hi => ?_, fun i hi => ?_, fun i hi => by simp; exact s.f0 i hi, fun i hi => by simp; exact s.f1 i hi⟩
  · have h := cell_set (k := k * 2 + 1) (u := .int .i64 v) (s.c0 i hi)
    rw [if_neg (by omega)] at h; exact h
  · have h := cell_set (k := k * 2 + 1) (u := .int .i64 v) (s.c1 i hi)
    by_cases e : i = k
    · subst e; rw [if_pos rfl] at h; rw [h1]; exact h
    · rw [if_neg (by omega)] at h; rw [h2 i e]; exact h

set_option maxHeartbeats 1600000 in
theorem spans_same (n b1 b2 o1 o2 c1 c2 : Nat) (zs : Nat → Int × Int) (w : World) (hn : n ≤ 100000) (h1 : SpansAt w b1 o1 n zs) (h2 : SpansAt w b2 o2 n zs) (l1 : b1 < w.heap.size) (l2 : b2 < w.heap.size) :
    Calls Try.prog 27 #[.slice (some ⟨b1, o1, none⟩) n c1, .slice (some ⟨b2, o2, none⟩) n c2] w fun e w' => e = .returned (.bool true) ∧ Below w.heap.size w w' := by
  have H1 := Lib.hid h1
  have H2 := Lib.hid h2
  clear h1 h2
  go_enter Try.func27, Try.ntmps27
  go_wp2
  go_loopw [5] (fun i wr => ∃ k : Nat, k ≤ n ∧ i = .int .i64 k ∧ Below w.heap.size w wr) (fun i _ => n - (intOf i).toNat)
  case atStart => exact ⟨0, Nat.zero_le _, rfl, Below.refl _ _⟩
  case round =>
    obtain ⟨k, hk, rfl, hbw⟩ := hrel
    by_cases hlt : k < n
    · have p1 := keepB hbw l1 (H1.out k hlt).1
      have p2 := keepB hbw l2 (H2.out k hlt).1
      have p3 := keepB hbw l1 (H1.out k hlt).2
      have p4 := keepB hbw l2 (H2.out k hlt).2
      have q0 : (0 : Int) ≤ (k : Int) := by omega
      have q1 : (k : Int) < (n : Int) := by omega
      go_wp2
      go_quiet (fail)
      go_wp2
      go_roundw
      case rel => exact ⟨k + 1, by omega, by go_num, drewN_below hbw _⟩
      case measure => simp [intOf]; omega
    · go_wp2
      go_ret
      exact ⟨rfl, hbw⟩


set_option maxHeartbeats 1600000 in
theorem same_nil (a b : Option Addr) (c1 c2 : Nat) (w : World) :
    Calls Try.prog 27 #[.slice a 0 c1, .slice b 0 c2] w fun e w' => e = .returned (.bool true) ∧ Below w.heap.size w w' := by
  go_enter Try.func27, Try.ntmps27
  go_wp2
  go_loopw [5] (fun i wr => i = .int .i64 0 ∧ Below w.heap.size w wr) (fun i _ => 0)
  case atStart => exact ⟨rfl, Below.refl _ _⟩
  case round =>
    obtain ⟨rfl, hbw⟩ := hrel
    go_wp2
    go_ret
    exact ⟨rfl, hbw⟩
theorem same_any (a b : Option Addr) (n c1 c2 : Nat) (zs : Nat → Int × Int) (w : World) (hn : n ≤ 100000) (h1 : SliceIs w a n c1 zs) (h2 : SliceIs w b n c2 zs) :
    Calls Try.prog 27 #[.slice a n c1, .slice b n c2] w fun e w' => e = .returned (.bool true) ∧ Below w.heap.size w w' := by
  rcases h1 with h0 | ⟨b1, o1, rfl, l1, s1⟩
  · subst h0; exact same_nil a b c1 c2 w
  rcases h2 with h0 | ⟨b2, o2, rfl, l2, s2⟩
  · subst h0; exact same_nil _ b c1 c2 w
  exact spans_same n b1 b2 o1 o2 c1 c2 zs w hn s1 s2 l1 l2

/-- the error of a table and of the number of gates -/
def rayC (n : Nat) (zs : Nat → Int × Int) (m : Nat) : Int := if tabC n zs 32768 = 0 then (if 200 < m then 9 else 0) else tabC n zs 32768
set_option maxHeartbeats 1600000 in
theorem checkRay_any (a : Option Addr) (n cap : Nat) (zs : Nat → Int × Int) (m : Nat) (w : World) (hm : m ≤ maxLen) (hs : SliceIs w a n cap zs) :
    Calls Try.prog 56 #[.slice a n cap, .int .i64 (m : Int)] w fun e w' => e = .returned (.int .i64 (rayC n zs m)) ∧ Below w.heap.size w w' := by
  unfold maxLen at hm
  have HT := Lib.hid (fun W hW => CheckTable_any a n cap zs 32768 W (hs.keep hW))
  clear hs
  unfold rayC
  by_cases h : tabC n zs 32768 = 0
  · rw [if_pos h]
    rw [h] at HT
    clear h
    by_cases h2 : 200 < m
    · rw [if_pos h2]
      have d : decide (200 < (m : Int)) = true := decide_eq_true (by omega)
      go_enter Try.func56, Try.ntmps56
      go_wp2_with fail
      refine (HT.out _ (Below.refl _ _)).mono ?_; rintro e X ⟨rfl, hbX⟩
      go_wp2
      go_ret
      exact ⟨rfl, hbX⟩
    · rw [if_neg h2]
      have d : decide (200 < (m : Int)) = false := decide_eq_false (by omega)
      go_enter Try.func56, Try.ntmps56
      go_wp2_with fail
      refine (HT.out _ (Below.refl _ _)).mono ?_; rintro e X ⟨rfl, hbX⟩
      go_wp2
      go_ret
      exact ⟨rfl, hbX⟩
  · rw [if_neg h]
    have hne : (tabC n zs 32768 != 0) = true := bne_iff_ne.2 h
    have hne2 : (tabC n zs 32768 == 0) = false := beq_eq_false_iff_ne.2 h
    generalize tabC n zs 32768 = e0 at *
    clear h
    go_enter Try.func56, Try.ntmps56
    go_wp2_with fail
    refine (HT.out _ (Below.refl _ _)).mono ?_; rintro e X ⟨rfl, hbX⟩
    go_wp2
    go_ret
    exact ⟨rfl, hbX⟩
theorem behind_boxes (w : World) (tl th vl vh : Int) : ∃ A, A = ((w.alloc (.cells #[.int .i64 tl, .int .i64 th] 24)).alloc (.cells #[.int .i64 vl, .int .i64 vh] 24)).alloc (.cells #[.int .i64 0, .int .i64 0] 24) ∧ Below w.heap.size w A ∧ A.heap.size = w.heap.size + 3 ∧ A.cell? ⟨w.heap.size, 0, none⟩ = some (.int .i64 tl) ∧ A.cell? ⟨w.heap.size, 1, none⟩ = some (.int .i64 th) ∧ A.cell? ⟨w.heap.size + 1, 0, none⟩ = some (.int .i64 vl) ∧ A.cell? ⟨w.heap.size + 1, 1, none⟩ = some (.int .i64 vh) ∧ A.cell? ⟨w.heap.size + 1 + 1, 0, none⟩ = some (.int .i64 0) ∧ A.cell? ⟨w.heap.size + 1 + 1, 1, none⟩ = some (.int .i64 0) ∧ A.frozen? ⟨w.heap.size + 1 + 1, 0, none⟩ = false ∧ A.frozen? ⟨w.heap.size + 1 + 1, 1, none⟩ = false := by
  obtain ⟨A0, e0⟩ : ∃ A, A = w.alloc (.cells #[.int .i64 tl, .int .i64 th] 24) := ⟨_, rfl⟩
  have s0 : A0.heap.size = w.heap.size + 1 := by rw [e0, World.size_alloc]
  have b0 : Below w.heap.size w A0 := by rw [e0]; exact below_alloc _ _
  have c0_0_0 : A0.cell? ⟨w.heap.size, 0, none⟩ = some (.int .i64 tl) := by rw [e0]; exact alloc_new rfl rfl
  have c0_1_0 : A0.cell? ⟨w.heap.size, 1, none⟩ = some (.int .i64 th) := by rw [e0]; exact alloc_new rfl rfl
  rw [← e0]
  obtain ⟨A1, e1⟩ : ∃ A, A = A0.alloc (.cells #[.int .i64 vl, .int .i64 vh] 24) := ⟨_, rfl⟩
  have s1 : A1.heap.size = w.heap.size + 2 := by rw [e1, World.size_alloc]; omega
  have b1 : Below w.heap.size w A1 := by rw [e1]; exact b0.trans ((below_alloc _ _).mono (by omega))
  have c0_0_1 : A1.cell? ⟨w.heap.size, 0, none⟩ = some (.int .i64 tl) := by rw [e1]; exact alloc_keep (by omega) c0_0_0
  have c0_1_1 : A1.cell? ⟨w.heap.size, 1, none⟩ = some (.int .i64 th) := by rw [e1]; exact alloc_keep (by omega) c0_1_0
  have c1_0_1 : A1.cell? ⟨w.heap.size + 1, 0, none⟩ = some (.int .i64 vl) := by rw [e1]; exact alloc_new s0.symm rfl
  have c1_1_1 : A1.cell? ⟨w.heap.size + 1, 1, none⟩ = some (.int .i64 vh) := by rw [e1]; exact alloc_new s0.symm rfl
  rw [← e1]
  exact ⟨_, rfl, b1.trans ((below_alloc _ _).mono (by omega)), by rw [World.size_alloc]; omega, alloc_keep (by omega) c0_0_1, alloc_keep (by omega) c0_1_1, alloc_keep (by omega) c1_0_1, alloc_keep (by omega) c1_1_1, alloc_new s1.symm rfl, alloc_new s1.symm rfl, alloc_newF s1.symm, alloc_newF s1.symm⟩

set_option maxRecDepth 100000 in
set_option maxHeartbeats 3200000 in
theorem behind_any (tl th vl vh : Int) (w : World) (t1 : 0 ≤ tl) (t2 : tl ≤ th) (t3 : th ≤ 1073741824) (v1 : 0 ≤ vl) (v2 : vl ≤ 32768) (v3 : 0 ≤ vh) (v4 : vh ≤ 32768) :
    Calls Try.prog 59 #[.agg #[.int .i64 tl, .int .i64 th], .agg #[.int .i64 vl, .int .i64 vh]] w fun e w' => e = .returned (.agg #[.int .i64 (tl * (65536 - vh) / 65536), .int .i64 (cdiv (th * (65536 - vl)) 65536)]) ∧ Below w.heap.size w w' := by
  have m1 := mul_bd (a := tl) (b := 65536 - vh) (A := 1073741824) (B := 65536) t1 (by omega) (by omega) (by omega)
  have m2 := mul_bd (a := th) (b := 65536 - vl) (A := 1073741824) (B := 65536) (by omega) t3 (by omega) (by omega)
  have i1 : IntKind.i64.wrap (65536 - vh) = 65536 - vh := IntWalk.i64_in _ (by omega)
  have i2 : IntKind.i64.wrap (65536 - vl) = 65536 - vl := IntWalk.i64_in _ (by omega)
  obtain ⟨N1, hN1⟩ : ∃ x, x = tl * (65536 - vh) := ⟨_, rfl⟩
  obtain ⟨N2, hN2⟩ : ∃ x, x = th * (65536 - vl) := ⟨_, rfl⟩
  rw [← hN1] at m1 ⊢
  rw [← hN2] at m2 ⊢
  have i3 : IntKind.i64.wrap (tl * (65536 - vh)) = N1 := by rw [← hN1]; exact IntWalk.i64_in _ (by omega)
  have i4 : IntKind.i64.wrap (th * (65536 - vl)) = N2 := by rw [← hN2]; exact IntWalk.i64_in _ (by omega)
  have i5 : tl * (65536 - vh) = N1 := hN1.symm
  have i6 : th * (65536 - vl) = N2 := hN2.symm
  have j1 : IntKind.i64.wrap N1 = N1 := IntWalk.i64_in _ (by omega)
  have j2 : IntKind.i64.wrap N2 = N2 := IntWalk.i64_in _ (by omega)
  have b1 := floor_bd (a := N1) (b := 65536) (q := 1073741824) (by decide) m1.1 (by omega)
  have b2 := cdiv_bd (a := N2) (b := 65536) (q := 1073741824) (by decide) m2.1 (by omega)
  obtain ⟨Q1, hQ1⟩ : ∃ x, x = N1 / 65536 := ⟨_, rfl⟩
  obtain ⟨C1, hC1⟩ : ∃ x, x = cdiv N2 65536 := ⟨_, rfl⟩
  rw [← hQ1] at b1 ⊢
  rw [← hC1] at b2 ⊢
  have HU := Lib.hid (fun W => show Calls Try.prog 58 #[.int .i64 N2, .int .i64 65536] W fun e w' => e = .returned (.int .i64 C1) ∧ W = w' from by rw [hC1]; exact up_any N2 65536 W (by decide) (by decide) m2.1 (by omega))
  have td : N1.tdiv 65536 = Q1 := by rw [hQ1]; exact Int.tdiv_eq_ediv_of_nonneg m1.1
  have td2 : N1 / 65536 = Q1 := hQ1.symm
  have i7 : IntKind.i64.wrap Q1 = Q1 := IntWalk.i64_in _ (by omega)
  clear hN1 hN2 hQ1 hC1
  obtain ⟨Y, hY, bY, zY, c0, c1, c2, c3, c4, c5, f4, f5⟩ := behind_boxes w tl th vl vh
  have HS := Lib.hid (show (fun w' : World => w'.cell? ⟨w.heap.size, 0, none⟩ = some (.int .i64 tl) ∧ w'.cell? ⟨w.heap.size, 1, none⟩ = some (.int .i64 th) ∧ w'.cell? ⟨w.heap.size + 1, 0, none⟩ = some (.int .i64 vl) ∧ w'.cell? ⟨w.heap.size + 1, 1, none⟩ = some (.int .i64 vh) ∧ w'.cell? ⟨w.heap.size + 1 + 1, 0, none⟩ = some (.int .i64 0) ∧ w'.cell? ⟨w.heap.size + 1 + 1, 1, none⟩ = some (.int .i64 0) ∧ Below Y.drew.heap.size Y.drew w') Y.drew from ⟨c0, c1, c2, c3, c4, c5, Below.refl _ _⟩)
  clear c0 c1 c2 c3 c4 c5
  go_enter Try.func59, Try.ntmps59
  go_wp2_with fail
  rw [← hY]
  clear hY
  refine wp_region_held_tail (S := (fun w' : World => w'.cell? ⟨w.heap.size, 0, none⟩ = some (.int .i64 tl) ∧ w'.cell? ⟨w.heap.size, 1, none⟩ = some (.int .i64 th) ∧ w'.cell? ⟨w.heap.size + 1, 0, none⟩ = some (.int .i64 vl) ∧ w'.cell? ⟨w.heap.size + 1, 1, none⟩ = some (.int .i64 vh) ∧ w'.cell? ⟨w.heap.size + 1 + 1, 0, none⟩ = some (.int .i64 0) ∧ w'.cell? ⟨w.heap.size + 1 + 1, 1, none⟩ = some (.int .i64 0) ∧ Below Y.drew.heap.size Y.drew w')) 15 (by kernel_rfl) (by kernel_rfl) HS.out (fun hHeld => ?_)
  refine wpAnyH_take (i := 0) (v := ?v0_1) rfl (by kernel_rfl) (by kernel_rfl) (by kernel_rfl) (fun _ _ _ h => h) (Or.inl ⟨by rfl, ?hy0_1⟩) (by assumption) ?rest0_1
  case hy0_1 => (intro w hSw; (try dsimp only at hSw); go_simp; (try with_reducible rfl))
  try simp only [Act.put, List.setIfInBounds_toArray, List.set_cons_zero, List.set_cons_succ]
  refine wpAnyH_take (i := 1) (v := ?v1_2) rfl (by kernel_rfl) (by kernel_rfl) (by kernel_rfl) (fun _ _ _ h => h) (Or.inl ⟨by rfl, ?hy1_2⟩) (by assumption) ?rest1_2
  case hy1_2 => (intro w hSw; (try dsimp only at hSw); go_simp; (try with_reducible rfl))
  try simp only [Act.put, List.setIfInBounds_toArray, List.set_cons_zero, List.set_cons_succ]
  refine wpAnyH_take (i := 2) (v := ?v2_3) rfl (by kernel_rfl) (by kernel_rfl) (by kernel_rfl) (fun _ _ _ h => h) (Or.inl ⟨by rfl, ?hy2_3⟩) (by assumption) ?rest2_3
  case hy2_3 => (intro w hSw; (try dsimp only at hSw); go_simp; (try with_reducible rfl))
  try simp only [Act.put, List.setIfInBounds_toArray, List.set_cons_zero, List.set_cons_succ]
  refine wpAnyH_take (i := 3) (v := ?v3_4) rfl (by kernel_rfl) (by kernel_rfl) (by kernel_rfl) (fun _ _ _ h => h) (Or.inl ⟨by rfl, ?hy3_4⟩) (by assumption) ?rest3_4
  case hy3_4 => (intro w hSw; (try dsimp only at hSw); go_simp; (try with_reducible rfl))
  try simp only [Act.put, List.setIfInBounds_toArray, List.set_cons_zero, List.set_cons_succ]
  refine wpAnyH_take (i := 4) (v := ?v4_5) rfl (by kernel_rfl) (by kernel_rfl) (by kernel_rfl) (fun _ _ _ h => h) (Or.inl ⟨by rfl, ?hy4_5⟩) (by assumption) ?rest4_5
  case hy4_5 => (intro w hSw; (try dsimp only at hSw); go_simp; (try with_reducible rfl))
  try simp only [Act.put, List.setIfInBounds_toArray, List.set_cons_zero, List.set_cons_succ]
  refine wpAnyH_take (i := 5) (v := ?v5_6) rfl (by kernel_rfl) (by kernel_rfl) (by kernel_rfl) (fun _ _ _ h => h) (Or.inl ⟨by rfl, ?hy5_6⟩) (by assumption) ?rest5_6
  case hy5_6 => (intro w hSw; (try dsimp only at hSw); go_simp; (try with_reducible rfl))
  try simp only [Act.put, List.setIfInBounds_toArray, List.set_cons_zero, List.set_cons_succ]
  refine wpAnyH_take (i := 6) (v := ?v6_7) rfl (by kernel_rfl) (by kernel_rfl) (by kernel_rfl) (fun _ _ _ h => h) (Or.inl ⟨by rfl, ?hy6_7⟩) (by assumption) ?rest6_7
  case hy6_7 => (intro w hSw; (try dsimp only at hSw); go_simp; (try with_reducible rfl))
  try simp only [Act.put, List.setIfInBounds_toArray, List.set_cons_zero, List.set_cons_succ]
  refine wpAnyH_take (i := 7) (v := ?v7_8) rfl (by kernel_rfl) (by kernel_rfl) (by kernel_rfl) (fun _ _ _ h => h) (Or.inl ⟨by rfl, ?hy7_8⟩) (by assumption) ?rest7_8
  case hy7_8 => (intro w hSw; (try dsimp only at hSw); go_simp; (try with_reducible rfl))
  try simp only [Act.put, List.setIfInBounds_toArray, List.set_cons_zero, List.set_cons_succ]
  refine wpAnyH_take (i := 8) (v := ?v8_9) rfl (by kernel_rfl) (by kernel_rfl) (by kernel_rfl) (fun _ _ _ h => h) (Or.inl ⟨by rfl, ?hy8_9⟩) (by assumption) ?rest8_9
  case hy8_9 => (intro w hSw; (try dsimp only at hSw); go_simp; (try with_reducible rfl))
  try simp only [Act.put, List.setIfInBounds_toArray, List.set_cons_zero, List.set_cons_succ]
  refine wpAnyH_take (i := 9) (v := ?v9_10) rfl (by kernel_rfl) (by kernel_rfl) (by kernel_rfl) (fun _ _ _ h => h) (Or.inl ⟨by rfl, ?hy9_10⟩) (by assumption) ?rest9_10
  case hy9_10 => (intro w hSw; (try dsimp only at hSw); go_simp; (try with_reducible rfl))
  try simp only [Act.put, List.setIfInBounds_toArray, List.set_cons_zero, List.set_cons_succ]
  refine wpAnyH_take (i := 10) (v := ?v10_11) rfl (by kernel_rfl) (by kernel_rfl) (by kernel_rfl) (fun _ _ _ h => h) (Or.inl ⟨by rfl, ?hy10_11⟩) (by assumption) ?rest10_11
  case hy10_11 => (intro w hSw; (try dsimp only at hSw); go_simp; (try with_reducible rfl))
  try simp only [Act.put, List.setIfInBounds_toArray, List.set_cons_zero, List.set_cons_succ]
  refine wpAnyH_take (i := 11) (v := ?v11_12) rfl (by kernel_rfl) (by kernel_rfl) (by kernel_rfl) (fun _ _ _ h => h) (Or.inl ⟨by rfl, ?hy11_12⟩) (by assumption) ?rest11_12
  case hy11_12 => (intro w hSw; (try dsimp only at hSw); go_simp; (try with_reducible rfl))
  try simp only [Act.put, List.setIfInBounds_toArray, List.set_cons_zero, List.set_cons_succ]
  refine wpAnyH_take (i := 12) (v := ?v12_13) rfl (by kernel_rfl) (by kernel_rfl) (by kernel_rfl) (fun _ _ _ h => h) (Or.inl ⟨by rfl, ?hy12_13⟩) (by assumption) ?rest12_13
  case hy12_13 => (intro w hSw; (try dsimp only at hSw); go_simp; (try with_reducible rfl))
  try simp only [Act.put, List.setIfInBounds_toArray, List.set_cons_zero, List.set_cons_succ]
  refine wpAnyH_ready (rs := [13]) (by kernel_rfl) (by simp) ?_
  refine AllReadyH.cons rfl (fun K hK => ?_) AllReadyH.nil
  go_simp; go_at_call 58; refine (HU.out _).mono ?_; rintro e' w' ⟨rfl, rfl⟩
  refine hK.out _ _ hHeld (fun hHeld => ?_)
  clear hK K
  try simp only [Act.put, List.setIfInBounds_toArray, List.set_cons_zero, List.set_cons_succ]
  refine wpAnyH_take (i := 14) (v := ?v14_14) rfl (by kernel_rfl) (by kernel_rfl) (by kernel_rfl) (fun _ _ _ h => h) (Or.inl ⟨by rfl, ?hy14_14⟩) (by assumption) ?rest14_14
  case hy14_14 => (intro w hSw; (try dsimp only at hSw); go_simp; (try with_reducible rfl))
  try simp only [Act.put, List.setIfInBounds_toArray, List.set_cons_zero, List.set_cons_succ]
  refine wpAnyH_done (by kernel_rfl) ?_ _
  change wpList _ _ _ _ _ _
  simp only [List.drop_succ_cons, List.drop_zero]
  obtain ⟨g0, g1, g2, g3, g4, g5, gb⟩ := hHeld
  have k0 : Y.drew.frozen? ⟨w.heap.size + 1 + 1, 0, none⟩ = false := f4
  have k1 : Y.drew.frozen? ⟨w.heap.size + 1 + 1, 1, none⟩ = false := f5
  have bV : Below w.heap.size w Y.drew := bY.drew
  obtain ⟨V, hV⟩ : ∃ V, V = Y.drew := ⟨_, rfl⟩
  rw [← hV] at g0 g1 g2 g3 g4 g5 k0 k1 bV ⊢
  clear hV gb f4 f5 HS HU
  go_wp2
  exact bodyPost_ret (v := .agg #[.int .i64 Q1, .int .i64 C1]) (by simp [results, Try.results59, go_sem, set_same (i := 0) (v := .int .i64 Q1) g4, set_other (i := 1) (j := 0) (v := .int .i64 C1) (by decide) (set_same (i := 0) (v := .int .i64 Q1) g4), set_same (i := 1) (v := .int .i64 C1) (set_other (i := 0) (j := 1) (v := .int .i64 Q1) (by decide) g5)]) rfl ⟨rfl, ((bV.setCell (p := ⟨w.heap.size + 1 + 1, 0, none⟩) (by dsimp only; omega) _).setCell (p := ⟨w.heap.size + 1 + 1, 1, none⟩) (by dsimp only; omega) _)⟩

theorem fld0 (a b : Int) (w : World) : (Instr.field 24 (.agg #[.int .i64 a, .int .i64 b]) 0).run Try.prog w = .ok (.int .i64 a) w := by kernel_rfl
theorem fld1 (a b : Int) (w : World) : (Instr.field 24 (.agg #[.int .i64 a, .int .i64 b]) 1).run Try.prog w = .ok (.int .i64 b) w := by kernel_rfl

set_option maxRecDepth 100000 in
set_option maxHeartbeats 3200000 in
theorem next_any (b off n cap : Nat) (zs : Nat → Int × Int) (tl th zl zh : Int) (w : World) (hk : TabOk n zs 32768) (t1 : 0 ≤ tl) (t2 : tl ≤ th) (t3 : th ≤ 1073741824) (z1 : 0 ≤ zl) (z2 : zl ≤ 1073741824) (z3 : 0 ≤ zh) (z4 : zh ≤ 1073741824) (hs : SpansAt w b off n zs) (hb : b < w.heap.size) :
    Calls Try.prog 62 #[.slice (some ⟨b, off, none⟩) n cap, .agg #[.int .i64 tl, .int .i64 th], .agg #[.int .i64 zl, .int .i64 zh]] w fun e w' => e = .returned (.agg #[.int .i64 (tl * (65536 - valHi n zs zh) / 65536), .int .i64 (cdiv (th * (65536 - valLo n zs zl)) 65536)]) ∧ Below w.heap.size w w' := by
  have HV1 := Lib.hid (fun W (hW : Below w.heap.size w W) => refvalue_some b off n cap zs 32768 zh W hk (by decide) z3 z4 (hs.keep hW hb) (Nat.lt_of_lt_of_le hb hW.size))
  have HV2 := Lib.hid (fun W (hW : Below w.heap.size w W) => refvalue_some b off n cap zs 32768 zl W hk (by decide) z1 z2 (hs.keep hW hb) (Nat.lt_of_lt_of_le hb hW.size))
  obtain ⟨u1, u2, u3⟩ := hk.val (by decide) z3
  obtain ⟨u4, u5, u6⟩ := hk.val (by decide) z1
  generalize valLo n zs zh = q1 at *
  generalize valHi n zs zh = vh at *
  generalize valLo n zs zl = vl at *
  generalize valHi n zs zl = q2 at *
  have v1 : 0 ≤ vl := by omega
  have v2 : vl ≤ 32768 := by omega
  have v3 : 0 ≤ vh := by omega
  have v4 : vh ≤ 32768 := by omega
  clear hs u1 u2 u3 u4 u5 u6 hk
  have m1 := mul_bd (a := tl) (b := 65536 - vh) (A := 1073741824) (B := 65536) t1 (by omega) (by omega) (by omega)
  have m2 := mul_bd (a := th) (b := 65536 - vl) (A := 1073741824) (B := 65536) (by omega) t3 (by omega) (by omega)
  have i1 : IntKind.i64.wrap (65536 - vh) = 65536 - vh := IntWalk.i64_in _ (by omega)
  have i2 : IntKind.i64.wrap (65536 - vl) = 65536 - vl := IntWalk.i64_in _ (by omega)
  obtain ⟨N1, hN1⟩ : ∃ x, x = tl * (65536 - vh) := ⟨_, rfl⟩
  obtain ⟨N2, hN2⟩ : ∃ x, x = th * (65536 - vl) := ⟨_, rfl⟩
  rw [← hN1] at m1 ⊢
  rw [← hN2] at m2 ⊢
  have i3 : IntKind.i64.wrap (tl * (65536 - vh)) = N1 := by rw [← hN1]; exact IntWalk.i64_in _ (by omega)
  have i4 : IntKind.i64.wrap (th * (65536 - vl)) = N2 := by rw [← hN2]; exact IntWalk.i64_in _ (by omega)
  have i5 : tl * (65536 - vh) = N1 := hN1.symm
  have i6 : th * (65536 - vl) = N2 := hN2.symm
  have j1 : IntKind.i64.wrap N1 = N1 := IntWalk.i64_in _ (by omega)
  have j2 : IntKind.i64.wrap N2 = N2 := IntWalk.i64_in _ (by omega)
  have b1 := floor_bd (a := N1) (b := 65536) (q := 1073741824) (by decide) m1.1 (by omega)
  have b2 := cdiv_bd (a := N2) (b := 65536) (q := 1073741824) (by decide) m2.1 (by omega)
  obtain ⟨Q1, hQ1⟩ : ∃ x, x = N1 / 65536 := ⟨_, rfl⟩
  obtain ⟨C1, hC1⟩ : ∃ x, x = cdiv N2 65536 := ⟨_, rfl⟩
  rw [← hQ1] at b1 ⊢
  rw [← hC1] at b2 ⊢
  have HU := Lib.hid (fun W => show Calls Try.prog 61 #[.int .i64 N2, .int .i64 65536] W fun e w' => e = .returned (.int .i64 C1) ∧ W = w' from by rw [hC1]; exact Up_any N2 65536 W (by decide) (by omega) (by omega))
  have HD := Lib.hid (fun W => show Calls Try.prog 60 #[.int .i64 N1, .int .i64 65536] W fun e w' => e = .returned (.int .i64 Q1) ∧ W = w' from by rw [hQ1]; exact Down_any N1 65536 W (by decide) (by omega) (by omega))
  clear hN1 hN2 hQ1 hC1
  have F0 := fld0 vl q2
  have F1 := fld1 q1 vh
  obtain ⟨Y, hY, bY, zY, c0, c1, c2, c3, c4, c5, f4, f5⟩ := behind_boxes w tl th zl zh
  have HS := Lib.hid (show (fun w' : World => w'.cell? ⟨w.heap.size, 0, none⟩ = some (.int .i64 tl) ∧ w'.cell? ⟨w.heap.size, 1, none⟩ = some (.int .i64 th) ∧ w'.cell? ⟨w.heap.size + 1, 0, none⟩ = some (.int .i64 zl) ∧ w'.cell? ⟨w.heap.size + 1, 1, none⟩ = some (.int .i64 zh) ∧ w'.cell? ⟨w.heap.size + 1 + 1, 0, none⟩ = some (.int .i64 0) ∧ w'.cell? ⟨w.heap.size + 1 + 1, 1, none⟩ = some (.int .i64 0) ∧ Below Y.drew.heap.size Y.drew w') Y.drew from ⟨c0, c1, c2, c3, c4, c5, Below.refl _ _⟩)
  clear c0 c1 c2 c3 c4 c5
  go_enter Try.func62, Try.ntmps62
  go_wp2_with fail
  rw [← hY]
  clear hY
  refine wp_region_held_tail (S := (fun w' : World => w'.cell? ⟨w.heap.size, 0, none⟩ = some (.int .i64 tl) ∧ w'.cell? ⟨w.heap.size, 1, none⟩ = some (.int .i64 th) ∧ w'.cell? ⟨w.heap.size + 1, 0, none⟩ = some (.int .i64 zl) ∧ w'.cell? ⟨w.heap.size + 1, 1, none⟩ = some (.int .i64 zh) ∧ w'.cell? ⟨w.heap.size + 1 + 1, 0, none⟩ = some (.int .i64 0) ∧ w'.cell? ⟨w.heap.size + 1 + 1, 1, none⟩ = some (.int .i64 0) ∧ Below Y.drew.heap.size Y.drew w')) 11 (by kernel_rfl) (by kernel_rfl) HS.out (fun hHeld => ?_)
  refine wpAnyH_take (i := 0) (v := ?v0_15) rfl (by kernel_rfl) (by kernel_rfl) (by kernel_rfl) (fun _ _ _ h => h) (Or.inl ⟨by rfl, ?hy0_15⟩) (by assumption) ?rest0_15
  case hy0_15 => (intro w hSw; (try dsimp only at hSw); go_simp; (try with_reducible rfl))
  try simp only [Act.put, List.setIfInBounds_toArray, List.set_cons_zero, List.set_cons_succ]
  refine wpAnyH_take (i := 1) (v := ?v1_16) rfl (by kernel_rfl) (by kernel_rfl) (by kernel_rfl) (fun _ _ _ h => h) (Or.inl ⟨by rfl, ?hy1_16⟩) (by assumption) ?rest1_16
  case hy1_16 => (intro w hSw; (try dsimp only at hSw); go_simp; (try with_reducible rfl))
  try simp only [Act.put, List.setIfInBounds_toArray, List.set_cons_zero, List.set_cons_succ]
  refine wpAnyH_take (i := 2) (v := ?v2_17) rfl (by kernel_rfl) (by kernel_rfl) (by kernel_rfl) (fun _ _ _ h => h) (Or.inl ⟨by rfl, ?hy2_17⟩) (by assumption) ?rest2_17
  case hy2_17 => (intro w hSw; (try dsimp only at hSw); go_simp; (try with_reducible rfl))
  try simp only [Act.put, List.setIfInBounds_toArray, List.set_cons_zero, List.set_cons_succ]
  refine wpAnyH_take (i := 5) (v := ?v5_18) rfl (by kernel_rfl) (by kernel_rfl) (by kernel_rfl) (fun _ _ _ h => h) (Or.inl ⟨by rfl, ?hy5_18⟩) (by assumption) ?rest5_18
  case hy5_18 => (intro w hSw; (try dsimp only at hSw); go_simp; (try with_reducible rfl))
  try simp only [Act.put, List.setIfInBounds_toArray, List.set_cons_zero, List.set_cons_succ]
  refine wpAnyH_take (i := 6) (v := ?v6_19) rfl (by kernel_rfl) (by kernel_rfl) (by kernel_rfl) (fun _ _ _ h => h) (Or.inl ⟨by rfl, ?hy6_19⟩) (by assumption) ?rest6_19
  case hy6_19 => (intro w hSw; (try dsimp only at hSw); go_simp; (try with_reducible rfl))
  try simp only [Act.put, List.setIfInBounds_toArray, List.set_cons_zero, List.set_cons_succ]
  refine wpAnyH_take (i := 7) (v := ?v7_20) rfl (by kernel_rfl) (by kernel_rfl) (by kernel_rfl) (fun _ _ _ h => h) (Or.inl ⟨by rfl, ?hy7_20⟩) (by assumption) ?rest7_20
  case hy7_20 => (intro w hSw; (try dsimp only at hSw); go_simp; (try with_reducible rfl))
  try simp only [Act.put, List.setIfInBounds_toArray, List.set_cons_zero, List.set_cons_succ]
  refine wpAnyH_ready (rs := [3]) (by kernel_rfl) (by simp) ?_
  refine AllReadyH.cons rfl (fun K hK => ?_) AllReadyH.nil
  go_simp; go_at_call 55; refine (HV1.out _ (bY.drew.trans (hHeld.2.2.2.2.2.2.mono bY.drew.size))).mono ?_; rintro e' w' ⟨rfl, hb'⟩
  refine hK.out _ _ (⟨keepW hb' hHeld.1, keepW hb' hHeld.2.1, keepW hb' hHeld.2.2.1, keepW hb' hHeld.2.2.2.1, keepW hb' hHeld.2.2.2.2.1, keepW hb' hHeld.2.2.2.2.2.1, hHeld.2.2.2.2.2.2.trans (hb'.mono hHeld.2.2.2.2.2.2.size)⟩) (fun hHeld => ?_)
  clear hK K
  try simp only [Act.put, List.setIfInBounds_toArray, List.set_cons_zero, List.set_cons_succ]
  refine wpAnyH_take (i := 4) (v := ?v4_21) rfl (by kernel_rfl) (by kernel_rfl) (by kernel_rfl) (fun _ _ _ h => h) (Or.inl ⟨by rfl, ?hy4_21⟩) (by assumption) ?rest4_21
  case hy4_21 => (intro w hSw; (try dsimp only at hSw); go_simp; (try with_reducible rfl))
  try simp only [Act.put, List.setIfInBounds_toArray, List.set_cons_zero, List.set_cons_succ]
  refine wpAnyH_ready (rs := [8]) (by kernel_rfl) (by simp) ?_
  refine AllReadyH.cons rfl (fun K hK => ?_) AllReadyH.nil
  go_simp; go_at_call 55; refine (HV2.out _ (bY.drew.trans (hHeld.2.2.2.2.2.2.mono bY.drew.size))).mono ?_; rintro e' w' ⟨rfl, hb'⟩
  refine hK.out _ _ (⟨keepW hb' hHeld.1, keepW hb' hHeld.2.1, keepW hb' hHeld.2.2.1, keepW hb' hHeld.2.2.2.1, keepW hb' hHeld.2.2.2.2.1, keepW hb' hHeld.2.2.2.2.2.1, hHeld.2.2.2.2.2.2.trans (hb'.mono hHeld.2.2.2.2.2.2.size)⟩) (fun hHeld => ?_)
  clear hK K
  try simp only [Act.put, List.setIfInBounds_toArray, List.set_cons_zero, List.set_cons_succ]
  refine wpAnyH_take (i := 9) (v := ?v9_22) rfl (by kernel_rfl) (by kernel_rfl) (by kernel_rfl) (fun _ _ _ h => h) (Or.inl ⟨by rfl, ?hy9_22⟩) (by assumption) ?rest9_22
  case hy9_22 => (intro w hSw; (try dsimp only at hSw); go_simp; (try with_reducible rfl))
  try simp only [Act.put, List.setIfInBounds_toArray, List.set_cons_zero, List.set_cons_succ]
  refine wpAnyH_take (i := 10) (v := ?v10_23) rfl (by kernel_rfl) (by kernel_rfl) (by kernel_rfl) (fun _ _ _ h => h) (Or.inl ⟨by rfl, ?hy10_23⟩) (by assumption) ?rest10_23
  case hy10_23 => (intro w hSw; (try dsimp only at hSw); go_simp; (try with_reducible rfl))
  try simp only [Act.put, List.setIfInBounds_toArray, List.set_cons_zero, List.set_cons_succ]
  refine wpAnyH_done (by kernel_rfl) ?_ _
  change wpList _ _ _ _ _ _
  simp only [List.drop_succ_cons, List.drop_zero]
  obtain ⟨g0, g1, g2, g3, g4, g5, gb⟩ := hHeld
  rename World => X
  have y2 : w.heap.size + 1 + 1 < X.heap.size := by have := gb.size; have : Y.drew.heap.size = Y.heap.size := rfl; omega
  have bX : Below w.heap.size w X := bY.drew.trans (gb.mono bY.drew.size)
  have x4 : X.frozen? ⟨w.heap.size + 1 + 1, 0, none⟩ = false := by rw [gb.frozen (p := ⟨w.heap.size + 1 + 1, 0, none⟩) (show w.heap.size + 1 + 1 < Y.drew.heap.size by have : Y.drew.heap.size = Y.heap.size := rfl; omega)]; exact f4
  have x5 : X.frozen? ⟨w.heap.size + 1 + 1, 1, none⟩ = false := by rw [gb.frozen (p := ⟨w.heap.size + 1 + 1, 1, none⟩) (show w.heap.size + 1 + 1 < Y.drew.heap.size by have : Y.drew.heap.size = Y.heap.size := rfl; omega)]; exact f5
  clear gb bY f4 f5 HS HV1 HV2 F0 F1
  have HS := Lib.hid (show (fun w' : World => w'.cell? ⟨w.heap.size, 0, none⟩ = some (.int .i64 tl) ∧ w'.cell? ⟨w.heap.size, 1, none⟩ = some (.int .i64 th) ∧ w'.cell? ⟨w.heap.size + 1, 0, none⟩ = some (.int .i64 zl) ∧ w'.cell? ⟨w.heap.size + 1, 1, none⟩ = some (.int .i64 zh) ∧ w'.cell? ⟨w.heap.size + 1 + 1, 0, none⟩ = some (.int .i64 0) ∧ w'.cell? ⟨w.heap.size + 1 + 1, 1, none⟩ = some (.int .i64 0) ∧ Below X.drew.heap.size X.drew w') X.drew from ⟨g0, g1, g2, g3, g4, g5, Below.refl _ _⟩)
  clear g0 g1 g2 g3 g4 g5
  go_wp2_with fail
  refine wp_region_held_tail (S := (fun w' : World => w'.cell? ⟨w.heap.size, 0, none⟩ = some (.int .i64 tl) ∧ w'.cell? ⟨w.heap.size, 1, none⟩ = some (.int .i64 th) ∧ w'.cell? ⟨w.heap.size + 1, 0, none⟩ = some (.int .i64 zl) ∧ w'.cell? ⟨w.heap.size + 1, 1, none⟩ = some (.int .i64 zh) ∧ w'.cell? ⟨w.heap.size + 1 + 1, 0, none⟩ = some (.int .i64 0) ∧ w'.cell? ⟨w.heap.size + 1 + 1, 1, none⟩ = some (.int .i64 0) ∧ Below X.drew.heap.size X.drew w')) 13 (by kernel_rfl) (by kernel_rfl) HS.out (fun hHeld => ?_)
  refine wpAnyH_take (i := 0) (v := ?v0_24) rfl (by kernel_rfl) (by kernel_rfl) (by kernel_rfl) (fun _ _ _ h => h) (Or.inl ⟨by rfl, ?hy0_24⟩) (by assumption) ?rest0_24
  case hy0_24 => (intro w hSw; (try dsimp only at hSw); go_simp; (try with_reducible rfl))
  try simp only [Act.put, List.setIfInBounds_toArray, List.set_cons_zero, List.set_cons_succ]
  refine wpAnyH_take (i := 1) (v := ?v1_25) rfl (by kernel_rfl) (by kernel_rfl) (by kernel_rfl) (fun _ _ _ h => h) (Or.inl ⟨by rfl, ?hy1_25⟩) (by assumption) ?rest1_25
  case hy1_25 => (intro w hSw; (try dsimp only at hSw); go_simp; (try with_reducible rfl))
  try simp only [Act.put, List.setIfInBounds_toArray, List.set_cons_zero, List.set_cons_succ]
  refine wpAnyH_take (i := 2) (v := ?v2_26) rfl (by kernel_rfl) (by kernel_rfl) (by kernel_rfl) (fun _ _ _ h => h) (Or.inl ⟨by rfl, ?hy2_26⟩) (by assumption) ?rest2_26
  case hy2_26 => (intro w hSw; (try dsimp only at hSw); go_simp; (try with_reducible rfl))
  try simp only [Act.put, List.setIfInBounds_toArray, List.set_cons_zero, List.set_cons_succ]
  refine wpAnyH_take (i := 3) (v := ?v3_27) rfl (by kernel_rfl) (by kernel_rfl) (by kernel_rfl) (fun _ _ _ h => h) (Or.inl ⟨by rfl, ?hy3_27⟩) (by assumption) ?rest3_27
  case hy3_27 => (intro w hSw; (try dsimp only at hSw); go_simp; (try with_reducible rfl))
  try simp only [Act.put, List.setIfInBounds_toArray, List.set_cons_zero, List.set_cons_succ]
  refine wpAnyH_take (i := 4) (v := ?v4_28) rfl (by kernel_rfl) (by kernel_rfl) (by kernel_rfl) (fun _ _ _ h => h) (Or.inl ⟨by rfl, ?hy4_28⟩) (by assumption) ?rest4_28
  case hy4_28 => (intro w hSw; (try dsimp only at hSw); go_simp; (try with_reducible rfl))
  try simp only [Act.put, List.setIfInBounds_toArray, List.set_cons_zero, List.set_cons_succ]
  refine wpAnyH_take (i := 6) (v := ?v6_29) rfl (by kernel_rfl) (by kernel_rfl) (by kernel_rfl) (fun _ _ _ h => h) (Or.inl ⟨by rfl, ?hy6_29⟩) (by assumption) ?rest6_29
  case hy6_29 => (intro w hSw; (try dsimp only at hSw); go_simp; (try with_reducible rfl))
  try simp only [Act.put, List.setIfInBounds_toArray, List.set_cons_zero, List.set_cons_succ]
  refine wpAnyH_take (i := 7) (v := ?v7_30) rfl (by kernel_rfl) (by kernel_rfl) (by kernel_rfl) (fun _ _ _ h => h) (Or.inl ⟨by rfl, ?hy7_30⟩) (by assumption) ?rest7_30
  case hy7_30 => (intro w hSw; (try dsimp only at hSw); go_simp; (try with_reducible rfl))
  try simp only [Act.put, List.setIfInBounds_toArray, List.set_cons_zero, List.set_cons_succ]
  refine wpAnyH_take (i := 8) (v := ?v8_31) rfl (by kernel_rfl) (by kernel_rfl) (by kernel_rfl) (fun _ _ _ h => h) (Or.inl ⟨by rfl, ?hy8_31⟩) (by assumption) ?rest8_31
  case hy8_31 => (intro w hSw; (try dsimp only at hSw); go_simp; (try with_reducible rfl))
  try simp only [Act.put, List.setIfInBounds_toArray, List.set_cons_zero, List.set_cons_succ]
  refine wpAnyH_take (i := 9) (v := ?v9_32) rfl (by kernel_rfl) (by kernel_rfl) (by kernel_rfl) (fun _ _ _ h => h) (Or.inl ⟨by rfl, ?hy9_32⟩) (by assumption) ?rest9_32
  case hy9_32 => (intro w hSw; (try dsimp only at hSw); go_simp; (try with_reducible rfl))
  try simp only [Act.put, List.setIfInBounds_toArray, List.set_cons_zero, List.set_cons_succ]
  refine wpAnyH_take (i := 10) (v := ?v10_33) rfl (by kernel_rfl) (by kernel_rfl) (by kernel_rfl) (fun _ _ _ h => h) (Or.inl ⟨by rfl, ?hy10_33⟩) (by assumption) ?rest10_33
  case hy10_33 => (intro w hSw; (try dsimp only at hSw); go_simp; (try with_reducible rfl))
  try simp only [Act.put, List.setIfInBounds_toArray, List.set_cons_zero, List.set_cons_succ]
  refine wpAnyH_ready (rs := [5]) (by kernel_rfl) (by simp) ?_
  refine AllReadyH.cons rfl (fun K hK => ?_) AllReadyH.nil
  go_simp; go_at_call 60; refine (HD.out _).mono ?_; rintro e' w' ⟨rfl, rfl⟩
  refine hK.out _ _ hHeld (fun hHeld => ?_)
  clear hK K
  try simp only [Act.put, List.setIfInBounds_toArray, List.set_cons_zero, List.set_cons_succ]
  refine wpAnyH_ready (rs := [11]) (by kernel_rfl) (by simp) ?_
  refine AllReadyH.cons rfl (fun K hK => ?_) AllReadyH.nil
  go_simp; go_at_call 61; refine (HU.out _).mono ?_; rintro e' w' ⟨rfl, rfl⟩
  refine hK.out _ _ hHeld (fun hHeld => ?_)
  clear hK K
  try simp only [Act.put, List.setIfInBounds_toArray, List.set_cons_zero, List.set_cons_succ]
  refine wpAnyH_take (i := 12) (v := ?v12_34) rfl (by kernel_rfl) (by kernel_rfl) (by kernel_rfl) (fun _ _ _ h => h) (Or.inl ⟨by rfl, ?hy12_34⟩) (by assumption) ?rest12_34
  case hy12_34 => (intro w hSw; (try dsimp only at hSw); go_simp; (try with_reducible rfl))
  try simp only [Act.put, List.setIfInBounds_toArray, List.set_cons_zero, List.set_cons_succ]
  refine wpAnyH_done (by kernel_rfl) ?_ _
  change wpList _ _ _ _ _ _
  simp only [List.drop_succ_cons, List.drop_zero]
  obtain ⟨p0, p1, p2, p3, p4, p5, pb⟩ := hHeld
  have k0 : X.drew.frozen? ⟨w.heap.size + 1 + 1, 0, none⟩ = false := x4
  have k1 : X.drew.frozen? ⟨w.heap.size + 1 + 1, 1, none⟩ = false := x5
  have bV : Below w.heap.size w X.drew := bX.drew
  have y3 : w.heap.size + 1 + 1 < X.drew.heap.size := y2
  obtain ⟨V, hV⟩ : ∃ V, V = X.drew := ⟨_, rfl⟩
  rw [← hV] at p0 p1 p2 p3 p4 p5 k0 k1 bV y3 ⊢
  clear hV pb x4 x5 HS HU HD
  go_wp2
  exact bodyPost_ret (v := .agg #[.int .i64 Q1, .int .i64 C1]) (by simp [results, Try.results62, go_sem, set_same (i := 0) (v := .int .i64 Q1) p4, set_other (i := 1) (j := 0) (v := .int .i64 C1) (by decide) (set_same (i := 0) (v := .int .i64 Q1) p4), set_same (i := 1) (v := .int .i64 C1) (set_other (i := 0) (j := 1) (v := .int .i64 Q1) (by decide) p5)]) rfl ⟨rfl, ((bV.setCell (p := ⟨w.heap.size + 1 + 1, 0, none⟩) (by dsimp only; omega) _).setCell (p := ⟨w.heap.size + 1 + 1, 1, none⟩) (by dsimp only; omega) _)⟩

end Go.Proofs.Ytdmbkhmhaininaa
