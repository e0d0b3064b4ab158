/-
  Sum.
-/
import Derived.Test.YtdmbkhmhaininaaQP
namespace Go.Proofs.Ytdmbkhmhaininaa
open Go.RowKit
set_option linter.unusedVariables false
set_option linter.unusedSimpArgs false

theorem sum_boxes (w : World)  : ∃ A, A = w.alloc (.cells #[.int .i64 0, .int .i64 0] 24) ∧ Below w.heap.size w A ∧ A.heap.size = w.heap.size + 1 ∧ A.cell? ⟨w.heap.size, 0, none⟩ = some (.int .i64 0) ∧ A.cell? ⟨w.heap.size, 1, none⟩ = some (.int .i64 0) ∧ A.frozen? ⟨w.heap.size, 0, none⟩ = false ∧ A.frozen? ⟨w.heap.size, 1, none⟩ = false := by
  exact ⟨_, rfl, below_alloc _ _, by rw [World.size_alloc], alloc_new rfl rfl, alloc_new rfl rfl, alloc_newF rfl, alloc_newF rfl⟩

set_option maxHeartbeats 3200000 in
theorem Sum_bad (a : Option Addr) (n cap : Nat) (en sl e0 : Int) (w : World) (he : e0 ≠ 0) (hC : ∀ W, Below w.heap.size w W → Calls Try.prog 70 #[.slice a n cap] W fun e w' => e = .returned (.int .i64 e0) ∧ Below W.heap.size W w') :
    Calls Try.prog 32 #[.slice a n cap, .int .i64 en, .int .i64 sl] w fun e w' => e = .returned (.tuple #[.agg #[.int .i64 0, .int .i64 0], .int .i64 e0]) ∧ Below w.heap.size w w' := by
  have HC := Lib.hid hC
  have hne : (e0 != 0) = true := bne_iff_ne.2 he
  have hne2 : (e0 == 0) = false := beq_eq_false_iff_ne.2 he
  clear hC he
  obtain ⟨A, hA, bA, zA, r0, r1, g0, g1⟩ := sum_boxes w
  go_enter Try.func32, Try.ntmps32
  go_wp2_with fail
  rw [← hA]
  clear hA
  refine (HC.out _ bA).mono ?_; rintro e X ⟨rfl, hbX⟩
  have r0 := keepB hbX (by omega) r0
  have r1 := keepB hbX (by omega) r1
  have g0 := keepF hbX (by omega) g0
  have g1 := keepF hbX (by omega) g1
  have bX := bA.trans (hbX.mono bA.size)
  have zX : w.heap.size < X.heap.size := by have := hbX.size; omega
  clear hbX bA zA
  go_wp2
  exact bodyPost_ret (v := .tuple #[.agg #[.int .i64 0, .int .i64 0], .int .i64 e0]) (by simp [results, Try.results32, go_sem, set_same (i := 0) (v := .int .i64 0) r0, set_other (i := 1) (j := 0) (v := .int .i64 0) (by decide) (set_same (i := 0) (v := .int .i64 0) r0), set_same (i := 1) (v := .int .i64 0) (set_other (i := 0) (j := 1) (v := .int .i64 0) (by decide) r1)]) rfl ⟨rfl, ((bX.setCell (p := ⟨w.heap.size, 0, none⟩) (by dsimp only; omega) _).setCell (p := ⟨w.heap.size, 1, none⟩) (by dsimp only; omega) _)⟩

set_option maxHeartbeats 3200000 in
theorem Sum_end (a : Option Addr) (n cap : Nat) (en sl : Int) (w : World) (hIE : inB en 0 4294967296 = false) (hC : ∀ W, Below w.heap.size w W → Calls Try.prog 70 #[.slice a n cap] W fun e w' => e = .returned (.int .i64 0) ∧ Below W.heap.size W w') :
    Calls Try.prog 32 #[.slice a n cap, .int .i64 en, .int .i64 sl] w fun e w' => e = .returned (.tuple #[.agg #[.int .i64 0, .int .i64 0], .int .i64 3]) ∧ Below w.heap.size w w' := by
  have HC := Lib.hid hC
  have IE : Hid (∀ W : World, Calls Try.prog 49 #[.int .i64 en, .int .i64 0, .int .i64 4294967296] W fun e w' => e = .returned (.bool false) ∧ W = w') := Lib.hid fun W => by rw [← hIE]; exact isIn_any _ _ _ W
  clear hC hIE
  obtain ⟨A, hA, bA, zA, r0, r1, g0, g1⟩ := sum_boxes w
  go_enter Try.func32, Try.ntmps32
  go_wp2_with fail
  rw [← hA]
  clear hA
  refine (HC.out _ bA).mono ?_; rintro e X ⟨rfl, hbX⟩
  have r0 := keepB hbX (by omega) r0
  have r1 := keepB hbX (by omega) r1
  have g0 := keepF hbX (by omega) g0
  have g1 := keepF hbX (by omega) g1
  have bX := bA.trans (hbX.mono bA.size)
  have zX : w.heap.size < X.heap.size := by have := hbX.size; omega
  clear hbX bA zA
  go_wp2_with fail
  refine (IE.out _).mono ?_; rintro e w' ⟨rfl, rfl⟩
  go_wp2
  exact bodyPost_ret (v := .tuple #[.agg #[.int .i64 0, .int .i64 0], .int .i64 3]) (by simp [results, Try.results32, go_sem, set_same (i := 0) (v := .int .i64 0) r0, set_other (i := 1) (j := 0) (v := .int .i64 0) (by decide) (set_same (i := 0) (v := .int .i64 0) r0), set_same (i := 1) (v := .int .i64 0) (set_other (i := 0) (j := 1) (v := .int .i64 0) (by decide) r1)]) rfl ⟨rfl, ((bX.setCell (p := ⟨w.heap.size, 0, none⟩) (by dsimp only; omega) _).setCell (p := ⟨w.heap.size, 1, none⟩) (by dsimp only; omega) _)⟩

set_option maxHeartbeats 3200000 in
theorem Sum_slack (a : Option Addr) (n cap : Nat) (en sl : Int) (w : World) (hIE : inB en 0 4294967296 = true) (hIS : inB sl 0 1000 = false) (hC : ∀ W, Below w.heap.size w W → Calls Try.prog 70 #[.slice a n cap] W fun e w' => e = .returned (.int .i64 0) ∧ Below W.heap.size W w') :
    Calls Try.prog 32 #[.slice a n cap, .int .i64 en, .int .i64 sl] w fun e w' => e = .returned (.tuple #[.agg #[.int .i64 0, .int .i64 0], .int .i64 3]) ∧ Below w.heap.size w w' := by
  have HC := Lib.hid hC
  have IE : Hid (∀ W : World, Calls Try.prog 49 #[.int .i64 en, .int .i64 0, .int .i64 4294967296] W fun e w' => e = .returned (.bool true) ∧ W = w') := Lib.hid fun W => by rw [← hIE]; exact isIn_any _ _ _ W
  have IS : Hid (∀ W : World, Calls Try.prog 49 #[.int .i64 sl, .int .i64 0, .int .i64 1000] W fun e w' => e = .returned (.bool false) ∧ W = w') := Lib.hid fun W => by rw [← hIS]; exact isIn_any _ _ _ W
  clear hC hIE hIS
  obtain ⟨A, hA, bA, zA, r0, r1, g0, g1⟩ := sum_boxes w
  go_enter Try.func32, Try.ntmps32
  go_wp2_with fail
  rw [← hA]
  clear hA
  refine (HC.out _ bA).mono ?_; rintro e X ⟨rfl, hbX⟩
  have r0 := keepB hbX (by omega) r0
  have r1 := keepB hbX (by omega) r1
  have g0 := keepF hbX (by omega) g0
  have g1 := keepF hbX (by omega) g1
  have bX := bA.trans (hbX.mono bA.size)
  have zX : w.heap.size < X.heap.size := by have := hbX.size; omega
  clear hbX bA zA
  go_wp2_with fail
  refine (IE.out _).mono ?_; rintro e w' ⟨rfl, rfl⟩
  go_wp2_with fail
  refine (IS.out _).mono ?_; rintro e w' ⟨rfl, rfl⟩
  go_wp2
  exact bodyPost_ret (v := .tuple #[.agg #[.int .i64 0, .int .i64 0], .int .i64 3]) (by simp [results, Try.results32, go_sem, set_same (i := 0) (v := .int .i64 0) r0, set_other (i := 1) (j := 0) (v := .int .i64 0) (by decide) (set_same (i := 0) (v := .int .i64 0) r0), set_same (i := 1) (v := .int .i64 0) (set_other (i := 0) (j := 1) (v := .int .i64 0) (by decide) r1)]) rfl ⟨rfl, ((bX.setCell (p := ⟨w.heap.size, 0, none⟩) (by dsimp only; omega) _).setCell (p := ⟨w.heap.size, 1, none⟩) (by dsimp only; omega) _)⟩

set_option maxHeartbeats 3200000 in
theorem Sum_late (b off n cap : Nat) (rs : Nat → Rc) (en sl : Int) (w : World) (hn : 1 ≤ n) (hl : n ≤ 1000000) (hs : RecsAt w b off n rs) (hb : b < w.heap.size) (hIE : inB en 0 4294967296 = true) (hIS : inB sl 0 1000 = true) (hlt : en < (rs (n - 1)).t) (hC : ∀ W, Below w.heap.size w W → Calls Try.prog 70 #[.slice (some ⟨b, off, none⟩) n cap] W fun e w' => e = .returned (.int .i64 0) ∧ Below W.heap.size W w') :
    Calls Try.prog 32 #[.slice (some ⟨b, off, none⟩) n cap, .int .i64 en, .int .i64 sl] w fun e w' => e = .returned (.tuple #[.agg #[.int .i64 0, .int .i64 0], .int .i64 17]) ∧ Below w.heap.size w w' := by
  have HC := Lib.hid hC
  have IE : Hid (∀ W : World, Calls Try.prog 49 #[.int .i64 en, .int .i64 0, .int .i64 4294967296] W fun e w' => e = .returned (.bool true) ∧ W = w') := Lib.hid fun W => by rw [← hIE]; exact isIn_any _ _ _ W
  have IS : Hid (∀ W : World, Calls Try.prog 49 #[.int .i64 sl, .int .i64 0, .int .i64 1000] W fun e w' => e = .returned (.bool true) ∧ W = w') := Lib.hid fun W => by rw [← hIS]; exact isIn_any _ _ _ W
  have c0 := (hs (n - 1) (by omega)).1
  obtain ⟨j, hj⟩ : ∃ j, n = j + 1 := ⟨n - 1, by omega⟩
  have i1 : IntKind.i64.wrap ((n : Int) - 1) = (j : Int) := by rw [show (n : Int) - 1 = j by omega]; exact IntWalk.i64_in _ (by omega)
  have i2 : (n : Int) - 1 = (j : Int) := by omega
  rw [show n - 1 = j by omega] at c0 hlt
  have q0 : (0 : Int) ≤ (j : Int) := by omega
  have q1 : (j : Int) < (n : Int) := by omega
  have hd : decide (en < (rs j).t) = true := decide_eq_true hlt
  have Hj := Lib.hid hj
  generalize (rs j).t = tt at *
  clear hC hIE hIS hs hj
  obtain ⟨A, hA, bA, zA, r0, r1, g0, g1⟩ := sum_boxes w
  go_enter Try.func32, Try.ntmps32
  go_wp2_with fail
  rw [← hA]
  clear hA
  refine (HC.out _ bA).mono ?_; rintro e X ⟨rfl, hbX⟩
  have r0 := keepB hbX (by omega) r0
  have r1 := keepB hbX (by omega) r1
  have g0 := keepF hbX (by omega) g0
  have g1 := keepF hbX (by omega) g1
  have bX := bA.trans (hbX.mono bA.size)
  have zX : w.heap.size < X.heap.size := by have := hbX.size; omega
  clear hbX bA zA
  have c0 := keepB bX hb c0
  go_wp2_with fail
  refine (IE.out _).mono ?_; rintro e w' ⟨rfl, rfl⟩
  go_wp2_with fail
  refine (IS.out _).mono ?_; rintro e w' ⟨rfl, rfl⟩
  go_wp2
  exact bodyPost_ret (v := .tuple #[.agg #[.int .i64 0, .int .i64 0], .int .i64 17]) (by simp [results, Try.results32, go_sem, set_same (i := 0) (v := .int .i64 0) r0, set_other (i := 1) (j := 0) (v := .int .i64 0) (by decide) (set_same (i := 0) (v := .int .i64 0) r0), set_same (i := 1) (v := .int .i64 0) (set_other (i := 0) (j := 1) (v := .int .i64 0) (by decide) r1)]) rfl ⟨rfl, ((bX.setCell (p := ⟨w.heap.size, 0, none⟩) (by dsimp only; omega) _).setCell (p := ⟨w.heap.size, 1, none⟩) (by dsimp only; omega) _)⟩


set_option maxRecDepth 100000 in
set_option maxHeartbeats 3200000 in
theorem Sum_ok (b off n cap : Nat) (rs : Nat → Rc) (en sl : Int) (w : World) (hk : RecOk n rs) (hl : n ≤ 1000000) (hs : RecsAt w b off n rs) (hb : b < w.heap.size) (hIE : inB en 0 4294967296 = true) (hIS : inB sl 0 1000 = true) (hle : (rs (n - 1)).t ≤ en) (hC : ∀ W, Below w.heap.size w W → Calls Try.prog 70 #[.slice (some ⟨b, off, none⟩) n cap] W fun e w' => e = .returned (.int .i64 0) ∧ Below W.heap.size W w') :
    Calls Try.prog 32 #[.slice (some ⟨b, off, none⟩) n cap, .int .i64 en, .int .i64 sl] w fun e w' => e = .returned (.tuple #[.agg #[.int .i64 (prL n rs en n * (1000 - sl) / 360000), .int .i64 (cdiv (prH n rs en n * (1000 + sl)) 360000)], .int .i64 0]) ∧ Below w.heap.size w w' := by
  have HC := Lib.hid hC
  have IE : Hid (∀ W : World, Calls Try.prog 49 #[.int .i64 en, .int .i64 0, .int .i64 4294967296] W fun e w' => e = .returned (.bool true) ∧ W = w') := Lib.hid fun W => by rw [← hIE]; exact isIn_any _ _ _ W
  have IS : Hid (∀ W : World, Calls Try.prog 49 #[.int .i64 sl, .int .i64 0, .int .i64 1000] W fun e w' => e = .returned (.bool true) ∧ W = w') := Lib.hid fun W => by rw [← hIS]; exact isIn_any _ _ _ W
  have hn := hk.n1
  obtain ⟨s1, s2⟩ := inB_true.1 hIS
  obtain ⟨n1, n2⟩ := inB_true.1 hIE
  have c0 := (hs (n - 1) (by omega)).1
  have HPr := Lib.hid (fun W (hW : Below w.heap.size w W) => products_any b off n cap rs en W hk hl hle n2 (hs.keep hW hb) (Nat.lt_of_lt_of_le hb hW.size))
  obtain ⟨p1, p2, p3⟩ := hk.sums_bd hle n2 (Nat.le_refl n)
  obtain ⟨j, hj⟩ : ∃ j, n = j + 1 := ⟨n - 1, by omega⟩
  have i1 : IntKind.i64.wrap ((n : Int) - 1) = (j : Int) := by rw [show (n : Int) - 1 = j by omega]; exact IntWalk.i64_in _ (by omega)
  have i2 : (n : Int) - 1 = (j : Int) := by omega
  rw [show n - 1 = j by omega] at c0 hle
  have q0 : (0 : Int) ≤ (j : Int) := by omega
  have q1 : (j : Int) < (n : Int) := by omega
  have hd : decide (en < (rs j).t) = false := decide_eq_false (by omega)
  have Hj := Lib.hid hj
  generalize (rs j).t = tt at *
  generalize prL n rs en n = PL at *
  generalize prH n rs en n = PH at *
  have m1 := mul_bd (a := PL) (b := 1000 - sl) (A := 4294967296000000) (B := 1000) p1 (by omega) (by omega) (by omega)
  have m2 := mul_bd (a := PH) (b := 1000 + sl) (A := 4294967296000000) (B := 2000) (by omega) p3 (by omega) (by omega)
  obtain ⟨M1, hM1⟩ : ∃ x, x = PL * (1000 - sl) := ⟨_, rfl⟩
  obtain ⟨M2, hM2⟩ : ∃ x, x = PH * (1000 + sl) := ⟨_, rfl⟩
  rw [← hM1] at m1 ⊢
  rw [← hM2] at m2 ⊢
  have j1 : PL * (1000 - sl) = M1 := hM1.symm
  have j2 : PH * (1000 + sl) = M2 := hM2.symm
  have j3 : IntKind.i64.wrap M1 = M1 := IntWalk.i64_in _ (by omega)
  have j4 : IntKind.i64.wrap M2 = M2 := IntWalk.i64_in _ (by omega)
  have j5 : IntKind.i64.wrap (PL * (1000 - sl)) = M1 := by rw [j1]; exact j3
  have j6 : IntKind.i64.wrap (PH * (1000 + sl)) = M2 := by rw [j2]; exact j4
  have j7 : IntKind.i64.wrap (1000 - sl) = 1000 - sl := IntWalk.i64_in _ (by omega)
  have j8 : IntKind.i64.wrap (1000 + sl) = 1000 + sl := IntWalk.i64_in _ (by omega)
  have b1 := floor_bd (a := M1) (b := 360000) (q := 4294967296000000) (by decide) m1.1 (by omega)
  have b2 := cdiv_bd (a := M2) (b := 360000) (q := 4294967296000000) (by decide) m2.1 (by omega)
  obtain ⟨Q1, hQ1⟩ : ∃ x, x = M1 / 360000 := ⟨_, rfl⟩
  obtain ⟨C1, hC1⟩ : ∃ x, x = cdiv M2 360000 := ⟨_, rfl⟩
  rw [← hQ1] at b1 ⊢
  rw [← hC1] at b2 ⊢
  have HU := Lib.hid (fun W => show Calls Try.prog 58 #[.int .i64 M2, .int .i64 360000] W fun e w' => e = .returned (.int .i64 C1) ∧ W = w' from by rw [hC1]; exact up_any M2 360000 W (by decide) (by decide) m2.1 (by omega))
  have td : M1.tdiv 360000 = Q1 := by rw [hQ1]; exact Int.tdiv_eq_ediv_of_nonneg m1.1
  have td2 : M1 / 360000 = Q1 := hQ1.symm
  have i7 : IntKind.i64.wrap Q1 = Q1 := IntWalk.i64_in _ (by omega)
  clear hC hIE hIS hs hj hM1 hM2 hQ1 hC1 hk
  obtain ⟨A, hA, bA, zA, r0, r1, g0, g1⟩ := sum_boxes w
  go_enter Try.func32, Try.ntmps32
  go_wp2_with fail
  rw [← hA]
  clear hA
  refine (HC.out _ bA).mono ?_; rintro e X ⟨rfl, hbX⟩
  have r0 := keepB hbX (by omega) r0
  have r1 := keepB hbX (by omega) r1
  have g0 := keepF hbX (by omega) g0
  have g1 := keepF hbX (by omega) g1
  have bX := bA.trans (hbX.mono bA.size)
  have zX : w.heap.size < X.heap.size := by have := hbX.size; omega
  clear hbX bA zA
  have c0 := keepB bX hb c0
  go_wp2_with fail
  refine (IE.out _).mono ?_; rintro e w' ⟨rfl, rfl⟩
  go_wp2_with fail
  refine (IS.out _).mono ?_; rintro e w' ⟨rfl, rfl⟩
  go_wp2_with fail
  refine (HPr.out _ bX).mono ?_; rintro e Y ⟨rfl, hbY⟩
  have r0 := keepB hbY zX r0
  have r1 := keepB hbY zX r1
  have g0 := keepF hbY zX g0
  have g1 := keepF hbY zX g1
  have bY := bX.trans (hbY.mono bX.size)
  have zY : w.heap.size < Y.heap.size := Nat.lt_of_lt_of_le zX hbY.size
  clear hbY bX c0
  have bb := below_alloc Y (.cells #[.int .i64 PL, .int .i64 PH] 24)
  have y0 : (Y.alloc (.cells #[.int .i64 PL, .int .i64 PH] 24)).cell? ⟨Y.heap.size, 0, none⟩ = some (.int .i64 PL) := alloc_new rfl rfl
  have y1 : (Y.alloc (.cells #[.int .i64 PL, .int .i64 PH] 24)).cell? ⟨Y.heap.size, 1, none⟩ = some (.int .i64 PH) := alloc_new rfl rfl
  have r0 := keepB bb zY r0
  have r1 := keepB bb zY r1
  have g0 := keepF bb zY g0
  have g1 := keepF bb zY g1
  have bE := bY.trans (bb.mono bY.size)
  obtain ⟨E, hE⟩ : ∃ E, E = Y.alloc (.cells #[.int .i64 PL, .int .i64 PH] 24) := ⟨_, rfl⟩
  rw [← hE] at y0 y1 r0 r1 g0 g1 bE
  have HS := Lib.hid (show (fun w' : World => w'.cell? ⟨Y.heap.size, 0, none⟩ = some (.int .i64 PL) ∧ w'.cell? ⟨Y.heap.size, 1, none⟩ = some (.int .i64 PH) ∧ w'.cell? ⟨w.heap.size, 0, none⟩ = some (.int .i64 0) ∧ w'.cell? ⟨w.heap.size, 1, none⟩ = some (.int .i64 0) ∧ Below E.drew.heap.size E.drew w') E.drew from ⟨y0, y1, r0, r1, Below.refl _ _⟩)
  clear y0 y1 r0 r1 bb bY
  go_wp2_with fail
  rw [← hE]
  clear hE
  refine wp_region_held_tail (S := (fun w' : World => w'.cell? ⟨Y.heap.size, 0, none⟩ = some (.int .i64 PL) ∧ w'.cell? ⟨Y.heap.size, 1, none⟩ = some (.int .i64 PH) ∧ w'.cell? ⟨w.heap.size, 0, none⟩ = some (.int .i64 0) ∧ w'.cell? ⟨w.heap.size, 1, none⟩ = some (.int .i64 0) ∧ Below E.drew.heap.size E.drew w')) 13 (by kernel_rfl) (by kernel_rfl) HS.out (fun hHeld => ?_)
  refine wpAnyH_take (i := 0) (v := ?v0_1) rfl (by kernel_rfl) (by kernel_rfl) (by kernel_rfl) (fun _ _ _ h => h) (Or.inl ⟨by rfl, ?hy0_1⟩) (by assumption) ?rest0_1
  case hy0_1 => (intro w hSw; (try dsimp only at hSw); go_simp; (try with_reducible rfl))
  try simp only [Act.put, List.getElem_toArray, List.getElem_cons_zero, List.getElem_cons_succ, List.setIfInBounds_toArray, List.set_cons_zero, List.set_cons_succ]
  refine wpAnyH_take (i := 1) (v := ?v1_2) rfl (by kernel_rfl) (by kernel_rfl) (by kernel_rfl) (fun _ _ _ h => h) (Or.inl ⟨by rfl, ?hy1_2⟩) (by assumption) ?rest1_2
  case hy1_2 => (intro w hSw; (try dsimp only at hSw); go_simp; (try with_reducible rfl))
  try simp only [Act.put, List.getElem_toArray, List.getElem_cons_zero, List.getElem_cons_succ, List.setIfInBounds_toArray, List.set_cons_zero, List.set_cons_succ]
  refine wpAnyH_take (i := 2) (v := ?v2_3) rfl (by kernel_rfl) (by kernel_rfl) (by kernel_rfl) (fun _ _ _ h => h) (Or.inl ⟨by rfl, ?hy2_3⟩) (by assumption) ?rest2_3
  case hy2_3 => (intro w hSw; (try dsimp only at hSw); go_simp; (try with_reducible rfl))
  try simp only [Act.put, List.getElem_toArray, List.getElem_cons_zero, List.getElem_cons_succ, List.setIfInBounds_toArray, List.set_cons_zero, List.set_cons_succ]
  refine wpAnyH_take (i := 3) (v := ?v3_4) rfl (by kernel_rfl) (by kernel_rfl) (by kernel_rfl) (fun _ _ _ h => h) (Or.inl ⟨by rfl, ?hy3_4⟩) (by assumption) ?rest3_4
  case hy3_4 => (intro w hSw; (try dsimp only at hSw); go_simp; (try with_reducible rfl))
  try simp only [Act.put, List.getElem_toArray, List.getElem_cons_zero, List.getElem_cons_succ, List.setIfInBounds_toArray, List.set_cons_zero, List.set_cons_succ]
  refine wpAnyH_take (i := 4) (v := ?v4_5) rfl (by kernel_rfl) (by kernel_rfl) (by kernel_rfl) (fun _ _ _ h => h) (Or.inl ⟨by rfl, ?hy4_5⟩) (by assumption) ?rest4_5
  case hy4_5 => (intro w hSw; (try dsimp only at hSw); go_simp; (try with_reducible rfl))
  try simp only [Act.put, List.getElem_toArray, List.getElem_cons_zero, List.getElem_cons_succ, List.setIfInBounds_toArray, List.set_cons_zero, List.set_cons_succ]
  refine wpAnyH_take (i := 5) (v := ?v5_6) rfl (by kernel_rfl) (by kernel_rfl) (by kernel_rfl) (fun _ _ _ h => h) (Or.inl ⟨by rfl, ?hy5_6⟩) (by assumption) ?rest5_6
  case hy5_6 => (intro w hSw; (try dsimp only at hSw); go_simp; (try with_reducible rfl))
  try simp only [Act.put, List.getElem_toArray, List.getElem_cons_zero, List.getElem_cons_succ, List.setIfInBounds_toArray, List.set_cons_zero, List.set_cons_succ]
  refine wpAnyH_take (i := 6) (v := ?v6_7) rfl (by kernel_rfl) (by kernel_rfl) (by kernel_rfl) (fun _ _ _ h => h) (Or.inl ⟨by rfl, ?hy6_7⟩) (by assumption) ?rest6_7
  case hy6_7 => (intro w hSw; (try dsimp only at hSw); go_simp; (try with_reducible rfl))
  try simp only [Act.put, List.getElem_toArray, List.getElem_cons_zero, List.getElem_cons_succ, List.setIfInBounds_toArray, List.set_cons_zero, List.set_cons_succ]
  refine wpAnyH_take (i := 7) (v := ?v7_8) rfl (by kernel_rfl) (by kernel_rfl) (by kernel_rfl) (fun _ _ _ h => h) (Or.inl ⟨by rfl, ?hy7_8⟩) (by assumption) ?rest7_8
  case hy7_8 => (intro w hSw; (try dsimp only at hSw); go_simp; (try with_reducible rfl))
  try simp only [Act.put, List.getElem_toArray, List.getElem_cons_zero, List.getElem_cons_succ, List.setIfInBounds_toArray, List.set_cons_zero, List.set_cons_succ]
  refine wpAnyH_take (i := 8) (v := ?v8_9) rfl (by kernel_rfl) (by kernel_rfl) (by kernel_rfl) (fun _ _ _ h => h) (Or.inl ⟨by rfl, ?hy8_9⟩) (by assumption) ?rest8_9
  case hy8_9 => (intro w hSw; (try dsimp only at hSw); go_simp; (try with_reducible rfl))
  try simp only [Act.put, List.getElem_toArray, List.getElem_cons_zero, List.getElem_cons_succ, List.setIfInBounds_toArray, List.set_cons_zero, List.set_cons_succ]
  refine wpAnyH_take (i := 9) (v := ?v9_10) rfl (by kernel_rfl) (by kernel_rfl) (by kernel_rfl) (fun _ _ _ h => h) (Or.inl ⟨by rfl, ?hy9_10⟩) (by assumption) ?rest9_10
  case hy9_10 => (intro w hSw; (try dsimp only at hSw); go_simp; (try with_reducible rfl))
  try simp only [Act.put, List.getElem_toArray, List.getElem_cons_zero, List.getElem_cons_succ, List.setIfInBounds_toArray, List.set_cons_zero, List.set_cons_succ]
  refine wpAnyH_take (i := 10) (v := ?v10_11) rfl (by kernel_rfl) (by kernel_rfl) (by kernel_rfl) (fun _ _ _ h => h) (Or.inl ⟨by rfl, ?hy10_11⟩) (by assumption) ?rest10_11
  case hy10_11 => (intro w hSw; (try dsimp only at hSw); go_simp; (try with_reducible rfl))
  try simp only [Act.put, List.getElem_toArray, List.getElem_cons_zero, List.getElem_cons_succ, List.setIfInBounds_toArray, List.set_cons_zero, List.set_cons_succ]
  refine wpAnyH_ready (rs := [11]) (by kernel_rfl) (by simp) ?_
  refine AllReadyH.cons rfl (fun K hK => ?_) AllReadyH.nil
  go_simp; go_at_call 58; refine (HU.out _).mono ?_; rintro e' w' ⟨rfl, rfl⟩
  refine hK.out _ _ hHeld (fun hHeld2 => ?_)
  clear hK K hHeld
  have hHeld := hHeld2
  clear hHeld2
  try simp only [Act.put, List.getElem_toArray, List.getElem_cons_zero, List.getElem_cons_succ, List.setIfInBounds_toArray, List.set_cons_zero, List.set_cons_succ]
  refine wpAnyH_take (i := 12) (v := ?v12_12) rfl (by kernel_rfl) (by kernel_rfl) (by kernel_rfl) (fun _ _ _ h => h) (Or.inl ⟨by rfl, ?hy12_12⟩) (by assumption) ?rest12_12
  case hy12_12 => (intro w hSw; (try dsimp only at hSw); go_simp; (try with_reducible rfl))
  try simp only [Act.put, List.getElem_toArray, List.getElem_cons_zero, List.getElem_cons_succ, List.setIfInBounds_toArray, List.set_cons_zero, List.set_cons_succ]
  refine wpAnyH_done (by kernel_rfl) ?_ _
  change wpList _ _ _ _ _ _
  simp only [List.drop_succ_cons, List.drop_zero]
  obtain ⟨h0, h1, h2, h3, hb4⟩ := hHeld
  have k0 : E.drew.frozen? ⟨w.heap.size, 0, none⟩ = false := g0
  have k1 : E.drew.frozen? ⟨w.heap.size, 1, none⟩ = false := g1
  have bV : Below w.heap.size w E.drew := bE.drew
  obtain ⟨V, hV⟩ : ∃ V, V = E.drew := ⟨_, rfl⟩
  rw [← hV] at h0 h1 h2 h3 k0 k1 bV ⊢
  clear hV hb4 g0 g1 HS HU HC HPr IE IS
  go_wp2
  exact bodyPost_ret (v := .tuple #[.agg #[.int .i64 Q1, .int .i64 C1], .int .i64 0]) (by simp [results, Try.results32, go_sem, set_same (i := 0) (v := .int .i64 Q1) h2, set_other (i := 1) (j := 0) (v := .int .i64 C1) (by decide) (set_same (i := 0) (v := .int .i64 Q1) h2), set_same (i := 1) (v := .int .i64 C1) (set_other (i := 0) (j := 1) (v := .int .i64 Q1) (by decide) h3)]) rfl ⟨rfl, ((bV.setCell (p := ⟨w.heap.size, 0, none⟩) (by dsimp only; omega) _).setCell (p := ⟨w.heap.size, 1, none⟩) (by dsimp only; omega) _)⟩

theorem Sum_any (a : Option Addr) (n cap : Nat) (rs : Nat → Rc) (en sl : Int) (w : World) (hl : n ≤ 1000000) (hs : RecsIs w a n rs) :
    Calls Try.prog 32 #[.slice a n cap, .int .i64 en, .int .i64 sl] w fun e w' => e = .returned (.tuple #[.agg #[.int .i64 (smL n rs en sl), .int .i64 (smH n rs en sl)], .int .i64 (smE n rs en sl)]) ∧ Below w.heap.size w w' := by
  have hC := fun W (hW : Below w.heap.size w W) => checkRecord_any a n cap rs W hl (hs.keep hW)
  have z : ∀ e, smE n rs en sl = e → e ≠ 0 → smL n rs en sl = 0 ∧ smH n rs en sl = 0 := fun e he hne => by unfold smL smH; rw [he, if_neg hne, if_neg hne]; exact ⟨rfl, rfl⟩
  by_cases h : recC n rs = 0
  · rw [h] at hC
    have hk := rec_ok h
    cases hIE : inB en 0 4294967296
    · have e : smE n rs en sl = 3 := by unfold smE; rw [if_pos h, hIE]; rfl
      rw [e, (z 3 e (by decide)).1, (z 3 e (by decide)).2]
      exact Sum_end a n cap en sl w hIE hC
    cases hIS : inB sl 0 1000
    · have e : smE n rs en sl = 3 := by unfold smE; rw [if_pos h, hIE, hIS]; rfl
      rw [e, (z 3 e (by decide)).1, (z 3 e (by decide)).2]
      exact Sum_slack a n cap en sl w hIE hIS hC
    rcases hs with h0 | ⟨b, off, rfl, hb, hs⟩
    · have := hk.n1; omega
    by_cases hle : (rs (n - 1)).t ≤ en
    · have e : smE n rs en sl = 0 := by unfold smE; rw [if_pos h, hIE, hIS]; simp only [Bool.and_true, if_true]; rw [if_pos hle]
      have e2 : smL n rs en sl = prL n rs en n * (1000 - sl) / 360000 ∧ smH n rs en sl = cdiv (prH n rs en n * (1000 + sl)) 360000 := by unfold smL smH; rw [if_pos e, if_pos e]; exact ⟨rfl, rfl⟩
      rw [e, e2.1, e2.2]
      exact Sum_ok b off n cap rs en sl w hk hl hs hb hIE hIS hle hC
    · have e : smE n rs en sl = 17 := by unfold smE; rw [if_pos h, hIE, hIS]; simp only [Bool.and_true, if_true]; rw [if_neg hle]
      rw [e, (z 17 e (by decide)).1, (z 17 e (by decide)).2]
      exact Sum_late b off n cap rs en sl w hk.n1 hl hs hb hIE hIS (by omega) hC
  · have e : smE n rs en sl = recC n rs := by unfold smE; rw [if_neg h]
    rw [e, (z _ e h).1, (z _ e h).2]
    exact Sum_bad a n cap en sl _ w h hC

end Go.Proofs.Ytdmbkhmhaininaa
