/-
  The closure of a table.
-/
import Derived.Test.YtdmbkhmhaininaaB
import Derived.Test.YtdmbkhmhaininaaZ
namespace Go.Proofs.Ytdmbkhmhaininaa
open Go.RowKit
set_option linter.unusedVariables false
set_option linter.unusedSimpArgs false

/-- between i and j lies the least number that passes -/
def SrchRel (n : Nat) (p : Nat → Bool) (i j : Nat) : Prop := i ≤ j ∧ j ≤ n ∧ (∀ k, k < i → p k = false) ∧ (∀ k, j ≤ k → k < n → p k = true)
/-- the number that Search answers -/
def SrchIs (n : Nat) (p : Nat → Bool) (r : Nat) : Prop := r ≤ n ∧ (∀ k, k < r → p k = false) ∧ (∀ k, r ≤ k → k < n → p k = true)

/-- what Search answers -/
def SrchRet (n : Nat) (p : Nat → Bool) (w : World) (e : Ending) (w' : World) : Prop := ∃ r : Nat, SrchIs n p r ∧ e = .returned (.int .i64 r) ∧ Below w.heap.size w w'

theorem srch_yes {n : Nat} {p : Nat → Bool} {a b m : Nat} (hmono : ∀ i j, i ≤ j → j < n → p i = true → p j = true) (h : SrchRel n p a b) (h1 : a ≤ m) (h2 : m < b) (hp : p m = true) : SrchRel n p a m := by
  obtain ⟨g1, g2, g3, g4⟩ := h
  exact ⟨h1, by omega, g3, fun k k1 k2 => hmono m k k1 k2 hp⟩
theorem srch_no {n : Nat} {p : Nat → Bool} {a b m : Nat} (hmono : ∀ i j, i ≤ j → j < n → p i = true → p j = true) (h : SrchRel n p a b) (h1 : a ≤ m) (h2 : m < b) (hp : p m = false) : SrchRel n p (m + 1) b := by
  obtain ⟨g1, g2, g3, g4⟩ := h
  refine ⟨by omega, g2, fun k hk => ?_, g4⟩
  cases e : p k
  · rfl
  · have := hmono k m (by omega) (by omega) e
    rw [hp] at this; cases this
theorem srch_end {n : Nat} {p : Nat → Bool} {a b : Nat} (h : SrchRel n p a b) (h1 : ¬ a < b) : SrchIs n p a := by
  obtain ⟨g1, g2, g3, g4⟩ := h
  exact ⟨by omega, g3, fun k k1 k2 => g4 k (by omega) k2⟩


set_option maxHeartbeats 1600000 in
theorem Search95 (n : Nat) (c1 c2 : Value) (p : Nat → Bool) (w : World) (hn : n ≤ 1000000) (hmono : ∀ i j, i ≤ j → j < n → p i = true → p j = true)
    (hf : ∀ (k : Nat) (wr : World), k < n → Below w.heap.size w wr → Calls Try.prog 95 #[.int .i64 k, c1, c2] wr fun e w' => e = .returned (.bool (p k)) ∧ Below wr.heap.size wr w') :
    Calls Try.prog 94 #[.int .i64 n, .func (Fn.func 95) #[] #[c1, c2]] w (SrchRet n p w) := by
  have HF := Lib.hid hf
  have HM := Lib.hid hmono
  clear hf hmono
  go_enter Try.func94, Try.ntmps94
  go_wp2
  go_loopw [5, 6] (fun i j wr => ∃ a b : Nat, SrchRel n p a b ∧ i = .int .i64 a ∧ j = .int .i64 b ∧ Below w.heap.size w wr) (fun i j _ => (intOf j).toNat - (intOf i).toNat)
  case atStart => exact ⟨0, n, ⟨Nat.zero_le _, Nat.le_refl _, fun k hk => by omega, fun k h1 h2 => by omega⟩, rfl, rfl, Below.refl _ _⟩
  case round =>
    obtain ⟨a, b, hrel, rfl, rfl, hbw⟩ := hrel
    have h1 : a ≤ b := hrel.1
    have h2 : b ≤ n := hrel.2.1
    have HR := Lib.hid hrel
    clear hrel
    by_cases hlt : a < b
    · have e1 : ((a : Int) + (b : Int)) / 2 = (((a + b) / 2 : Nat) : Int) := by omega
      have E1 := Lib.hid e1
      clear e1
      obtain ⟨m, hm⟩ : ∃ m, m = (a + b) / 2 := ⟨_, rfl⟩
      have m1 : a ≤ m := by omega
      have m2 : m < b := by omega
      have HFm := Lib.hid (HF.out m wr (by omega) hbw)
      have HM2 := Lib.hid hm
      clear hm
      rcases (Bool.eq_false_or_eq_true (p m)).symm with hp | hp
      · have HR2 := Lib.hid (srch_no HM.out HR.out m1 m2 hp)
        rw [hp] at HFm
        clear hp
        go_wp2_with fail
        rw [E1.out, ← HM2.out]
        refine (HFm.out).mono ?_; rintro e w1 ⟨rfl, hb1⟩
        have hbw2 := hbw.trans (hb1.mono hbw.size)
        clear hb1
        go_wp2
        go_roundw
        case rel => exact ⟨m + 1, b, HR2.out, by go_num, rfl, hbw2⟩
        case measure => simp [intOf]; omega
      · have HR2 := Lib.hid (srch_yes HM.out HR.out m1 m2 hp)
        rw [hp] at HFm
        clear hp
        go_wp2_with fail
        rw [E1.out, ← HM2.out]
        refine (HFm.out).mono ?_; rintro e w1 ⟨rfl, hb1⟩
        have hbw2 := hbw.trans (hb1.mono hbw.size)
        clear hb1
        go_wp2
        go_roundw
        case rel => exact ⟨a, m, HR2.out, rfl, rfl, hbw2⟩
        case measure => simp [intOf]; omega
    · have HS := Lib.hid (srch_end HR.out hlt)
      go_wp2
      go_ret
      exact ⟨a, HS.out, rfl, hbw⟩

/-- the slice that a closure reads lies in a box -/
structure BoxAt (w : World) (c b off n cap : Nat) (zs : Nat → Int × Int) : Prop where
  cell : w.cell? ⟨c, 0, none⟩ = some (.slice (some ⟨b, off, none⟩) n cap)
  lc : c < w.heap.size
  lb : b < w.heap.size
  sp : SpansAt w b off n zs
theorem BoxAt.keep {W w1 : World} {c b off n cap : Nat} {zs : Nat → Int × Int} (h : BoxAt W c b off n cap zs) (hb : Below W.heap.size W w1) : BoxAt w1 c b off n cap zs :=
  ⟨keepB hb h.lc h.cell, Nat.lt_of_lt_of_le h.lc hb.size, Nat.lt_of_lt_of_le h.lb hb.size, h.sp.keep hb h.lb⟩

set_option maxHeartbeats 1600000 in
theorem above_any (c b off n cap : Nat) (zs : Nat → Int × Int) (h : Nat) (z : Int) (k : Nat) (w : World) (hk : k < n) (hl : n ≤ 1000000) (hB : BoxAt w c b off n cap zs) (hz : w.cell? ⟨h, 0, none⟩ = some (.int .i64 z)) :
    Calls Try.prog 95 #[.int .i64 (k : Int), .pointer (some ⟨c, 0, none⟩), .pointer (some ⟨h, 0, none⟩)] w fun e w' => e = .returned (.bool (decide (z < (zs k).1))) ∧ Below w.heap.size w w' := by
  have c0 := hB.cell
  have c1 := (hB.sp k hk).1
  clear hB
  have q0 : (0 : Int) ≤ (k : Int) := by omega
  have q1 : (k : Int) < (n : Int) := by omega
  generalize (zs k).1 = Z at c1 ⊢
  go_enter Try.func95, Try.ntmps95
  go_wp2
  go_quiet (fail)
  go_wp2
  go_ret
  exact ⟨rfl, drewN_below (Below.refl _ _) _⟩

theorem srch_seg {n : Nat} {zs : Nat → Int × Int} {most z : Int} {r : Nat} (hT : TabOk n zs most) (z0 : 0 ≤ z) (h : SrchIs n (fun k => decide (z < (zs k).1)) r) : ∃ i, r = i + 1 ∧ SegIs n zs z i := by
  obtain ⟨h1, h2, h3⟩ := h
  have n2 := hT.n2
  cases r with
  | zero =>
    have := of_decide_eq_true (h3 0 (Nat.le_refl _) (by omega))
    rw [hT.z0] at this; omega
  | succ i => exact ⟨i, rfl, h1, fun j hj => by have := of_decide_eq_false (h2 (j + 1) (by omega)); omega, fun hi => of_decide_eq_true (h3 (i + 1) (Nat.le_refl _) hi)⟩
theorem above_mono {n : Nat} {zs : Nat → Int × Int} {most z : Int} (hT : TabOk n zs most) : ∀ i j, i ≤ j → j < n → (fun k => decide (z < (zs k).1)) i = true → (fun k => decide (z < (zs k).1)) j = true := by
  intro i j hij hj hi
  have a := of_decide_eq_true hi
  have b := hT.zmono (j - i) i (by omega)
  rw [show i + (j - i) = j by omega] at b
  exact decide_eq_true (by omega)

/-- the boxes of a closure's call -/
theorem worth_boxes (w : World) (z : Int) : ∃ A, A = (w.alloc (.cells #[.int .i64 z] 3)).alloc (.cells #[.int .i64 0, .int .i64 0] 24) ∧ A.cell? ⟨w.heap.size, 0, none⟩ = some (.int .i64 z) ∧ A.heap.size = w.heap.size + 2 ∧ Below w.heap.size w A ∧ A.cell? ⟨w.heap.size + 1, 0, none⟩ = some (.int .i64 0) ∧ A.cell? ⟨w.heap.size + 1, 1, none⟩ = some (.int .i64 0) ∧ A.frozen? ⟨w.heap.size + 1, 0, none⟩ = false ∧ A.frozen? ⟨w.heap.size + 1, 1, none⟩ = false := by
  obtain ⟨A1, e1⟩ : ∃ A, A = w.alloc (.cells #[.int .i64 z] 3) := ⟨_, rfl⟩
  have s1 : A1.heap.size = w.heap.size + 1 := by rw [e1]; exact World.size_alloc _ _
  have b1 : Below w.heap.size w A1 := by rw [e1]; exact below_alloc _ _
  have c1 : A1.cell? ⟨w.heap.size, 0, none⟩ = some (.int .i64 z) := by rw [e1]; exact alloc_new rfl rfl
  rw [← e1]
  refine ⟨_, rfl, alloc_keep (by omega) c1, by rw [World.size_alloc]; omega, b1.trans ((below_alloc _ _).mono (by omega)), ?_, ?_, ?_, ?_⟩
  · exact alloc_new s1.symm rfl
  · exact alloc_new s1.symm rfl
  · exact alloc_newF s1.symm
  · exact alloc_newF s1.symm

set_option maxRecDepth 100000 in
set_option maxHeartbeats 6400000 in
theorem worth_any (c b off n cap : Nat) (zs : Nat → Int × Int) (most z : Int) (w : World) (hT : TabOk n zs most) (hm : most ≤ 1073741824) (z0 : 0 ≤ z) (z1 : z ≤ 1073741824) (hB : BoxAt w c b off n cap zs) :
    Calls Try.prog 93 #[.int .i64 z, .pointer (some ⟨c, 0, none⟩)] w fun e w' => e = .returned (.agg #[.int .i64 (valLo n zs z), .int .i64 (valHi n zs z)]) ∧ Below w.heap.size w w' := by
  obtain ⟨A, hA, cz, zA, bA, r0, r1, f0, f1⟩ := worth_boxes w z
  have BA := hB.keep bA
  have hn := hT.n32
  have HS1 := Lib.hid (show Calls Try.prog 94 #[.int .i64 n, .func (Fn.func 95) #[] #[.pointer (some ⟨c, 0, none⟩), .pointer (some ⟨w.heap.size, 0, none⟩)]] A (SrchRet n (fun k => decide (z < (zs k).1)) A) from
    Search95 n _ _ _ A (by omega) (above_mono hT) (fun k wr hk hb => above_any c b off n cap zs w.heap.size z k wr hk (by omega) (BA.keep hb) (keepB hb (by omega) cz)))
  have cb := BA.cell
  rw [hA] at cb
  go_enter Try.func93, Try.ntmps93
  go_wp2_with fail
  rw [← hA]
  refine HS1.out.mono ?_; rintro e X ⟨r, hr, rfl, hbX⟩
  obtain ⟨i, rfl, hi⟩ := srch_seg hT z0 hr
  clear hr HS1 hA cb
  have BX := BA.keep hbX
  have cz := keepB hbX (by omega) cz
  have r0 := keepB hbX (by omega) r0
  have r1 := keepB hbX (by omega) r1
  have f0 := keepF hbX (by omega) f0
  have f1 := keepF hbX (by omega) f1
  have zX := hbX.size
  have bX := bA.trans (hbX.mono bA.size)
  clear hbX bA BA hB
  have cb := BX.cell
  have lc := BX.lc
  have lb := BX.lb
  have y0 : w.heap.size < X.heap.size := by omega
  have y1 : w.heap.size + 1 < X.heap.size := by omega
  have hin := hi.lt
  obtain ⟨a0, a1⟩ := BX.sp i (by omega)
  have q0 : (0 : Int) ≤ (i : Int) := by omega
  have q1 : (i : Int) < (n : Int) := by omega
  have bE : Below X.heap.size X (X.alloc (.cells #[.int .i64 (zs i).1, .int .i64 (zs i).2] 112)) := below_alloc _ _
  have zE : (X.alloc (.cells #[.int .i64 (zs i).1, .int .i64 (zs i).2] 112)).heap.size = X.heap.size + 1 := World.size_alloc _ _
  have x0 : (X.alloc (.cells #[.int .i64 (zs i).1, .int .i64 (zs i).2] 112)).cell? ⟨X.heap.size, 0, none⟩ = some (.int .i64 (zs i).1) := alloc_new rfl rfl
  have x1 : (X.alloc (.cells #[.int .i64 (zs i).1, .int .i64 (zs i).2] 112)).cell? ⟨X.heap.size, 1, none⟩ = some (.int .i64 (zs i).2) := alloc_new rfl rfl
  by_cases hl : i + 1 < n
  · have HV := Lib.hid (val_in hi hl)
    obtain ⟨dn1, dn2, nm1, _, nm2, dr1, dr2, dz1, dz2⟩ := hT.num hm z0 hi hl
    have HVb := hT.val hm z0
    obtain ⟨b0, b1⟩ := BX.sp (i + 1) hl
    have q2 : (0 : Int) ≤ (i : Int) + 1 := by omega
    have q3 : (i : Int) + 1 < (n : Int) := by omega
    have t1 : ((i : Int) + 1).toNat = i + 1 := by omega
    have hq : ((i : Int) + 1 == (n : Int)) = false := by rw [beq_eq_false_iff_ne]; omega
    have rb1 := hT.rb i (by omega)
    have rb2 := hT.rb (i + 1) hl
    have zb1 := hT.zb i (by omega)
    have zb2 := hT.zb (i + 1) hl
    obtain ⟨N1, hN1⟩ : ∃ x, x = numP zs z i := ⟨_, rfl⟩
    obtain ⟨D1, hD1⟩ : ∃ x, x = denP zs i := ⟨_, rfl⟩
    rw [← hN1] at HV nm1 nm2
    rw [← hD1] at HV dn1 dn2
    have HN := Lib.hid (show ((zs (i + 1)).2 - (zs i).2) * (z - (zs i).1) = N1 from hN1.symm)
    have HD := Lib.hid (show (zs (i + 1)).1 - (zs i).1 = D1 from hD1.symm)
    rw [HV.out.1, HV.out.2] at HVb
    clear hN1 hD1
    generalize (zs i).1 = za at *
    generalize (zs i).2 = ra at *
    generalize (zs (i + 1)).1 = zb at *
    generalize (zs (i + 1)).2 = rb at *
    have i1 : IntKind.i64.wrap ((rb - ra) * (z - za)) = N1 := by rw [HN.out]; exact IntWalk.i64_in _ (by omega)
    have i2 : IntKind.i64.wrap (zb - za) = D1 := by rw [HD.out]; exact IntWalk.i64_in _ (by omega)
    have i3 : zb - za = D1 := HD.out
    have i4 : (rb - ra) * (z - za) = N1 := HN.out
    have i5 : IntKind.i64.wrap (rb - ra) = rb - ra := IntWalk.i64_in _ (by omega)
    have i6 : IntKind.i64.wrap (z - za) = z - za := IntWalk.i64_in _ (by omega)
    obtain ⟨U, hU⟩ : ∃ U, U = (X.alloc (.cells #[.int .i64 za, .int .i64 ra] 112)).alloc (.cells #[.int .i64 zb, .int .i64 rb] 112) := ⟨_, rfl⟩
    have bU : Below X.heap.size X U := by rw [hU]; exact bE.trans ((below_alloc _ _).mono (by omega))
    have u1 : U.cell? ⟨X.heap.size, 1, none⟩ = some (.int .i64 ra) := by rw [hU]; exact alloc_keep (by omega) x1
    have zU : X.heap.size < U.heap.size := by rw [hU, World.size_alloc]; omega
    clear x0 x1 bE zE
    go_wp2_with fail
    go_quiet (fail)
    rw [← hU]
    have bY : Below X.heap.size X (U.drewN nq) := drewN_below bU nq
    have y3 : (U.drewN nq).cell? ⟨X.heap.size, 1, none⟩ = some (.int .i64 ra) := keepB (drewN_below (Below.refl U.heap.size U) nq) zU u1
    obtain ⟨Y, hY⟩ : ∃ Y, Y = U.drewN nq := ⟨_, rfl⟩
    rw [← hY] at bY y3 ⊢
    have y4 := keepB bY y1 r0
    have y5 := keepB bY y1 r1
    have yf0 := keepF bY y1 f0
    have yf1 := keepF bY y1 f1
    have bW : Below w.heap.size w Y := bX.trans (bY.mono bX.size)
    have y6 : w.heap.size + 1 < Y.heap.size := Nat.lt_of_lt_of_le y1 bY.size
    clear hY hU bU u1 zU i1 i2 i3 i4 i5 i6 r0 r1 f0 f1 a0 a1 b0 b1 cz cb t1 hq BX bX bY
    obtain ⟨Q1, hQ1⟩ : ∃ x, x = N1 / D1 := ⟨_, rfl⟩
    obtain ⟨C1, hC1⟩ : ∃ x, x = cdiv N1 D1 := ⟨_, rfl⟩
    have HU := Lib.hid (fun W => show Calls Try.prog 58 #[.int .i64 N1, .int .i64 D1] W fun e w' => e = .returned (.int .i64 C1) ∧ W = w' from by rw [hC1]; exact up_any N1 D1 W dn1 (by omega) nm1 (by omega))
    have td : N1.tdiv D1 = Q1 := by rw [hQ1]; exact Int.tdiv_eq_ediv_of_nonneg nm1
    rw [← hQ1, ← hC1] at HV HVb
    have td2 : N1 / D1 = Q1 := hQ1.symm
    have dz : (D1 == 0) = false := by rw [beq_eq_false_iff_ne]; omega
    have dz2 : ¬ D1 = 0 := by omega
    have i7 : IntKind.i64.wrap Q1 = Q1 := IntWalk.i64_in _ (by omega)
    have i8 : IntKind.i64.wrap (ra + Q1) = ra + Q1 := IntWalk.i64_in _ (by omega)
    have i9 : IntKind.i64.wrap (ra + C1) = ra + C1 := IntWalk.i64_in _ (by omega)
    clear hQ1 hC1
    have HS := Lib.hid (show (fun w' : World => w'.cell? ⟨X.heap.size, 1, none⟩ = some (.int .i64 ra) ∧ w'.cell? ⟨w.heap.size + 1, 0, none⟩ = some (.int .i64 0) ∧ w'.cell? ⟨w.heap.size + 1, 1, none⟩ = some (.int .i64 0) ∧ Below Y.drew.heap.size Y.drew w') Y.drew from ⟨y3, y4, y5, Below.refl _ _⟩)
    clear y3 y4 y5
    go_wp2_with fail
    refine wp_region_held_tail (S := (fun w' : World => w'.cell? ⟨X.heap.size, 1, none⟩ = some (.int .i64 ra) ∧ w'.cell? ⟨w.heap.size + 1, 0, none⟩ = some (.int .i64 0) ∧ w'.cell? ⟨w.heap.size + 1, 1, none⟩ = some (.int .i64 0) ∧ Below Y.drew.heap.size Y.drew w')) 13 (by kernel_rfl) (by kernel_rfl) HS.out (fun hHeld => ?_)
    refine wpAnyH_take (i := 0) (v := ?v0_1) rfl (by kernel_rfl) (by kernel_rfl) (by kernel_rfl) (fun _ _ _ h => h) (Or.inl ⟨by rfl, ?hy0_1⟩) (by assumption) ?rest0_1
    case hy0_1 => (intro w hSw; (try dsimp only at hSw); go_simp; (try with_reducible rfl))
    try simp only [Act.put, List.setIfInBounds_toArray, List.set_cons_zero, List.set_cons_succ]
    refine wpAnyH_take (i := 1) (v := ?v1_2) rfl (by kernel_rfl) (by kernel_rfl) (by kernel_rfl) (fun _ _ _ h => h) (Or.inl ⟨by rfl, ?hy1_2⟩) (by assumption) ?rest1_2
    case hy1_2 => (intro w hSw; (try dsimp only at hSw); go_simp; (try with_reducible rfl))
    try simp only [Act.put, List.setIfInBounds_toArray, List.set_cons_zero, List.set_cons_succ]
    refine wpAnyH_take (i := 2) (v := ?v2_3) rfl (by kernel_rfl) (by kernel_rfl) (by kernel_rfl) (fun _ _ _ h => h) (Or.inl ⟨by rfl, ?hy2_3⟩) (by assumption) ?rest2_3
    case hy2_3 => (intro w hSw; (try dsimp only at hSw); go_simp; (try with_reducible rfl))
    try simp only [Act.put, List.setIfInBounds_toArray, List.set_cons_zero, List.set_cons_succ]
    refine wpAnyH_take (i := 3) (v := ?v3_4) rfl (by kernel_rfl) (by kernel_rfl) (by kernel_rfl) (fun _ _ _ h => h) (Or.inl ⟨by rfl, ?hy3_4⟩) (by assumption) ?rest3_4
    case hy3_4 => (intro w hSw; (try dsimp only at hSw); go_simp; (try with_reducible rfl))
    try simp only [Act.put, List.setIfInBounds_toArray, List.set_cons_zero, List.set_cons_succ]
    refine wpAnyH_take (i := 4) (v := ?v4_5) rfl (by kernel_rfl) (by kernel_rfl) (by kernel_rfl) (fun _ _ _ h => h) (Or.inl ⟨by rfl, ?hy4_5⟩) (by assumption) ?rest4_5
    case hy4_5 => (intro w hSw; (try dsimp only at hSw); go_simp; (try with_reducible rfl))
    try simp only [Act.put, List.setIfInBounds_toArray, List.set_cons_zero, List.set_cons_succ]
    refine wpAnyH_take (i := 5) (v := ?v5_6) rfl (by kernel_rfl) (by kernel_rfl) (by kernel_rfl) (fun _ _ _ h => h) (Or.inl ⟨by rfl, ?hy5_6⟩) (by assumption) ?rest5_6
    case hy5_6 => (intro w hSw; (try dsimp only at hSw); go_simp; (try with_reducible rfl))
    try simp only [Act.put, List.setIfInBounds_toArray, List.set_cons_zero, List.set_cons_succ]
    refine wpAnyH_take (i := 6) (v := ?v6_7) rfl (by kernel_rfl) (by kernel_rfl) (by kernel_rfl) (fun _ _ _ h => h) (Or.inl ⟨by rfl, ?hy6_7⟩) (by assumption) ?rest6_7
    case hy6_7 => (intro w hSw; (try dsimp only at hSw); go_simp; (try with_reducible rfl))
    try simp only [Act.put, List.setIfInBounds_toArray, List.set_cons_zero, List.set_cons_succ]
    refine wpAnyH_take (i := 7) (v := ?v7_8) rfl (by kernel_rfl) (by kernel_rfl) (by kernel_rfl) (fun _ _ _ h => h) (Or.inl ⟨by rfl, ?hy7_8⟩) (by assumption) ?rest7_8
    case hy7_8 => (intro w hSw; (try dsimp only at hSw); go_simp; (try with_reducible rfl))
    try simp only [Act.put, List.setIfInBounds_toArray, List.set_cons_zero, List.set_cons_succ]
    refine wpAnyH_take (i := 8) (v := ?v8_9) rfl (by kernel_rfl) (by kernel_rfl) (by kernel_rfl) (fun _ _ _ h => h) (Or.inl ⟨by rfl, ?hy8_9⟩) (by assumption) ?rest8_9
    case hy8_9 => (intro w hSw; (try dsimp only at hSw); go_simp; (try with_reducible rfl))
    try simp only [Act.put, List.setIfInBounds_toArray, List.set_cons_zero, List.set_cons_succ]
    refine wpAnyH_take (i := 9) (v := ?v9_10) rfl (by kernel_rfl) (by kernel_rfl) (by kernel_rfl) (fun _ _ _ h => h) (Or.inl ⟨by rfl, ?hy9_10⟩) (by assumption) ?rest9_10
    case hy9_10 => (intro w hSw; (try dsimp only at hSw); go_simp; (try with_reducible rfl))
    try simp only [Act.put, List.setIfInBounds_toArray, List.set_cons_zero, List.set_cons_succ]
    refine wpAnyH_ready (rs := [10]) (by kernel_rfl) (by simp) ?_
    refine AllReadyH.cons rfl (fun K hK => ?_) AllReadyH.nil
    go_simp; go_at_call 58; refine (HU.out _).mono ?_; rintro e' w' ⟨rfl, rfl⟩
    refine hK.out _ _ hHeld (fun hHeld => ?_)
    clear hK K
    try simp only [Act.put, List.setIfInBounds_toArray, List.set_cons_zero, List.set_cons_succ]
    refine wpAnyH_take (i := 11) (v := ?v11_11) rfl (by kernel_rfl) (by kernel_rfl) (by kernel_rfl) (fun _ _ _ h => h) (Or.inl ⟨by rfl, ?hy11_11⟩) (by assumption) ?rest11_11
    case hy11_11 => (intro w hSw; (try dsimp only at hSw); go_simp; (try with_reducible rfl))
    try simp only [Act.put, List.setIfInBounds_toArray, List.set_cons_zero, List.set_cons_succ]
    refine wpAnyH_take (i := 12) (v := ?v12_12) rfl (by kernel_rfl) (by kernel_rfl) (by kernel_rfl) (fun _ _ _ h => h) (Or.inl ⟨by rfl, ?hy12_12⟩) (by assumption) ?rest12_12
    case hy12_12 => (intro w hSw; (try dsimp only at hSw); go_simp; (try with_reducible rfl))
    try simp only [Act.put, List.setIfInBounds_toArray, List.set_cons_zero, List.set_cons_succ]
    refine wpAnyH_done (by kernel_rfl) ?_ _
    change wpList _ _ _ _ _ _
    simp only [List.drop_succ_cons, List.drop_zero]
    obtain ⟨g0, g1, g2, gb⟩ := hHeld
    have k0 : Y.drew.frozen? ⟨w.heap.size + 1, 0, none⟩ = false := yf0
    have k1 : Y.drew.frozen? ⟨w.heap.size + 1, 1, none⟩ = false := yf1
    have bV : Below w.heap.size w Y.drew := bW.drew
    obtain ⟨V, hV⟩ : ∃ V, V = Y.drew := ⟨_, rfl⟩
    rw [← hV] at g0 g1 g2 k0 k1 bV ⊢
    clear hV gb yf0 yf1 HS HU HN HD
    go_wp2
    exact bodyPost_ret (v := .agg #[.int .i64 (ra + Q1), .int .i64 (ra + C1)]) (by simp [results, Try.results93, go_sem, set_same (i := 0) (v := .int .i64 (ra + Q1)) g1, set_other (i := 1) (j := 0) (v := .int .i64 (ra + C1)) (by decide) (set_same (i := 0) (v := .int .i64 (ra + Q1)) g1), set_same (i := 1) (v := .int .i64 (ra + C1)) (set_other (i := 0) (j := 1) (v := .int .i64 (ra + Q1)) (by decide) g2)]) rfl ⟨by rw [HV.out.1, HV.out.2], ((bV.setCell (p := ⟨w.heap.size + 1, 0, none⟩) (by dsimp only; omega) _).setCell (p := ⟨w.heap.size + 1, 1, none⟩) (by dsimp only; omega) _)⟩
  · have HV := Lib.hid (val_last hi (by omega))
    have hq : ((i : Int) + 1 == (n : Int)) = true := by rw [beq_iff_eq]; omega
    generalize (zs i).1 = za at *
    generalize (zs i).2 = ra at *
    obtain ⟨U, hU⟩ : ∃ U, U = X.alloc (.cells #[.int .i64 za, .int .i64 ra] 112) := ⟨_, rfl⟩
    rw [← hU] at bE x0 x1 zE
    have y4 := keepB bE y1 r0
    have y5 := keepB bE y1 r1
    have yf0 := keepF bE y1 f0
    have yf1 := keepF bE y1 f1
    have bU : Below w.heap.size w U := bX.trans (bE.mono bX.size)
    have y6 : w.heap.size + 1 < U.heap.size := by omega
    go_wp2_with fail
    rw [← hU]
    refine (only_any _ _).mono ?_; rintro e V ⟨rfl, hbV⟩
    have g1 := keepB hbV y6 y4
    have g2 := keepB hbV y6 y5
    have k0 := keepF hbV y6 yf0
    have k1 := keepF hbV y6 yf1
    have bV := bU.trans (hbV.mono bU.size)
    clear hbV bU bE hU y4 y5 yf0 yf1 r0 r1 f0 f1 x0 x1 a0 a1 cz cb BX bX
    go_wp2
    exact bodyPost_ret (v := .agg #[.int .i64 ra, .int .i64 ra]) (by simp [results, Try.results93, go_sem, set_same (i := 0) (v := .int .i64 ra) g1, set_other (i := 1) (j := 0) (v := .int .i64 ra) (by decide) (set_same (i := 0) (v := .int .i64 ra) g1), set_same (i := 1) (v := .int .i64 ra) (set_other (i := 0) (j := 1) (v := .int .i64 ra) (by decide) g2)]) rfl ⟨by rw [HV.out.1, HV.out.2], ((bV.setCell (p := ⟨w.heap.size + 1, 0, none⟩) (by dsimp only; omega) _).setCell (p := ⟨w.heap.size + 1, 1, none⟩) (by dsimp only; omega) _)⟩

end Go.Proofs.Ytdmbkhmhaininaa
