/-
  Pairs, and the scales that suit one.
-/
import Derived.Test.YtdmbkhmhaininaaGM
import Derived.Test.YtdmbkhmhaininaaH
import Derived.Test.YtdmbkhmhaininaaC
namespace Go.Proofs.Ytdmbkhmhaininaa
open Go.RowKit
set_option linter.unusedVariables false
set_option linter.unusedSimpArgs false

/-- the pairs of a slice -/
def PrsAt (w : World) (b off n : Nat) (ps : Nat → Pr) : Prop := ∀ i, i < n → w.cell? ⟨b, off + i * 4, none⟩ = some (.int .i64 (ps i).s1) ∧ w.cell? ⟨b, off + i * 4 + 1, none⟩ = some (.int .i64 (ps i).s2) ∧ w.cell? ⟨b, off + i * 4 + 2, none⟩ = some (.int .i64 (ps i).ti) ∧ w.cell? ⟨b, off + i * 4 + 3, none⟩ = some (.int .i64 (ps i).sz)
def PrsIs (w : World) (a : Option Addr) (n : Nat) (ps : Nat → Pr) : Prop := n = 0 ∨ ∃ b off, a = some ⟨b, off, none⟩ ∧ b < w.heap.size ∧ PrsAt w b off n ps
theorem PrsAt.keep {B b off n : Nat} {W w1 : World} {ps : Nat → Pr} (s : PrsAt W b off n ps) (hb : Below B W w1) (h : b < B) : PrsAt w1 b off n ps := fun i hi => ⟨keepB hb h (s i hi).1, keepB hb h (s i hi).2.1, keepB hb h (s i hi).2.2.1, keepB hb h (s i hi).2.2.2⟩
theorem PrsIs.keep {a : Option Addr} {n : Nat} {W w1 : World} {ps : Nat → Pr} (s : PrsIs W a n ps) (hb : Below W.heap.size W w1) : PrsIs w1 a n ps := by
  rcases s with h | ⟨b, off, h, hl, hs⟩
  · exact .inl h
  · exact .inr ⟨b, off, h, Nat.lt_of_lt_of_le hl hb.size, hs.keep hb hl⟩
theorem feL_gL (p : Pr) : feL p.ti p.sz = gL p := rfl
theorem feH_gH (p : Pr) : feH p.ti p.sz = gH p := rfl

set_option maxHeartbeats 1600000 in
theorem Search100 (n : Nat) (c1 c2 : Value) (p : Nat → Bool) (w : World) (hn : n ≤ 1000000) (hmono : ∀ i j, i ≤ j → j < n → p i = true → p j = true)
    (hf : ∀ (k : Nat) (wr : World), k < n → Below w.heap.size w wr → Calls Try.prog 100 #[.int .i64 k, c1, c2] wr fun e w' => e = .returned (.bool (p k)) ∧ Below wr.heap.size wr w') :
    Calls Try.prog 94 #[.int .i64 n, .func (Fn.func 100) #[] #[c1, c2]] w (SrchRet n p w) := by
  have HF := Lib.hid hf
  have HM := Lib.hid hmono
  clear hf hmono
  go_enter Try.func94, Try.ntmps94
  go_wp2
  go_loopw [5, 6] (fun i j wr => ∃ a b : Nat, SrchRel n p a b ∧ i = .int .i64 a ∧ j = .int .i64 b ∧ Below w.heap.size w wr) (fun i j _ => (intOf j).toNat - (intOf i).toNat)
  case atStart => exact ⟨0, n, ⟨Nat.zero_le _, Nat.le_refl _, fun k hk => by omega, fun k h1 h2 => by omega⟩, rfl, rfl, Below.refl _ _⟩
  case round =>
    obtain ⟨a, b, hrel, rfl, rfl, hbw⟩ := hrel
    have h1 : a ≤ b := hrel.1
    have h2 : b ≤ n := hrel.2.1
    have HR := Lib.hid hrel
    clear hrel
    by_cases hlt : a < b
    · have e1 : ((a : Int) + (b : Int)) / 2 = (((a + b) / 2 : Nat) : Int) := by omega
      have E1 := Lib.hid e1
      clear e1
      obtain ⟨m, hm⟩ : ∃ m, m = (a + b) / 2 := ⟨_, rfl⟩
      have m1 : a ≤ m := by omega
      have m2 : m < b := by omega
      have HFm := Lib.hid (HF.out m wr (by omega) hbw)
      have HM2 := Lib.hid hm
      clear hm
      rcases (Bool.eq_false_or_eq_true (p m)).symm with hp | hp
      · have HR2 := Lib.hid (srch_no HM.out HR.out m1 m2 hp)
        rw [hp] at HFm
        clear hp
        go_wp2_with fail
        rw [E1.out, ← HM2.out]
        refine (HFm.out).mono ?_; rintro e w1 ⟨rfl, hb1⟩
        have hbw2 := hbw.trans (hb1.mono hbw.size)
        clear hb1
        go_wp2
        go_roundw
        case rel => exact ⟨m + 1, b, HR2.out, by go_num, rfl, hbw2⟩
        case measure => simp [intOf]; omega
      · have HR2 := Lib.hid (srch_yes HM.out HR.out m1 m2 hp)
        rw [hp] at HFm
        clear hp
        go_wp2_with fail
        rw [E1.out, ← HM2.out]
        refine (HFm.out).mono ?_; rintro e w1 ⟨rfl, hb1⟩
        have hbw2 := hbw.trans (hb1.mono hbw.size)
        clear hb1
        go_wp2
        go_roundw
        case rel => exact ⟨a, m, HR2.out, rfl, rfl, hbw2⟩
        case measure => simp [intOf]; omega
    · have HS := Lib.hid (srch_end HR.out hlt)
      go_wp2
      go_ret
      exact ⟨a, HS.out, rfl, hbw⟩

set_option maxHeartbeats 1600000 in
theorem Search101 (n : Nat) (c1 c2 : Value) (p : Nat → Bool) (w : World) (hn : n ≤ 1000000) (hmono : ∀ i j, i ≤ j → j < n → p i = true → p j = true)
    (hf : ∀ (k : Nat) (wr : World), k < n → Below w.heap.size w wr → Calls Try.prog 101 #[.int .i64 k, c1, c2] wr fun e w' => e = .returned (.bool (p k)) ∧ Below wr.heap.size wr w') :
    Calls Try.prog 94 #[.int .i64 n, .func (Fn.func 101) #[] #[c1, c2]] w (SrchRet n p w) := by
  have HF := Lib.hid hf
  have HM := Lib.hid hmono
  clear hf hmono
  go_enter Try.func94, Try.ntmps94
  go_wp2
  go_loopw [5, 6] (fun i j wr => ∃ a b : Nat, SrchRel n p a b ∧ i = .int .i64 a ∧ j = .int .i64 b ∧ Below w.heap.size w wr) (fun i j _ => (intOf j).toNat - (intOf i).toNat)
  case atStart => exact ⟨0, n, ⟨Nat.zero_le _, Nat.le_refl _, fun k hk => by omega, fun k h1 h2 => by omega⟩, rfl, rfl, Below.refl _ _⟩
  case round =>
    obtain ⟨a, b, hrel, rfl, rfl, hbw⟩ := hrel
    have h1 : a ≤ b := hrel.1
    have h2 : b ≤ n := hrel.2.1
    have HR := Lib.hid hrel
    clear hrel
    by_cases hlt : a < b
    · have e1 : ((a : Int) + (b : Int)) / 2 = (((a + b) / 2 : Nat) : Int) := by omega
      have E1 := Lib.hid e1
      clear e1
      obtain ⟨m, hm⟩ : ∃ m, m = (a + b) / 2 := ⟨_, rfl⟩
      have m1 : a ≤ m := by omega
      have m2 : m < b := by omega
      have HFm := Lib.hid (HF.out m wr (by omega) hbw)
      have HM2 := Lib.hid hm
      clear hm
      rcases (Bool.eq_false_or_eq_true (p m)).symm with hp | hp
      · have HR2 := Lib.hid (srch_no HM.out HR.out m1 m2 hp)
        rw [hp] at HFm
        clear hp
        go_wp2_with fail
        rw [E1.out, ← HM2.out]
        refine (HFm.out).mono ?_; rintro e w1 ⟨rfl, hb1⟩
        have hbw2 := hbw.trans (hb1.mono hbw.size)
        clear hb1
        go_wp2
        go_roundw
        case rel => exact ⟨m + 1, b, HR2.out, by go_num, rfl, hbw2⟩
        case measure => simp [intOf]; omega
      · have HR2 := Lib.hid (srch_yes HM.out HR.out m1 m2 hp)
        rw [hp] at HFm
        clear hp
        go_wp2_with fail
        rw [E1.out, ← HM2.out]
        refine (HFm.out).mono ?_; rintro e w1 ⟨rfl, hb1⟩
        have hbw2 := hbw.trans (hb1.mono hbw.size)
        clear hb1
        go_wp2
        go_roundw
        case rel => exact ⟨a, m, HR2.out, rfl, rfl, hbw2⟩
        case measure => simp [intOf]; omega
    · have HS := Lib.hid (srch_end HR.out hlt)
      go_wp2
      go_ret
      exact ⟨a, HS.out, rfl, hbw⟩

set_option maxHeartbeats 1600000 in
theorem enough_any (p : Pr) (c d : Nat) (k : Nat) (w : World) (hp : PrOk p) (hk : k < 100000) (h1 : w.cell? ⟨c, 1, none⟩ = some (.int .i64 p.s2)) (h2 : w.cell? ⟨d, 0, none⟩ = some (.int .i64 (gL p))) :
    Calls Try.prog 100 #[.int .i64 (k : Int), .pointer (some ⟨c, 0, none⟩), .pointer (some ⟨d, 0, none⟩)] w fun e w' => e = .returned (.bool (decide (1000 * gL p ≤ p.s2 * (1 + (k : Int))))) ∧ Below w.heap.size w w' := by
  have g := hp.g
  have a1 := hp.a1
  have a2 := hp.a2
  have a3 := hp.a3
  have m := mul_bd (a := p.s2) (b := 1 + (k : Int)) (A := 2147483648) (B := 100000) (by omega) (by omega) (by omega) (by omega)
  generalize gL p = G at *
  generalize p.s2 = S at *
  have e1 : IntKind.i64.wrap (1 + (k : Int)) = 1 + (k : Int) := IntWalk.i64_in _ (by omega)
  have e2 : IntKind.i64.wrap (S * (1 + (k : Int))) = S * (1 + (k : Int)) := IntWalk.i64_in _ (by omega)
  have e3 : IntKind.i64.wrap (1000 * G) = 1000 * G := IntWalk.i64_in _ (by omega)
  go_enter Try.func100, Try.ntmps100
  go_wp2
  go_ret
  exact ⟨rfl, Below.refl _ _⟩

set_option maxHeartbeats 1600000 in
theorem beyond_any (p : Pr) (c d : Nat) (k : Nat) (w : World) (hp : PrOk p) (hk : k < 100000) (h1 : w.cell? ⟨c, 0, none⟩ = some (.int .i64 p.s1)) (h2 : w.cell? ⟨d, 1, none⟩ = some (.int .i64 (gH p))) :
    Calls Try.prog 101 #[.int .i64 (k : Int), .pointer (some ⟨c, 0, none⟩), .pointer (some ⟨d, 0, none⟩)] w fun e w' => e = .returned (.bool (decide (1000 * gH p < p.s1 * (1 + (k : Int))))) ∧ Below w.heap.size w w' := by
  have g := hp.g
  have a1 := hp.a1
  have a2 := hp.a2
  have a3 := hp.a3
  have m := mul_bd (a := p.s1) (b := 1 + (k : Int)) (A := 2147483648) (B := 100000) (by omega) (by omega) (by omega) (by omega)
  generalize gH p = G at *
  generalize p.s1 = S at *
  have e1 : IntKind.i64.wrap (1 + (k : Int)) = 1 + (k : Int) := IntWalk.i64_in _ (by omega)
  have e2 : IntKind.i64.wrap (S * (1 + (k : Int))) = S * (1 + (k : Int)) := IntWalk.i64_in _ (by omega)
  have e3 : IntKind.i64.wrap (1000 * G) = 1000 * G := IntWalk.i64_in _ (by omega)
  go_enter Try.func101, Try.ntmps101
  go_wp2
  go_ret
  exact ⟨rfl, Below.refl _ _⟩

theorem enough_mono {p : Pr} (hp : PrOk p) : ∀ i j, i ≤ j → j < 100000 → (fun k : Nat => decide (1000 * gL p ≤ p.s2 * (1 + (k : Int)))) i = true → (fun k : Nat => decide (1000 * gL p ≤ p.s2 * (1 + (k : Int)))) j = true := by
  intro i j hij hj hi
  have a := of_decide_eq_true hi
  have b : p.s2 * (1 + (i : Int)) ≤ p.s2 * (1 + (j : Int)) := Int.mul_le_mul_of_nonneg_left (by omega) (by have := hp.a1; have := hp.a2; omega)
  exact decide_eq_true (by omega)
theorem beyond_mono {p : Pr} (hp : PrOk p) : ∀ i j, i ≤ j → j < 100000 → (fun k : Nat => decide (1000 * gH p < p.s1 * (1 + (k : Int)))) i = true → (fun k : Nat => decide (1000 * gH p < p.s1 * (1 + (k : Int)))) j = true := by
  intro i j hij hj hi
  have a := of_decide_eq_true hi
  have b : p.s1 * (1 + (i : Int)) ≤ p.s1 * (1 + (j : Int)) := Int.mul_le_mul_of_nonneg_left (by omega) hp.a1
  exact decide_eq_true (by omega)
theorem scale_boxes (w : World) (p : Pr) : ∃ A, A = (w.alloc (.cells #[.int .i64 p.s1, .int .i64 p.s2, .int .i64 p.ti, .int .i64 p.sz] 70)).alloc (.cells #[.int .i64 0, .int .i64 0] 24) ∧ Below w.heap.size w A ∧ A.heap.size = w.heap.size + 2 ∧ A.cell? ⟨w.heap.size, 0, none⟩ = some (.int .i64 p.s1) ∧ A.cell? ⟨w.heap.size, 1, none⟩ = some (.int .i64 p.s2) ∧ A.cell? ⟨w.heap.size, 2, none⟩ = some (.int .i64 p.ti) ∧ A.cell? ⟨w.heap.size, 3, none⟩ = some (.int .i64 p.sz) ∧ A.cell? ⟨w.heap.size + 1, 0, none⟩ = some (.int .i64 0) ∧ A.cell? ⟨w.heap.size + 1, 1, none⟩ = some (.int .i64 0) ∧ A.frozen? ⟨w.heap.size + 1, 0, none⟩ = false ∧ A.frozen? ⟨w.heap.size + 1, 1, none⟩ = false := by
  obtain ⟨A0, e0⟩ : ∃ A, A = w.alloc (.cells #[.int .i64 p.s1, .int .i64 p.s2, .int .i64 p.ti, .int .i64 p.sz] 70) := ⟨_, rfl⟩
  have s0 : A0.heap.size = w.heap.size + 1 := by rw [e0, World.size_alloc]
  have b0 : Below w.heap.size w A0 := by rw [e0]; exact below_alloc _ _
  have c0_0_0 : A0.cell? ⟨w.heap.size, 0, none⟩ = some (.int .i64 p.s1) := by rw [e0]; exact alloc_new rfl rfl
  have c0_1_0 : A0.cell? ⟨w.heap.size, 1, none⟩ = some (.int .i64 p.s2) := by rw [e0]; exact alloc_new rfl rfl
  have c0_2_0 : A0.cell? ⟨w.heap.size, 2, none⟩ = some (.int .i64 p.ti) := by rw [e0]; exact alloc_new rfl rfl
  have c0_3_0 : A0.cell? ⟨w.heap.size, 3, none⟩ = some (.int .i64 p.sz) := by rw [e0]; exact alloc_new rfl rfl
  rw [← e0]
  exact ⟨_, rfl, b0.trans ((below_alloc _ _).mono (by omega)), by rw [World.size_alloc]; omega, alloc_keep (by omega) c0_0_0, alloc_keep (by omega) c0_1_0, alloc_keep (by omega) c0_2_0, alloc_keep (by omega) c0_3_0, alloc_new s0.symm rfl, alloc_new s0.symm rfl, alloc_newF s0.symm, alloc_newF s0.symm⟩

set_option maxRecDepth 100000 in
set_option maxHeartbeats 3200000 in
theorem scales_any (p : Pr) (w : World) (hp : PrOk p) :
    Calls Try.prog 75 #[.agg #[.int .i64 p.s1, .int .i64 p.s2, .int .i64 p.ti, .int .i64 p.sz]] w fun e w' => e = .returned (.agg #[.int .i64 (cLo p), .int .i64 (rHi p)]) ∧ Below w.heap.size w w' := by
  obtain ⟨Y, hY, bY, zY, a0, a1, a2, a3, r0, r1, g0, g1⟩ := scale_boxes w p
  have HF := Lib.hid (fun W => show Calls Try.prog 72 #[.agg #[.int .i64 p.ti, .int .i64 p.sz]] W fun e w' => e = .returned (.agg #[.int .i64 (gL p), .int .i64 (gH p)]) ∧ Below W.heap.size W w' from fell_any p.ti p.sz W hp.b1 hp.b2 hp.c1 hp.c2)
  have HP := Lib.hid hp
  have lc := cr_F (fun _ => p) 1
  have c1 : 1 ≤ cLo p ∧ cLo p ≤ 100001 := by have := lo_ge (p := p); unfold cLo; omega
  have c2 := hi_le (p := p)
  have c3 := hi_ge hp
  clear lc
  have y0 : w.heap.size < Y.heap.size := by omega
  have y1 : w.heap.size + 1 < Y.heap.size := by omega
  clear zY
  go_enter Try.func75, Try.ntmps75
  go_wp2_with fail
  rw [← hY]
  clear hY
  refine (HF.out _).mono ?_; rintro e X ⟨rfl, hb⟩
  have bX := bY.trans (hb.mono bY.size)
  have a0 := keepB hb y0 a0
  have a1 := keepB hb y0 a1
  have r0 := keepB hb y1 r0
  have r1 := keepB hb y1 r1
  have g0 := keepF hb y1 g0
  have g1 := keepF hb y1 g1
  have y0 := Nat.lt_of_lt_of_le y0 hb.size
  have y1 := Nat.lt_of_lt_of_le y1 hb.size
  clear hb bY a2 a3
  have bb := below_alloc X (.cells #[.int .i64 (gL p), .int .i64 (gH p)] 24)
  have t0 : (X.alloc (.cells #[.int .i64 (gL p), .int .i64 (gH p)] 24)).cell? ⟨X.heap.size, 0, none⟩ = some (.int .i64 (gL p)) := alloc_new rfl rfl
  have t1 : (X.alloc (.cells #[.int .i64 (gL p), .int .i64 (gH p)] 24)).cell? ⟨X.heap.size, 1, none⟩ = some (.int .i64 (gH p)) := alloc_new rfl rfl
  have tz : X.heap.size < (X.alloc (.cells #[.int .i64 (gL p), .int .i64 (gH p)] 24)).heap.size := by rw [World.size_alloc]; omega
  have a0 := keepB bb y0 a0
  have a1 := keepB bb y0 a1
  have r0 := keepB bb y1 r0
  have r1 := keepB bb y1 r1
  have g0 := keepF bb y1 g0
  have g1 := keepF bb y1 g1
  have y0 := Nat.lt_of_lt_of_le y0 bb.size
  have y1 := Nat.lt_of_lt_of_le y1 bb.size
  have bE := bX.trans (bb.mono bX.size)
  obtain ⟨q, hq⟩ : ∃ q, q = X.heap.size := ⟨_, rfl⟩
  obtain ⟨E, hE⟩ : ∃ E, E = X.alloc (.cells #[.int .i64 (gL p), .int .i64 (gH p)] 24) := ⟨_, rfl⟩
  rw [← hE, ← hq] at t0 t1 tz
  rw [← hE] at a0 a1 r0 r1 g0 g1 y0 y1 bE
  clear bb bX HF
  go_wp2_with fail
  rw [← hE]
  try rw [← hq]
  clear hE hq
  refine (Search100 100000 _ _ (fun k => decide (1000 * gL p ≤ p.s2 * (1 + (k : Int)))) E (by decide) (enough_mono HP.out) (fun k wr hk hw => enough_any p w.heap.size q k wr HP.out hk (keepB hw y0 a1) (keepB hw tz t0))).mono ?_
  rintro e V ⟨r, hs, rfl, hb⟩
  have HL := Lib.hid (find_lo HP.out hs.1 hs.2.1 hs.2.2)
  have a0 := keepB hb y0 a0
  have r0 := keepB hb y1 r0
  have r1 := keepB hb y1 r1
  have g0 := keepF hb y1 g0
  have g1 := keepF hb y1 g1
  have t1 := keepB hb tz t1
  have y0 := Nat.lt_of_lt_of_le y0 hb.size
  have y1 := Nat.lt_of_lt_of_le y1 hb.size
  have tz := Nat.lt_of_lt_of_le tz hb.size
  have bV := bE.trans (hb.mono bE.size)
  have r5 := hs.1
  clear hb bE a1 t0 hs
  have e1 : IntKind.i64.wrap (1 + (r : Int)) = 1 + (r : Int) := IntWalk.i64_in _ (by omega)
  go_wp2_with fail
  refine (Search101 100000 _ _ (fun k => decide (1000 * gH p < p.s1 * (1 + (k : Int)))) V (by decide) (beyond_mono HP.out) (fun k wr hk hw => beyond_any p w.heap.size q k wr HP.out hk (keepB hw y0 a0) (keepB hw tz t1))).mono ?_
  rintro e U ⟨s, hs, rfl, hb⟩
  have HH := Lib.hid (find_hi HP.out hs.1 hs.2.1 hs.2.2)
  have r0 := keepB hb y1 r0
  have r1 := keepB hb y1 r1
  have g0 := keepF hb y1 g0
  have g1 := keepF hb y1 g1
  have y1 := Nat.lt_of_lt_of_le y1 hb.size
  have bU := bV.trans (hb.mono bV.size)
  have s5 := hs.1
  clear hb bV a0 t1 hs y0 tz
  have e2 : IntKind.i64.wrap (1 + (s : Int)) = 1 + (s : Int) := IntWalk.i64_in _ (by omega)
  have e3 : IntKind.i64.wrap (1 + (s : Int) - 1) = (s : Int) := by rw [show 1 + (s : Int) - 1 = (s : Int) by omega]; exact IntWalk.i64_in _ (by omega)
  have e4 : 1 + (s : Int) - 1 = (s : Int) := by omega
  go_wp2
  exact bodyPost_ret (v := .agg #[.int .i64 (1 + (r : Int)), .int .i64 (s : Int)]) (by simp [results, Try.results75, go_sem, set_same (i := 0) (v := .int .i64 (1 + (r : Int))) r0, set_other (i := 1) (j := 0) (v := .int .i64 (s : Int)) (by decide) (set_same (i := 0) (v := .int .i64 (1 + (r : Int))) r0), set_same (i := 1) (v := .int .i64 (s : Int)) (set_other (i := 0) (j := 1) (v := .int .i64 (1 + (r : Int))) (by decide) r1)]) rfl ⟨by rw [HL.out, HH.out], ((bU.setCell (p := ⟨w.heap.size + 1, 0, none⟩) (by dsimp only; omega) _).setCell (p := ⟨w.heap.size + 1, 1, none⟩) (by dsimp only; omega) _)⟩

end Go.Proofs.Ytdmbkhmhaininaa
