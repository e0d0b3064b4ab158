/-
  PulseArcIs, walked.
-/
import Derived.Test.Ytmojnopgpgnfeaamg29
import Derived.Test.Ytmojnopgpgnfeaamg17
namespace Go.Proofs.Ytmojnopgpgnfeaa
open Go.RowKit
set_option linter.unusedVariables false
set_option linter.unusedSimpArgs false

set_option maxRecDepth 100000 in
set_option maxHeartbeats 16000000 in
theorem ArcIs_walk_main (b off n cap : Nat) (cs : Nat → Int) (o : Int) (w : World) (h0 : 1 ≤ n) (hn : n ≤ 40) (hb : b < w.heap.size) (hc : NumsAt .u32 w b off n cs) (hcs : ∀ i, 0 ≤ cs i ∧ cs i < 4294967296) (ho : 0 ≤ o ∧ o < 256) :
    Calls Try.prog 12 #[.slice (some ⟨b, off, none⟩) n cap, .int .u8 o] w fun e w' => e = .returned (.bool true) ∧ Below w.heap.size w w' := by
  obtain ⟨q, hq⟩ : ∃ q : Nat, (q : Int) = o % n := ⟨(o % n).toNat, by have := Int.emod_nonneg o (show (n : Int) ≠ 0 by omega); omega⟩
  have hqn : q < n := by have := Int.emod_lt_of_pos o (show (0 : Int) < n by omega); omega
  have hmod : o.tmod (n : Int) = (q : Int) := by rw [Int.tmod_eq_emod_of_nonneg ho.1, hq]
  obtain ⟨f, hf⟩ : ∃ f : Nat → Int, f = fun j => cs j % 65536 := ⟨_, rfl⟩
  obtain ⟨g, hg⟩ : ∃ g : Nat → Int, g = fun j => cs (n - 1 - j) % 65536 := ⟨_, rfl⟩
  have HF := Lib.hid (show ∀ k, f k = cs k % 65536 from fun k => by rw [hf])
  have HG := Lib.hid (show ∀ k, g k = cs (n - 1 - k) % 65536 from fun k => by rw [hg])
  have HFB := Lib.hid (show ∀ k, 0 ≤ f k ∧ f k < 65536 from fun k => by rw [hf]; dsimp only; omega)
  have HE := Lib.hid (show ∀ x, x ∈ allTo f n ↔ x ∈ allTo g n from fun x => by
    rw [allTo_mem, allTo_mem, hf, hg]
    constructor
    · rintro ⟨j, hj, e⟩
      refine ⟨n - 1 - j, by omega, ?_⟩
      dsimp only
      rw [show n - 1 - (n - 1 - j) = j by omega]; exact e
    · rintro ⟨j, hj, e⟩
      exact ⟨n - 1 - j, by omega, e⟩)
  have HC := Lib.hid hc
  have HB := Lib.hid hcs
  have HM := Lib.hid hmod
  clear hc hcs hmod hq hf hg
  obtain ⟨i0, hi, hz0, hz1, hz2⟩ := info_parts info3
  have hmaxl : maxLen = 9223372036854775807 := rfl
  have e1 : ((n : Int) == 0) = false := beq_eq_false_iff_ne.2 (by omega)
  have e2 : decide (40 < (n : Int)) = false := decide_eq_false (by omega)
  go_enter Try.func12, Try.ntmps12
  go_wp2
  go_loopw [5, 6, 7, 8] (fun v5 v6 v7 v8 wr => ∃ k : Nat, k ≤ n ∧ v8 = .int .i64 k ∧ Tri w wr v5 v6 v7 (allTo f k) (allTo g k) (lessTo f q k)) (fun _ _ _ v8 _ => n - (intOf v8).toNat)
  case atStart => exact ⟨0, Nat.zero_le _, rfl, Tri.new w⟩
  case round =>
    obtain ⟨k, hk, rfl, hI⟩ := hrel
    by_cases hlt : k < n
    · have hbw := hI.b
      have hbr : b < wr.heap.size := Nat.lt_of_lt_of_le hb hbw.size
      have z1 := keepB hbw hb (HC.out k hlt)
      have b1 := HB.out k
      have b2 := HB.out (n - 1 - k)
      have l1 := allTo_len f k
      have l2 := allTo_len g k
      have l3 := lessTo_len f q k
      obtain ⟨c1, hc1⟩ : ∃ x, x = cs k := ⟨_, rfl⟩
      obtain ⟨c2, hc2⟩ : ∃ x, x = cs (n - 1 - k) := ⟨_, rfl⟩
      rw [← hc1] at z1 b1
      rw [← hc2] at b2
      have F1 := Lib.hid (show f k = c1 % 65536 by rw [hc1]; exact HF.out k)
      have F2 := Lib.hid (show g k = c2 % 65536 by rw [hc2]; exact HG.out k)
      have HC1 := Lib.hid (show w.cell? ⟨b, off + k, none⟩ = some (.int .u32 c1) by rw [hc1]; exact HC.out k hlt)
      have HC2 := Lib.hid (show w.cell? ⟨b, off + (n - 1 - k), none⟩ = some (.int .u32 c2) by rw [hc2]; exact HC.out (n - 1 - k) (by omega))
      have HI := Lib.hid hI
      have en : ((n : Int) - 1 - (k : Int)) = ((n - 1 - k : Nat) : Int) := by omega
      have hmm := HM.out
      have E1 := Lib.hid (show allTo f (k + 1) = allTo f k ++ [c1 % 65536] by rw [allTo, F1.out])
      have E2 := Lib.hid (show allTo g (k + 1) = allTo g k ++ [c2 % 65536] by rw [allTo, F2.out])
      clear hI hbw hc1 hc2
      by_cases hkq : k = q
      · have e6 : ((k : Int) == (q : Int)) = true := beq_iff_eq.2 (by omega)
        have e5 : ((k : Int) != (q : Int)) = false := by rw [bne, e6]; rfl
        have E3 := Lib.hid (show lessTo f q (k + 1) = lessTo f q k by rw [lessTo, if_pos hkq])
        clear hkq
        go_wp2_with (first
          | (at_builtin; refine wpList_append_own_at _ rfl _ _ 50 rfl w.heap.size 3 i0 (.int .i64 0) 1 8 Try.underlying50 hi hz0 hz1 hz2 rfl (by decide) _ _ _ rfl ((HI.out.r0).alloc _) ⟨wr.heap.size, 0, none⟩ 1 1 [.int .i64 (c1 % 65536)] rfl rfl (cell_one_new _ _ _) (by simp [Value.oneCell']) (by omega) (by omega) (by have := HI.out.b.size; simp; omega) ?_; intro v1 w1 hown hgrow _ hat; have HI1 := Lib.hid (HI.out.g0 hgrow hown hat); have hbr1 : b < w1.heap.size := Nat.lt_of_lt_of_le hb HI1.out.b.size; have z2 := keepB HI1.out.b hb HC2.out; clear hown hgrow hat HI)
          | (at_builtin; refine wpList_append_own_at _ rfl _ _ 50 rfl w.heap.size 3 i0 (.int .i64 0) 1 8 Try.underlying50 hi hz0 hz1 hz2 rfl (by decide) _ _ _ rfl ((HI1.out.r1).alloc _) ⟨w1.heap.size, 0, none⟩ 1 1 [.int .i64 (c2 % 65536)] rfl rfl (cell_one_new _ _ _) (by simp [Value.oneCell']) (by omega) (by omega) (by have := HI1.out.b.size; simp; omega) ?_; intro v2 w2 hown hgrow _ hat; have HI2 := Lib.hid (HI1.out.g1 hgrow hown hat); have hbr2 : b < w2.heap.size := Nat.lt_of_lt_of_le hb HI2.out.b.size; have z3 := keepB HI2.out.b hb HC1.out; clear hown hgrow hat HI1))
        go_roundw
        case rel => exact ⟨k + 1, by omega, by go_num, by rw [E1.out, E2.out, E3.out]; exact HI2.out⟩
        case measure => simp [intOf]; omega
      · have e6 : ((k : Int) == (q : Int)) = false := beq_eq_false_iff_ne.2 (by omega)
        have e5 : ((k : Int) != (q : Int)) = true := by rw [bne, e6]; rfl
        have E3 := Lib.hid (show lessTo f q (k + 1) = lessTo f q k ++ [c1 % 65536] by rw [lessTo, if_neg hkq, F1.out])
        clear hkq
        go_wp2_with (first
          | (at_builtin; refine wpList_append_own_at _ rfl _ _ 50 rfl w.heap.size 3 i0 (.int .i64 0) 1 8 Try.underlying50 hi hz0 hz1 hz2 rfl (by decide) _ _ _ rfl ((HI.out.r0).alloc _) ⟨wr.heap.size, 0, none⟩ 1 1 [.int .i64 (c1 % 65536)] rfl rfl (cell_one_new _ _ _) (by simp [Value.oneCell']) (by omega) (by omega) (by have := HI.out.b.size; simp; omega) ?_; intro v1 w1 hown hgrow _ hat; have HI1 := Lib.hid (HI.out.g0 hgrow hown hat); have hbr1 : b < w1.heap.size := Nat.lt_of_lt_of_le hb HI1.out.b.size; have z2 := keepB HI1.out.b hb HC2.out; clear hown hgrow hat HI)
          | (at_builtin; refine wpList_append_own_at _ rfl _ _ 50 rfl w.heap.size 3 i0 (.int .i64 0) 1 8 Try.underlying50 hi hz0 hz1 hz2 rfl (by decide) _ _ _ rfl ((HI1.out.r1).alloc _) ⟨w1.heap.size, 0, none⟩ 1 1 [.int .i64 (c2 % 65536)] rfl rfl (cell_one_new _ _ _) (by simp [Value.oneCell']) (by omega) (by omega) (by have := HI1.out.b.size; simp; omega) ?_; intro v2 w2 hown hgrow _ hat; have HI2 := Lib.hid (HI1.out.g1 hgrow hown hat); have hbr2 : b < w2.heap.size := Nat.lt_of_lt_of_le hb HI2.out.b.size; have z3 := keepB HI2.out.b hb HC1.out; clear hown hgrow hat HI1)
          | (at_builtin; refine wpList_append_own_at _ rfl _ _ 50 rfl w.heap.size 3 i0 (.int .i64 0) 1 8 Try.underlying50 hi hz0 hz1 hz2 rfl (by decide) _ _ _ rfl ((HI2.out.r2).alloc _) ⟨w2.heap.size, 0, none⟩ 1 1 [.int .i64 (c1 % 65536)] rfl rfl (cell_one_new _ _ _) (by simp [Value.oneCell']) (by omega) (by omega) (by have := HI2.out.b.size; simp; omega) ?_; intro v3 w3 hown hgrow _ hat; have HI3 := Lib.hid (HI2.out.g2 hgrow hown hat); have hbr3 : b < w3.heap.size := Nat.lt_of_lt_of_le hb HI3.out.b.size; clear hown hgrow hat HI2))
        go_roundw
        case rel => exact ⟨k + 1, by omega, by go_num, by rw [E1.out, E2.out, E3.out]; exact HI3.out⟩
        case measure => simp [intOf]; omega
    · have hkn : k = n := by omega
      subst hkn
      have l1 := allTo_len f k
      have l2 := allTo_len g k
      have l3 := lessTo_len f q k
      have P1 := Lib.hid (show ∀ x, x ∈ allTo f k → 0 ≤ x ∧ x < 65536 from fun x hx => by
        obtain ⟨j, _, rfl⟩ := allTo_mem.1 hx
        exact HFB.out j)
      have hA0 : f 0 ∈ allTo f k := allTo_mem.2 ⟨0, by omega, rfl⟩
      obtain ⟨aB, haB⟩ : ∃ x, x = arcB (allTo f k) := ⟨_, rfl⟩
      obtain ⟨aW, haW⟩ : ∃ x, x = arcW (allTo f k) := ⟨_, rfl⟩
      have hne : allTo f k ≠ [] := by intro h; rw [h] at hA0; cases hA0
      have hBW := arcW_bd (allTo f k)
      rw [← haW] at hBW
      have hback := arc_sameset hne HE.out
      have HBM := Lib.hid (show metB f aB k = true from metB_true.2 (by
        obtain ⟨j, hj, e⟩ := allTo_mem.1 (arcB_in hne)
        exact ⟨j, hj, by rw [haB]; exact e⟩))
      have HFL := Lib.hid (show (aW = 0) ↔ sameB f k = true by
        rw [haW, arc_flat P1.out hA0, sameB_true]
        constructor
        · intro h j hj; exact h _ (allTo_mem.2 ⟨j, hj, rfl⟩)
        · intro h x hx
          obtain ⟨j, hj, rfl⟩ := allTo_mem.1 hx
          exact h j hj)
      have HEA := Lib.hid (show ∀ j, j < k → (f j - aB) % 65536 ≤ aW ∧ aW ≤ farTo f (f j) k from fun j hj => by
        have h := arc_each (allTo_mem.2 ⟨j, hj, rfl⟩ : f j ∈ allTo f k)
        rw [farTo_far, haB, haW]; exact h)
      have haB2 : 0 ≤ aB ∧ aB < 65536 := by rw [haB]; exact P1.out _ (arcB_in hne)
      have R0 := RowL.of hI.r0
      have R1 := RowL.of hI.r1
      have R2 := Lib.hid (RowL.of hI.r2)
      have hbw := Lib.hid hI.b
      have I2 := row_ints hI.r2
      obtain ⟨q3, c3, e3⟩ := I2.slice
      subst e3
      rcases R0 with ⟨_, h⟩ | ⟨g1, o1, c1, h1, _, hx1⟩
      · exact absurd h hne
      rcases R1 with ⟨_, h⟩ | ⟨g2, o2, c2, h2, _, hx2⟩
      · rw [h] at l2; simp at l2; omega
      rw [l1] at h1
      rw [l2] at h2
      subst h1 h2
      have HX1 := Lib.hid (show ∀ j, j < k → wr.cell? ⟨g1, o1 + j, none⟩ = some (.int .i64 (f j)) from fun j hj => by
        have := (hx1 j (by omega)).1 (by omega)
        rw [allTo_at f hj] at this; exact this)
      have hg1 : g1 < wr.heap.size := (hx1 0 (by omega)).2
      have RA : RowL w.heap.size wr (.slice (some ⟨g1, o1, none⟩) k c1) (allTo f k) := by
        exact RowL.of hI.r0
      have RB : RowL w.heap.size wr (.slice (some ⟨g2, o2, none⟩) k c2) (allTo g k) := by
        exact RowL.of hI.r1
      have HA : Hid (∀ W : World, Below wr.heap.size wr W → Calls Try.prog 25 #[.slice (some ⟨g1, o1, none⟩) k c1] W fun e w' => e = .returned (.tuple #[.int .i64 aB, .int .i64 aW, .int .i64 0]) ∧ Below W.heap.size W w') := Lib.hid fun W hW => by
        rw [haB, haW]
        exact arc_row RA l1 (by omega) (by omega) (fun x hx => by have := P1.out x hx; omega) hW
      have HK : Hid (∀ W : World, Below wr.heap.size wr W → Calls Try.prog 25 #[.slice (some ⟨g2, o2, none⟩) k c2] W fun e w' => e = .returned (.tuple #[.int .i64 aB, .int .i64 aW, .int .i64 0]) ∧ Below W.heap.size W w') := Lib.hid fun W hW => by
        rw [haB, haW, hback.1, hback.2]
        exact arc_row RB l2 (by omega) (by omega) (fun x hx => by have := P1.out x ((HE.out x).2 hx); omega) hW
      obtain ⟨m3, hm3⟩ : ∃ m, m = (lessTo f q k).length := ⟨_, rfl⟩
      obtain ⟨bR, hbR⟩ : ∃ x, x = arcB (lessTo f q k) := ⟨_, rfl⟩
      obtain ⟨wR, hwR⟩ : ∃ x, x = arcW (lessTo f q k) := ⟨_, rfl⟩
      have HR : Hid (1 ≤ m3 → ∀ W : World, Below wr.heap.size wr W → Calls Try.prog 25 #[.slice q3 m3 c3] W fun e w' => e = .returned (.tuple #[.int .i64 bR, .int .i64 wR, .int .i64 0]) ∧ Below W.heap.size W w') := Lib.hid fun hm W hW => by
        rw [hbR, hwR]
        have h := R2.out
        rw [← hm3] at h
        exact arc_row h hm3.symm hm (by omega) (fun x hx => by have := P1.out x (lessTo_mem hx); omega) hW
      have HWR : 1 ≤ m3 → decide (aW < wR) = false := fun hm => decide_eq_false (by
        have := arc_less (l := allTo f k) (m := lessTo f q k) (by intro h; rw [h] at hm3; simp at hm3; omega) fun x hx => lessTo_mem hx
        rw [haW, hwR]; omega)
      have HWRH := Lib.hid HWR
      rw [← hm3] at l3 ⊢
      clear hm3 hbR hwR HWR RA RB hx1 hx2 I2 hback haB haW hA0 hne l1 l2 hI R2 HE HG hlt hk
      obtain ⟨V, rfl⟩ : ∃ V, V = wr := ⟨_, rfl⟩
      go_wp2_with fail
      refine (HA.out _ (Below.refl _ _)).mono ?_; rintro e' X1 ⟨rfl, hb1⟩
      go_wp2_with fail
      refine (HK.out _ hb1).mono ?_; rintro e' X2 ⟨rfl, hb2⟩
      have bX := Lib.hid (hb1.trans (hb2.mono hb1.size))
      have d1 : decide (aW < 0) = false := decide_eq_false (by omega)
      have d2 : decide (65536 ≤ aW) = false := decide_eq_false (by omega)
      clear hb1 hb2 HA HK
      go_wp2
      go_loopw [15, 16, 17] (fun v15 v16 v17 wr2 => ∃ j : Nat, j ≤ k ∧ v17 = .int .i64 j ∧ v15 = .bool (metB f aB j) ∧ v16 = .bool (sameB f j) ∧ Below V.heap.size V wr2) (fun _ _ v17 _ => k - (intOf v17).toNat)
      case atStart => exact ⟨0, Nat.zero_le _, rfl, rfl, rfl, bX.out⟩
      case round =>
        obtain ⟨j, hj, rfl, rfl, rfl, hbw2⟩ := hrel
        obtain ⟨mt, hmt⟩ : ∃ x, x = metB f aB j := ⟨_, rfl⟩
        obtain ⟨sm, hsm⟩ : ∃ x, x = sameB f j := ⟨_, rfl⟩
        rw [← hmt, ← hsm]
        have HB2 := Lib.hid hbw2
        have hg3 : g1 < wr.heap.size := Nat.lt_of_lt_of_le hg1 hbw2.size
        clear hbw2
        by_cases hlj : j < k
        · obtain ⟨x, hx⟩ : ∃ x, x = f j := ⟨_, rfl⟩
          obtain ⟨x0, hx0⟩ : ∃ x, x = f 0 := ⟨_, rfl⟩
          obtain ⟨ea1, ea2⟩ := HEA.out j hlj
          rw [← hx] at ea1 ea2
          have bx : 0 ≤ x ∧ x < 65536 := by rw [hx]; exact HFB.out j
          have hZ : V.cell? ⟨g1, o1 + j, none⟩ = some (.int .i64 x) := by rw [hx]; exact HX1.out j hlj
          have HZ := Lib.hid hZ
          have zj := keepB HB2.out hg1 hZ
          have z0 : wr.cell? ⟨g1, o1, none⟩ = some (.int .i64 x0) := keepB HB2.out hg1 (by rw [hx0]; exact HX1.out 0 (by omega))
          have HN1 := Lib.hid (show metB f aB (j + 1) = (mt || x == aB) by rw [metB, hmt, hx])
          have HN2 := Lib.hid (show sameB f (j + 1) = (sm && x == x0) by rw [sameB, hsm, hx, hx0])
          obtain ⟨d, hd⟩ : ∃ d, d = (x - aB) % 65536 := ⟨_, rfl⟩
          rw [← hd] at ea1
          have bd : 0 ≤ d ∧ d < 65536 := by omega
          have e7 : decide (aW < d) = false := decide_eq_false (by omega)
          have i1 : IntKind.i64.wrap (x - aB) = x - aB := IntWalk.i64_in _ (by omega)
          have HWR1 : Hid (∀ W : World, Calls Try.prog 41 #[.int .i64 (x - aB)] W fun e w' => e = .returned (.int .i64 d) ∧ W = w') := Lib.hid fun W => by rw [hd]; exact wrap_any (x - aB) W (by omega) (by omega)
          have HEA2 := Lib.hid ea2
          clear hmt hsm hx hx0 hd ea1 ea2 hZ
          cases mt <;> cases sm
          all_goals
            go_wp2
            go_quiet (fail)
            go_wp2_with (go_at_call 41; refine (HWR1.out _).mono ?_; rintro e w' ⟨rfl, rfl⟩)
            clear zj z0
            go_loopw [18, 19] (fun v18 v19 wr3 => ∃ m : Nat, m ≤ k ∧ v19 = .int .i64 m ∧ v18 = .int .i64 (farTo f x m) ∧ Below V.heap.size V wr3) (fun _ v19 _ => k - (intOf v19).toNat)
            case atStart => exact ⟨0, Nat.zero_le _, rfl, rfl, drewN_below HB2.out _⟩
            case round =>
              obtain ⟨m, hm, rfl, rfl, hbw3⟩ := hrel
              have bf := farTo_bd f x m
              have HB3 := Lib.hid hbw3
              have hg4 : g1 < wr.heap.size := Nat.lt_of_lt_of_le hg1 hbw3.size
              clear hbw3
              obtain ⟨fr, hfr⟩ : ∃ z, z = farTo f x m := ⟨_, rfl⟩
              rw [← hfr] at bf ⊢
              by_cases hlm : m < k
              · obtain ⟨y, hy⟩ : ∃ y, y = f m := ⟨_, rfl⟩
                have byy : 0 ≤ y ∧ y < 65536 := by rw [hy]; exact HFB.out m
                have zm := keepB HB3.out hg1 (HX1.out m hlm)
                rw [← hy] at zm
                have zj := keepB HB3.out hg1 HZ.out
                obtain ⟨d2, hd2⟩ : ∃ d, d = (y - x) % 65536 := ⟨_, rfl⟩
                have bd2 : 0 ≤ d2 ∧ d2 < 65536 := by omega
                have HN := Lib.hid (show farTo f x (m + 1) = max fr d2 by rw [farTo, ← hfr, ← hy, hd2])
                have HW2 : Hid (∀ W : World, Calls Try.prog 41 #[.int .i64 (y - x)] W fun e w' => e = .returned (.int .i64 d2) ∧ w' = W) := Lib.hid fun W => by rw [hd2]; exact (wrap_any (y - x) W (by omega) (by omega)).mono (by rintro e w' ⟨rfl, rfl⟩; exact ⟨rfl, rfl⟩)
                have i2 : IntKind.i64.wrap (y - x) = y - x := IntWalk.i64_in _ (by omega)
                clear hy hd2 hfr
                go_wp2
                go_quiet ((go_at_call 41; exact Calls.quiet_of_same (HW2.out _)))
                go_wp2
                go_roundw
                case rel => exact ⟨m + 1, by omega, by go_num, by rw [HN.out], drewN_below HB3.out _⟩
                case measure => simp [intOf]; omega
              · obtain rfl : m = k := by omega
                have e8 : decide (fr < aW) = false := decide_eq_false (by rw [hfr]; have := HEA2.out; omega)
                clear hfr
                go_wp2
                go_roundw
                case rel => exact ⟨j + 1, by omega, by go_num, by rw [HN1.out]; rfl, by rw [HN2.out]; rfl, HB3.out⟩
                case measure => simp [intOf]; omega
        · obtain rfl : j = k := by omega
          have hm1 : mt = true := by rw [hmt]; exact HBM.out
          subst hm1
          have hfl := HFL.out
          rw [← hsm] at hfl
          clear hmt hsm hlj
          have fin : ∀ W : World, Below V.heap.size V W → Below w.heap.size w W := fun W hW => hbw.out.trans (hW.mono hbw.out.size)
          have HFIN := Lib.hid fin
          clear fin
          by_cases hw0 : aW = 0
          all_goals
            first
              | (obtain rfl : sm = true := hfl.1 hw0
                 have e9 : (aW == 0) = true := beq_iff_eq.2 hw0)
              | (obtain rfl : sm = false := by (cases sm; rfl; exact absurd (hfl.2 rfl) hw0)
                 have e9 : (aW == 0) = false := beq_eq_false_iff_ne.2 hw0)
            clear hw0 hfl
            by_cases hm0 : m3 = 0
            · have e10 : decide (0 < m3) = false := decide_eq_false (by omega)
              have e12 : decide (0 < (m3 : Int)) = false := decide_eq_false (by omega)
              clear hm0
              go_wp2_with fail
              refine (works_any _).mono ?_; rintro e' X3 ⟨rfl, hb3⟩
              go_wp2
              go_ret
              exact ⟨rfl, HFIN.out _ (HB2.out.trans (hb3.mono HB2.out.size))⟩
            · have e10 : decide (0 < m3) = true := decide_eq_true (by omega)
              have e12 : decide (0 < (m3 : Int)) = true := decide_eq_true (by omega)
              have hm1 : 1 ≤ m3 := by omega
              have HRR := Lib.hid (HR.out hm1)
              have e11 := HWRH.out hm1
              clear hm0 hm1
              go_wp2_with fail
              refine (HRR.out _ HB2.out).mono ?_; rintro e' X3 ⟨rfl, hb3⟩
              have b3 := HB2.out.trans (hb3.mono HB2.out.size)
              go_wp2_with fail
              refine (works_any _).mono ?_; rintro e' X4 ⟨rfl, hb4⟩
              go_wp2
              go_ret
              exact ⟨rfl, HFIN.out _ (b3.trans (hb4.mono b3.size))⟩


theorem wf_u32 {c : Int} (h : (Lit.int .u32 c).wf = true) : 0 ≤ c ∧ c < 4294967296 := by
  have h1 : (decide (IntKind.u32.min ≤ c) && decide (c ≤ IntKind.u32.max)) = true := h
  rw [Bool.and_eq_true, decide_eq_true_eq, decide_eq_true_eq, show IntKind.u32.min = 0 by decide, show IntKind.u32.max = 4294967295 by decide] at h1
  omega
theorem wf_u8 {c : Int} (h : (Lit.int .u8 c).wf = true) : 0 ≤ c ∧ c < 256 := by
  have h1 : (decide (IntKind.u8.min ≤ c) && decide (c ≤ IntKind.u8.max)) = true := h
  rw [Bool.and_eq_true, decide_eq_true_eq, decide_eq_true_eq, show IntKind.u8.min = 0 by decide, show IntKind.u8.max = 255 by decide] at h1
  omega
set_option maxRecDepth 100000 in
theorem PulseArcIs_walk (a : Option Addr) (n cap : Nat) (cs : Nat → Int) (o : Int) (w : World) (h : n ≤ maxLen ∧ NumsIs .u32 w a n cs ∧ ∀ i, (Lit.int .u32 (cs i)).wf = true) (ho : (Lit.int .u8 o).wf = true) :
    Calls Try.prog 12 #[.slice a n cap, .int .u8 o] w fun e w' => e = .returned (.bool true) ∧ Below w.heap.size w w' := by
  have hmaxl : maxLen = 9223372036854775807 := rfl
  by_cases h0 : n = 0
  · subst h0
    clear h ho
    go_enter Try.func12, Try.ntmps12
    go_wp2_with fail
    refine (works_any _).mono ?_; rintro e' X ⟨rfl, hb⟩
    go_wp2
    go_ret
    exact ⟨rfl, hb⟩
  · by_cases h1 : 40 < n
    · have e1 : ((n : Int) == 0) = false := beq_eq_false_iff_ne.2 (by omega)
      have e2 : decide (40 < (n : Int)) = true := decide_eq_true (by omega)
      have h2 := h.1
      clear h ho h0
      go_enter Try.func12, Try.ntmps12
      go_wp2_with fail
      refine (works_any _).mono ?_; rintro e' X ⟨rfl, hb⟩
      go_wp2
      go_ret
      exact ⟨rfl, hb⟩
    · rcases h.2.1 with h2 | ⟨b, off, rfl, hb, hc⟩
      · omega
      · refine ArcIs_walk_main b off n cap cs o w (by omega) (by omega) hb hc (fun i => ?_) ?_
        · exact wf_u32 (h.2.2 i)
        · exact wf_u8 ho

end Go.Proofs.Ytmojnopgpgnfeaa
