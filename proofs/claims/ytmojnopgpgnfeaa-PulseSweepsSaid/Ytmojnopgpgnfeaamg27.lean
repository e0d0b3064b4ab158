/-
  Sweeps: CheckSweep.
-/
import Derived.Test.Ytmojnopgpgnfeaamg26
import Derived.Test.Ytmojnopgpgnfeaamg18
import Derived.Test.Ytmojnopgpgnfeaamg9
namespace Go.Proofs.Ytmojnopgpgnfeaa
open Go.RowKit
set_option linter.unusedVariables false
set_option linter.unusedSimpArgs false

set_option maxRecDepth 100000 in
set_option maxHeartbeats 8000000 in
theorem CheckSweep_any (nm : ByteArray) (x y z rose gates step width tilt time : Int) (a : Option Addr) (n cap : Nat) (rs : Nat → RayD) (w : World) (hs : nm.size ≤ maxLen) (hn : n ≤ maxLen) (hR : RaysIs w a n rs) :
    Calls Try.prog 23 #[.agg #[.string nm, .int .i64 x, .int .i64 y, .int .i64 z, .int .i64 rose, .int .i64 gates, .int .i64 step, .int .i64 width, .int .i64 tilt, .int .i64 time, .slice a n cap]] w fun e w' => e = .returned (.int .i64 (sweepC nm x y z rose gates step width tilt time n rs)) ∧ Below w.heap.size w w' := by
  have hmaxl : maxLen = 9223372036854775807 := rfl
  obtain ⟨sC, hsC⟩ : ∃ v, v = siteC nm x y z rose gates step width := ⟨_, rfl⟩
  have H1 : Hid (∀ W : World, Calls Try.prog 55 #[.agg #[.string nm, .int .i64 x, .int .i64 y, .int .i64 z, .int .i64 rose, .int .i64 gates, .int .i64 step, .int .i64 width]] W fun e w' => e = .returned (.int .i64 sC) ∧ Below W.heap.size W w') := Lib.hid fun W => by rw [hsC]; exact CheckSite_any nm x y z rose gates step width W hs
  obtain ⟨r, hr0⟩ : ∃ r, r = sweepC nm x y z rose gates step width tilt time n rs := ⟨_, rfl⟩
  rw [← hr0]
  obtain ⟨U, hU⟩ : ∃ U, U = w.alloc (.cells #[.string nm, .int .i64 x, .int .i64 y, .int .i64 z, .int .i64 rose, .int .i64 gates, .int .i64 step, .int .i64 width, .int .i64 tilt, .int .i64 time, .slice a n cap] 46) := ⟨_, rfl⟩
  have hS : SwAt U w.heap.size nm x y z rose gates step width tilt time a n cap := by rw [hU]; exact SwAt.new nm x y z rose gates step width tilt time a n cap w
  have bU : Below w.heap.size w U := by rw [hU]; exact below_alloc _ _
  have hz : w.heap.size < U.heap.size := by rw [hU, World.size_alloc]; omega
  have HS := Lib.hid hS
  obtain ⟨c0, c1, c2, c3, c4, c5, c6, c7, c8, c9, c10⟩ := hS
  by_cases h0 : sC = 0
  case neg =>
    have e1 : (sC == 0) = false := beq_eq_false_iff_ne.2 h0
    have e2 : (sC != 0) = true := by simpa using h0
    have HN := Lib.hid (show r = sC by rw [hr0]; unfold sweepC; rw [← hsC, if_neg h0])
    clear hr0 hsC h0
    go_enter Try.func23, Try.ntmps23
    go_wp2_with fail
    rw [← hU]
    clear hU
    refine (H1.out _).mono ?_; rintro e' X1 ⟨rfl, hb1⟩
    have b1 := bU.trans (hb1.mono bU.size)
    have HS1 := Lib.hid (HS.out.keep hb1 hz)
    have hz1 : w.heap.size < X1.heap.size := Nat.lt_of_lt_of_le hz hb1.size
    clear c0 c1 c2 c3 c4 c5 c6 c7 c8 c9 c10 hb1 HS hz bU
    obtain ⟨c0, c1, c2, c3, c4, c5, c6, c7, c8, c9, c10⟩ := HS1.out
    go_wp2
    go_ret
    (rw [HN.out]; exact ⟨rfl, b1⟩)
  subst h0
  have hro := siteC_rose hsC.symm
  have hr1 : r = (if (inB tilt 0 256 && inB time 0 4294967296) = true then (if shapeB rose gates n rs = true then fstN (fun i => rayC (rs i)) n else 11) else 3) := by rw [hr0]; unfold sweepC; rw [← hsC, if_pos rfl]
  clear hr0 hsC
  rcases btwo (inB tilt 0 256) (inB time 0 4294967296) with et | ⟨et, eu⟩ | ⟨et, eu⟩
  · have HN := Lib.hid (show r = 3 by rw [hr1, et]; rfl)
    clear hr1
    go_enter Try.func23, Try.ntmps23
    go_wp2_with fail
    rw [← hU]
    clear hU
    refine (H1.out _).mono ?_; rintro e' X1 ⟨rfl, hb1⟩
    have b1 := bU.trans (hb1.mono bU.size)
    have HS1 := Lib.hid (HS.out.keep hb1 hz)
    have hz1 : w.heap.size < X1.heap.size := Nat.lt_of_lt_of_le hz hb1.size
    clear c0 c1 c2 c3 c4 c5 c6 c7 c8 c9 c10 hb1 HS hz bU
    obtain ⟨c0, c1, c2, c3, c4, c5, c6, c7, c8, c9, c10⟩ := HS1.out
    go_wp2_with (go_at_call 45; refine (isIn_any _ _ _ _).mono ?_; rintro e w' ⟨rfl, rfl⟩)
    go_ret
    (rw [HN.out]; exact ⟨rfl, b1⟩)
  · have HN := Lib.hid (show r = 3 by rw [hr1, et, eu]; rfl)
    clear hr1
    go_enter Try.func23, Try.ntmps23
    go_wp2_with fail
    rw [← hU]
    clear hU
    refine (H1.out _).mono ?_; rintro e' X1 ⟨rfl, hb1⟩
    have b1 := bU.trans (hb1.mono bU.size)
    have HS1 := Lib.hid (HS.out.keep hb1 hz)
    have hz1 : w.heap.size < X1.heap.size := Nat.lt_of_lt_of_le hz hb1.size
    clear c0 c1 c2 c3 c4 c5 c6 c7 c8 c9 c10 hb1 HS hz bU
    obtain ⟨c0, c1, c2, c3, c4, c5, c6, c7, c8, c9, c10⟩ := HS1.out
    go_wp2_with (go_at_call 45; refine (isIn_any _ _ _ _).mono ?_; rintro e w' ⟨rfl, rfl⟩)
    go_ret
    (rw [HN.out]; exact ⟨rfl, b1⟩)
  rw [et, eu] at hr1
  have hr2 : r = (if shapeB rose gates n rs = true then fstN (fun i => rayC (rs i)) n else 11) := hr1
  clear hr1
  have H2 : Hid (∀ W : World, Below w.heap.size w W → Calls Try.prog 56 #[.agg #[.string nm, .int .i64 x, .int .i64 y, .int .i64 z, .int .i64 rose, .int .i64 gates, .int .i64 step, .int .i64 width, .int .i64 tilt, .int .i64 time, .slice a n cap]] W fun e w' => e = .returned (.bool (shapeB rose gates n rs)) ∧ Below W.heap.size W w') := Lib.hid fun W hW => isShaped_any nm x y z rose gates step width tilt time a n cap rs W hn hro.1 (hR.keep hW)
  cases hsh : shapeB rose gates n rs with
  | false =>
    rw [hsh] at hr2 H2
    have HN := Lib.hid (show r = 11 by rw [hr2]; rfl)
    clear hr2 hsh
    go_enter Try.func23, Try.ntmps23
    go_wp2_with fail
    rw [← hU]
    clear hU
    refine (H1.out _).mono ?_; rintro e' X1 ⟨rfl, hb1⟩
    have b1 := bU.trans (hb1.mono bU.size)
    have HS1 := Lib.hid (HS.out.keep hb1 hz)
    have hz1 : w.heap.size < X1.heap.size := Nat.lt_of_lt_of_le hz hb1.size
    clear c0 c1 c2 c3 c4 c5 c6 c7 c8 c9 c10 hb1 HS hz bU
    obtain ⟨c0, c1, c2, c3, c4, c5, c6, c7, c8, c9, c10⟩ := HS1.out
    go_wp2_with (go_at_call 45; refine (isIn_any _ _ _ _).mono ?_; rintro e w' ⟨rfl, rfl⟩)
    refine (H2.out _ b1).mono ?_; rintro e' X2 ⟨rfl, hb2⟩
    go_wp2
    go_ret
    (rw [HN.out]; exact ⟨rfl, b1.trans (hb2.mono b1.size)⟩)
  | true =>
    rw [hsh] at hr2 H2
    have HR := Lib.hid (show r = fstN (fun i => rayC (rs i)) n by rw [hr2]; rfl)
    have hsp : (n : Int) = 4 * rose ∧ longB rs gates n = true := by
      unfold shapeB at hsh
      rw [Bool.and_eq_true, decide_eq_true_eq] at hsh
      exact hsh
    have hn1 : 1 ≤ n ∧ n ≤ 360 := by omega
    have HL := Lib.hid hsp.2
    have hg := hro.2
    clear hr2 hsh hsp hro
    rcases hR with h | ⟨b, off, rfl, hb, hc⟩
    · omega
    have HC := Lib.hid hc
    clear hc
    go_enter Try.func23, Try.ntmps23
    go_wp2_with fail
    rw [← hU]
    clear hU
    refine (H1.out _).mono ?_; rintro e' X1 ⟨rfl, hb1⟩
    have b1 := bU.trans (hb1.mono bU.size)
    have HS1 := Lib.hid (HS.out.keep hb1 hz)
    have hz1 : w.heap.size < X1.heap.size := Nat.lt_of_lt_of_le hz hb1.size
    clear c0 c1 c2 c3 c4 c5 c6 c7 c8 c9 c10 hb1 HS hz bU
    obtain ⟨c0, c1, c2, c3, c4, c5, c6, c7, c8, c9, c10⟩ := HS1.out
    go_wp2_with (go_at_call 45; refine (isIn_any _ _ _ _).mono ?_; rintro e w' ⟨rfl, rfl⟩)
    refine (H2.out _ b1).mono ?_; rintro e' V ⟨rfl, hb2⟩
    have bV := b1.trans (hb2.mono b1.size)
    have HSV := Lib.hid (HS1.out.keep hb2 hz1)
    have hzV : w.heap.size < V.heap.size := Nat.lt_of_lt_of_le hz1 hb2.size
    have HCV := Lib.hid (HC.out.keep bV hb)
    have hbV : b < V.heap.size := Nat.lt_of_lt_of_le hb bV.size
    have HBV := Lib.hid bV
    clear c0 c1 c2 c3 c4 c5 c6 c7 c8 c9 c10 hb2 HS1 hz1 b1 HC bV
    obtain ⟨c0, c1, c2, c3, c4, c5, c6, c7, c8, c9, c10⟩ := HSV.out
    go_wp2
    go_loopw [31] (fun i wr => ∃ k : Nat, k ≤ n ∧ i = .int .i64 k ∧ Below V.heap.size V wr ∧ fstN (fun i => rayC (rs i)) k = 0) (fun i _ => n - (intOf i).toNat)
    case atStart => exact ⟨0, Nat.zero_le _, rfl, Below.refl _ _, rfl⟩
    case round =>
      obtain ⟨k, hk, rfl, hbw, hf0⟩ := hrel
      have HF := Lib.hid hf0
      clear hf0
      by_cases hlt : k < n
      · obtain ⟨zk, zl, zx⟩ := HCV.out k hlt
        have zg := longB_at HL.out hlt
        have hrd := (show rayC (rs k) = fstN (fun i => ecC ((rs k).xs i)) (rs k).len from rfl)
        obtain ⟨ra, hra⟩ : ∃ v, v = (rs k).a := ⟨_, rfl⟩
        obtain ⟨rl, hrl⟩ : ∃ v, v = (rs k).len := ⟨_, rfl⟩
        obtain ⟨rc, hrc⟩ : ∃ v, v = (rs k).cap := ⟨_, rfl⟩
        obtain ⟨rx, hrx⟩ : ∃ v, v = (rs k).xs := ⟨_, rfl⟩
        rw [← hra, ← hrl, ← hrc] at zk
        rw [← hra, ← hrl, ← hrx] at zx
        rw [← hrl] at zl zg
        rw [← hrl, ← hrx] at hrd
        have HRD := Lib.hid hrd
        have hgl : 1 ≤ rl ∧ rl ≤ 200 := by omega
        clear hra hrl hrc hrx hrd zl zg
        rcases zx with h | ⟨b2, off2, rfl, hb2V, hX⟩
        · omega
        have HX := Lib.hid hX
        clear hX
        have z := keepB hbw hbV zk
        clear zk
        have hbr : b < wr.heap.size := Nat.lt_of_lt_of_le hbV hbw.size
        have HBW := Lib.hid hbw
        clear hbw
        go_wp2
        go_loopw [37] (fun i wr2 => ∃ j : Nat, j ≤ rl ∧ i = .int .i64 j ∧ Below V.heap.size V wr2 ∧ fstN (fun i => ecC (rx i)) j = 0) (fun i _ => rl - (intOf i).toNat)
        case atStart => exact ⟨0, Nat.zero_le _, rfl, HBW.out, rfl⟩
        case round =>
          obtain ⟨j, hj, rfl, hbw2, hf0⟩ := hrel
          have HF2 := Lib.hid hf0
          clear hf0
          by_cases hjl : j < rl
          · have hbr2 : b2 < wr.heap.size := Nat.lt_of_lt_of_le hb2V hbw2.size
            have z0 : wr.cell? ⟨b2, off2 + j * 14, none⟩ = some (.int .i64 (rx j 0)) := keepB hbw2 hb2V (HX.out j hjl 0 (by decide))
            have z1 : wr.cell? ⟨b2, off2 + j * 14 + 1, none⟩ = some (.int .i64 (rx j 1)) := keepB hbw2 hb2V (HX.out j hjl 1 (by decide))
            have z2 : wr.cell? ⟨b2, off2 + j * 14 + 2, none⟩ = some (.int .i64 (rx j 2)) := keepB hbw2 hb2V (HX.out j hjl 2 (by decide))
            have z3 : wr.cell? ⟨b2, off2 + j * 14 + 3, none⟩ = some (.int .i64 (rx j 3)) := keepB hbw2 hb2V (HX.out j hjl 3 (by decide))
            have z4 : wr.cell? ⟨b2, off2 + j * 14 + 4, none⟩ = some (.int .i64 (rx j 4)) := keepB hbw2 hb2V (HX.out j hjl 4 (by decide))
            have z5 : wr.cell? ⟨b2, off2 + j * 14 + 5, none⟩ = some (.int .i64 (rx j 5)) := keepB hbw2 hb2V (HX.out j hjl 5 (by decide))
            have z6 : wr.cell? ⟨b2, off2 + j * 14 + 6, none⟩ = some (.int .i64 (rx j 6)) := keepB hbw2 hb2V (HX.out j hjl 6 (by decide))
            have z7 : wr.cell? ⟨b2, off2 + j * 14 + 7, none⟩ = some (.int .i64 (rx j 7)) := keepB hbw2 hb2V (HX.out j hjl 7 (by decide))
            have z8 : wr.cell? ⟨b2, off2 + j * 14 + 8, none⟩ = some (.int .i64 (rx j 8)) := keepB hbw2 hb2V (HX.out j hjl 8 (by decide))
            have z9 : wr.cell? ⟨b2, off2 + j * 14 + 9, none⟩ = some (.int .i64 (rx j 9)) := keepB hbw2 hb2V (HX.out j hjl 9 (by decide))
            have z10 : wr.cell? ⟨b2, off2 + j * 14 + 10, none⟩ = some (.int .i64 (rx j 10)) := keepB hbw2 hb2V (HX.out j hjl 10 (by decide))
            have z11 : wr.cell? ⟨b2, off2 + j * 14 + 11, none⟩ = some (.int .i64 (rx j 11)) := keepB hbw2 hb2V (HX.out j hjl 11 (by decide))
            have z12 : wr.cell? ⟨b2, off2 + j * 14 + 12, none⟩ = some (.int .i64 (rx j 12)) := keepB hbw2 hb2V (HX.out j hjl 12 (by decide))
            have z13 : wr.cell? ⟨b2, off2 + j * 14 + 13, none⟩ = some (.int .i64 (rx j 13)) := keepB hbw2 hb2V (HX.out j hjl 13 (by decide))
            have HBW2 := Lib.hid hbw2
            clear hbw2
            obtain ⟨ee, hee⟩ : ∃ v, v = ecC (rx j) := ⟨_, rfl⟩
            have H3 : Hid (∀ W : World, Calls Try.prog 19 #[.agg #[.int .i64 (rx j 0), .int .i64 (rx j 1), .int .i64 (rx j 2), .int .i64 (rx j 3), .int .i64 (rx j 4), .int .i64 (rx j 5), .int .i64 (rx j 6), .int .i64 (rx j 7), .int .i64 (rx j 8), .int .i64 (rx j 9), .int .i64 (rx j 10), .int .i64 (rx j 11), .int .i64 (rx j 12), .int .i64 (rx j 13)]] W fun e w' => e = .returned (.int .i64 ee) ∧ Below W.heap.size W w') := Lib.hid fun W => by rw [hee]; exact CheckEcho_any _ _ _ _ _ _ _ _ _ _ _ _ _ _ W
            by_cases he0 : ee = 0
            · have HN := Lib.hid (show fstN (fun i => ecC (rx i)) (j + 1) = 0 by rw [fstN_hit HF2.out]; exact hee.symm.trans he0)
              subst he0
              clear hee
              go_wp2_with fail
              refine (H3.out _).mono ?_; rintro e' X ⟨rfl, hbX⟩
              clear z0 z1 z2 z3 z4 z5 z6 z7 z8 z9 z10 z11 z12 z13
              go_wp2
              go_roundw
              case rel => exact ⟨j + 1, by omega, by go_num, (HBW2.out.alloc HBW2.out.size _).trans (hbX.mono (by have := HBW2.out.size; simp; omega)), HN.out⟩
              case measure => simp [intOf]; omega
            · have HN := Lib.hid (show r = ee by
                have h1 : rayC (rs k) = ee := by rw [HRD.out, hee]; exact fstN_found HF2.out (by rw [← hee]; exact he0) hjl
                rw [HR.out, ← h1]; exact fstN_found HF.out (by rw [h1]; exact he0) hlt)
              have e1 : (ee == 0) = false := beq_eq_false_iff_ne.2 he0
              have e2 : (ee != 0) = true := by simpa using he0
              clear hee he0
              go_wp2_with fail
              refine (H3.out _).mono ?_; rintro e' X ⟨rfl, hbX⟩
              clear z0 z1 z2 z3 z4 z5 z6 z7 z8 z9 z10 z11 z12 z13
              go_wp2
              go_ret
              (rw [HN.out]; exact ⟨rfl, HBV.out.trans (((HBW2.out.alloc HBW2.out.size _).trans (hbX.mono (by have := HBW2.out.size; simp; omega))).mono HBV.out.size)⟩)
          · obtain rfl : j = rl := by omega
            have HN := Lib.hid (show fstN (fun i => rayC (rs i)) (k + 1) = 0 by rw [fstN_hit HF.out]; exact HRD.out.trans HF2.out)
            have HBW2 := Lib.hid hbw2
            clear hbw2
            go_wp2
            go_roundw
            case rel => exact ⟨k + 1, by omega, by go_num, HBW2.out, HN.out⟩
            case measure => simp [intOf]; omega
      · obtain rfl : k = n := by omega
        have HN := Lib.hid (show r = 0 by rw [HR.out]; exact HF.out)
        have HBW := Lib.hid hbw
        clear hbw
        go_wp2
        go_ret
        (rw [HN.out]; exact ⟨rfl, HBV.out.trans (HBW.out.mono HBV.out.size)⟩)

end Go.Proofs.Ytmojnopgpgnfeaa

namespace Go.Proofs.Ytmojnopgpgnfeaa
open Go.RowKit
set_option linter.unusedVariables false
set_option linter.unusedSimpArgs false

set_option maxRecDepth 100000 in
set_option maxHeartbeats 8000000 in
theorem refCheckSweep_any (nm : ByteArray) (x y z rose gates step width tilt time : Int) (a : Option Addr) (n cap : Nat) (rs : Nat → RayD) (w : World) (hs : nm.size ≤ maxLen) (hn : n ≤ maxLen) (hR : RaysIs w a n rs) :
    Calls Try.prog 24 #[.agg #[.string nm, .int .i64 x, .int .i64 y, .int .i64 z, .int .i64 rose, .int .i64 gates, .int .i64 step, .int .i64 width, .int .i64 tilt, .int .i64 time, .slice a n cap]] w fun e w' => e = .returned (.int .i64 (sweepC nm x y z rose gates step width tilt time n rs)) ∧ Below w.heap.size w w' := by
  have hmaxl : maxLen = 9223372036854775807 := rfl
  obtain ⟨sC, hsC⟩ : ∃ v, v = siteC nm x y z rose gates step width := ⟨_, rfl⟩
  have H1 : Hid (∀ W : World, Calls Try.prog 57 #[.agg #[.string nm, .int .i64 x, .int .i64 y, .int .i64 z, .int .i64 rose, .int .i64 gates, .int .i64 step, .int .i64 width]] W fun e w' => e = .returned (.int .i64 sC) ∧ Below W.heap.size W w') := Lib.hid fun W => by rw [hsC]; exact refCheckSite_any nm x y z rose gates step width W hs
  obtain ⟨r, hr0⟩ : ∃ r, r = sweepC nm x y z rose gates step width tilt time n rs := ⟨_, rfl⟩
  rw [← hr0]
  obtain ⟨U, hU⟩ : ∃ U, U = w.alloc (.cells #[.string nm, .int .i64 x, .int .i64 y, .int .i64 z, .int .i64 rose, .int .i64 gates, .int .i64 step, .int .i64 width, .int .i64 tilt, .int .i64 time, .slice a n cap] 46) := ⟨_, rfl⟩
  have hS : SwAt U w.heap.size nm x y z rose gates step width tilt time a n cap := by rw [hU]; exact SwAt.new nm x y z rose gates step width tilt time a n cap w
  have bU : Below w.heap.size w U := by rw [hU]; exact below_alloc _ _
  have hz : w.heap.size < U.heap.size := by rw [hU, World.size_alloc]; omega
  have HS := Lib.hid hS
  obtain ⟨c0, c1, c2, c3, c4, c5, c6, c7, c8, c9, c10⟩ := hS
  by_cases h0 : sC = 0
  case neg =>
    have e1 : (sC == 0) = false := beq_eq_false_iff_ne.2 h0
    have e2 : (sC != 0) = true := by simpa using h0
    have HN := Lib.hid (show r = sC by rw [hr0]; unfold sweepC; rw [← hsC, if_neg h0])
    clear hr0 hsC h0
    go_enter Try.func24, Try.ntmps24
    go_wp2_with fail
    rw [← hU]
    clear hU
    refine (H1.out _).mono ?_; rintro e' X1 ⟨rfl, hb1⟩
    have b1 := bU.trans (hb1.mono bU.size)
    have HS1 := Lib.hid (HS.out.keep hb1 hz)
    have hz1 : w.heap.size < X1.heap.size := Nat.lt_of_lt_of_le hz hb1.size
    clear c0 c1 c2 c3 c4 c5 c6 c7 c8 c9 c10 hb1 HS hz bU
    obtain ⟨c0, c1, c2, c3, c4, c5, c6, c7, c8, c9, c10⟩ := HS1.out
    go_wp2
    go_ret
    (rw [HN.out]; exact ⟨rfl, b1⟩)
  subst h0
  have hro := siteC_rose hsC.symm
  have hr1 : r = (if (inB tilt 0 256 && inB time 0 4294967296) = true then (if shapeB rose gates n rs = true then fstN (fun i => rayC (rs i)) n else 11) else 3) := by rw [hr0]; unfold sweepC; rw [← hsC, if_pos rfl]
  clear hr0 hsC
  rcases btwo (inB tilt 0 256) (inB time 0 4294967296) with et | ⟨et, eu⟩ | ⟨et, eu⟩
  · have HN := Lib.hid (show r = 3 by rw [hr1, et]; rfl)
    clear hr1
    go_enter Try.func24, Try.ntmps24
    go_wp2_with fail
    rw [← hU]
    clear hU
    refine (H1.out _).mono ?_; rintro e' X1 ⟨rfl, hb1⟩
    have b1 := bU.trans (hb1.mono bU.size)
    have HS1 := Lib.hid (HS.out.keep hb1 hz)
    have hz1 : w.heap.size < X1.heap.size := Nat.lt_of_lt_of_le hz hb1.size
    clear c0 c1 c2 c3 c4 c5 c6 c7 c8 c9 c10 hb1 HS hz bU
    obtain ⟨c0, c1, c2, c3, c4, c5, c6, c7, c8, c9, c10⟩ := HS1.out
    go_wp2_with (go_at_call 48; refine (refIn_any _ _ _ _).mono ?_; rintro e w' ⟨rfl, rfl⟩)
    go_ret
    (rw [HN.out]; exact ⟨rfl, b1⟩)
  · have HN := Lib.hid (show r = 3 by rw [hr1, et, eu]; rfl)
    clear hr1
    go_enter Try.func24, Try.ntmps24
    go_wp2_with fail
    rw [← hU]
    clear hU
    refine (H1.out _).mono ?_; rintro e' X1 ⟨rfl, hb1⟩
    have b1 := bU.trans (hb1.mono bU.size)
    have HS1 := Lib.hid (HS.out.keep hb1 hz)
    have hz1 : w.heap.size < X1.heap.size := Nat.lt_of_lt_of_le hz hb1.size
    clear c0 c1 c2 c3 c4 c5 c6 c7 c8 c9 c10 hb1 HS hz bU
    obtain ⟨c0, c1, c2, c3, c4, c5, c6, c7, c8, c9, c10⟩ := HS1.out
    go_wp2_with (go_at_call 48; refine (refIn_any _ _ _ _).mono ?_; rintro e w' ⟨rfl, rfl⟩)
    go_ret
    (rw [HN.out]; exact ⟨rfl, b1⟩)
  rw [et, eu] at hr1
  have hr2 : r = (if shapeB rose gates n rs = true then fstN (fun i => rayC (rs i)) n else 11) := hr1
  clear hr1
  have i1 : IntKind.i64.wrap (4 * rose) = 4 * rose := IntWalk.i64_in _ (by omega)
  by_cases h4 : (n : Int) = 4 * rose
  case neg =>
    have e1 : ((n : Int) != 4 * rose) = true := by simpa using h4
    have e2 : ((n : Int) == 4 * rose) = false := by simpa using h4
    have HN := Lib.hid (show r = 11 by rw [hr2]; unfold shapeB; rw [decide_eq_false h4, Bool.false_and]; rfl)
    clear hr2 h4
    go_enter Try.func24, Try.ntmps24
    go_wp2_with fail
    rw [← hU]
    clear hU
    refine (H1.out _).mono ?_; rintro e' X1 ⟨rfl, hb1⟩
    have b1 := bU.trans (hb1.mono bU.size)
    have HS1 := Lib.hid (HS.out.keep hb1 hz)
    have hz1 : w.heap.size < X1.heap.size := Nat.lt_of_lt_of_le hz hb1.size
    clear c0 c1 c2 c3 c4 c5 c6 c7 c8 c9 c10 hb1 HS hz bU
    obtain ⟨c0, c1, c2, c3, c4, c5, c6, c7, c8, c9, c10⟩ := HS1.out
    go_wp2_with (go_at_call 48; refine (refIn_any _ _ _ _).mono ?_; rintro e w' ⟨rfl, rfl⟩)
    go_ret
    (rw [HN.out]; exact ⟨rfl, b1⟩)
  have e1 : ((n : Int) != 4 * rose) = false := by simpa using h4
  have e2 : ((n : Int) == 4 * rose) = true := by simpa using h4
  have hr3 : r = (if longB rs gates n = true then fstN (fun i => rayC (rs i)) n else 11) := by rw [hr2]; unfold shapeB; rw [decide_eq_true h4, Bool.true_and]
  have HR := Lib.hid hr3
  have hn1 : 1 ≤ n ∧ n ≤ 360 := by omega
  have hg := hro.2
  clear hr2 hr3 h4 hro
  rcases hR with h | ⟨b, off, rfl, hb, hc⟩
  · omega
  have HC := Lib.hid hc
  clear hc
  go_enter Try.func24, Try.ntmps24
  go_wp2_with fail
  rw [← hU]
  clear hU
  refine (H1.out _).mono ?_; rintro e' X1 ⟨rfl, hb1⟩
  have b1 := bU.trans (hb1.mono bU.size)
  have HS1 := Lib.hid (HS.out.keep hb1 hz)
  have hz1 : w.heap.size < X1.heap.size := Nat.lt_of_lt_of_le hz hb1.size
  clear c0 c1 c2 c3 c4 c5 c6 c7 c8 c9 c10 hb1 HS hz bU
  obtain ⟨c0, c1, c2, c3, c4, c5, c6, c7, c8, c9, c10⟩ := HS1.out
  have HCV := Lib.hid (HC.out.keep b1 hb)
  have hbV : b < X1.heap.size := Nat.lt_of_lt_of_le hb b1.size
  have HBV := Lib.hid b1
  clear HC b1
  go_wp2_with (go_at_call 48; refine (refIn_any _ _ _ _).mono ?_; rintro e w' ⟨rfl, rfl⟩)
  clear e1 e2 i1
  go_loopw [4] (fun i wr => ∃ k : Nat, k ≤ n ∧ i = .int .i64 k ∧ Below X1.heap.size X1 wr ∧ longB rs gates k = true) (fun i _ => n - (intOf i).toNat)
  case atStart => exact ⟨0, Nat.zero_le _, rfl, Below.refl _ _, rfl⟩
  case round =>
    obtain ⟨k, hk, rfl, hbw, hf0⟩ := hrel
    have HF := Lib.hid hf0
    have HBW := Lib.hid hbw
    clear hf0 c0 c1 c2 c3 c4 c5 c6 c7 c8 c9 c10
    obtain ⟨c0, c1, c2, c3, c4, c5, c6, c7, c8, c9, c10⟩ := HS1.out.keep hbw hz1
    by_cases hlt : k < n
    · have hbr : b < wr.heap.size := Nat.lt_of_lt_of_le hbV hbw.size
      obtain ⟨zk, zl, zx⟩ := HCV.out k hlt
      obtain ⟨ra, hra⟩ : ∃ v, v = (rs k).a := ⟨_, rfl⟩
      obtain ⟨rl, hrl⟩ : ∃ v, v = (rs k).len := ⟨_, rfl⟩
      obtain ⟨rc, hrc⟩ : ∃ v, v = (rs k).cap := ⟨_, rfl⟩
      rw [← hra, ← hrl, ← hrc] at zk
      rw [← hrl] at zl
      have z := keepB hbw hbV zk
      clear zk
      clear hbw
      by_cases hgg : (rl : Int) = gates
      · have e3 : ((rl : Int) != gates) = false := by simpa using hgg
        have e4 : ((rl : Int) == gates) = true := by simpa using hgg
        have HN := Lib.hid (show longB rs gates (k + 1) = true by rw [longB, HF.out, ← hrl, decide_eq_true hgg]; rfl)
        clear hra hrl hrc hgg zx
        go_wp2
        go_quiet (fail)
        go_wp2
        go_roundw
        case rel => exact ⟨k + 1, by omega, by go_num, drewN_below HBW.out _, HN.out⟩
        case measure => simp [intOf]; omega
      · have e3 : ((rl : Int) != gates) = true := by simpa using hgg
        have e4 : ((rl : Int) == gates) = false := by simpa using hgg
        have HN := Lib.hid (show r = 11 by rw [HR.out, longB_no (by rw [← hrl]; exact hgg) hlt]; rfl)
        clear hra hrl hrc hgg zx
        go_wp2
        go_quiet (fail)
        go_wp2
        go_ret
        (rw [HN.out]; exact ⟨rfl, HBV.out.trans ((drewN_below HBW.out _).mono HBV.out.size)⟩)
    · obtain rfl : k = n := by omega
      have HL := Lib.hid HF.out
      have HR2 := Lib.hid (show r = fstN (fun i => rayC (rs i)) k by rw [HR.out, HF.out, if_pos rfl])
      clear hbw hlt HR
      go_wp2
      go_loopw [5] (fun i wr => ∃ q : Nat, q ≤ k ∧ i = .int .i64 q ∧ Below X1.heap.size X1 wr ∧ fstN (fun i => rayC (rs i)) q = 0) (fun i _ => k - (intOf i).toNat)
      case atStart => exact ⟨0, Nat.zero_le _, rfl, HBW.out, rfl⟩
      case round =>
        obtain ⟨q, hq, rfl, hbw, hf1⟩ := hrel
        have HF1 := Lib.hid hf1
        have HBW3 := Lib.hid hbw
        clear hf1 c0 c1 c2 c3 c4 c5 c6 c7 c8 c9 c10 HBW HF
        obtain ⟨c0, c1, c2, c3, c4, c5, c6, c7, c8, c9, c10⟩ := HS1.out.keep hbw hz1
        by_cases hlt : q < k
        · have hbr : b < wr.heap.size := Nat.lt_of_lt_of_le hbV hbw.size
          obtain ⟨zk, zl, zx⟩ := HCV.out q hlt
          have zg := longB_at HL.out hlt
          have hrd := (show rayC (rs q) = fstN (fun i => ecC ((rs q).xs i)) (rs q).len from rfl)
          obtain ⟨ra, hra⟩ : ∃ v, v = (rs q).a := ⟨_, rfl⟩
          obtain ⟨rl, hrl⟩ : ∃ v, v = (rs q).len := ⟨_, rfl⟩
          obtain ⟨rc, hrc⟩ : ∃ v, v = (rs q).cap := ⟨_, rfl⟩
          obtain ⟨rx, hrx⟩ : ∃ v, v = (rs q).xs := ⟨_, rfl⟩
          rw [← hra, ← hrl, ← hrc] at zk
          rw [← hra, ← hrl, ← hrx] at zx
          rw [← hrl] at zl zg
          rw [← hrl, ← hrx] at hrd
          have HRD := Lib.hid hrd
          have hgl : 1 ≤ rl ∧ rl ≤ 200 := by omega
          clear hra hrl hrc hrx hrd zl zg
          rcases zx with h | ⟨b2, off2, rfl, hb2V, hX⟩
          · omega
          have HX := Lib.hid hX
          have HZK := Lib.hid zk
          clear hX hbw zk
          go_wp2
          go_loopw [6] (fun i wr2 => ∃ j : Nat, j ≤ rl ∧ i = .int .i64 j ∧ Below X1.heap.size X1 wr2 ∧ fstN (fun i => ecC (rx i)) j = 0) (fun i _ => rl - (intOf i).toNat)
          case atStart => exact ⟨0, Nat.zero_le _, rfl, HBW3.out, rfl⟩
          case round =>
            obtain ⟨j, hj, rfl, hbw2, hf2⟩ := hrel
            have HF2 := Lib.hid hf2
            clear hf2 c0 c1 c2 c3 c4 c5 c6 c7 c8 c9 c10
            obtain ⟨c0, c1, c2, c3, c4, c5, c6, c7, c8, c9, c10⟩ := HS1.out.keep hbw2 hz1
            have z := keepB hbw2 hbV HZK.out
            have hbr1 : b < wr.heap.size := Nat.lt_of_lt_of_le hbV hbw2.size
            by_cases hjl : j < rl
            · have hbr2 : b2 < wr.heap.size := Nat.lt_of_lt_of_le hb2V hbw2.size
              have z0 : wr.cell? ⟨b2, off2 + j * 14, none⟩ = some (.int .i64 (rx j 0)) := keepB hbw2 hb2V (HX.out j hjl 0 (by decide))
              have z1 : wr.cell? ⟨b2, off2 + j * 14 + 1, none⟩ = some (.int .i64 (rx j 1)) := keepB hbw2 hb2V (HX.out j hjl 1 (by decide))
              have z2 : wr.cell? ⟨b2, off2 + j * 14 + 2, none⟩ = some (.int .i64 (rx j 2)) := keepB hbw2 hb2V (HX.out j hjl 2 (by decide))
              have z3 : wr.cell? ⟨b2, off2 + j * 14 + 3, none⟩ = some (.int .i64 (rx j 3)) := keepB hbw2 hb2V (HX.out j hjl 3 (by decide))
              have z4 : wr.cell? ⟨b2, off2 + j * 14 + 4, none⟩ = some (.int .i64 (rx j 4)) := keepB hbw2 hb2V (HX.out j hjl 4 (by decide))
              have z5 : wr.cell? ⟨b2, off2 + j * 14 + 5, none⟩ = some (.int .i64 (rx j 5)) := keepB hbw2 hb2V (HX.out j hjl 5 (by decide))
              have z6 : wr.cell? ⟨b2, off2 + j * 14 + 6, none⟩ = some (.int .i64 (rx j 6)) := keepB hbw2 hb2V (HX.out j hjl 6 (by decide))
              have z7 : wr.cell? ⟨b2, off2 + j * 14 + 7, none⟩ = some (.int .i64 (rx j 7)) := keepB hbw2 hb2V (HX.out j hjl 7 (by decide))
              have z8 : wr.cell? ⟨b2, off2 + j * 14 + 8, none⟩ = some (.int .i64 (rx j 8)) := keepB hbw2 hb2V (HX.out j hjl 8 (by decide))
              have z9 : wr.cell? ⟨b2, off2 + j * 14 + 9, none⟩ = some (.int .i64 (rx j 9)) := keepB hbw2 hb2V (HX.out j hjl 9 (by decide))
              have z10 : wr.cell? ⟨b2, off2 + j * 14 + 10, none⟩ = some (.int .i64 (rx j 10)) := keepB hbw2 hb2V (HX.out j hjl 10 (by decide))
              have z11 : wr.cell? ⟨b2, off2 + j * 14 + 11, none⟩ = some (.int .i64 (rx j 11)) := keepB hbw2 hb2V (HX.out j hjl 11 (by decide))
              have z12 : wr.cell? ⟨b2, off2 + j * 14 + 12, none⟩ = some (.int .i64 (rx j 12)) := keepB hbw2 hb2V (HX.out j hjl 12 (by decide))
              have z13 : wr.cell? ⟨b2, off2 + j * 14 + 13, none⟩ = some (.int .i64 (rx j 13)) := keepB hbw2 hb2V (HX.out j hjl 13 (by decide))
              have HBW2 := Lib.hid hbw2
              clear hbw2
              obtain ⟨ee, hee⟩ : ∃ v, v = ecC (rx j) := ⟨_, rfl⟩
              have H3 : Hid (∀ W : World, Calls Try.prog 20 #[.agg #[.int .i64 (rx j 0), .int .i64 (rx j 1), .int .i64 (rx j 2), .int .i64 (rx j 3), .int .i64 (rx j 4), .int .i64 (rx j 5), .int .i64 (rx j 6), .int .i64 (rx j 7), .int .i64 (rx j 8), .int .i64 (rx j 9), .int .i64 (rx j 10), .int .i64 (rx j 11), .int .i64 (rx j 12), .int .i64 (rx j 13)]] W fun e w' => e = .returned (.int .i64 ee) ∧ Below W.heap.size W w') := Lib.hid fun W => by rw [hee]; exact refCheckEcho_any _ _ _ _ _ _ _ _ _ _ _ _ _ _ W
              by_cases he0 : ee = 0
              · have HN := Lib.hid (show fstN (fun i => ecC (rx i)) (j + 1) = 0 by rw [fstN_hit HF2.out]; exact hee.symm.trans he0)
                subst he0
                clear hee
                go_wp2_with fail
                refine (H3.out _).mono ?_; rintro e' X ⟨rfl, hbX⟩
                clear z0 z1 z2 z3 z4 z5 z6 z7 z8 z9 z10 z11 z12 z13 c0 c1 c2 c3 c4 c5 c6 c7 c8 c9 c10
                go_wp2
                go_roundw
                case rel => exact ⟨j + 1, by omega, by go_num, HBW2.out.trans (hbX.mono HBW2.out.size), HN.out⟩
                case measure => simp [intOf]; omega
              · have HN := Lib.hid (show r = ee by
                  have h1 : rayC (rs q) = ee := by rw [HRD.out, hee]; exact fstN_found HF2.out (by rw [← hee]; exact he0) hjl
                  rw [HR2.out, ← h1]; exact fstN_found HF1.out (by rw [h1]; exact he0) hlt)
                have e1 : (ee == 0) = false := beq_eq_false_iff_ne.2 he0
                have e2 : (ee != 0) = true := by simpa using he0
                clear hee he0
                go_wp2_with fail
                refine (H3.out _).mono ?_; rintro e' X ⟨rfl, hbX⟩
                clear z0 z1 z2 z3 z4 z5 z6 z7 z8 z9 z10 z11 z12 z13 c0 c1 c2 c3 c4 c5 c6 c7 c8 c9 c10
                go_wp2
                go_ret
                (rw [HN.out]; exact ⟨rfl, HBV.out.trans ((HBW2.out.trans (hbX.mono HBW2.out.size)).mono HBV.out.size)⟩)
            · obtain rfl : j = rl := by omega
              have HN := Lib.hid (show fstN (fun i => rayC (rs i)) (q + 1) = 0 by rw [fstN_hit HF1.out]; exact HRD.out.trans HF2.out)
              have HBW2 := Lib.hid hbw2
              clear hbw2
              go_wp2
              go_roundw
              case rel => exact ⟨q + 1, by omega, by go_num, HBW2.out, HN.out⟩
              case measure => simp [intOf]; omega
        · obtain rfl : q = k := by omega
          have HN := Lib.hid (show r = 0 by rw [HR2.out]; exact HF1.out)
          clear hbw
          go_wp2
          go_ret
          (rw [HN.out]; exact ⟨rfl, HBV.out.trans (HBW3.out.mono HBV.out.size)⟩)

end Go.Proofs.Ytmojnopgpgnfeaa
