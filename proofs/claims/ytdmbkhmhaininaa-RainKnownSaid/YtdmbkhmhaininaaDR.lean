/-
  Restore.
-/
import Derived.Test.YtdmbkhmhaininaaDN
import Derived.Test.YtdmbkhmhaininaaGB
namespace Go.Proofs.Ytdmbkhmhaininaa
open Go.RowKit
set_option linter.unusedVariables false
set_option linter.unusedSimpArgs false

/-- the error of what is measured, and of Restore -/
def mesE (ms : Nat → Int × Int) (j : Nat) : Int := if spanB (ms j).1 (ms j).2 0 1073741824 then 0 else 3
def rstC (n : Nat) (zs : Nat → Int × Int) (m : Nat) (ms : Nat → Int × Int) : Int := if tabC n zs 32768 ≠ 0 then tabC n zs 32768 else if 200 < m then 9 else firstE (mesE ms) m
theorem mesE_bad {ms : Nat → Int × Int} {k m : Nat} (hk : k < m) (h0 : firstE (mesE ms) k = 0) (h : spanB (ms k).1 (ms k).2 0 1073741824 = false) : firstE (mesE ms) m = 3 := by
  have e : mesE ms k = 3 := by unfold mesE; rw [h]; rfl
  rw [firstE_stop hk h0 (by rw [e]; decide), e]
theorem mesE_ok {ms : Nat → Int × Int} {k : Nat} (h0 : firstE (mesE ms) k = 0) (h : spanB (ms k).1 (ms k).2 0 1073741824 = true) : firstE (mesE ms) (k + 1) = 0 := by
  have e : mesE ms k = 0 := by unfold mesE; rw [h]; rfl
  rw [firstE_next h0, e]
theorem mesE_all {ms : Nat → Int × Int} {m : Nat} (h : firstE (mesE ms) m = 0) : ∀ j, j < m → 0 ≤ (ms j).1 ∧ (ms j).1 ≤ (ms j).2 ∧ (ms j).2 ≤ 1073741824 := fun j hj => by
  have h1 := firstE_all h j hj
  unfold mesE at h1
  cases h2 : spanB (ms j).1 (ms j).2 0 1073741824
  · rw [h2] at h1; exact absurd h1 (by decide)
  · exact spanB_true.1 h2
set_option maxHeartbeats 800000 in
theorem isPower_any (lo hi : Int) (w : World) : Calls Try.prog 63 #[.agg #[.int .i64 lo, .int .i64 hi]] w fun e w' => e = .returned (.bool (spanB lo hi 0 1073741824)) ∧ Below w.heap.size w w' := by
  go_enter Try.func63, Try.ntmps63
  go_wp2_with fail
  refine (isWithin_any _ _ _ _ _).mono ?_; rintro e w' ⟨rfl, hb⟩
  go_wp2
  go_ret
  exact ⟨rfl, (below_alloc _ _).trans (hb.mono (by rw [World.size_alloc]; omega))⟩
set_option maxHeartbeats 1600000 in
theorem Restore_err (a : Option Addr) (n cap : Nat) (pa : Option Addr) (m pc : Nat) (zs : Nat → Int × Int) (e0 : Int) (w : World) (he : e0 ≠ 0) (hC : Calls Try.prog 56 #[.slice a n cap, .int .i64 (m : Int)] w fun e w' => e = .returned (.int .i64 e0) ∧ Below w.heap.size w w') :
    Calls Try.prog 25 #[.slice a n cap, .slice pa m pc] w (SpTup m zs e0 w) := by
  have HC := Lib.hid hC
  clear hC
  have HE := Lib.hid he
  have hne : (e0 != 0) = true := bne_iff_ne.2 he
  have hne2 : (e0 == 0) = false := beq_eq_false_iff_ne.2 he
  clear he
  go_enter Try.func25, Try.ntmps25
  go_wp2_with fail
  refine HC.out.mono ?_; rintro e X ⟨rfl, hbX⟩
  go_wp2
  go_ret2
  exact SpTup.err HE.out hbX
set_option maxRecDepth 100000 in
set_option maxHeartbeats 3200000 in
theorem Restore_some (b off n cap : Nat) (zs : Nat → Int × Int) (pb poff m pc : Nat) (ms : Nat → Int × Int) (w : World) (hm : m ≤ 200) (hT0 : tabC n zs 32768 = 0) (hs : SpansAt w b off n zs) (hb : b < w.heap.size) (hp : SpansAt w pb poff m ms) (hpb : pb < w.heap.size) :
    Calls Try.prog 25 #[.slice (some ⟨b, off, none⟩) n cap, .slice (some ⟨pb, poff, none⟩) m pc] w (SpTup m (rstOf n zs ms) (firstE (mesE ms) m) w) := by
  have hT := tab_ok hT0
  have HC : Hid (Calls Try.prog 56 #[.slice (some ⟨b, off, none⟩) n cap, .int .i64 (m : Int)] w fun e w' => e = .returned (.int .i64 0) ∧ Below w.heap.size w w') := Lib.hid (by
    have h := checkRay_any (some ⟨b, off, none⟩) n cap zs m w (by unfold maxLen; omega) (.inr ⟨b, off, rfl, hb, hs⟩)
    have e : rayC n zs m = 0 := by unfold rayC; rw [if_pos hT0, if_neg (by omega)]
    rw [e] at h; exact h)
  have HS := Lib.hid hs
  have HP := Lib.hid hp
  clear hs hp hT0
  go_enter Try.func25, Try.ntmps25
  go_wp2_with fail
  refine HC.out.mono ?_; rintro e X ⟨rfl, hbX⟩
  have HX := Lib.hid hbX
  clear hbX
  go_wp2
  go_loopw [18] (fun i wr => ∃ k : Nat, k ≤ m ∧ i = .int .i64 k ∧ Below w.heap.size w wr ∧ firstE (mesE ms) k = 0) (fun i _ => m - (intOf i).toNat)
  case atStart => exact ⟨0, Nat.zero_le _, rfl, HX.out, rfl⟩
  case round =>
    obtain ⟨k, hk, rfl, hbw, h0⟩ := hrel
    have H0 := Lib.hid h0
    clear h0
    have zw := hbw.size
    have HW := Lib.hid hbw
    by_cases hlt : k < m
    · have c0 := keepB hbw hpb (HP.out k hlt).1
      have c1 := keepB hbw hpb (HP.out k hlt).2
      have hpr : pb < wr.heap.size := by omega
      have q0 : (0 : Int) ≤ (k : Int) := by omega
      have q1 : (k : Int) < (m : Int) := by omega
      rcases (Bool.eq_false_or_eq_true (spanB (ms k).1 (ms k).2 0 1073741824)).symm with hc | hc
      · have HE := Lib.hid (mesE_bad hlt H0.out hc)
        have HZ : Hid (∀ W : World, Calls Try.prog 63 #[.agg #[.int .i64 (ms k).1, .int .i64 (ms k).2]] W fun e w' => e = .returned (.bool false) ∧ Below W.heap.size W w') := Lib.hid fun W => by rw [← hc]; exact isPower_any _ _ W
        clear hc hbw
        generalize (ms k).1 = z1 at c0 HZ
        generalize (ms k).2 = z2 at c1 HZ
        go_wp2_with fail
        refine (HZ.out _).mono ?_; rintro e w' ⟨rfl, hb2⟩
        have HQ := Lib.hid (HW.out.trans (((below_alloc wr (.cells #[.int .i64 z1, .int .i64 z2] 24)).trans (hb2.mono (by rw [World.size_alloc]; omega))).mono zw))
        clear hb2
        go_wp2
        go_ret2
        rw [HE.out]
        exact SpTup.err (by decide) HQ.out
      · have HE := Lib.hid (mesE_ok H0.out hc)
        have HZ : Hid (∀ W : World, Calls Try.prog 63 #[.agg #[.int .i64 (ms k).1, .int .i64 (ms k).2]] W fun e w' => e = .returned (.bool true) ∧ Below W.heap.size W w') := Lib.hid fun W => by rw [← hc]; exact isPower_any _ _ W
        clear hc hbw
        generalize (ms k).1 = z1 at c0 HZ
        generalize (ms k).2 = z2 at c1 HZ
        go_wp2_with fail
        refine (HZ.out _).mono ?_; rintro e w' ⟨rfl, hb2⟩
        have HQ := Lib.hid (HW.out.trans (((below_alloc wr (.cells #[.int .i64 z1, .int .i64 z2] 24)).trans (hb2.mono (by rw [World.size_alloc]; omega))).mono zw))
        clear hb2
        go_wp2
        go_roundw
        case rel => exact ⟨k + 1, by omega, by go_num, HQ.out, HE.out⟩
        case measure => simp [intOf]; omega
    · obtain rfl : m = k := by omega
      have HA := Lib.hid (mesE_all H0.out)
      have hbr : b < wr.heap.size := Nat.lt_of_lt_of_le hb hbw.size
      have hpr : pb < wr.heap.size := Nat.lt_of_lt_of_le hpb hbw.size
      have HSr := Lib.hid (HS.out.keep hbw hb)
      have HPr := Lib.hid (HP.out.keep hbw hpb)
      clear hlt hbw HS HP
      go_wp2_with fail
      refine (worthOf_any b off n cap zs _ HSr.out hbr).mono ?_; rintro e Y ⟨rfl, hB, hbY⟩
      have HB := Lib.hid hB
      have HY := Lib.hid hbY
      have HPy := Lib.hid (HPr.out.keep hbY hpr)
      have hpy : pb < Y.heap.size := Nat.lt_of_lt_of_le hpr hbY.size
      clear hB hbY
      go_wp2_with fail
      refine (done_any _ b off n cap zs pb poff m pc ms _ hm hT HB.out HPy.out hpy HA.out).mono ?_; rintro e D ⟨r, rfl, hSl, hbD⟩
      have HF := Lib.hid hSl
      have HD := Lib.hid (HW.out.trans ((HY.out.trans (hbD.mono HY.out.size)).mono zw))
      clear hSl hbD
      go_wp2
      go_ret2
      rw [H0.out]
      exact ⟨_, _, rfl, HF.out, HD.out⟩

end Go.Proofs.Ytdmbkhmhaininaa
