/-
  The reference's Restore, over a contract of what it calls.
-/
import Derived.Test.YtdmbkhmhaininaaDE
namespace Go.Proofs.Ytdmbkhmhaininaa
open Go.RowKit
set_option linter.unusedVariables false
set_option linter.unusedSimpArgs false

set_option maxRecDepth 100000 in
set_option maxHeartbeats 3200000 in
theorem refRestore_some (b off n cap : Nat) (zs : Nat → Int × Int) (pa : Option Addr) (m pc : Nat) (ms : Nat → Int × Int) (w : World) (hm : m ≤ 200) (hT0 : tabC n zs 32768 = 0) (hs : SpansAt w b off n zs) (hb : b < w.heap.size) (hp : SliceIs w pa m pc ms)
    (hR : ∀ W, Below w.heap.size w W → firstE (mesE ms) m = 0 → Calls Try.prog 65 #[.slice (some ⟨b, off, none⟩) n cap, .slice pa m pc] W fun e w' => ∃ a cp, e = .returned (.slice a m cp) ∧ SliceIs w' a m cp (rstOf n zs ms) ∧ Below W.heap.size W w') :
    Calls Try.prog 26 #[.slice (some ⟨b, off, none⟩) n cap, .slice pa m pc] w (SpTup m (rstOf n zs ms) (firstE (mesE ms) m) w) := by
  have HC := Lib.hid (refCheckTable_any (some ⟨b, off, none⟩) n cap zs 32768 w (.inr ⟨b, off, rfl, hb, hs⟩))
  rw [hT0] at HC
  have d : decide (200 < (m : Int)) = false := decide_eq_false (by omega)
  have HP := Lib.hid hp
  have HR := Lib.hid hR
  clear hs hp hR hT0
  go_enter Try.func26, Try.ntmps26
  go_wp2_with fail
  refine HC.out.mono ?_; rintro e X ⟨rfl, hbX⟩
  have HX := Lib.hid hbX
  clear hbX
  go_wp2
  go_loopw [7] (fun i wr => ∃ k : Nat, k ≤ m ∧ i = .int .i64 k ∧ Below w.heap.size w wr ∧ firstE (mesE ms) k = 0) (fun i _ => m - (intOf i).toNat)
  case atStart => exact ⟨0, Nat.zero_le _, rfl, HX.out, rfl⟩
  case round =>
    obtain ⟨k, hk, rfl, hbw, h0⟩ := hrel
    have H0 := Lib.hid h0
    clear h0
    have zw := hbw.size
    have HW := Lib.hid hbw
    by_cases hlt : k < m
    · rcases HP.out with h9 | ⟨pb, poff, rfl, hpb, hpp⟩
      · omega
      have c0 := keepB hbw hpb (hpp k hlt).1
      have c1 := keepB hbw hpb (hpp k hlt).2
      have hpr : pb < wr.heap.size := by omega
      have q0 : (0 : Int) ≤ (k : Int) := by omega
      have q1 : (k : Int) < (m : Int) := by omega
      rcases (Bool.eq_false_or_eq_true (spanB (ms k).1 (ms k).2 0 1073741824)).symm with hc | hc
      · have HE := Lib.hid (mesE_bad hlt H0.out hc)
        have HZ : Hid (∀ W : World, Calls Try.prog 53 #[.agg #[.int .i64 (ms k).1, .int .i64 (ms k).2], .int .i64 0, .int .i64 1073741824] W fun e w' => e = .returned (.bool false) ∧ Below W.heap.size W w') := Lib.hid fun W => by rw [← hc]; exact Valid_any _ _ _ _ W
        clear hc hbw HR hpp
        generalize (ms k).1 = z1 at c0 HZ
        generalize (ms k).2 = z2 at c1 HZ
        go_wp2_with fail
        refine (HZ.out _).mono ?_; rintro e w' ⟨rfl, hb2⟩
        have HQ := Lib.hid (HW.out.trans (hb2.mono zw))
        clear hb2
        go_wp2
        go_ret2
        rw [HE.out]
        exact SpTup.err (by decide) HQ.out
      · have HE := Lib.hid (mesE_ok H0.out hc)
        have HZ : Hid (∀ W : World, Calls Try.prog 53 #[.agg #[.int .i64 (ms k).1, .int .i64 (ms k).2], .int .i64 0, .int .i64 1073741824] W fun e w' => e = .returned (.bool true) ∧ Below W.heap.size W w') := Lib.hid fun W => by rw [← hc]; exact Valid_any _ _ _ _ W
        clear hc hbw HR hpp
        generalize (ms k).1 = z1 at c0 HZ
        generalize (ms k).2 = z2 at c1 HZ
        go_wp2_with fail
        refine (HZ.out _).mono ?_; rintro e w' ⟨rfl, hb2⟩
        have HQ := Lib.hid (HW.out.trans (hb2.mono zw))
        clear hb2
        go_wp2
        go_roundw
        case rel => exact ⟨k + 1, by omega, by go_num, HQ.out, HE.out⟩
        case measure => simp [intOf]; omega
    · obtain rfl : m = k := by omega
      clear hlt hbw HP
      go_wp2_with fail
      refine (HR.out _ HW.out H0.out).mono ?_; rintro e D ⟨r, cp, rfl, hSl, hbD⟩
      have HF := Lib.hid hSl
      have HD := Lib.hid (HW.out.trans (hbD.mono zw))
      clear hSl hbD
      go_wp2
      go_ret2
      rw [H0.out]
      exact ⟨_, _, rfl, HF.out, HD.out⟩

end Go.Proofs.Ytdmbkhmhaininaa
