/-
  Restore: whatever it is given.
-/
import Derived.Test.YtdmbkhmhaininaaDR
namespace Go.Proofs.Ytdmbkhmhaininaa
open Go.RowKit
set_option linter.unusedVariables false
set_option linter.unusedSimpArgs false

set_option maxRecDepth 100000 in
set_option maxHeartbeats 3200000 in
theorem done_nil (c : Nat) (pa : Option Addr) (pc : Nat) (w : World) :
    Calls Try.prog 64 #[.agg #[.func (Fn.func 93) #[] #[.pointer (some ⟨c, 0, none⟩)]], .slice pa 0 pc] w fun e w' => ∃ a, e = .returned (.slice a 0 0) ∧ Below w.heap.size w w' := by
  have hmk : ∀ w : World, (Instr.makeSlice 44 (.int .i64 0) (.int .i64 0)).run Try.prog w = .ok (.slice (some ⟨w.heap.size, 0, none⟩) 0 0) (w.alloc (.cells (madeCells #[.int .i64 0, .int .i64 0] (0 * 2)) 24)) := make_spans 0 (by omega)
  go_enter Try.func64, Try.ntmps64
  go_wp2_with fail
  refine (only_any _ _).mono ?_; rintro e X ⟨rfl, hbX⟩
  have hb0 : Below w.heap.size w X := (below_alloc w (.cells #[.func (Fn.func 93) #[] #[.pointer (some ⟨c, 0, none⟩)]] 125)).trans (hbX.mono (by rw [World.size_alloc]; omega))
  have zX := hb0.size
  have HZ := Lib.hid (show Below w.heap.size w ((X.alloc (.cells #[.int .i64 1073741824, .int .i64 1073741824] 24)).alloc (.cells (madeCells #[.int .i64 0, .int .i64 0] (0 * 2)) 24)) from hb0.trans (((below_alloc X _).trans ((below_alloc _ _).mono (by rw [World.size_alloc]; omega))).mono zX))
  clear hbX hb0
  go_wp2
  go_loopw [15] (fun i wr2 => i = .int .i64 0 ∧ Below w.heap.size w wr2) (fun i _ => 0)
  case atStart => exact ⟨rfl, HZ.out⟩
  case round =>
    clear HZ
    obtain ⟨rfl, hbw⟩ := hrel
    go_wp2
    go_ret
    exact ⟨_, rfl, hbw⟩
set_option maxRecDepth 100000 in
set_option maxHeartbeats 3200000 in
theorem Restore_nil (b off n cap : Nat) (pa : Option Addr) (pc : Nat) (zs : Nat → Int × Int) (ms : Nat → Int × Int) (w : World) (hs : SpansAt w b off n zs) (hb : b < w.heap.size) (hC : Calls Try.prog 56 #[.slice (some ⟨b, off, none⟩) n cap, .int .i64 0] w fun e w' => e = .returned (.int .i64 0) ∧ Below w.heap.size w w') :
    Calls Try.prog 25 #[.slice (some ⟨b, off, none⟩) n cap, .slice pa 0 pc] w (SpTup 0 (rstOf n zs ms) 0 w) := by
  have HC := Lib.hid hC
  have HS := Lib.hid hs
  clear hC hs
  go_enter Try.func25, Try.ntmps25
  go_wp2_with fail
  refine HC.out.mono ?_; rintro e X ⟨rfl, hbX⟩
  have HX := Lib.hid hbX
  clear hbX
  go_wp2
  go_loopw [18] (fun i wr => i = .int .i64 0 ∧ Below w.heap.size w wr) (fun i _ => 0)
  case atStart => exact ⟨rfl, HX.out⟩
  case round =>
    obtain ⟨rfl, hbw⟩ := hrel
    have HW := Lib.hid hbw
    have zW := hbw.size
    have hbr : b < wr.heap.size := Nat.lt_of_lt_of_le hb hbw.size
    have HSr := Lib.hid (HS.out.keep hbw hb)
    clear hbw HS
    go_wp2_with fail
    refine (worthOf_any b off n cap zs _ HSr.out hbr).mono ?_; rintro e Y ⟨rfl, hB, hbY⟩
    have HY := Lib.hid hbY
    have zY := hbY.size
    clear hB hbY
    go_wp2_with fail
    refine (done_nil _ pa pc _).mono ?_; rintro e D ⟨r, rfl, hbD⟩
    have HD := Lib.hid (HW.out.trans ((HY.out.trans (hbD.mono HY.out.size)).mono zW))
    clear hbD
    go_wp2
    go_ret2
    exact ⟨_, _, rfl, .inl rfl, HD.out⟩
theorem Restore_any (a : Option Addr) (n cap : Nat) (zs : Nat → Int × Int) (pa : Option Addr) (m pc : Nat) (ms : Nat → Int × Int) (w : World) (hm : m ≤ maxLen) (hs : SliceIs w a n cap zs) (hp : SliceIs w pa m pc ms) :
    Calls Try.prog 25 #[.slice a n cap, .slice pa m pc] w (SpTup m (rstOf n zs ms) (rstC n zs m ms) w) := by
  have hC := checkRay_any a n cap zs m w hm hs
  by_cases h : tabC n zs 32768 = 0
  · by_cases h2 : 200 < m
    · have e : rayC n zs m = 9 := by unfold rayC; rw [if_pos h, if_pos h2]
      have e2 : rstC n zs m ms = 9 := by unfold rstC; rw [if_neg (by rw [h]; decide), if_pos h2]
      rw [e] at hC
      rw [e2]
      exact Restore_err a n cap pa m pc _ 9 w (by decide) hC
    · have e : rayC n zs m = 0 := by unfold rayC; rw [if_pos h, if_neg h2]
      have e2 : rstC n zs m ms = firstE (mesE ms) m := by unfold rstC; rw [if_neg (by rw [h]; decide), if_neg h2]
      rw [e] at hC
      rw [e2]
      have hk := tab_ok h
      rcases hs with h0 | ⟨b, off, rfl, hb, hs⟩
      · have := hk.n2; omega
      rcases hp with h0 | ⟨pb, poff, rfl, hpb, hp⟩
      · subst h0; exact Restore_nil b off n cap pa pc zs ms w hs hb hC
      exact Restore_some b off n cap zs pb poff m pc ms w (by omega) h hs hb hp hpb
  · have e : rayC n zs m = tabC n zs 32768 := by unfold rayC; rw [if_neg h]
    have e2 : rstC n zs m ms = tabC n zs 32768 := by unfold rstC; rw [if_pos h]
    rw [e] at hC
    rw [e2]
    exact Restore_err a n cap pa m pc _ _ w h hC

end Go.Proofs.Ytdmbkhmhaininaa
