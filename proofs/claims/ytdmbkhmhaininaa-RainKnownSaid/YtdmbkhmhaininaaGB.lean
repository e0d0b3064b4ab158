/-
  What passes a ray: whatever is given.
-/
import Derived.Test.YtdmbkhmhaininaaG
namespace Go.Proofs.Ytdmbkhmhaininaa
open Go.RowKit
set_option linter.unusedVariables false
set_option linter.unusedSimpArgs false

set_option maxHeartbeats 1600000 in
theorem Pass_err (a : Option Addr) (n cap : Nat) (pa : Option Addr) (m pc : Nat) (zs : Nat → Int × Int) (e0 : Int) (w : World) (he : e0 ≠ 0) (hC : Calls Try.prog 56 #[.slice a n cap, .int .i64 (m : Int)] w fun e w' => e = .returned (.int .i64 e0) ∧ Below w.heap.size w w') :
    Calls Try.prog 23 #[.slice a n cap, .slice pa m pc] w (SpTup m zs e0 w) := by
  have HC := Lib.hid hC
  clear hC
  have HE := Lib.hid he
  have hne : (e0 != 0) = true := bne_iff_ne.2 he
  have hne2 : (e0 == 0) = false := beq_eq_false_iff_ne.2 he
  clear he
  go_enter Try.func23, Try.ntmps23
  go_wp2_with fail
  refine HC.out.mono ?_; rintro e X ⟨rfl, hbX⟩
  go_wp2
  go_ret2
  exact SpTup.err HE.out hbX
set_option maxRecDepth 100000 in
set_option maxHeartbeats 3200000 in
theorem Pass_nil (b off n cap : Nat) (pa : Option Addr) (pc : Nat) (zs : Nat → Int × Int) (ps : Nat → Int) (w : World) (hs : SpansAt w b off n zs) (hb : b < w.heap.size) (hC : Calls Try.prog 56 #[.slice (some ⟨b, off, none⟩) n cap, .int .i64 0] w fun e w' => e = .returned (.int .i64 0) ∧ Below w.heap.size w w') :
    Calls Try.prog 23 #[.slice (some ⟨b, off, none⟩) n cap, .slice pa 0 pc] w (SpTup 0 (mesOf n zs ps) 0 w) := by
  have HC := Lib.hid hC
  have HS := Lib.hid hs
  clear hC hs
  have hmk : ∀ w : World, (Instr.makeSlice 44 (.int .i64 0) (.int .i64 0)).run Try.prog w = .ok (.slice (some ⟨w.heap.size, 0, none⟩) 0 0) (w.alloc (.cells (madeCells #[.int .i64 0, .int .i64 0] (0 * 2)) 24)) := make_spans 0 (by omega)
  go_enter Try.func23, Try.ntmps23
  go_wp2_with fail
  refine HC.out.mono ?_; rintro e X ⟨rfl, hbX⟩
  have HX := Lib.hid hbX
  clear hbX
  go_wp2
  go_loopw [23] (fun i wr => i = .int .i64 0 ∧ Below w.heap.size w wr) (fun i _ => 0)
  case atStart => exact ⟨rfl, HX.out⟩
  case round =>
    obtain ⟨rfl, hbw⟩ := hrel
    have HW := Lib.hid hbw
    have zW := hbw.size
    have hbr : b < wr.heap.size := Nat.lt_of_lt_of_le hb hbw.size
    have HSr := Lib.hid (HS.out.keep hbw hb)
    clear hbw HS
    go_wp2_with fail
    refine (worthOf_any b off n cap zs _ HSr.out hbr).mono ?_; rintro e Y ⟨rfl, hB, hbY⟩
    have HY := Lib.hid hbY
    have zY := hbY.size
    clear hB hbY
    go_wp2_with fail
    refine (only_any _ _).mono ?_; rintro e Z ⟨rfl, hbZ⟩
    have HZ := Lib.hid (show Below w.heap.size w ((Z.alloc (.cells #[.int .i64 1073741824, .int .i64 1073741824] 24)).alloc (.cells (madeCells #[.int .i64 0, .int .i64 0] (0 * 2)) 24)) from HW.out.trans ((HY.out.trans ((hbZ.trans (((below_alloc _ _).trans ((below_alloc _ _).mono (by rw [World.size_alloc]; omega))).mono hbZ.size)).mono zY)).mono zW))
    clear hbZ
    go_wp2
    go_loopw [39] (fun i wr2 => i = .int .i64 0 ∧ Below w.heap.size w wr2) (fun i _ => 0)
    case atStart => exact ⟨rfl, HZ.out⟩
    case round =>
      clear HZ HY HW
      obtain ⟨rfl, hbw⟩ := hrel
      go_wp2
      go_ret2
      exact ⟨_, _, rfl, .inl rfl, hbw⟩
theorem Pass_any (a : Option Addr) (n cap : Nat) (zs : Nat → Int × Int) (pa : Option Addr) (m pc : Nat) (ps : Nat → Int) (w : World) (hm : m ≤ maxLen) (hs : SliceIs w a n cap zs) (hp : PowIs w pa m ps) :
    Calls Try.prog 23 #[.slice a n cap, .slice pa m pc] w (SpTup m (mesOf n zs ps) (passC n zs m ps) w) := by
  have hC := checkRay_any a n cap zs m w hm hs
  by_cases h : tabC n zs 32768 = 0
  · by_cases h2 : 200 < m
    · have e : rayC n zs m = 9 := by unfold rayC; rw [if_pos h, if_pos h2]
      have e2 : passC n zs m ps = 9 := by unfold passC; rw [if_neg (by rw [h]; decide), if_pos h2]
      rw [e] at hC
      rw [e2]
      exact Pass_err a n cap pa m pc _ 9 w (by decide) hC
    · have e : rayC n zs m = 0 := by unfold rayC; rw [if_pos h, if_neg h2]
      have e2 : passC n zs m ps = firstE (powE ps) m := by unfold passC; rw [if_neg (by rw [h]; decide), if_neg h2]
      rw [e] at hC
      rw [e2]
      have hk := tab_ok h
      rcases hs with h0 | ⟨b, off, rfl, hb, hs⟩
      · have := hk.n2; omega
      rcases hp with h0 | ⟨pb, poff, rfl, hpb, hp⟩
      · subst h0; exact Pass_nil b off n cap pa pc zs ps w hs hb hC
      by_cases h3 : m = 0
      · subst h3; exact Pass_nil b off n cap _ pc zs ps w hs hb hC
      exact Pass_some b off n cap zs pb poff m pc ps w (by omega) (by omega) h hs hb hp hpb
  · have e : rayC n zs m = tabC n zs 32768 := by unfold rayC; rw [if_neg h]
    have e2 : passC n zs m ps = tabC n zs 32768 := by unfold passC; rw [if_pos h]
    rw [e] at hC
    rw [e2]
    exact Pass_err a n cap pa m pc _ _ w h hC

end Go.Proofs.Ytdmbkhmhaininaa
