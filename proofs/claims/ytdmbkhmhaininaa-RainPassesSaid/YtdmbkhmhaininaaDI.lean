/-
  The reference's Pass and Restore, whatever they are given.
-/
import Derived.Test.YtdmbkhmhaininaaDF
import Derived.Test.YtdmbkhmhaininaaDG
import Derived.Test.YtdmbkhmhaininaaDH
namespace Go.Proofs.Ytdmbkhmhaininaa
open Go.RowKit
set_option linter.unusedVariables false
set_option linter.unusedSimpArgs false

theorem refRestore_any (a : Option Addr) (n cap : Nat) (zs : Nat → Int × Int) (pa : Option Addr) (m pc : Nat) (ms : Nat → Int × Int) (w : World) (hs : SliceIs w a n cap zs) (hp : SliceIs w pa m pc ms) :
    Calls Try.prog 26 #[.slice a n cap, .slice pa m pc] w (SpTup m (rstOf n zs ms) (rstC n zs m ms) w) := by
  by_cases h : tabC n zs 32768 = 0
  · by_cases h2 : 200 < m
    · have e2 : rstC n zs m ms = 9 := by unfold rstC; rw [if_neg (by rw [h]; decide), if_pos h2]
      rw [e2]
      exact refRestore_many a n cap pa m pc zs _ w hs h h2
    · have e2 : rstC n zs m ms = firstE (mesE ms) m := by unfold rstC; rw [if_neg (by rw [h]; decide), if_neg h2]
      rw [e2]
      have hk := tab_ok h
      rcases hs with h0 | ⟨b, off, rfl, hb, hs⟩
      · have := hk.n2; omega
      refine refRestore_some b off n cap zs pa m pc ms w (by omega) h hs hb hp (fun W hW hE => ?_)
      rcases hp with h0 | ⟨pb, poff, rfl, hpb, hp⟩
      · subst h0; exact refrestore_nil _ _ n cap pc zs ms W
      exact refrestore_some b off n cap zs pb poff m pc ms W (by omega) hk (hs.keep hW hb) (Nat.lt_of_lt_of_le hb hW.size) (hp.keep hW hpb) (Nat.lt_of_lt_of_le hpb hW.size) (mesE_all hE)
  · have e2 : rstC n zs m ms = tabC n zs 32768 := by unfold rstC; rw [if_pos h]
    rw [e2]
    exact refRestore_err a n cap pa m pc zs _ w hs h
set_option maxHeartbeats 800000 in
theorem refPass_nil (b off n cap : Nat) (pa : Option Addr) (pc : Nat) (zs ys : Nat → Int × Int) (w : World) (hs : SliceIs w (some ⟨b, off, none⟩) n cap zs) (he : tabC n zs 32768 = 0) :
    Calls Try.prog 24 #[.slice (some ⟨b, off, none⟩) n cap, .slice pa 0 pc] w (SpTup 0 ys 0 w) := by
  have HC := Lib.hid (refCheckTable_any (some ⟨b, off, none⟩) n cap zs 32768 w hs)
  rw [he] at HC
  clear he hs
  go_enter Try.func24, Try.ntmps24
  go_wp2_with fail
  refine HC.out.mono ?_; rintro e X ⟨rfl, hbX⟩
  have HX := Lib.hid (hbX.trans ((below_alloc X (.cells #[.int .i64 1073741824, .int .i64 1073741824] 24)).mono hbX.size))
  clear hbX
  go_wp2
  obtain ⟨A, hA⟩ : ∃ A, A = X.alloc (.cells #[.int .i64 1073741824, .int .i64 1073741824] 24) := ⟨_, rfl⟩
  rw [← hA] at HX
  try rw [← hA]
  clear hA
  go_loopw [8, 9] (fun v i wr => v = .slice none 0 0 ∧ i = .int .i64 0 ∧ Below w.heap.size w wr) (fun _ i _ => 0)
  case atStart => exact ⟨rfl, rfl, HX.out⟩
  case round =>
    obtain ⟨rfl, rfl, hbw⟩ := hrel
    clear HX
    go_wp2
    go_ret2
    exact ⟨none, 0, rfl, .inl rfl, hbw⟩
theorem refPass_any (a : Option Addr) (n cap : Nat) (zs : Nat → Int × Int) (pa : Option Addr) (m pc : Nat) (ps : Nat → Int) (w : World) (hs : SliceIs w a n cap zs) (hp : PowIs w pa m ps) :
    Calls Try.prog 24 #[.slice a n cap, .slice pa m pc] w (SpTup m (mesOf n zs ps) (passC n zs m ps) w) := by
  by_cases h : tabC n zs 32768 = 0
  · by_cases h2 : 200 < m
    · have e2 : passC n zs m ps = 9 := by unfold passC; rw [if_neg (by rw [h]; decide), if_pos h2]
      rw [e2]
      exact refPass_many a n cap pa m pc zs _ w hs h h2
    · have e2 : passC n zs m ps = firstE (powE ps) m := by unfold passC; rw [if_neg (by rw [h]; decide), if_neg h2]
      rw [e2]
      have hk := tab_ok h
      rcases hs with h0 | ⟨b, off, rfl, hb, hs⟩
      · have := hk.n2; omega
      rcases hp with h0 | ⟨pb, poff, rfl, hpb, hp⟩
      · subst h0; exact refPass_nil b off n cap pa pc zs _ w (.inr ⟨b, off, rfl, hb, hs⟩) h
      exact refPass_some b off n cap zs pb poff m pc ps w (by omega) h hs hb hp hpb
  · have e2 : passC n zs m ps = tabC n zs 32768 := by unfold passC; rw [if_pos h]
    rw [e2]
    exact refPass_err a n cap pa m pc zs _ w hs h

end Go.Proofs.Ytdmbkhmhaininaa
