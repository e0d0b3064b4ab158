/-
  The reference: tables that are not valid, and too many gates.
-/
import Derived.Test.YtdmbkhmhaininaaDR
import Derived.Test.YtdmbkhmhaininaaBR
namespace Go.Proofs.Ytdmbkhmhaininaa
open Go.RowKit
set_option linter.unusedVariables false
set_option linter.unusedSimpArgs false

set_option maxHeartbeats 1600000 in
theorem refPass_err (a : Option Addr) (n cap : Nat) (pa : Option Addr) (m pc : Nat) (zs ys : Nat → Int × Int) (w : World) (hs : SliceIs w a n cap zs) (he : tabC n zs 32768 ≠ 0) :
    Calls Try.prog 24 #[.slice a n cap, .slice pa m pc] w (SpTup m ys (tabC n zs 32768) w) := by
  have HC := Lib.hid (refCheckTable_any a n cap zs 32768 w hs)
  have HE := Lib.hid he
  have hne : (tabC n zs 32768 != 0) = true := bne_iff_ne.2 he
  have hne2 : (tabC n zs 32768 == 0) = false := beq_eq_false_iff_ne.2 he
  clear he hs
  generalize tabC n zs 32768 = e0 at *
  go_enter Try.func24, Try.ntmps24
  go_wp2_with fail
  refine HC.out.mono ?_; rintro e X ⟨rfl, hbX⟩
  go_wp2
  go_ret2
  exact SpTup.err HE.out hbX
set_option maxHeartbeats 1600000 in
theorem refPass_many (a : Option Addr) (n cap : Nat) (pa : Option Addr) (m pc : Nat) (zs ys : Nat → Int × Int) (w : World) (hs : SliceIs w a n cap zs) (he : tabC n zs 32768 = 0) (h : 200 < m) :
    Calls Try.prog 24 #[.slice a n cap, .slice pa m pc] w (SpTup m ys 9 w) := by
  have HC := Lib.hid (refCheckTable_any a n cap zs 32768 w hs)
  rw [he] at HC
  have d : decide (200 < (m : Int)) = true := decide_eq_true (by omega)
  clear he hs
  go_enter Try.func24, Try.ntmps24
  go_wp2_with fail
  refine HC.out.mono ?_; rintro e X ⟨rfl, hbX⟩
  go_wp2
  go_ret2
  exact SpTup.err (by decide) hbX

set_option maxHeartbeats 1600000 in
theorem refRestore_err (a : Option Addr) (n cap : Nat) (pa : Option Addr) (m pc : Nat) (zs ys : Nat → Int × Int) (w : World) (hs : SliceIs w a n cap zs) (he : tabC n zs 32768 ≠ 0) :
    Calls Try.prog 26 #[.slice a n cap, .slice pa m pc] w (SpTup m ys (tabC n zs 32768) w) := by
  have HC := Lib.hid (refCheckTable_any a n cap zs 32768 w hs)
  have HE := Lib.hid he
  have hne : (tabC n zs 32768 != 0) = true := bne_iff_ne.2 he
  have hne2 : (tabC n zs 32768 == 0) = false := beq_eq_false_iff_ne.2 he
  clear he hs
  generalize tabC n zs 32768 = e0 at *
  go_enter Try.func26, Try.ntmps26
  go_wp2_with fail
  refine HC.out.mono ?_; rintro e X ⟨rfl, hbX⟩
  go_wp2
  go_ret2
  exact SpTup.err HE.out hbX
set_option maxHeartbeats 1600000 in
theorem refRestore_many (a : Option Addr) (n cap : Nat) (pa : Option Addr) (m pc : Nat) (zs ys : Nat → Int × Int) (w : World) (hs : SliceIs w a n cap zs) (he : tabC n zs 32768 = 0) (h : 200 < m) :
    Calls Try.prog 26 #[.slice a n cap, .slice pa m pc] w (SpTup m ys 9 w) := by
  have HC := Lib.hid (refCheckTable_any a n cap zs 32768 w hs)
  rw [he] at HC
  have d : decide (200 < (m : Int)) = true := decide_eq_true (by omega)
  clear he hs
  go_enter Try.func26, Try.ntmps26
  go_wp2_with fail
  refine HC.out.mono ?_; rintro e X ⟨rfl, hbX⟩
  go_wp2
  go_ret2
  exact SpTup.err (by decide) hbX

end Go.Proofs.Ytdmbkhmhaininaa
