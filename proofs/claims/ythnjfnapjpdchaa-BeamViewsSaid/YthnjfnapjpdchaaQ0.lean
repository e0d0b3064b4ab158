/-
  What the exported functions answer: the error, and what goes with it.
-/
import Derived.Test.YthnjfnapjpdchaaP
import Derived.Test.YthnjfnapjpdchaaJ0
namespace Go.Proofs.Ythnjfnapjpdchaa
open Go.RowKit

theorem fld0 (a b : Int) (w : World) : (Instr.field 43 (.agg #[.int .i64 a, .int .i64 b]) 0).run Try.prog w = .ok (.int .i64 a) w := by kernel_rfl
theorem fld1 (a b : Int) (w : World) : (Instr.field 43 (.agg #[.int .i64 a, .int .i64 b]) 1).run Try.prog w = .ok (.int .i64 b) w := by kernel_rfl

theorem inB_gate {gate gates : Int} (h : inB gate 0 (gates - 1) = true) : 0 ≤ gate ∧ gate < gates := by have := inB_true.1 h; omega

/-- the error, after that of the site -/
def codeE (sc : Int) (b : Bool) : Int := if sc = 0 then (if b = true then 0 else 3) else sc
/-- a value, and 0 beside an error -/
def val (e v : Int) : Int := if e = 0 then v else 0
theorem codeE_err {sc : Int} (h : sc ≠ 0) (b : Bool) : codeE sc b = sc := by unfold codeE; rw [if_neg h]
theorem codeE_no : codeE 0 false = 3 := rfl
theorem codeE_ok : codeE 0 true = 0 := rfl
theorem val_err {e : Int} (h : e ≠ 0) (v : Int) : val e v = 0 := by unfold val; rw [if_neg h]
theorem val_no (v : Int) : val 3 v = 0 := rfl
theorem val_ok (v : Int) : val 0 v = v := rfl

end Go.Proofs.Ythnjfnapjpdchaa
