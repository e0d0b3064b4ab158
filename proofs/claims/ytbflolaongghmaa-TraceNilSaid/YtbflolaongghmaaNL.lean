/-
  TraceNil: what is no book has no answers, whatever is asked: worked out with signs in the place of what is asked.
-/
import Derived.Test.YtbflolaongghmaaProg
import Derived.Test.YtbflolaongghmaaE9
import Derived.KernelRfl
namespace Go.Proofs.Ytbflolaongghmaa
open Go.RowKit
set_option linter.unusedVariables false
set_option linter.unusedSimpArgs false
theorem mixed : Try.prog.follows .mixedOrders = true := by kernel_rfl
def isTrue : Option Value → Bool
  | some (.bool true) => true
  | _ => false
theorem isTrue_spec {x : Option Value} (h : isTrue x = true) : x = some (.bool true) := by
  unfold isTrue at h
  split at h
  · rfl
  · cases h
def actσ (ak : Int) (an ap : ByteArray) (al ah at_ au am : Int) : Nat → Value
  | 0 => .int .i64 ak
  | 1 => .string an
  | 2 => .string ap
  | 3 => .int .i64 al
  | 4 => .int .i64 ah
  | 5 => .int .i64 at_
  | 6 => .int .i64 au
  | _ => .int .i64 am
abbrev actEnv (ak : Int) (an ap : ByteArray) (al ah at_ au am : Int) : Env :=
  { σ := actσ ak an ap al ah at_ au am, plain := fun k => (by unfold actσ; split <;> rfl), bins := [], okB := fun _ _ _ _ h => (by cases h), mins := [], okM := fun _ _ _ _ h => (by cases h) }
def signs : Array Value := #[.chan (some 0), .chan (some 1), .chan (some 2), .chan (some 3), .chan (some 4), .chan (some 5), .chan (some 6), .chan (some 7)]
theorem nil_no (ak : Int) (an ap : ByteArray) (al ah at_ au am : Int) : isTrue (@answer (actEnv ak an ap al ah at_ au am) Try.prog 100000 60 11 #[.bool false, .agg signs]) = true := by kernel_rfl
theorem nil_yes (ak : Int) (an ap : ByteArray) (al ah at_ au am : Int) : isTrue (@answer (actEnv ak an ap al ah at_ au am) Try.prog 100000 60 11 #[.bool true, .agg signs]) = true := by kernel_rfl
theorem TraceNil_walk (z : Bool) (ak : Int) (an ap : ByteArray) (al ah at_ au am : Int) (w : World) :
    Calls Try.prog 11 #[.bool z, .agg #[.int .i64 ak, .string an, .string ap, .int .i64 al, .int .i64 ah, .int .i64 at_, .int .i64 au, .int .i64 am]] w fun e w' => e = .returned (.bool true) ∧ Below w.heap.size w w' := by
  cases z
  · exact @calls_signs (actEnv ak an ap al ah at_ au am) Try.prog mixed 100000 60 11 #[.bool false, .agg signs] (.bool true) rfl rfl (isTrue_spec (nil_no ak an ap al ah at_ au am)) w
  · exact @calls_signs (actEnv ak an ap al ah at_ au am) Try.prog mixed 100000 60 11 #[.bool true, .agg signs] (.bool true) rfl rfl (isTrue_spec (nil_yes ak an ap al ah at_ au am)) w
end Go.Proofs.Ytbflolaongghmaa
