/-
  Strings are compared: the contract of strings.Compare.
-/
import Derived.Test.YtnfbokaldfdboaaGreatProg
import Derived.WalkKit
import Derived.WalkSpells
import Derived.WalkLawsBesides
import Derived.Lib.Walk
import Derived.Lib.Bytealg
import Derived.IntWalk
import Derived.Tactics2
import Derived.Laws.Externs
import Derived.Below
import Derived.RowKit
namespace Go.Proofs.YtnfbokaldfdboaaGreat
open Go.RowKit
set_option linter.unusedVariables false
set_option linter.unusedSimpArgs false

theorem ext243 (a b : ByteArray) (w : World) : (callFunc 243 #[.string a, .string b]).run Tryz.prog w = .ok (.value (.int .i64 (Lib.compareBytes a.data.toList b.data.toList))) w := by
  have h1 : (Tryz.f243.name == "runtime.NumGoroutine") = false := by kernel_rfl
  have h2 : Tryz.f243.body.isNone = true := by kernel_rfl
  have h3 : Extern.findNext Tryz.f243 = none := by kernel_rfl
  have h4 : Extern.find Tryz.f243 = some Extern.BytealgCompare.compare := by kernel_rfl
  rw [run_callFunc_extern Tryz.func243 h1 h2 h3 h4, Lib.run_compareString]
  rfl
set_option maxHeartbeats 400000 in
set_option maxRecDepth 100000 in
theorem cmpString (a b : ByteArray) (w : World) : Calls Tryz.prog 219 #[.string a, .string b] w fun e w' => e = .returned (.int .i64 (Lib.compareBytes a.data.toList b.data.toList)) ∧ w' = w := by
  have e := ext243 a b w
  go_enter Tryz.func219, Tryz.ntmps219
  go_wp2
  go_ret
  exact ⟨rfl, rfl⟩
set_option maxHeartbeats 400000 in
set_option maxRecDepth 100000 in
theorem strCompare (a b : ByteArray) (w : World) : Calls Tryz.prog 181 #[.string a, .string b] w fun e w' => e = .returned (.int .i64 (Lib.compareBytes a.data.toList b.data.toList)) ∧ w' = w := by
  go_enter Tryz.func181, Tryz.ntmps181
  go_wp2_with (go_at_call 219; refine (cmpString _ _ _).mono ?_; rintro e w' ⟨rfl, rfl⟩)
  go_ret
  exact ⟨rfl, rfl⟩
theorem str_same (a b : ByteArray) (c : Int) (h : Lib.compareBytes a.data.toList b.data.toList = c) (w : World) : Calls Tryz.prog 181 #[.string a, .string b] w fun e w' => e = .returned (.int .i64 c) ∧ Below w.heap.size w w' :=
  (strCompare a b w).mono fun e w' ⟨h1, h2⟩ => by subst h; exact ⟨h1, by rw [h2]; exact Below.refl _ _⟩
end Go.Proofs.YtnfbokaldfdboaaGreat
