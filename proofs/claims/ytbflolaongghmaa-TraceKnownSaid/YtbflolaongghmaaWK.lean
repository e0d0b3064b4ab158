/-
  The pinned samples: worked out.
-/
import Derived.Test.YtbflolaongghmaaProg
import Derived.Test.YtbflolaongghmaaEF
import Derived.Test.YtbflolaongghmaaEC
import Derived.KernelRfl
namespace Go.Proofs.Ytbflolaongghmaa
open Go.RowKit
set_option linter.unusedVariables false
set_option linter.unusedSimpArgs false
theorem mixed : Try.prog.follows .mixedOrders = true := by kernel_rfl
theorem works_ev : isTrue (@answer bare Try.prog [] 100000 60 14 #[]) = true := by kernel_rfl
theorem works_true (w : World) : Calls Try.prog 14 #[] w fun e w' => e = .returned (.bool true) ∧ Below w.heap.size w w' :=
  calls_closed mixed #[] rfl rfl (isTrue_spec works_ev) w rfl rfl
abbrev KK : Cons := [(14, #[], .bool true)]
theorem KK_ok [Env] : ConsOk Try.prog KK := consTrue (l := [14]) fun g hg w => by
  rcases List.mem_singleton.1 hg with rfl
  exact works_true w
end Go.Proofs.Ytbflolaongghmaa
