/-
  The chapter's samples: worked out.
-/
import Derived.Test.YtaneipjpagbmpaaProg
import Derived.Test.YtaneipjpagbmpaaEF
import Derived.KernelRfl
namespace Go.Proofs.Ytaneipjpagbmpaa
open Go.RowKit
set_option linter.unusedVariables false
set_option linter.unusedSimpArgs false
set_option maxRecDepth 100000
theorem mixed : Try.prog.follows .mixedOrders = true := by kernel_rfl
theorem works_ev (w : World) : isTrue (@answer (bare Try.prog w) Try.prog [] [] 100000 60 14 #[]) = true := by kernel_rfl
theorem works_true (w : World) : Calls Try.prog 14 #[] w fun e w' => e = .returned (.bool true) ∧ Below w.heap.size w w' :=
  calls_closed mixed #[] rfl rfl w (isTrue_spec (works_ev w)) rfl rfl
end Go.Proofs.Ytaneipjpagbmpaa
