/-
  The bands of site a, worked out.
-/
import Derived.Test.YtnfbokaldfdboaaGreatCB
namespace Go.Proofs.YtnfbokaldfdboaaGreat
open Go.RowKit
set_option linter.unusedVariables false
set_option linter.unusedSimpArgs false
set_option maxRecDepth 100000
theorem bandA0 (w : World) : Calls Tryz.prog 114 #[siteA, z0, earthV, .int .i64 0] w fun e w' => e = .returned bandV ∧ Below w.heap.size w w' :=
  calls_closed (P := Tryz.prog) mixed (cf := 100000) (n := 60) #[siteA, z0, earthV, .int .i64 0] rfl rfl w (by kernel_rfl) rfl rfl
theorem bandA1 (w : World) : Calls Tryz.prog 114 #[siteA, z0, earthV, .int .i64 1] w fun e w' => e = .returned bandV ∧ Below w.heap.size w w' :=
  calls_closed (P := Tryz.prog) mixed (cf := 100000) (n := 60) #[siteA, z0, earthV, .int .i64 1] rfl rfl w (by kernel_rfl) rfl rfl
theorem bandA2 (w : World) : Calls Tryz.prog 114 #[siteA, z0, earthV, .int .i64 2] w fun e w' => e = .returned bandV ∧ Below w.heap.size w w' :=
  calls_closed (P := Tryz.prog) mixed (cf := 100000) (n := 60) #[siteA, z0, earthV, .int .i64 2] rfl rfl w (by kernel_rfl) rfl rfl
end Go.Proofs.YtnfbokaldfdboaaGreat
