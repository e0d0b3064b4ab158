/-
  What the contracts have in common.
-/
import Derived.Test.YtnfbokaldfdboaaGreatProg
import Derived.Test.YtnfbokaldfdboaaGreatEJ
import Derived.Test.YtnfbokaldfdboaaGreatEF
import Derived.KernelRfl
namespace Go.Proofs.YtnfbokaldfdboaaGreat
open Go.RowKit
set_option linter.unusedVariables false
set_option linter.unusedSimpArgs false
set_option maxRecDepth 100000
theorem mixed : Tryz.prog.follows .mixedOrders = true := by kernel_rfl
theorem noRows (E : Env) {P : Program} : @LoopsOk E P [] := fun _ h => (by cases h)
theorem nilK (E : Env) {P : Program} : @ConsOk E P [] := fun _ _ _ h => (by cases h)
theorem nilS (E : Env) {P : Program} : @SRowsOk E P [] := fun _ h => (by cases h)
abbrev siteA : Value := .agg #[.string ⟨#[97]⟩, .int .i64 (-1500), .int .i64 (-500), .int .i64 100, .int .i64 1, .int .i64 3, .int .i64 1000, .int .i64 0]
abbrev siteB : Value := .agg #[.string ⟨#[98]⟩, .int .i64 1500, .int .i64 (-500), .int .i64 100, .int .i64 1, .int .i64 3, .int .i64 1000, .int .i64 0]
abbrev gridV : Value := .agg #[.int .i64 (-2000), .int .i64 (-1000), .int .i64 1000, .int .i64 4, .int .i64 2]
abbrev earthV : Value := .agg #[.int .i64 8000000, .int .i64 8000000]
abbrev z0 : Value := .int .i64 0
abbrev bandV : Value := .tuple #[.agg #[.int .i64 100, .int .i64 101], .int .i64 0]
abbrev viewA : SRow := ⟨113, #[siteA, z0, gridV], #[.int .i64 0, .int .i64 4, .int .i64 5, .int .i64 (-1), .int .i64 1, .int .i64 1, .int .i64 2, .int .i64 (-1)], 3, 8, 8, z0⟩
abbrev viewB : SRow := ⟨113, #[siteB, z0, gridV], #[.int .i64 (-1), .int .i64 11, .int .i64 10, .int .i64 0, .int .i64 (-1), .int .i64 11, .int .i64 10, .int .i64 1], 3, 8, 8, z0⟩
noncomputable def plainC (w : World) : CallF := (@evG (bare Tryz.prog w) Tryz.prog [] [] [] 100000 [] 59).1
theorem plainC_ok (w : World) : @CallS (bare Tryz.prog w) Tryz.prog (plainC w) := (@evG_spec (bare Tryz.prog w) Tryz.prog rfl mixed [] (nilK _) [] (nilS _) [] (noRows _) 100000 [] 59).1
end Go.Proofs.YtnfbokaldfdboaaGreat
