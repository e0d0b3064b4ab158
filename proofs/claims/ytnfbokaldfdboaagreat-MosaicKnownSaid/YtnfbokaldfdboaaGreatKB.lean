/-
  The contracts for the examples.
-/
import Derived.Test.YtnfbokaldfdboaaGreatCC
import Derived.Test.YtnfbokaldfdboaaGreatWK
namespace Go.Proofs.YtnfbokaldfdboaaGreat
open Go.RowKit
set_option linter.unusedVariables false
set_option linter.unusedSimpArgs false
set_option maxRecDepth 100000
noncomputable def KK2 : Cons := (16, #[], .bool true) :: KK
theorem hKk (w : World) : @ConsOk (bare Tryz.prog w) Tryz.prog KK2 := by
  intro g args v h w' hb
  rcases List.mem_cons.1 h with h | h
  · simp only [Prod.mk.injEq] at h
    obtain ⟨rfl, rfl, rfl⟩ := h
    exact works_true w'
  · exact hK w g args v h w' hb
noncomputable def wk (w : World) : CallF := (@evG (bare Tryz.prog w) Tryz.prog KK2 KS [] 100000 [87, 133, 147] 59).1
theorem hCk (w : World) : @CallS (bare Tryz.prog w) Tryz.prog (wk w) := (@evG_spec (bare Tryz.prog w) Tryz.prog rfl mixed KK2 (hKk w) KS (hS w) [] (noRows _) 100000 [87, 133, 147] 59).1
end Go.Proofs.YtnfbokaldfdboaaGreat
