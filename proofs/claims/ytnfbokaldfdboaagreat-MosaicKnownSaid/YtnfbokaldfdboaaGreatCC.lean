/-
  The contracts, together.
-/
import Derived.Test.YtnfbokaldfdboaaGreatCS
import Derived.Test.YtnfbokaldfdboaaGreatVA
import Derived.Test.YtnfbokaldfdboaaGreatVB
import Derived.Test.YtnfbokaldfdboaaGreatBA
import Derived.Test.YtnfbokaldfdboaaGreatBB
namespace Go.Proofs.YtnfbokaldfdboaaGreat
open Go.RowKit
set_option linter.unusedVariables false
set_option linter.unusedSimpArgs false
set_option maxRecDepth 100000
noncomputable def KK : Cons := [(181, #[.string ⟨#[97]⟩, .string ⟨#[97]⟩], .int .i64 0), (181, #[.string ⟨#[97]⟩, .string ⟨#[98]⟩], .int .i64 (-1)), (181, #[.string ⟨#[98]⟩, .string ⟨#[97]⟩], .int .i64 1), (181, #[.string ⟨#[98]⟩, .string ⟨#[98]⟩], .int .i64 0), (114, #[siteA, z0, earthV, .int .i64 0], bandV), (114, #[siteA, z0, earthV, .int .i64 1], bandV), (114, #[siteA, z0, earthV, .int .i64 2], bandV), (114, #[siteB, z0, earthV, .int .i64 0], bandV), (114, #[siteB, z0, earthV, .int .i64 1], bandV), (114, #[siteB, z0, earthV, .int .i64 2], bandV)]
noncomputable def KS : List SRow := [viewA, viewB]
theorem hK (w : World) : @ConsOk (bare Tryz.prog w) Tryz.prog KK := by
  intro g args v h w' hb
  simp only [KK, List.mem_cons, List.not_mem_nil, or_false, Prod.mk.injEq] at h
  rcases h with ⟨rfl, rfl, rfl⟩ | ⟨rfl, rfl, rfl⟩ | ⟨rfl, rfl, rfl⟩ | ⟨rfl, rfl, rfl⟩ | ⟨rfl, rfl, rfl⟩ | ⟨rfl, rfl, rfl⟩ | ⟨rfl, rfl, rfl⟩ | ⟨rfl, rfl, rfl⟩ | ⟨rfl, rfl, rfl⟩ | ⟨rfl, rfl, rfl⟩
  · exact str_same _ _ _ (by decide) w'
  · exact str_same _ _ _ (by decide) w'
  · exact str_same _ _ _ (by decide) w'
  · exact str_same _ _ _ (by decide) w'
  · exact bandA0 w'
  · exact bandA1 w'
  · exact bandA2 w'
  · exact bandB0 w'
  · exact bandB1 w'
  · exact bandB2 w'
theorem hS (w : World) : @SRowsOk (bare Tryz.prog w) Tryz.prog KS := by
  intro r h
  simp only [KS, List.mem_cons, List.not_mem_nil, or_false] at h
  rcases h with rfl | rfl
  · exact viewA_ok w
  · exact viewB_ok w
noncomputable def wc (w : World) : CallF := (@evG (bare Tryz.prog w) Tryz.prog KK KS [] 100000 [87, 133, 147] 59).1
theorem hC (w : World) : @CallS (bare Tryz.prog w) Tryz.prog (wc w) := (@evG_spec (bare Tryz.prog w) Tryz.prog rfl mixed KK (hK w) KS (hS w) [] (noRows _) 100000 [87, 133, 147] 59).1
end Go.Proofs.YtnfbokaldfdboaaGreat
