/-
  MosaicNil: what is no node has no answers: worked out with a sign in the place of the time.
-/
import Derived.Test.YtnfbokaldfdboaaGreatWK
namespace Go.Proofs.YtnfbokaldfdboaaGreat
open Go.RowKit
set_option linter.unusedVariables false
set_option linter.unusedSimpArgs false
set_option maxRecDepth 100000
noncomputable def KN : Cons := [16].map fun g => (g, #[], .bool true)
theorem hN (E : Env) : @ConsOk E Tryz.prog KN := @consTrue E Tryz.prog [16] fun g hg w => by
  rw [List.mem_singleton.1 hg]; exact works_true w
noncomputable abbrev nilE (t : Int) (w : World) : Env := sigE Tryz.prog w [.int .i64 t] rfl
theorem nil_no (t : Int) (w : World) : isTrue (@answer (nilE t w) Tryz.prog KN [] 100000 60 12 #[.bool false, .chan (some 0)]) = true := by kernel_rfl
theorem nil_yes (t : Int) (w : World) : isTrue (@answer (nilE t w) Tryz.prog KN [] 100000 60 12 #[.bool true, .chan (some 0)]) = true := by kernel_rfl
theorem MosaicNil_walk (z : Bool) (t : Int) (w : World) : Calls Tryz.prog 12 #[.bool z, .int .i64 t] w fun e w' => e = .returned (.bool true) ∧ Below w.heap.size w w' := by
  cases z
  · exact @calls_signs (nilE t w) Tryz.prog rfl mixed KN (hN _) [] (noRows _) 100000 60 12 #[.bool false, .chan (some 0)] (.bool true) rfl rfl (isTrue_spec (nil_no t w)) w (Below.refl _ _)
  · exact @calls_signs (nilE t w) Tryz.prog rfl mixed KN (hN _) [] (noRows _) 100000 60 12 #[.bool true, .chan (some 0)] (.bool true) rfl rfl (isTrue_spec (nil_yes t w)) w (Below.refl _ _)
end Go.Proofs.YtnfbokaldfdboaaGreat
