/-
  The walk over isGate.
-/
import Derived.Test.YthnjfnapjpdchaaK
namespace Go.Proofs.Ythnjfnapjpdchaa
open Go.RowKit

set_option maxHeartbeats 400000 in
theorem isGate_any (nm : ByteArray) (x y z rose gates step width gate : Int) (w : World) (h1 : 1 ≤ gates) (h2 : gates ≤ 200) :
    Calls Try.prog 67 #[.agg #[.string nm, .int .i64 x, .int .i64 y, .int .i64 z, .int .i64 rose, .int .i64 gates, .int .i64 step, .int .i64 width], .int .i64 gate] w
      fun e w' => e = .returned (.bool (inB gate 0 (gates - 1))) ∧ Below w.heap.size w w' := by
  go_enter Try.func67, Try.ntmps67
  go_wp2_with (go_at_call 59; refine (isIn_any _ _ _ _).mono ?_; rintro e w' ⟨rfl, rfl⟩)
  go_ret
  exact ⟨rfl, (Below.refl _ _).alloc (Nat.le_refl _) _⟩

end Go.Proofs.Ythnjfnapjpdchaa
