/-
  TraceKnown: the walk out of the two pieces.
-/
import Derived.Test.YtbflolaongghmaaKB
namespace Go.Proofs.Ytbflolaongghmaa
open Go.RowKit
set_option maxRecDepth 100000 in
theorem TraceKnown_walk (w : World) : Calls Try.prog 12 #[] w fun e w' => e = .returned (.bool true) ∧ Below w.heap.size w w' :=
  @calls_true bare Try.prog mixed KK (@KK_ok bare) 100000 60 49 59 12 #[] rfl Try.f12 _ Try.func12 (Option.some_get (x := Try.f12.body) (by kernel_rfl)).symm knownMid known1 known2 w
end Go.Proofs.Ytbflolaongghmaa
