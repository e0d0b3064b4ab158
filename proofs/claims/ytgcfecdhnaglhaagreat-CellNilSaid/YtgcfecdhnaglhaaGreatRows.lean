/-
  No cell of these rows narrows 'for every input' (looked for: loops, veiled, ifaces, maps, wideKeys, modest, calm, conditions, laid).
  DERIVED. THE GIVEN ROWS OF THIS SEAT. 7 by the template 'for every input the law returns true; each argument reads behind the call as it read before'; 0 by the template 'total and deterministic' (their statements: YtgcfecdhnaglhaaGreatTotals.lean).
  GIVEN WITH THE SEED: the statements are not yours to turn. If you find one false, say at which input.
  Laid BY PROGRAM, IN A SANDBOX (cutbox-rows.mjs): the forced cells as the released guide's own fill.sh prints them over the translation 295fe34d36ad28f4… (all of the seat's roots in one cut). By AI agents, Wed Nov 11 2026. No macro, syntax, notation, axiom, sorry.
-/
import Derived.Test.YtgcfecdhnaglhaaGreatChecked
import GoSem.Claim
import GoSem.ClaimJoined
import GoSem.ClaimMapViews
import Derived.JoinedTies
import Derived.KernelRfl
namespace Go.Proofs.YtgcfecdhnaglhaaGreat
/- THE CELL 'sum', in the pinned program and in every row, IS THE sha256 OF THE DUMP (.gsa) THAT YtgcfecdhnaglhaaGreatProg.lean LOADS. Nothing in Lean hashes anything: it is a label: what it is worth is what the hold of that sum in a sandbox is worth. -/
noncomputable def Tryz.pinned : Pinned := { name := "ytgcfecdhnaglhaagreat", sum := "295fe34d36ad28f495e7afeb1f984a953562bfb66beeda970b58cf3e760ca1a8", checked := Tryz.checked }
namespace Rows
def none {H : Type} : Left H := { results := [], args := [] }

/-- 'radomelaw08.CellAreas': WHATEVER THE INPUT: true; the input reads as it did. -/
def cellAreasSpec : ChangeSpec := { name := "cellAreas", fn := fun _ => fun
  | [d1, d2, d3, d4] => { results := [.lit (.bool true)], args := [d1, d2, d3, d4] }
  | _ => none }
def cellAreasRow : OpenClaim := { program := "ytgcfecdhnaglhaagreat", sum := "295fe34d36ad28f495e7afeb1f984a953562bfb66beeda970b58cf3e760ca1a8", func := "radome/radomelaw08.CellAreas", spec := "cellAreas", unfollowed := true, recurses := true, plainKeys := false, apart := false }
def CellAreasSaid : Prop := cellAreasRow.holds Tryz.pinned (OpenSpec.ofChange cellAreasSpec)

/-- ITS FALSE NEIGHBOUR: 'it returns false'. Refute it at one input. -/
def cellAreasWrong : ChangeSpec := { name := "cellAreas", fn := fun _ => fun
  | [d1, d2, d3, d4] => { results := [.lit (.bool false)], args := [d1, d2, d3, d4] }
  | _ => none }
def CellAreasWrongFalsely : Prop := cellAreasRow.holds Tryz.pinned (OpenSpec.ofChange cellAreasWrong)

/-- 'radomelaw08.CellTrees': WHATEVER THE INPUT: true; the input reads as it did. -/
def cellTreesSpec : ChangeSpec := { name := "cellTrees", fn := fun _ => fun
  | [d1, d2] => { results := [.lit (.bool true)], args := [d1, d2] }
  | _ => none }
def cellTreesRow : OpenClaim := { program := "ytgcfecdhnaglhaagreat", sum := "295fe34d36ad28f495e7afeb1f984a953562bfb66beeda970b58cf3e760ca1a8", func := "radome/radomelaw08.CellTrees", spec := "cellTrees", unfollowed := true, recurses := true, plainKeys := false, apart := false }
def CellTreesSaid : Prop := cellTreesRow.holds Tryz.pinned (OpenSpec.ofChange cellTreesSpec)

/-- ITS FALSE NEIGHBOUR: 'it returns false'. Refute it at one input. -/
def cellTreesWrong : ChangeSpec := { name := "cellTrees", fn := fun _ => fun
  | [d1, d2] => { results := [.lit (.bool false)], args := [d1, d2] }
  | _ => none }
def CellTreesWrongFalsely : Prop := cellTreesRow.holds Tryz.pinned (OpenSpec.ofChange cellTreesWrong)

/-- 'radomelaw08.CellPairs': WHATEVER THE INPUT: true; the input reads as it did. -/
def cellPairsSpec : ChangeSpec := { name := "cellPairs", fn := fun _ => fun
  | [d1, d2, d3, d4, d5, d6] => { results := [.lit (.bool true)], args := [d1, d2, d3, d4, d5, d6] }
  | _ => none }
def cellPairsRow : OpenClaim := { program := "ytgcfecdhnaglhaagreat", sum := "295fe34d36ad28f495e7afeb1f984a953562bfb66beeda970b58cf3e760ca1a8", func := "radome/radomelaw08.CellPairs", spec := "cellPairs", unfollowed := true, recurses := true, plainKeys := false, apart := false }
def CellPairsSaid : Prop := cellPairsRow.holds Tryz.pinned (OpenSpec.ofChange cellPairsSpec)

/-- ITS FALSE NEIGHBOUR: 'it returns false'. Refute it at one input. -/
def cellPairsWrong : ChangeSpec := { name := "cellPairs", fn := fun _ => fun
  | [d1, d2, d3, d4, d5, d6] => { results := [.lit (.bool false)], args := [d1, d2, d3, d4, d5, d6] }
  | _ => none }
def CellPairsWrongFalsely : Prop := cellPairsRow.holds Tryz.pinned (OpenSpec.ofChange cellPairsWrong)

/-- 'radomelaw08.CellBooks': WHATEVER THE INPUT: true; the input reads as it did. -/
def cellBooksSpec : ChangeSpec := { name := "cellBooks", fn := fun _ => fun
  | [d1, d2, d3, d4, d5, d6] => { results := [.lit (.bool true)], args := [d1, d2, d3, d4, d5, d6] }
  | _ => none }
def cellBooksRow : OpenClaim := { program := "ytgcfecdhnaglhaagreat", sum := "295fe34d36ad28f495e7afeb1f984a953562bfb66beeda970b58cf3e760ca1a8", func := "radome/radomelaw08.CellBooks", spec := "cellBooks", unfollowed := true, recurses := true, plainKeys := false, apart := false }
def CellBooksSaid : Prop := cellBooksRow.holds Tryz.pinned (OpenSpec.ofChange cellBooksSpec)

/-- ITS FALSE NEIGHBOUR: 'it returns false'. Refute it at one input. -/
def cellBooksWrong : ChangeSpec := { name := "cellBooks", fn := fun _ => fun
  | [d1, d2, d3, d4, d5, d6] => { results := [.lit (.bool false)], args := [d1, d2, d3, d4, d5, d6] }
  | _ => none }
def CellBooksWrongFalsely : Prop := cellBooksRow.holds Tryz.pinned (OpenSpec.ofChange cellBooksWrong)

/-- 'radomelaw08.CellNil': WHATEVER THE INPUT: true; the input reads as it did. -/
def cellNilSpec : ChangeSpec := { name := "cellNil", fn := fun _ => fun
  | [d1, d2, d3, d4] => { results := [.lit (.bool true)], args := [d1, d2, d3, d4] }
  | _ => none }
def cellNilRow : OpenClaim := { program := "ytgcfecdhnaglhaagreat", sum := "295fe34d36ad28f495e7afeb1f984a953562bfb66beeda970b58cf3e760ca1a8", func := "radome/radomelaw08.CellNil", spec := "cellNil", unfollowed := true, recurses := true, plainKeys := false, apart := false }
def CellNilSaid : Prop := cellNilRow.holds Tryz.pinned (OpenSpec.ofChange cellNilSpec)

/-- ITS FALSE NEIGHBOUR: 'it returns false'. Refute it at one input. -/
def cellNilWrong : ChangeSpec := { name := "cellNil", fn := fun _ => fun
  | [d1, d2, d3, d4] => { results := [.lit (.bool false)], args := [d1, d2, d3, d4] }
  | _ => none }
def CellNilWrongFalsely : Prop := cellNilRow.holds Tryz.pinned (OpenSpec.ofChange cellNilWrong)

/-- 'radomelaw08.CellDrift': WHATEVER THE INPUT: true; the input reads as it did. -/
def cellDriftSpec : ChangeSpec := { name := "cellDrift", fn := fun _ => fun
  | [d1, d2, d3, d4, d5, d6, d7, d8, d9] => { results := [.lit (.bool true)], args := [d1, d2, d3, d4, d5, d6, d7, d8, d9] }
  | _ => none }
def cellDriftRow : OpenClaim := { program := "ytgcfecdhnaglhaagreat", sum := "295fe34d36ad28f495e7afeb1f984a953562bfb66beeda970b58cf3e760ca1a8", func := "radome/radomelaw08.CellDrift", spec := "cellDrift", unfollowed := true, recurses := true, plainKeys := false, apart := false }
def CellDriftSaid : Prop := cellDriftRow.holds Tryz.pinned (OpenSpec.ofChange cellDriftSpec)

/-- ITS FALSE NEIGHBOUR: 'it returns false'. Refute it at one input. -/
def cellDriftWrong : ChangeSpec := { name := "cellDrift", fn := fun _ => fun
  | [d1, d2, d3, d4, d5, d6, d7, d8, d9] => { results := [.lit (.bool false)], args := [d1, d2, d3, d4, d5, d6, d7, d8, d9] }
  | _ => none }
def CellDriftWrongFalsely : Prop := cellDriftRow.holds Tryz.pinned (OpenSpec.ofChange cellDriftWrong)

/-- 'radomelaw08.CellHistories': WHATEVER THE INPUT: true; the input reads as it did. -/
def cellHistoriesSpec : ChangeSpec := { name := "cellHistories", fn := fun _ => fun
  | [d1, d2, d3, d4, d5, d6] => { results := [.lit (.bool true)], args := [d1, d2, d3, d4, d5, d6] }
  | _ => none }
def cellHistoriesRow : OpenClaim := { program := "ytgcfecdhnaglhaagreat", sum := "295fe34d36ad28f495e7afeb1f984a953562bfb66beeda970b58cf3e760ca1a8", func := "radome/radomelaw08.CellHistories", spec := "cellHistories", unfollowed := true, recurses := true, plainKeys := false, apart := false }
def CellHistoriesSaid : Prop := cellHistoriesRow.holds Tryz.pinned (OpenSpec.ofChange cellHistoriesSpec)

/-- ITS FALSE NEIGHBOUR: 'it returns false'. Refute it at one input. -/
def cellHistoriesWrong : ChangeSpec := { name := "cellHistories", fn := fun _ => fun
  | [d1, d2, d3, d4, d5, d6] => { results := [.lit (.bool false)], args := [d1, d2, d3, d4, d5, d6] }
  | _ => none }
def CellHistoriesWrongFalsely : Prop := cellHistoriesRow.holds Tryz.pinned (OpenSpec.ofChange cellHistoriesWrong)

/- THE SECOND FORM. 'bulk': how many values and letters a reading holds, each counted each time it is reached (what is shared counts as often as it is met; a slice's spare places count too). A statement '..UptoSaid' is the law's where the arguments, and the package variables that the reading takes, are together of bulk at most 1048576: NARROWER than '..Said'. Prove '..Said' where nothing that the law and all that it calls make is longer than what came in: it says more and counts as full. Else prove '..UptoSaid'. A law counts once. -/
mutual
def uptoBulk {H : Type} : DataW H → Nat
  | .lit (.string bytes) => bytes.length + 1
  | .lit _ => 1
  | .nil => 1
  | .ptr d => uptoBulk d + 1
  | .slice elems spare => uptoBulkAll elems + uptoBulkAll spare + 1
  | .agg parts => uptoBulkAll parts + 1
  | .iface _ d => uptoBulk d + 1
  | .map entries => uptoBulkEntries entries + 1
  | .held _ => 1
def uptoBulkAll {H : Type} : List (DataW H) → Nat
  | [] => 0
  | d :: r => uptoBulk d + uptoBulkAll r
def uptoBulkEntries {H : Type} : List (Lit × DataW H) → Nat
  | [] => 0
  | x :: r => uptoBulkEntry x + uptoBulkEntries r
def uptoBulkEntry {H : Type} : Lit × DataW H → Nat
  | (.string bytes, d) => bytes.length + uptoBulk d + 1
  | (_, d) => uptoBulk d + 1
 end
def uptoSmall : (H : Type) → List (DataW H) → Bool := fun _ ds => decide (uptoBulkAll ds ≤ 1048576)
def OpenSpec.upto (s : _root_.Go.ChangeSpec) : _root_.Go.OpenSpec := { _root_.Go.OpenSpec.ofChange s with cond := some uptoSmall }

/-- 'radomelaw08.CellAreas', WHERE WHAT IT READS IS OF BULK AT MOST 1048576: true; the input reads as it did. -/
def cellAreasUptoRow : OpenClaim := { program := "ytgcfecdhnaglhaagreat", sum := "295fe34d36ad28f495e7afeb1f984a953562bfb66beeda970b58cf3e760ca1a8", func := "radome/radomelaw08.CellAreas", spec := "cellAreas", unfollowed := true, recurses := true, plainKeys := false, apart := false, narrowed := true }
def CellAreasUptoSaid : Prop := cellAreasUptoRow.holds Tryz.pinned (OpenSpec.upto cellAreasSpec)

/-- 'radomelaw08.CellTrees', WHERE WHAT IT READS IS OF BULK AT MOST 1048576: true; the input reads as it did. -/
def cellTreesUptoRow : OpenClaim := { program := "ytgcfecdhnaglhaagreat", sum := "295fe34d36ad28f495e7afeb1f984a953562bfb66beeda970b58cf3e760ca1a8", func := "radome/radomelaw08.CellTrees", spec := "cellTrees", unfollowed := true, recurses := true, plainKeys := false, apart := false, narrowed := true }
def CellTreesUptoSaid : Prop := cellTreesUptoRow.holds Tryz.pinned (OpenSpec.upto cellTreesSpec)

/-- 'radomelaw08.CellPairs', WHERE WHAT IT READS IS OF BULK AT MOST 1048576: true; the input reads as it did. -/
def cellPairsUptoRow : OpenClaim := { program := "ytgcfecdhnaglhaagreat", sum := "295fe34d36ad28f495e7afeb1f984a953562bfb66beeda970b58cf3e760ca1a8", func := "radome/radomelaw08.CellPairs", spec := "cellPairs", unfollowed := true, recurses := true, plainKeys := false, apart := false, narrowed := true }
def CellPairsUptoSaid : Prop := cellPairsUptoRow.holds Tryz.pinned (OpenSpec.upto cellPairsSpec)

/-- 'radomelaw08.CellBooks', WHERE WHAT IT READS IS OF BULK AT MOST 1048576: true; the input reads as it did. -/
def cellBooksUptoRow : OpenClaim := { program := "ytgcfecdhnaglhaagreat", sum := "295fe34d36ad28f495e7afeb1f984a953562bfb66beeda970b58cf3e760ca1a8", func := "radome/radomelaw08.CellBooks", spec := "cellBooks", unfollowed := true, recurses := true, plainKeys := false, apart := false, narrowed := true }
def CellBooksUptoSaid : Prop := cellBooksUptoRow.holds Tryz.pinned (OpenSpec.upto cellBooksSpec)

/-- 'radomelaw08.CellNil', WHERE WHAT IT READS IS OF BULK AT MOST 1048576: true; the input reads as it did. -/
def cellNilUptoRow : OpenClaim := { program := "ytgcfecdhnaglhaagreat", sum := "295fe34d36ad28f495e7afeb1f984a953562bfb66beeda970b58cf3e760ca1a8", func := "radome/radomelaw08.CellNil", spec := "cellNil", unfollowed := true, recurses := true, plainKeys := false, apart := false, narrowed := true }
def CellNilUptoSaid : Prop := cellNilUptoRow.holds Tryz.pinned (OpenSpec.upto cellNilSpec)

/-- 'radomelaw08.CellDrift', WHERE WHAT IT READS IS OF BULK AT MOST 1048576: true; the input reads as it did. -/
def cellDriftUptoRow : OpenClaim := { program := "ytgcfecdhnaglhaagreat", sum := "295fe34d36ad28f495e7afeb1f984a953562bfb66beeda970b58cf3e760ca1a8", func := "radome/radomelaw08.CellDrift", spec := "cellDrift", unfollowed := true, recurses := true, plainKeys := false, apart := false, narrowed := true }
def CellDriftUptoSaid : Prop := cellDriftUptoRow.holds Tryz.pinned (OpenSpec.upto cellDriftSpec)

/-- 'radomelaw08.CellHistories', WHERE WHAT IT READS IS OF BULK AT MOST 1048576: true; the input reads as it did. -/
def cellHistoriesUptoRow : OpenClaim := { program := "ytgcfecdhnaglhaagreat", sum := "295fe34d36ad28f495e7afeb1f984a953562bfb66beeda970b58cf3e760ca1a8", func := "radome/radomelaw08.CellHistories", spec := "cellHistories", unfollowed := true, recurses := true, plainKeys := false, apart := false, narrowed := true }
def CellHistoriesUptoSaid : Prop := cellHistoriesUptoRow.holds Tryz.pinned (OpenSpec.upto cellHistoriesSpec)

end Rows
end Go.Proofs.YtgcfecdhnaglhaaGreat
