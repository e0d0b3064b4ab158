/-
  Structs by value, opened: a site, a span, a grid.
-/
import Derived.Test.YthnjfnapjpdchaaProg
import Derived.ProofKit
import Derived.OpenShut
import Derived.KernelRfl
namespace Go.Proofs.Ythnjfnapjpdchaa
open Go.ChangeShapes Go.WideShapes Go.ChangeAt Go.RowKit

theorem cells3 : Try.prog.cellsOf 3 = 1 := by kernel_rfl
theorem cells9 : Try.prog.cellsOf 9 = 1 := by kernel_rfl
theorem cells23 : Try.prog.cellsOf 23 = 8 := by kernel_rfl
theorem cells43 : Try.prog.cellsOf 43 = 2 := by kernel_rfl
theorem cells25 : Try.prog.cellsOf 25 = 5 := by kernel_rfl

set_option maxRecDepth 100000 in
theorem site_open {H : Type} {enc : TypeId × Value → H} {w : World} {r : Reach} {b0 base : Nat} {spare : Nat → Bool} {held : Bool} {v : Value} {d : DataW H} {p : List MemPlace}
    (hv : Value.okWide Try.prog w r b0 23 v) (h : DataW.Trod enc Try.prog w base spare held 23 v d p) :
    ∃ (nm : ByteArray) (x y z rose gates step width : Int), v = .agg #[.string nm, .int .i64 x, .int .i64 y, .int .i64 z, .int .i64 rose, .int .i64 gates, .int .i64 step, .int .i64 width] ∧ nm.size ≤ maxLen ∧ (Lit.int .i64 x).wf = true ∧ (Lit.int .i64 y).wf = true ∧ (Lit.int .i64 z).wf = true ∧ (Lit.int .i64 rose).wf = true ∧ (Lit.int .i64 gates).wf = true ∧ (Lit.int .i64 step).wf = true ∧ (Lit.int .i64 width).wf = true := by
  obtain ⟨cs, rfl, hsz⟩ := okWide_struct Try.underlying23 hv
  have hsz2 := hsz.trans cells23
  obtain ⟨l⟩ := cs
  have hl : l.length = 8 := hsz2
  clear hsz hsz2 hv
  match l, hl with
  | [v0, v1, v2, v3, v4, v5, v6, v7], _ =>
    obtain ⟨fuel, hf⟩ := h
    obtain ⟨xs, m, _, _, _, hlen, hg⟩ := DataW.trod_struct Try.underlying23 hf
    match xs, hlen with
    | [y0, y1, y2, y3, y4, y5, y6, y7], _ =>
      have g0 := hg 0 _ rfl
      simp [Value.cells, cells9] at g0
      obtain ⟨nm, e0, _, w0⟩ := DataW.trod_string Try.underlying9 g0
      have g1 := hg 1 _ rfl
      simp [Value.cells, cells3] at g1
      obtain ⟨x, e1, _, w1⟩ := DataW.trod_int Try.underlying3 g1
      have g2 := hg 2 _ rfl
      simp [Value.cells, cells3] at g2
      obtain ⟨y, e2, _, w2⟩ := DataW.trod_int Try.underlying3 g2
      have g3 := hg 3 _ rfl
      simp [Value.cells, cells3] at g3
      obtain ⟨z, e3, _, w3⟩ := DataW.trod_int Try.underlying3 g3
      have g4 := hg 4 _ rfl
      simp [Value.cells, cells3] at g4
      obtain ⟨rose, e4, _, w4⟩ := DataW.trod_int Try.underlying3 g4
      have g5 := hg 5 _ rfl
      simp [Value.cells, cells3] at g5
      obtain ⟨gates, e5, _, w5⟩ := DataW.trod_int Try.underlying3 g5
      have g6 := hg 6 _ rfl
      simp [Value.cells, cells3] at g6
      obtain ⟨step, e6, _, w6⟩ := DataW.trod_int Try.underlying3 g6
      have g7 := hg 7 _ rfl
      simp [Value.cells, cells3] at g7
      obtain ⟨width, e7, _, w7⟩ := DataW.trod_int Try.underlying3 g7
      simp only [List.cons.injEq, and_true] at e0 e1 e2 e3 e4 e5 e6 e7
      subst e0 e1 e2 e3 e4 e5 e6 e7
      exact ⟨nm, x, y, z, rose, gates, step, width, rfl, w0, w1, w2, w3, w4, w5, w6, w7⟩

set_option maxRecDepth 100000 in
theorem span_open {H : Type} {enc : TypeId × Value → H} {w : World} {r : Reach} {b0 base : Nat} {spare : Nat → Bool} {held : Bool} {v : Value} {d : DataW H} {p : List MemPlace}
    (hv : Value.okWide Try.prog w r b0 43 v) (h : DataW.Trod enc Try.prog w base spare held 43 v d p) :
    ∃ (lo hi : Int), v = .agg #[.int .i64 lo, .int .i64 hi] ∧ (Lit.int .i64 lo).wf = true ∧ (Lit.int .i64 hi).wf = true := by
  obtain ⟨cs, rfl, hsz⟩ := okWide_struct Try.underlying43 hv
  have hsz2 := hsz.trans cells43
  obtain ⟨l⟩ := cs
  have hl : l.length = 2 := hsz2
  clear hsz hsz2 hv
  match l, hl with
  | [v0, v1], _ =>
    obtain ⟨fuel, hf⟩ := h
    obtain ⟨xs, m, _, _, _, hlen, hg⟩ := DataW.trod_struct Try.underlying43 hf
    match xs, hlen with
    | [y0, y1], _ =>
      have g0 := hg 0 _ rfl
      simp [Value.cells, cells3] at g0
      obtain ⟨lo, e0, _, w0⟩ := DataW.trod_int Try.underlying3 g0
      have g1 := hg 1 _ rfl
      simp [Value.cells, cells3] at g1
      obtain ⟨hi, e1, _, w1⟩ := DataW.trod_int Try.underlying3 g1
      simp only [List.cons.injEq, and_true] at e0 e1
      subst e0 e1
      exact ⟨lo, hi, rfl, w0, w1⟩

set_option maxRecDepth 100000 in
theorem grid_open {H : Type} {enc : TypeId × Value → H} {w : World} {r : Reach} {b0 base : Nat} {spare : Nat → Bool} {held : Bool} {v : Value} {d : DataW H} {p : List MemPlace}
    (hv : Value.okWide Try.prog w r b0 25 v) (h : DataW.Trod enc Try.prog w base spare held 25 v d p) :
    ∃ (x y size wide high : Int), v = .agg #[.int .i64 x, .int .i64 y, .int .i64 size, .int .i64 wide, .int .i64 high] ∧ (Lit.int .i64 x).wf = true ∧ (Lit.int .i64 y).wf = true ∧ (Lit.int .i64 size).wf = true ∧ (Lit.int .i64 wide).wf = true ∧ (Lit.int .i64 high).wf = true := by
  obtain ⟨cs, rfl, hsz⟩ := okWide_struct Try.underlying25 hv
  have hsz2 := hsz.trans cells25
  obtain ⟨l⟩ := cs
  have hl : l.length = 5 := hsz2
  clear hsz hsz2 hv
  match l, hl with
  | [v0, v1, v2, v3, v4], _ =>
    obtain ⟨fuel, hf⟩ := h
    obtain ⟨xs, m, _, _, _, hlen, hg⟩ := DataW.trod_struct Try.underlying25 hf
    match xs, hlen with
    | [y0, y1, y2, y3, y4], _ =>
      have g0 := hg 0 _ rfl
      simp [Value.cells, cells3] at g0
      obtain ⟨x, e0, _, w0⟩ := DataW.trod_int Try.underlying3 g0
      have g1 := hg 1 _ rfl
      simp [Value.cells, cells3] at g1
      obtain ⟨y, e1, _, w1⟩ := DataW.trod_int Try.underlying3 g1
      have g2 := hg 2 _ rfl
      simp [Value.cells, cells3] at g2
      obtain ⟨size, e2, _, w2⟩ := DataW.trod_int Try.underlying3 g2
      have g3 := hg 3 _ rfl
      simp [Value.cells, cells3] at g3
      obtain ⟨wide, e3, _, w3⟩ := DataW.trod_int Try.underlying3 g3
      have g4 := hg 4 _ rfl
      simp [Value.cells, cells3] at g4
      obtain ⟨high, e4, _, w4⟩ := DataW.trod_int Try.underlying3 g4
      simp only [List.cons.injEq, and_true] at e0 e1 e2 e3 e4
      subst e0 e1 e2 e3 e4
      exact ⟨x, y, size, wide, high, rfl, w0, w1, w2, w3, w4⟩

end Go.Proofs.Ythnjfnapjpdchaa
