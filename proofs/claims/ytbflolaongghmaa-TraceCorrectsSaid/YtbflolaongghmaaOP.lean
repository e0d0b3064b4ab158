/-
  Structs by value, opened: a span, an act.
-/
import Derived.Test.YtbflolaongghmaaProg
import Derived.ProofKit
import Derived.OpenShut
import Derived.KernelRfl
namespace Go.Proofs.Ytbflolaongghmaa
open Go.ChangeShapes Go.WideShapes Go.ChangeAt Go.RowKit
set_option linter.unusedVariables false
set_option linter.unusedSimpArgs false
theorem cells3 : Try.prog.cellsOf 3 = 1 := by kernel_rfl
theorem cells9 : Try.prog.cellsOf 9 = 1 := by kernel_rfl

theorem cells29 : Try.prog.cellsOf 29 = 2 := by kernel_rfl
set_option maxRecDepth 100000 in
theorem span_open {H : Type} {enc : TypeId × Value → H} {w : World} {r : Reach} {b0 base : Nat} {spare : Nat → Bool} {held : Bool} {v : Value} {d : DataW H} {p : List MemPlace}
    (hv : Value.okWide Try.prog w r b0 29 v) (h : DataW.Trod enc Try.prog w base spare held 29 v d p) :
    ∃ (lo : Int) (hi : Int), v = .agg #[.int .i64 lo, .int .i64 hi] ∧ (Lit.int .i64 lo).wf = true ∧ (Lit.int .i64 hi).wf = true := by
  obtain ⟨cs, rfl, hsz⟩ := okWide_struct Try.underlying29 hv
  have hsz2 := hsz.trans cells29
  obtain ⟨l⟩ := cs
  have hl : l.length = 2 := hsz2
  clear hsz hsz2 hv
  match l, hl with
  | [v0, v1], _ =>
    obtain ⟨fuel, hf⟩ := h
    obtain ⟨xs, m, _, _, _, hlen, hg⟩ := DataW.trod_struct Try.underlying29 hf
    match xs, hlen with
    | [y0, y1], _ =>
      have g0 := hg 0 _ rfl
      simp [Value.cells, cells3] at g0
      obtain ⟨lo, e0, _, w0⟩ := DataW.trod_int Try.underlying3 g0
      have g1 := hg 1 _ rfl
      simp [Value.cells, cells3] at g1
      obtain ⟨hi, e1, _, w1⟩ := DataW.trod_int Try.underlying3 g1
      simp only [List.cons.injEq, and_true] at e0 e1
      subst e0 e1
      exact ⟨lo, hi, rfl, w0, w1⟩

theorem cells31 : Try.prog.cellsOf 31 = 8 := by kernel_rfl
set_option maxRecDepth 100000 in
theorem act_open {H : Type} {enc : TypeId × Value → H} {w : World} {r : Reach} {b0 base : Nat} {spare : Nat → Bool} {held : Bool} {v : Value} {d : DataW H} {p : List MemPlace}
    (hv : Value.okWide Try.prog w r b0 31 v) (h : DataW.Trod enc Try.prog w base spare held 31 v d p) :
    ∃ (ak : Int) (an : ByteArray) (ap : ByteArray) (al : Int) (ah : Int) (at_ : Int) (au : Int) (am : Int), v = .agg #[.int .i64 ak, .string an, .string ap, .int .i64 al, .int .i64 ah, .int .i64 at_, .int .i64 au, .int .i64 am] := by
  obtain ⟨cs, rfl, hsz⟩ := okWide_struct Try.underlying31 hv
  have hsz2 := hsz.trans cells31
  obtain ⟨l⟩ := cs
  have hl : l.length = 8 := hsz2
  clear hsz hsz2 hv
  match l, hl with
  | [v0, v1, v2, v3, v4, v5, v6, v7], _ =>
    obtain ⟨fuel, hf⟩ := h
    obtain ⟨xs, m, _, _, _, hlen, hg⟩ := DataW.trod_struct Try.underlying31 hf
    match xs, hlen with
    | [y0, y1, y2, y3, y4, y5, y6], _ =>
      have g0 := hg 0 _ rfl
      simp [Value.cells, cells3] at g0
      obtain ⟨ak, e0, _, w0⟩ := DataW.trod_int Try.underlying3 g0
      have g1 := hg 1 _ rfl
      simp [Value.cells, cells9] at g1
      obtain ⟨an, e1, _, w1⟩ := DataW.trod_string Try.underlying9 g1
      have g2 := hg 2 _ rfl
      simp [Value.cells, cells9] at g2
      obtain ⟨ap, e2, _, w2⟩ := DataW.trod_string Try.underlying9 g2
      have g3 := hg 3 _ rfl
      simp [Value.cells, cells29] at g3
      obtain ⟨zs, m2, _, _, _, hlen2, hg2⟩ := DataW.trod_struct Try.underlying29 g3
      match zs, hlen2 with
      | [z0, z1], _ =>
        have k0 := hg2 0 _ rfl
        simp [cells3] at k0
        obtain ⟨al, f0, _, u0⟩ := DataW.trod_int Try.underlying3 k0
        have k1 := hg2 1 _ rfl
        simp [cells3] at k1
        obtain ⟨ah, f1, _, u1⟩ := DataW.trod_int Try.underlying3 k1
        have g4 := hg 4 _ rfl
        simp [Value.cells, cells3] at g4
        obtain ⟨at_, e4, _, w4⟩ := DataW.trod_int Try.underlying3 g4
        have g5 := hg 5 _ rfl
        simp [Value.cells, cells3] at g5
        obtain ⟨au, e5, _, w5⟩ := DataW.trod_int Try.underlying3 g5
        have g6 := hg 6 _ rfl
        simp [Value.cells, cells3] at g6
        obtain ⟨am, e6, _, w6⟩ := DataW.trod_int Try.underlying3 g6
        simp only [List.cons.injEq, and_true] at e0 e1 e2 e4 e5 e6 f0 f1
        subst e0 e1 e2 e4 e5 e6 f0 f1
        exact ⟨ak, an, ap, al, ah, at_, au, am, rfl⟩
end Go.Proofs.Ytbflolaongghmaa
