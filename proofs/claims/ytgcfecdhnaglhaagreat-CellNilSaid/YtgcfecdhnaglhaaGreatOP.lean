/-
  A field by value, opened.
-/
import Derived.Test.YtgcfecdhnaglhaaGreatProg
import Derived.ProofKit
import Derived.OpenShut
import Derived.KernelRfl
import Derived.ChangeArms
namespace Go.Proofs.YtgcfecdhnaglhaaGreat
open Go.ChangeShapes Go.WideShapes Go.ChangeAt Go.RowKit
set_option linter.unusedVariables false
set_option linter.unusedSimpArgs false
set_option maxRecDepth 100000
set_option maxHeartbeats 4000000
theorem cells3 : Tryz.prog.cellsOf 3 = 1 := by kernel_rfl
theorem cells23 : Tryz.prog.cellsOf 23 = 5 := by kernel_rfl
theorem cells24 : Tryz.prog.cellsOf 24 = 1 := by kernel_rfl
theorem cells26 : Tryz.prog.cellsOf 26 = 6 := by kernel_rfl
theorem field_open {H : Type} {enc : TypeId × Value → H} {w : World} {r : Reach} {b0 base : Nat} {spare : Nat → Bool} {held : Bool} {v : Value} {d : DataW H} {p : List MemPlace}
    (hv : Value.okWide Tryz.prog w r b0 26 v) (h : DataW.Trod enc Tryz.prog w base spare held 26 v d p) :
    ∃ (gx gy size wide high : Int) (a : Option Addr) (len cap : Nat), v = .agg #[.int .i64 gx, .int .i64 gy, .int .i64 size, .int .i64 wide, .int .i64 high, .slice a len cap] := by
  obtain ⟨cs, rfl, hsz⟩ := okWide_struct Tryz.underlying26 hv
  have hsz2 := hsz.trans cells26
  obtain ⟨l⟩ := cs
  have hl : l.length = 6 := hsz2
  clear hsz hsz2 hv
  match l, hl with
  | [v0, v1, v2, v3, v4, v5], _ =>
    obtain ⟨fuel, hf⟩ := h
    obtain ⟨xs, m, _, _, _, hlen, hg⟩ := DataW.trod_struct Tryz.underlying26 hf
    match xs, hlen with
    | [y0, y1], _ =>
      have g0 := hg 0 _ rfl
      have g1 := hg 1 _ rfl
      simp [Value.cells, cells23] at g0
      simp [Value.cells, cells24] at g1
      obtain ⟨xs2, m2, _, _, _, hlen2, hg2⟩ := DataW.trod_struct Tryz.underlying23 g0
      match xs2, hlen2 with
      | [z0, z1, z2, z3, z4], _ =>
        have t0 := hg2 0 _ rfl
        have t1 := hg2 1 _ rfl
        have t2 := hg2 2 _ rfl
        have t3 := hg2 3 _ rfl
        have t4 := hg2 4 _ rfl
        simp [cells3] at t0 t1 t2 t3 t4
        obtain ⟨gx, e0, _, _⟩ := DataW.trod_int Tryz.underlying3 t0
        obtain ⟨gy, e1, _, _⟩ := DataW.trod_int Tryz.underlying3 t1
        obtain ⟨size, e2, _, _⟩ := DataW.trod_int Tryz.underlying3 t2
        obtain ⟨wide, e3, _, _⟩ := DataW.trod_int Tryz.underlying3 t3
        obtain ⟨high, e4, _, _⟩ := DataW.trod_int Tryz.underlying3 t4
        have e5 : ∃ a len cap, v5 = .slice a len cap := by
          rcases DataW.trod_slice Tryz.underlying24 g1 with h0 | ⟨a, len, cap, _, _, _, _, hc, _⟩
          · exact ⟨none, 0, 0, by simpa using h0.1⟩
          · exact ⟨some a, len, cap, by simpa using hc⟩
        obtain ⟨a, len, cap, rfl⟩ := e5
        simp only [List.cons.injEq, and_true] at e0 e1 e2 e3 e4
        subst e0 e1 e2 e3 e4
        exact ⟨gx, gy, size, wide, high, a, len, cap, rfl⟩
end Go.Proofs.YtgcfecdhnaglhaaGreat
