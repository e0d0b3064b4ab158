/-
  Boxes of spans.
-/
import Derived.Test.YtdmbkhmhaininaaA
namespace Go.Proofs.Ytdmbkhmhaininaa
open Go.RowKit
set_option linter.unusedVariables false
set_option linter.unusedSimpArgs false

/-- a box of a span that may be written -/
structure SpV (W : World) (q : Nat) (x y : Int) : Prop where
  c0 : W.cell? ⟨q, 0, none⟩ = some (.int .i64 x)
  c1 : W.cell? ⟨q, 1, none⟩ = some (.int .i64 y)
  f0 : W.frozen? ⟨q, 0, none⟩ = false
  f1 : W.frozen? ⟨q, 1, none⟩ = false
theorem SpB.new (W : World) : SpV (W.alloc (.cells #[.int .i64 0, .int .i64 0] 24)) W.heap.size 0 0 := ⟨alloc_new rfl rfl, alloc_new rfl rfl, alloc_newF rfl, alloc_newF rfl⟩
theorem SpV.keep {W w1 : World} {q : Nat} {x y : Int} (s : SpV W q x y) (hb : Below W.heap.size W w1) (h : q < W.heap.size) : SpV w1 q x y := ⟨keepB hb h s.c0, keepB hb h s.c1, keepF hb h s.f0, keepF hb h s.f1⟩
theorem SpB.put {W : World} {q : Nat} {x y u v : Int} (s : SpV W q x y) : SpV ((W.setCell ⟨q, 0, none⟩ (.int .i64 u)).setCell ⟨q, 1, none⟩ (.int .i64 v)) q u v :=
  ⟨set_other (by decide) (set_same s.c0), set_same (set_other (by decide) s.c1), by simp; exact s.f0, by simp; exact s.f1⟩
/-- a box of a span, made behind a world -/
structure NS (E wx : World) (q : Nat) (x y : Int) : Prop where
  c0 : wx.cell? ⟨q, 0, none⟩ = some (.int .i64 x)
  c1 : wx.cell? ⟨q, 1, none⟩ = some (.int .i64 y)
  f0 : wx.frozen? ⟨q, 0, none⟩ = false
  f1 : wx.frozen? ⟨q, 1, none⟩ = false
  l : E.heap.size ≤ q
  z : q < wx.heap.size
  b : Below E.heap.size E wx
theorem NS.keep {E W w1 : World} {q : Nat} {x y : Int} (s : NS E W q x y) (hb : Below W.heap.size W w1) : NS E w1 q x y :=
  ⟨keepB hb s.z s.c0, keepB hb s.z s.c1, keepF hb s.z s.f0, keepF hb s.z s.f1, s.l, Nat.lt_of_lt_of_le s.z hb.size, s.b.trans (hb.mono s.b.size)⟩
theorem NS.one (W : World) (x y : Int) : NS W (W.alloc (.cells #[.int .i64 x, .int .i64 y] 24)) W.heap.size x y :=
  ⟨alloc_new rfl rfl, alloc_new rfl rfl, alloc_newF rfl, alloc_newF rfl, Nat.le_refl _, by rw [World.size_alloc]; omega, below_alloc _ _⟩

end Go.Proofs.Ytdmbkhmhaininaa
