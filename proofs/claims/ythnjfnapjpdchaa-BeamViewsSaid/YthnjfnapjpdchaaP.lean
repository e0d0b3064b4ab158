/-
  What lies in memory: a site, a pair, a result that is still open; and how it stays.
-/
import Derived.Test.YthnjfnapjpdchaaN
namespace Go.Proofs.Ythnjfnapjpdchaa
open Go.RowKit

structure SiteAt (w : World) (b : Nat) (nm : ByteArray) (x y z rose gates step width : Int) : Prop where
  c0 : w.cell? ⟨b, 0, none⟩ = some (.string nm)
  c1 : w.cell? ⟨b, 1, none⟩ = some (.int .i64 x)
  c2 : w.cell? ⟨b, 2, none⟩ = some (.int .i64 y)
  c3 : w.cell? ⟨b, 3, none⟩ = some (.int .i64 z)
  c4 : w.cell? ⟨b, 4, none⟩ = some (.int .i64 rose)
  c5 : w.cell? ⟨b, 5, none⟩ = some (.int .i64 gates)
  c6 : w.cell? ⟨b, 6, none⟩ = some (.int .i64 step)
  c7 : w.cell? ⟨b, 7, none⟩ = some (.int .i64 width)

theorem SiteAt.new (w : World) (nm : ByteArray) (x y z rose gates step width : Int) : SiteAt (w.alloc (.cells #[.string nm, .int .i64 x, .int .i64 y, .int .i64 z, .int .i64 rose, .int .i64 gates, .int .i64 step, .int .i64 width] 23)) w.heap.size nm x y z rose gates step width :=
  ⟨alloc_new rfl rfl, alloc_new rfl rfl, alloc_new rfl rfl, alloc_new rfl rfl, alloc_new rfl rfl, alloc_new rfl rfl, alloc_new rfl rfl, alloc_new rfl rfl⟩
theorem SiteAt.keep {B b : Nat} {W w1 : World} {nm : ByteArray} {x y z rose gates step width : Int} (s : SiteAt W b nm x y z rose gates step width) (hb : Below B W w1) (h : b < B) : SiteAt w1 b nm x y z rose gates step width :=
  ⟨keepB hb h s.c0, keepB hb h s.c1, keepB hb h s.c2, keepB hb h s.c3, keepB hb h s.c4, keepB hb h s.c5, keepB hb h s.c6, keepB hb h s.c7⟩

structure PairAt (w : World) (b : Nat) (u v : Value) : Prop where
  c0 : w.cell? ⟨b, 0, none⟩ = some u
  c1 : w.cell? ⟨b, 1, none⟩ = some v
theorem PairAt.new (w : World) (u v : Value) (T : TypeId) : PairAt (w.alloc (.cells #[u, v] T)) w.heap.size u v := ⟨alloc_new rfl rfl, alloc_new rfl rfl⟩
theorem PairAt.keep {B b : Nat} {W w1 : World} {u v : Value} (s : PairAt W b u v) (hb : Below B W w1) (h : b < B) : PairAt w1 b u v := ⟨keepB hb h s.c0, keepB hb h s.c1⟩

structure OpenAt (w : World) (b : Nat) : Prop where
  c0 : w.cell? ⟨b, 0, none⟩ = some (cellAt w ⟨b, 0, none⟩)
  c1 : w.cell? ⟨b, 1, none⟩ = some (cellAt w ⟨b, 1, none⟩)
  f0 : w.frozen? ⟨b, 0, none⟩ = false
  f1 : w.frozen? ⟨b, 1, none⟩ = false
theorem OpenAt.new (w : World) (u v : Value) (T : TypeId) : OpenAt (w.alloc (.cells #[u, v] T)) w.heap.size :=
  ⟨cellAt_mk (alloc_new (v := u) rfl rfl), cellAt_mk (alloc_new (v := v) rfl rfl), alloc_newF rfl, alloc_newF rfl⟩
theorem OpenAt.keep {B b : Nat} {W w1 : World} (s : OpenAt W b) (hb : Below B W w1) (h : b < B) : OpenAt w1 b :=
  ⟨keepA hb h s.c0, keepA hb h s.c1, keepF hb h s.f0, keepF hb h s.f1⟩
theorem below_alloc (w : World) (o : Obj) : Below w.heap.size w (w.alloc o) := (Below.refl _ _).alloc (Nat.le_refl _) _

/-- a site in a box, and a result that is open -/
structure Two (w w' : World) (nm : ByteArray) (x y z rose gates step width : Int) : Prop where
  s : SiteAt w' w.heap.size nm x y z rose gates step width
  o : OpenAt w' (w.heap.size + 1)
  z : w.heap.size + 2 ≤ w'.heap.size
  b : Below w.heap.size w w'
theorem Two.new (w : World) (nm : ByteArray) (x y z rose gates step width : Int) (u v : Value) (T : TypeId) : Two w ((w.alloc (.cells #[.string nm, .int .i64 x, .int .i64 y, .int .i64 z, .int .i64 rose, .int .i64 gates, .int .i64 step, .int .i64 width] 23)).alloc (.cells #[u, v] T)) nm x y z rose gates step width := by
  have e : (w.alloc (.cells #[.string nm, .int .i64 x, .int .i64 y, .int .i64 z, .int .i64 rose, .int .i64 gates, .int .i64 step, .int .i64 width] 23)).heap.size = w.heap.size + 1 := World.size_alloc _ _
  refine ⟨(SiteAt.new w nm x y z rose gates step width).keep (below_alloc _ _) (by omega), ?_, by simp, Below.trans (below_alloc _ _) ((below_alloc _ _).mono (by omega))⟩
  rw [← e]; exact OpenAt.new _ _ _ _
theorem Two.keep {w W w1 : World} {B : Nat} {nm : ByteArray} {x y z rose gates step width : Int} (t : Two w W nm x y z rose gates step width) (hb : Below B W w1) (h : w.heap.size + 2 ≤ B) : Two w w1 nm x y z rose gates step width :=
  ⟨t.s.keep hb (by omega), t.o.keep hb (by omega), Nat.le_trans t.z hb.size, t.b.trans (hb.mono (by omega))⟩

/-- a site and a span in boxes, and a result that is open -/
structure Three (w w' : World) (nm : ByteArray) (x y z rose gates step width : Int) (lo hi : Int) : Prop where
  s : SiteAt w' w.heap.size nm x y z rose gates step width
  p : PairAt w' (w.heap.size + 1) (.int .i64 lo) (.int .i64 hi)
  o : OpenAt w' (w.heap.size + 1 + 1)
  z : w.heap.size + 3 ≤ w'.heap.size
  b : Below w.heap.size w w'
theorem Three.new (w : World) (nm : ByteArray) (x y z rose gates step width : Int) (lo hi : Int) (u v : Value) (T T2 : TypeId) : Three w (((w.alloc (.cells #[.string nm, .int .i64 x, .int .i64 y, .int .i64 z, .int .i64 rose, .int .i64 gates, .int .i64 step, .int .i64 width] 23)).alloc (.cells #[.int .i64 lo, .int .i64 hi] T2)).alloc (.cells #[u, v] T)) nm x y z rose gates step width lo hi := by
  have e : (w.alloc (.cells #[.string nm, .int .i64 x, .int .i64 y, .int .i64 z, .int .i64 rose, .int .i64 gates, .int .i64 step, .int .i64 width] 23)).heap.size = w.heap.size + 1 := World.size_alloc _ _
  have e2 : ((w.alloc (.cells #[.string nm, .int .i64 x, .int .i64 y, .int .i64 z, .int .i64 rose, .int .i64 gates, .int .i64 step, .int .i64 width] 23)).alloc (.cells #[.int .i64 lo, .int .i64 hi] T2)).heap.size = w.heap.size + 1 + 1 := by simp
  refine ⟨((SiteAt.new w nm x y z rose gates step width).keep (below_alloc _ _) (by omega)).keep (below_alloc _ _) (by omega), ?_, ?_, by simp, Below.trans (Below.trans (below_alloc _ _) ((below_alloc _ _).mono (by omega))) ((below_alloc _ _).mono (by omega))⟩
  · have h := (PairAt.new (w.alloc (.cells #[.string nm, .int .i64 x, .int .i64 y, .int .i64 z, .int .i64 rose, .int .i64 gates, .int .i64 step, .int .i64 width] 23)) (.int .i64 lo) (.int .i64 hi) T2).keep (below_alloc _ (.cells #[u, v] T)) (by omega)
    rw [e] at h; exact h
  · rw [← e2]; exact OpenAt.new _ _ _ _
theorem Three.keep {w W w1 : World} {B : Nat} {nm : ByteArray} {x y z rose gates step width : Int} {lo hi : Int} (t : Three w W nm x y z rose gates step width lo hi) (hb : Below B W w1) (h : w.heap.size + 3 ≤ B) : Three w w1 nm x y z rose gates step width lo hi :=
  ⟨t.s.keep hb (by omega), t.p.keep hb (by omega), t.o.keep hb (by omega), Nat.le_trans t.z hb.size, t.b.trans (hb.mono (by omega))⟩

end Go.Proofs.Ythnjfnapjpdchaa
