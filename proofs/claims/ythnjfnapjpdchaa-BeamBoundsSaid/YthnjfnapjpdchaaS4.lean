/-
  The walk over BeamRanges.
-/
import Derived.Test.YthnjfnapjpdchaaR
import Derived.Test.YthnjfnapjpdchaaQ2
import Derived.Test.YthnjfnapjpdchaaQ3
namespace Go.Proofs.Ythnjfnapjpdchaa
open Go.RowKit

/-- a site and a span in boxes -/
structure Env (w w' : World) (nm : ByteArray) (x y z rose gates step width : Int) (lo hi : Int) : Prop where
  s : SiteAt w' w.heap.size nm x y z rose gates step width
  p : PairAt w' (w.heap.size + 1) (.int .i64 lo) (.int .i64 hi)
  z : w.heap.size + 2 ≤ w'.heap.size
  b : Below w.heap.size w w'
theorem Env.new (w : World) (nm : ByteArray) (x y z rose gates step width : Int) (lo hi : Int) (T2 : TypeId) : Env w ((w.alloc (.cells #[.string nm, .int .i64 x, .int .i64 y, .int .i64 z, .int .i64 rose, .int .i64 gates, .int .i64 step, .int .i64 width] 23)).alloc (.cells #[.int .i64 lo, .int .i64 hi] T2)) nm x y z rose gates step width lo hi := by
  have e : (w.alloc (.cells #[.string nm, .int .i64 x, .int .i64 y, .int .i64 z, .int .i64 rose, .int .i64 gates, .int .i64 step, .int .i64 width] 23)).heap.size = w.heap.size + 1 := World.size_alloc _ _
  refine ⟨(SiteAt.new w nm x y z rose gates step width).keep (below_alloc _ _) (by omega), ?_, by simp, Below.trans (below_alloc _ _) ((below_alloc _ _).mono (by omega))⟩
  rw [← e]; exact PairAt.new _ _ _ _
theorem Env.keep {w W w1 : World} {B : Nat} {nm : ByteArray} {x y z rose gates step width : Int} {lo hi : Int} (t : Env w W nm x y z rose gates step width lo hi) (hb : Below B W w1) (h : w.heap.size + 2 ≤ B) : Env w w1 nm x y z rose gates step width lo hi :=
  ⟨t.s.keep hb (by omega), t.p.keep hb (by omega), Nat.le_trans t.z hb.size, t.b.trans (hb.mono (by omega))⟩

/-- both functions answer so, in whatever world -/
def Ans (f g : Nat) (args : Array Value) (u v e : Int) : Prop :=
  (∀ w : World, Calls Try.prog f args w fun q w' => q = .returned (.tuple #[.agg #[.int .i64 u, .int .i64 v], .int .i64 e]) ∧ Below w.heap.size w w') ∧
  (∀ w : World, Calls Try.prog g args w fun q w' => q = .returned (.tuple #[.agg #[.int .i64 u, .int .i64 v], .int .i64 e]) ∧ Below w.heap.size w w')
theorem Ground_ans (nm : ByteArray) (x y z rose gates step width : Int) (t gate : Int) (hs : nm.size ≤ maxLen) : ∃ u v e : Int, Ans 29 30 #[.agg #[.string nm, .int .i64 x, .int .i64 y, .int .i64 z, .int .i64 rose, .int .i64 gates, .int .i64 step, .int .i64 width], .int .i64 t, .int .i64 gate] u v e :=
  ⟨_, _, _, fun w => Ground_any nm x y z rose gates step width t gate w hs, fun w => refGround_any nm x y z rose gates step width t gate w hs⟩
theorem Height_ans (nm : ByteArray) (x y z rose gates step width : Int) (t lo hi gate : Int) (hs : nm.size ≤ maxLen) : ∃ u v e : Int, Ans 31 32 #[.agg #[.string nm, .int .i64 x, .int .i64 y, .int .i64 z, .int .i64 rose, .int .i64 gates, .int .i64 step, .int .i64 width], .int .i64 t, .agg #[.int .i64 lo, .int .i64 hi], .int .i64 gate] u v e :=
  ⟨_, _, _, fun w => Height_any nm x y z rose gates step width t lo hi gate w hs, fun w => refHeight_any nm x y z rose gates step width t lo hi gate w hs⟩
theorem Band_ans (nm : ByteArray) (x y z rose gates step width : Int) (t lo hi gate : Int) (hs : nm.size ≤ maxLen) : ∃ u v e : Int, Ans 33 34 #[.agg #[.string nm, .int .i64 x, .int .i64 y, .int .i64 z, .int .i64 rose, .int .i64 gates, .int .i64 step, .int .i64 width], .int .i64 t, .agg #[.int .i64 lo, .int .i64 hi], .int .i64 gate] u v e :=
  ⟨_, _, _, fun w => Band_any nm x y z rose gates step width t lo hi gate w hs, fun w => refBand_any nm x y z rose gates step width t lo hi gate w hs⟩

set_option maxRecDepth 100000 in
set_option maxHeartbeats 800000 in
theorem BeamRanges_long (nm : ByteArray) (x y z rose gates step width : Int) (t lo hi gate : Int) (w : World) (hs : nm.size ≤ maxLen) (hl : 40 < nm.size) :
    Calls Try.prog 5 #[.agg #[.string nm, .int .i64 x, .int .i64 y, .int .i64 z, .int .i64 rose, .int .i64 gates, .int .i64 step, .int .i64 width], .int .i64 t, .agg #[.int .i64 lo, .int .i64 hi], .int .i64 gate] w fun e w' => e = .returned (.bool true) ∧ Below w.heap.size w w' := by
  unfold maxLen at hs
  go_enter Try.func5, Try.ntmps5
  go_wp2_with fail
  refine (works_any _).mono ?_; rintro e w1 ⟨rfl, hb1⟩
  go_wp2
  go_ret
  exact ⟨rfl, Below.trans (((Below.refl _ _).alloc (Nat.le_refl _) _).alloc (by simp) _) (hb1.mono (by simp only [World.size_alloc]; omega))⟩

set_option maxRecDepth 100000 in
set_option maxHeartbeats 3200000 in
theorem BeamRanges_short (nm : ByteArray) (x y z rose gates step width : Int) (t lo hi gate : Int) (w : World) (hs : nm.size ≤ maxLen) (hl : nm.size ≤ 40) :
    Calls Try.prog 5 #[.agg #[.string nm, .int .i64 x, .int .i64 y, .int .i64 z, .int .i64 rose, .int .i64 gates, .int .i64 step, .int .i64 width], .int .i64 t, .agg #[.int .i64 lo, .int .i64 hi], .int .i64 gate] w fun e w' => e = .returned (.bool true) ∧ Below w.heap.size w w' := by
  obtain ⟨u1, v1, e1, c1, c2⟩ := Ground_ans nm x y z rose gates step width t gate hs
  obtain ⟨u3, v3, e3, c3, c4⟩ := Height_ans nm x y z rose gates step width t lo hi gate hs
  obtain ⟨u5, v5, e5, c5, c6⟩ := Band_ans nm x y z rose gates step width t lo hi gate hs
  have C1 := Lib.hid c1
  have C2 := Lib.hid c2
  have C3 := Lib.hid c3
  have C4 := Lib.hid c4
  have C5 := Lib.hid c5
  have C6 := Lib.hid c6
  clear c1 c2 c3 c4 c5 c6 hs
  go_enter Try.func5, Try.ntmps5
  go_wp2_with fail
  refine (C1.out _).mono ?_; rintro e w1 ⟨rfl, hb1⟩
  have E1 := (Env.new w nm x y z rose gates step width lo hi 43).keep hb1 (by simp only [World.size_alloc]; omega)
  clear hb1
  obtain ⟨⟨k0, k1, k2, k3, k4, k5, k6, k7⟩, ⟨p0, p1⟩, hz, hbw⟩ := E1
  have y0 : w.heap.size < w1.heap.size := by omega
  have y1 : w.heap.size + 1 < w1.heap.size := by omega
  go_wp2_with fail
  refine (C2.out _).mono ?_; rintro e w2 ⟨rfl, hb2⟩
  have E2 := ((⟨⟨k0, k1, k2, k3, k4, k5, k6, k7⟩, ⟨p0, p1⟩, hz, hbw⟩ : Env w w1 nm x y z rose gates step width lo hi).keep (below_alloc w1 _) (by omega)).keep hb2 (by simp only [World.size_alloc]; omega)
  have L1 := (PairAt.new w1 (.int .i64 u1) (.int .i64 v1) 43).keep hb2 (by simp)
  have zz1 : w1.heap.size < w2.heap.size := by have := hb2.size; simp only [World.size_alloc] at this; omega
  clear k0 k1 k2 k3 k4 k5 k6 k7 p0 p1 hz hbw y0 y1
  clear hb2
  obtain ⟨⟨k0, k1, k2, k3, k4, k5, k6, k7⟩, ⟨p0, p1⟩, hz, hbw⟩ := E2
  have y0 : w.heap.size < w2.heap.size := by omega
  have y1 : w.heap.size + 1 < w2.heap.size := by omega
  go_wp2_with fail
  refine (C3.out _).mono ?_; rintro e w3 ⟨rfl, hb3⟩
  have E3 := ((⟨⟨k0, k1, k2, k3, k4, k5, k6, k7⟩, ⟨p0, p1⟩, hz, hbw⟩ : Env w w2 nm x y z rose gates step width lo hi).keep (below_alloc w2 _) (by omega)).keep hb3 (by simp only [World.size_alloc]; omega)
  have L2 := (PairAt.new w2 (.int .i64 u1) (.int .i64 v1) 43).keep hb3 (by simp)
  have L1 := (L1.keep (below_alloc w2 _) (by omega)).keep hb3 (by simp only [World.size_alloc]; omega)
  have zz2 : w2.heap.size < w3.heap.size := by have := hb3.size; simp only [World.size_alloc] at this; omega
  clear k0 k1 k2 k3 k4 k5 k6 k7 p0 p1 hz hbw y0 y1
  clear hb3
  obtain ⟨⟨k0, k1, k2, k3, k4, k5, k6, k7⟩, ⟨p0, p1⟩, hz, hbw⟩ := E3
  have y0 : w.heap.size < w3.heap.size := by omega
  have y1 : w.heap.size + 1 < w3.heap.size := by omega
  go_wp2_with fail
  refine (C4.out _).mono ?_; rintro e w4 ⟨rfl, hb4⟩
  have E4 := ((⟨⟨k0, k1, k2, k3, k4, k5, k6, k7⟩, ⟨p0, p1⟩, hz, hbw⟩ : Env w w3 nm x y z rose gates step width lo hi).keep (below_alloc w3 _) (by omega)).keep hb4 (by simp only [World.size_alloc]; omega)
  have L3 := (PairAt.new w3 (.int .i64 u3) (.int .i64 v3) 43).keep hb4 (by simp)
  have L1 := (L1.keep (below_alloc w3 _) (by omega)).keep hb4 (by simp only [World.size_alloc]; omega)
  have L2 := (L2.keep (below_alloc w3 _) (by omega)).keep hb4 (by simp only [World.size_alloc]; omega)
  have zz3 : w3.heap.size < w4.heap.size := by have := hb4.size; simp only [World.size_alloc] at this; omega
  clear k0 k1 k2 k3 k4 k5 k6 k7 p0 p1 hz hbw y0 y1
  clear hb4
  obtain ⟨⟨k0, k1, k2, k3, k4, k5, k6, k7⟩, ⟨p0, p1⟩, hz, hbw⟩ := E4
  have y0 : w.heap.size < w4.heap.size := by omega
  have y1 : w.heap.size + 1 < w4.heap.size := by omega
  go_wp2_with fail
  refine (C5.out _).mono ?_; rintro e w5 ⟨rfl, hb5⟩
  have E5 := ((⟨⟨k0, k1, k2, k3, k4, k5, k6, k7⟩, ⟨p0, p1⟩, hz, hbw⟩ : Env w w4 nm x y z rose gates step width lo hi).keep (below_alloc w4 _) (by omega)).keep hb5 (by simp only [World.size_alloc]; omega)
  have L4 := (PairAt.new w4 (.int .i64 u3) (.int .i64 v3) 43).keep hb5 (by simp)
  have L1 := (L1.keep (below_alloc w4 _) (by omega)).keep hb5 (by simp only [World.size_alloc]; omega)
  have L2 := (L2.keep (below_alloc w4 _) (by omega)).keep hb5 (by simp only [World.size_alloc]; omega)
  have L3 := (L3.keep (below_alloc w4 _) (by omega)).keep hb5 (by simp only [World.size_alloc]; omega)
  have zz4 : w4.heap.size < w5.heap.size := by have := hb5.size; simp only [World.size_alloc] at this; omega
  clear k0 k1 k2 k3 k4 k5 k6 k7 p0 p1 hz hbw y0 y1
  clear hb5
  obtain ⟨⟨k0, k1, k2, k3, k4, k5, k6, k7⟩, ⟨p0, p1⟩, hz, hbw⟩ := E5
  have y0 : w.heap.size < w5.heap.size := by omega
  have y1 : w.heap.size + 1 < w5.heap.size := by omega
  go_wp2_with fail
  refine (C6.out _).mono ?_; rintro e w6 ⟨rfl, hb6⟩
  have E6 := ((⟨⟨k0, k1, k2, k3, k4, k5, k6, k7⟩, ⟨p0, p1⟩, hz, hbw⟩ : Env w w5 nm x y z rose gates step width lo hi).keep (below_alloc w5 _) (by omega)).keep hb6 (by simp only [World.size_alloc]; omega)
  have L5 := (PairAt.new w5 (.int .i64 u5) (.int .i64 v5) 43).keep hb6 (by simp)
  have L1 := (L1.keep (below_alloc w5 _) (by omega)).keep hb6 (by simp only [World.size_alloc]; omega)
  have L2 := (L2.keep (below_alloc w5 _) (by omega)).keep hb6 (by simp only [World.size_alloc]; omega)
  have L3 := (L3.keep (below_alloc w5 _) (by omega)).keep hb6 (by simp only [World.size_alloc]; omega)
  have L4 := (L4.keep (below_alloc w5 _) (by omega)).keep hb6 (by simp only [World.size_alloc]; omega)
  have zz5 : w5.heap.size < w6.heap.size := by have := hb6.size; simp only [World.size_alloc] at this; omega
  clear k0 k1 k2 k3 k4 k5 k6 k7 p0 p1 hz hbw y0 y1
  clear hb6
  obtain ⟨⟨k0, k1, k2, k3, k4, k5, k6, k7⟩, ⟨p0, p1⟩, hz, hbw⟩ := E6
  have y0 : w.heap.size < w6.heap.size := by omega
  have y1 : w.heap.size + 1 < w6.heap.size := by omega
  obtain ⟨l10, l11⟩ := L1
  have yy1 : w1.heap.size < w6.heap.size := by omega
  obtain ⟨l20, l21⟩ := L2
  have yy2 : w2.heap.size < w6.heap.size := by omega
  obtain ⟨l30, l31⟩ := L3
  have yy3 : w3.heap.size < w6.heap.size := by omega
  obtain ⟨l40, l41⟩ := L4
  have yy4 : w4.heap.size < w6.heap.size := by omega
  obtain ⟨l50, l51⟩ := L5
  go_wp2_with fail
  refine (works_any _).mono ?_; rintro e w7 ⟨rfl, hb7⟩
  go_wp2
  go_ret
  exact ⟨rfl, Below.trans (Below.alloc hbw (by omega) _) (hb7.mono (by simp only [World.size_alloc]; omega))⟩

theorem BeamRanges_walk (nm : ByteArray) (x y z rose gates step width : Int) (t lo hi gate : Int) (w : World) (hs : nm.size ≤ maxLen) :
    Calls Try.prog 5 #[.agg #[.string nm, .int .i64 x, .int .i64 y, .int .i64 z, .int .i64 rose, .int .i64 gates, .int .i64 step, .int .i64 width], .int .i64 t, .agg #[.int .i64 lo, .int .i64 hi], .int .i64 gate] w fun e w' => e = .returned (.bool true) ∧ Below w.heap.size w w' := by
  by_cases hl : nm.size ≤ 40
  · exact BeamRanges_short nm x y z rose gates step width t lo hi gate w hs hl
  · exact BeamRanges_long nm x y z rose gates step width t lo hi gate w hs (by omega)

end Go.Proofs.Ythnjfnapjpdchaa
