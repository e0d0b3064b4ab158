/-
  The walk over BeamPlaces.
-/
import Derived.Test.YthnjfnapjpdchaaW8
import Derived.Test.YthnjfnapjpdchaaX2
import Derived.Test.YthnjfnapjpdchaaY0
namespace Go.Proofs.Ythnjfnapjpdchaa
open Go.RowKit
set_option linter.unusedVariables false

/-- a site and a grid in boxes -/
structure SG (w w' : World) (nm : ByteArray) (x y z rose gates step width gx gy size wide high : Int) : Prop where
  s : SiteAt w' w.heap.size nm x y z rose gates step width
  g : GridAt w' (w.heap.size + 1) gx gy size wide high
  z : w.heap.size + 2 ≤ w'.heap.size
  b : Below w.heap.size w w'
theorem SG.new (w : World) (nm : ByteArray) (x y z rose gates step width gx gy size wide high : Int) : SG w ((w.alloc (.cells #[.string nm, .int .i64 x, .int .i64 y, .int .i64 z, .int .i64 rose, .int .i64 gates, .int .i64 step, .int .i64 width] 23)).alloc (.cells #[.int .i64 gx, .int .i64 gy, .int .i64 size, .int .i64 wide, .int .i64 high] 25)) nm x y z rose gates step width gx gy size wide high := by
  have e : (w.alloc (.cells #[.string nm, .int .i64 x, .int .i64 y, .int .i64 z, .int .i64 rose, .int .i64 gates, .int .i64 step, .int .i64 width] 23)).heap.size = w.heap.size + 1 := World.size_alloc _ _
  refine ⟨(SiteAt.new w nm x y z rose gates step width).keep (below_alloc _ _) (by omega), ?_, by simp, Below.trans (below_alloc _ _) ((below_alloc _ _).mono (by omega))⟩
  rw [← e]; exact GridAt.new _ _ _ _ _ _
theorem SG.keep {w W w1 : World} {B : Nat} {nm : ByteArray} {x y z rose gates step width gx gy size wide high : Int} (t : SG w W nm x y z rose gates step width gx gy size wide high) (hb : Below B W w1) (h : w.heap.size + 2 ≤ B) : SG w w1 nm x y z rose gates step width gx gy size wide high :=
  ⟨t.s.keep hb (by omega), t.g.keep hb (by omega), Nat.le_trans t.z hb.size, t.b.trans (hb.mono (by omega))⟩

set_option maxRecDepth 100000 in
set_option maxHeartbeats 1600000 in
theorem BeamPlaces_few (nm : ByteArray) (x y z rose gates step width gx gy size wide high : Int) (t ray gate ax ay : Int) (w : World) (hs : nm.size ≤ maxLen) (hf : fewB nm.size rose gates wide high = false) :
    Calls Try.prog 6 #[.agg #[.string nm, .int .i64 x, .int .i64 y, .int .i64 z, .int .i64 rose, .int .i64 gates, .int .i64 step, .int .i64 width], .agg #[.int .i64 gx, .int .i64 gy, .int .i64 size, .int .i64 wide, .int .i64 high], .int .i64 t, .int .i64 ray, .int .i64 gate, .int .i64 ax, .int .i64 ay] w fun e w' => e = .returned (.bool true) ∧ Below w.heap.size w w' := by
  have HS := Lib.hid hs
  have HF := Lib.hid hf
  clear hf hs
  go_enter Try.func6, Try.ntmps6
  go_wp2_with fail
  refine (few_any _ _ _ _ _ _ _ _ _ _ _ _ _ _ HS.out).mono ?_; rintro e w1 ⟨rfl, hb1⟩
  have O1 := (SG.new w nm x y z rose gates step width gx gy size wide high).keep hb1 (by simp)
  clear hb1
  obtain ⟨⟨k0, k1, k2, k3, k4, k5, k6, k7⟩, ⟨g0, g1, g2, g3, g4⟩, hz, hbw⟩ := O1
  have y0 : w.heap.size < w1.heap.size := by omega
  have y1 : w.heap.size + 1 < w1.heap.size := by omega
  rw [HF.out]
  go_wp2_with fail
  refine (works_any _).mono ?_; rintro e w9 ⟨rfl, hb9⟩
  go_wp2
  go_ret
  exact ⟨rfl, hbw.trans (hb9.mono (by omega))⟩

set_option maxRecDepth 100000 in
set_option maxHeartbeats 6400000 in
theorem BeamPlaces_good (nm : ByteArray) (x y z rose gates step width gx gy size wide high : Int) (t ray gate ax ay : Int) (w : World) (hs : nm.size ≤ maxLen) (hf : fewB nm.size rose gates wide high = true) (a b c p q r m h : Int)
    (f36 : ∀ w : World, Calls Try.prog 36 #[.agg #[.string nm, .int .i64 x, .int .i64 y, .int .i64 z, .int .i64 rose, .int .i64 gates, .int .i64 step, .int .i64 width], .int .i64 t, .int .i64 ray, .int .i64 gate] w fun e w' => e = .returned (.tuple #[.int .i64 a, .int .i64 b, .int .i64 c]) ∧ Below w.heap.size w w')
    (f37 : ∀ w : World, Calls Try.prog 37 #[.agg #[.string nm, .int .i64 x, .int .i64 y, .int .i64 z, .int .i64 rose, .int .i64 gates, .int .i64 step, .int .i64 width], .int .i64 t, .int .i64 ray, .int .i64 gate] w fun e w' => e = .returned (.tuple #[.int .i64 a, .int .i64 b, .int .i64 c]) ∧ Below w.heap.size w w')
    (f38 : ∀ w : World, Calls Try.prog 38 #[.agg #[.string nm, .int .i64 x, .int .i64 y, .int .i64 z, .int .i64 rose, .int .i64 gates, .int .i64 step, .int .i64 width], .int .i64 t, .int .i64 ax, .int .i64 ay] w fun e w' => e = .returned (.tuple #[.int .i64 p, .int .i64 q, .int .i64 r]) ∧ Below w.heap.size w w')
    (f39 : ∀ w : World, Calls Try.prog 39 #[.agg #[.string nm, .int .i64 x, .int .i64 y, .int .i64 z, .int .i64 rose, .int .i64 gates, .int .i64 step, .int .i64 width], .int .i64 t, .int .i64 ax, .int .i64 ay] w fun e w' => e = .returned (.tuple #[.int .i64 p, .int .i64 q, .int .i64 r]) ∧ Below w.heap.size w w')
    (f40 : ∀ w : World, Calls Try.prog 40 #[.agg #[.int .i64 gx, .int .i64 gy, .int .i64 size, .int .i64 wide, .int .i64 high], .int .i64 ax, .int .i64 ay] w fun e w' => e = .returned (.tuple #[.int .i64 m, .int .i64 h]) ∧ Below w.heap.size w w')
    (f41 : ∀ w : World, Calls Try.prog 41 #[.agg #[.int .i64 gx, .int .i64 gy, .int .i64 size, .int .i64 wide, .int .i64 high], .int .i64 ax, .int .i64 ay] w fun e w' => e = .returned (.tuple #[.int .i64 m, .int .i64 h]) ∧ Below w.heap.size w w') :
    Calls Try.prog 6 #[.agg #[.string nm, .int .i64 x, .int .i64 y, .int .i64 z, .int .i64 rose, .int .i64 gates, .int .i64 step, .int .i64 width], .agg #[.int .i64 gx, .int .i64 gy, .int .i64 size, .int .i64 wide, .int .i64 high], .int .i64 t, .int .i64 ray, .int .i64 gate, .int .i64 ax, .int .i64 ay] w fun e w' => e = .returned (.bool true) ∧ Below w.heap.size w w' := by
  have HS := Lib.hid hs
  have HF := Lib.hid hf
  have F36 := Lib.hid f36
  have F37 := Lib.hid f37
  have F38 := Lib.hid f38
  have F39 := Lib.hid f39
  have F40 := Lib.hid f40
  have F41 := Lib.hid f41
  clear hf hs f36 f37 f38 f39 f40 f41
  go_enter Try.func6, Try.ntmps6
  go_wp2_with fail
  refine (few_any _ _ _ _ _ _ _ _ _ _ _ _ _ _ HS.out).mono ?_; rintro e w1 ⟨rfl, hb1⟩
  have O1 := (SG.new w nm x y z rose gates step width gx gy size wide high).keep hb1 (by simp)
  clear hb1
  obtain ⟨⟨k0, k1, k2, k3, k4, k5, k6, k7⟩, ⟨g0, g1, g2, g3, g4⟩, hz, hbw⟩ := O1
  have y0 : w.heap.size < w1.heap.size := by omega
  have y1 : w.heap.size + 1 < w1.heap.size := by omega
  rw [HF.out]
  go_wp2_with fail
  refine (F36.out _).mono ?_; rintro e w2 ⟨rfl, hb2⟩
  have O2 := (⟨⟨k0, k1, k2, k3, k4, k5, k6, k7⟩, ⟨g0, g1, g2, g3, g4⟩, hz, hbw⟩ : SG w w1 nm x y z rose gates step width gx gy size wide high).keep hb2 hz
  clear k0 k1 k2 k3 k4 k5 k6 k7 g0 g1 g2 g3 g4 hz hbw y0 y1 hb2
  obtain ⟨⟨k0, k1, k2, k3, k4, k5, k6, k7⟩, ⟨g0, g1, g2, g3, g4⟩, hz, hbw⟩ := O2
  have y0 : w.heap.size < w2.heap.size := by omega
  have y1 : w.heap.size + 1 < w2.heap.size := by omega
  go_wp2_with fail
  refine (F37.out _).mono ?_; rintro e w3 ⟨rfl, hb3⟩
  have O3 := (⟨⟨k0, k1, k2, k3, k4, k5, k6, k7⟩, ⟨g0, g1, g2, g3, g4⟩, hz, hbw⟩ : SG w w2 nm x y z rose gates step width gx gy size wide high).keep hb3 hz
  clear k0 k1 k2 k3 k4 k5 k6 k7 g0 g1 g2 g3 g4 hz hbw y0 y1 hb3
  obtain ⟨⟨k0, k1, k2, k3, k4, k5, k6, k7⟩, ⟨g0, g1, g2, g3, g4⟩, hz, hbw⟩ := O3
  have y0 : w.heap.size < w3.heap.size := by omega
  have y1 : w.heap.size + 1 < w3.heap.size := by omega
  go_wp2_with fail
  refine (F38.out _).mono ?_; rintro e w4 ⟨rfl, hb4⟩
  have O4 := (⟨⟨k0, k1, k2, k3, k4, k5, k6, k7⟩, ⟨g0, g1, g2, g3, g4⟩, hz, hbw⟩ : SG w w3 nm x y z rose gates step width gx gy size wide high).keep hb4 hz
  clear k0 k1 k2 k3 k4 k5 k6 k7 g0 g1 g2 g3 g4 hz hbw y0 y1 hb4
  obtain ⟨⟨k0, k1, k2, k3, k4, k5, k6, k7⟩, ⟨g0, g1, g2, g3, g4⟩, hz, hbw⟩ := O4
  have y0 : w.heap.size < w4.heap.size := by omega
  have y1 : w.heap.size + 1 < w4.heap.size := by omega
  go_wp2_with fail
  refine (F39.out _).mono ?_; rintro e w5 ⟨rfl, hb5⟩
  have O5 := (⟨⟨k0, k1, k2, k3, k4, k5, k6, k7⟩, ⟨g0, g1, g2, g3, g4⟩, hz, hbw⟩ : SG w w4 nm x y z rose gates step width gx gy size wide high).keep hb5 hz
  clear k0 k1 k2 k3 k4 k5 k6 k7 g0 g1 g2 g3 g4 hz hbw y0 y1 hb5
  obtain ⟨⟨k0, k1, k2, k3, k4, k5, k6, k7⟩, ⟨g0, g1, g2, g3, g4⟩, hz, hbw⟩ := O5
  have y0 : w.heap.size < w5.heap.size := by omega
  have y1 : w.heap.size + 1 < w5.heap.size := by omega
  go_wp2_with fail
  refine (F40.out _).mono ?_; rintro e w6 ⟨rfl, hb6⟩
  have O6 := (⟨⟨k0, k1, k2, k3, k4, k5, k6, k7⟩, ⟨g0, g1, g2, g3, g4⟩, hz, hbw⟩ : SG w w5 nm x y z rose gates step width gx gy size wide high).keep hb6 hz
  clear k0 k1 k2 k3 k4 k5 k6 k7 g0 g1 g2 g3 g4 hz hbw y0 y1 hb6
  obtain ⟨⟨k0, k1, k2, k3, k4, k5, k6, k7⟩, ⟨g0, g1, g2, g3, g4⟩, hz, hbw⟩ := O6
  have y0 : w.heap.size < w6.heap.size := by omega
  have y1 : w.heap.size + 1 < w6.heap.size := by omega
  go_wp2_with fail
  refine (F41.out _).mono ?_; rintro e w7 ⟨rfl, hb7⟩
  have O7 := (⟨⟨k0, k1, k2, k3, k4, k5, k6, k7⟩, ⟨g0, g1, g2, g3, g4⟩, hz, hbw⟩ : SG w w6 nm x y z rose gates step width gx gy size wide high).keep hb7 hz
  clear k0 k1 k2 k3 k4 k5 k6 k7 g0 g1 g2 g3 g4 hz hbw y0 y1 hb7
  obtain ⟨⟨k0, k1, k2, k3, k4, k5, k6, k7⟩, ⟨g0, g1, g2, g3, g4⟩, hz, hbw⟩ := O7
  have y0 : w.heap.size < w7.heap.size := by omega
  have y1 : w.heap.size + 1 < w7.heap.size := by omega
  go_wp2_with fail
  refine (places_any _).mono ?_; rintro e w9 ⟨rfl, hb9⟩
  go_wp2
  go_ret
  exact ⟨rfl, hbw.trans (hb9.mono (by omega))⟩

end Go.Proofs.Ythnjfnapjpdchaa
