/-
  The walk over BeamPlaces.
-/
import Derived.Test.Ythnjfnapjpdchaamg10
import Derived.Test.Ythnjfnapjpdchaamg4
import Derived.Test.Ythnjfnapjpdchaamg11
namespace Go.Proofs.Ythnjfnapjpdchaa
open Go.RowKit
set_option linter.unusedVariables false

/-- a site and a grid in boxes -/
structure SG (w w' : World) (nm : ByteArray) (x y z rose gates step width gx gy size wide high : Int) : Prop where
  s : SiteAt w' w.heap.size nm x y z rose gates step width
  g : GridAt w' (w.heap.size + 1) gx gy size wide high
  z : w.heap.size + 2 ≤ w'.heap.size
  b : Below w.heap.size w w'
theorem SG.new (w : World) (nm : ByteArray) (x y z rose gates step width gx gy size wide high : Int) : SG w ((w.alloc (.cells #[.string nm, .int .i64 x, .int .i64 y, .int .i64 z, .int .i64 rose, .int .i64 gates, .int .i64 step, .int .i64 width] 23)).alloc (.cells #[.int .i64 gx, .int .i64 gy, .int .i64 size, .int .i64 wide, .int .i64 high] 25)) nm x y z rose gates step width gx gy size wide high := by
  have e : (w.alloc (.cells #[.string nm, .int .i64 x, .int .i64 y, .int .i64 z, .int .i64 rose, .int .i64 gates, .int .i64 step, .int .i64 width] 23)).heap.size = w.heap.size + 1 := World.size_alloc _ _
  refine ⟨(SiteAt.new w nm x y z rose gates step width).keep (below_alloc _ _) (by omega), ?_, by simp, Below.trans (below_alloc _ _) ((below_alloc _ _).mono (by omega))⟩
  rw [← e]; exact GridAt.new _ _ _ _ _ _
theorem SG.keep {w W w1 : World} {B : Nat} {nm : ByteArray} {x y z rose gates step width gx gy size wide high : Int} (t : SG w W nm x y z rose gates step width gx gy size wide high) (hb : Below B W w1) (h : w.heap.size + 2 ≤ B) : SG w w1 nm x y z rose gates step width gx gy size wide high :=
  ⟨t.s.keep hb (by omega), t.g.keep hb (by omega), Nat.le_trans t.z hb.size, t.b.trans (hb.mono (by omega))⟩

set_option maxRecDepth 100000 in
set_option maxHeartbeats 1600000 in
theorem BeamPlaces_few (nm : ByteArray) (x y z rose gates step width gx gy size wide high : Int) (t ray gate ax ay : Int) (w : World) (hs : nm.size ≤ maxLen) (hf : fewB nm.size rose gates wide high = false) :
    Calls Try.prog 6 #[.agg #[.string nm, .int .i64 x, .int .i64 y, .int .i64 z, .int .i64 rose, .int .i64 gates, .int .i64 step, .int .i64 width], .agg #[.int .i64 gx, .int .i64 gy, .int .i64 size, .int .i64 wide, .int .i64 high], .int .i64 t, .int .i64 ray, .int .i64 gate, .int .i64 ax, .int .i64 ay] w fun e w' => e = .returned (.bool true) ∧ Below w.heap.size w w' := by
  have HS := Lib.hid hs
  have HF := Lib.hid hf
  clear hf hs
  go_enter Try.func6, Try.ntmps6
  go_wp2_with fail
  refine (few_any _ _ _ _ _ _ _ _ _ _ _ _ _ _ HS.out).mono ?_; rintro e w1 ⟨rfl, hb1⟩
  have O1 := (SG.new w nm x y z rose gates step width gx gy size wide high).keep hb1 (by simp)
  clear hb1
  obtain ⟨⟨k0, k1, k2, k3, k4, k5, k6, k7⟩, ⟨g0, g1, g2, g3, g4⟩, hz, hbw⟩ := O1
  have y0 : w.heap.size < w1.heap.size := by omega
  have y1 : w.heap.size + 1 < w1.heap.size := by omega
  rw [HF.out]
  go_wp2_with fail
  refine (works_any _).mono ?_; rintro e w9 ⟨rfl, hb9⟩
  go_wp2
  go_ret
  exact ⟨rfl, hbw.trans (hb9.mono (by omega))⟩

set_option maxRecDepth 100000 in
set_option maxHeartbeats 6400000 in
theorem BeamPlaces_good (nm : ByteArray) (x y z rose gates step width gx gy size wide high : Int) (t ray gate ax ay : Int) (w : World) (hs : nm.size ≤ maxLen) (hf : fewB nm.size rose gates wide high = true) (a b c p q r m h : Int)
    (f36 : ∀ w : World, Calls Try.prog 36 #[.agg #[.string nm, .int .i64 x, .int .i64 y, .int .i64 z, .int .i64 rose, .int .i64 gates, .int .i64 step, .int .i64 width], .int .i64 t, .int .i64 ray, .int .i64 gate] w fun e w' => e = .returned (.tuple #[.int .i64 a, .int .i64 b, .int .i64 c]) ∧ Below w.heap.size w w')
    (f37 : ∀ w : World, Calls Try.prog 37 #[.agg #[.string nm, .int .i64 x, .int .i64 y, .int .i64 z, .int .i64 rose, .int .i64 gates, .int .i64 step, .int .i64 width], .int .i64 t, .int .i64 ray, .int .i64 gate] w fun e w' => e = .returned (.tuple #[.int .i64 a, .int .i64 b, .int .i64 c]) ∧ Below w.heap.size w w')
    (f38 : ∀ w : World, Calls Try.prog 38 #[.agg #[.string nm, .int .i64 x, .int .i64 y, .int .i64 z, .int .i64 rose, .int .i64 gates, .int .i64 step, .int .i64 width], .int .i64 t, .int .i64 ax, .int .i64 ay] w fun e w' => e = .returned (.tuple #[.int .i64 p, .int .i64 q, .int .i64 r]) ∧ Below w.heap.size w w')
    (f39 : ∀ w : World, Calls Try.prog 39 #[.agg #[.string nm, .int .i64 x, .int .i64 y, .int .i64 z, .int .i64 rose, .int .i64 gates, .int .i64 step, .int .i64 width], .int .i64 t, .int .i64 ax, .int .i64 ay] w fun e w' => e = .returned (.tuple #[.int .i64 p, .int .i64 q, .int .i64 r]) ∧ Below w.heap.size w w')
    (f40 : ∀ w : World, Calls Try.prog 40 #[.agg #[.int .i64 gx, .int .i64 gy, .int .i64 size, .int .i64 wide, .int .i64 high], .int .i64 ax, .int .i64 ay] w fun e w' => e = .returned (.tuple #[.int .i64 m, .int .i64 h]) ∧ Below w.heap.size w w')
    (f41 : ∀ w : World, Calls Try.prog 41 #[.agg #[.int .i64 gx, .int .i64 gy, .int .i64 size, .int .i64 wide, .int .i64 high], .int .i64 ax, .int .i64 ay] w fun e w' => e = .returned (.tuple #[.int .i64 m, .int .i64 h]) ∧ Below w.heap.size w w') :
    Calls Try.prog 6 #[.agg #[.string nm, .int .i64 x, .int .i64 y, .int .i64 z, .int .i64 rose, .int .i64 gates, .int .i64 step, .int .i64 width], .agg #[.int .i64 gx, .int .i64 gy, .int .i64 size, .int .i64 wide, .int .i64 high], .int .i64 t, .int .i64 ray, .int .i64 gate, .int .i64 ax, .int .i64 ay] w fun e w' => e = .returned (.bool true) ∧ Below w.heap.size w w' := by
  have HS := Lib.hid hs
  have HF := Lib.hid hf
  have F36 := Lib.hid f36
  have F37 := Lib.hid f37
  have F38 := Lib.hid f38
  have F39 := Lib.hid f39
  have F40 := Lib.hid f40
  have F41 := Lib.hid f41
  clear hf hs f36 f37 f38 f39 f40 f41
  go_enter Try.func6, Try.ntmps6
  go_wp2_with fail
  refine (few_any _ _ _ _ _ _ _ _ _ _ _ _ _ _ HS.out).mono ?_; rintro e w1 ⟨rfl, hb1⟩
  have O1 := (SG.new w nm x y z rose gates step width gx gy size wide high).keep hb1 (by simp)
  clear hb1
  obtain ⟨⟨k0, k1, k2, k3, k4, k5, k6, k7⟩, ⟨g0, g1, g2, g3, g4⟩, hz, hbw⟩ := O1
  have y0 : w.heap.size < w1.heap.size := by omega
  have y1 : w.heap.size + 1 < w1.heap.size := by omega
  rw [HF.out]
  go_wp2_with fail
  refine (F36.out _).mono ?_; rintro e w2 ⟨rfl, hb2⟩
  have O2 := (⟨⟨k0, k1, k2, k3, k4, k5, k6, k7⟩, ⟨g0, g1, g2, g3, g4⟩, hz, hbw⟩ : SG w w1 nm x y z rose gates step width gx gy size wide high).keep hb2 hz
  clear k0 k1 k2 k3 k4 k5 k6 k7 g0 g1 g2 g3 g4 hz hbw y0 y1 hb2
  obtain ⟨⟨k0, k1, k2, k3, k4, k5, k6, k7⟩, ⟨g0, g1, g2, g3, g4⟩, hz, hbw⟩ := O2
  have y0 : w.heap.size < w2.heap.size := by omega
  have y1 : w.heap.size + 1 < w2.heap.size := by omega
  go_wp2_with fail
  refine (F37.out _).mono ?_; rintro e w3 ⟨rfl, hb3⟩
  have O3 := (⟨⟨k0, k1, k2, k3, k4, k5, k6, k7⟩, ⟨g0, g1, g2, g3, g4⟩, hz, hbw⟩ : SG w w2 nm x y z rose gates step width gx gy size wide high).keep hb3 hz
  clear k0 k1 k2 k3 k4 k5 k6 k7 g0 g1 g2 g3 g4 hz hbw y0 y1 hb3
  obtain ⟨⟨k0, k1, k2, k3, k4, k5, k6, k7⟩, ⟨g0, g1, g2, g3, g4⟩, hz, hbw⟩ := O3
  have y0 : w.heap.size < w3.heap.size := by omega
  have y1 : w.heap.size + 1 < w3.heap.size := by omega
  go_wp2_with fail
  refine (F38.out _).mono ?_; rintro e w4 ⟨rfl, hb4⟩
  have O4 := (⟨⟨k0, k1, k2, k3, k4, k5, k6, k7⟩, ⟨g0, g1, g2, g3, g4⟩, hz, hbw⟩ : SG w w3 nm x y z rose gates step width gx gy size wide high).keep hb4 hz
  clear k0 k1 k2 k3 k4 k5 k6 k7 g0 g1 g2 g3 g4 hz hbw y0 y1 hb4
  obtain ⟨⟨k0, k1, k2, k3, k4, k5, k6, k7⟩, ⟨g0, g1, g2, g3, g4⟩, hz, hbw⟩ := O4
  have y0 : w.heap.size < w4.heap.size := by omega
  have y1 : w.heap.size + 1 < w4.heap.size := by omega
  go_wp2_with fail
  refine (F39.out _).mono ?_; rintro e w5 ⟨rfl, hb5⟩
  have O5 := (⟨⟨k0, k1, k2, k3, k4, k5, k6, k7⟩, ⟨g0, g1, g2, g3, g4⟩, hz, hbw⟩ : SG w w4 nm x y z rose gates step width gx gy size wide high).keep hb5 hz
  clear k0 k1 k2 k3 k4 k5 k6 k7 g0 g1 g2 g3 g4 hz hbw y0 y1 hb5
  obtain ⟨⟨k0, k1, k2, k3, k4, k5, k6, k7⟩, ⟨g0, g1, g2, g3, g4⟩, hz, hbw⟩ := O5
  have y0 : w.heap.size < w5.heap.size := by omega
  have y1 : w.heap.size + 1 < w5.heap.size := by omega
  go_wp2_with fail
  refine (F40.out _).mono ?_; rintro e w6 ⟨rfl, hb6⟩
  have O6 := (⟨⟨k0, k1, k2, k3, k4, k5, k6, k7⟩, ⟨g0, g1, g2, g3, g4⟩, hz, hbw⟩ : SG w w5 nm x y z rose gates step width gx gy size wide high).keep hb6 hz
  clear k0 k1 k2 k3 k4 k5 k6 k7 g0 g1 g2 g3 g4 hz hbw y0 y1 hb6
  obtain ⟨⟨k0, k1, k2, k3, k4, k5, k6, k7⟩, ⟨g0, g1, g2, g3, g4⟩, hz, hbw⟩ := O6
  have y0 : w.heap.size < w6.heap.size := by omega
  have y1 : w.heap.size + 1 < w6.heap.size := by omega
  go_wp2_with fail
  refine (F41.out _).mono ?_; rintro e w7 ⟨rfl, hb7⟩
  have O7 := (⟨⟨k0, k1, k2, k3, k4, k5, k6, k7⟩, ⟨g0, g1, g2, g3, g4⟩, hz, hbw⟩ : SG w w6 nm x y z rose gates step width gx gy size wide high).keep hb7 hz
  clear k0 k1 k2 k3 k4 k5 k6 k7 g0 g1 g2 g3 g4 hz hbw y0 y1 hb7
  obtain ⟨⟨k0, k1, k2, k3, k4, k5, k6, k7⟩, ⟨g0, g1, g2, g3, g4⟩, hz, hbw⟩ := O7
  have y0 : w.heap.size < w7.heap.size := by omega
  have y1 : w.heap.size + 1 < w7.heap.size := by omega
  go_wp2_with fail
  refine (places_any _).mono ?_; rintro e w9 ⟨rfl, hb9⟩
  go_wp2
  go_ret
  exact ⟨rfl, hbw.trans (hb9.mono (by omega))⟩

end Go.Proofs.Ythnjfnapjpdchaa

namespace Go.Proofs.Ythnjfnapjpdchaa
open Go.RowKit
set_option linter.unusedVariables false

set_option maxHeartbeats 800000 in
theorem Clockwise_any (a b x y : Int) (w : World) (h1 : -1000000000000000 ≤ b * x) (h2 : b * x ≤ 1000000000000000) (h3 : -1000000000000000 ≤ a * y) (h4 : a * y ≤ 1000000000000000) :
    Calls Try.prog 99 #[.int .i64 a, .int .i64 b, .int .i64 x, .int .i64 y] w fun e w' => e = .returned (.int .i64 (b * x - a * y)) ∧ w = w' := by
  have i1 : IntKind.i64.wrap (b * x) = b * x := IntWalk.i64_in _ (by omega)
  have i2 : IntKind.i64.wrap (a * y) = a * y := IntWalk.i64_in _ (by omega)
  have i3 : IntKind.i64.wrap (b * x - a * y) = b * x - a * y := IntWalk.i64_in _ (by omega)
  go_enter Try.func99, Try.ntmps99
  go_wp2
  go_ret
  exact ⟨rfl, rfl⟩

set_option maxHeartbeats 3200000 in
theorem refSector_yes (n a dx dy : Int) (w : World) (h1 : 1 ≤ n) (h2 : n ≤ 90) (a1 : 0 ≤ a) (a2 : a < 4 * n) (b1 : -6000000 ≤ dx) (b2 : dx ≤ 6000000) (b3 : -6000000 ≤ dy) (b4 : dy ≤ 6000000) (hp : SecP n a dx dy) :
    Calls Try.prog 81 #[.int .i64 n, .int .i64 a, .int .i64 dx, .int .i64 dy] w fun e w' => e = .returned (.bool true) ∧ w = w' := by
  have e0 : 0 ≤ (a + 1) % (4 * n) := Int.emod_nonneg _ (by omega)
  have e1 : (a + 1) % (4 * n) < 4 * n := Int.emod_lt_of_pos _ (by omega)
  obtain ⟨⟨d1, d2⟩, ⟨d3, d4⟩, _⟩ := dir_bd h1 (by omega) a1 a2
  obtain ⟨⟨d5, d6⟩, ⟨d7, d8⟩, _⟩ := dir_bd h1 (by omega) e0 e1
  have m1 := M.mul_abs (a := dirY n a) (b := dx) (A := 64800) (B := 6000000) d3 d4 b1 b2
  have m2 := M.mul_abs (a := dirX n a) (b := dy) (A := 64800) (B := 6000000) d1 d2 b3 b4
  have m3 := M.mul_abs (a := dy) (b := dirX n ((a + 1) % (4 * n))) (A := 6000000) (B := 64800) b3 b4 d5 d6
  have m4 := M.mul_abs (a := dx) (b := dirY n ((a + 1) % (4 * n))) (A := 6000000) (B := 64800) b1 b2 d7 d8
  obtain ⟨s1, s2⟩ := hp
  have s3 : decide (0 ≤ dirY n a * dx - dirX n a * dy) = true := by rw [decide_eq_true_iff]; exact s1
  have s4 : decide (0 < dy * dirX n ((a + 1) % (4 * n)) - dx * dirY n ((a + 1) % (4 * n))) = true := by rw [decide_eq_true_iff]; exact s2
  have s5 : decide (dx * dirY n ((a + 1) % (4 * n)) < dy * dirX n ((a + 1) % (4 * n))) = true := by rw [decide_eq_true_iff]; omega
  go_enter Try.func81, Try.ntmps81
  go_wp2_with fail
  refine (refDirection_ok n a _ h1 (by omega) a1 a2).mono ?_; rintro e w' ⟨rfl, rfl⟩
  go_wp2_with fail
  refine (refDirection_ok n ((a + 1) % (4 * n)) _ h1 (by omega) e0 e1).mono ?_; rintro e w' ⟨rfl, rfl⟩
  go_wp2_with fail
  refine (Clockwise_any _ _ _ _ _ (by omega) (by omega) (by omega) (by omega)).mono ?_; rintro e w' ⟨rfl, rfl⟩
  go_wp2_with fail
  refine (Clockwise_any _ _ _ _ _ (by omega) (by omega) (by omega) (by omega)).mono ?_; rintro e w' ⟨rfl, rfl⟩
  go_wp2
  go_ret
  exact ⟨rfl, rfl⟩

set_option maxHeartbeats 3200000 in
theorem refSector_no (n a dx dy : Int) (w : World) (h1 : 1 ≤ n) (h2 : n ≤ 90) (a1 : 0 ≤ a) (a2 : a < 4 * n) (b1 : -6000000 ≤ dx) (b2 : dx ≤ 6000000) (b3 : -6000000 ≤ dy) (b4 : dy ≤ 6000000) (hp : ¬ SecP n a dx dy) :
    Calls Try.prog 81 #[.int .i64 n, .int .i64 a, .int .i64 dx, .int .i64 dy] w fun e w' => e = .returned (.bool false) ∧ w = w' := by
  have e0 : 0 ≤ (a + 1) % (4 * n) := Int.emod_nonneg _ (by omega)
  have e1 : (a + 1) % (4 * n) < 4 * n := Int.emod_lt_of_pos _ (by omega)
  obtain ⟨⟨d1, d2⟩, ⟨d3, d4⟩, _⟩ := dir_bd h1 (by omega) a1 a2
  obtain ⟨⟨d5, d6⟩, ⟨d7, d8⟩, _⟩ := dir_bd h1 (by omega) e0 e1
  have m1 := M.mul_abs (a := dirY n a) (b := dx) (A := 64800) (B := 6000000) d3 d4 b1 b2
  have m2 := M.mul_abs (a := dirX n a) (b := dy) (A := 64800) (B := 6000000) d1 d2 b3 b4
  have m3 := M.mul_abs (a := dy) (b := dirX n ((a + 1) % (4 * n))) (A := 6000000) (B := 64800) b3 b4 d5 d6
  have m4 := M.mul_abs (a := dx) (b := dirY n ((a + 1) % (4 * n))) (A := 6000000) (B := 64800) b1 b2 d7 d8
  by_cases s1 : 0 ≤ dirY n a * dx - dirX n a * dy
  · have s2 : ¬ 0 < dy * dirX n ((a + 1) % (4 * n)) - dx * dirY n ((a + 1) % (4 * n)) := fun h => hp ⟨s1, h⟩
    have s3 : decide (0 ≤ dirY n a * dx - dirX n a * dy) = true := by rw [decide_eq_true_iff]; exact s1
    have s4 : decide (0 < dy * dirX n ((a + 1) % (4 * n)) - dx * dirY n ((a + 1) % (4 * n))) = false := by rw [decide_eq_false_iff_not]; exact s2
    have s5 : decide (dx * dirY n ((a + 1) % (4 * n)) < dy * dirX n ((a + 1) % (4 * n))) = false := by rw [decide_eq_false_iff_not]; omega
    clear hp
    go_enter Try.func81, Try.ntmps81
    go_wp2_with fail
    refine (refDirection_ok n a _ h1 (by omega) a1 a2).mono ?_; rintro e w' ⟨rfl, rfl⟩
    go_wp2_with fail
    refine (refDirection_ok n ((a + 1) % (4 * n)) _ h1 (by omega) e0 e1).mono ?_; rintro e w' ⟨rfl, rfl⟩
    go_wp2_with fail
    refine (Clockwise_any _ _ _ _ _ (by omega) (by omega) (by omega) (by omega)).mono ?_; rintro e w' ⟨rfl, rfl⟩
    go_wp2_with fail
    refine (Clockwise_any _ _ _ _ _ (by omega) (by omega) (by omega) (by omega)).mono ?_; rintro e w' ⟨rfl, rfl⟩
    go_wp2
    go_ret
    exact ⟨rfl, rfl⟩
  · have s3 : decide (0 ≤ dirY n a * dx - dirX n a * dy) = false := by rw [decide_eq_false_iff_not]; exact s1
    clear hp
    go_enter Try.func81, Try.ntmps81
    go_wp2_with fail
    refine (refDirection_ok n a _ h1 (by omega) a1 a2).mono ?_; rintro e w' ⟨rfl, rfl⟩
    go_wp2_with fail
    refine (refDirection_ok n ((a + 1) % (4 * n)) _ h1 (by omega) e0 e1).mono ?_; rintro e w' ⟨rfl, rfl⟩
    go_wp2_with fail
    refine (Clockwise_any _ _ _ _ _ (by omega) (by omega) (by omega) (by omega)).mono ?_; rintro e w' ⟨rfl, rfl⟩
    go_wp2
    go_ret
    exact ⟨rfl, rfl⟩

set_option maxHeartbeats 1600000 in
theorem refBorder_any (nm : ByteArray) (x y z rose gates step width t : Int) (k : Nat) (w : World) (h1 : 0 ≤ t) (h2 : t ≤ 256) (s1 : 50 ≤ step) (s2 : step ≤ 2000) (hk : k ≤ 200) :
    Calls Try.prog 80 #[.agg #[.string nm, .int .i64 x, .int .i64 y, .int .i64 z, .int .i64 rose, .int .i64 gates, .int .i64 step, .int .i64 width], .int .i64 t, .int .i64 (k : Int)] w fun e w' => e = .returned (.int .i64 (bordI step t k)) ∧ Below w.heap.size w w' := by
  obtain ⟨⟨c1, c2⟩, ⟨c3, c4⟩, c5, c6⟩ := bordI_bd h1 h2 s1 s2 hk
  have tt := M.sq_nonneg t
  have t2 := (M.sq_bd (a := t) (A := 256) (by omega) h2).2
  have i1 : IntKind.i64.wrap ((k : Int) * step) = (k : Int) * step := IntWalk.i64_in _ (by omega)
  have i2 : IntKind.i64.wrap ((k : Int) * step * (262144 - t * t)) = (k : Int) * step * (262144 - t * t) := IntWalk.i64_in _ (by omega)
  go_enter Try.func80, Try.ntmps80
  go_wp2_with fail
  refine (refSlant_ok _ _ (by omega) (by omega)).mono ?_; rintro e w' ⟨rfl, rfl⟩
  go_wp2_with fail
  refine (Down_any _ _ _ (by omega) (by omega) (by omega)).mono ?_; rintro e w' ⟨rfl, rfl⟩
  go_wp2
  go_ret
  exact ⟨rfl, below_alloc _ _⟩

end Go.Proofs.Ythnjfnapjpdchaa

namespace Go.Proofs.Ythnjfnapjpdchaa
open Go.RowKit
set_option linter.unusedVariables false

set_option maxHeartbeats 1600000 in
theorem refFind_err (nm : ByteArray) (x y z rose gates step width : Int) (t ax ay : Int) (w : World) (hs : nm.size ≤ maxLen) (hne : (siteC nm x y z rose gates step width != 0) = true) :
    Calls Try.prog 39 #[.agg #[.string nm, .int .i64 x, .int .i64 y, .int .i64 z, .int .i64 rose, .int .i64 gates, .int .i64 step, .int .i64 width], .int .i64 t, .int .i64 ax, .int .i64 ay] w fun e w' => e = .returned (.tuple #[.int .i64 0, .int .i64 0, .int .i64 (siteC nm x y z rose gates step width)]) ∧ Below w.heap.size w w' := by
  have HS := Lib.hid hs
  clear hs
  go_enter Try.func39, Try.ntmps39
  go_wp2_with fail
  refine (refCheckSite_any _ _ _ _ _ _ _ _ _ HS.out).mono ?_; rintro e w1 ⟨rfl, hb1⟩
  obtain ⟨⟨k0, k1, k2, k3, k4, k5, k6, k7⟩, hz, hbw⟩ := site_keep (T := 23) hb1
  clear hb1
  go_wp2
  go_ret3
  exact ⟨rfl, hbw⟩

set_option maxHeartbeats 1600000 in
theorem refFind_no0 (nm : ByteArray) (x y z rose gates step width : Int) (t ax ay : Int) (w : World) (hs : nm.size ≤ maxLen) (h0 : siteC nm x y z rose gates step width = 0) (c0 : inB t 0 256 = false) :
    Calls Try.prog 39 #[.agg #[.string nm, .int .i64 x, .int .i64 y, .int .i64 z, .int .i64 rose, .int .i64 gates, .int .i64 step, .int .i64 width], .int .i64 t, .int .i64 ax, .int .i64 ay] w fun e w' => e = .returned (.tuple #[.int .i64 0, .int .i64 0, .int .i64 3]) ∧ Below w.heap.size w w' := by
  have HS := Lib.hid hs
  have H0 := Lib.hid h0
  clear hs h0
  go_enter Try.func39, Try.ntmps39
  go_wp2_with fail
  refine (refCheckSite_any _ _ _ _ _ _ _ _ _ HS.out).mono ?_; rintro e w1 ⟨rfl, hb1⟩
  obtain ⟨⟨k0, k1, k2, k3, k4, k5, k6, k7⟩, hz, hbw⟩ := site_keep (T := 23) hb1
  clear hb1
  rw [H0.out]
  go_wp2_with fail
  refine (refIn_any _ _ _ _).mono ?_; rintro e w' ⟨rfl, rfl⟩
  go_wp2
  go_ret3
  exact ⟨rfl, hbw⟩

set_option maxHeartbeats 1600000 in
theorem refFind_no1 (nm : ByteArray) (x y z rose gates step width : Int) (t ax ay : Int) (w : World) (hs : nm.size ≤ maxLen) (h0 : siteC nm x y z rose gates step width = 0) (c0 : inB t 0 256 = true) (c1 : inB ax (-4194304) 4194304 = false) :
    Calls Try.prog 39 #[.agg #[.string nm, .int .i64 x, .int .i64 y, .int .i64 z, .int .i64 rose, .int .i64 gates, .int .i64 step, .int .i64 width], .int .i64 t, .int .i64 ax, .int .i64 ay] w fun e w' => e = .returned (.tuple #[.int .i64 0, .int .i64 0, .int .i64 3]) ∧ Below w.heap.size w w' := by
  have HS := Lib.hid hs
  have H0 := Lib.hid h0
  clear hs h0
  go_enter Try.func39, Try.ntmps39
  go_wp2_with fail
  refine (refCheckSite_any _ _ _ _ _ _ _ _ _ HS.out).mono ?_; rintro e w1 ⟨rfl, hb1⟩
  obtain ⟨⟨k0, k1, k2, k3, k4, k5, k6, k7⟩, hz, hbw⟩ := site_keep (T := 23) hb1
  clear hb1
  rw [H0.out]
  go_wp2_with fail
  refine (refIn_any _ _ _ _).mono ?_; rintro e w' ⟨rfl, rfl⟩
  go_wp2_with fail
  refine (refIn_any _ _ _ _).mono ?_; rintro e w' ⟨rfl, rfl⟩
  go_wp2
  go_ret3
  exact ⟨rfl, hbw⟩

set_option maxHeartbeats 1600000 in
theorem refFind_no2 (nm : ByteArray) (x y z rose gates step width : Int) (t ax ay : Int) (w : World) (hs : nm.size ≤ maxLen) (h0 : siteC nm x y z rose gates step width = 0) (c0 : inB t 0 256 = true) (c1 : inB ax (-4194304) 4194304 = true) (c2 : inB ay (-4194304) 4194304 = false) :
    Calls Try.prog 39 #[.agg #[.string nm, .int .i64 x, .int .i64 y, .int .i64 z, .int .i64 rose, .int .i64 gates, .int .i64 step, .int .i64 width], .int .i64 t, .int .i64 ax, .int .i64 ay] w fun e w' => e = .returned (.tuple #[.int .i64 0, .int .i64 0, .int .i64 3]) ∧ Below w.heap.size w w' := by
  have HS := Lib.hid hs
  have H0 := Lib.hid h0
  clear hs h0
  go_enter Try.func39, Try.ntmps39
  go_wp2_with fail
  refine (refCheckSite_any _ _ _ _ _ _ _ _ _ HS.out).mono ?_; rintro e w1 ⟨rfl, hb1⟩
  obtain ⟨⟨k0, k1, k2, k3, k4, k5, k6, k7⟩, hz, hbw⟩ := site_keep (T := 23) hb1
  clear hb1
  rw [H0.out]
  go_wp2_with fail
  refine (refIn_any _ _ _ _).mono ?_; rintro e w' ⟨rfl, rfl⟩
  go_wp2_with fail
  refine (refIn_any _ _ _ _).mono ?_; rintro e w' ⟨rfl, rfl⟩
  go_wp2_with fail
  refine (refIn_any _ _ _ _).mono ?_; rintro e w' ⟨rfl, rfl⟩
  go_wp2
  go_ret3
  exact ⟨rfl, hbw⟩

set_option maxRecDepth 100000 in
set_option maxHeartbeats 1600000 in
theorem refFind_zero (nm : ByteArray) (x y z rose gates step width : Int) (t ax ay dx dy : Int) (hx : ax - x = dx) (hy : ay - y = dy) (w : World) (hs : nm.size ≤ maxLen) (h0 : siteC nm x y z rose gates step width = 0) (c0 : inB t 0 256 = true) (c1 : inB ax (-4194304) 4194304 = true) (c2 : inB ay (-4194304) 4194304 = true) (z1 : (dx == 0) = true) (z2 : (dy == 0) = true) :
    Calls Try.prog 39 #[.agg #[.string nm, .int .i64 x, .int .i64 y, .int .i64 z, .int .i64 rose, .int .i64 gates, .int .i64 step, .int .i64 width], .int .i64 t, .int .i64 ax, .int .i64 ay] w fun e w' => e = .returned (.tuple #[.int .i64 0, .int .i64 0, .int .i64 0]) ∧ Below w.heap.size w w' := by
  have HS := Lib.hid hs
  have H0 := Lib.hid h0
  have hk := (siteC_zero.1 h0).2
  obtain ⟨b1, b2⟩ := inB_true.1 c1
  obtain ⟨b3, b4⟩ := inB_true.1 c2
  obtain ⟨x1, x2, y1, y2⟩ : (-1048576 ≤ x ∧ x ≤ 1048576 ∧ -1048576 ≤ y ∧ y ≤ 1048576) := ⟨hk.x1, hk.x2, hk.y1, hk.y2⟩
  clear hs h0 hk
  have i1 : IntKind.i64.wrap (ax - x) = dx := by rw [hx]; exact IntWalk.i64_in _ (by omega)
  have i2 : IntKind.i64.wrap (ay - y) = dy := by rw [hy]; exact IntWalk.i64_in _ (by omega)
  go_enter Try.func39, Try.ntmps39
  go_wp2_with fail
  refine (refCheckSite_any _ _ _ _ _ _ _ _ _ HS.out).mono ?_; rintro e w1 ⟨rfl, hb1⟩
  obtain ⟨⟨k0, k1, k2, k3, k4, k5, k6, k7⟩, hz, hbw⟩ := site_keep (T := 23) hb1
  clear hb1
  rw [H0.out]
  go_wp2_with fail
  refine (refIn_any _ _ _ _).mono ?_; rintro e w' ⟨rfl, rfl⟩
  go_wp2_with fail
  refine (refIn_any _ _ _ _).mono ?_; rintro e w' ⟨rfl, rfl⟩
  go_wp2_with fail
  refine (refIn_any _ _ _ _).mono ?_; rintro e w' ⟨rfl, rfl⟩
  go_wp2
  go_quiet (fail)
  try rw [i1, i2]
  clear i1 i2
  go_wp2
  go_ret3
  exact ⟨rfl, below_drewN hbw _⟩

end Go.Proofs.Ythnjfnapjpdchaa

namespace Go.Proofs.Ythnjfnapjpdchaa
open Go.RowKit
set_option linter.unusedVariables false

theorem border_z (nm : ByteArray) (x y z rose gates step width t k : Int) (w : World) (h1 : 0 ≤ t) (h2 : t ≤ 256) (s1 : 50 ≤ step) (s2 : step ≤ 2000) (k1 : 0 ≤ k) (k2 : k ≤ 200) :
    Calls Try.prog 80 #[.agg #[.string nm, .int .i64 x, .int .i64 y, .int .i64 z, .int .i64 rose, .int .i64 gates, .int .i64 step, .int .i64 width], .int .i64 t, .int .i64 k] w fun e w' => e = .returned (.int .i64 (bordI step t k.toNat)) ∧ Below w.heap.size w w' := by
  obtain ⟨K, rfl⟩ := Int.eq_ofNat_of_zero_le k1
  exact refBorder_any nm x y z rose gates step width t K w h1 h2 s1 s2 (by omega)

/-- a site in a box -/
structure Box1 (w w' : World) (nm : ByteArray) (x y z rose gates step width : Int) : Prop where
  s : SiteAt w' w.heap.size nm x y z rose gates step width
  z : w.heap.size + 1 ≤ w'.heap.size
  b : Below w.heap.size w w'
theorem Box1.keep {w W w1 : World} {B : Nat} {nm : ByteArray} {x y z rose gates step width : Int} (t : Box1 w W nm x y z rose gates step width) (hb : Below B W w1) (h : w.heap.size + 1 ≤ B) : Box1 w w1 nm x y z rose gates step width :=
  ⟨t.s.keep hb (by omega), Nat.le_trans t.z hb.size, t.b.trans (hb.mono (by omega))⟩

set_option maxRecDepth 100000 in
set_option maxHeartbeats 12800000 in
theorem refFind_a (nm : ByteArray) (x y z : Int) (n g : Nat) (step width t ax ay dx dy : Int) (hx : ax - x = dx) (hy : ay - y = dy) (r : Nat) (hr : SrchIs (g + 1) (inside (dx * dx + dy * dy) (bordI step t)) r) (r1 : 1 ≤ r) (w : World) (hs : nm.size ≤ maxLen) (h0 : siteC nm x y z n g step width = 0) (hk : SiteOk x y z n g step width) (c0 : inB t 0 256 = true) (c1 : inB ax (-4194304) 4194304 = true) (c2 : inB ay (-4194304) 4194304 = true) (pr : Nat) (hp1 : (pr : Int) < 4 * n) (Res : Value) (hin : r ≤ g → Res = .tuple #[.int .i64 pr, .int .i64 ((r : Int) - 1), .int .i64 0]) (hout : ¬ r ≤ g → Res = .tuple #[.int .i64 0, .int .i64 0, .int .i64 29]) (hu : ∀ d : Int, 0 ≤ d → d < 4 * n → (SecP n d dx dy ↔ d = pr)) (z1 : (dx == 0) = false) :
    Calls Try.prog 39 #[.agg #[.string nm, .int .i64 x, .int .i64 y, .int .i64 z, .int .i64 (n : Nat), .int .i64 (g : Nat), .int .i64 step, .int .i64 width], .int .i64 t, .int .i64 ax, .int .i64 ay] w fun e w' => e = .returned Res ∧ Below w.heap.size w w' := by
  have HS := Lib.hid hs
  have H0 := Lib.hid h0
  obtain ⟨b1, b2⟩ := inB_true.1 c1
  obtain ⟨b3, b4⟩ := inB_true.1 c2
  obtain ⟨ht0, ht⟩ := inB_true.1 c0
  obtain ⟨x1, x2, y1, y2⟩ : (-1048576 ≤ x ∧ x ≤ 1048576 ∧ -1048576 ≤ y ∧ y ≤ 1048576) := ⟨hk.x1, hk.x2, hk.y1, hk.y2⟩
  have q1 := hk.r1
  have q2 := hk.r2
  have g2 := hk.g2
  have s1 := hk.s1
  have s2 := hk.s2
  have HU := Lib.hid hu
  have HIN := Lib.hid hin
  have HOUT := Lib.hid hout
  have GAT := Lib.hid (fun (j : Nat) (hj : j < g) => gate_test (j := j) hr hj)
  have hrg : r ≤ g + 1 := hr.1
  clear hs h0 hk hu hr hin hout
  have i1 : IntKind.i64.wrap (ax - x) = dx := by rw [hx]; exact IntWalk.i64_in _ (by omega)
  have i2 : IntKind.i64.wrap (ay - y) = dy := by rw [hy]; exact IntWalk.i64_in _ (by omega)
  have dx1 : -6000000 ≤ dx := by omega
  have dx2 : dx ≤ 6000000 := by omega
  have dy1 : -6000000 ≤ dy := by omega
  have dy2 : dy ≤ 6000000 := by omega
  have e1 := M.sq_bd (a := dx) (A := 6000000) dx1 dx2
  have e2 := M.sq_bd (a := dy) (A := 6000000) dy1 dy2
  go_enter Try.func39, Try.ntmps39
  go_wp2_with fail
  refine (refCheckSite_any _ _ _ _ _ _ _ _ _ HS.out).mono ?_; rintro e w1 ⟨rfl, hb1⟩
  obtain ⟨⟨k0, k1, k2, k3, k4, k5, k6, k7⟩, hz, hbw⟩ := site_keep (T := 23) hb1
  clear hb1
  rw [H0.out]
  go_wp2_with fail
  refine (refIn_any _ _ _ _).mono ?_; rintro e w' ⟨rfl, rfl⟩
  go_wp2_with fail
  refine (refIn_any _ _ _ _).mono ?_; rintro e w' ⟨rfl, rfl⟩
  go_wp2_with fail
  refine (refIn_any _ _ _ _).mono ?_; rintro e w' ⟨rfl, rfl⟩
  go_wp2
  go_quiet (fail)
  try rw [i1, i2]
  clear i1 i2
  have HO := Lib.hid (show Box1 w w1 nm x y z n g step width from ⟨⟨k0, k1, k2, k3, k4, k5, k6, k7⟩, hz, hbw⟩)
  go_wp2
  clear k0 k1 k2 k3 k4 k5 k6 k7 hz hbw c0 c1 c2 b1 b2 b3 b4 x1 x2 y1 y2 hx hy
  go_loopw [15] (fun i wr => ∃ j : Nat, j ≤ g ∧ j < r ∧ i = .int .i64 j ∧ Box1 w wr nm x y z n g step width) (fun i _ => g - (intOf i).toNat)
  case atStart => exact ⟨0, Nat.zero_le _, by omega, rfl, HO.out.keep (below_drewN (Below.refl _ _) _) HO.out.z⟩
  case round =>
    clear HO
    obtain ⟨j, hj, hjr, rfl, hone⟩ := hrel
    obtain ⟨⟨k0, k1, k2, k3, k4, k5, k6, k7⟩, hz, hbw⟩ := hone
    have y0 : w.heap.size < wr.heap.size := by omega
    by_cases hlt : j < g
    · have REST := Lib.hid (show ((0 ≤ t ∧ t ≤ 256) ∧ (50 ≤ step ∧ step ≤ 2000) ∧ (1 ≤ (n : Int) ∧ (n : Int) ≤ 90) ∧ (-6000000 ≤ dx ∧ dx ≤ 6000000) ∧ (-6000000 ≤ dy ∧ dy ≤ 6000000)) ∧ ((g : Int) ≤ 200 ∧ r ≤ g + 1 ∧ 1 ≤ r ∧ j ≤ g ∧ j < r ∧ (pr : Int) < 4 * n) ∧ ((0 ≤ dx * dx ∧ dx * dx ≤ 6000000 * 6000000) ∧ (0 ≤ dy * dy ∧ dy * dy ≤ 6000000 * 6000000)) from ⟨⟨⟨ht0, ht⟩, ⟨s1, s2⟩, ⟨q1, q2⟩, ⟨dx1, dx2⟩, ⟨dy1, dy2⟩⟩, ⟨g2, hrg, r1, hj, hjr, hp1⟩, e1, e2⟩)
      have p6 : IntKind.i64.wrap ((j : Int) + 1) = (j : Int) + 1 := IntWalk.i64_in _ (by omega)
      have B0 := Lib.hid (fun (k : Int) (h1 : 0 ≤ k) (h2 : k ≤ 200) (w : World) => border_z nm x y z n g step width t k w ht0 ht s1 s2 h1 h2)
      have j1 : (0 : Int) ≤ (j : Int) := by omega
      have j2 : (j : Int) < 200 := by omega
      go_wp2
      clear ht0 ht s1 s2 q1 q2 dx1 dx2 dy1 dy2 g2 hrg r1 hj hjr hp1 e1 e2
      go_region_held3 (fun w' => w'.cell? ⟨w.heap.size, 0, none⟩ = some (.string nm) ∧ w'.cell? ⟨w.heap.size, 1, none⟩ = some (.int .i64 x) ∧ w'.cell? ⟨w.heap.size, 2, none⟩ = some (.int .i64 y) ∧ w'.cell? ⟨w.heap.size, 3, none⟩ = some (.int .i64 z) ∧ w'.cell? ⟨w.heap.size, 4, none⟩ = some (.int .i64 (n : Nat)) ∧ w'.cell? ⟨w.heap.size, 5, none⟩ = some (.int .i64 (g : Nat)) ∧ w'.cell? ⟨w.heap.size, 6, none⟩ = some (.int .i64 step) ∧ w'.cell? ⟨w.heap.size, 7, none⟩ = some (.int .i64 width) ∧ w.heap.size + 1 ≤ w'.heap.size ∧ Below w.heap.size w w')
        (first | exact ⟨k0, k1, k2, k3, k4, k5, k6, k7, hz, below_drew hbw⟩ | (go_split_ands; refine ⟨?_, ?_, ?_, ?_, ?_, ?_, ?_, ?_, ?_, ?_⟩ <;> first | assumption | exact keepB hb4 (by omega) (by assumption) | (have := hb4.size; omega) | exact Below.trans (by assumption) (hb4.mono (by omega)) | exact Below.drew (by assumption) | (simp; assumption) | (simp; omega)))
        (first | (go_at_call 80; refine (B0.out _ (by omega) (by omega) _).mono ?_; rintro e w4 ⟨rfl, hb4⟩))
      clear k0 k1 k2 k3 k4 k5 k6 k7 hz hbw y0
      go_split_ands
      have HO4 := Lib.hid (show Box1 w w4 nm x y z n g step width from ⟨⟨by assumption, by assumption, by assumption, by assumption, by assumption, by assumption, by assumption, by assumption⟩, by assumption, by assumption⟩)
      obtain ⟨⟨⟨ht0, ht⟩, ⟨s1, s2⟩, ⟨q1, q2⟩, ⟨dx1, dx2⟩, ⟨dy1, dy2⟩⟩, ⟨g2, hrg, r1, hj, hjr, hp1⟩, e1, e2⟩ := REST.out
      obtain ⟨_, _, a5, a6⟩ := bordI_bd (k := j) ht0 ht s1 s2 (by omega)
      obtain ⟨_, _, c5, c6⟩ := bordI_bd (k := j + 1) ht0 ht s1 s2 (by omega)
      have mL := M.mul_bd a5 a6 a5 a6
      have mH := M.mul_bd c5 c6 c5 c6
      have gt := GAT.out j hlt
      have JR := Lib.hid hjr
      clear B0 REST GAT hjr
      by_cases hjr2 : j + 1 = r
      · obtain ⟨u1, u2⟩ := gt.2 hjr2
        have d1 : decide (dx * dx + dy * dy < bordI step t j * bordI step t j) = false := decide_eq_false (by omega)
        have d2 : decide (bordI step t (j + 1) * bordI step t (j + 1) ≤ dx * dx + dy * dy) = false := decide_eq_false (by omega)
        have eres := HIN.out (by omega)
        have erj : ((r : Int) - 1) = j := by omega
        rw [erj] at eres
        subst eres
        clear HOUT HIN gt hjr2 erj
        go_wp2
        go_loopw [18] (fun i wr2 => ∃ a : Nat, a ≤ pr ∧ i = .int .i64 a ∧ Box1 w wr2 nm x y z n g step width) (fun i _ => 4 * n - (intOf i).toNat)
        case atStart => exact ⟨0, Nat.zero_le _, rfl, HO4.out⟩
        case round =>
          clear HO4
          obtain ⟨a, ha, rfl, hone⟩ := hrel
          obtain ⟨⟨k0, k1, k2, k3, k4, k5, k6, k7⟩, hz, hbw⟩ := hone
          have ha2 : (a : Int) < 4 * n := by omega
          have y0 := hz
          by_cases hap : a = pr
          · obtain rfl := hap
            have HP := Lib.hid ((HU.out a (by omega) ha2).2 rfl)
            go_wp2_with fail
            refine (refSector_yes n a dx dy _ q1 q2 (by omega) ha2 dx1 dx2 dy1 dy2 HP.out).mono ?_; rintro e w5 ⟨rfl, rfl⟩
            go_wp2
            go_ret3
            exact ⟨rfl, hbw⟩
          · have HP := Lib.hid (show ¬ SecP n a dx dy from fun h => hap (by have := (HU.out a (by omega) ha2).1 h; omega))
            go_wp2_with fail
            refine (refSector_no n a dx dy _ q1 q2 (by omega) ha2 dx1 dx2 dy1 dy2 HP.out).mono ?_; rintro e w5 ⟨rfl, rfl⟩
            go_wp2
            go_roundw
            case rel => exact ⟨a + 1, by omega, by go_num, ⟨⟨k0, k1, k2, k3, k4, k5, k6, k7⟩, hz, hbw⟩⟩
            case measure => simp [intOf]; omega
      · have hm : dx * dx + dy * dy < bordI step t j * bordI step t j ∨ (¬ dx * dx + dy * dy < bordI step t j * bordI step t j ∧ bordI step t (j + 1) * bordI step t (j + 1) ≤ dx * dx + dy * dy) := by
          by_cases c1 : bordI step t j * bordI step t j ≤ dx * dx + dy * dy
          · by_cases c2 : dx * dx + dy * dy < bordI step t (j + 1) * bordI step t (j + 1)
            · exact absurd (gt.1 ⟨c1, c2⟩) hjr2
            · right; omega
          · left; omega
        have j2r : j + 1 < r := by have := JR.out; omega
        clear gt HIN HOUT HU
        rcases hm with hm | ⟨hm, hm2⟩
        · have d1 : decide (dx * dx + dy * dy < bordI step t j * bordI step t j) = true := decide_eq_true hm
          go_wp2
          go_roundw
          case rel => exact ⟨j + 1, by omega, j2r, by go_num, HO4.out⟩
          case measure => simp [intOf]; omega
        · have d1 : decide (dx * dx + dy * dy < bordI step t j * bordI step t j) = false := decide_eq_false hm
          have d2 : decide (bordI step t (j + 1) * bordI step t (j + 1) ≤ dx * dx + dy * dy) = true := decide_eq_true hm2
          go_wp2
          go_roundw
          case rel => exact ⟨j + 1, by omega, j2r, by go_num, HO4.out⟩
          case measure => simp [intOf]; omega
    · have er : ¬ r ≤ g := by omega
      obtain rfl := HOUT.out er
      clear HIN HOUT GAT HU
      go_wp2
      go_ret3
      exact ⟨rfl, hbw⟩

set_option maxRecDepth 100000 in
set_option maxHeartbeats 12800000 in
theorem refFind_b (nm : ByteArray) (x y z : Int) (n g : Nat) (step width t ax ay dx dy : Int) (hx : ax - x = dx) (hy : ay - y = dy) (r : Nat) (hr : SrchIs (g + 1) (inside (dx * dx + dy * dy) (bordI step t)) r) (r1 : 1 ≤ r) (w : World) (hs : nm.size ≤ maxLen) (h0 : siteC nm x y z n g step width = 0) (hk : SiteOk x y z n g step width) (c0 : inB t 0 256 = true) (c1 : inB ax (-4194304) 4194304 = true) (c2 : inB ay (-4194304) 4194304 = true) (pr : Nat) (hp1 : (pr : Int) < 4 * n) (Res : Value) (hin : r ≤ g → Res = .tuple #[.int .i64 pr, .int .i64 ((r : Int) - 1), .int .i64 0]) (hout : ¬ r ≤ g → Res = .tuple #[.int .i64 0, .int .i64 0, .int .i64 29]) (hu : ∀ d : Int, 0 ≤ d → d < 4 * n → (SecP n d dx dy ↔ d = pr)) (z1 : (dx == 0) = true) (z2 : (dy == 0) = false) :
    Calls Try.prog 39 #[.agg #[.string nm, .int .i64 x, .int .i64 y, .int .i64 z, .int .i64 (n : Nat), .int .i64 (g : Nat), .int .i64 step, .int .i64 width], .int .i64 t, .int .i64 ax, .int .i64 ay] w fun e w' => e = .returned Res ∧ Below w.heap.size w w' := by
  have HS := Lib.hid hs
  have H0 := Lib.hid h0
  obtain ⟨b1, b2⟩ := inB_true.1 c1
  obtain ⟨b3, b4⟩ := inB_true.1 c2
  obtain ⟨ht0, ht⟩ := inB_true.1 c0
  obtain ⟨x1, x2, y1, y2⟩ : (-1048576 ≤ x ∧ x ≤ 1048576 ∧ -1048576 ≤ y ∧ y ≤ 1048576) := ⟨hk.x1, hk.x2, hk.y1, hk.y2⟩
  have q1 := hk.r1
  have q2 := hk.r2
  have g2 := hk.g2
  have s1 := hk.s1
  have s2 := hk.s2
  have HU := Lib.hid hu
  have HIN := Lib.hid hin
  have HOUT := Lib.hid hout
  have GAT := Lib.hid (fun (j : Nat) (hj : j < g) => gate_test (j := j) hr hj)
  have hrg : r ≤ g + 1 := hr.1
  clear hs h0 hk hu hr hin hout
  have i1 : IntKind.i64.wrap (ax - x) = dx := by rw [hx]; exact IntWalk.i64_in _ (by omega)
  have i2 : IntKind.i64.wrap (ay - y) = dy := by rw [hy]; exact IntWalk.i64_in _ (by omega)
  have dx1 : -6000000 ≤ dx := by omega
  have dx2 : dx ≤ 6000000 := by omega
  have dy1 : -6000000 ≤ dy := by omega
  have dy2 : dy ≤ 6000000 := by omega
  have e1 := M.sq_bd (a := dx) (A := 6000000) dx1 dx2
  have e2 := M.sq_bd (a := dy) (A := 6000000) dy1 dy2
  go_enter Try.func39, Try.ntmps39
  go_wp2_with fail
  refine (refCheckSite_any _ _ _ _ _ _ _ _ _ HS.out).mono ?_; rintro e w1 ⟨rfl, hb1⟩
  obtain ⟨⟨k0, k1, k2, k3, k4, k5, k6, k7⟩, hz, hbw⟩ := site_keep (T := 23) hb1
  clear hb1
  rw [H0.out]
  go_wp2_with fail
  refine (refIn_any _ _ _ _).mono ?_; rintro e w' ⟨rfl, rfl⟩
  go_wp2_with fail
  refine (refIn_any _ _ _ _).mono ?_; rintro e w' ⟨rfl, rfl⟩
  go_wp2_with fail
  refine (refIn_any _ _ _ _).mono ?_; rintro e w' ⟨rfl, rfl⟩
  go_wp2
  go_quiet (fail)
  try rw [i1, i2]
  clear i1 i2
  have HO := Lib.hid (show Box1 w w1 nm x y z n g step width from ⟨⟨k0, k1, k2, k3, k4, k5, k6, k7⟩, hz, hbw⟩)
  go_wp2
  clear k0 k1 k2 k3 k4 k5 k6 k7 hz hbw c0 c1 c2 b1 b2 b3 b4 x1 x2 y1 y2 hx hy
  go_loopw [15] (fun i wr => ∃ j : Nat, j ≤ g ∧ j < r ∧ i = .int .i64 j ∧ Box1 w wr nm x y z n g step width) (fun i _ => g - (intOf i).toNat)
  case atStart => exact ⟨0, Nat.zero_le _, by omega, rfl, HO.out.keep (below_drewN (Below.refl _ _) _) HO.out.z⟩
  case round =>
    clear HO
    obtain ⟨j, hj, hjr, rfl, hone⟩ := hrel
    obtain ⟨⟨k0, k1, k2, k3, k4, k5, k6, k7⟩, hz, hbw⟩ := hone
    have y0 : w.heap.size < wr.heap.size := by omega
    by_cases hlt : j < g
    · have REST := Lib.hid (show ((0 ≤ t ∧ t ≤ 256) ∧ (50 ≤ step ∧ step ≤ 2000) ∧ (1 ≤ (n : Int) ∧ (n : Int) ≤ 90) ∧ (-6000000 ≤ dx ∧ dx ≤ 6000000) ∧ (-6000000 ≤ dy ∧ dy ≤ 6000000)) ∧ ((g : Int) ≤ 200 ∧ r ≤ g + 1 ∧ 1 ≤ r ∧ j ≤ g ∧ j < r ∧ (pr : Int) < 4 * n) ∧ ((0 ≤ dx * dx ∧ dx * dx ≤ 6000000 * 6000000) ∧ (0 ≤ dy * dy ∧ dy * dy ≤ 6000000 * 6000000)) from ⟨⟨⟨ht0, ht⟩, ⟨s1, s2⟩, ⟨q1, q2⟩, ⟨dx1, dx2⟩, ⟨dy1, dy2⟩⟩, ⟨g2, hrg, r1, hj, hjr, hp1⟩, e1, e2⟩)
      have p6 : IntKind.i64.wrap ((j : Int) + 1) = (j : Int) + 1 := IntWalk.i64_in _ (by omega)
      have B0 := Lib.hid (fun (k : Int) (h1 : 0 ≤ k) (h2 : k ≤ 200) (w : World) => border_z nm x y z n g step width t k w ht0 ht s1 s2 h1 h2)
      have j1 : (0 : Int) ≤ (j : Int) := by omega
      have j2 : (j : Int) < 200 := by omega
      go_wp2
      clear ht0 ht s1 s2 q1 q2 dx1 dx2 dy1 dy2 g2 hrg r1 hj hjr hp1 e1 e2
      go_region_held3 (fun w' => w'.cell? ⟨w.heap.size, 0, none⟩ = some (.string nm) ∧ w'.cell? ⟨w.heap.size, 1, none⟩ = some (.int .i64 x) ∧ w'.cell? ⟨w.heap.size, 2, none⟩ = some (.int .i64 y) ∧ w'.cell? ⟨w.heap.size, 3, none⟩ = some (.int .i64 z) ∧ w'.cell? ⟨w.heap.size, 4, none⟩ = some (.int .i64 (n : Nat)) ∧ w'.cell? ⟨w.heap.size, 5, none⟩ = some (.int .i64 (g : Nat)) ∧ w'.cell? ⟨w.heap.size, 6, none⟩ = some (.int .i64 step) ∧ w'.cell? ⟨w.heap.size, 7, none⟩ = some (.int .i64 width) ∧ w.heap.size + 1 ≤ w'.heap.size ∧ Below w.heap.size w w')
        (first | exact ⟨k0, k1, k2, k3, k4, k5, k6, k7, hz, below_drew hbw⟩ | (go_split_ands; refine ⟨?_, ?_, ?_, ?_, ?_, ?_, ?_, ?_, ?_, ?_⟩ <;> first | assumption | exact keepB hb4 (by omega) (by assumption) | (have := hb4.size; omega) | exact Below.trans (by assumption) (hb4.mono (by omega)) | exact Below.drew (by assumption) | (simp; assumption) | (simp; omega)))
        (first | (go_at_call 80; refine (B0.out _ (by omega) (by omega) _).mono ?_; rintro e w4 ⟨rfl, hb4⟩))
      clear k0 k1 k2 k3 k4 k5 k6 k7 hz hbw y0
      go_split_ands
      have HO4 := Lib.hid (show Box1 w w4 nm x y z n g step width from ⟨⟨by assumption, by assumption, by assumption, by assumption, by assumption, by assumption, by assumption, by assumption⟩, by assumption, by assumption⟩)
      obtain ⟨⟨⟨ht0, ht⟩, ⟨s1, s2⟩, ⟨q1, q2⟩, ⟨dx1, dx2⟩, ⟨dy1, dy2⟩⟩, ⟨g2, hrg, r1, hj, hjr, hp1⟩, e1, e2⟩ := REST.out
      obtain ⟨_, _, a5, a6⟩ := bordI_bd (k := j) ht0 ht s1 s2 (by omega)
      obtain ⟨_, _, c5, c6⟩ := bordI_bd (k := j + 1) ht0 ht s1 s2 (by omega)
      have mL := M.mul_bd a5 a6 a5 a6
      have mH := M.mul_bd c5 c6 c5 c6
      have gt := GAT.out j hlt
      have JR := Lib.hid hjr
      clear B0 REST GAT hjr
      by_cases hjr2 : j + 1 = r
      · obtain ⟨u1, u2⟩ := gt.2 hjr2
        have d1 : decide (dx * dx + dy * dy < bordI step t j * bordI step t j) = false := decide_eq_false (by omega)
        have d2 : decide (bordI step t (j + 1) * bordI step t (j + 1) ≤ dx * dx + dy * dy) = false := decide_eq_false (by omega)
        have eres := HIN.out (by omega)
        have erj : ((r : Int) - 1) = j := by omega
        rw [erj] at eres
        subst eres
        clear HOUT HIN gt hjr2 erj
        go_wp2
        go_loopw [18] (fun i wr2 => ∃ a : Nat, a ≤ pr ∧ i = .int .i64 a ∧ Box1 w wr2 nm x y z n g step width) (fun i _ => 4 * n - (intOf i).toNat)
        case atStart => exact ⟨0, Nat.zero_le _, rfl, HO4.out⟩
        case round =>
          clear HO4
          obtain ⟨a, ha, rfl, hone⟩ := hrel
          obtain ⟨⟨k0, k1, k2, k3, k4, k5, k6, k7⟩, hz, hbw⟩ := hone
          have ha2 : (a : Int) < 4 * n := by omega
          have y0 := hz
          by_cases hap : a = pr
          · obtain rfl := hap
            have HP := Lib.hid ((HU.out a (by omega) ha2).2 rfl)
            go_wp2_with fail
            refine (refSector_yes n a dx dy _ q1 q2 (by omega) ha2 dx1 dx2 dy1 dy2 HP.out).mono ?_; rintro e w5 ⟨rfl, rfl⟩
            go_wp2
            go_ret3
            exact ⟨rfl, hbw⟩
          · have HP := Lib.hid (show ¬ SecP n a dx dy from fun h => hap (by have := (HU.out a (by omega) ha2).1 h; omega))
            go_wp2_with fail
            refine (refSector_no n a dx dy _ q1 q2 (by omega) ha2 dx1 dx2 dy1 dy2 HP.out).mono ?_; rintro e w5 ⟨rfl, rfl⟩
            go_wp2
            go_roundw
            case rel => exact ⟨a + 1, by omega, by go_num, ⟨⟨k0, k1, k2, k3, k4, k5, k6, k7⟩, hz, hbw⟩⟩
            case measure => simp [intOf]; omega
      · have hm : dx * dx + dy * dy < bordI step t j * bordI step t j ∨ (¬ dx * dx + dy * dy < bordI step t j * bordI step t j ∧ bordI step t (j + 1) * bordI step t (j + 1) ≤ dx * dx + dy * dy) := by
          by_cases c1 : bordI step t j * bordI step t j ≤ dx * dx + dy * dy
          · by_cases c2 : dx * dx + dy * dy < bordI step t (j + 1) * bordI step t (j + 1)
            · exact absurd (gt.1 ⟨c1, c2⟩) hjr2
            · right; omega
          · left; omega
        have j2r : j + 1 < r := by have := JR.out; omega
        clear gt HIN HOUT HU
        rcases hm with hm | ⟨hm, hm2⟩
        · have d1 : decide (dx * dx + dy * dy < bordI step t j * bordI step t j) = true := decide_eq_true hm
          go_wp2
          go_roundw
          case rel => exact ⟨j + 1, by omega, j2r, by go_num, HO4.out⟩
          case measure => simp [intOf]; omega
        · have d1 : decide (dx * dx + dy * dy < bordI step t j * bordI step t j) = false := decide_eq_false hm
          have d2 : decide (bordI step t (j + 1) * bordI step t (j + 1) ≤ dx * dx + dy * dy) = true := decide_eq_true hm2
          go_wp2
          go_roundw
          case rel => exact ⟨j + 1, by omega, j2r, by go_num, HO4.out⟩
          case measure => simp [intOf]; omega
    · have er : ¬ r ≤ g := by omega
      obtain rfl := HOUT.out er
      clear HIN HOUT GAT HU
      go_wp2
      go_ret3
      exact ⟨rfl, hbw⟩

end Go.Proofs.Ythnjfnapjpdchaa
