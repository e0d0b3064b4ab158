/-
  What Pixel answers, in the code and in the reference.
-/
import Derived.Test.YthnjfnapjpdchaaV1
namespace Go.Proofs.Ythnjfnapjpdchaa
open Go.RowKit
set_option linter.unusedVariables false

/-- the pixel of a place -/
def pixB (gx gy size wide high px py : Int) : Bool := inB px gx (gx + wide * size - 1) && inB py gy (gy + high * size - 1)
def pixN (gx gy size wide px py : Int) : Int := (py - gy) / size * wide + (px - gx) / size

structure GridAt (w : World) (b : Nat) (gx gy size wide high : Int) : Prop where
  c0 : w.cell? ⟨b, 0, none⟩ = some (.int .i64 gx)
  c1 : w.cell? ⟨b, 1, none⟩ = some (.int .i64 gy)
  c2 : w.cell? ⟨b, 2, none⟩ = some (.int .i64 size)
  c3 : w.cell? ⟨b, 3, none⟩ = some (.int .i64 wide)
  c4 : w.cell? ⟨b, 4, none⟩ = some (.int .i64 high)
theorem GridAt.new (w : World) (gx gy size wide high : Int) : GridAt (w.alloc (.cells #[.int .i64 gx, .int .i64 gy, .int .i64 size, .int .i64 wide, .int .i64 high] 25)) w.heap.size gx gy size wide high :=
  ⟨alloc_new rfl rfl, alloc_new rfl rfl, alloc_new rfl rfl, alloc_new rfl rfl, alloc_new rfl rfl⟩
theorem GridAt.keep {B b : Nat} {W w1 : World} {gx gy size wide high : Int} (s : GridAt W b gx gy size wide high) (hb : Below B W w1) (h : b < B) : GridAt w1 b gx gy size wide high :=
  ⟨keepB hb h s.c0, keepB hb h s.c1, keepB hb h s.c2, keepB hb h s.c3, keepB hb h s.c4⟩

structure PixFacts (gx gy size wide high px py : Int) : Prop where
  a1 : 0 ≤ px - gx
  a2 : px - gx ≤ 639999
  b1 : 0 ≤ py - gy
  b2 : py - gy ≤ 639999
  q1 : (px - gx).tdiv size = (px - gx) / size
  q2 : (py - gy).tdiv size = (py - gy) / size
  q3 : 0 ≤ (px - gx) / size
  q4 : (px - gx) / size ≤ 639999
  q5 : 0 ≤ (py - gy) / size
  q6 : (py - gy) / size ≤ 639999
  m1 : 0 ≤ (py - gy) / size * wide
  m2 : (py - gy) / size * wide ≤ 639999 * 64

theorem pix_facts {gx gy size wide high px py : Int} (hg : gridC gx gy size wide high = 0) (h : pixB gx gy size wide high px py = true) : PixFacts gx gy size wide high px py := by
  obtain ⟨g1, g2, ⟨s1, s2⟩, ⟨v1, v2⟩, v3, v4⟩ := gridB_bd (gridC_zero.1 hg)
  have v5 := M.mul_bd (a := wide) (b := size) (A := 64) (B := 10000) (by omega) v2 (by omega) s2
  have v6 := M.mul_bd (a := high) (b := size) (A := 64) (B := 10000) (by omega) v4 (by omega) s2
  unfold pixB at h
  rw [Bool.and_eq_true, inB_true, inB_true] at h
  obtain ⟨⟨h1, h2⟩, h3, h4⟩ := h
  have a1 : 0 ≤ px - gx := by omega
  have b1 : 0 ≤ py - gy := by omega
  have q5 : 0 ≤ (py - gy) / size := Int.ediv_nonneg b1 (by omega)
  have q6 : (py - gy) / size ≤ py - gy := Int.ediv_le_self _ b1
  have q3 : 0 ≤ (px - gx) / size := Int.ediv_nonneg a1 (by omega)
  have q4 : (px - gx) / size ≤ px - gx := Int.ediv_le_self _ a1
  have m := M.mul_bd (a := (py - gy) / size) (b := wide) (A := 639999) (B := 64) q5 (by omega) (by omega) v2
  exact ⟨a1, by omega, b1, by omega, Int.tdiv_eq_ediv_of_nonneg a1, Int.tdiv_eq_ediv_of_nonneg b1, q3, by omega, q5, by omega, m.1, m.2⟩

set_option maxHeartbeats 1600000 in
theorem pixel_no1 (gx gy size wide high px py : Int) (w : World) (hg : gridC gx gy size wide high = 0) (h1 : inB px gx (gx + wide * size - 1) = false) :
    Calls Try.prog 82 #[.agg #[.int .i64 gx, .int .i64 gy, .int .i64 size, .int .i64 wide, .int .i64 high], .agg #[.int .i64 px, .int .i64 py]] w fun e w' => e = .returned (.tuple #[.int .i64 0, .bool false]) ∧ Below w.heap.size w w'  := by
  obtain ⟨⟨X1, X2⟩, ⟨Y1, Y2⟩, ⟨s1, s2⟩, ⟨v1, v2⟩, v3, v4⟩ := gridB_bd (gridC_zero.1 hg)
  have v5 := M.mul_bd (a := wide) (b := size) (A := 64) (B := 10000) (by omega) v2 (by omega) s2
  have v6 := M.mul_bd (a := high) (b := size) (A := 64) (B := 10000) (by omega) v4 (by omega) s2
  have i1 : IntKind.i64.wrap (wide * size) = wide * size := IntWalk.i64_in _ (by omega)
  have i2 : IntKind.i64.wrap (high * size) = high * size := IntWalk.i64_in _ (by omega)
  have i3 : IntKind.i64.wrap (gx + wide * size) = gx + wide * size := IntWalk.i64_in _ (by omega)
  have i4 : IntKind.i64.wrap (gy + high * size) = gy + high * size := IntWalk.i64_in _ (by omega)
  have i5 : IntKind.i64.wrap (gx + wide * size - 1) = gx + wide * size - 1 := IntWalk.i64_in _ (by omega)
  have i6 : IntKind.i64.wrap (gy + high * size - 1) = gy + high * size - 1 := IntWalk.i64_in _ (by omega)
  clear hg
  go_enter Try.func82, Try.ntmps82
  go_wp2_with fail
  refine (isIn_any _ _ _ _).mono ?_; rintro e w' ⟨rfl, rfl⟩
  go_wp2
  go_ret2
  exact ⟨rfl, by repeat (first | exact Below.refl _ _ | (refine below_drewN ?_ _) | (refine Below.alloc ?_ (by simp) _))⟩

set_option maxHeartbeats 1600000 in
theorem pixel_no2 (gx gy size wide high px py : Int) (w : World) (hg : gridC gx gy size wide high = 0) (h1 : inB px gx (gx + wide * size - 1) = true) (h2 : inB py gy (gy + high * size - 1) = false) :
    Calls Try.prog 82 #[.agg #[.int .i64 gx, .int .i64 gy, .int .i64 size, .int .i64 wide, .int .i64 high], .agg #[.int .i64 px, .int .i64 py]] w fun e w' => e = .returned (.tuple #[.int .i64 0, .bool false]) ∧ Below w.heap.size w w'  := by
  obtain ⟨⟨X1, X2⟩, ⟨Y1, Y2⟩, ⟨s1, s2⟩, ⟨v1, v2⟩, v3, v4⟩ := gridB_bd (gridC_zero.1 hg)
  have v5 := M.mul_bd (a := wide) (b := size) (A := 64) (B := 10000) (by omega) v2 (by omega) s2
  have v6 := M.mul_bd (a := high) (b := size) (A := 64) (B := 10000) (by omega) v4 (by omega) s2
  have i1 : IntKind.i64.wrap (wide * size) = wide * size := IntWalk.i64_in _ (by omega)
  have i2 : IntKind.i64.wrap (high * size) = high * size := IntWalk.i64_in _ (by omega)
  have i3 : IntKind.i64.wrap (gx + wide * size) = gx + wide * size := IntWalk.i64_in _ (by omega)
  have i4 : IntKind.i64.wrap (gy + high * size) = gy + high * size := IntWalk.i64_in _ (by omega)
  have i5 : IntKind.i64.wrap (gx + wide * size - 1) = gx + wide * size - 1 := IntWalk.i64_in _ (by omega)
  have i6 : IntKind.i64.wrap (gy + high * size - 1) = gy + high * size - 1 := IntWalk.i64_in _ (by omega)
  clear hg
  go_enter Try.func82, Try.ntmps82
  go_wp2_with fail
  refine (isIn_any _ _ _ _).mono ?_; rintro e w' ⟨rfl, rfl⟩
  go_wp2_with fail
  refine (isIn_any _ _ _ _).mono ?_; rintro e w' ⟨rfl, rfl⟩
  go_wp2
  go_ret2
  exact ⟨rfl, by repeat (first | exact Below.refl _ _ | (refine below_drewN ?_ _) | (refine Below.alloc ?_ (by simp) _))⟩

set_option maxHeartbeats 1600000 in
theorem pixel_ok (gx gy size wide high px py : Int) (w : World) (hg : gridC gx gy size wide high = 0) (h1 : inB px gx (gx + wide * size - 1) = true) (h2 : inB py gy (gy + high * size - 1) = true) :
    Calls Try.prog 82 #[.agg #[.int .i64 gx, .int .i64 gy, .int .i64 size, .int .i64 wide, .int .i64 high], .agg #[.int .i64 px, .int .i64 py]] w fun e w' => e = .returned (.tuple #[.int .i64 (pixN gx gy size wide px py), .bool true]) ∧ Below w.heap.size w w'  := by
  have h : pixB gx gy size wide high px py = true := by unfold pixB; rw [h1, h2]; rfl
  obtain ⟨⟨X1, X2⟩, ⟨Y1, Y2⟩, ⟨s1, s2⟩, ⟨v1, v2⟩, v3, v4⟩ := gridB_bd (gridC_zero.1 hg)
  have v5 := M.mul_bd (a := wide) (b := size) (A := 64) (B := 10000) (by omega) v2 (by omega) s2
  have v6 := M.mul_bd (a := high) (b := size) (A := 64) (B := 10000) (by omega) v4 (by omega) s2
  have i1 : IntKind.i64.wrap (wide * size) = wide * size := IntWalk.i64_in _ (by omega)
  have i2 : IntKind.i64.wrap (high * size) = high * size := IntWalk.i64_in _ (by omega)
  have i3 : IntKind.i64.wrap (gx + wide * size) = gx + wide * size := IntWalk.i64_in _ (by omega)
  have i4 : IntKind.i64.wrap (gy + high * size) = gy + high * size := IntWalk.i64_in _ (by omega)
  have i5 : IntKind.i64.wrap (gx + wide * size - 1) = gx + wide * size - 1 := IntWalk.i64_in _ (by omega)
  have i6 : IntKind.i64.wrap (gy + high * size - 1) = gy + high * size - 1 := IntWalk.i64_in _ (by omega)
  obtain ⟨a1, a2, b1, b2, q1, q2, q3, q4, q5, q6, m1, m2⟩ := pix_facts hg h
  have j1 : IntKind.i64.wrap (px - gx) = px - gx := IntWalk.i64_in _ (by omega)
  have j2 : IntKind.i64.wrap (py - gy) = py - gy := IntWalk.i64_in _ (by omega)
  have j3 : IntKind.i64.wrap ((px - gx) / size) = (px - gx) / size := IntWalk.i64_in _ (by omega)
  have j4 : IntKind.i64.wrap ((py - gy) / size) = (py - gy) / size := IntWalk.i64_in _ (by omega)
  have j5 : IntKind.i64.wrap ((py - gy) / size * wide) = (py - gy) / size * wide := IntWalk.i64_in _ (by omega)
  have j6 : IntKind.i64.wrap ((py - gy) / size * wide + (px - gx) / size) = (py - gy) / size * wide + (px - gx) / size := IntWalk.i64_in _ (by omega)
  have z1 : (size == 0) = false := by rw [beq_eq_false_iff_ne]; omega
  have z2 : size ≠ 0 := by omega
  have z3 : ¬ size = -1 := by omega
  clear hg
  go_enter Try.func82, Try.ntmps82
  go_wp2_with fail
  refine (isIn_any _ _ _ _).mono ?_; rintro e w' ⟨rfl, rfl⟩
  go_wp2_with fail
  refine (isIn_any _ _ _ _).mono ?_; rintro e w' ⟨rfl, rfl⟩
  go_wp2
  go_quiet (fail)
  go_wp2
  exact bodyPost_ret (v := .tuple #[.int .i64 (pixN gx gy size wide px py), .bool true]) (by simp [results, Try.results82, go_sem, pixN]) rfl ⟨rfl, by repeat (first | exact Below.refl _ _ | (refine below_drewN ?_ _) | (refine Below.alloc ?_ (by simp) _))⟩

theorem pixel_any (gx gy size wide high px py : Int) (w : World) (hg : gridC gx gy size wide high = 0) :
    Calls Try.prog 82 #[.agg #[.int .i64 gx, .int .i64 gy, .int .i64 size, .int .i64 wide, .int .i64 high], .agg #[.int .i64 px, .int .i64 py]] w fun e w' => e = .returned (.tuple #[.int .i64 (if pixB gx gy size wide high px py = true then pixN gx gy size wide px py else 0), .bool (pixB gx gy size wide high px py)]) ∧ Below w.heap.size w w'  := by
  rcases (Bool.eq_false_or_eq_true (inB px gx (gx + wide * size - 1))).symm with h1 | h1
  · have e : pixB gx gy size wide high px py = false := by unfold pixB; rw [h1]; rfl
    rw [e]; exact pixel_no1 gx gy size wide high px py w hg h1
  · rcases (Bool.eq_false_or_eq_true (inB py gy (gy + high * size - 1))).symm with h2 | h2
    · have e : pixB gx gy size wide high px py = false := by unfold pixB; rw [h1, h2]; rfl
      rw [e]; exact pixel_no2 gx gy size wide high px py w hg h1 h2
    · have e : pixB gx gy size wide high px py = true := by unfold pixB; rw [h1, h2]; rfl
      rw [e]; exact pixel_ok gx gy size wide high px py w hg h1 h2

set_option maxHeartbeats 1600000 in
theorem Pixel_err (gx gy size wide high px py : Int) (w : World) (hne : (gridC gx gy size wide high != 0) = true) :
    Calls Try.prog 40 #[.agg #[.int .i64 gx, .int .i64 gy, .int .i64 size, .int .i64 wide, .int .i64 high], .int .i64 px, .int .i64 py] w fun e w' => e = .returned (.tuple #[.int .i64 0, .int .i64 (gridC gx gy size wide high)]) ∧ Below w.heap.size w w'  := by
  go_enter Try.func40, Try.ntmps40
  go_wp2_with fail
  refine (CheckGrid_any _ _ _ _ _ _).mono ?_; rintro e w1 ⟨rfl, hb1⟩
  obtain ⟨k0, k1, k2, k3, k4⟩ := (GridAt.new w gx gy size wide high).keep hb1 (by simp)
  have hbw : Below w.heap.size w w1 := Below.trans (below_alloc _ _) (hb1.mono (by simp))
  have hz : w.heap.size + 1 ≤ w1.heap.size := by have := hb1.size; simp at this; omega
  clear hb1
  go_wp2
  go_ret2
  exact ⟨rfl, hbw⟩

set_option maxHeartbeats 1600000 in
theorem Pixel_no (gx gy size wide high px py : Int) (w : World) (hg : gridC gx gy size wide high = 0) (h : pixB gx gy size wide high px py = false) :
    Calls Try.prog 40 #[.agg #[.int .i64 gx, .int .i64 gy, .int .i64 size, .int .i64 wide, .int .i64 high], .int .i64 px, .int .i64 py] w fun e w' => e = .returned (.tuple #[.int .i64 0, .int .i64 29]) ∧ Below w.heap.size w w'  := by
  have HG := Lib.hid hg
  have H := Lib.hid h
  clear hg h
  go_enter Try.func40, Try.ntmps40
  go_wp2_with fail
  refine (CheckGrid_any _ _ _ _ _ _).mono ?_; rintro e w1 ⟨rfl, hb1⟩
  obtain ⟨k0, k1, k2, k3, k4⟩ := (GridAt.new w gx gy size wide high).keep hb1 (by simp)
  have hbw : Below w.heap.size w w1 := Below.trans (below_alloc _ _) (hb1.mono (by simp))
  have hz : w.heap.size + 1 ≤ w1.heap.size := by have := hb1.size; simp at this; omega
  clear hb1
  rw [HG.out]
  go_wp2_with fail
  refine (pixel_any _ _ _ _ _ _ _ _ HG.out).mono ?_; rintro e w2 ⟨rfl, hb2⟩
  rw [H.out]
  have hbw := hbw.trans (hb2.mono (by omega))
  go_wp2
  go_ret2
  exact ⟨rfl, hbw⟩

set_option maxHeartbeats 1600000 in
theorem Pixel_ok (gx gy size wide high px py : Int) (w : World) (hg : gridC gx gy size wide high = 0) (h : pixB gx gy size wide high px py = true) :
    Calls Try.prog 40 #[.agg #[.int .i64 gx, .int .i64 gy, .int .i64 size, .int .i64 wide, .int .i64 high], .int .i64 px, .int .i64 py] w fun e w' => e = .returned (.tuple #[.int .i64 (pixN gx gy size wide px py), .int .i64 0]) ∧ Below w.heap.size w w'  := by
  have HG := Lib.hid hg
  have H := Lib.hid h
  clear hg h
  go_enter Try.func40, Try.ntmps40
  go_wp2_with fail
  refine (CheckGrid_any _ _ _ _ _ _).mono ?_; rintro e w1 ⟨rfl, hb1⟩
  obtain ⟨k0, k1, k2, k3, k4⟩ := (GridAt.new w gx gy size wide high).keep hb1 (by simp)
  have hbw : Below w.heap.size w w1 := Below.trans (below_alloc _ _) (hb1.mono (by simp))
  have hz : w.heap.size + 1 ≤ w1.heap.size := by have := hb1.size; simp at this; omega
  clear hb1
  rw [HG.out]
  go_wp2_with fail
  refine (pixel_any _ _ _ _ _ _ _ _ HG.out).mono ?_; rintro e w2 ⟨rfl, hb2⟩
  rw [H.out]
  have hbw := hbw.trans (hb2.mono (by omega))
  go_wp2
  go_ret2
  exact ⟨rfl, hbw⟩


set_option maxHeartbeats 1600000 in
theorem refPixel_err (gx gy size wide high px py : Int) (w : World) (hne : (gridC gx gy size wide high != 0) = true) :
    Calls Try.prog 41 #[.agg #[.int .i64 gx, .int .i64 gy, .int .i64 size, .int .i64 wide, .int .i64 high], .int .i64 px, .int .i64 py] w fun e w' => e = .returned (.tuple #[.int .i64 0, .int .i64 (gridC gx gy size wide high)]) ∧ Below w.heap.size w w'  := by
  go_enter Try.func41, Try.ntmps41
  go_wp2_with fail
  refine (refCheckGrid_any _ _ _ _ _ _).mono ?_; rintro e w1 ⟨rfl, hb1⟩
  obtain ⟨k0, k1, k2, k3, k4⟩ := (GridAt.new w gx gy size wide high).keep hb1 (by simp)
  have hbw : Below w.heap.size w w1 := Below.trans (below_alloc _ _) (hb1.mono (by simp))
  have hz : w.heap.size + 1 ≤ w1.heap.size := by have := hb1.size; simp at this; omega
  clear hb1
  go_wp2
  go_ret2
  exact ⟨rfl, hbw⟩

set_option maxHeartbeats 1600000 in
theorem refPixel_no1 (gx gy size wide high px py : Int) (w : World) (hg : gridC gx gy size wide high = 0) (h1 : px < gx) :
    Calls Try.prog 41 #[.agg #[.int .i64 gx, .int .i64 gy, .int .i64 size, .int .i64 wide, .int .i64 high], .int .i64 px, .int .i64 py] w fun e w' => e = .returned (.tuple #[.int .i64 0, .int .i64 29]) ∧ Below w.heap.size w w'  := by
  have HG := Lib.hid hg
  obtain ⟨⟨X1, X2⟩, ⟨Y1, Y2⟩, ⟨s1, s2⟩, ⟨v1, v2⟩, v3, v4⟩ := gridB_bd (gridC_zero.1 hg)
  have v5 := M.mul_bd (a := wide) (b := size) (A := 64) (B := 10000) (by omega) v2 (by omega) s2
  have v6 := M.mul_bd (a := high) (b := size) (A := 64) (B := 10000) (by omega) v4 (by omega) s2
  have i1 : IntKind.i64.wrap (wide * size) = wide * size := IntWalk.i64_in _ (by omega)
  have i2 : IntKind.i64.wrap (high * size) = high * size := IntWalk.i64_in _ (by omega)
  have i3 : IntKind.i64.wrap (gx + wide * size) = gx + wide * size := IntWalk.i64_in _ (by omega)
  have i4 : IntKind.i64.wrap (gy + high * size) = gy + high * size := IntWalk.i64_in _ (by omega)
  have i5 : IntKind.i64.wrap (gx + wide * size - 1) = gx + wide * size - 1 := IntWalk.i64_in _ (by omega)
  have i6 : IntKind.i64.wrap (gy + high * size - 1) = gy + high * size - 1 := IntWalk.i64_in _ (by omega)
  clear hg
  go_enter Try.func41, Try.ntmps41
  go_wp2_with fail
  refine (refCheckGrid_any _ _ _ _ _ _).mono ?_; rintro e w1 ⟨rfl, hb1⟩
  obtain ⟨k0, k1, k2, k3, k4⟩ := (GridAt.new w gx gy size wide high).keep hb1 (by simp)
  have hbw : Below w.heap.size w w1 := Below.trans (below_alloc _ _) (hb1.mono (by simp))
  have hz : w.heap.size + 1 ≤ w1.heap.size := by have := hb1.size; simp at this; omega
  clear hb1
  rw [HG.out]
  go_wp2
  go_ret2
  exact ⟨rfl, hbw⟩

set_option maxHeartbeats 1600000 in
theorem refPixel_no2 (gx gy size wide high px py : Int) (w : World) (hg : gridC gx gy size wide high = 0) (h1 : ¬ px < gx) (h2 : gx + wide * size ≤ px) :
    Calls Try.prog 41 #[.agg #[.int .i64 gx, .int .i64 gy, .int .i64 size, .int .i64 wide, .int .i64 high], .int .i64 px, .int .i64 py] w fun e w' => e = .returned (.tuple #[.int .i64 0, .int .i64 29]) ∧ Below w.heap.size w w'  := by
  have HG := Lib.hid hg
  obtain ⟨⟨X1, X2⟩, ⟨Y1, Y2⟩, ⟨s1, s2⟩, ⟨v1, v2⟩, v3, v4⟩ := gridB_bd (gridC_zero.1 hg)
  have v5 := M.mul_bd (a := wide) (b := size) (A := 64) (B := 10000) (by omega) v2 (by omega) s2
  have v6 := M.mul_bd (a := high) (b := size) (A := 64) (B := 10000) (by omega) v4 (by omega) s2
  have i1 : IntKind.i64.wrap (wide * size) = wide * size := IntWalk.i64_in _ (by omega)
  have i2 : IntKind.i64.wrap (high * size) = high * size := IntWalk.i64_in _ (by omega)
  have i3 : IntKind.i64.wrap (gx + wide * size) = gx + wide * size := IntWalk.i64_in _ (by omega)
  have i4 : IntKind.i64.wrap (gy + high * size) = gy + high * size := IntWalk.i64_in _ (by omega)
  have i5 : IntKind.i64.wrap (gx + wide * size - 1) = gx + wide * size - 1 := IntWalk.i64_in _ (by omega)
  have i6 : IntKind.i64.wrap (gy + high * size - 1) = gy + high * size - 1 := IntWalk.i64_in _ (by omega)
  clear hg
  go_enter Try.func41, Try.ntmps41
  go_wp2_with fail
  refine (refCheckGrid_any _ _ _ _ _ _).mono ?_; rintro e w1 ⟨rfl, hb1⟩
  obtain ⟨k0, k1, k2, k3, k4⟩ := (GridAt.new w gx gy size wide high).keep hb1 (by simp)
  have hbw : Below w.heap.size w w1 := Below.trans (below_alloc _ _) (hb1.mono (by simp))
  have hz : w.heap.size + 1 ≤ w1.heap.size := by have := hb1.size; simp at this; omega
  clear hb1
  rw [HG.out]
  go_wp2
  go_ret2
  exact ⟨rfl, hbw⟩

set_option maxHeartbeats 1600000 in
theorem refPixel_no3 (gx gy size wide high px py : Int) (w : World) (hg : gridC gx gy size wide high = 0) (h1 : ¬ px < gx) (h2 : ¬ gx + wide * size ≤ px) (h3 : py < gy) :
    Calls Try.prog 41 #[.agg #[.int .i64 gx, .int .i64 gy, .int .i64 size, .int .i64 wide, .int .i64 high], .int .i64 px, .int .i64 py] w fun e w' => e = .returned (.tuple #[.int .i64 0, .int .i64 29]) ∧ Below w.heap.size w w'  := by
  have HG := Lib.hid hg
  obtain ⟨⟨X1, X2⟩, ⟨Y1, Y2⟩, ⟨s1, s2⟩, ⟨v1, v2⟩, v3, v4⟩ := gridB_bd (gridC_zero.1 hg)
  have v5 := M.mul_bd (a := wide) (b := size) (A := 64) (B := 10000) (by omega) v2 (by omega) s2
  have v6 := M.mul_bd (a := high) (b := size) (A := 64) (B := 10000) (by omega) v4 (by omega) s2
  have i1 : IntKind.i64.wrap (wide * size) = wide * size := IntWalk.i64_in _ (by omega)
  have i2 : IntKind.i64.wrap (high * size) = high * size := IntWalk.i64_in _ (by omega)
  have i3 : IntKind.i64.wrap (gx + wide * size) = gx + wide * size := IntWalk.i64_in _ (by omega)
  have i4 : IntKind.i64.wrap (gy + high * size) = gy + high * size := IntWalk.i64_in _ (by omega)
  have i5 : IntKind.i64.wrap (gx + wide * size - 1) = gx + wide * size - 1 := IntWalk.i64_in _ (by omega)
  have i6 : IntKind.i64.wrap (gy + high * size - 1) = gy + high * size - 1 := IntWalk.i64_in _ (by omega)
  clear hg
  go_enter Try.func41, Try.ntmps41
  go_wp2_with fail
  refine (refCheckGrid_any _ _ _ _ _ _).mono ?_; rintro e w1 ⟨rfl, hb1⟩
  obtain ⟨k0, k1, k2, k3, k4⟩ := (GridAt.new w gx gy size wide high).keep hb1 (by simp)
  have hbw : Below w.heap.size w w1 := Below.trans (below_alloc _ _) (hb1.mono (by simp))
  have hz : w.heap.size + 1 ≤ w1.heap.size := by have := hb1.size; simp at this; omega
  clear hb1
  rw [HG.out]
  go_wp2
  go_ret2
  exact ⟨rfl, hbw⟩

set_option maxHeartbeats 1600000 in
theorem refPixel_no4 (gx gy size wide high px py : Int) (w : World) (hg : gridC gx gy size wide high = 0) (h1 : ¬ px < gx) (h2 : ¬ gx + wide * size ≤ px) (h3 : ¬ py < gy) (h4 : gy + high * size ≤ py) :
    Calls Try.prog 41 #[.agg #[.int .i64 gx, .int .i64 gy, .int .i64 size, .int .i64 wide, .int .i64 high], .int .i64 px, .int .i64 py] w fun e w' => e = .returned (.tuple #[.int .i64 0, .int .i64 29]) ∧ Below w.heap.size w w'  := by
  have HG := Lib.hid hg
  obtain ⟨⟨X1, X2⟩, ⟨Y1, Y2⟩, ⟨s1, s2⟩, ⟨v1, v2⟩, v3, v4⟩ := gridB_bd (gridC_zero.1 hg)
  have v5 := M.mul_bd (a := wide) (b := size) (A := 64) (B := 10000) (by omega) v2 (by omega) s2
  have v6 := M.mul_bd (a := high) (b := size) (A := 64) (B := 10000) (by omega) v4 (by omega) s2
  have i1 : IntKind.i64.wrap (wide * size) = wide * size := IntWalk.i64_in _ (by omega)
  have i2 : IntKind.i64.wrap (high * size) = high * size := IntWalk.i64_in _ (by omega)
  have i3 : IntKind.i64.wrap (gx + wide * size) = gx + wide * size := IntWalk.i64_in _ (by omega)
  have i4 : IntKind.i64.wrap (gy + high * size) = gy + high * size := IntWalk.i64_in _ (by omega)
  have i5 : IntKind.i64.wrap (gx + wide * size - 1) = gx + wide * size - 1 := IntWalk.i64_in _ (by omega)
  have i6 : IntKind.i64.wrap (gy + high * size - 1) = gy + high * size - 1 := IntWalk.i64_in _ (by omega)
  clear hg
  go_enter Try.func41, Try.ntmps41
  go_wp2_with fail
  refine (refCheckGrid_any _ _ _ _ _ _).mono ?_; rintro e w1 ⟨rfl, hb1⟩
  obtain ⟨k0, k1, k2, k3, k4⟩ := (GridAt.new w gx gy size wide high).keep hb1 (by simp)
  have hbw : Below w.heap.size w w1 := Below.trans (below_alloc _ _) (hb1.mono (by simp))
  have hz : w.heap.size + 1 ≤ w1.heap.size := by have := hb1.size; simp at this; omega
  clear hb1
  rw [HG.out]
  go_wp2
  go_ret2
  exact ⟨rfl, hbw⟩

set_option maxRecDepth 100000 in
set_option maxHeartbeats 1600000 in
theorem refPixel_ok (gx gy size wide high px py : Int) (w : World) (hg : gridC gx gy size wide high = 0) (h : pixB gx gy size wide high px py = true) :
    Calls Try.prog 41 #[.agg #[.int .i64 gx, .int .i64 gy, .int .i64 size, .int .i64 wide, .int .i64 high], .int .i64 px, .int .i64 py] w fun e w' => e = .returned (.tuple #[.int .i64 (pixN gx gy size wide px py), .int .i64 0]) ∧ Below w.heap.size w w'  := by
  have HG := Lib.hid hg
  obtain ⟨⟨X1, X2⟩, ⟨Y1, Y2⟩, ⟨s1, s2⟩, ⟨v1, v2⟩, v3, v4⟩ := gridB_bd (gridC_zero.1 hg)
  have v5 := M.mul_bd (a := wide) (b := size) (A := 64) (B := 10000) (by omega) v2 (by omega) s2
  have v6 := M.mul_bd (a := high) (b := size) (A := 64) (B := 10000) (by omega) v4 (by omega) s2
  have i1 : IntKind.i64.wrap (wide * size) = wide * size := IntWalk.i64_in _ (by omega)
  have i2 : IntKind.i64.wrap (high * size) = high * size := IntWalk.i64_in _ (by omega)
  have i3 : IntKind.i64.wrap (gx + wide * size) = gx + wide * size := IntWalk.i64_in _ (by omega)
  have i4 : IntKind.i64.wrap (gy + high * size) = gy + high * size := IntWalk.i64_in _ (by omega)
  have i5 : IntKind.i64.wrap (gx + wide * size - 1) = gx + wide * size - 1 := IntWalk.i64_in _ (by omega)
  have i6 : IntKind.i64.wrap (gy + high * size - 1) = gy + high * size - 1 := IntWalk.i64_in _ (by omega)
  obtain ⟨a1, a2, b1, b2, q1, q2, q3, q4, q5, q6, m1, m2⟩ := pix_facts hg h
  have j1 : IntKind.i64.wrap (px - gx) = px - gx := IntWalk.i64_in _ (by omega)
  have j2 : IntKind.i64.wrap (py - gy) = py - gy := IntWalk.i64_in _ (by omega)
  have j3 : IntKind.i64.wrap ((px - gx) / size) = (px - gx) / size := IntWalk.i64_in _ (by omega)
  have j4 : IntKind.i64.wrap ((py - gy) / size) = (py - gy) / size := IntWalk.i64_in _ (by omega)
  have j5 : IntKind.i64.wrap ((py - gy) / size * wide) = (py - gy) / size * wide := IntWalk.i64_in _ (by omega)
  have j6 : IntKind.i64.wrap ((py - gy) / size * wide + (px - gx) / size) = (py - gy) / size * wide + (px - gx) / size := IntWalk.i64_in _ (by omega)
  have z1 : (size == 0) = false := by rw [beq_eq_false_iff_ne]; omega
  have z2 : size ≠ 0 := by omega
  have z3 : ¬ size = -1 := by omega
  clear hg
  have h1 : ¬ px < gx := by omega
  have h3 : ¬ py < gy := by omega
  unfold pixB at h
  rw [Bool.and_eq_true, inB_true, inB_true] at h
  have h2 : ¬ gx + wide * size ≤ px := by omega
  have h4 : ¬ gy + high * size ≤ py := by omega
  clear h
  go_enter Try.func41, Try.ntmps41
  go_wp2_with fail
  refine (refCheckGrid_any _ _ _ _ _ _).mono ?_; rintro e w1 ⟨rfl, hb1⟩
  obtain ⟨k0, k1, k2, k3, k4⟩ := (GridAt.new w gx gy size wide high).keep hb1 (by simp)
  have hbw : Below w.heap.size w w1 := Below.trans (below_alloc _ _) (hb1.mono (by simp))
  have hz : w.heap.size + 1 ≤ w1.heap.size := by have := hb1.size; simp at this; omega
  clear hb1
  rw [HG.out]
  go_wp2
  go_quiet (fail)
  go_wp2
  exact bodyPost_ret (v := .tuple #[.int .i64 (pixN gx gy size wide px py), .int .i64 0]) (by simp [results, Try.results41, go_sem, pixN]) rfl ⟨rfl, by repeat (first | exact hbw | (refine below_drewN ?_ _))⟩


def pixE (gc : Int) (b : Bool) : Int := if gc = 0 then (if b = true then 0 else 29) else gc

theorem Pixel_any (gx gy size wide high px py : Int) (w : World) :
    Calls Try.prog 40 #[.agg #[.int .i64 gx, .int .i64 gy, .int .i64 size, .int .i64 wide, .int .i64 high], .int .i64 px, .int .i64 py] w fun e w' => e = .returned (.tuple #[.int .i64 (if (pixE (gridC gx gy size wide high) (pixB gx gy size wide high px py)) = 0 then pixN gx gy size wide px py else 0), .int .i64 (pixE (gridC gx gy size wide high) (pixB gx gy size wide high px py))]) ∧ Below w.heap.size w w'  := by
  by_cases h0 : gridC gx gy size wide high = 0
  · rcases (Bool.eq_false_or_eq_true (pixB gx gy size wide high px py)).symm with h | h
    · have e : (pixE (gridC gx gy size wide high) (pixB gx gy size wide high px py)) = 29 := by rw [h0, h]; rfl
      rw [e, if_neg (by decide)]
      exact Pixel_no gx gy size wide high px py w h0 h
    · have e : (pixE (gridC gx gy size wide high) (pixB gx gy size wide high px py)) = 0 := by rw [h0, h]; rfl
      rw [e, if_pos rfl]
      exact Pixel_ok gx gy size wide high px py w h0 h
  · have e : (pixE (gridC gx gy size wide high) (pixB gx gy size wide high px py)) = gridC gx gy size wide high := by unfold pixE; rw [if_neg h0]
    rw [e, if_neg h0]
    exact Pixel_err gx gy size wide high px py w (bne_iff_ne.2 h0)

theorem refPixel_any (gx gy size wide high px py : Int) (w : World) :
    Calls Try.prog 41 #[.agg #[.int .i64 gx, .int .i64 gy, .int .i64 size, .int .i64 wide, .int .i64 high], .int .i64 px, .int .i64 py] w fun e w' => e = .returned (.tuple #[.int .i64 (if (pixE (gridC gx gy size wide high) (pixB gx gy size wide high px py)) = 0 then pixN gx gy size wide px py else 0), .int .i64 (pixE (gridC gx gy size wide high) (pixB gx gy size wide high px py))]) ∧ Below w.heap.size w w'  := by
  by_cases h0 : gridC gx gy size wide high = 0
  · rcases (Bool.eq_false_or_eq_true (pixB gx gy size wide high px py)).symm with h | h
    · have e : (pixE (gridC gx gy size wide high) (pixB gx gy size wide high px py)) = 29 := by rw [h0, h]; rfl
      rw [e, if_neg (by decide)]
      unfold pixB at h
      by_cases h1 : px < gx
      · exact refPixel_no1 gx gy size wide high px py w h0 h1
      · by_cases h2 : gx + wide * size ≤ px
        · exact refPixel_no2 gx gy size wide high px py w h0 h1 h2
        · by_cases h3 : py < gy
          · exact refPixel_no3 gx gy size wide high px py w h0 h1 h2 h3
          · by_cases h4 : gy + high * size ≤ py
            · exact refPixel_no4 gx gy size wide high px py w h0 h1 h2 h3 h4
            · rw [inB_true.2 ⟨by omega, by omega⟩, inB_true.2 ⟨by omega, by omega⟩] at h
              cases h
    · have e : (pixE (gridC gx gy size wide high) (pixB gx gy size wide high px py)) = 0 := by rw [h0, h]; rfl
      rw [e, if_pos rfl]
      exact refPixel_ok gx gy size wide high px py w h0 h
  · have e : (pixE (gridC gx gy size wide high) (pixB gx gy size wide high px py)) = gridC gx gy size wide high := by unfold pixE; rw [if_neg h0]
    rw [e, if_neg h0]
    exact refPixel_err gx gy size wide high px py w (bne_iff_ne.2 h0)

end Go.Proofs.Ythnjfnapjpdchaa
