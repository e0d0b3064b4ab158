/-
  The walk over the middles of pixels, in the code and in the reference.
-/
import Derived.Test.YthnjfnapjpdchaaX2
import Derived.StillTailTactics
namespace Go.Proofs.Ythnjfnapjpdchaa
open Go.RowKit
set_option linter.unusedVariables false

theorem pair_set {w : World} {b : Nat} {u v c0 c1 : Value} (h0 : w.cell? ⟨b, 0, none⟩ = some c0) (h1 : w.cell? ⟨b, 1, none⟩ = some c1) :
    ((w.setCell ⟨b, 0, none⟩ u).setCell ⟨b, 1, none⟩ v).cell? ⟨b, 0, none⟩ = some u ∧ ((w.setCell ⟨b, 0, none⟩ u).setCell ⟨b, 1, none⟩ v).cell? ⟨b, 1, none⟩ = some v := by
  constructor
  · rw [World.cell?_setCell_other _ _ _ _ (by simp)]
    exact World.cell?_setCell_same' _ _ _ (by rw [h0]; rfl)
  · exact World.cell?_setCell_same' _ _ _ (by rw [World.cell?_setCell_other _ _ _ _ (by simp), h1]; rfl)

def midX (gx size wide k : Int) : Int := gx + k % wide * size + size / 2
def midY (gy size wide k : Int) : Int := gy + k / wide * size + size / 2

theorem div_bd {k : Nat} {wide high : Int} (h1 : 1 ≤ wide) (h2 : 1 ≤ high) (hk : (k : Int) < wide * high) : 0 ≤ (k : Int) / wide ∧ (k : Int) / wide < high :=
  ⟨Int.ediv_nonneg (by omega) (by omega), Int.ediv_lt_of_lt_mul (by omega) (by rw [Int.mul_comm]; exact hk)⟩

theorem mid_bd {gx gy size wide high : Int} {k : Nat} (hg : gridC gx gy size wide high = 0) (hk : (k : Int) < wide * high) : (-2000000 ≤ midX gx size wide k ∧ midX gx size wide k ≤ 2000000) ∧ (-2000000 ≤ midY gy size wide k ∧ midY gy size wide k ≤ 2000000) := by
  obtain ⟨⟨X1, X2⟩, ⟨Y1, Y2⟩, ⟨s1, s2⟩, ⟨v1, v2⟩, v3, v4⟩ := gridB_bd (gridC_zero.1 hg)
  obtain ⟨d1, d2⟩ := div_bd (k := k) (wide := wide) (high := high) (by omega) (by omega) hk
  have r1 : 0 ≤ (k : Int) % wide := Int.emod_nonneg _ (by omega)
  have r2 : (k : Int) % wide < wide := Int.emod_lt_of_pos _ (by omega)
  have p1 := M.mul_bd (a := (k : Int) % wide) (b := size) (A := 64) (B := 10000) r1 (by omega) (by omega) s2
  have p2 := M.mul_bd (a := (k : Int) / wide) (b := size) (A := 64) (B := 10000) d1 (by omega) (by omega) s2
  unfold midX midY
  omega

set_option maxRecDepth 100000 in
set_option maxHeartbeats 6400000 in
theorem middle_any (gx gy size wide high : Int) (k : Nat) (w : World) (hg : gridC gx gy size wide high = 0) (hk : (k : Int) < wide * high) :
    Calls Try.prog 83 #[.agg #[.int .i64 gx, .int .i64 gy, .int .i64 size, .int .i64 wide, .int .i64 high], .int .i64 (k : Int)] w fun e w' => e = .returned (.agg #[.int .i64 (midX gx size wide k), .int .i64 (midY gy size wide k)]) ∧ Below w.heap.size w w' := by
  obtain ⟨⟨X1, X2⟩, ⟨Y1, Y2⟩, ⟨s1, s2⟩, ⟨v1, v2⟩, v3, v4⟩ := gridB_bd (gridC_zero.1 hg)
  have v6 := M.mul_bd (a := wide) (b := high) (A := 64) (B := 64) (by omega) v2 (by omega) v4
  obtain ⟨d1, d2⟩ := div_bd (k := k) (wide := wide) (high := high) (by omega) (by omega) hk
  have r1 : 0 ≤ (k : Int) % wide := Int.emod_nonneg _ (by omega)
  have r2 : (k : Int) % wide < wide := Int.emod_lt_of_pos _ (by omega)
  have p1 := M.mul_bd (a := (k : Int) % wide) (b := size) (A := 64) (B := 10000) r1 (by omega) (by omega) s2
  have p2 := M.mul_bd (a := (k : Int) / wide) (b := size) (A := 64) (B := 10000) d1 (by omega) (by omega) s2
  have q1 : (k : Int).tmod wide = k % wide := Int.tmod_eq_emod_of_nonneg (by omega)
  have q2 : (k : Int).tdiv wide = k / wide := Int.tdiv_eq_ediv_of_nonneg (by omega)
  have q3 : size.tdiv 2 = size / 2 := Int.tdiv_eq_ediv_of_nonneg (by omega)
  have i0 : IntKind.i64.wrap ((k : Int) % wide) = (k : Int) % wide := IntWalk.i64_in _ (by omega)
  have i1 : IntKind.i64.wrap ((k : Int) / wide) = (k : Int) / wide := IntWalk.i64_in _ (by omega)
  have i2 : IntKind.i64.wrap (size / 2) = size / 2 := IntWalk.i64_in _ (by omega)
  have i3 : IntKind.i64.wrap ((k : Int) % wide * size) = (k : Int) % wide * size := IntWalk.i64_in _ (by omega)
  have i4 : IntKind.i64.wrap ((k : Int) / wide * size) = (k : Int) / wide * size := IntWalk.i64_in _ (by omega)
  have i5 : IntKind.i64.wrap (gx + (k : Int) % wide * size) = gx + (k : Int) % wide * size := IntWalk.i64_in _ (by omega)
  have i6 : IntKind.i64.wrap (gy + (k : Int) / wide * size) = gy + (k : Int) / wide * size := IntWalk.i64_in _ (by omega)
  have i7 : IntKind.i64.wrap (gx + (k : Int) % wide * size + size / 2) = gx + (k : Int) % wide * size + size / 2 := IntWalk.i64_in _ (by omega)
  have i8 : IntKind.i64.wrap (gy + (k : Int) / wide * size + size / 2) = gy + (k : Int) / wide * size + size / 2 := IntWalk.i64_in _ (by omega)
  have z1 : (wide == 0) = false := by rw [beq_eq_false_iff_ne]; omega
  have z2 : wide ≠ 0 := by omega
  have z3 : ¬ wide = -1 := by omega
  clear hg hk
  go_enter Try.func83, Try.ntmps83
  go_wp2
  have e2 : (w.alloc (.cells #[.int .i64 gx, .int .i64 gy, .int .i64 size, .int .i64 wide, .int .i64 high] 25)).heap.size = w.heap.size + 1 := World.size_alloc _ _
  have G0 := (GridAt.new w gx gy size wide high).keep (below_alloc _ (.cells #[.int .i64 0, .int .i64 0] 83)) (by omega)
  have O0 := OpenAt.new (w.alloc (.cells #[.int .i64 gx, .int .i64 gy, .int .i64 size, .int .i64 wide, .int .i64 high] 25)) (.int .i64 0) (.int .i64 0) 83
  have B0 : Below w.heap.size w ((w.alloc (.cells #[.int .i64 gx, .int .i64 gy, .int .i64 size, .int .i64 wide, .int .i64 high] 25)).alloc (.cells #[.int .i64 0, .int .i64 0] 83)) := Below.trans (below_alloc _ _) ((below_alloc _ _).mono (by omega))
  have Z0 : w.heap.size + 2 ≤ ((w.alloc (.cells #[.int .i64 gx, .int .i64 gy, .int .i64 size, .int .i64 wide, .int .i64 high] 25)).alloc (.cells #[.int .i64 0, .int .i64 0] 83)).heap.size := by simp
  rw [e2] at O0
  generalize ((w.alloc (.cells #[.int .i64 gx, .int .i64 gy, .int .i64 size, .int .i64 wide, .int .i64 high] 25)).alloc (.cells #[.int .i64 0, .int .i64 0] 83)) = W at *
  obtain ⟨k0, k1, k2, k3, k4⟩ := G0
  obtain ⟨o0, o1, f0, f1⟩ := O0
  clear e2
  go_still_tail 29, (by kernel_rfl)
  change wpList _ _ _ _ _ W.drew
  have hb4 : Below W.heap.size W W.drew := (Below.refl _ _).drew
  have O1 := (⟨o0, o1, f0, f1⟩ : OpenAt W (w.heap.size + 1)).keep hb4 (by omega)
  have B1 : Below w.heap.size w W.drew := B0.drew
  have Z1 : w.heap.size + 1 < W.drew.heap.size := by simp; omega
  clear k0 k1 k2 k3 k4 o0 o1 f0 f1 B0 hb4
  generalize W.drew = w2 at *
  obtain ⟨o0, o1, f0, f1⟩ := O1
  go_wp2
  have hp := pair_set (u := .int .i64 (gx + (k : Int) % wide * size + size / 2)) (v := .int .i64 (gy + (k : Int) / wide * size + size / 2)) o0 o1
  obtain ⟨hp0, hp1⟩ := hp
  exact bodyPost_ret (v := .agg #[.int .i64 (midX gx size wide k), .int .i64 (midY gy size wide k)]) (by simp [results, Try.results83, go_sem, hp0, hp1, midX, midY]) rfl ⟨rfl, Below.setCell (Below.setCell B1 (by simp) _) (by simp) _⟩

set_option maxHeartbeats 3200000 in
theorem refMiddle_any (gx gy size wide high : Int) (k : Nat) (w : World) (hg : gridC gx gy size wide high = 0) (hk : (k : Int) < wide * high) :
    Calls Try.prog 84 #[.agg #[.int .i64 gx, .int .i64 gy, .int .i64 size, .int .i64 wide, .int .i64 high], .int .i64 (k : Int)] w fun e w' => e = .returned (.tuple #[.int .i64 (midX gx size wide k), .int .i64 (midY gy size wide k)]) ∧ Below w.heap.size w w' := by
  obtain ⟨⟨X1, X2⟩, ⟨Y1, Y2⟩, ⟨s1, s2⟩, ⟨v1, v2⟩, v3, v4⟩ := gridB_bd (gridC_zero.1 hg)
  have v6 := M.mul_bd (a := wide) (b := high) (A := 64) (B := 64) (by omega) v2 (by omega) v4
  obtain ⟨d1, d2⟩ := div_bd (k := k) (wide := wide) (high := high) (by omega) (by omega) hk
  have r1 : 0 ≤ (k : Int) % wide := Int.emod_nonneg _ (by omega)
  have r2 : (k : Int) % wide < wide := Int.emod_lt_of_pos _ (by omega)
  have p1 := M.mul_bd (a := (k : Int) % wide) (b := size) (A := 64) (B := 10000) r1 (by omega) (by omega) s2
  have p2 := M.mul_bd (a := (k : Int) / wide) (b := size) (A := 64) (B := 10000) d1 (by omega) (by omega) s2
  have q1 : (k : Int).tmod wide = k % wide := Int.tmod_eq_emod_of_nonneg (by omega)
  have q2 : (k : Int).tdiv wide = k / wide := Int.tdiv_eq_ediv_of_nonneg (by omega)
  have q3 : size.tdiv 2 = size / 2 := Int.tdiv_eq_ediv_of_nonneg (by omega)
  have i0 : IntKind.i64.wrap ((k : Int) % wide) = (k : Int) % wide := IntWalk.i64_in _ (by omega)
  have i1 : IntKind.i64.wrap ((k : Int) / wide) = (k : Int) / wide := IntWalk.i64_in _ (by omega)
  have i2 : IntKind.i64.wrap (size / 2) = size / 2 := IntWalk.i64_in _ (by omega)
  have i3 : IntKind.i64.wrap ((k : Int) % wide * size) = (k : Int) % wide * size := IntWalk.i64_in _ (by omega)
  have i4 : IntKind.i64.wrap ((k : Int) / wide * size) = (k : Int) / wide * size := IntWalk.i64_in _ (by omega)
  have i5 : IntKind.i64.wrap (gx + (k : Int) % wide * size) = gx + (k : Int) % wide * size := IntWalk.i64_in _ (by omega)
  have i6 : IntKind.i64.wrap (gy + (k : Int) / wide * size) = gy + (k : Int) / wide * size := IntWalk.i64_in _ (by omega)
  have i7 : IntKind.i64.wrap (gx + (k : Int) % wide * size + size / 2) = gx + (k : Int) % wide * size + size / 2 := IntWalk.i64_in _ (by omega)
  have i8 : IntKind.i64.wrap (gy + (k : Int) / wide * size + size / 2) = gy + (k : Int) / wide * size + size / 2 := IntWalk.i64_in _ (by omega)
  have z1 : (wide == 0) = false := by rw [beq_eq_false_iff_ne]; omega
  have z2 : wide ≠ 0 := by omega
  have z3 : ¬ wide = -1 := by omega
  clear hg hk
  go_enter Try.func84, Try.ntmps84
  go_wp2
  go_quiet (fail)
  go_wp2
  exact bodyPost_ret (v := .tuple #[.int .i64 (midX gx size wide k), .int .i64 (midY gy size wide k)]) (by simp [results, Try.results84, go_sem, midX, midY]) rfl ⟨rfl, by repeat (first | exact Below.refl _ _ | (refine below_drewN ?_ _) | (refine Below.alloc ?_ (by simp) _))⟩

end Go.Proofs.Ythnjfnapjpdchaa
