/-
  The walk over isRay and place.
-/
import Derived.Test.YthnjfnapjpdchaaQ0
import Derived.Test.YthnjfnapjpdchaaS2
namespace Go.Proofs.Ythnjfnapjpdchaa
open Go.RowKit
set_option linter.unusedVariables false

set_option maxHeartbeats 400000 in
theorem isRay_any (nm : ByteArray) (x y z rose gates step width ray : Int) (w : World) (h1 : 1 ≤ rose) (h2 : rose ≤ 90) :
    Calls Try.prog 75 #[.agg #[.string nm, .int .i64 x, .int .i64 y, .int .i64 z, .int .i64 rose, .int .i64 gates, .int .i64 step, .int .i64 width], .int .i64 ray] w
      fun e w' => e = .returned (.bool (inB ray 0 (4 * rose - 1))) ∧ Below w.heap.size w w' := by
  go_enter Try.func75, Try.ntmps75
  go_wp2_with (go_at_call 59; refine (isIn_any _ _ _ _).mono ?_; rintro e w' ⟨rfl, rfl⟩)
  go_ret
  exact ⟨rfl, (Below.refl _ _).alloc (Nat.le_refl _) _⟩

/-- the place of a gate -/
def plX (x rose step t ray gate : Int) : Int := x + runLo step t gate * dirX (2 * rose) (2 * ray + 1) / dirL (2 * rose) (2 * ray + 1)
def plY (y rose step t ray gate : Int) : Int := y + runLo step t gate * dirY (2 * rose) (2 * ray + 1) / dirL (2 * rose) (2 * ray + 1)

theorem mul_abs {a b A B : Int} (h1 : 0 ≤ a) (h2 : a ≤ A) (h3 : -B ≤ b) (h4 : b ≤ B) (hB : 0 ≤ B) : -(A * B) ≤ a * b ∧ a * b ≤ A * B := by
  have m1 : a * b ≤ a * B := Int.mul_le_mul_of_nonneg_left h4 h1
  have m2 : a * B ≤ A * B := Int.mul_le_mul_of_nonneg_right h2 hB
  have m3 : a * (-B) ≤ a * b := Int.mul_le_mul_of_nonneg_left h3 h1
  rw [Int.mul_neg] at m3
  omega

theorem quot_bd {p l : Int} (h1 : 1 ≤ l) {B : Int} (h2 : -B ≤ p) (h3 : p ≤ B) (hB : 0 ≤ B) : -B ≤ p / l ∧ p / l ≤ B := by
  constructor
  · apply Int.le_ediv_of_mul_le (by omega)
    have : B * 1 ≤ B * l := Int.mul_le_mul_of_nonneg_left h1 hB
    rw [Int.neg_mul]; omega
  · have : B * 1 ≤ B * l := Int.mul_le_mul_of_nonneg_left h1 hB
    have : p / l < B + 1 := Int.ediv_lt_of_lt_mul (by omega) (by rw [Int.add_mul]; omega)
    omega

theorem down_b (a b : Int) (w : World) (hb : 1 ≤ b) (ha1 : -1000000000000000 ≤ a) (ha2 : a ≤ 1000000000000000) :
    Calls Try.prog 92 #[.int .i64 a, .int .i64 b] w fun e w' => e = .returned (.int .i64 (a / b)) ∧ Below w.heap.size w w' :=
  (down_any a b w hb ha1 ha2).mono fun _ _ h => ⟨h.1, h.2 ▸ Below.refl _ _⟩

set_option maxHeartbeats 1600000 in
theorem place_any (nm : ByteArray) (x y z rose gates step width t ray gate : Int) (w : World) (hk : SiteOk x y z rose gates step width) (h1 : 0 ≤ t) (h2 : t ≤ 256) (r1 : 0 ≤ ray) (r2 : ray < 4 * rose) (g1 : 0 ≤ gate) (g2 : gate ≤ 199) :
    Calls Try.prog 76 #[.agg #[.string nm, .int .i64 x, .int .i64 y, .int .i64 z, .int .i64 rose, .int .i64 gates, .int .i64 step, .int .i64 width], .int .i64 t, .int .i64 ray, .int .i64 gate] w
      fun e w' => e = .returned (.agg #[.int .i64 (plX x rose step t ray gate), .int .i64 (plY y rose step t ray gate)]) ∧ Below w.heap.size w w' := by
  obtain ⟨x1, x2, y1, y2, z1, z2, q1, q2, G1, G2, s1, s2, d1, d2⟩ := hk
  obtain ⟨e1, e2⟩ := runLo_bd (t := t) (by omega) (by omega) s1 s2 g1 g2
  obtain ⟨⟨b1, b2⟩, ⟨b3, b4⟩, b5, b6⟩ := dir_bd (n := 2 * rose) (d := 2 * ray + 1) (by omega) (by omega) (by omega) (by omega)
  have m1 := mul_abs e1 e2 b1 b2 (by omega)
  have m2 := mul_abs e1 e2 b3 b4 (by omega)
  have k1 := quot_bd b5 (B := 399000 * 64800) m1.1 m1.2 (by omega)
  have k2 := quot_bd b5 (B := 399000 * 64800) m2.1 m2.2 (by omega)
  have i1 : IntKind.i64.wrap (runLo step t gate * dirX (2 * rose) (2 * ray + 1)) = runLo step t gate * dirX (2 * rose) (2 * ray + 1) := IntWalk.i64_in _ (by omega)
  have i2 : IntKind.i64.wrap (runLo step t gate * dirY (2 * rose) (2 * ray + 1)) = runLo step t gate * dirY (2 * rose) (2 * ray + 1) := IntWalk.i64_in _ (by omega)
  have i3 : IntKind.i64.wrap (x + runLo step t gate * dirX (2 * rose) (2 * ray + 1) / dirL (2 * rose) (2 * ray + 1)) = x + runLo step t gate * dirX (2 * rose) (2 * ray + 1) / dirL (2 * rose) (2 * ray + 1) := IntWalk.i64_in _ (by omega)
  have i4 : IntKind.i64.wrap (y + runLo step t gate * dirY (2 * rose) (2 * ray + 1) / dirL (2 * rose) (2 * ray + 1)) = y + runLo step t gate * dirY (2 * rose) (2 * ray + 1) / dirL (2 * rose) (2 * ray + 1) := IntWalk.i64_in _ (by omega)
  go_enter Try.func76, Try.ntmps76
  go_wp2_with fail
  refine (roundings_any _).mono ?_; rintro e w3 ⟨rfl, hw3⟩; subst hw3
  go_wp2_with fail
  refine (run_down _ _ _ _ _ _ _ _ _ _ _ (by omega) (by omega) s1 s2 g1 g2).mono ?_; rintro e w1 ⟨rfl, hb1⟩
  have T1 : Two w w1 nm x y z rose gates step width := by
    refine Two.keep (Two.keep (Two.new w nm x y z rose gates step width (.int .i64 0) (.int .i64 0) 83) (by first | exact (below_alloc _ _) | exact (below_alloc _ _).drew | exact (below_alloc _ _).drew.drew) (by simp)) hb1 (by simp)
  clear hb1
  obtain ⟨⟨k0, k1, k2, k3, k4, k5, k6, k7⟩, ⟨o0, o1, f0, f1⟩, hz, hbw⟩ := T1
  go_wp2_with fail
  refine (towards_any _ _ _ (by omega) (by omega) (by omega) (by omega)).mono ?_; rintro e w2 ⟨rfl, hb2⟩
  have T2 := (⟨⟨k0, k1, k2, k3, k4, k5, k6, k7⟩, ⟨o0, o1, f0, f1⟩, hz, hbw⟩ : Two w w1 nm x y z rose gates step width).keep hb2 (by omega)
  clear k0 k1 k2 k3 k4 k5 k6 k7 o0 o1 f0 f1 hz hbw hb2
  obtain ⟨⟨k0, k1, k2, k3, k4, k5, k6, k7⟩, ⟨o0, o1, f0, f1⟩, hz, hbw⟩ := T2
  go_wp2_with fail
  have hz3 : w.heap.size + 1 < w2.heap.size := by omega
  have hb4 : Below w2.heap.size w2 (w2.alloc (.cells #[.int .i64 (dirX (2 * rose) (2 * ray + 1)), .int .i64 (dirY (2 * rose) (2 * ray + 1))] 83)).drew := ((Below.refl _ _).alloc (Nat.le_refl _) _).drew
  have hk8 : (w2.alloc (.cells #[.int .i64 (dirX (2 * rose) (2 * ray + 1)), .int .i64 (dirY (2 * rose) (2 * ray + 1))] 83)).drew.cell? ⟨w2.heap.size, 0, none⟩ = some (.int .i64 (dirX (2 * rose) (2 * ray + 1))) := by simp
  have hk9 : (w2.alloc (.cells #[.int .i64 (dirX (2 * rose) (2 * ray + 1)), .int .i64 (dirY (2 * rose) (2 * ray + 1))] 83)).drew.cell? ⟨w2.heap.size, 1, none⟩ = some (.int .i64 (dirY (2 * rose) (2 * ray + 1))) := by simp
  have hk10 : w2.heap.size < (w2.alloc (.cells #[.int .i64 (dirX (2 * rose) (2 * ray + 1)), .int .i64 (dirY (2 * rose) (2 * ray + 1))] 83)).drew.heap.size := by simp
  have hbw2 : Below w.heap.size w (w2.alloc (.cells #[.int .i64 (dirX (2 * rose) (2 * ray + 1)), .int .i64 (dirY (2 * rose) (2 * ray + 1))] 83)).drew := hbw.trans (hb4.mono (by omega))
  have lead : (fun w' : World => w'.cell? ⟨w.heap.size, 0, none⟩ = some (.string nm) ∧ w'.cell? ⟨w.heap.size, 1, none⟩ = some (.int .i64 x) ∧ w'.cell? ⟨w.heap.size, 2, none⟩ = some (.int .i64 y) ∧ w'.cell? ⟨w.heap.size, 3, none⟩ = some (.int .i64 z) ∧ w'.cell? ⟨w.heap.size, 4, none⟩ = some (.int .i64 rose) ∧ w'.cell? ⟨w.heap.size, 5, none⟩ = some (.int .i64 gates) ∧ w'.cell? ⟨w.heap.size, 6, none⟩ = some (.int .i64 step) ∧ w'.cell? ⟨w.heap.size, 7, none⟩ = some (.int .i64 width) ∧ w'.cell? ⟨w.heap.size + 1, 0, none⟩ = some (cellAt w' ⟨w.heap.size + 1, 0, none⟩) ∧ w'.cell? ⟨w.heap.size + 1, 1, none⟩ = some (cellAt w' ⟨w.heap.size + 1, 1, none⟩) ∧ w'.frozen? ⟨w.heap.size + 1, 0, none⟩ = false ∧ w'.frozen? ⟨w.heap.size + 1, 1, none⟩ = false ∧ w'.cell? ⟨w2.heap.size, 0, none⟩ = some (.int .i64 (dirX (2 * rose) (2 * ray + 1))) ∧ w'.cell? ⟨w2.heap.size, 1, none⟩ = some (.int .i64 (dirY (2 * rose) (2 * ray + 1))) ∧ w2.heap.size < w'.heap.size ∧ Below w.heap.size w w') (w2.alloc (.cells #[.int .i64 (dirX (2 * rose) (2 * ray + 1)), .int .i64 (dirY (2 * rose) (2 * ray + 1))] 83)).drew := by
    refine ⟨?_, ?_, ?_, ?_, ?_, ?_, ?_, ?_, ?_, ?_, ?_, ?_, ?_, ?_, ?_, ?_⟩ <;> first | exact hbw2 | exact hk8 | exact hk9 | exact hk10 | (exact keepB hb4 (by omega) (by assumption)) | (exact keepA hb4 (by omega) (by assumption)) | (exact keepF hb4 (by omega) (by assumption))
  have LEAD := Lib.hid lead
  clear lead hk8 hk9 hb4 hbw2 hk10 k0 k1 k2 k3 k4 k5 k6 k7 o0 o1 f0 f1 hz hbw
  have hz3 := Lib.hid hz3
  go_outline
  go_region_held3 (fun w' => w'.cell? ⟨w.heap.size, 0, none⟩ = some (.string nm) ∧ w'.cell? ⟨w.heap.size, 1, none⟩ = some (.int .i64 x) ∧ w'.cell? ⟨w.heap.size, 2, none⟩ = some (.int .i64 y) ∧ w'.cell? ⟨w.heap.size, 3, none⟩ = some (.int .i64 z) ∧ w'.cell? ⟨w.heap.size, 4, none⟩ = some (.int .i64 rose) ∧ w'.cell? ⟨w.heap.size, 5, none⟩ = some (.int .i64 gates) ∧ w'.cell? ⟨w.heap.size, 6, none⟩ = some (.int .i64 step) ∧ w'.cell? ⟨w.heap.size, 7, none⟩ = some (.int .i64 width) ∧ w'.cell? ⟨w.heap.size + 1, 0, none⟩ = some (cellAt w' ⟨w.heap.size + 1, 0, none⟩) ∧ w'.cell? ⟨w.heap.size + 1, 1, none⟩ = some (cellAt w' ⟨w.heap.size + 1, 1, none⟩) ∧ w'.frozen? ⟨w.heap.size + 1, 0, none⟩ = false ∧ w'.frozen? ⟨w.heap.size + 1, 1, none⟩ = false ∧ w'.cell? ⟨w2.heap.size, 0, none⟩ = some (.int .i64 (dirX (2 * rose) (2 * ray + 1))) ∧ w'.cell? ⟨w2.heap.size, 1, none⟩ = some (.int .i64 (dirY (2 * rose) (2 * ray + 1))) ∧ w2.heap.size < w'.heap.size ∧ Below w.heap.size w w')
    (first | exact LEAD.out | (go_split_ands; have hz4 := hz3.out; refine ⟨?_, ?_, ?_, ?_, ?_, ?_, ?_, ?_, ?_, ?_, ?_, ?_, ?_, ?_, ?_, ?_⟩ <;> first | assumption | exact keepB hb4 (by omega) (by assumption) | exact keepA hb4 (by omega) (by assumption) | exact keepF hb4 (by omega) (by assumption) | (have := hb4.size; omega) | exact Below.trans (by assumption) (hb4.mono (by omega)) | (refine Below.setCell (Below.setCell ?_ ?_ _) ?_ _; (assumption); (dsimp only; omega); (dsimp only; omega)) | exact cellAt_set (cellAt_set (by assumption)) | (rw [World.cell?_setCell_far _ _ _ _ (by dsimp only; omega), World.cell?_setCell_far _ _ _ _ (by dsimp only; omega)]; assumption) | (simp; assumption) | (simp; omega)))
    (first | (go_at_call 92; refine (down_b _ _ _ (by omega) (by omega) (by omega)).mono ?_; rintro e w4 ⟨rfl, hb4⟩))
  go_split_ands
  have hp := pair_read (by assumption) (by assumption)
  obtain ⟨hp0, hp1⟩ := hp
  go_wp2
  exact bodyPost_ret (v := .agg #[.int .i64 (plX x rose step t ray gate), .int .i64 (plY y rose step t ray gate)]) (by simp [results, Try.results76, go_sem, hp0, hp1, plX, plY]) rfl ⟨rfl, by assumption⟩

end Go.Proofs.Ythnjfnapjpdchaa
