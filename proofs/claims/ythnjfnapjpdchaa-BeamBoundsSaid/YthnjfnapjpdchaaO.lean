/-
  The walk over the reference's height.
-/
import Derived.Test.YthnjfnapjpdchaaN
namespace Go.Proofs.Ythnjfnapjpdchaa
open Go.RowKit

theorem cellAt_drew {w : World} {q : Addr} (h : w.cell? q = some (cellAt w q)) : w.drew.cell? q = some (cellAt w.drew q) := h
theorem pair_readD {w : World} {b : Nat} {u v c0 c1 : Value} (h0 : ((w.setCell ⟨b, 0, none⟩ u).setCell ⟨b, 1, none⟩ v).drew.cell? ⟨b, 0, none⟩ = some c0)
    (h1 : ((w.setCell ⟨b, 0, none⟩ u).setCell ⟨b, 1, none⟩ v).drew.cell? ⟨b, 1, none⟩ = some c1) :
    ((w.setCell ⟨b, 0, none⟩ u).setCell ⟨b, 1, none⟩ v).drew.cell? ⟨b, 0, none⟩ = some u ∧ ((w.setCell ⟨b, 0, none⟩ u).setCell ⟨b, 1, none⟩ v).drew.cell? ⟨b, 1, none⟩ = some v :=
  pair_read (w := w) h0 h1

set_option maxHeartbeats 1600000 in
theorem refheight_any (nm : ByteArray) (x y z rose gates step width t lo hi gate : Int) (w : World) (h1 : -8 ≤ t) (h2 : t ≤ 264) (s1 : 50 ≤ step) (s2 : step ≤ 2000) (g1 : 0 ≤ gate) (g2 : gate ≤ 199) (z1 : 0 ≤ z) (z2 : z ≤ 20000) (e1 : 1000000 ≤ lo) (e2 : lo ≤ 100000000) (e3 : 1000000 ≤ hi) (e4 : hi ≤ 100000000) :
    Calls Try.prog 74 #[.agg #[.string nm, .int .i64 x, .int .i64 y, .int .i64 z, .int .i64 rose, .int .i64 gates, .int .i64 step, .int .i64 width], .int .i64 t, .agg #[.int .i64 lo, .int .i64 hi], .int .i64 gate] w
      fun e w' => e = .returned (.agg #[.int .i64 (climbLo z step t gate hi), .int .i64 (climbHi z step t gate lo)]) ∧ Below w.heap.size w w' := by
  obtain ⟨a1, a2⟩ := runLo_bd h1 h2 s1 s2 g1 g2
  obtain ⟨a3, a4⟩ := runHi_bd h1 h2 s1 s2 g1 g2
  have b3 := M.mul_bd a1 a2 a1 a2
  have b3' := M.mul_bd a3 a4 a3 a4
  have b4 := sinN_bd h1 h2 s1 s2 g1 g2
  unfold sinN at b4
  have b5 := runD_bd h1 h2
  have b6 := M.mul_bd (a := 2 * gate + 1) (b := step) (A := 399) (B := 2000) (by omega) (by omega) (by omega) s2
  have b7 : 0 ≤ t * t := M.sq_nonneg t
  have b8 : t * t ≤ 69696 := (M.sq_bd (a := t) (A := 264) (by omega) h2).2
  have b9 := quo_bd (a := (2 * gate + 1) * step * (1024 * t)) (b := runD t) (A := 215728128000) (by omega) (by omega) (by omega)
  have b9' := quo_bd (a := -((2 * gate + 1) * step * (1024 * t))) (b := runD t) (A := 215728128000) (by omega) (by omega) (by omega)
  have b10 := quo_bd (a := runLo step t gate * runLo step t gate) (b := 2 * hi) (A := 399000 * 399000) (by omega) (by omega) (by omega)
  have b10' := quo_bd (a := -(runHi step t gate * runHi step t gate)) (b := 2 * lo) (A := 399000 * 399000) (by omega) (by omega) (by omega)
  have q5 : IntKind.i64.wrap (2 * (262144 + t * t)) = runD t := IntWalk.i64_in _ (by omega)
  have q6 : IntKind.i64.wrap (runLo step t gate * runLo step t gate) = runLo step t gate * runLo step t gate := IntWalk.i64_in _ (by omega)
  have q6' : IntKind.i64.wrap (runHi step t gate * runHi step t gate) = runHi step t gate * runHi step t gate := IntWalk.i64_in _ (by omega)
  have q7 : IntKind.i64.wrap (2 * hi) = 2 * hi := IntWalk.i64_in _ (by omega)
  have q7' : IntKind.i64.wrap (2 * lo) = 2 * lo := IntWalk.i64_in _ (by omega)
  have q8 : IntKind.i64.wrap (z + (2 * gate + 1) * step * (1024 * t) / runD t) = z + (2 * gate + 1) * step * (1024 * t) / runD t := IntWalk.i64_in _ (by omega)
  have q8' : IntKind.i64.wrap (z + -(-((2 * gate + 1) * step * (1024 * t)) / runD t)) = z + -(-((2 * gate + 1) * step * (1024 * t)) / runD t) := IntWalk.i64_in _ (by omega)
  have q9 : IntKind.i64.wrap (z + (2 * gate + 1) * step * (1024 * t) / runD t + runLo step t gate * runLo step t gate / (2 * hi)) = climbLo z step t gate hi := IntWalk.i64_in _ (by omega)
  have q9' : IntKind.i64.wrap (z + -(-((2 * gate + 1) * step * (1024 * t)) / runD t) + -(-(runHi step t gate * runHi step t gate) / (2 * lo))) = climbHi z step t gate lo := IntWalk.i64_in _ (by omega)
  go_enter Try.func74, Try.ntmps74
  go_wp2_with (first | (go_at_call 28; refine (refSlant_ok _ _ h1 h2).mono ?_; rintro e w' ⟨rfl, rfl⟩) | (go_at_call 70; refine (refground_any _ _ _ _ _ _ _ _ _ _ _ h1 h2 s1 s2 g1 g2).mono ?_; rintro e w1 ⟨rfl, hb⟩; have hz := hb.size; simp only [World.size_alloc] at hz; obtain ⟨k0, k1, k2, k3, k4, k5, k6, k7, k8⟩ : w1.cell? ⟨w.heap.size, 0, none⟩ = some (.string nm) ∧ w1.cell? ⟨w.heap.size, 1, none⟩ = some (.int .i64 x) ∧ w1.cell? ⟨w.heap.size, 2, none⟩ = some (.int .i64 y) ∧ w1.cell? ⟨w.heap.size, 3, none⟩ = some (.int .i64 z) ∧ w1.cell? ⟨w.heap.size, 4, none⟩ = some (.int .i64 rose) ∧ w1.cell? ⟨w.heap.size, 5, none⟩ = some (.int .i64 gates) ∧ w1.cell? ⟨w.heap.size, 6, none⟩ = some (.int .i64 step) ∧ w1.cell? ⟨w.heap.size, 7, none⟩ = some (.int .i64 width) ∧ w.heap.size < w1.heap.size := by (refine ⟨?_, ?_, ?_, ?_, ?_, ?_, ?_, ?_, ?_⟩ <;> first | ((repeat (first | (refine alloc_new ?_ rfl; with_reducible rfl) | (refine alloc_keep ?_ ?_; ((try simp only [World.size_alloc]); omega)) | (refine keepB hb ?_ ?_; ((try simp only [World.size_alloc]); omega)))); done) | omega)))
  generalize hw2 : w1.alloc (.cells #[.int .i64 (runLo step t gate), .int .i64 (runHi step t gate)] 43) = w2
  obtain ⟨K0, K1, K2, K3, K4, K5, K6, K7, K8, K9, K10, K11, K12, K13, K14, K15, K16, K17⟩ : w2.cell? ⟨w.heap.size, 0, none⟩ = some (.string nm) ∧ w2.cell? ⟨w.heap.size, 1, none⟩ = some (.int .i64 x) ∧ w2.cell? ⟨w.heap.size, 2, none⟩ = some (.int .i64 y) ∧ w2.cell? ⟨w.heap.size, 3, none⟩ = some (.int .i64 z) ∧ w2.cell? ⟨w.heap.size, 4, none⟩ = some (.int .i64 rose) ∧ w2.cell? ⟨w.heap.size, 5, none⟩ = some (.int .i64 gates) ∧ w2.cell? ⟨w.heap.size, 6, none⟩ = some (.int .i64 step) ∧ w2.cell? ⟨w.heap.size, 7, none⟩ = some (.int .i64 width) ∧ w2.cell? ⟨w.heap.size + 1, 0, none⟩ = some (.int .i64 lo) ∧ w2.cell? ⟨w.heap.size + 1, 1, none⟩ = some (.int .i64 hi) ∧ w2.cell? ⟨w.heap.size + 1 + 1, 0, none⟩ = some (cellAt w2 ⟨w.heap.size + 1 + 1, 0, none⟩) ∧ w2.cell? ⟨w.heap.size + 1 + 1, 1, none⟩ = some (cellAt w2 ⟨w.heap.size + 1 + 1, 1, none⟩) ∧ w2.frozen? ⟨w.heap.size + 1 + 1, 0, none⟩ = false ∧ w2.frozen? ⟨w.heap.size + 1 + 1, 1, none⟩ = false ∧
      w2.cell? ⟨w1.heap.size, 0, none⟩ = some (.int .i64 (runLo step t gate)) ∧ w2.cell? ⟨w1.heap.size, 1, none⟩ = some (.int .i64 (runHi step t gate)) ∧ w1.heap.size < w2.heap.size ∧ Below w.heap.size w w2 := by
    subst hw2
    refine ⟨?_, ?_, ?_, ?_, ?_, ?_, ?_, ?_, ?_, ?_, ?_, ?_, ?_, ?_, ?_, ?_, ?_, ?_⟩ <;> first | ((repeat (first | (refine alloc_new ?_ rfl; with_reducible rfl) | (refine alloc_new ?_ rfl; simp only [World.size_alloc]; done) | (refine alloc_keep ?_ ?_; ((try simp only [World.size_alloc]); omega)) | (refine keepB hb ?_ ?_; ((try simp only [World.size_alloc]); omega)))); done) | (refine cellAt_mk (v := .int .i64 0) ?_; (repeat (first | (refine alloc_new ?_ rfl; with_reducible rfl) | (refine alloc_new ?_ rfl; simp only [World.size_alloc]; done) | (refine alloc_keep ?_ ?_; ((try simp only [World.size_alloc]); omega)) | (refine keepB hb ?_ ?_; ((try simp only [World.size_alloc]); omega)))); done) | ((repeat (first | (refine alloc_newF ?_; with_reducible rfl) | (refine alloc_newF ?_; simp only [World.size_alloc]; done) | (refine alloc_keepF ?_ ?_; ((try simp only [World.size_alloc]); omega)) | (refine keepF hb ?_ ?_; ((try simp only [World.size_alloc]); omega)))); done) | (simp; done) | (simp; omega) | (refine Below.alloc (Below.trans ?_ (hb.mono ?_)) ?_ _; exact (((Below.refl _ _).alloc (Nat.le_refl _) _).alloc (by simp) _).alloc (by simp; omega) _; (simp; omega); omega)
  clear hw2 k0 k1 k2 k3 k4 k5 k6 k7
  go_region_held3 (fun w' => w'.cell? ⟨w.heap.size, 0, none⟩ = some (.string nm) ∧ w'.cell? ⟨w.heap.size, 1, none⟩ = some (.int .i64 x) ∧ w'.cell? ⟨w.heap.size, 2, none⟩ = some (.int .i64 y) ∧ w'.cell? ⟨w.heap.size, 3, none⟩ = some (.int .i64 z) ∧ w'.cell? ⟨w.heap.size, 4, none⟩ = some (.int .i64 rose) ∧ w'.cell? ⟨w.heap.size, 5, none⟩ = some (.int .i64 gates) ∧ w'.cell? ⟨w.heap.size, 6, none⟩ = some (.int .i64 step) ∧ w'.cell? ⟨w.heap.size, 7, none⟩ = some (.int .i64 width) ∧ w'.cell? ⟨w.heap.size + 1, 0, none⟩ = some (.int .i64 lo) ∧ w'.cell? ⟨w.heap.size + 1, 1, none⟩ = some (.int .i64 hi) ∧ w'.cell? ⟨w.heap.size + 1 + 1, 0, none⟩ = some (cellAt w' ⟨w.heap.size + 1 + 1, 0, none⟩) ∧ w'.cell? ⟨w.heap.size + 1 + 1, 1, none⟩ = some (cellAt w' ⟨w.heap.size + 1 + 1, 1, none⟩) ∧ w'.frozen? ⟨w.heap.size + 1 + 1, 0, none⟩ = false ∧ w'.frozen? ⟨w.heap.size + 1 + 1, 1, none⟩ = false ∧
      w'.cell? ⟨w1.heap.size, 0, none⟩ = some (.int .i64 (runLo step t gate)) ∧ w'.cell? ⟨w1.heap.size, 1, none⟩ = some (.int .i64 (runHi step t gate)) ∧ w1.heap.size < w'.heap.size ∧ Below w.heap.size w w')
    (first | exact ⟨K0, K1, K2, K3, K4, K5, K6, K7, K8, K9, K10, K11, K12, K13, K14, K15, K16, K17.drew⟩ | (go_split_ands; refine ⟨?_, ?_, ?_, ?_, ?_, ?_, ?_, ?_, ?_, ?_, ?_, ?_, ?_, ?_, ?_, ?_, ?_, ?_⟩ <;> first | assumption | exact cellAt_drew (cellAt_set (cellAt_set (by assumption))) | (refine drew_cell ?_; rw [World.cell?_setCell_far _ _ _ _ (by dsimp only; omega), World.cell?_setCell_far _ _ _ _ (by dsimp only; omega)]; assumption) | (refine drew_frozen ?_; simp; assumption) | (refine Below.drew (Below.setCell (Below.setCell K17 ?_ _) ?_ _); (dsimp only; omega); (dsimp only; omega)) | exact keepB hb4 (by omega) (by assumption) | exact keepA hb4 (by omega) (by assumption) | exact keepF hb4 (by omega) (by assumption) | (have := hb4.size; omega) | exact Below.trans (by assumption) (hb4.mono (by omega)) | (refine Below.setCell (Below.setCell ?_ ?_ _) ?_ _; (assumption); (dsimp only; omega); (dsimp only; omega)) | exact cellAt_set (cellAt_set (by assumption)) | (rw [World.cell?_setCell_far _ _ _ _ (by dsimp only; omega), World.cell?_setCell_far _ _ _ _ (by dsimp only; omega)]; assumption) | (simp; assumption) | (simp; omega)))
    (first | (go_at_call 77; refine (Down_any _ _ _ (by omega) (by omega) (by omega)).mono ?_; rintro e w' ⟨rfl, rfl⟩) | (go_at_call 94; refine (Up_any _ _ _ (by omega) (by omega) (by omega)).mono ?_; rintro e w' ⟨rfl, rfl⟩))
  go_split_ands
  have hp := pair_readD (by assumption) (by assumption)
  obtain ⟨hp0, hp1⟩ := hp
  go_wp2
  exact bodyPost_ret (v := .agg #[.int .i64 (climbLo z step t gate hi), .int .i64 (climbHi z step t gate lo)]) (by simp [results, Try.results74, go_sem, hp0, hp1]) rfl ⟨rfl, by assumption⟩

end Go.Proofs.Ythnjfnapjpdchaa
