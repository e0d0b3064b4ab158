/-
  The walk over the reference's height.
-/
import Derived.Test.Ythnjfnapjpdchaamg3
import Derived.Test.Ythnjfnapjpdchaamg6
import Derived.Test.Ythnjfnapjpdchaamg7
import Derived.Test.Ythnjfnapjpdchaamg8
import Derived.Test.Ythnjfnapjpdchaamg13
namespace Go.Proofs.Ythnjfnapjpdchaa
open Go.RowKit

theorem cellAt_drew {w : World} {q : Addr} (h : w.cell? q = some (cellAt w q)) : w.drew.cell? q = some (cellAt w.drew q) := h
theorem pair_readD {w : World} {b : Nat} {u v c0 c1 : Value} (h0 : ((w.setCell ⟨b, 0, none⟩ u).setCell ⟨b, 1, none⟩ v).drew.cell? ⟨b, 0, none⟩ = some c0)
    (h1 : ((w.setCell ⟨b, 0, none⟩ u).setCell ⟨b, 1, none⟩ v).drew.cell? ⟨b, 1, none⟩ = some c1) :
    ((w.setCell ⟨b, 0, none⟩ u).setCell ⟨b, 1, none⟩ v).drew.cell? ⟨b, 0, none⟩ = some u ∧ ((w.setCell ⟨b, 0, none⟩ u).setCell ⟨b, 1, none⟩ v).drew.cell? ⟨b, 1, none⟩ = some v :=
  pair_read (w := w) h0 h1

set_option maxHeartbeats 1600000 in
theorem refheight_any (nm : ByteArray) (x y z rose gates step width t lo hi gate : Int) (w : World) (h1 : -8 ≤ t) (h2 : t ≤ 264) (s1 : 50 ≤ step) (s2 : step ≤ 2000) (g1 : 0 ≤ gate) (g2 : gate ≤ 199) (z1 : 0 ≤ z) (z2 : z ≤ 20000) (e1 : 1000000 ≤ lo) (e2 : lo ≤ 100000000) (e3 : 1000000 ≤ hi) (e4 : hi ≤ 100000000) :
    Calls Try.prog 74 #[.agg #[.string nm, .int .i64 x, .int .i64 y, .int .i64 z, .int .i64 rose, .int .i64 gates, .int .i64 step, .int .i64 width], .int .i64 t, .agg #[.int .i64 lo, .int .i64 hi], .int .i64 gate] w
      fun e w' => e = .returned (.agg #[.int .i64 (climbLo z step t gate hi), .int .i64 (climbHi z step t gate lo)]) ∧ Below w.heap.size w w' := by
  obtain ⟨a1, a2⟩ := runLo_bd h1 h2 s1 s2 g1 g2
  obtain ⟨a3, a4⟩ := runHi_bd h1 h2 s1 s2 g1 g2
  have b3 := M.mul_bd a1 a2 a1 a2
  have b3' := M.mul_bd a3 a4 a3 a4
  have b4 := sinN_bd h1 h2 s1 s2 g1 g2
  unfold sinN at b4
  have b5 := runD_bd h1 h2
  have b6 := M.mul_bd (a := 2 * gate + 1) (b := step) (A := 399) (B := 2000) (by omega) (by omega) (by omega) s2
  have b7 : 0 ≤ t * t := M.sq_nonneg t
  have b8 : t * t ≤ 69696 := (M.sq_bd (a := t) (A := 264) (by omega) h2).2
  have b9 := quo_bd (a := (2 * gate + 1) * step * (1024 * t)) (b := runD t) (A := 215728128000) (by omega) (by omega) (by omega)
  have b9' := quo_bd (a := -((2 * gate + 1) * step * (1024 * t))) (b := runD t) (A := 215728128000) (by omega) (by omega) (by omega)
  have b10 := quo_bd (a := runLo step t gate * runLo step t gate) (b := 2 * hi) (A := 399000 * 399000) (by omega) (by omega) (by omega)
  have b10' := quo_bd (a := -(runHi step t gate * runHi step t gate)) (b := 2 * lo) (A := 399000 * 399000) (by omega) (by omega) (by omega)
  have q5 : IntKind.i64.wrap (2 * (262144 + t * t)) = runD t := IntWalk.i64_in _ (by omega)
  have q6 : IntKind.i64.wrap (runLo step t gate * runLo step t gate) = runLo step t gate * runLo step t gate := IntWalk.i64_in _ (by omega)
  have q6' : IntKind.i64.wrap (runHi step t gate * runHi step t gate) = runHi step t gate * runHi step t gate := IntWalk.i64_in _ (by omega)
  have q7 : IntKind.i64.wrap (2 * hi) = 2 * hi := IntWalk.i64_in _ (by omega)
  have q7' : IntKind.i64.wrap (2 * lo) = 2 * lo := IntWalk.i64_in _ (by omega)
  have q8 : IntKind.i64.wrap (z + (2 * gate + 1) * step * (1024 * t) / runD t) = z + (2 * gate + 1) * step * (1024 * t) / runD t := IntWalk.i64_in _ (by omega)
  have q8' : IntKind.i64.wrap (z + -(-((2 * gate + 1) * step * (1024 * t)) / runD t)) = z + -(-((2 * gate + 1) * step * (1024 * t)) / runD t) := IntWalk.i64_in _ (by omega)
  have q9 : IntKind.i64.wrap (z + (2 * gate + 1) * step * (1024 * t) / runD t + runLo step t gate * runLo step t gate / (2 * hi)) = climbLo z step t gate hi := IntWalk.i64_in _ (by omega)
  have q9' : IntKind.i64.wrap (z + -(-((2 * gate + 1) * step * (1024 * t)) / runD t) + -(-(runHi step t gate * runHi step t gate) / (2 * lo))) = climbHi z step t gate lo := IntWalk.i64_in _ (by omega)
  go_enter Try.func74, Try.ntmps74
  go_wp2_with (first | (go_at_call 28; refine (refSlant_ok _ _ h1 h2).mono ?_; rintro e w' ⟨rfl, rfl⟩) | (go_at_call 70; refine (refground_any _ _ _ _ _ _ _ _ _ _ _ h1 h2 s1 s2 g1 g2).mono ?_; rintro e w1 ⟨rfl, hb⟩; have hz := hb.size; simp only [World.size_alloc] at hz; obtain ⟨k0, k1, k2, k3, k4, k5, k6, k7, k8⟩ : w1.cell? ⟨w.heap.size, 0, none⟩ = some (.string nm) ∧ w1.cell? ⟨w.heap.size, 1, none⟩ = some (.int .i64 x) ∧ w1.cell? ⟨w.heap.size, 2, none⟩ = some (.int .i64 y) ∧ w1.cell? ⟨w.heap.size, 3, none⟩ = some (.int .i64 z) ∧ w1.cell? ⟨w.heap.size, 4, none⟩ = some (.int .i64 rose) ∧ w1.cell? ⟨w.heap.size, 5, none⟩ = some (.int .i64 gates) ∧ w1.cell? ⟨w.heap.size, 6, none⟩ = some (.int .i64 step) ∧ w1.cell? ⟨w.heap.size, 7, none⟩ = some (.int .i64 width) ∧ w.heap.size < w1.heap.size := by (refine ⟨?_, ?_, ?_, ?_, ?_, ?_, ?_, ?_, ?_⟩ <;> first | ((repeat (first | (refine alloc_new ?_ rfl; with_reducible rfl) | (refine alloc_keep ?_ ?_; ((try simp only [World.size_alloc]); omega)) | (refine keepB hb ?_ ?_; ((try simp only [World.size_alloc]); omega)))); done) | omega)))
  generalize hw2 : w1.alloc (.cells #[.int .i64 (runLo step t gate), .int .i64 (runHi step t gate)] 43) = w2
  obtain ⟨K0, K1, K2, K3, K4, K5, K6, K7, K8, K9, K10, K11, K12, K13, K14, K15, K16, K17⟩ : w2.cell? ⟨w.heap.size, 0, none⟩ = some (.string nm) ∧ w2.cell? ⟨w.heap.size, 1, none⟩ = some (.int .i64 x) ∧ w2.cell? ⟨w.heap.size, 2, none⟩ = some (.int .i64 y) ∧ w2.cell? ⟨w.heap.size, 3, none⟩ = some (.int .i64 z) ∧ w2.cell? ⟨w.heap.size, 4, none⟩ = some (.int .i64 rose) ∧ w2.cell? ⟨w.heap.size, 5, none⟩ = some (.int .i64 gates) ∧ w2.cell? ⟨w.heap.size, 6, none⟩ = some (.int .i64 step) ∧ w2.cell? ⟨w.heap.size, 7, none⟩ = some (.int .i64 width) ∧ w2.cell? ⟨w.heap.size + 1, 0, none⟩ = some (.int .i64 lo) ∧ w2.cell? ⟨w.heap.size + 1, 1, none⟩ = some (.int .i64 hi) ∧ w2.cell? ⟨w.heap.size + 1 + 1, 0, none⟩ = some (cellAt w2 ⟨w.heap.size + 1 + 1, 0, none⟩) ∧ w2.cell? ⟨w.heap.size + 1 + 1, 1, none⟩ = some (cellAt w2 ⟨w.heap.size + 1 + 1, 1, none⟩) ∧ w2.frozen? ⟨w.heap.size + 1 + 1, 0, none⟩ = false ∧ w2.frozen? ⟨w.heap.size + 1 + 1, 1, none⟩ = false ∧
      w2.cell? ⟨w1.heap.size, 0, none⟩ = some (.int .i64 (runLo step t gate)) ∧ w2.cell? ⟨w1.heap.size, 1, none⟩ = some (.int .i64 (runHi step t gate)) ∧ w1.heap.size < w2.heap.size ∧ Below w.heap.size w w2 := by
    subst hw2
    refine ⟨?_, ?_, ?_, ?_, ?_, ?_, ?_, ?_, ?_, ?_, ?_, ?_, ?_, ?_, ?_, ?_, ?_, ?_⟩ <;> first | ((repeat (first | (refine alloc_new ?_ rfl; with_reducible rfl) | (refine alloc_new ?_ rfl; simp only [World.size_alloc]; done) | (refine alloc_keep ?_ ?_; ((try simp only [World.size_alloc]); omega)) | (refine keepB hb ?_ ?_; ((try simp only [World.size_alloc]); omega)))); done) | (refine cellAt_mk (v := .int .i64 0) ?_; (repeat (first | (refine alloc_new ?_ rfl; with_reducible rfl) | (refine alloc_new ?_ rfl; simp only [World.size_alloc]; done) | (refine alloc_keep ?_ ?_; ((try simp only [World.size_alloc]); omega)) | (refine keepB hb ?_ ?_; ((try simp only [World.size_alloc]); omega)))); done) | ((repeat (first | (refine alloc_newF ?_; with_reducible rfl) | (refine alloc_newF ?_; simp only [World.size_alloc]; done) | (refine alloc_keepF ?_ ?_; ((try simp only [World.size_alloc]); omega)) | (refine keepF hb ?_ ?_; ((try simp only [World.size_alloc]); omega)))); done) | (simp; done) | (simp; omega) | (refine Below.alloc (Below.trans ?_ (hb.mono ?_)) ?_ _; exact (((Below.refl _ _).alloc (Nat.le_refl _) _).alloc (by simp) _).alloc (by simp; omega) _; (simp; omega); omega)
  clear hw2 k0 k1 k2 k3 k4 k5 k6 k7
  go_region_held3 (fun w' => w'.cell? ⟨w.heap.size, 0, none⟩ = some (.string nm) ∧ w'.cell? ⟨w.heap.size, 1, none⟩ = some (.int .i64 x) ∧ w'.cell? ⟨w.heap.size, 2, none⟩ = some (.int .i64 y) ∧ w'.cell? ⟨w.heap.size, 3, none⟩ = some (.int .i64 z) ∧ w'.cell? ⟨w.heap.size, 4, none⟩ = some (.int .i64 rose) ∧ w'.cell? ⟨w.heap.size, 5, none⟩ = some (.int .i64 gates) ∧ w'.cell? ⟨w.heap.size, 6, none⟩ = some (.int .i64 step) ∧ w'.cell? ⟨w.heap.size, 7, none⟩ = some (.int .i64 width) ∧ w'.cell? ⟨w.heap.size + 1, 0, none⟩ = some (.int .i64 lo) ∧ w'.cell? ⟨w.heap.size + 1, 1, none⟩ = some (.int .i64 hi) ∧ w'.cell? ⟨w.heap.size + 1 + 1, 0, none⟩ = some (cellAt w' ⟨w.heap.size + 1 + 1, 0, none⟩) ∧ w'.cell? ⟨w.heap.size + 1 + 1, 1, none⟩ = some (cellAt w' ⟨w.heap.size + 1 + 1, 1, none⟩) ∧ w'.frozen? ⟨w.heap.size + 1 + 1, 0, none⟩ = false ∧ w'.frozen? ⟨w.heap.size + 1 + 1, 1, none⟩ = false ∧
      w'.cell? ⟨w1.heap.size, 0, none⟩ = some (.int .i64 (runLo step t gate)) ∧ w'.cell? ⟨w1.heap.size, 1, none⟩ = some (.int .i64 (runHi step t gate)) ∧ w1.heap.size < w'.heap.size ∧ Below w.heap.size w w')
    (first | exact ⟨K0, K1, K2, K3, K4, K5, K6, K7, K8, K9, K10, K11, K12, K13, K14, K15, K16, K17.drew⟩ | (go_split_ands; refine ⟨?_, ?_, ?_, ?_, ?_, ?_, ?_, ?_, ?_, ?_, ?_, ?_, ?_, ?_, ?_, ?_, ?_, ?_⟩ <;> first | assumption | exact cellAt_drew (cellAt_set (cellAt_set (by assumption))) | (refine drew_cell ?_; rw [World.cell?_setCell_far _ _ _ _ (by dsimp only; omega), World.cell?_setCell_far _ _ _ _ (by dsimp only; omega)]; assumption) | (refine drew_frozen ?_; simp; assumption) | (refine Below.drew (Below.setCell (Below.setCell K17 ?_ _) ?_ _); (dsimp only; omega); (dsimp only; omega)) | exact keepB hb4 (by omega) (by assumption) | exact keepA hb4 (by omega) (by assumption) | exact keepF hb4 (by omega) (by assumption) | (have := hb4.size; omega) | exact Below.trans (by assumption) (hb4.mono (by omega)) | (refine Below.setCell (Below.setCell ?_ ?_ _) ?_ _; (assumption); (dsimp only; omega); (dsimp only; omega)) | exact cellAt_set (cellAt_set (by assumption)) | (rw [World.cell?_setCell_far _ _ _ _ (by dsimp only; omega), World.cell?_setCell_far _ _ _ _ (by dsimp only; omega)]; assumption) | (simp; assumption) | (simp; omega)))
    (first | (go_at_call 77; refine (Down_any _ _ _ (by omega) (by omega) (by omega)).mono ?_; rintro e w' ⟨rfl, rfl⟩) | (go_at_call 94; refine (Up_any _ _ _ (by omega) (by omega) (by omega)).mono ?_; rintro e w' ⟨rfl, rfl⟩))
  go_split_ands
  have hp := pair_readD (by assumption) (by assumption)
  obtain ⟨hp0, hp1⟩ := hp
  go_wp2
  exact bodyPost_ret (v := .agg #[.int .i64 (climbLo z step t gate hi), .int .i64 (climbHi z step t gate lo)]) (by simp [results, Try.results74, go_sem, hp0, hp1]) rfl ⟨rfl, by assumption⟩

end Go.Proofs.Ythnjfnapjpdchaa

namespace Go.Proofs.Ythnjfnapjpdchaa
open Go.RowKit
set_option linter.unusedVariables false

set_option maxHeartbeats 1600000 in
theorem Height_err (nm : ByteArray) (x y z rose gates step width : Int) (t lo hi gate : Int) (w : World) (hs : nm.size ≤ maxLen) (hne : (siteC nm x y z rose gates step width != 0) = true) :
    Calls Try.prog 31 #[.agg #[.string nm, .int .i64 x, .int .i64 y, .int .i64 z, .int .i64 rose, .int .i64 gates, .int .i64 step, .int .i64 width], .int .i64 t, .agg #[.int .i64 lo, .int .i64 hi], .int .i64 gate] w
      fun e w' => e = .returned (.tuple #[.agg #[.int .i64 0, .int .i64 0], .int .i64 (siteC nm x y z rose gates step width)]) ∧ Below w.heap.size w w' := by
  have HS := Lib.hid hs
  clear hs
  go_enter Try.func31, Try.ntmps31
  go_wp2_with fail
  refine (CheckSite_any _ _ _ _ _ _ _ _ _ HS.out).mono ?_; rintro e w1 ⟨rfl, hb1⟩
  have T1 := (Three.new w nm x y z rose gates step width lo hi (.int .i64 0) (.int .i64 0) 43 43).keep hb1 (by simp only [World.size_alloc]; omega)
  clear hb1
  obtain ⟨⟨k0, k1, k2, k3, k4, k5, k6, k7⟩, ⟨p0, p1⟩, ⟨o0, o1, f0, f1⟩, hz, hbw⟩ := T1
  go_wp2
  exact bodyPost_ret (v := .tuple #[.agg #[.int .i64 0, .int .i64 0], .int .i64 (siteC nm x y z rose gates step width)]) (by simp [results, Try.results31, go_sem, o0, o1]) rfl ⟨rfl, Below.setCell (Below.setCell hbw (by dsimp only; omega) _) (by dsimp only; omega) _⟩

set_option maxHeartbeats 1600000 in
theorem Height_no0 (nm : ByteArray) (x y z rose gates step width : Int) (t lo hi gate : Int) (w : World) (hs : nm.size ≤ maxLen) (h0 : siteC nm x y z rose gates step width = 0) (hg1 : 1 ≤ gates) (hg2 : gates ≤ 200) (c0 : inB t (-8) 264 = false) :
    Calls Try.prog 31 #[.agg #[.string nm, .int .i64 x, .int .i64 y, .int .i64 z, .int .i64 rose, .int .i64 gates, .int .i64 step, .int .i64 width], .int .i64 t, .agg #[.int .i64 lo, .int .i64 hi], .int .i64 gate] w
      fun e w' => e = .returned (.tuple #[.agg #[.int .i64 0, .int .i64 0], .int .i64 3]) ∧ Below w.heap.size w w' := by
  have HS := Lib.hid hs
  have H0 := Lib.hid h0
  clear hs h0
  go_enter Try.func31, Try.ntmps31
  go_wp2_with fail
  refine (CheckSite_any _ _ _ _ _ _ _ _ _ HS.out).mono ?_; rintro e w1 ⟨rfl, hb1⟩
  have T1 := (Three.new w nm x y z rose gates step width lo hi (.int .i64 0) (.int .i64 0) 43 43).keep hb1 (by simp only [World.size_alloc]; omega)
  clear hb1
  rw [H0.out]
  obtain ⟨⟨k0, k1, k2, k3, k4, k5, k6, k7⟩, ⟨p0, p1⟩, ⟨o0, o1, f0, f1⟩, hz, hbw⟩ := T1
  go_wp2_with fail
  refine (isSlanted_any _ _).mono ?_; rintro e w' ⟨rfl, rfl⟩
  go_wp2
  exact bodyPost_ret (v := .tuple #[.agg #[.int .i64 0, .int .i64 0], .int .i64 3]) (by simp [results, Try.results31, go_sem, o0, o1]) rfl ⟨rfl, Below.setCell (Below.setCell hbw (by dsimp only; omega) _) (by dsimp only; omega) _⟩

set_option maxHeartbeats 1600000 in
theorem Height_no1 (nm : ByteArray) (x y z rose gates step width : Int) (t lo hi gate : Int) (w : World) (hs : nm.size ≤ maxLen) (h0 : siteC nm x y z rose gates step width = 0) (hg1 : 1 ≤ gates) (hg2 : gates ≤ 200) (c0 : inB t (-8) 264 = true) (c1 : spanB lo hi 1000000 100000000 = false) :
    Calls Try.prog 31 #[.agg #[.string nm, .int .i64 x, .int .i64 y, .int .i64 z, .int .i64 rose, .int .i64 gates, .int .i64 step, .int .i64 width], .int .i64 t, .agg #[.int .i64 lo, .int .i64 hi], .int .i64 gate] w
      fun e w' => e = .returned (.tuple #[.agg #[.int .i64 0, .int .i64 0], .int .i64 3]) ∧ Below w.heap.size w w' := by
  have HS := Lib.hid hs
  have H0 := Lib.hid h0
  clear hs h0
  go_enter Try.func31, Try.ntmps31
  go_wp2_with fail
  refine (CheckSite_any _ _ _ _ _ _ _ _ _ HS.out).mono ?_; rintro e w1 ⟨rfl, hb1⟩
  have T1 := (Three.new w nm x y z rose gates step width lo hi (.int .i64 0) (.int .i64 0) 43 43).keep hb1 (by simp only [World.size_alloc]; omega)
  clear hb1
  rw [H0.out]
  obtain ⟨⟨k0, k1, k2, k3, k4, k5, k6, k7⟩, ⟨p0, p1⟩, ⟨o0, o1, f0, f1⟩, hz, hbw⟩ := T1
  go_wp2_with fail
  refine (isSlanted_any _ _).mono ?_; rintro e w' ⟨rfl, rfl⟩
  go_wp2_with fail
  refine (isEarth_any _ _ _).mono ?_; rintro e w2 ⟨rfl, hb2⟩
  have T2 := (⟨⟨k0, k1, k2, k3, k4, k5, k6, k7⟩, ⟨p0, p1⟩, ⟨o0, o1, f0, f1⟩, hz, hbw⟩ : Three w w1 nm x y z rose gates step width lo hi).keep hb2 (by omega)
  clear k0 k1 k2 k3 k4 k5 k6 k7 o0 o1 f0 f1 hz hbw p0 p1
  clear hb2
  obtain ⟨⟨k0, k1, k2, k3, k4, k5, k6, k7⟩, ⟨p0, p1⟩, ⟨o0, o1, f0, f1⟩, hz, hbw⟩ := T2
  go_wp2
  exact bodyPost_ret (v := .tuple #[.agg #[.int .i64 0, .int .i64 0], .int .i64 3]) (by simp [results, Try.results31, go_sem, o0, o1]) rfl ⟨rfl, Below.setCell (Below.setCell hbw (by dsimp only; omega) _) (by dsimp only; omega) _⟩

set_option maxHeartbeats 1600000 in
theorem Height_no2 (nm : ByteArray) (x y z rose gates step width : Int) (t lo hi gate : Int) (w : World) (hs : nm.size ≤ maxLen) (h0 : siteC nm x y z rose gates step width = 0) (hg1 : 1 ≤ gates) (hg2 : gates ≤ 200) (c0 : inB t (-8) 264 = true) (c1 : spanB lo hi 1000000 100000000 = true) (c2 : inB gate 0 (gates - 1) = false) :
    Calls Try.prog 31 #[.agg #[.string nm, .int .i64 x, .int .i64 y, .int .i64 z, .int .i64 rose, .int .i64 gates, .int .i64 step, .int .i64 width], .int .i64 t, .agg #[.int .i64 lo, .int .i64 hi], .int .i64 gate] w
      fun e w' => e = .returned (.tuple #[.agg #[.int .i64 0, .int .i64 0], .int .i64 3]) ∧ Below w.heap.size w w' := by
  have HS := Lib.hid hs
  have H0 := Lib.hid h0
  clear hs h0
  go_enter Try.func31, Try.ntmps31
  go_wp2_with fail
  refine (CheckSite_any _ _ _ _ _ _ _ _ _ HS.out).mono ?_; rintro e w1 ⟨rfl, hb1⟩
  have T1 := (Three.new w nm x y z rose gates step width lo hi (.int .i64 0) (.int .i64 0) 43 43).keep hb1 (by simp only [World.size_alloc]; omega)
  clear hb1
  rw [H0.out]
  obtain ⟨⟨k0, k1, k2, k3, k4, k5, k6, k7⟩, ⟨p0, p1⟩, ⟨o0, o1, f0, f1⟩, hz, hbw⟩ := T1
  go_wp2_with fail
  refine (isSlanted_any _ _).mono ?_; rintro e w' ⟨rfl, rfl⟩
  go_wp2_with fail
  refine (isEarth_any _ _ _).mono ?_; rintro e w2 ⟨rfl, hb2⟩
  have T2 := (⟨⟨k0, k1, k2, k3, k4, k5, k6, k7⟩, ⟨p0, p1⟩, ⟨o0, o1, f0, f1⟩, hz, hbw⟩ : Three w w1 nm x y z rose gates step width lo hi).keep hb2 (by omega)
  clear k0 k1 k2 k3 k4 k5 k6 k7 o0 o1 f0 f1 hz hbw p0 p1
  clear hb2
  obtain ⟨⟨k0, k1, k2, k3, k4, k5, k6, k7⟩, ⟨p0, p1⟩, ⟨o0, o1, f0, f1⟩, hz, hbw⟩ := T2
  go_wp2_with fail
  refine (isGate_any _ _ _ _ _ _ _ _ _ _ hg1 hg2).mono ?_; rintro e w3 ⟨rfl, hb3⟩
  have T3 := (⟨⟨k0, k1, k2, k3, k4, k5, k6, k7⟩, ⟨p0, p1⟩, ⟨o0, o1, f0, f1⟩, hz, hbw⟩ : Three w w2 nm x y z rose gates step width lo hi).keep hb3 (by omega)
  clear k0 k1 k2 k3 k4 k5 k6 k7 o0 o1 f0 f1 hz hbw p0 p1
  clear hb3
  obtain ⟨⟨k0, k1, k2, k3, k4, k5, k6, k7⟩, ⟨p0, p1⟩, ⟨o0, o1, f0, f1⟩, hz, hbw⟩ := T3
  go_wp2
  exact bodyPost_ret (v := .tuple #[.agg #[.int .i64 0, .int .i64 0], .int .i64 3]) (by simp [results, Try.results31, go_sem, o0, o1]) rfl ⟨rfl, Below.setCell (Below.setCell hbw (by dsimp only; omega) _) (by dsimp only; omega) _⟩

set_option maxHeartbeats 3200000 in
theorem Height_ok (nm : ByteArray) (x y z rose gates step width : Int) (t lo hi gate : Int) (w : World) (hs : nm.size ≤ maxLen) (h0 : siteC nm x y z rose gates step width = 0) (hk : SiteOk x y z rose gates step width) (c0 : inB t (-8) 264 = true) (c1 : spanB lo hi 1000000 100000000 = true) (c2 : inB gate 0 (gates - 1) = true) :
    Calls Try.prog 31 #[.agg #[.string nm, .int .i64 x, .int .i64 y, .int .i64 z, .int .i64 rose, .int .i64 gates, .int .i64 step, .int .i64 width], .int .i64 t, .agg #[.int .i64 lo, .int .i64 hi], .int .i64 gate] w
      fun e w' => e = .returned (.tuple #[.agg #[.int .i64 (climbLo z step t gate hi), .int .i64 (climbHi z step t gate lo)], .int .i64 0]) ∧ Below w.heap.size w w' := by
  have HS := Lib.hid hs
  have H0 := Lib.hid h0
  obtain ⟨x1, x2, y1, y2, z1, z2, r1, r2, hg1, hg2, s1, s2, d1, d2⟩ := hk
  obtain ⟨t1, t2⟩ := inB_true.1 c0
  obtain ⟨g1, g3⟩ := inB_gate c2
  obtain ⟨e1, e0, e4⟩ := spanB_true.1 c1
  clear hs h0
  go_enter Try.func31, Try.ntmps31
  go_wp2_with fail
  refine (CheckSite_any _ _ _ _ _ _ _ _ _ HS.out).mono ?_; rintro e w1 ⟨rfl, hb1⟩
  have T1 := (Three.new w nm x y z rose gates step width lo hi (.int .i64 0) (.int .i64 0) 43 43).keep hb1 (by simp only [World.size_alloc]; omega)
  clear hb1
  rw [H0.out]
  obtain ⟨⟨k0, k1, k2, k3, k4, k5, k6, k7⟩, ⟨p0, p1⟩, ⟨o0, o1, f0, f1⟩, hz, hbw⟩ := T1
  go_wp2_with fail
  refine (isSlanted_any _ _).mono ?_; rintro e w' ⟨rfl, rfl⟩
  go_wp2_with fail
  refine (isEarth_any _ _ _).mono ?_; rintro e w2 ⟨rfl, hb2⟩
  have T2 := (⟨⟨k0, k1, k2, k3, k4, k5, k6, k7⟩, ⟨p0, p1⟩, ⟨o0, o1, f0, f1⟩, hz, hbw⟩ : Three w w1 nm x y z rose gates step width lo hi).keep hb2 (by omega)
  clear k0 k1 k2 k3 k4 k5 k6 k7 o0 o1 f0 f1 hz hbw p0 p1
  clear hb2
  obtain ⟨⟨k0, k1, k2, k3, k4, k5, k6, k7⟩, ⟨p0, p1⟩, ⟨o0, o1, f0, f1⟩, hz, hbw⟩ := T2
  go_wp2_with fail
  refine (isGate_any _ _ _ _ _ _ _ _ _ _ hg1 hg2).mono ?_; rintro e w3 ⟨rfl, hb3⟩
  have T3 := (⟨⟨k0, k1, k2, k3, k4, k5, k6, k7⟩, ⟨p0, p1⟩, ⟨o0, o1, f0, f1⟩, hz, hbw⟩ : Three w w2 nm x y z rose gates step width lo hi).keep hb3 (by omega)
  clear k0 k1 k2 k3 k4 k5 k6 k7 o0 o1 f0 f1 hz hbw p0 p1
  clear hb3
  obtain ⟨⟨k0, k1, k2, k3, k4, k5, k6, k7⟩, ⟨p0, p1⟩, ⟨o0, o1, f0, f1⟩, hz, hbw⟩ := T3
  go_wp2_with fail
  refine (height_any _ _ _ _ _ _ _ _ _ _ _ _ _ (by omega) (by omega) s1 s2 g1 (by omega) z1 z2 e1 (by omega) (by omega) e4).mono ?_; rintro e w4 ⟨rfl, hb4⟩
  have T4 := (⟨⟨k0, k1, k2, k3, k4, k5, k6, k7⟩, ⟨p0, p1⟩, ⟨o0, o1, f0, f1⟩, hz, hbw⟩ : Three w w3 nm x y z rose gates step width lo hi).keep hb4 (by omega)
  clear k0 k1 k2 k3 k4 k5 k6 k7 o0 o1 f0 f1 hz hbw p0 p1
  clear hb4
  obtain ⟨⟨k0, k1, k2, k3, k4, k5, k6, k7⟩, ⟨p0, p1⟩, ⟨o0, o1, f0, f1⟩, hz, hbw⟩ := T4
  go_wp2
  exact bodyPost_ret (v := .tuple #[.agg #[.int .i64 (climbLo z step t gate hi), .int .i64 (climbHi z step t gate lo)], .int .i64 0]) (by simp [results, Try.results31, go_sem, o0, o1]) rfl ⟨rfl, Below.setCell (Below.setCell hbw (by dsimp only; omega) _) (by dsimp only; omega) _⟩

theorem Height_any (nm : ByteArray) (x y z rose gates step width : Int) (t lo hi gate : Int) (w : World) (hs : nm.size ≤ maxLen) :
    Calls Try.prog 31 #[.agg #[.string nm, .int .i64 x, .int .i64 y, .int .i64 z, .int .i64 rose, .int .i64 gates, .int .i64 step, .int .i64 width], .int .i64 t, .agg #[.int .i64 lo, .int .i64 hi], .int .i64 gate] w
      fun e w' => e = .returned (.tuple #[.agg #[.int .i64 (val (codeE (siteC nm x y z rose gates step width) (inB t (-8) 264 && spanB lo hi 1000000 100000000 && inB gate 0 (gates - 1))) (climbLo z step t gate hi)), .int .i64 (val (codeE (siteC nm x y z rose gates step width) (inB t (-8) 264 && spanB lo hi 1000000 100000000 && inB gate 0 (gates - 1))) (climbHi z step t gate lo))], .int .i64 (codeE (siteC nm x y z rose gates step width) (inB t (-8) 264 && spanB lo hi 1000000 100000000 && inB gate 0 (gates - 1)))]) ∧ Below w.heap.size w w' := by
  by_cases h0 : siteC nm x y z rose gates step width = 0
  · have hk := (siteC_zero.1 h0).2
    have hg1 := hk.g1
    have hg2 := hk.g2
    rcases (Bool.eq_false_or_eq_true (inB t (-8) 264)).symm with c0 | c0
    · have e : (codeE (siteC nm x y z rose gates step width) (inB t (-8) 264 && spanB lo hi 1000000 100000000 && inB gate 0 (gates - 1))) = 3 := by rw [h0, c0]; rfl
      rw [e, val_no, val_no]
      exact Height_no0 nm x y z rose gates step width t lo hi gate w hs h0 hg1 hg2 c0
    · have _u := hg1
      rcases (Bool.eq_false_or_eq_true (spanB lo hi 1000000 100000000)).symm with c1 | c1
      · have e : (codeE (siteC nm x y z rose gates step width) (inB t (-8) 264 && spanB lo hi 1000000 100000000 && inB gate 0 (gates - 1))) = 3 := by rw [h0, c0, c1]; rfl
        rw [e, val_no, val_no]
        exact Height_no1 nm x y z rose gates step width t lo hi gate w hs h0 hg1 hg2 c0 c1
      · have _u := hg1
        rcases (Bool.eq_false_or_eq_true (inB gate 0 (gates - 1))).symm with c2 | c2
        · have e : (codeE (siteC nm x y z rose gates step width) (inB t (-8) 264 && spanB lo hi 1000000 100000000 && inB gate 0 (gates - 1))) = 3 := by rw [h0, c0, c1, c2]; rfl
          rw [e, val_no, val_no]
          exact Height_no2 nm x y z rose gates step width t lo hi gate w hs h0 hg1 hg2 c0 c1 c2
        · have e : (codeE (siteC nm x y z rose gates step width) (inB t (-8) 264 && spanB lo hi 1000000 100000000 && inB gate 0 (gates - 1))) = 0 := by rw [h0, c0, c1, c2]; rfl
          rw [e, val_ok, val_ok]
          exact Height_ok nm x y z rose gates step width t lo hi gate w hs h0 hk c0 c1 c2
  · rw [codeE_err h0, val_err h0, val_err h0]
    exact Height_err nm x y z rose gates step width t lo hi gate w hs (bne_iff_ne.2 h0)

set_option maxHeartbeats 1600000 in
theorem refHeight_err (nm : ByteArray) (x y z rose gates step width : Int) (t lo hi gate : Int) (w : World) (hs : nm.size ≤ maxLen) (hne : (siteC nm x y z rose gates step width != 0) = true) :
    Calls Try.prog 32 #[.agg #[.string nm, .int .i64 x, .int .i64 y, .int .i64 z, .int .i64 rose, .int .i64 gates, .int .i64 step, .int .i64 width], .int .i64 t, .agg #[.int .i64 lo, .int .i64 hi], .int .i64 gate] w
      fun e w' => e = .returned (.tuple #[.agg #[.int .i64 0, .int .i64 0], .int .i64 (siteC nm x y z rose gates step width)]) ∧ Below w.heap.size w w' := by
  have HS := Lib.hid hs
  clear hs
  go_enter Try.func32, Try.ntmps32
  go_wp2_with fail
  refine (refCheckSite_any _ _ _ _ _ _ _ _ _ HS.out).mono ?_; rintro e w1 ⟨rfl, hb1⟩
  have T1 := (Three.new w nm x y z rose gates step width lo hi (.int .i64 0) (.int .i64 0) 43 43).keep hb1 (by simp only [World.size_alloc]; omega)
  clear hb1
  obtain ⟨⟨k0, k1, k2, k3, k4, k5, k6, k7⟩, ⟨p0, p1⟩, ⟨o0, o1, f0, f1⟩, hz, hbw⟩ := T1
  go_wp2
  exact bodyPost_ret (v := .tuple #[.agg #[.int .i64 0, .int .i64 0], .int .i64 (siteC nm x y z rose gates step width)]) (by simp [results, Try.results32, go_sem, o0, o1]) rfl ⟨rfl, Below.setCell (Below.setCell hbw (by dsimp only; omega) _) (by dsimp only; omega) _⟩

set_option maxHeartbeats 1600000 in
theorem refHeight_no0 (nm : ByteArray) (x y z rose gates step width : Int) (t lo hi gate : Int) (w : World) (hs : nm.size ≤ maxLen) (h0 : siteC nm x y z rose gates step width = 0) (hg1 : 1 ≤ gates) (hg2 : gates ≤ 200) (c0 : inB t (-8) 264 = false) :
    Calls Try.prog 32 #[.agg #[.string nm, .int .i64 x, .int .i64 y, .int .i64 z, .int .i64 rose, .int .i64 gates, .int .i64 step, .int .i64 width], .int .i64 t, .agg #[.int .i64 lo, .int .i64 hi], .int .i64 gate] w
      fun e w' => e = .returned (.tuple #[.agg #[.int .i64 0, .int .i64 0], .int .i64 3]) ∧ Below w.heap.size w w' := by
  have HS := Lib.hid hs
  have H0 := Lib.hid h0
  clear hs h0
  go_enter Try.func32, Try.ntmps32
  go_wp2_with fail
  refine (refCheckSite_any _ _ _ _ _ _ _ _ _ HS.out).mono ?_; rintro e w1 ⟨rfl, hb1⟩
  have T1 := (Three.new w nm x y z rose gates step width lo hi (.int .i64 0) (.int .i64 0) 43 43).keep hb1 (by simp only [World.size_alloc]; omega)
  clear hb1
  rw [H0.out]
  obtain ⟨⟨k0, k1, k2, k3, k4, k5, k6, k7⟩, ⟨p0, p1⟩, ⟨o0, o1, f0, f1⟩, hz, hbw⟩ := T1
  go_wp2_with fail
  refine (refIn_any _ _ _ _).mono ?_; rintro e w' ⟨rfl, rfl⟩
  go_wp2
  exact bodyPost_ret (v := .tuple #[.agg #[.int .i64 0, .int .i64 0], .int .i64 3]) (by simp [results, Try.results32, go_sem, o0, o1]) rfl ⟨rfl, Below.setCell (Below.setCell hbw (by dsimp only; omega) _) (by dsimp only; omega) _⟩

set_option maxHeartbeats 1600000 in
theorem refHeight_no1 (nm : ByteArray) (x y z rose gates step width : Int) (t lo hi gate : Int) (w : World) (hs : nm.size ≤ maxLen) (h0 : siteC nm x y z rose gates step width = 0) (hg1 : 1 ≤ gates) (hg2 : gates ≤ 200) (c0 : inB t (-8) 264 = true) (c1 : spanB lo hi 1000000 100000000 = false) :
    Calls Try.prog 32 #[.agg #[.string nm, .int .i64 x, .int .i64 y, .int .i64 z, .int .i64 rose, .int .i64 gates, .int .i64 step, .int .i64 width], .int .i64 t, .agg #[.int .i64 lo, .int .i64 hi], .int .i64 gate] w
      fun e w' => e = .returned (.tuple #[.agg #[.int .i64 0, .int .i64 0], .int .i64 3]) ∧ Below w.heap.size w w' := by
  have HS := Lib.hid hs
  have H0 := Lib.hid h0
  clear hs h0
  go_enter Try.func32, Try.ntmps32
  go_wp2_with fail
  refine (refCheckSite_any _ _ _ _ _ _ _ _ _ HS.out).mono ?_; rintro e w1 ⟨rfl, hb1⟩
  have T1 := (Three.new w nm x y z rose gates step width lo hi (.int .i64 0) (.int .i64 0) 43 43).keep hb1 (by simp only [World.size_alloc]; omega)
  clear hb1
  rw [H0.out]
  obtain ⟨⟨k0, k1, k2, k3, k4, k5, k6, k7⟩, ⟨p0, p1⟩, ⟨o0, o1, f0, f1⟩, hz, hbw⟩ := T1
  go_wp2_with fail
  refine (refIn_any _ _ _ _).mono ?_; rintro e w' ⟨rfl, rfl⟩
  go_wp2_with fail
  refine (Earth_any _ _ _).mono ?_; rintro e w2 ⟨rfl, hb2⟩
  have T2 := (⟨⟨k0, k1, k2, k3, k4, k5, k6, k7⟩, ⟨p0, p1⟩, ⟨o0, o1, f0, f1⟩, hz, hbw⟩ : Three w w1 nm x y z rose gates step width lo hi).keep hb2 (by omega)
  clear k0 k1 k2 k3 k4 k5 k6 k7 o0 o1 f0 f1 hz hbw p0 p1
  clear hb2
  obtain ⟨⟨k0, k1, k2, k3, k4, k5, k6, k7⟩, ⟨p0, p1⟩, ⟨o0, o1, f0, f1⟩, hz, hbw⟩ := T2
  go_wp2
  exact bodyPost_ret (v := .tuple #[.agg #[.int .i64 0, .int .i64 0], .int .i64 3]) (by simp [results, Try.results32, go_sem, o0, o1]) rfl ⟨rfl, Below.setCell (Below.setCell hbw (by dsimp only; omega) _) (by dsimp only; omega) _⟩

set_option maxHeartbeats 1600000 in
theorem refHeight_no2 (nm : ByteArray) (x y z rose gates step width : Int) (t lo hi gate : Int) (w : World) (hs : nm.size ≤ maxLen) (h0 : siteC nm x y z rose gates step width = 0) (hg1 : 1 ≤ gates) (hg2 : gates ≤ 200) (c0 : inB t (-8) 264 = true) (c1 : spanB lo hi 1000000 100000000 = true) (c2 : inB gate 0 (gates - 1) = false) :
    Calls Try.prog 32 #[.agg #[.string nm, .int .i64 x, .int .i64 y, .int .i64 z, .int .i64 rose, .int .i64 gates, .int .i64 step, .int .i64 width], .int .i64 t, .agg #[.int .i64 lo, .int .i64 hi], .int .i64 gate] w
      fun e w' => e = .returned (.tuple #[.agg #[.int .i64 0, .int .i64 0], .int .i64 3]) ∧ Below w.heap.size w w' := by
  have HS := Lib.hid hs
  have H0 := Lib.hid h0
  clear hs h0
  go_enter Try.func32, Try.ntmps32
  go_wp2_with fail
  refine (refCheckSite_any _ _ _ _ _ _ _ _ _ HS.out).mono ?_; rintro e w1 ⟨rfl, hb1⟩
  have T1 := (Three.new w nm x y z rose gates step width lo hi (.int .i64 0) (.int .i64 0) 43 43).keep hb1 (by simp only [World.size_alloc]; omega)
  clear hb1
  rw [H0.out]
  obtain ⟨⟨k0, k1, k2, k3, k4, k5, k6, k7⟩, ⟨p0, p1⟩, ⟨o0, o1, f0, f1⟩, hz, hbw⟩ := T1
  go_wp2_with fail
  refine (refIn_any _ _ _ _).mono ?_; rintro e w' ⟨rfl, rfl⟩
  go_wp2_with fail
  refine (Earth_any _ _ _).mono ?_; rintro e w2 ⟨rfl, hb2⟩
  have T2 := (⟨⟨k0, k1, k2, k3, k4, k5, k6, k7⟩, ⟨p0, p1⟩, ⟨o0, o1, f0, f1⟩, hz, hbw⟩ : Three w w1 nm x y z rose gates step width lo hi).keep hb2 (by omega)
  clear k0 k1 k2 k3 k4 k5 k6 k7 o0 o1 f0 f1 hz hbw p0 p1
  clear hb2
  obtain ⟨⟨k0, k1, k2, k3, k4, k5, k6, k7⟩, ⟨p0, p1⟩, ⟨o0, o1, f0, f1⟩, hz, hbw⟩ := T2
  go_wp2_with fail
  refine (refIn_any _ _ _ _).mono ?_; rintro e w' ⟨rfl, rfl⟩
  go_wp2
  exact bodyPost_ret (v := .tuple #[.agg #[.int .i64 0, .int .i64 0], .int .i64 3]) (by simp [results, Try.results32, go_sem, o0, o1]) rfl ⟨rfl, Below.setCell (Below.setCell hbw (by dsimp only; omega) _) (by dsimp only; omega) _⟩

set_option maxHeartbeats 3200000 in
theorem refHeight_ok (nm : ByteArray) (x y z rose gates step width : Int) (t lo hi gate : Int) (w : World) (hs : nm.size ≤ maxLen) (h0 : siteC nm x y z rose gates step width = 0) (hk : SiteOk x y z rose gates step width) (c0 : inB t (-8) 264 = true) (c1 : spanB lo hi 1000000 100000000 = true) (c2 : inB gate 0 (gates - 1) = true) :
    Calls Try.prog 32 #[.agg #[.string nm, .int .i64 x, .int .i64 y, .int .i64 z, .int .i64 rose, .int .i64 gates, .int .i64 step, .int .i64 width], .int .i64 t, .agg #[.int .i64 lo, .int .i64 hi], .int .i64 gate] w
      fun e w' => e = .returned (.tuple #[.agg #[.int .i64 (climbLo z step t gate hi), .int .i64 (climbHi z step t gate lo)], .int .i64 0]) ∧ Below w.heap.size w w' := by
  have HS := Lib.hid hs
  have H0 := Lib.hid h0
  obtain ⟨x1, x2, y1, y2, z1, z2, r1, r2, hg1, hg2, s1, s2, d1, d2⟩ := hk
  obtain ⟨t1, t2⟩ := inB_true.1 c0
  obtain ⟨g1, g3⟩ := inB_gate c2
  obtain ⟨e1, e0, e4⟩ := spanB_true.1 c1
  clear hs h0
  go_enter Try.func32, Try.ntmps32
  go_wp2_with fail
  refine (refCheckSite_any _ _ _ _ _ _ _ _ _ HS.out).mono ?_; rintro e w1 ⟨rfl, hb1⟩
  have T1 := (Three.new w nm x y z rose gates step width lo hi (.int .i64 0) (.int .i64 0) 43 43).keep hb1 (by simp only [World.size_alloc]; omega)
  clear hb1
  rw [H0.out]
  obtain ⟨⟨k0, k1, k2, k3, k4, k5, k6, k7⟩, ⟨p0, p1⟩, ⟨o0, o1, f0, f1⟩, hz, hbw⟩ := T1
  go_wp2_with fail
  refine (refIn_any _ _ _ _).mono ?_; rintro e w' ⟨rfl, rfl⟩
  go_wp2_with fail
  refine (Earth_any _ _ _).mono ?_; rintro e w2 ⟨rfl, hb2⟩
  have T2 := (⟨⟨k0, k1, k2, k3, k4, k5, k6, k7⟩, ⟨p0, p1⟩, ⟨o0, o1, f0, f1⟩, hz, hbw⟩ : Three w w1 nm x y z rose gates step width lo hi).keep hb2 (by omega)
  clear k0 k1 k2 k3 k4 k5 k6 k7 o0 o1 f0 f1 hz hbw p0 p1
  clear hb2
  obtain ⟨⟨k0, k1, k2, k3, k4, k5, k6, k7⟩, ⟨p0, p1⟩, ⟨o0, o1, f0, f1⟩, hz, hbw⟩ := T2
  go_wp2_with fail
  refine (refIn_any _ _ _ _).mono ?_; rintro e w' ⟨rfl, rfl⟩
  go_wp2_with fail
  refine (refheight_any _ _ _ _ _ _ _ _ _ _ _ _ _ (by omega) (by omega) s1 s2 g1 (by omega) z1 z2 e1 (by omega) (by omega) e4).mono ?_; rintro e w3 ⟨rfl, hb3⟩
  have T3 := (⟨⟨k0, k1, k2, k3, k4, k5, k6, k7⟩, ⟨p0, p1⟩, ⟨o0, o1, f0, f1⟩, hz, hbw⟩ : Three w w2 nm x y z rose gates step width lo hi).keep hb3 (by omega)
  clear k0 k1 k2 k3 k4 k5 k6 k7 o0 o1 f0 f1 hz hbw p0 p1
  clear hb3
  obtain ⟨⟨k0, k1, k2, k3, k4, k5, k6, k7⟩, ⟨p0, p1⟩, ⟨o0, o1, f0, f1⟩, hz, hbw⟩ := T3
  go_wp2
  exact bodyPost_ret (v := .tuple #[.agg #[.int .i64 (climbLo z step t gate hi), .int .i64 (climbHi z step t gate lo)], .int .i64 0]) (by simp [results, Try.results32, go_sem, o0, o1]) rfl ⟨rfl, Below.setCell (Below.setCell hbw (by dsimp only; omega) _) (by dsimp only; omega) _⟩

theorem refHeight_any (nm : ByteArray) (x y z rose gates step width : Int) (t lo hi gate : Int) (w : World) (hs : nm.size ≤ maxLen) :
    Calls Try.prog 32 #[.agg #[.string nm, .int .i64 x, .int .i64 y, .int .i64 z, .int .i64 rose, .int .i64 gates, .int .i64 step, .int .i64 width], .int .i64 t, .agg #[.int .i64 lo, .int .i64 hi], .int .i64 gate] w
      fun e w' => e = .returned (.tuple #[.agg #[.int .i64 (val (codeE (siteC nm x y z rose gates step width) (inB t (-8) 264 && spanB lo hi 1000000 100000000 && inB gate 0 (gates - 1))) (climbLo z step t gate hi)), .int .i64 (val (codeE (siteC nm x y z rose gates step width) (inB t (-8) 264 && spanB lo hi 1000000 100000000 && inB gate 0 (gates - 1))) (climbHi z step t gate lo))], .int .i64 (codeE (siteC nm x y z rose gates step width) (inB t (-8) 264 && spanB lo hi 1000000 100000000 && inB gate 0 (gates - 1)))]) ∧ Below w.heap.size w w' := by
  by_cases h0 : siteC nm x y z rose gates step width = 0
  · have hk := (siteC_zero.1 h0).2
    have hg1 := hk.g1
    have hg2 := hk.g2
    rcases (Bool.eq_false_or_eq_true (inB t (-8) 264)).symm with c0 | c0
    · have e : (codeE (siteC nm x y z rose gates step width) (inB t (-8) 264 && spanB lo hi 1000000 100000000 && inB gate 0 (gates - 1))) = 3 := by rw [h0, c0]; rfl
      rw [e, val_no, val_no]
      exact refHeight_no0 nm x y z rose gates step width t lo hi gate w hs h0 hg1 hg2 c0
    · have _u := hg1
      rcases (Bool.eq_false_or_eq_true (spanB lo hi 1000000 100000000)).symm with c1 | c1
      · have e : (codeE (siteC nm x y z rose gates step width) (inB t (-8) 264 && spanB lo hi 1000000 100000000 && inB gate 0 (gates - 1))) = 3 := by rw [h0, c0, c1]; rfl
        rw [e, val_no, val_no]
        exact refHeight_no1 nm x y z rose gates step width t lo hi gate w hs h0 hg1 hg2 c0 c1
      · have _u := hg1
        rcases (Bool.eq_false_or_eq_true (inB gate 0 (gates - 1))).symm with c2 | c2
        · have e : (codeE (siteC nm x y z rose gates step width) (inB t (-8) 264 && spanB lo hi 1000000 100000000 && inB gate 0 (gates - 1))) = 3 := by rw [h0, c0, c1, c2]; rfl
          rw [e, val_no, val_no]
          exact refHeight_no2 nm x y z rose gates step width t lo hi gate w hs h0 hg1 hg2 c0 c1 c2
        · have e : (codeE (siteC nm x y z rose gates step width) (inB t (-8) 264 && spanB lo hi 1000000 100000000 && inB gate 0 (gates - 1))) = 0 := by rw [h0, c0, c1, c2]; rfl
          rw [e, val_ok, val_ok]
          exact refHeight_ok nm x y z rose gates step width t lo hi gate w hs h0 hk c0 c1 c2
  · rw [codeE_err h0, val_err h0, val_err h0]
    exact refHeight_err nm x y z rose gates step width t lo hi gate w hs (bne_iff_ne.2 h0)

end Go.Proofs.Ythnjfnapjpdchaa

namespace Go.Proofs.Ythnjfnapjpdchaa
open Go.RowKit
set_option linter.unusedVariables false

set_option maxHeartbeats 1600000 in
theorem spans_same (n b1 b2 o1 o2 c1 c2 : Nat) (zs : Nat → Int × Int) (w : World) (hn : n ≤ 100000) (h1 : SpansAt w b1 o1 n zs) (h2 : SpansAt w b2 o2 n zs) (l1 : b1 < w.heap.size) (l2 : b2 < w.heap.size) :
    Calls Try.prog 49 #[.slice (some ⟨b1, o1, none⟩) n c1, .slice (some ⟨b2, o2, none⟩) n c2] w fun e w' => e = .returned (.bool true) ∧ Below w.heap.size w w' := by
  have H1 := Lib.hid h1
  have H2 := Lib.hid h2
  clear h1 h2
  go_enter Try.func49, Try.ntmps49
  go_wp2
  go_loopw [5] (fun i wr => ∃ k : Nat, k ≤ n ∧ i = .int .i64 k ∧ Below w.heap.size w wr) (fun i _ => n - (intOf i).toNat)
  case atStart => exact ⟨0, Nat.zero_le _, rfl, Below.refl _ _⟩
  case round =>
    obtain ⟨k, hk, rfl, hbw⟩ := hrel
    by_cases hlt : k < n
    · have p1 := keepB hbw l1 (H1.out k hlt).1
      have p2 := keepB hbw l2 (H2.out k hlt).1
      have p3 := keepB hbw l1 (H1.out k hlt).2
      have p4 := keepB hbw l2 (H2.out k hlt).2
      have q0 : (0 : Int) ≤ (k : Int) := by omega
      have q1 : (k : Int) < (n : Int) := by omega
      go_wp2
      go_quiet (fail)
      go_wp2
      go_roundw
      case rel => exact ⟨k + 1, by omega, by go_num, below_drewN hbw _⟩
      case measure => simp [intOf]; omega
    · go_wp2
      go_ret
      exact ⟨rfl, hbw⟩

set_option maxHeartbeats 1600000 in
theorem spans_nil (w : World) :
    Calls Try.prog 49 #[.slice none 0 0, .slice none 0 0] w fun e w' => e = .returned (.bool true) ∧ Below w.heap.size w w' := by
  go_enter Try.func49, Try.ntmps49
  go_wp2
  go_loopw [5] (fun i wr => i = .int .i64 0 ∧ Below w.heap.size w wr) (fun i _ => 0)
  case atStart => exact ⟨rfl, Below.refl _ _⟩
  case round =>
    obtain ⟨rfl, hbw⟩ := hrel
    go_wp2
    go_ret
    exact ⟨rfl, hbw⟩

/-- the ground below the gates, made -/
def gndL (x y rose step t ray gx gy size wide high : Int) (zs : Nat → Int × Int) (j : Nat) : Int := if pixB gx gy size wide high (plX x rose step t ray j) (plY y rose step t ray j) = true then (zs (pixN gx gy size wide (plX x rose step t ray j) (plY y rose step t ray j)).toNat).1 else 0
def gndH (x y rose step t ray gx gy size wide high : Int) (zs : Nat → Int × Int) (j : Nat) : Int := if pixB gx gy size wide high (plX x rose step t ray j) (plY y rose step t ray j) = true then (zs (pixN gx gy size wide (plX x rose step t ray j) (plY y rose step t ray j)).toNat).2 else 20000
theorem gnd_is (x y rose step t ray gx gy size wide high : Int) (zs : Nat → Int × Int) (g : Nat) : GndIs x y rose step t ray gx gy size wide high zs g (gndL x y rose step t ray gx gy size wide high zs) (gndH x y rose step t ray gx gy size wide high zs) := fun j _ => by
  unfold gndL gndH
  refine ⟨fun h => ?_, fun h => ?_⟩
  · rw [if_pos h, if_pos h]; exact ⟨rfl, rfl⟩
  · rw [if_neg (by rw [h]; decide), if_neg (by rw [h]; decide)]; exact ⟨rfl, rfl⟩
/-- the pixel of a place within a grid is one of its pixels -/
theorem pixN_lt {gx gy size wide high px py : Int} (s1 : 1 ≤ size) (w1 : 1 ≤ wide) (h : pixB gx gy size wide high px py = true) : (pixN gx gy size wide px py).toNat < (wide * high).toNat := by
  unfold pixB at h
  simp only [Bool.and_eq_true] at h
  obtain ⟨hx, hy⟩ := h
  obtain ⟨x1, x2⟩ := inB_true.1 hx
  obtain ⟨y1, y2⟩ := inB_true.1 hy
  have a1 : (py - gy) / size < high := Int.ediv_lt_of_lt_mul (by omega) (by omega)
  have a0 : 0 ≤ (py - gy) / size := Int.ediv_nonneg (by omega) (by omega)
  have b1 : (px - gx) / size < wide := Int.ediv_lt_of_lt_mul (by omega) (by omega)
  have b0 : 0 ≤ (px - gx) / size := Int.ediv_nonneg (by omega) (by omega)
  unfold pixN
  have c1 : ((py - gy) / size + 1) * wide ≤ high * wide := Int.mul_le_mul_of_nonneg_right (by omega) (by omega)
  rw [Int.add_mul, Int.one_mul, Int.mul_comm high wide] at c1
  have c0 : 0 ≤ (py - gy) / size * wide := Int.mul_nonneg a0 (by omega)
  omega
theorem gnd_bd {x y rose step t ray gx gy size wide high : Int} {zs : Nat → Int × Int} {len : Nat} (s1 : 1 ≤ size) (w1 : 1 ≤ wide) (hl : (len : Int) = wide * high) (ha : AllIn len zs 0 20000) (j : Nat) :
    0 ≤ gndL x y rose step t ray gx gy size wide high zs j ∧ gndL x y rose step t ray gx gy size wide high zs j ≤ gndH x y rose step t ray gx gy size wide high zs j ∧ gndH x y rose step t ray gx gy size wide high zs j ≤ 20000 := by
  unfold gndL gndH
  by_cases h : pixB gx gy size wide high (plX x rose step t ray j) (plY y rose step t ray j) = true
  · rw [if_pos h, if_pos h]
    have := pixN_lt s1 w1 h
    have h3 := spanB_true.1 (ha _ (show (pixN gx gy size wide (plX x rose step t ray j) (plY y rose step t ray j)).toNat < len by omega))
    omega
  · rw [if_neg h, if_neg h]; decide
/-- what is surely in the way is perhaps in the way -/
theorem thr_pq {z step t width lo hi : Int} {GL GH : Nat → Int} {T g : Nat} (hT : (T : Int) = 2 * width + 1) (d1 : 0 ≤ width) (d2 : width ≤ 8) (t1 : 0 ≤ t) (t2 : t ≤ 256) (s1 : 50 ≤ step) (s2 : step ≤ 2000) (e1 : 1000000 ≤ lo) (e2 : lo ≤ hi) (hg : g ≤ 200) (hb : ∀ j, j < g → GL j ≤ GH j) :
    ∀ k j, k < T → j < g → thrP z step t width lo GL k j = true → thrQ z step t width hi GH k j = true := fun k j hk hj h => by
  have h := of_decide_eq_true h
  have := hb j hj
  have := M.rise (z := z) (step := step) (s := t - width + k) (t := t - width + k) (gate := j) (lo := lo) (hi := hi) (by omega) (by omega) (by omega) s1 s2 (by omega) (by omega) e1 e2
  exact decide_eq_true (by omega)

theorem Direction_23 (w : World) : Calls Try.prog 25 #[.int .i64 2, .int .i64 3] w fun e w' => e = .returned (.tuple #[.int .i64 3, .int .i64 (-4), .int .i64 5, .int .i64 0]) ∧ Below w.heap.size w w' := by
  have h := Direction_ok 2 3 w (by decide) (by decide) (by decide) (by decide)
  rw [show dirX 2 3 = 3 by decide, show dirY 2 3 = -4 by decide, show dirL 2 3 = 5 by decide] at h
  exact h
theorem Slant_256 (w : World) : Calls Try.prog 27 #[.int .i64 256] w fun e w' => e = .returned (.tuple #[.int .i64 196608, .int .i64 262144, .int .i64 327680, .int .i64 0]) ∧ w = w' := Slant_ok 256 w (by decide) (by decide)
theorem cS0 : codeE (siteC nmS 0 0 100 2 4 1000 1) (inB 0 (-8) 264 && spanB 1000000 1000000 1000000 100000000 && inB 1 0 (4 - 1)) = 0 := by rw [siteS]; decide
theorem cS256 : codeE (siteC nmS 0 0 100 2 4 1000 1) (inB 256 (-8) 264 && spanB 1000000 1000000 1000000 100000000 && inB 1 0 (4 - 1)) = 0 := by rw [siteS]; decide
theorem Height_S0 (w : World) : Calls Try.prog 31 #[.agg #[.string nmS, .int .i64 0, .int .i64 0, .int .i64 100, .int .i64 2, .int .i64 4, .int .i64 1000, .int .i64 1], .int .i64 0, .agg #[.int .i64 1000000, .int .i64 1000000], .int .i64 1] w fun e w' => e = .returned (.tuple #[.agg #[.int .i64 101, .int .i64 102], .int .i64 0]) ∧ Below w.heap.size w w' := by
  have h := Height_any nmS 0 0 100 2 4 1000 1 0 1000000 1000000 1 w nmS_size
  rw [cS0, val_ok, val_ok, show climbLo 100 1000 0 1 1000000 = 101 by decide +kernel, show climbHi 100 1000 0 1 1000000 = 102 by decide +kernel] at h
  exact h
theorem Height_S256 (w : World) : Calls Try.prog 31 #[.agg #[.string nmS, .int .i64 0, .int .i64 0, .int .i64 100, .int .i64 2, .int .i64 4, .int .i64 1000, .int .i64 1], .int .i64 256, .agg #[.int .i64 1000000, .int .i64 1000000], .int .i64 1] w fun e w' => e = .returned (.tuple #[.agg #[.int .i64 1300, .int .i64 1301], .int .i64 0]) ∧ Below w.heap.size w w' := by
  have h := Height_any nmS 0 0 100 2 4 1000 1 256 1000000 1000000 1 w nmS_size
  rw [cS256, val_ok, val_ok, show climbLo 100 1000 256 1 1000000 = 1300 by decide +kernel, show climbHi 100 1000 256 1 1000000 = 1301 by decide +kernel] at h
  exact h
theorem srchA : SrchIs (4 + 1) (inside (1000 * 1000 + 0 * 0) (bordI 1000 0)) 2 := by
  refine ⟨by decide, by decide +kernel, fun k h1 h2 => ?_⟩
  have : k = 2 ∨ k = 3 ∨ k = 4 := by omega
  rcases this with rfl | rfl | rfl <;> decide +kernel
theorem rayA : RayIs 2 1000 0 2 := by
  refine .inr ⟨1, 0, 1000, by decide, by decide, by decide, by decide, by decide, 1, ⟨by decide, by decide +kernel, fun k h1 h2 => ?_⟩, by decide⟩
  obtain rfl : k = 1 := by omega
  decide +kernel
theorem srchB : SrchIs (4 + 1) (inside (0 * 0 + 4000 * 4000) (bordI 1000 0)) 5 := by
  refine ⟨by decide, by decide +kernel, fun k h1 h2 => by omega⟩
theorem Find_SA (w : World) : Calls Try.prog 38 #[.agg #[.string nmS, .int .i64 0, .int .i64 0, .int .i64 100, .int .i64 2, .int .i64 4, .int .i64 1000, .int .i64 1], .int .i64 0, .int .i64 1000, .int .i64 0] w
    fun e w' => e = .returned (.tuple #[.int .i64 2, .int .i64 1, .int .i64 0]) ∧ Below w.heap.size w w' :=
  Find_in nmS 0 0 100 2 4 1000 1 0 1000 0 1000 0 (by decide) (by decide) 2 srchA w nmS_size siteS okS (by decide) (by decide) (by decide) (by decide) (by decide) 2 rayA
theorem Find_SB (w : World) : Calls Try.prog 38 #[.agg #[.string nmS, .int .i64 0, .int .i64 0, .int .i64 100, .int .i64 2, .int .i64 4, .int .i64 1000, .int .i64 1], .int .i64 0, .int .i64 0, .int .i64 4000] w
    fun e w' => e = .returned (.tuple #[.int .i64 0, .int .i64 0, .int .i64 29]) ∧ Below w.heap.size w w' :=
  Find_out nmS 0 0 100 2 4 1000 1 0 0 4000 0 4000 (by decide) (by decide) 5 srchB w nmS_size siteS okS (by decide) (by decide) (by decide) (by decide)
theorem gridG : gridC (-5000) (-5000) 5000 2 2 = 0 := gridC_zero.2 (by decide)
theorem Pixel_GA (w : World) : Calls Try.prog 40 #[.agg #[.int .i64 (-5000), .int .i64 (-5000), .int .i64 5000, .int .i64 2, .int .i64 2], .int .i64 0, .int .i64 0] w fun e w' => e = .returned (.tuple #[.int .i64 3, .int .i64 0]) ∧ Below w.heap.size w w' := by
  have h := Pixel_any (-5000) (-5000) 5000 2 2 0 0 w
  rw [gridG, show pixE 0 (pixB (-5000) (-5000) 5000 2 2 0 0) = 0 by decide +kernel, if_pos rfl, show pixN (-5000) (-5000) 5000 2 0 0 = 3 by decide +kernel] at h
  exact h
theorem Pixel_GB (w : World) : Calls Try.prog 40 #[.agg #[.int .i64 (-5000), .int .i64 (-5000), .int .i64 5000, .int .i64 2, .int .i64 2], .int .i64 (-1), .int .i64 0] w fun e w' => e = .returned (.tuple #[.int .i64 2, .int .i64 0]) ∧ Below w.heap.size w w' := by
  have h := Pixel_any (-5000) (-5000) 5000 2 2 (-1) 0 w
  rw [gridG, show pixE 0 (pixB (-5000) (-5000) 5000 2 2 (-1) 0) = 0 by decide +kernel, if_pos rfl, show pixN (-5000) (-5000) 5000 2 (-1) 0 = 2 by decide +kernel] at h
  exact h
theorem Pixel_GC (w : World) : Calls Try.prog 40 #[.agg #[.int .i64 (-5000), .int .i64 (-5000), .int .i64 5000, .int .i64 2, .int .i64 2], .int .i64 5000, .int .i64 0] w fun e w' => e = .returned (.tuple #[.int .i64 0, .int .i64 29]) ∧ Below w.heap.size w w' := by
  have h := Pixel_any (-5000) (-5000) 5000 2 2 5000 0 w
  rw [gridG, show pixE 0 (pixB (-5000) (-5000) 5000 2 2 5000 0) = 29 by decide +kernel, if_neg (by decide)] at h
  exact h
/-- what the example's grid sees -/
def viewS (k : Nat) : Int := if k = 0 then 19 else if k = 1 then 11 else if k = 2 then 27 else 3
theorem srchV (sq : Int) (h : sq = 12500000) : SrchIs (4 + 1) (inside sq (bordI 1000 0)) 4 := by
  subst h
  refine ⟨by decide, by decide +kernel, fun k h1 h2 => ?_⟩
  have : k = 4 := by omega
  subst this; decide +kernel
theorem secV (q : Nat) (s : Int) (h : s = q * (2 : Nat) + (1 : Nat) - 1) : SecIs 2 q 2500 2500 s := by
  refine ⟨1, ⟨by decide, by decide +kernel, fun k h1 h2 => ?_⟩, h⟩
  obtain rfl : k = 1 := by omega
  decide +kernel
theorem view_S (k : Nat) (hk : k < 4) : ViewIs 2 4 1000 0 (midX (-5000) 5000 2 k - 0) (midY (-5000) 5000 2 k - 0) (viewS k) := by
  have hk' : k = 0 ∨ k = 1 ∨ k = 2 ∨ k = 3 := by omega
  rcases hk' with rfl | rfl | rfl | rfl
  · exact ⟨4, srchV _ (by decide +kernel), .inr ⟨by decide, 4, .inr ⟨2, 2500, 2500, by decide, by decide, by decide, by decide +kernel, by decide +kernel, secV 2 4 (by decide)⟩, by decide +kernel⟩⟩
  · exact ⟨4, srchV _ (by decide +kernel), .inr ⟨by decide, 2, .inr ⟨1, 2500, 2500, by decide, by decide, by decide, by decide +kernel, by decide +kernel, secV 1 2 (by decide)⟩, by decide +kernel⟩⟩
  · exact ⟨4, srchV _ (by decide +kernel), .inr ⟨by decide, 6, .inr ⟨3, 2500, 2500, by decide, by decide, by decide, by decide +kernel, by decide +kernel, secV 3 6 (by decide)⟩, by decide +kernel⟩⟩
  · exact ⟨4, srchV _ (by decide +kernel), .inr ⟨by decide, 0, .inr ⟨0, 2500, 2500, by decide, by decide, by decide, by decide +kernel, by decide +kernel, secV 0 0 (by decide)⟩, by decide +kernel⟩⟩
theorem View_S (w : World) : Calls Try.prog 43 #[.agg #[.string nmS, .int .i64 0, .int .i64 0, .int .i64 100, .int .i64 2, .int .i64 4, .int .i64 1000, .int .i64 1], .int .i64 0, .agg #[.int .i64 (-5000), .int .i64 (-5000), .int .i64 5000, .int .i64 2, .int .i64 2]] w (ListRet 4 viewS w) :=
  View_ok nmS 0 0 100 2 4 1000 1 (-5000) (-5000) 5000 2 2 0 4 (by decide) viewS (fun k hk => view_S k hk) w nmS_size siteS okS gridG (by decide)
theorem hill_D : fieldC (-5000) (-5000) 5000 2 2 4 zsH 20000 = 0 := by
  rw [fieldC_spans gridG (by decide), spansC_ok]
  intro j hj
  have hj' : j = 0 ∨ j = 1 ∨ j = 2 ∨ j = 3 := by omega
  rcases hj' with rfl | rfl | rfl | rfl <;> decide
theorem hill_all : AllIn 4 zsH 0 20000 := (ground_zero hill_D).2.2
theorem Blocked_S (ray : Int) (c2 : inB ray 0 (4 * 2 - 1) = true) (L H : Nat → Int) (hL : ∀ j, j < 4 → sumsOf (thrP 100 1000 0 1 10000000 (gndL 0 0 2 1000 0 ray (-5000) (-5000) 5000 2 2 zsH)) 3 j = L j) (hH : ∀ j, j < 4 → sumsOf (thrQ 100 1000 0 1 10000000 (gndH 0 0 2 1000 0 ray (-5000) (-5000) 5000 2 2 zsH)) 3 j = H j) (b : Nat) (w : World) (hs : SliceIs w (some ⟨b, 0, none⟩) 4 4 zsH) :
    Calls Try.prog 46 #[.agg #[.string nmS, .int .i64 0, .int .i64 0, .int .i64 100, .int .i64 2, .int .i64 4, .int .i64 1000, .int .i64 1], .int .i64 0, .agg #[.int .i64 10000000, .int .i64 10000000], .agg #[.int .i64 (-5000), .int .i64 (-5000), .int .i64 5000, .int .i64 2, .int .i64 2, .slice (some ⟨b, 0, none⟩) 4 4], .int .i64 ray] w (BlkRet 4 L H w) := by
  rcases hs with ⟨h, _⟩ | ⟨b2, off, h, hb, hsp⟩
  cases h
  refine (Blocked_ok nmS 0 0 100 2 4 1000 1 10000000 10000000 (-5000) (-5000) 5000 2 2 b 0 4 4 zsH 0 ray 3 (by decide) (gndL 0 0 2 1000 0 ray (-5000) (-5000) 5000 2 2 zsH) (gndH 0 0 2 1000 0 ray (-5000) (-5000) 5000 2 2 zsH) w nmS_size (by decide) hsp hb siteS okS hill_D (by decide) (by decide) c2 (gnd_is _ _ _ _ _ _ _ _ _ _ _ _ _) (thr_pq (by decide) (by decide) (by decide) (by decide) (by decide) (by decide) (by decide) (by decide) (by decide) (by decide) (fun j _ => (gnd_bd (by decide) (by decide) (by decide) hill_all j).2.1))).mono ?_
  rintro e w' ⟨b', c, rfl, hsp', hr⟩
  refine ⟨b', c, rfl, fun i hi => ?_, hr⟩
  have := hsp' i hi
  dsimp only at this ⊢
  rw [hL i hi, hH i hi] at this
  exact this
theorem Blocked_S4 (b : Nat) (w : World) (hs : SliceIs w (some ⟨b, 0, none⟩) 4 4 zsH) :
    Calls Try.prog 46 #[.agg #[.string nmS, .int .i64 0, .int .i64 0, .int .i64 100, .int .i64 2, .int .i64 4, .int .i64 1000, .int .i64 1], .int .i64 0, .agg #[.int .i64 10000000, .int .i64 10000000], .agg #[.int .i64 (-5000), .int .i64 (-5000), .int .i64 5000, .int .i64 2, .int .i64 2, .slice (some ⟨b, 0, none⟩) 4 4], .int .i64 4] w (BlkRet 4 (fun _ => 0) (fun _ => 0) w) := by
  refine Blocked_S 4 (by decide) _ _ (fun j hj => ?_) (fun j hj => ?_) b w hs <;> (have hj' : j = 0 ∨ j = 1 ∨ j = 2 ∨ j = 3 := by omega) <;> rcases hj' with rfl | rfl | rfl | rfl <;> decide +kernel
theorem Blocked_S0 (b : Nat) (w : World) (hs : SliceIs w (some ⟨b, 0, none⟩) 4 4 zsH) :
    Calls Try.prog 46 #[.agg #[.string nmS, .int .i64 0, .int .i64 0, .int .i64 100, .int .i64 2, .int .i64 4, .int .i64 1000, .int .i64 1], .int .i64 0, .agg #[.int .i64 10000000, .int .i64 10000000], .agg #[.int .i64 (-5000), .int .i64 (-5000), .int .i64 5000, .int .i64 2, .int .i64 2, .slice (some ⟨b, 0, none⟩) 4 4], .int .i64 0] w (BlkRet 4 (fun _ => 3) (fun _ => 3) w) := by
  refine Blocked_S 0 (by decide) _ _ (fun j hj => ?_) (fun j hj => ?_) b w hs <;> (have hj' : j = 0 ∨ j = 1 ∨ j = 2 ∨ j = 3 := by omega) <;> rcases hj' with rfl | rfl | rfl | rfl <;> decide +kernel

end Go.Proofs.Ythnjfnapjpdchaa

namespace Go.Proofs.Ythnjfnapjpdchaa
open Go.RowKit
set_option linter.unusedVariables false

set_option maxRecDepth 100000 in
set_option maxHeartbeats 3200000 in
theorem refBlocked_site (nm : ByteArray) (x y z rose gates step width lo hi gx gy size wide high : Int) (fa : Option Addr) (len cap : Nat) (zs : Nat → Int × Int) (t ray : Int) (w : World) (hs : nm.size ≤ maxLen) (hl : len ≤ 1000000) (hsl : SliceIs w fa len cap zs) (hne : (siteC nm x y z rose gates step width != 0) = true) :
    Calls Try.prog 47 #[.agg #[.string nm, .int .i64 x, .int .i64 y, .int .i64 z, .int .i64 rose, .int .i64 gates, .int .i64 step, .int .i64 width], .int .i64 t, .agg #[.int .i64 lo, .int .i64 hi], .agg #[.int .i64 gx, .int .i64 gy, .int .i64 size, .int .i64 wide, .int .i64 high, .slice fa len cap], .int .i64 ray] w fun e w' => e = .returned (.tuple #[.slice none 0 0, .int .i64 (siteC nm x y z rose gates step width)]) ∧ Below w.heap.size w w' := by
  have HS := Lib.hid hs
  have HSL := Lib.hid hsl
  clear hs hsl
  have hne2 : (siteC nm x y z rose gates step width == 0) = false := by rw [beq_eq_false_iff_ne]; exact bne_iff_ne.1 hne
  go_enter Try.func47, Try.ntmps47
  go_wp2_with fail
  refine (refCheckSite_any _ _ _ _ _ _ _ _ _ HS.out).mono ?_; rintro e w1 ⟨rfl, hb1⟩
  have O1 := (SEF.new w nm x y z rose gates step width lo hi gx gy size wide high (.slice fa len cap)).keep hb1 (by simp)
  clear hb1
  obtain ⟨⟨k0, k1, k2, k3, k4, k5, k6, k7⟩, ⟨p0, p1⟩, ⟨f0, f1, f2, f3, f4, f5⟩, hz, hbw⟩ := O1
  have y0 : w.heap.size < w1.heap.size := by omega
  have y1 : w.heap.size + 1 < w1.heap.size := by omega
  have y2 : w.heap.size + 1 + 1 < w1.heap.size := by omega
  go_wp2
  go_ret2
  exact ⟨rfl, hbw⟩

set_option maxRecDepth 100000 in
set_option maxHeartbeats 3200000 in
theorem refBlocked_ground (nm : ByteArray) (x y z rose gates step width lo hi gx gy size wide high : Int) (fa : Option Addr) (len cap : Nat) (zs : Nat → Int × Int) (t ray : Int) (w : World) (hs : nm.size ≤ maxLen) (hl : len ≤ 1000000) (hsl : SliceIs w fa len cap zs) (h0 : siteC nm x y z rose gates step width = 0) (hne : (fieldC gx gy size wide high len zs 20000 != 0) = true) :
    Calls Try.prog 47 #[.agg #[.string nm, .int .i64 x, .int .i64 y, .int .i64 z, .int .i64 rose, .int .i64 gates, .int .i64 step, .int .i64 width], .int .i64 t, .agg #[.int .i64 lo, .int .i64 hi], .agg #[.int .i64 gx, .int .i64 gy, .int .i64 size, .int .i64 wide, .int .i64 high, .slice fa len cap], .int .i64 ray] w fun e w' => e = .returned (.tuple #[.slice none 0 0, .int .i64 (fieldC gx gy size wide high len zs 20000)]) ∧ Below w.heap.size w w' := by
  have HS := Lib.hid hs
  have HSL := Lib.hid hsl
  clear hs hsl
  have H0 := Lib.hid h0
  clear h0
  go_enter Try.func47, Try.ntmps47
  go_wp2_with fail
  refine (refCheckSite_any _ _ _ _ _ _ _ _ _ HS.out).mono ?_; rintro e w1 ⟨rfl, hb1⟩
  have O1 := (SEF.new w nm x y z rose gates step width lo hi gx gy size wide high (.slice fa len cap)).keep hb1 (by simp)
  clear hb1
  obtain ⟨⟨k0, k1, k2, k3, k4, k5, k6, k7⟩, ⟨p0, p1⟩, ⟨f0, f1, f2, f3, f4, f5⟩, hz, hbw⟩ := O1
  have y0 : w.heap.size < w1.heap.size := by omega
  have y1 : w.heap.size + 1 < w1.heap.size := by omega
  have y2 : w.heap.size + 1 + 1 < w1.heap.size := by omega
  rw [H0.out]
  go_wp2_with fail
  refine (fits_any _ _ _ _ _ fa len cap zs 20000 _ hl (HSL.out.keep hbw)).mono ?_; rintro e w2 ⟨rfl, hb2⟩
  have O2 := (⟨⟨k0, k1, k2, k3, k4, k5, k6, k7⟩, ⟨p0, p1⟩, ⟨f0, f1, f2, f3, f4, f5⟩, hz, hbw⟩ : SEF w w1 nm x y z rose gates step width lo hi gx gy size wide high (.slice fa len cap)).keep hb2 hz
  clear k0 k1 k2 k3 k4 k5 k6 k7 p0 p1 f0 f1 f2 f3 f4 f5 hz hbw y0 y1 y2 hb2
  obtain ⟨⟨k0, k1, k2, k3, k4, k5, k6, k7⟩, ⟨p0, p1⟩, ⟨f0, f1, f2, f3, f4, f5⟩, hz, hbw⟩ := O2
  have y0 : w.heap.size < w2.heap.size := by omega
  have y1 : w.heap.size + 1 < w2.heap.size := by omega
  have y2 : w.heap.size + 1 + 1 < w2.heap.size := by omega
  go_wp2
  go_ret2
  exact ⟨rfl, hbw⟩

set_option maxRecDepth 100000 in
set_option maxHeartbeats 3200000 in
theorem refBlocked_no0 (nm : ByteArray) (x y z rose gates step width lo hi gx gy size wide high : Int) (fa : Option Addr) (len cap : Nat) (zs : Nat → Int × Int) (t ray : Int) (w : World) (hs : nm.size ≤ maxLen) (hl : len ≤ 1000000) (hsl : SliceIs w fa len cap zs) (h0 : siteC nm x y z rose gates step width = 0) (hk : SiteOk x y z rose gates step width) (hg : fieldC gx gy size wide high len zs 20000 = 0) (c0 : inB t 0 256 = false) :
    Calls Try.prog 47 #[.agg #[.string nm, .int .i64 x, .int .i64 y, .int .i64 z, .int .i64 rose, .int .i64 gates, .int .i64 step, .int .i64 width], .int .i64 t, .agg #[.int .i64 lo, .int .i64 hi], .agg #[.int .i64 gx, .int .i64 gy, .int .i64 size, .int .i64 wide, .int .i64 high, .slice fa len cap], .int .i64 ray] w fun e w' => e = .returned (.tuple #[.slice none 0 0, .int .i64 (3)]) ∧ Below w.heap.size w w' := by
  have HS := Lib.hid hs
  have HSL := Lib.hid hsl
  clear hs hsl
  have H0 := Lib.hid h0
  have HG := Lib.hid hg
  have r1 := hk.r1
  have r2 := hk.r2
  have i1 : IntKind.i64.wrap (4 * rose) = 4 * rose := IntWalk.i64_in _ (by omega)
  have i2 : IntKind.i64.wrap (4 * rose - 1) = 4 * rose - 1 := IntWalk.i64_in _ (by omega)
  clear h0 hg hk
  go_enter Try.func47, Try.ntmps47
  go_wp2_with fail
  refine (refCheckSite_any _ _ _ _ _ _ _ _ _ HS.out).mono ?_; rintro e w1 ⟨rfl, hb1⟩
  have O1 := (SEF.new w nm x y z rose gates step width lo hi gx gy size wide high (.slice fa len cap)).keep hb1 (by simp)
  clear hb1
  obtain ⟨⟨k0, k1, k2, k3, k4, k5, k6, k7⟩, ⟨p0, p1⟩, ⟨f0, f1, f2, f3, f4, f5⟩, hz, hbw⟩ := O1
  have y0 : w.heap.size < w1.heap.size := by omega
  have y1 : w.heap.size + 1 < w1.heap.size := by omega
  have y2 : w.heap.size + 1 + 1 < w1.heap.size := by omega
  rw [H0.out]
  go_wp2_with fail
  refine (fits_any _ _ _ _ _ fa len cap zs 20000 _ hl (HSL.out.keep hbw)).mono ?_; rintro e w2 ⟨rfl, hb2⟩
  have O2 := (⟨⟨k0, k1, k2, k3, k4, k5, k6, k7⟩, ⟨p0, p1⟩, ⟨f0, f1, f2, f3, f4, f5⟩, hz, hbw⟩ : SEF w w1 nm x y z rose gates step width lo hi gx gy size wide high (.slice fa len cap)).keep hb2 hz
  clear k0 k1 k2 k3 k4 k5 k6 k7 p0 p1 f0 f1 f2 f3 f4 f5 hz hbw y0 y1 y2 hb2
  obtain ⟨⟨k0, k1, k2, k3, k4, k5, k6, k7⟩, ⟨p0, p1⟩, ⟨f0, f1, f2, f3, f4, f5⟩, hz, hbw⟩ := O2
  have y0 : w.heap.size < w2.heap.size := by omega
  have y1 : w.heap.size + 1 < w2.heap.size := by omega
  have y2 : w.heap.size + 1 + 1 < w2.heap.size := by omega
  rw [HG.out]
  go_wp2_with fail
  refine (refIn_any _ _ _ _).mono ?_; rintro e w' ⟨rfl, rfl⟩
  go_wp2
  go_ret2
  exact ⟨rfl, hbw⟩

set_option maxRecDepth 100000 in
set_option maxHeartbeats 3200000 in
theorem refBlocked_no1 (nm : ByteArray) (x y z rose gates step width lo hi gx gy size wide high : Int) (fa : Option Addr) (len cap : Nat) (zs : Nat → Int × Int) (t ray : Int) (w : World) (hs : nm.size ≤ maxLen) (hl : len ≤ 1000000) (hsl : SliceIs w fa len cap zs) (h0 : siteC nm x y z rose gates step width = 0) (hk : SiteOk x y z rose gates step width) (hg : fieldC gx gy size wide high len zs 20000 = 0) (c0 : inB t 0 256 = true) (c1 : spanB lo hi 1000000 100000000 = false) :
    Calls Try.prog 47 #[.agg #[.string nm, .int .i64 x, .int .i64 y, .int .i64 z, .int .i64 rose, .int .i64 gates, .int .i64 step, .int .i64 width], .int .i64 t, .agg #[.int .i64 lo, .int .i64 hi], .agg #[.int .i64 gx, .int .i64 gy, .int .i64 size, .int .i64 wide, .int .i64 high, .slice fa len cap], .int .i64 ray] w fun e w' => e = .returned (.tuple #[.slice none 0 0, .int .i64 (3)]) ∧ Below w.heap.size w w' := by
  have HS := Lib.hid hs
  have HSL := Lib.hid hsl
  clear hs hsl
  have H0 := Lib.hid h0
  have HG := Lib.hid hg
  have r1 := hk.r1
  have r2 := hk.r2
  have i1 : IntKind.i64.wrap (4 * rose) = 4 * rose := IntWalk.i64_in _ (by omega)
  have i2 : IntKind.i64.wrap (4 * rose - 1) = 4 * rose - 1 := IntWalk.i64_in _ (by omega)
  clear h0 hg hk
  go_enter Try.func47, Try.ntmps47
  go_wp2_with fail
  refine (refCheckSite_any _ _ _ _ _ _ _ _ _ HS.out).mono ?_; rintro e w1 ⟨rfl, hb1⟩
  have O1 := (SEF.new w nm x y z rose gates step width lo hi gx gy size wide high (.slice fa len cap)).keep hb1 (by simp)
  clear hb1
  obtain ⟨⟨k0, k1, k2, k3, k4, k5, k6, k7⟩, ⟨p0, p1⟩, ⟨f0, f1, f2, f3, f4, f5⟩, hz, hbw⟩ := O1
  have y0 : w.heap.size < w1.heap.size := by omega
  have y1 : w.heap.size + 1 < w1.heap.size := by omega
  have y2 : w.heap.size + 1 + 1 < w1.heap.size := by omega
  rw [H0.out]
  go_wp2_with fail
  refine (fits_any _ _ _ _ _ fa len cap zs 20000 _ hl (HSL.out.keep hbw)).mono ?_; rintro e w2 ⟨rfl, hb2⟩
  have O2 := (⟨⟨k0, k1, k2, k3, k4, k5, k6, k7⟩, ⟨p0, p1⟩, ⟨f0, f1, f2, f3, f4, f5⟩, hz, hbw⟩ : SEF w w1 nm x y z rose gates step width lo hi gx gy size wide high (.slice fa len cap)).keep hb2 hz
  clear k0 k1 k2 k3 k4 k5 k6 k7 p0 p1 f0 f1 f2 f3 f4 f5 hz hbw y0 y1 y2 hb2
  obtain ⟨⟨k0, k1, k2, k3, k4, k5, k6, k7⟩, ⟨p0, p1⟩, ⟨f0, f1, f2, f3, f4, f5⟩, hz, hbw⟩ := O2
  have y0 : w.heap.size < w2.heap.size := by omega
  have y1 : w.heap.size + 1 < w2.heap.size := by omega
  have y2 : w.heap.size + 1 + 1 < w2.heap.size := by omega
  rw [HG.out]
  go_wp2_with fail
  refine (refIn_any _ _ _ _).mono ?_; rintro e w' ⟨rfl, rfl⟩
  go_wp2_with fail
  refine (Earth_any _ _ _).mono ?_; rintro e w3 ⟨rfl, hb3⟩
  have O3 := (⟨⟨k0, k1, k2, k3, k4, k5, k6, k7⟩, ⟨p0, p1⟩, ⟨f0, f1, f2, f3, f4, f5⟩, hz, hbw⟩ : SEF w w2 nm x y z rose gates step width lo hi gx gy size wide high (.slice fa len cap)).keep hb3 hz
  clear k0 k1 k2 k3 k4 k5 k6 k7 p0 p1 f0 f1 f2 f3 f4 f5 hz hbw y0 y1 y2 hb3
  obtain ⟨⟨k0, k1, k2, k3, k4, k5, k6, k7⟩, ⟨p0, p1⟩, ⟨f0, f1, f2, f3, f4, f5⟩, hz, hbw⟩ := O3
  have y0 : w.heap.size < w3.heap.size := by omega
  have y1 : w.heap.size + 1 < w3.heap.size := by omega
  have y2 : w.heap.size + 1 + 1 < w3.heap.size := by omega
  go_wp2
  go_ret2
  exact ⟨rfl, hbw⟩

set_option maxRecDepth 100000 in
set_option maxHeartbeats 3200000 in
theorem refBlocked_no2 (nm : ByteArray) (x y z rose gates step width lo hi gx gy size wide high : Int) (fa : Option Addr) (len cap : Nat) (zs : Nat → Int × Int) (t ray : Int) (w : World) (hs : nm.size ≤ maxLen) (hl : len ≤ 1000000) (hsl : SliceIs w fa len cap zs) (h0 : siteC nm x y z rose gates step width = 0) (hk : SiteOk x y z rose gates step width) (hg : fieldC gx gy size wide high len zs 20000 = 0) (c0 : inB t 0 256 = true) (c1 : spanB lo hi 1000000 100000000 = true) (c2 : inB ray 0 (4 * rose - 1) = false) :
    Calls Try.prog 47 #[.agg #[.string nm, .int .i64 x, .int .i64 y, .int .i64 z, .int .i64 rose, .int .i64 gates, .int .i64 step, .int .i64 width], .int .i64 t, .agg #[.int .i64 lo, .int .i64 hi], .agg #[.int .i64 gx, .int .i64 gy, .int .i64 size, .int .i64 wide, .int .i64 high, .slice fa len cap], .int .i64 ray] w fun e w' => e = .returned (.tuple #[.slice none 0 0, .int .i64 (3)]) ∧ Below w.heap.size w w' := by
  have HS := Lib.hid hs
  have HSL := Lib.hid hsl
  clear hs hsl
  have H0 := Lib.hid h0
  have HG := Lib.hid hg
  have r1 := hk.r1
  have r2 := hk.r2
  have i1 : IntKind.i64.wrap (4 * rose) = 4 * rose := IntWalk.i64_in _ (by omega)
  have i2 : IntKind.i64.wrap (4 * rose - 1) = 4 * rose - 1 := IntWalk.i64_in _ (by omega)
  clear h0 hg hk
  go_enter Try.func47, Try.ntmps47
  go_wp2_with fail
  refine (refCheckSite_any _ _ _ _ _ _ _ _ _ HS.out).mono ?_; rintro e w1 ⟨rfl, hb1⟩
  have O1 := (SEF.new w nm x y z rose gates step width lo hi gx gy size wide high (.slice fa len cap)).keep hb1 (by simp)
  clear hb1
  obtain ⟨⟨k0, k1, k2, k3, k4, k5, k6, k7⟩, ⟨p0, p1⟩, ⟨f0, f1, f2, f3, f4, f5⟩, hz, hbw⟩ := O1
  have y0 : w.heap.size < w1.heap.size := by omega
  have y1 : w.heap.size + 1 < w1.heap.size := by omega
  have y2 : w.heap.size + 1 + 1 < w1.heap.size := by omega
  rw [H0.out]
  go_wp2_with fail
  refine (fits_any _ _ _ _ _ fa len cap zs 20000 _ hl (HSL.out.keep hbw)).mono ?_; rintro e w2 ⟨rfl, hb2⟩
  have O2 := (⟨⟨k0, k1, k2, k3, k4, k5, k6, k7⟩, ⟨p0, p1⟩, ⟨f0, f1, f2, f3, f4, f5⟩, hz, hbw⟩ : SEF w w1 nm x y z rose gates step width lo hi gx gy size wide high (.slice fa len cap)).keep hb2 hz
  clear k0 k1 k2 k3 k4 k5 k6 k7 p0 p1 f0 f1 f2 f3 f4 f5 hz hbw y0 y1 y2 hb2
  obtain ⟨⟨k0, k1, k2, k3, k4, k5, k6, k7⟩, ⟨p0, p1⟩, ⟨f0, f1, f2, f3, f4, f5⟩, hz, hbw⟩ := O2
  have y0 : w.heap.size < w2.heap.size := by omega
  have y1 : w.heap.size + 1 < w2.heap.size := by omega
  have y2 : w.heap.size + 1 + 1 < w2.heap.size := by omega
  rw [HG.out]
  go_wp2_with fail
  refine (refIn_any _ _ _ _).mono ?_; rintro e w' ⟨rfl, rfl⟩
  go_wp2_with fail
  refine (Earth_any _ _ _).mono ?_; rintro e w3 ⟨rfl, hb3⟩
  have O3 := (⟨⟨k0, k1, k2, k3, k4, k5, k6, k7⟩, ⟨p0, p1⟩, ⟨f0, f1, f2, f3, f4, f5⟩, hz, hbw⟩ : SEF w w2 nm x y z rose gates step width lo hi gx gy size wide high (.slice fa len cap)).keep hb3 hz
  clear k0 k1 k2 k3 k4 k5 k6 k7 p0 p1 f0 f1 f2 f3 f4 f5 hz hbw y0 y1 y2 hb3
  obtain ⟨⟨k0, k1, k2, k3, k4, k5, k6, k7⟩, ⟨p0, p1⟩, ⟨f0, f1, f2, f3, f4, f5⟩, hz, hbw⟩ := O3
  have y0 : w.heap.size < w3.heap.size := by omega
  have y1 : w.heap.size + 1 < w3.heap.size := by omega
  have y2 : w.heap.size + 1 + 1 < w3.heap.size := by omega
  go_wp2_with fail
  refine (refIn_any _ _ _ _).mono ?_; rintro e w' ⟨rfl, rfl⟩
  go_wp2
  go_ret2
  exact ⟨rfl, hbw⟩

theorem pixN_bd' {gx gy size wide high px py : Int} (s1 : 1 ≤ size) (w1 : 1 ≤ wide) (h : pixB gx gy size wide high px py = true) : 0 ≤ pixN gx gy size wide px py := by
  unfold pixB at h
  simp only [Bool.and_eq_true] at h
  obtain ⟨hx, hy⟩ := h
  obtain ⟨x1, x2⟩ := inB_true.1 hx
  obtain ⟨y1, y2⟩ := inB_true.1 hy
  have a0 : 0 ≤ (py - gy) / size := Int.ediv_nonneg (by omega) (by omega)
  have b0 : 0 ≤ (px - gx) / size := Int.ediv_nonneg (by omega) (by omega)
  have c0 : 0 ≤ (py - gy) / size * wide := Int.mul_nonneg a0 (by omega)
  unfold pixN
  omega
/-- the ground over a place -/
def ovL (gx gy size wide high px py : Int) (zs : Nat → Int × Int) : Int := if pixB gx gy size wide high px py = true then (zs (pixN gx gy size wide px py).toNat).1 else 0
def ovH (gx gy size wide high px py : Int) (zs : Nat → Int × Int) : Int := if pixB gx gy size wide high px py = true then (zs (pixN gx gy size wide px py).toNat).2 else 20000
theorem pixE_yes {b : Bool} (h : b = true) : pixE 0 b = 0 := by subst h; rfl
theorem pixE_no {b : Bool} (h : b = false) : pixE 0 b = 29 := by subst h; rfl

set_option maxRecDepth 100000 in
set_option maxHeartbeats 3200000 in
theorem over_any (gx gy size wide high px py : Int) (fb off len cap : Nat) (zs : Nat → Int × Int) (w : World) (hg : gridC gx gy size wide high = 0) (hl : (len : Int) = wide * high) (hsp : SpansAt w fb off len zs) (hfb : fb < w.heap.size) :
    Calls Try.prog 89 #[.agg #[.int .i64 gx, .int .i64 gy, .int .i64 size, .int .i64 wide, .int .i64 high, .slice (some ⟨fb, off, none⟩) len cap], .int .i64 px, .int .i64 py] w fun e w' => e = .returned (.agg #[.int .i64 (ovL gx gy size wide high px py zs), .int .i64 (ovH gx gy size wide high px py zs)]) ∧ Below w.heap.size w w' := by
  have HSP := Lib.hid hsp
  obtain ⟨_, _, ⟨u1, u2⟩, ⟨v1, v2⟩, v3, v4⟩ := gridB_bd (gridC_zero.1 hg)
  have HP := Lib.hid (fun h => pixN_lt (gx := gx) (gy := gy) (px := px) (py := py) (high := high) u1 v1 h)
  have HN := Lib.hid (fun h => pixN_bd' (gx := gx) (gy := gy) (px := px) (py := py) (high := high) u1 v1 h)
  have HG := Lib.hid hg
  have HL := Lib.hid hl
  clear hsp hg hl
  go_enter Try.func89, Try.ntmps89
  go_wp2_with fail
  refine (refPixel_any _ _ _ _ _ _ _ _).mono ?_; rintro e w1 ⟨rfl, hb1⟩
  rw [HG.out]
  have hz := hb1.size
  simp only [World.size_alloc] at hz
  have f5 : w1.cell? ⟨w.heap.size, 5, none⟩ = some (.slice (some ⟨fb, off, none⟩) len cap) := keepB hb1 (by simp; omega) (alloc_keep (by simp) (alloc_new rfl rfl))
  have O := OpenAt.keep (OpenAt.new (w.alloc (.cells #[.int .i64 gx, .int .i64 gy, .int .i64 size, .int .i64 wide, .int .i64 high, .slice (some ⟨fb, off, none⟩) len cap] 28)) (.int .i64 0) (.int .i64 0) 43) hb1 (by simp)
  simp only [World.size_alloc] at O
  have hbw : Below w.heap.size w w1 := Below.trans (below_alloc _ _) (Below.trans ((below_alloc _ _).mono (by simp)) (hb1.mono (by simp; omega)))
  clear hb1
  obtain ⟨r0, r1, g0, g1⟩ := O
  have y0 : w.heap.size < w1.heap.size := by omega
  have y1 : w.heap.size + 1 < w1.heap.size := by omega
  rcases (Bool.eq_false_or_eq_true (pixB gx gy size wide high px py)).symm with hc | hc
  · rw [pixE_no hc]
    have HC := Lib.hid (show ovL gx gy size wide high px py zs = 0 ∧ ovH gx gy size wide high px py zs = 20000 from ⟨if_neg (by rw [hc]; decide), if_neg (by rw [hc]; decide)⟩)
    clear hc
    go_wp2
    exact bodyPost_ret (v := .agg #[.int .i64 0, .int .i64 20000]) (by simp [results, Try.results89, go_sem, set_other (i := 1) (j := 0) (b := w.heap.size + 1) (by decide) (set_same (v := .int .i64 0) r0), set_same (v := .int .i64 20000) (set_other (i := 0) (j := 1) (b := w.heap.size + 1) (v := .int .i64 0) (by decide) r1)]) rfl ⟨by rw [HC.out.1, HC.out.2], (hbw.setCell (p := ⟨w.heap.size + 1, 0, none⟩) (by simp) _).setCell (p := ⟨w.heap.size + 1, 1, none⟩) (by simp) _⟩
  · rw [pixE_yes hc]
    obtain ⟨N, hN⟩ : ∃ N : Nat, pixN gx gy size wide px py = N := ⟨_, (Int.toNat_of_nonneg (HN.out hc)).symm⟩
    have hlt := HP.out hc
    rw [hN] at hlt
    have HC := Lib.hid (show ovL gx gy size wide high px py zs = (zs N).1 ∧ ovH gx gy size wide high px py zs = (zs N).2 from ⟨by unfold ovL; rw [if_pos hc, hN]; rfl, by unfold ovH; rw [if_pos hc, hN]; rfl⟩)
    have hlt : N < len := by have := HL.out; omega
    have q0 : (0 : Int) ≤ (N : Int) := by omega
    have q1 : (N : Int) < (len : Int) := by omega
    obtain ⟨c0, c1⟩ := HSP.out.keep hbw hfb N hlt
    rw [if_pos rfl, hN]
    clear hc hN HP HN
    go_wp2
    exact bodyPost_ret (v := .agg #[.int .i64 (zs N).1, .int .i64 (zs N).2]) (by simp [results, Try.results89, go_sem, set_other (i := 1) (j := 0) (b := w.heap.size + 1) (by decide) (set_same (v := .int .i64 (zs N).1) r0), set_same (v := .int .i64 (zs N).2) (set_other (i := 0) (j := 1) (b := w.heap.size + 1) (v := .int .i64 (zs N).1) (by decide) r1)]) rfl ⟨by rw [HC.out.1, HC.out.2], (hbw.setCell (p := ⟨w.heap.size + 1, 0, none⟩) (by simp) _).setCell (p := ⟨w.heap.size + 1, 1, none⟩) (by simp) _⟩

end Go.Proofs.Ythnjfnapjpdchaa
