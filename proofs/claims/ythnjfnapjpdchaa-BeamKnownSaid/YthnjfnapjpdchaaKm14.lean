/-
  What Ground answers, in the code and in the reference.
-/
import Derived.Test.YthnjfnapjpdchaaKm7
import Derived.Test.YthnjfnapjpdchaaKm13
import Derived.Test.YthnjfnapjpdchaaKm4
namespace Go.Proofs.Ythnjfnapjpdchaa
open Go.RowKit
set_option linter.unusedVariables false

set_option maxHeartbeats 1600000 in
theorem Ground_err (nm : ByteArray) (x y z rose gates step width : Int) (t gate : Int) (w : World) (hs : nm.size ≤ maxLen) (hne : (siteC nm x y z rose gates step width != 0) = true) :
    Calls Try.prog 29 #[.agg #[.string nm, .int .i64 x, .int .i64 y, .int .i64 z, .int .i64 rose, .int .i64 gates, .int .i64 step, .int .i64 width], .int .i64 t, .int .i64 gate] w
      fun e w' => e = .returned (.tuple #[.agg #[.int .i64 0, .int .i64 0], .int .i64 (siteC nm x y z rose gates step width)]) ∧ Below w.heap.size w w' := by
  have HS := Lib.hid hs
  clear hs
  go_enter Try.func29, Try.ntmps29
  go_wp2_with fail
  refine (CheckSite_any _ _ _ _ _ _ _ _ _ HS.out).mono ?_; rintro e w1 ⟨rfl, hb1⟩
  have T1 := (Two.new w nm x y z rose gates step width (.int .i64 0) (.int .i64 0) 43).keep hb1 (by simp only [World.size_alloc]; omega)
  clear hb1
  obtain ⟨⟨k0, k1, k2, k3, k4, k5, k6, k7⟩, ⟨o0, o1, f0, f1⟩, hz, hbw⟩ := T1
  go_wp2
  exact bodyPost_ret (v := .tuple #[.agg #[.int .i64 0, .int .i64 0], .int .i64 (siteC nm x y z rose gates step width)]) (by simp [results, Try.results29, go_sem, o0, o1]) rfl ⟨rfl, Below.setCell (Below.setCell hbw (by dsimp only; omega) _) (by dsimp only; omega) _⟩

set_option maxHeartbeats 1600000 in
theorem Ground_no0 (nm : ByteArray) (x y z rose gates step width : Int) (t gate : Int) (w : World) (hs : nm.size ≤ maxLen) (h0 : siteC nm x y z rose gates step width = 0) (hg1 : 1 ≤ gates) (hg2 : gates ≤ 200) (c0 : inB t 0 256 = false) :
    Calls Try.prog 29 #[.agg #[.string nm, .int .i64 x, .int .i64 y, .int .i64 z, .int .i64 rose, .int .i64 gates, .int .i64 step, .int .i64 width], .int .i64 t, .int .i64 gate] w
      fun e w' => e = .returned (.tuple #[.agg #[.int .i64 0, .int .i64 0], .int .i64 3]) ∧ Below w.heap.size w w' := by
  have HS := Lib.hid hs
  have H0 := Lib.hid h0
  clear hs h0
  go_enter Try.func29, Try.ntmps29
  go_wp2_with fail
  refine (CheckSite_any _ _ _ _ _ _ _ _ _ HS.out).mono ?_; rintro e w1 ⟨rfl, hb1⟩
  have T1 := (Two.new w nm x y z rose gates step width (.int .i64 0) (.int .i64 0) 43).keep hb1 (by simp only [World.size_alloc]; omega)
  clear hb1
  rw [H0.out]
  obtain ⟨⟨k0, k1, k2, k3, k4, k5, k6, k7⟩, ⟨o0, o1, f0, f1⟩, hz, hbw⟩ := T1
  go_wp2_with fail
  refine (isTilt_any _ _).mono ?_; rintro e w' ⟨rfl, rfl⟩
  go_wp2
  exact bodyPost_ret (v := .tuple #[.agg #[.int .i64 0, .int .i64 0], .int .i64 3]) (by simp [results, Try.results29, go_sem, o0, o1]) rfl ⟨rfl, Below.setCell (Below.setCell hbw (by dsimp only; omega) _) (by dsimp only; omega) _⟩

set_option maxHeartbeats 1600000 in
theorem Ground_no1 (nm : ByteArray) (x y z rose gates step width : Int) (t gate : Int) (w : World) (hs : nm.size ≤ maxLen) (h0 : siteC nm x y z rose gates step width = 0) (hg1 : 1 ≤ gates) (hg2 : gates ≤ 200) (c0 : inB t 0 256 = true) (c1 : inB gate 0 (gates - 1) = false) :
    Calls Try.prog 29 #[.agg #[.string nm, .int .i64 x, .int .i64 y, .int .i64 z, .int .i64 rose, .int .i64 gates, .int .i64 step, .int .i64 width], .int .i64 t, .int .i64 gate] w
      fun e w' => e = .returned (.tuple #[.agg #[.int .i64 0, .int .i64 0], .int .i64 3]) ∧ Below w.heap.size w w' := by
  have HS := Lib.hid hs
  have H0 := Lib.hid h0
  clear hs h0
  go_enter Try.func29, Try.ntmps29
  go_wp2_with fail
  refine (CheckSite_any _ _ _ _ _ _ _ _ _ HS.out).mono ?_; rintro e w1 ⟨rfl, hb1⟩
  have T1 := (Two.new w nm x y z rose gates step width (.int .i64 0) (.int .i64 0) 43).keep hb1 (by simp only [World.size_alloc]; omega)
  clear hb1
  rw [H0.out]
  obtain ⟨⟨k0, k1, k2, k3, k4, k5, k6, k7⟩, ⟨o0, o1, f0, f1⟩, hz, hbw⟩ := T1
  go_wp2_with fail
  refine (isTilt_any _ _).mono ?_; rintro e w' ⟨rfl, rfl⟩
  go_wp2_with fail
  refine (isGate_any _ _ _ _ _ _ _ _ _ _ hg1 hg2).mono ?_; rintro e w2 ⟨rfl, hb2⟩
  have T2 := (⟨⟨k0, k1, k2, k3, k4, k5, k6, k7⟩, ⟨o0, o1, f0, f1⟩, hz, hbw⟩ : Two w w1 nm x y z rose gates step width ).keep hb2 (by omega)
  clear k0 k1 k2 k3 k4 k5 k6 k7 o0 o1 f0 f1 hz hbw
  clear hb2
  obtain ⟨⟨k0, k1, k2, k3, k4, k5, k6, k7⟩, ⟨o0, o1, f0, f1⟩, hz, hbw⟩ := T2
  go_wp2
  exact bodyPost_ret (v := .tuple #[.agg #[.int .i64 0, .int .i64 0], .int .i64 3]) (by simp [results, Try.results29, go_sem, o0, o1]) rfl ⟨rfl, Below.setCell (Below.setCell hbw (by dsimp only; omega) _) (by dsimp only; omega) _⟩

set_option maxHeartbeats 800000 in
theorem Ground_ok0 (nm : ByteArray) (x y z rose gates step width t gate : Int) (w : World) (hs : nm.size ≤ maxLen) (h0 : siteC nm x y z rose gates step width = 0) (h1 : 0 ≤ t) (h2 : t ≤ 256) (s1 : 50 ≤ step) (s2 : step ≤ 2000) (g1 : 0 ≤ gate) (g2 : gate ≤ 199) (g3 : gate < gates) (g4 : gates ≤ 200) :
    Calls Try.prog 29 #[.agg #[.string nm, .int .i64 x, .int .i64 y, .int .i64 z, .int .i64 rose, .int .i64 gates, .int .i64 step, .int .i64 width], .int .i64 t, .int .i64 gate] w
      fun e w' => e = .returned (.tuple #[.agg #[.int .i64 (runLo step t gate), .int .i64 (runHi step t gate)], .int .i64 0]) ∧ Below w.heap.size w w' := by
  have HS := Lib.hid hs
  have H0 := Lib.hid h0
  have hi : inB t 0 256 = true := inB_true.2 ⟨h1, h2⟩
  have hj : inB gate 0 (gates - 1) = true := inB_true.2 ⟨g1, by omega⟩
  clear hs h0
  go_enter Try.func29, Try.ntmps29
  go_wp2_with fail
  refine (CheckSite_any _ _ _ _ _ _ _ _ _ HS.out).mono ?_; rintro e w1 ⟨rfl, hb1⟩; rw [H0.out]
  obtain ⟨hc1, hf1⟩ := bcell hb1
  have hz1 := hb1.size
  simp at hz1
  go_wp2_with fail
  refine (isTilt_any _ _).mono ?_; rintro e w2 ⟨rfl, rfl⟩
  go_wp2_with fail
  refine (isGate_any _ _ _ _ _ _ _ _ _ _ (by omega) g4).mono ?_; rintro e w2 ⟨rfl, hb2⟩
  obtain ⟨hc2, hf2⟩ := bcell hb2
  have hz2 := hb2.size
  go_wp2_with fail
  refine (roundings_any _).mono ?_; rintro e w3 ⟨rfl, hw3⟩
  subst hw3
  have hz3 : w.heap.size + 1 < w2.heap.size := by omega
  obtain ⟨k0, k1, k2, k3, k4, k5, k6, k7, k8, k9, k10, k11⟩ : w2.cell? ⟨w.heap.size, 0, none⟩ = some (.string nm) ∧ w2.cell? ⟨w.heap.size, 1, none⟩ = some (.int .i64 x) ∧ w2.cell? ⟨w.heap.size, 2, none⟩ = some (.int .i64 y) ∧ w2.cell? ⟨w.heap.size, 3, none⟩ = some (.int .i64 z) ∧ w2.cell? ⟨w.heap.size, 4, none⟩ = some (.int .i64 rose) ∧ w2.cell? ⟨w.heap.size, 5, none⟩ = some (.int .i64 gates) ∧ w2.cell? ⟨w.heap.size, 6, none⟩ = some (.int .i64 step) ∧ w2.cell? ⟨w.heap.size, 7, none⟩ = some (.int .i64 width) ∧ w2.cell? ⟨w.heap.size + 1, 0, none⟩ = some (cellAt w2 ⟨w.heap.size + 1, 0, none⟩) ∧ w2.cell? ⟨w.heap.size + 1, 1, none⟩ = some (cellAt w2 ⟨w.heap.size + 1, 1, none⟩) ∧ w2.frozen? ⟨w.heap.size + 1, 0, none⟩ = false ∧ w2.frozen? ⟨w.heap.size + 1, 1, none⟩ = false := by
    refine ⟨?_, ?_, ?_, ?_, ?_, ?_, ?_, ?_, ?_, ?_, ?_, ?_⟩ <;> first | (rw [hc2 _ _ (by omega), hc1 _ _ (by first | (simp; done) | (simp; omega))]; simp; done) | (rw [hf2 _ _ (by omega), hf1 _ _ (by first | (simp; done) | (simp; omega))]; simp; done) | (refine cellAt_mk (v := .int .i64 0) ?_; rw [hc2 _ _ (by omega), hc1 _ _ (by first | (simp; done) | (simp; omega))]; simp)
  have hb4 : Below w2.heap.size w2 (w2.alloc (.cells #[.func (Fn.func 92) #[] #[]] 90)).drew := ((Below.refl _ _).alloc (Nat.le_refl _) _).drew
  have hk8 : (w2.alloc (.cells #[.func (Fn.func 92) #[] #[]] 90)).drew.cell? ⟨w2.heap.size, 0, none⟩ = some (.func (Fn.func 92) #[] #[]) := by simp
  have hk9 : w2.heap.size < (w2.alloc (.cells #[.func (Fn.func 92) #[] #[]] 90)).drew.heap.size := by simp
  have hbw : Below w.heap.size w w2 := by
    refine Below.trans ?_ (hb2.mono (by omega))
    refine Below.trans ?_ (hb1.mono (by simp; omega))
    exact ((Below.refl _ _).alloc (Nat.le_refl _) _).alloc (by simp) _
  have hbw2 : Below w.heap.size w (w2.alloc (.cells #[.func (Fn.func 92) #[] #[]] 90)).drew := hbw.trans (hb4.mono (by omega))
  go_wp2_with fail
  go_region_held3 (fun w' => w'.cell? ⟨w.heap.size, 0, none⟩ = some (.string nm) ∧ w'.cell? ⟨w.heap.size, 1, none⟩ = some (.int .i64 x) ∧ w'.cell? ⟨w.heap.size, 2, none⟩ = some (.int .i64 y) ∧ w'.cell? ⟨w.heap.size, 3, none⟩ = some (.int .i64 z) ∧ w'.cell? ⟨w.heap.size, 4, none⟩ = some (.int .i64 rose) ∧ w'.cell? ⟨w.heap.size, 5, none⟩ = some (.int .i64 gates) ∧ w'.cell? ⟨w.heap.size, 6, none⟩ = some (.int .i64 step) ∧ w'.cell? ⟨w.heap.size, 7, none⟩ = some (.int .i64 width) ∧ w'.cell? ⟨w.heap.size + 1, 0, none⟩ = some (cellAt w' ⟨w.heap.size + 1, 0, none⟩) ∧ w'.cell? ⟨w.heap.size + 1, 1, none⟩ = some (cellAt w' ⟨w.heap.size + 1, 1, none⟩) ∧ w'.frozen? ⟨w.heap.size + 1, 0, none⟩ = false ∧ w'.frozen? ⟨w.heap.size + 1, 1, none⟩ = false ∧
      w'.cell? ⟨w2.heap.size, 0, none⟩ = some (.func (Fn.func 92) #[] #[]) ∧ w2.heap.size < w'.heap.size ∧ Below w.heap.size w w')
    (first | (go_split_ands; refine ⟨?_, ?_, ?_, ?_, ?_, ?_, ?_, ?_, ?_, ?_, ?_, ?_, ?_, ?_, ?_⟩ <;> first | exact hbw2 | exact hk8 | exact hk9 | exact keepB hb4 (by omega) (by assumption) | exact keepA hb4 (by omega) (by assumption) | exact keepF hb4 (by omega) (by assumption) | (have := hb4.size; omega) | exact Below.trans (by assumption) (hb4.mono (by omega)) | exact Below.setCell (Below.setCell (by assumption) (by simp) _) (by simp) _ | exact cellAt_set (cellAt_set (by assumption)) | (rw [World.cell?_setCell_far _ _ _ _ (by dsimp only; omega), World.cell?_setCell_far _ _ _ _ (by dsimp only; omega)]; assumption) | (simp; assumption) | (simp; omega)))
    (first | (go_at_call_of 69 (Value.func (Fn.func 92) #[] #[]); refine (run_down _ _ _ _ _ _ _ _ _ _ _ (by omega) (by omega) s1 s2 g1 g2).mono ?_; rintro e w4 ⟨rfl, hb4⟩) | (go_at_call 69; refine (run_up _ _ _ _ _ _ _ _ _ _ _ _ ?_ ?_ (by omega) (by omega) s1 s2 g1 g2).mono ?_; (go_split_ands; assumption); (go_split_ands; assumption); rintro e w4 ⟨rfl, hb4⟩))
  go_split_ands
  have hp := pair_read (by assumption) (by assumption)
  obtain ⟨hp0, hp1⟩ := hp
  go_wp2
  exact bodyPost_ret (v := .tuple #[.agg #[.int .i64 (runLo step t gate), .int .i64 (runHi step t gate)], .int .i64 0]) (by simp [results, Try.results29, go_sem, hp0, hp1]) rfl ⟨rfl, by assumption⟩

theorem Ground_ok (nm : ByteArray) (x y z rose gates step width : Int) (t gate : Int) (w : World) (hs : nm.size ≤ maxLen) (h0 : siteC nm x y z rose gates step width = 0) (hk : SiteOk x y z rose gates step width) (c0 : inB t 0 256 = true) (c1 : inB gate 0 (gates - 1) = true) :
    Calls Try.prog 29 #[.agg #[.string nm, .int .i64 x, .int .i64 y, .int .i64 z, .int .i64 rose, .int .i64 gates, .int .i64 step, .int .i64 width], .int .i64 t, .int .i64 gate] w
      fun e w' => e = .returned (.tuple #[.agg #[.int .i64 (runLo step t gate), .int .i64 (runHi step t gate)], .int .i64 0]) ∧ Below w.heap.size w w' := by
  obtain ⟨t1, t2⟩ := inB_true.1 c0
  obtain ⟨g1, g3⟩ := inB_gate c1
  have g2 := hk.g2
  exact Ground_ok0 nm x y z rose gates step width t gate w hs h0 t1 t2 hk.s1 hk.s2 g1 (by omega) g3 g2

theorem Ground_any (nm : ByteArray) (x y z rose gates step width : Int) (t gate : Int) (w : World) (hs : nm.size ≤ maxLen) :
    Calls Try.prog 29 #[.agg #[.string nm, .int .i64 x, .int .i64 y, .int .i64 z, .int .i64 rose, .int .i64 gates, .int .i64 step, .int .i64 width], .int .i64 t, .int .i64 gate] w
      fun e w' => e = .returned (.tuple #[.agg #[.int .i64 (val (codeE (siteC nm x y z rose gates step width) (inB t 0 256 && inB gate 0 (gates - 1))) (runLo step t gate)), .int .i64 (val (codeE (siteC nm x y z rose gates step width) (inB t 0 256 && inB gate 0 (gates - 1))) (runHi step t gate))], .int .i64 (codeE (siteC nm x y z rose gates step width) (inB t 0 256 && inB gate 0 (gates - 1)))]) ∧ Below w.heap.size w w' := by
  by_cases h0 : siteC nm x y z rose gates step width = 0
  · have hk := (siteC_zero.1 h0).2
    have hg1 := hk.g1
    have hg2 := hk.g2
    rcases (Bool.eq_false_or_eq_true (inB t 0 256)).symm with c0 | c0
    · have e : (codeE (siteC nm x y z rose gates step width) (inB t 0 256 && inB gate 0 (gates - 1))) = 3 := by rw [h0, c0]; rfl
      rw [e, val_no, val_no]
      exact Ground_no0 nm x y z rose gates step width t gate w hs h0 hg1 hg2 c0
    · have _u := hg1
      rcases (Bool.eq_false_or_eq_true (inB gate 0 (gates - 1))).symm with c1 | c1
      · have e : (codeE (siteC nm x y z rose gates step width) (inB t 0 256 && inB gate 0 (gates - 1))) = 3 := by rw [h0, c0, c1]; rfl
        rw [e, val_no, val_no]
        exact Ground_no1 nm x y z rose gates step width t gate w hs h0 hg1 hg2 c0 c1
      · have e : (codeE (siteC nm x y z rose gates step width) (inB t 0 256 && inB gate 0 (gates - 1))) = 0 := by rw [h0, c0, c1]; rfl
        rw [e, val_ok, val_ok]
        exact Ground_ok nm x y z rose gates step width t gate w hs h0 hk c0 c1
  · rw [codeE_err h0, val_err h0, val_err h0]
    exact Ground_err nm x y z rose gates step width t gate w hs (bne_iff_ne.2 h0)

set_option maxHeartbeats 1600000 in
theorem refGround_err (nm : ByteArray) (x y z rose gates step width : Int) (t gate : Int) (w : World) (hs : nm.size ≤ maxLen) (hne : (siteC nm x y z rose gates step width != 0) = true) :
    Calls Try.prog 30 #[.agg #[.string nm, .int .i64 x, .int .i64 y, .int .i64 z, .int .i64 rose, .int .i64 gates, .int .i64 step, .int .i64 width], .int .i64 t, .int .i64 gate] w
      fun e w' => e = .returned (.tuple #[.agg #[.int .i64 0, .int .i64 0], .int .i64 (siteC nm x y z rose gates step width)]) ∧ Below w.heap.size w w' := by
  have HS := Lib.hid hs
  clear hs
  go_enter Try.func30, Try.ntmps30
  go_wp2_with fail
  refine (refCheckSite_any _ _ _ _ _ _ _ _ _ HS.out).mono ?_; rintro e w1 ⟨rfl, hb1⟩
  have T1 := (Two.new w nm x y z rose gates step width (.int .i64 0) (.int .i64 0) 43).keep hb1 (by simp only [World.size_alloc]; omega)
  clear hb1
  obtain ⟨⟨k0, k1, k2, k3, k4, k5, k6, k7⟩, ⟨o0, o1, f0, f1⟩, hz, hbw⟩ := T1
  go_wp2
  exact bodyPost_ret (v := .tuple #[.agg #[.int .i64 0, .int .i64 0], .int .i64 (siteC nm x y z rose gates step width)]) (by simp [results, Try.results30, go_sem, o0, o1]) rfl ⟨rfl, Below.setCell (Below.setCell hbw (by dsimp only; omega) _) (by dsimp only; omega) _⟩

set_option maxHeartbeats 1600000 in
theorem refGround_no0 (nm : ByteArray) (x y z rose gates step width : Int) (t gate : Int) (w : World) (hs : nm.size ≤ maxLen) (h0 : siteC nm x y z rose gates step width = 0) (hg1 : 1 ≤ gates) (hg2 : gates ≤ 200) (c0 : inB t 0 256 = false) :
    Calls Try.prog 30 #[.agg #[.string nm, .int .i64 x, .int .i64 y, .int .i64 z, .int .i64 rose, .int .i64 gates, .int .i64 step, .int .i64 width], .int .i64 t, .int .i64 gate] w
      fun e w' => e = .returned (.tuple #[.agg #[.int .i64 0, .int .i64 0], .int .i64 3]) ∧ Below w.heap.size w w' := by
  have HS := Lib.hid hs
  have H0 := Lib.hid h0
  clear hs h0
  go_enter Try.func30, Try.ntmps30
  go_wp2_with fail
  refine (refCheckSite_any _ _ _ _ _ _ _ _ _ HS.out).mono ?_; rintro e w1 ⟨rfl, hb1⟩
  have T1 := (Two.new w nm x y z rose gates step width (.int .i64 0) (.int .i64 0) 43).keep hb1 (by simp only [World.size_alloc]; omega)
  clear hb1
  rw [H0.out]
  obtain ⟨⟨k0, k1, k2, k3, k4, k5, k6, k7⟩, ⟨o0, o1, f0, f1⟩, hz, hbw⟩ := T1
  go_wp2_with fail
  refine (refIn_any _ _ _ _).mono ?_; rintro e w' ⟨rfl, rfl⟩
  go_wp2
  exact bodyPost_ret (v := .tuple #[.agg #[.int .i64 0, .int .i64 0], .int .i64 3]) (by simp [results, Try.results30, go_sem, o0, o1]) rfl ⟨rfl, Below.setCell (Below.setCell hbw (by dsimp only; omega) _) (by dsimp only; omega) _⟩

set_option maxHeartbeats 1600000 in
theorem refGround_no1 (nm : ByteArray) (x y z rose gates step width : Int) (t gate : Int) (w : World) (hs : nm.size ≤ maxLen) (h0 : siteC nm x y z rose gates step width = 0) (hg1 : 1 ≤ gates) (hg2 : gates ≤ 200) (c0 : inB t 0 256 = true) (c1 : inB gate 0 (gates - 1) = false) :
    Calls Try.prog 30 #[.agg #[.string nm, .int .i64 x, .int .i64 y, .int .i64 z, .int .i64 rose, .int .i64 gates, .int .i64 step, .int .i64 width], .int .i64 t, .int .i64 gate] w
      fun e w' => e = .returned (.tuple #[.agg #[.int .i64 0, .int .i64 0], .int .i64 3]) ∧ Below w.heap.size w w' := by
  have HS := Lib.hid hs
  have H0 := Lib.hid h0
  clear hs h0
  go_enter Try.func30, Try.ntmps30
  go_wp2_with fail
  refine (refCheckSite_any _ _ _ _ _ _ _ _ _ HS.out).mono ?_; rintro e w1 ⟨rfl, hb1⟩
  have T1 := (Two.new w nm x y z rose gates step width (.int .i64 0) (.int .i64 0) 43).keep hb1 (by simp only [World.size_alloc]; omega)
  clear hb1
  rw [H0.out]
  obtain ⟨⟨k0, k1, k2, k3, k4, k5, k6, k7⟩, ⟨o0, o1, f0, f1⟩, hz, hbw⟩ := T1
  go_wp2_with fail
  refine (refIn_any _ _ _ _).mono ?_; rintro e w' ⟨rfl, rfl⟩
  go_wp2_with fail
  refine (refIn_any _ _ _ _).mono ?_; rintro e w' ⟨rfl, rfl⟩
  go_wp2
  exact bodyPost_ret (v := .tuple #[.agg #[.int .i64 0, .int .i64 0], .int .i64 3]) (by simp [results, Try.results30, go_sem, o0, o1]) rfl ⟨rfl, Below.setCell (Below.setCell hbw (by dsimp only; omega) _) (by dsimp only; omega) _⟩

set_option maxHeartbeats 3200000 in
theorem refGround_ok (nm : ByteArray) (x y z rose gates step width : Int) (t gate : Int) (w : World) (hs : nm.size ≤ maxLen) (h0 : siteC nm x y z rose gates step width = 0) (hk : SiteOk x y z rose gates step width) (c0 : inB t 0 256 = true) (c1 : inB gate 0 (gates - 1) = true) :
    Calls Try.prog 30 #[.agg #[.string nm, .int .i64 x, .int .i64 y, .int .i64 z, .int .i64 rose, .int .i64 gates, .int .i64 step, .int .i64 width], .int .i64 t, .int .i64 gate] w
      fun e w' => e = .returned (.tuple #[.agg #[.int .i64 (runLo step t gate), .int .i64 (runHi step t gate)], .int .i64 0]) ∧ Below w.heap.size w w' := by
  have HS := Lib.hid hs
  have H0 := Lib.hid h0
  obtain ⟨x1, x2, y1, y2, z1, z2, r1, r2, hg1, hg2, s1, s2, d1, d2⟩ := hk
  obtain ⟨t1, t2⟩ := inB_true.1 c0
  obtain ⟨g1, g3⟩ := inB_gate c1
  clear hs h0
  go_enter Try.func30, Try.ntmps30
  go_wp2_with fail
  refine (refCheckSite_any _ _ _ _ _ _ _ _ _ HS.out).mono ?_; rintro e w1 ⟨rfl, hb1⟩
  have T1 := (Two.new w nm x y z rose gates step width (.int .i64 0) (.int .i64 0) 43).keep hb1 (by simp only [World.size_alloc]; omega)
  clear hb1
  rw [H0.out]
  obtain ⟨⟨k0, k1, k2, k3, k4, k5, k6, k7⟩, ⟨o0, o1, f0, f1⟩, hz, hbw⟩ := T1
  go_wp2_with fail
  refine (refIn_any _ _ _ _).mono ?_; rintro e w' ⟨rfl, rfl⟩
  go_wp2_with fail
  refine (refIn_any _ _ _ _).mono ?_; rintro e w' ⟨rfl, rfl⟩
  go_wp2_with fail
  refine (refground_any _ _ _ _ _ _ _ _ _ _ _ (by omega) (by omega) s1 s2 g1 (by omega)).mono ?_; rintro e w2 ⟨rfl, hb2⟩
  have T2 := (⟨⟨k0, k1, k2, k3, k4, k5, k6, k7⟩, ⟨o0, o1, f0, f1⟩, hz, hbw⟩ : Two w w1 nm x y z rose gates step width ).keep hb2 (by omega)
  clear k0 k1 k2 k3 k4 k5 k6 k7 o0 o1 f0 f1 hz hbw
  clear hb2
  obtain ⟨⟨k0, k1, k2, k3, k4, k5, k6, k7⟩, ⟨o0, o1, f0, f1⟩, hz, hbw⟩ := T2
  go_wp2
  exact bodyPost_ret (v := .tuple #[.agg #[.int .i64 (runLo step t gate), .int .i64 (runHi step t gate)], .int .i64 0]) (by simp [results, Try.results30, go_sem, o0, o1]) rfl ⟨rfl, Below.setCell (Below.setCell hbw (by dsimp only; omega) _) (by dsimp only; omega) _⟩

theorem refGround_any (nm : ByteArray) (x y z rose gates step width : Int) (t gate : Int) (w : World) (hs : nm.size ≤ maxLen) :
    Calls Try.prog 30 #[.agg #[.string nm, .int .i64 x, .int .i64 y, .int .i64 z, .int .i64 rose, .int .i64 gates, .int .i64 step, .int .i64 width], .int .i64 t, .int .i64 gate] w
      fun e w' => e = .returned (.tuple #[.agg #[.int .i64 (val (codeE (siteC nm x y z rose gates step width) (inB t 0 256 && inB gate 0 (gates - 1))) (runLo step t gate)), .int .i64 (val (codeE (siteC nm x y z rose gates step width) (inB t 0 256 && inB gate 0 (gates - 1))) (runHi step t gate))], .int .i64 (codeE (siteC nm x y z rose gates step width) (inB t 0 256 && inB gate 0 (gates - 1)))]) ∧ Below w.heap.size w w' := by
  by_cases h0 : siteC nm x y z rose gates step width = 0
  · have hk := (siteC_zero.1 h0).2
    have hg1 := hk.g1
    have hg2 := hk.g2
    rcases (Bool.eq_false_or_eq_true (inB t 0 256)).symm with c0 | c0
    · have e : (codeE (siteC nm x y z rose gates step width) (inB t 0 256 && inB gate 0 (gates - 1))) = 3 := by rw [h0, c0]; rfl
      rw [e, val_no, val_no]
      exact refGround_no0 nm x y z rose gates step width t gate w hs h0 hg1 hg2 c0
    · have _u := hg1
      rcases (Bool.eq_false_or_eq_true (inB gate 0 (gates - 1))).symm with c1 | c1
      · have e : (codeE (siteC nm x y z rose gates step width) (inB t 0 256 && inB gate 0 (gates - 1))) = 3 := by rw [h0, c0, c1]; rfl
        rw [e, val_no, val_no]
        exact refGround_no1 nm x y z rose gates step width t gate w hs h0 hg1 hg2 c0 c1
      · have e : (codeE (siteC nm x y z rose gates step width) (inB t 0 256 && inB gate 0 (gates - 1))) = 0 := by rw [h0, c0, c1]; rfl
        rw [e, val_ok, val_ok]
        exact refGround_ok nm x y z rose gates step width t gate w hs h0 hk c0 c1
  · rw [codeE_err h0, val_err h0, val_err h0]
    exact refGround_err nm x y z rose gates step width t gate w hs (bne_iff_ne.2 h0)

end Go.Proofs.Ythnjfnapjpdchaa

namespace Go.Proofs.Ythnjfnapjpdchaa
open Go.RowKit

set_option maxHeartbeats 400000 in
theorem point_any (n : Int) (w : World) :
    Calls Try.prog 48 #[.int .i64 n] w fun e w' => e = .returned (.agg #[.int .i64 n, .int .i64 n]) ∧ Below w.heap.size w w' := by
  go_enter Try.func48, Try.ntmps48
  go_wp2
  exact bodyPost_ret (v := .agg #[.int .i64 n, .int .i64 n]) (by simp [results, Try.results48, go_sem]) rfl ⟨rfl, by repeat (first | exact Below.refl _ _ | (refine Below.setCell ?_ (by simp) _) | (refine Below.alloc ?_ (by simp) _))⟩

/-- the name of the example's site -/
def nmS : ByteArray := { data := #[115] }

set_option maxHeartbeats 400000 in
theorem S_any (w : World) :
    Calls Try.prog 23 #[] w fun e w' => e = .returned (.agg #[.string nmS, .int .i64 0, .int .i64 0, .int .i64 100, .int .i64 2, .int .i64 4, .int .i64 1000, .int .i64 1]) ∧ Below w.heap.size w w' := by
  go_enter Try.func23, Try.ntmps23
  go_wp2
  exact bodyPost_ret (v := .agg #[.string nmS, .int .i64 0, .int .i64 0, .int .i64 100, .int .i64 2, .int .i64 4, .int .i64 1000, .int .i64 1]) (by simp [results, Try.results23, go_sem, nmS]) rfl ⟨rfl, by repeat (first | exact Below.refl _ _ | (refine Below.setCell ?_ (by simp) _) | (refine Below.alloc ?_ (by simp) _))⟩

theorem nmS_ok : nameB nmS = true := by
  rw [nameB_true]
  refine ⟨by decide, by decide, fun h => ?_, fun j h => ?_⟩
  · have e : ((nmS[0]'h).toNat : Int) = 115 := rfl
    rw [e]; decide
  · have h2 : j < 1 := h
    obtain rfl : j = 0 := by omega
    have e : ((nmS[0]'h).toNat : Int) = 115 := rfl
    rw [e]; decide
theorem siteS : siteC nmS 0 0 100 2 4 1000 1 = 0 := siteC_zero.2 ⟨nmS_ok, siteB_true.1 (by decide)⟩
theorem nmS_size : nmS.size ≤ maxLen := by decide

theorem d21 : dirX 2 1 = 4 ∧ dirY 2 1 = 3 ∧ dirL 2 1 = 5 := by decide
theorem g256 : codeE (siteC nmS 0 0 100 2 4 1000 1) (inB 256 0 256 && inB 1 0 (4 - 1)) = 0 := by rw [siteS]; decide
theorem r256 : runLo 1000 256 1 = 900 ∧ runHi 1000 256 1 = 900 := by decide +kernel

theorem Direction_21 (w : World) : Calls Try.prog 25 #[.int .i64 2, .int .i64 1] w fun e w' => e = .returned (.tuple #[.int .i64 4, .int .i64 3, .int .i64 5, .int .i64 0]) ∧ Below w.heap.size w w' := by
  have h := Direction_ok 2 1 w (by decide) (by decide) (by decide) (by decide)
  rw [d21.1, d21.2.1, d21.2.2] at h
  exact h
theorem Ground_S (w : World) : Calls Try.prog 29 #[.agg #[.string nmS, .int .i64 0, .int .i64 0, .int .i64 100, .int .i64 2, .int .i64 4, .int .i64 1000, .int .i64 1], .int .i64 256, .int .i64 1] w
    fun e w' => e = .returned (.tuple #[.agg #[.int .i64 900, .int .i64 900], .int .i64 0]) ∧ Below w.heap.size w w' := by
  have h := Ground_any nmS 0 0 100 2 4 1000 1 256 1 w nmS_size
  rw [g256, val_ok, val_ok, r256.1, r256.2] at h
  exact h

set_option maxHeartbeats 800000 in
theorem works_any (w : World) :
    Calls Try.prog 14 #[] w fun e w' => e = .returned (.bool true) ∧ Below w.heap.size w w' := by
  go_enter Try.func14, Try.ntmps14
  go_wp2_with fail
  refine (Direction_21 _).mono ?_; rintro e w1 ⟨rfl, hb1⟩
  go_wp2_with fail
  refine (S_any _).mono ?_; rintro e w2 ⟨rfl, hb2⟩
  go_wp2_with fail
  refine (Ground_S _).mono ?_; rintro e w3 ⟨rfl, hb3⟩
  have hb : Below w.heap.size w w3 := (hb1.trans (hb2.mono hb1.size)).trans (hb3.mono (Nat.le_trans hb1.size hb2.size))
  have hz : w.heap.size ≤ w3.heap.size := hb.size
  clear hb1 hb2 hb3
  go_wp2_with fail
  go_region_held3 (fun w' => w'.cell? ⟨w3.heap.size, 0, none⟩ = some (.int .i64 900) ∧ w'.cell? ⟨w3.heap.size, 1, none⟩ = some (.int .i64 900) ∧ w3.heap.size < w'.heap.size ∧ Below w.heap.size w w')
    (first | exact ⟨alloc_new rfl rfl, alloc_new rfl rfl, by simp, (hb.alloc hz _).drew⟩ | (go_split_ands; refine ⟨?_, ?_, ?_, ?_⟩ <;> first | exact keepB hb4 (by omega) (by assumption) | (have := hb4.size; omega) | exact Below.trans (by assumption) (hb4.mono (by omega))))
    (first | (go_at_call 48; refine (point_any _ _).mono ?_; rintro e w4 ⟨rfl, hb4⟩))
  go_split_ands
  go_wp2
  go_ret
  exact ⟨rfl, by assumption⟩

end Go.Proofs.Ythnjfnapjpdchaa

namespace Go.Proofs.Ythnjfnapjpdchaa
open Go.RowKit

/-! the answers of Direction and Slant in one form -/
def dirB (n d : Int) : Bool := inB n 1 180 && inB d 0 (4 * n - 1)
def dX (n d : Int) : Int := if dirB n d = true then dirX n d else 0
def dY (n d : Int) : Int := if dirB n d = true then dirY n d else 0
def dL (n d : Int) : Int := if dirB n d = true then dirL n d else 0
def dE (n d : Int) : Int := if dirB n d = true then 0 else 3

theorem dir_yes {n d : Int} (h : dirB n d = true) : 1 ≤ n ∧ n ≤ 180 ∧ 0 ≤ d ∧ d < 4 * n := by
  unfold dirB at h
  rw [Bool.and_eq_true] at h
  have h1 := inB_true.1 h.1
  have h2 := inB_true.1 h.2
  omega

theorem Direction_any (n d : Int) (w : World) :
    Calls Try.prog 25 #[.int .i64 n, .int .i64 d] w fun e w' => e = .returned (.tuple #[.int .i64 (dX n d), .int .i64 (dY n d), .int .i64 (dL n d), .int .i64 (dE n d)]) ∧ Below w.heap.size w w' := by
  rcases (Bool.eq_false_or_eq_true (dirB n d)).symm with h | h
  · have e1 : dX n d = 0 ∧ dY n d = 0 ∧ dL n d = 0 ∧ dE n d = 3 := by simp [dX, dY, dL, dE, h]
    rw [e1.1, e1.2.1, e1.2.2.1, e1.2.2.2]
    have fin : ∀ (e : Ending) (w' : World), e = .returned (.tuple #[.int .i64 0, .int .i64 0, .int .i64 0, .int .i64 3]) ∧ w = w' → e = .returned (.tuple #[.int .i64 0, .int .i64 0, .int .i64 0, .int .i64 3]) ∧ Below w.heap.size w w' := fun e w' h => ⟨h.1, h.2 ▸ Below.refl _ _⟩
    rcases (Bool.eq_false_or_eq_true (inB n 1 180)).symm with h1 | h1
    · exact (Direction_no1 n d w h1).mono fin
    · have h2 : inB d 0 (4 * n - 1) = false := by unfold dirB at h; rw [h1] at h; exact h
      obtain ⟨n1, n2⟩ := inB_true.1 h1
      exact (Direction_no2 n d w n1 n2 h2).mono fin
  · have e1 : dX n d = dirX n d ∧ dY n d = dirY n d ∧ dL n d = dirL n d ∧ dE n d = 0 := by simp [dX, dY, dL, dE, h]
    rw [e1.1, e1.2.1, e1.2.2.1, e1.2.2.2]
    obtain ⟨n1, n2, d1, d2⟩ := dir_yes h
    exact (Direction_ok n d w n1 n2 d1 d2)

theorem refDirection_any (n d : Int) (w : World) :
    Calls Try.prog 26 #[.int .i64 n, .int .i64 d] w fun e w' => e = .returned (.tuple #[.int .i64 (dX n d), .int .i64 (dY n d), .int .i64 (dL n d), .int .i64 (dE n d)]) ∧ Below w.heap.size w w' := by
  rcases (Bool.eq_false_or_eq_true (dirB n d)).symm with h | h
  · have e1 : dX n d = 0 ∧ dY n d = 0 ∧ dL n d = 0 ∧ dE n d = 3 := by simp [dX, dY, dL, dE, h]
    rw [e1.1, e1.2.1, e1.2.2.1, e1.2.2.2]
    have fin : ∀ (e : Ending) (w' : World), e = .returned (.tuple #[.int .i64 0, .int .i64 0, .int .i64 0, .int .i64 3]) ∧ w = w' → e = .returned (.tuple #[.int .i64 0, .int .i64 0, .int .i64 0, .int .i64 3]) ∧ Below w.heap.size w w' := fun e w' h => ⟨h.1, h.2 ▸ Below.refl _ _⟩
    rcases (Bool.eq_false_or_eq_true (inB n 1 180)).symm with h1 | h1
    · exact (refDirection_no1 n d w h1).mono fin
    · have h2 : inB d 0 (4 * n - 1) = false := by unfold dirB at h; rw [h1] at h; exact h
      obtain ⟨n1, n2⟩ := inB_true.1 h1
      exact (refDirection_no2 n d w n1 n2 h2).mono fin
  · have e1 : dX n d = dirX n d ∧ dY n d = dirY n d ∧ dL n d = dirL n d ∧ dE n d = 0 := by simp [dX, dY, dL, dE, h]
    rw [e1.1, e1.2.1, e1.2.2.1, e1.2.2.2]
    obtain ⟨n1, n2, d1, d2⟩ := dir_yes h
    exact (refDirection_ok n d w n1 n2 d1 d2).mono fun e w' h => ⟨h.1, h.2 ▸ Below.refl _ _⟩

def slB (t : Int) : Bool := inB t (-8) 264
def sC (t : Int) : Int := if slB t = true then 262144 - t * t else 0
def sS (t : Int) : Int := if slB t = true then 1024 * t else 0
def sD (t : Int) : Int := if slB t = true then 262144 + t * t else 0
def sE (t : Int) : Int := if slB t = true then 0 else 3

theorem Slant_any (t : Int) (w : World) :
    Calls Try.prog 27 #[.int .i64 t] w fun e w' => e = .returned (.tuple #[.int .i64 (sC t), .int .i64 (sS t), .int .i64 (sD t), .int .i64 (sE t)]) ∧ w = w' := by
  rcases (Bool.eq_false_or_eq_true (slB t)).symm with h | h
  · have e1 : sC t = 0 ∧ sS t = 0 ∧ sD t = 0 ∧ sE t = 3 := by simp [sC, sS, sD, sE, h]
    rw [e1.1, e1.2.1, e1.2.2.1, e1.2.2.2]
    exact Slant_no t w h
  · have e1 : sC t = 262144 - t * t ∧ sS t = 1024 * t ∧ sD t = 262144 + t * t ∧ sE t = 0 := by simp [sC, sS, sD, sE, h]
    rw [e1.1, e1.2.1, e1.2.2.1, e1.2.2.2]
    obtain ⟨t1, t2⟩ := inB_true.1 h
    exact Slant_ok t w t1 t2

theorem refSlant_any (t : Int) (w : World) :
    Calls Try.prog 28 #[.int .i64 t] w fun e w' => e = .returned (.tuple #[.int .i64 (sC t), .int .i64 (sS t), .int .i64 (sD t), .int .i64 (sE t)]) ∧ w = w' := by
  rcases (Bool.eq_false_or_eq_true (slB t)).symm with h | h
  · have e1 : sC t = 0 ∧ sS t = 0 ∧ sD t = 0 ∧ sE t = 3 := by simp [sC, sS, sD, sE, h]
    rw [e1.1, e1.2.1, e1.2.2.1, e1.2.2.2]
    exact refSlant_no t w h
  · have e1 : sC t = 262144 - t * t ∧ sS t = 1024 * t ∧ sD t = 262144 + t * t ∧ sE t = 0 := by simp [sC, sS, sD, sE, h]
    rw [e1.1, e1.2.1, e1.2.2.1, e1.2.2.2]
    obtain ⟨t1, t2⟩ := inB_true.1 h
    exact refSlant_ok t w t1 t2

set_option maxHeartbeats 800000 in
theorem BeamDirections_walk (a0 a1 a2 : Int) (w : World) :
    Calls Try.prog 4 #[.int .i64 a0, .int .i64 a1, .int .i64 a2] w fun e w' => e = .returned (.bool true) ∧ Below w.heap.size w w' := by
  go_enter Try.func4, Try.ntmps4
  go_wp2_with fail
  refine (Direction_any _ _ _).mono ?_; rintro e w1 ⟨rfl, hb1⟩
  go_wp2_with fail
  refine (refDirection_any _ _ _).mono ?_; rintro e w2 ⟨rfl, hb2⟩
  have hb : Below w.heap.size w w2 := hb1.trans (hb2.mono hb1.size)
  clear hb1 hb2
  go_wp2_with fail
  refine (Slant_any _ _).mono ?_; rintro e w' ⟨rfl, rfl⟩
  go_wp2_with fail
  refine (refSlant_any _ _).mono ?_; rintro e w' ⟨rfl, rfl⟩
  go_wp2_with fail
  refine (works_any _).mono ?_; rintro e w3 ⟨rfl, hb3⟩
  go_wp2
  go_ret
  exact ⟨rfl, hb.trans (hb3.mono hb.size)⟩

end Go.Proofs.Ythnjfnapjpdchaa
