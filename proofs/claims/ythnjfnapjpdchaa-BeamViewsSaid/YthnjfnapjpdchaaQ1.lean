/-
  What Ground answers, in the code and in the reference.
-/
import Derived.Test.YthnjfnapjpdchaaQ0
namespace Go.Proofs.Ythnjfnapjpdchaa
open Go.RowKit
set_option linter.unusedVariables false

set_option maxHeartbeats 1600000 in
theorem Ground_err (nm : ByteArray) (x y z rose gates step width : Int) (t gate : Int) (w : World) (hs : nm.size ≤ maxLen) (hne : (siteC nm x y z rose gates step width != 0) = true) :
    Calls Try.prog 29 #[.agg #[.string nm, .int .i64 x, .int .i64 y, .int .i64 z, .int .i64 rose, .int .i64 gates, .int .i64 step, .int .i64 width], .int .i64 t, .int .i64 gate] w
      fun e w' => e = .returned (.tuple #[.agg #[.int .i64 0, .int .i64 0], .int .i64 (siteC nm x y z rose gates step width)]) ∧ Below w.heap.size w w' := by
  have HS := Lib.hid hs
  clear hs
  go_enter Try.func29, Try.ntmps29
  go_wp2_with fail
  refine (CheckSite_any _ _ _ _ _ _ _ _ _ HS.out).mono ?_; rintro e w1 ⟨rfl, hb1⟩
  have T1 := (Two.new w nm x y z rose gates step width (.int .i64 0) (.int .i64 0) 43).keep hb1 (by simp only [World.size_alloc]; omega)
  clear hb1
  obtain ⟨⟨k0, k1, k2, k3, k4, k5, k6, k7⟩, ⟨o0, o1, f0, f1⟩, hz, hbw⟩ := T1
  go_wp2
  exact bodyPost_ret (v := .tuple #[.agg #[.int .i64 0, .int .i64 0], .int .i64 (siteC nm x y z rose gates step width)]) (by simp [results, Try.results29, go_sem, o0, o1]) rfl ⟨rfl, Below.setCell (Below.setCell hbw (by dsimp only; omega) _) (by dsimp only; omega) _⟩

set_option maxHeartbeats 1600000 in
theorem Ground_no0 (nm : ByteArray) (x y z rose gates step width : Int) (t gate : Int) (w : World) (hs : nm.size ≤ maxLen) (h0 : siteC nm x y z rose gates step width = 0) (hg1 : 1 ≤ gates) (hg2 : gates ≤ 200) (c0 : inB t 0 256 = false) :
    Calls Try.prog 29 #[.agg #[.string nm, .int .i64 x, .int .i64 y, .int .i64 z, .int .i64 rose, .int .i64 gates, .int .i64 step, .int .i64 width], .int .i64 t, .int .i64 gate] w
      fun e w' => e = .returned (.tuple #[.agg #[.int .i64 0, .int .i64 0], .int .i64 3]) ∧ Below w.heap.size w w' := by
  have HS := Lib.hid hs
  have H0 := Lib.hid h0
  clear hs h0
  go_enter Try.func29, Try.ntmps29
  go_wp2_with fail
  refine (CheckSite_any _ _ _ _ _ _ _ _ _ HS.out).mono ?_; rintro e w1 ⟨rfl, hb1⟩
  have T1 := (Two.new w nm x y z rose gates step width (.int .i64 0) (.int .i64 0) 43).keep hb1 (by simp only [World.size_alloc]; omega)
  clear hb1
  rw [H0.out]
  obtain ⟨⟨k0, k1, k2, k3, k4, k5, k6, k7⟩, ⟨o0, o1, f0, f1⟩, hz, hbw⟩ := T1
  go_wp2_with fail
  refine (isTilt_any _ _).mono ?_; rintro e w' ⟨rfl, rfl⟩
  go_wp2
  exact bodyPost_ret (v := .tuple #[.agg #[.int .i64 0, .int .i64 0], .int .i64 3]) (by simp [results, Try.results29, go_sem, o0, o1]) rfl ⟨rfl, Below.setCell (Below.setCell hbw (by dsimp only; omega) _) (by dsimp only; omega) _⟩

set_option maxHeartbeats 1600000 in
theorem Ground_no1 (nm : ByteArray) (x y z rose gates step width : Int) (t gate : Int) (w : World) (hs : nm.size ≤ maxLen) (h0 : siteC nm x y z rose gates step width = 0) (hg1 : 1 ≤ gates) (hg2 : gates ≤ 200) (c0 : inB t 0 256 = true) (c1 : inB gate 0 (gates - 1) = false) :
    Calls Try.prog 29 #[.agg #[.string nm, .int .i64 x, .int .i64 y, .int .i64 z, .int .i64 rose, .int .i64 gates, .int .i64 step, .int .i64 width], .int .i64 t, .int .i64 gate] w
      fun e w' => e = .returned (.tuple #[.agg #[.int .i64 0, .int .i64 0], .int .i64 3]) ∧ Below w.heap.size w w' := by
  have HS := Lib.hid hs
  have H0 := Lib.hid h0
  clear hs h0
  go_enter Try.func29, Try.ntmps29
  go_wp2_with fail
  refine (CheckSite_any _ _ _ _ _ _ _ _ _ HS.out).mono ?_; rintro e w1 ⟨rfl, hb1⟩
  have T1 := (Two.new w nm x y z rose gates step width (.int .i64 0) (.int .i64 0) 43).keep hb1 (by simp only [World.size_alloc]; omega)
  clear hb1
  rw [H0.out]
  obtain ⟨⟨k0, k1, k2, k3, k4, k5, k6, k7⟩, ⟨o0, o1, f0, f1⟩, hz, hbw⟩ := T1
  go_wp2_with fail
  refine (isTilt_any _ _).mono ?_; rintro e w' ⟨rfl, rfl⟩
  go_wp2_with fail
  refine (isGate_any _ _ _ _ _ _ _ _ _ _ hg1 hg2).mono ?_; rintro e w2 ⟨rfl, hb2⟩
  have T2 := (⟨⟨k0, k1, k2, k3, k4, k5, k6, k7⟩, ⟨o0, o1, f0, f1⟩, hz, hbw⟩ : Two w w1 nm x y z rose gates step width ).keep hb2 (by omega)
  clear k0 k1 k2 k3 k4 k5 k6 k7 o0 o1 f0 f1 hz hbw
  clear hb2
  obtain ⟨⟨k0, k1, k2, k3, k4, k5, k6, k7⟩, ⟨o0, o1, f0, f1⟩, hz, hbw⟩ := T2
  go_wp2
  exact bodyPost_ret (v := .tuple #[.agg #[.int .i64 0, .int .i64 0], .int .i64 3]) (by simp [results, Try.results29, go_sem, o0, o1]) rfl ⟨rfl, Below.setCell (Below.setCell hbw (by dsimp only; omega) _) (by dsimp only; omega) _⟩

set_option maxHeartbeats 800000 in
theorem Ground_ok0 (nm : ByteArray) (x y z rose gates step width t gate : Int) (w : World) (hs : nm.size ≤ maxLen) (h0 : siteC nm x y z rose gates step width = 0) (h1 : 0 ≤ t) (h2 : t ≤ 256) (s1 : 50 ≤ step) (s2 : step ≤ 2000) (g1 : 0 ≤ gate) (g2 : gate ≤ 199) (g3 : gate < gates) (g4 : gates ≤ 200) :
    Calls Try.prog 29 #[.agg #[.string nm, .int .i64 x, .int .i64 y, .int .i64 z, .int .i64 rose, .int .i64 gates, .int .i64 step, .int .i64 width], .int .i64 t, .int .i64 gate] w
      fun e w' => e = .returned (.tuple #[.agg #[.int .i64 (runLo step t gate), .int .i64 (runHi step t gate)], .int .i64 0]) ∧ Below w.heap.size w w' := by
  have HS := Lib.hid hs
  have H0 := Lib.hid h0
  have hi : inB t 0 256 = true := inB_true.2 ⟨h1, h2⟩
  have hj : inB gate 0 (gates - 1) = true := inB_true.2 ⟨g1, by omega⟩
  clear hs h0
  go_enter Try.func29, Try.ntmps29
  go_wp2_with fail
  refine (CheckSite_any _ _ _ _ _ _ _ _ _ HS.out).mono ?_; rintro e w1 ⟨rfl, hb1⟩; rw [H0.out]
  obtain ⟨hc1, hf1⟩ := bcell hb1
  have hz1 := hb1.size
  simp at hz1
  go_wp2_with fail
  refine (isTilt_any _ _).mono ?_; rintro e w2 ⟨rfl, rfl⟩
  go_wp2_with fail
  refine (isGate_any _ _ _ _ _ _ _ _ _ _ (by omega) g4).mono ?_; rintro e w2 ⟨rfl, hb2⟩
  obtain ⟨hc2, hf2⟩ := bcell hb2
  have hz2 := hb2.size
  go_wp2_with fail
  refine (roundings_any _).mono ?_; rintro e w3 ⟨rfl, hw3⟩
  subst hw3
  have hz3 : w.heap.size + 1 < w2.heap.size := by omega
  obtain ⟨k0, k1, k2, k3, k4, k5, k6, k7, k8, k9, k10, k11⟩ : w2.cell? ⟨w.heap.size, 0, none⟩ = some (.string nm) ∧ w2.cell? ⟨w.heap.size, 1, none⟩ = some (.int .i64 x) ∧ w2.cell? ⟨w.heap.size, 2, none⟩ = some (.int .i64 y) ∧ w2.cell? ⟨w.heap.size, 3, none⟩ = some (.int .i64 z) ∧ w2.cell? ⟨w.heap.size, 4, none⟩ = some (.int .i64 rose) ∧ w2.cell? ⟨w.heap.size, 5, none⟩ = some (.int .i64 gates) ∧ w2.cell? ⟨w.heap.size, 6, none⟩ = some (.int .i64 step) ∧ w2.cell? ⟨w.heap.size, 7, none⟩ = some (.int .i64 width) ∧ w2.cell? ⟨w.heap.size + 1, 0, none⟩ = some (cellAt w2 ⟨w.heap.size + 1, 0, none⟩) ∧ w2.cell? ⟨w.heap.size + 1, 1, none⟩ = some (cellAt w2 ⟨w.heap.size + 1, 1, none⟩) ∧ w2.frozen? ⟨w.heap.size + 1, 0, none⟩ = false ∧ w2.frozen? ⟨w.heap.size + 1, 1, none⟩ = false := by
    refine ⟨?_, ?_, ?_, ?_, ?_, ?_, ?_, ?_, ?_, ?_, ?_, ?_⟩ <;> first | (rw [hc2 _ _ (by omega), hc1 _ _ (by first | (simp; done) | (simp; omega))]; simp; done) | (rw [hf2 _ _ (by omega), hf1 _ _ (by first | (simp; done) | (simp; omega))]; simp; done) | (refine cellAt_mk (v := .int .i64 0) ?_; rw [hc2 _ _ (by omega), hc1 _ _ (by first | (simp; done) | (simp; omega))]; simp)
  have hb4 : Below w2.heap.size w2 (w2.alloc (.cells #[.func (Fn.func 92) #[] #[]] 90)).drew := ((Below.refl _ _).alloc (Nat.le_refl _) _).drew
  have hk8 : (w2.alloc (.cells #[.func (Fn.func 92) #[] #[]] 90)).drew.cell? ⟨w2.heap.size, 0, none⟩ = some (.func (Fn.func 92) #[] #[]) := by simp
  have hk9 : w2.heap.size < (w2.alloc (.cells #[.func (Fn.func 92) #[] #[]] 90)).drew.heap.size := by simp
  have hbw : Below w.heap.size w w2 := by
    refine Below.trans ?_ (hb2.mono (by omega))
    refine Below.trans ?_ (hb1.mono (by simp; omega))
    exact ((Below.refl _ _).alloc (Nat.le_refl _) _).alloc (by simp) _
  have hbw2 : Below w.heap.size w (w2.alloc (.cells #[.func (Fn.func 92) #[] #[]] 90)).drew := hbw.trans (hb4.mono (by omega))
  go_wp2_with fail
  go_region_held3 (fun w' => w'.cell? ⟨w.heap.size, 0, none⟩ = some (.string nm) ∧ w'.cell? ⟨w.heap.size, 1, none⟩ = some (.int .i64 x) ∧ w'.cell? ⟨w.heap.size, 2, none⟩ = some (.int .i64 y) ∧ w'.cell? ⟨w.heap.size, 3, none⟩ = some (.int .i64 z) ∧ w'.cell? ⟨w.heap.size, 4, none⟩ = some (.int .i64 rose) ∧ w'.cell? ⟨w.heap.size, 5, none⟩ = some (.int .i64 gates) ∧ w'.cell? ⟨w.heap.size, 6, none⟩ = some (.int .i64 step) ∧ w'.cell? ⟨w.heap.size, 7, none⟩ = some (.int .i64 width) ∧ w'.cell? ⟨w.heap.size + 1, 0, none⟩ = some (cellAt w' ⟨w.heap.size + 1, 0, none⟩) ∧ w'.cell? ⟨w.heap.size + 1, 1, none⟩ = some (cellAt w' ⟨w.heap.size + 1, 1, none⟩) ∧ w'.frozen? ⟨w.heap.size + 1, 0, none⟩ = false ∧ w'.frozen? ⟨w.heap.size + 1, 1, none⟩ = false ∧
      w'.cell? ⟨w2.heap.size, 0, none⟩ = some (.func (Fn.func 92) #[] #[]) ∧ w2.heap.size < w'.heap.size ∧ Below w.heap.size w w')
    (first | (go_split_ands; refine ⟨?_, ?_, ?_, ?_, ?_, ?_, ?_, ?_, ?_, ?_, ?_, ?_, ?_, ?_, ?_⟩ <;> first | exact hbw2 | exact hk8 | exact hk9 | exact keepB hb4 (by omega) (by assumption) | exact keepA hb4 (by omega) (by assumption) | exact keepF hb4 (by omega) (by assumption) | (have := hb4.size; omega) | exact Below.trans (by assumption) (hb4.mono (by omega)) | exact Below.setCell (Below.setCell (by assumption) (by simp) _) (by simp) _ | exact cellAt_set (cellAt_set (by assumption)) | (rw [World.cell?_setCell_far _ _ _ _ (by dsimp only; omega), World.cell?_setCell_far _ _ _ _ (by dsimp only; omega)]; assumption) | (simp; assumption) | (simp; omega)))
    (first | (go_at_call_of 69 (Value.func (Fn.func 92) #[] #[]); refine (run_down _ _ _ _ _ _ _ _ _ _ _ (by omega) (by omega) s1 s2 g1 g2).mono ?_; rintro e w4 ⟨rfl, hb4⟩) | (go_at_call 69; refine (run_up _ _ _ _ _ _ _ _ _ _ _ _ ?_ ?_ (by omega) (by omega) s1 s2 g1 g2).mono ?_; (go_split_ands; assumption); (go_split_ands; assumption); rintro e w4 ⟨rfl, hb4⟩))
  go_split_ands
  have hp := pair_read (by assumption) (by assumption)
  obtain ⟨hp0, hp1⟩ := hp
  go_wp2
  exact bodyPost_ret (v := .tuple #[.agg #[.int .i64 (runLo step t gate), .int .i64 (runHi step t gate)], .int .i64 0]) (by simp [results, Try.results29, go_sem, hp0, hp1]) rfl ⟨rfl, by assumption⟩

theorem Ground_ok (nm : ByteArray) (x y z rose gates step width : Int) (t gate : Int) (w : World) (hs : nm.size ≤ maxLen) (h0 : siteC nm x y z rose gates step width = 0) (hk : SiteOk x y z rose gates step width) (c0 : inB t 0 256 = true) (c1 : inB gate 0 (gates - 1) = true) :
    Calls Try.prog 29 #[.agg #[.string nm, .int .i64 x, .int .i64 y, .int .i64 z, .int .i64 rose, .int .i64 gates, .int .i64 step, .int .i64 width], .int .i64 t, .int .i64 gate] w
      fun e w' => e = .returned (.tuple #[.agg #[.int .i64 (runLo step t gate), .int .i64 (runHi step t gate)], .int .i64 0]) ∧ Below w.heap.size w w' := by
  obtain ⟨t1, t2⟩ := inB_true.1 c0
  obtain ⟨g1, g3⟩ := inB_gate c1
  have g2 := hk.g2
  exact Ground_ok0 nm x y z rose gates step width t gate w hs h0 t1 t2 hk.s1 hk.s2 g1 (by omega) g3 g2

theorem Ground_any (nm : ByteArray) (x y z rose gates step width : Int) (t gate : Int) (w : World) (hs : nm.size ≤ maxLen) :
    Calls Try.prog 29 #[.agg #[.string nm, .int .i64 x, .int .i64 y, .int .i64 z, .int .i64 rose, .int .i64 gates, .int .i64 step, .int .i64 width], .int .i64 t, .int .i64 gate] w
      fun e w' => e = .returned (.tuple #[.agg #[.int .i64 (val (codeE (siteC nm x y z rose gates step width) (inB t 0 256 && inB gate 0 (gates - 1))) (runLo step t gate)), .int .i64 (val (codeE (siteC nm x y z rose gates step width) (inB t 0 256 && inB gate 0 (gates - 1))) (runHi step t gate))], .int .i64 (codeE (siteC nm x y z rose gates step width) (inB t 0 256 && inB gate 0 (gates - 1)))]) ∧ Below w.heap.size w w' := by
  by_cases h0 : siteC nm x y z rose gates step width = 0
  · have hk := (siteC_zero.1 h0).2
    have hg1 := hk.g1
    have hg2 := hk.g2
    rcases (Bool.eq_false_or_eq_true (inB t 0 256)).symm with c0 | c0
    · have e : (codeE (siteC nm x y z rose gates step width) (inB t 0 256 && inB gate 0 (gates - 1))) = 3 := by rw [h0, c0]; rfl
      rw [e, val_no, val_no]
      exact Ground_no0 nm x y z rose gates step width t gate w hs h0 hg1 hg2 c0
    · have _u := hg1
      rcases (Bool.eq_false_or_eq_true (inB gate 0 (gates - 1))).symm with c1 | c1
      · have e : (codeE (siteC nm x y z rose gates step width) (inB t 0 256 && inB gate 0 (gates - 1))) = 3 := by rw [h0, c0, c1]; rfl
        rw [e, val_no, val_no]
        exact Ground_no1 nm x y z rose gates step width t gate w hs h0 hg1 hg2 c0 c1
      · have e : (codeE (siteC nm x y z rose gates step width) (inB t 0 256 && inB gate 0 (gates - 1))) = 0 := by rw [h0, c0, c1]; rfl
        rw [e, val_ok, val_ok]
        exact Ground_ok nm x y z rose gates step width t gate w hs h0 hk c0 c1
  · rw [codeE_err h0, val_err h0, val_err h0]
    exact Ground_err nm x y z rose gates step width t gate w hs (bne_iff_ne.2 h0)

set_option maxHeartbeats 1600000 in
theorem refGround_err (nm : ByteArray) (x y z rose gates step width : Int) (t gate : Int) (w : World) (hs : nm.size ≤ maxLen) (hne : (siteC nm x y z rose gates step width != 0) = true) :
    Calls Try.prog 30 #[.agg #[.string nm, .int .i64 x, .int .i64 y, .int .i64 z, .int .i64 rose, .int .i64 gates, .int .i64 step, .int .i64 width], .int .i64 t, .int .i64 gate] w
      fun e w' => e = .returned (.tuple #[.agg #[.int .i64 0, .int .i64 0], .int .i64 (siteC nm x y z rose gates step width)]) ∧ Below w.heap.size w w' := by
  have HS := Lib.hid hs
  clear hs
  go_enter Try.func30, Try.ntmps30
  go_wp2_with fail
  refine (refCheckSite_any _ _ _ _ _ _ _ _ _ HS.out).mono ?_; rintro e w1 ⟨rfl, hb1⟩
  have T1 := (Two.new w nm x y z rose gates step width (.int .i64 0) (.int .i64 0) 43).keep hb1 (by simp only [World.size_alloc]; omega)
  clear hb1
  obtain ⟨⟨k0, k1, k2, k3, k4, k5, k6, k7⟩, ⟨o0, o1, f0, f1⟩, hz, hbw⟩ := T1
  go_wp2
  exact bodyPost_ret (v := .tuple #[.agg #[.int .i64 0, .int .i64 0], .int .i64 (siteC nm x y z rose gates step width)]) (by simp [results, Try.results30, go_sem, o0, o1]) rfl ⟨rfl, Below.setCell (Below.setCell hbw (by dsimp only; omega) _) (by dsimp only; omega) _⟩

set_option maxHeartbeats 1600000 in
theorem refGround_no0 (nm : ByteArray) (x y z rose gates step width : Int) (t gate : Int) (w : World) (hs : nm.size ≤ maxLen) (h0 : siteC nm x y z rose gates step width = 0) (hg1 : 1 ≤ gates) (hg2 : gates ≤ 200) (c0 : inB t 0 256 = false) :
    Calls Try.prog 30 #[.agg #[.string nm, .int .i64 x, .int .i64 y, .int .i64 z, .int .i64 rose, .int .i64 gates, .int .i64 step, .int .i64 width], .int .i64 t, .int .i64 gate] w
      fun e w' => e = .returned (.tuple #[.agg #[.int .i64 0, .int .i64 0], .int .i64 3]) ∧ Below w.heap.size w w' := by
  have HS := Lib.hid hs
  have H0 := Lib.hid h0
  clear hs h0
  go_enter Try.func30, Try.ntmps30
  go_wp2_with fail
  refine (refCheckSite_any _ _ _ _ _ _ _ _ _ HS.out).mono ?_; rintro e w1 ⟨rfl, hb1⟩
  have T1 := (Two.new w nm x y z rose gates step width (.int .i64 0) (.int .i64 0) 43).keep hb1 (by simp only [World.size_alloc]; omega)
  clear hb1
  rw [H0.out]
  obtain ⟨⟨k0, k1, k2, k3, k4, k5, k6, k7⟩, ⟨o0, o1, f0, f1⟩, hz, hbw⟩ := T1
  go_wp2_with fail
  refine (refIn_any _ _ _ _).mono ?_; rintro e w' ⟨rfl, rfl⟩
  go_wp2
  exact bodyPost_ret (v := .tuple #[.agg #[.int .i64 0, .int .i64 0], .int .i64 3]) (by simp [results, Try.results30, go_sem, o0, o1]) rfl ⟨rfl, Below.setCell (Below.setCell hbw (by dsimp only; omega) _) (by dsimp only; omega) _⟩

set_option maxHeartbeats 1600000 in
theorem refGround_no1 (nm : ByteArray) (x y z rose gates step width : Int) (t gate : Int) (w : World) (hs : nm.size ≤ maxLen) (h0 : siteC nm x y z rose gates step width = 0) (hg1 : 1 ≤ gates) (hg2 : gates ≤ 200) (c0 : inB t 0 256 = true) (c1 : inB gate 0 (gates - 1) = false) :
    Calls Try.prog 30 #[.agg #[.string nm, .int .i64 x, .int .i64 y, .int .i64 z, .int .i64 rose, .int .i64 gates, .int .i64 step, .int .i64 width], .int .i64 t, .int .i64 gate] w
      fun e w' => e = .returned (.tuple #[.agg #[.int .i64 0, .int .i64 0], .int .i64 3]) ∧ Below w.heap.size w w' := by
  have HS := Lib.hid hs
  have H0 := Lib.hid h0
  clear hs h0
  go_enter Try.func30, Try.ntmps30
  go_wp2_with fail
  refine (refCheckSite_any _ _ _ _ _ _ _ _ _ HS.out).mono ?_; rintro e w1 ⟨rfl, hb1⟩
  have T1 := (Two.new w nm x y z rose gates step width (.int .i64 0) (.int .i64 0) 43).keep hb1 (by simp only [World.size_alloc]; omega)
  clear hb1
  rw [H0.out]
  obtain ⟨⟨k0, k1, k2, k3, k4, k5, k6, k7⟩, ⟨o0, o1, f0, f1⟩, hz, hbw⟩ := T1
  go_wp2_with fail
  refine (refIn_any _ _ _ _).mono ?_; rintro e w' ⟨rfl, rfl⟩
  go_wp2_with fail
  refine (refIn_any _ _ _ _).mono ?_; rintro e w' ⟨rfl, rfl⟩
  go_wp2
  exact bodyPost_ret (v := .tuple #[.agg #[.int .i64 0, .int .i64 0], .int .i64 3]) (by simp [results, Try.results30, go_sem, o0, o1]) rfl ⟨rfl, Below.setCell (Below.setCell hbw (by dsimp only; omega) _) (by dsimp only; omega) _⟩

set_option maxHeartbeats 3200000 in
theorem refGround_ok (nm : ByteArray) (x y z rose gates step width : Int) (t gate : Int) (w : World) (hs : nm.size ≤ maxLen) (h0 : siteC nm x y z rose gates step width = 0) (hk : SiteOk x y z rose gates step width) (c0 : inB t 0 256 = true) (c1 : inB gate 0 (gates - 1) = true) :
    Calls Try.prog 30 #[.agg #[.string nm, .int .i64 x, .int .i64 y, .int .i64 z, .int .i64 rose, .int .i64 gates, .int .i64 step, .int .i64 width], .int .i64 t, .int .i64 gate] w
      fun e w' => e = .returned (.tuple #[.agg #[.int .i64 (runLo step t gate), .int .i64 (runHi step t gate)], .int .i64 0]) ∧ Below w.heap.size w w' := by
  have HS := Lib.hid hs
  have H0 := Lib.hid h0
  obtain ⟨x1, x2, y1, y2, z1, z2, r1, r2, hg1, hg2, s1, s2, d1, d2⟩ := hk
  obtain ⟨t1, t2⟩ := inB_true.1 c0
  obtain ⟨g1, g3⟩ := inB_gate c1
  clear hs h0
  go_enter Try.func30, Try.ntmps30
  go_wp2_with fail
  refine (refCheckSite_any _ _ _ _ _ _ _ _ _ HS.out).mono ?_; rintro e w1 ⟨rfl, hb1⟩
  have T1 := (Two.new w nm x y z rose gates step width (.int .i64 0) (.int .i64 0) 43).keep hb1 (by simp only [World.size_alloc]; omega)
  clear hb1
  rw [H0.out]
  obtain ⟨⟨k0, k1, k2, k3, k4, k5, k6, k7⟩, ⟨o0, o1, f0, f1⟩, hz, hbw⟩ := T1
  go_wp2_with fail
  refine (refIn_any _ _ _ _).mono ?_; rintro e w' ⟨rfl, rfl⟩
  go_wp2_with fail
  refine (refIn_any _ _ _ _).mono ?_; rintro e w' ⟨rfl, rfl⟩
  go_wp2_with fail
  refine (refground_any _ _ _ _ _ _ _ _ _ _ _ (by omega) (by omega) s1 s2 g1 (by omega)).mono ?_; rintro e w2 ⟨rfl, hb2⟩
  have T2 := (⟨⟨k0, k1, k2, k3, k4, k5, k6, k7⟩, ⟨o0, o1, f0, f1⟩, hz, hbw⟩ : Two w w1 nm x y z rose gates step width ).keep hb2 (by omega)
  clear k0 k1 k2 k3 k4 k5 k6 k7 o0 o1 f0 f1 hz hbw
  clear hb2
  obtain ⟨⟨k0, k1, k2, k3, k4, k5, k6, k7⟩, ⟨o0, o1, f0, f1⟩, hz, hbw⟩ := T2
  go_wp2
  exact bodyPost_ret (v := .tuple #[.agg #[.int .i64 (runLo step t gate), .int .i64 (runHi step t gate)], .int .i64 0]) (by simp [results, Try.results30, go_sem, o0, o1]) rfl ⟨rfl, Below.setCell (Below.setCell hbw (by dsimp only; omega) _) (by dsimp only; omega) _⟩

theorem refGround_any (nm : ByteArray) (x y z rose gates step width : Int) (t gate : Int) (w : World) (hs : nm.size ≤ maxLen) :
    Calls Try.prog 30 #[.agg #[.string nm, .int .i64 x, .int .i64 y, .int .i64 z, .int .i64 rose, .int .i64 gates, .int .i64 step, .int .i64 width], .int .i64 t, .int .i64 gate] w
      fun e w' => e = .returned (.tuple #[.agg #[.int .i64 (val (codeE (siteC nm x y z rose gates step width) (inB t 0 256 && inB gate 0 (gates - 1))) (runLo step t gate)), .int .i64 (val (codeE (siteC nm x y z rose gates step width) (inB t 0 256 && inB gate 0 (gates - 1))) (runHi step t gate))], .int .i64 (codeE (siteC nm x y z rose gates step width) (inB t 0 256 && inB gate 0 (gates - 1)))]) ∧ Below w.heap.size w w' := by
  by_cases h0 : siteC nm x y z rose gates step width = 0
  · have hk := (siteC_zero.1 h0).2
    have hg1 := hk.g1
    have hg2 := hk.g2
    rcases (Bool.eq_false_or_eq_true (inB t 0 256)).symm with c0 | c0
    · have e : (codeE (siteC nm x y z rose gates step width) (inB t 0 256 && inB gate 0 (gates - 1))) = 3 := by rw [h0, c0]; rfl
      rw [e, val_no, val_no]
      exact refGround_no0 nm x y z rose gates step width t gate w hs h0 hg1 hg2 c0
    · have _u := hg1
      rcases (Bool.eq_false_or_eq_true (inB gate 0 (gates - 1))).symm with c1 | c1
      · have e : (codeE (siteC nm x y z rose gates step width) (inB t 0 256 && inB gate 0 (gates - 1))) = 3 := by rw [h0, c0, c1]; rfl
        rw [e, val_no, val_no]
        exact refGround_no1 nm x y z rose gates step width t gate w hs h0 hg1 hg2 c0 c1
      · have e : (codeE (siteC nm x y z rose gates step width) (inB t 0 256 && inB gate 0 (gates - 1))) = 0 := by rw [h0, c0, c1]; rfl
        rw [e, val_ok, val_ok]
        exact refGround_ok nm x y z rose gates step width t gate w hs h0 hk c0 c1
  · rw [codeE_err h0, val_err h0, val_err h0]
    exact refGround_err nm x y z rose gates step width t gate w hs (bne_iff_ne.2 h0)

end Go.Proofs.Ythnjfnapjpdchaa
