/-
  What Height answers, in the code and in the reference.
-/
import Derived.Test.YthnjfnapjpdchaaQ0
import Derived.Test.YthnjfnapjpdchaaO
namespace Go.Proofs.Ythnjfnapjpdchaa
open Go.RowKit
set_option linter.unusedVariables false

set_option maxHeartbeats 1600000 in
theorem Height_err (nm : ByteArray) (x y z rose gates step width : Int) (t lo hi gate : Int) (w : World) (hs : nm.size ≤ maxLen) (hne : (siteC nm x y z rose gates step width != 0) = true) :
    Calls Try.prog 31 #[.agg #[.string nm, .int .i64 x, .int .i64 y, .int .i64 z, .int .i64 rose, .int .i64 gates, .int .i64 step, .int .i64 width], .int .i64 t, .agg #[.int .i64 lo, .int .i64 hi], .int .i64 gate] w
      fun e w' => e = .returned (.tuple #[.agg #[.int .i64 0, .int .i64 0], .int .i64 (siteC nm x y z rose gates step width)]) ∧ Below w.heap.size w w' := by
  have HS := Lib.hid hs
  clear hs
  go_enter Try.func31, Try.ntmps31
  go_wp2_with fail
  refine (CheckSite_any _ _ _ _ _ _ _ _ _ HS.out).mono ?_; rintro e w1 ⟨rfl, hb1⟩
  have T1 := (Three.new w nm x y z rose gates step width lo hi (.int .i64 0) (.int .i64 0) 43 43).keep hb1 (by simp only [World.size_alloc]; omega)
  clear hb1
  obtain ⟨⟨k0, k1, k2, k3, k4, k5, k6, k7⟩, ⟨p0, p1⟩, ⟨o0, o1, f0, f1⟩, hz, hbw⟩ := T1
  go_wp2
  exact bodyPost_ret (v := .tuple #[.agg #[.int .i64 0, .int .i64 0], .int .i64 (siteC nm x y z rose gates step width)]) (by simp [results, Try.results31, go_sem, o0, o1]) rfl ⟨rfl, Below.setCell (Below.setCell hbw (by dsimp only; omega) _) (by dsimp only; omega) _⟩

set_option maxHeartbeats 1600000 in
theorem Height_no0 (nm : ByteArray) (x y z rose gates step width : Int) (t lo hi gate : Int) (w : World) (hs : nm.size ≤ maxLen) (h0 : siteC nm x y z rose gates step width = 0) (hg1 : 1 ≤ gates) (hg2 : gates ≤ 200) (c0 : inB t (-8) 264 = false) :
    Calls Try.prog 31 #[.agg #[.string nm, .int .i64 x, .int .i64 y, .int .i64 z, .int .i64 rose, .int .i64 gates, .int .i64 step, .int .i64 width], .int .i64 t, .agg #[.int .i64 lo, .int .i64 hi], .int .i64 gate] w
      fun e w' => e = .returned (.tuple #[.agg #[.int .i64 0, .int .i64 0], .int .i64 3]) ∧ Below w.heap.size w w' := by
  have HS := Lib.hid hs
  have H0 := Lib.hid h0
  clear hs h0
  go_enter Try.func31, Try.ntmps31
  go_wp2_with fail
  refine (CheckSite_any _ _ _ _ _ _ _ _ _ HS.out).mono ?_; rintro e w1 ⟨rfl, hb1⟩
  have T1 := (Three.new w nm x y z rose gates step width lo hi (.int .i64 0) (.int .i64 0) 43 43).keep hb1 (by simp only [World.size_alloc]; omega)
  clear hb1
  rw [H0.out]
  obtain ⟨⟨k0, k1, k2, k3, k4, k5, k6, k7⟩, ⟨p0, p1⟩, ⟨o0, o1, f0, f1⟩, hz, hbw⟩ := T1
  go_wp2_with fail
  refine (isSlanted_any _ _).mono ?_; rintro e w' ⟨rfl, rfl⟩
  go_wp2
  exact bodyPost_ret (v := .tuple #[.agg #[.int .i64 0, .int .i64 0], .int .i64 3]) (by simp [results, Try.results31, go_sem, o0, o1]) rfl ⟨rfl, Below.setCell (Below.setCell hbw (by dsimp only; omega) _) (by dsimp only; omega) _⟩

set_option maxHeartbeats 1600000 in
theorem Height_no1 (nm : ByteArray) (x y z rose gates step width : Int) (t lo hi gate : Int) (w : World) (hs : nm.size ≤ maxLen) (h0 : siteC nm x y z rose gates step width = 0) (hg1 : 1 ≤ gates) (hg2 : gates ≤ 200) (c0 : inB t (-8) 264 = true) (c1 : spanB lo hi 1000000 100000000 = false) :
    Calls Try.prog 31 #[.agg #[.string nm, .int .i64 x, .int .i64 y, .int .i64 z, .int .i64 rose, .int .i64 gates, .int .i64 step, .int .i64 width], .int .i64 t, .agg #[.int .i64 lo, .int .i64 hi], .int .i64 gate] w
      fun e w' => e = .returned (.tuple #[.agg #[.int .i64 0, .int .i64 0], .int .i64 3]) ∧ Below w.heap.size w w' := by
  have HS := Lib.hid hs
  have H0 := Lib.hid h0
  clear hs h0
  go_enter Try.func31, Try.ntmps31
  go_wp2_with fail
  refine (CheckSite_any _ _ _ _ _ _ _ _ _ HS.out).mono ?_; rintro e w1 ⟨rfl, hb1⟩
  have T1 := (Three.new w nm x y z rose gates step width lo hi (.int .i64 0) (.int .i64 0) 43 43).keep hb1 (by simp only [World.size_alloc]; omega)
  clear hb1
  rw [H0.out]
  obtain ⟨⟨k0, k1, k2, k3, k4, k5, k6, k7⟩, ⟨p0, p1⟩, ⟨o0, o1, f0, f1⟩, hz, hbw⟩ := T1
  go_wp2_with fail
  refine (isSlanted_any _ _).mono ?_; rintro e w' ⟨rfl, rfl⟩
  go_wp2_with fail
  refine (isEarth_any _ _ _).mono ?_; rintro e w2 ⟨rfl, hb2⟩
  have T2 := (⟨⟨k0, k1, k2, k3, k4, k5, k6, k7⟩, ⟨p0, p1⟩, ⟨o0, o1, f0, f1⟩, hz, hbw⟩ : Three w w1 nm x y z rose gates step width lo hi).keep hb2 (by omega)
  clear k0 k1 k2 k3 k4 k5 k6 k7 o0 o1 f0 f1 hz hbw p0 p1
  clear hb2
  obtain ⟨⟨k0, k1, k2, k3, k4, k5, k6, k7⟩, ⟨p0, p1⟩, ⟨o0, o1, f0, f1⟩, hz, hbw⟩ := T2
  go_wp2
  exact bodyPost_ret (v := .tuple #[.agg #[.int .i64 0, .int .i64 0], .int .i64 3]) (by simp [results, Try.results31, go_sem, o0, o1]) rfl ⟨rfl, Below.setCell (Below.setCell hbw (by dsimp only; omega) _) (by dsimp only; omega) _⟩

set_option maxHeartbeats 1600000 in
theorem Height_no2 (nm : ByteArray) (x y z rose gates step width : Int) (t lo hi gate : Int) (w : World) (hs : nm.size ≤ maxLen) (h0 : siteC nm x y z rose gates step width = 0) (hg1 : 1 ≤ gates) (hg2 : gates ≤ 200) (c0 : inB t (-8) 264 = true) (c1 : spanB lo hi 1000000 100000000 = true) (c2 : inB gate 0 (gates - 1) = false) :
    Calls Try.prog 31 #[.agg #[.string nm, .int .i64 x, .int .i64 y, .int .i64 z, .int .i64 rose, .int .i64 gates, .int .i64 step, .int .i64 width], .int .i64 t, .agg #[.int .i64 lo, .int .i64 hi], .int .i64 gate] w
      fun e w' => e = .returned (.tuple #[.agg #[.int .i64 0, .int .i64 0], .int .i64 3]) ∧ Below w.heap.size w w' := by
  have HS := Lib.hid hs
  have H0 := Lib.hid h0
  clear hs h0
  go_enter Try.func31, Try.ntmps31
  go_wp2_with fail
  refine (CheckSite_any _ _ _ _ _ _ _ _ _ HS.out).mono ?_; rintro e w1 ⟨rfl, hb1⟩
  have T1 := (Three.new w nm x y z rose gates step width lo hi (.int .i64 0) (.int .i64 0) 43 43).keep hb1 (by simp only [World.size_alloc]; omega)
  clear hb1
  rw [H0.out]
  obtain ⟨⟨k0, k1, k2, k3, k4, k5, k6, k7⟩, ⟨p0, p1⟩, ⟨o0, o1, f0, f1⟩, hz, hbw⟩ := T1
  go_wp2_with fail
  refine (isSlanted_any _ _).mono ?_; rintro e w' ⟨rfl, rfl⟩
  go_wp2_with fail
  refine (isEarth_any _ _ _).mono ?_; rintro e w2 ⟨rfl, hb2⟩
  have T2 := (⟨⟨k0, k1, k2, k3, k4, k5, k6, k7⟩, ⟨p0, p1⟩, ⟨o0, o1, f0, f1⟩, hz, hbw⟩ : Three w w1 nm x y z rose gates step width lo hi).keep hb2 (by omega)
  clear k0 k1 k2 k3 k4 k5 k6 k7 o0 o1 f0 f1 hz hbw p0 p1
  clear hb2
  obtain ⟨⟨k0, k1, k2, k3, k4, k5, k6, k7⟩, ⟨p0, p1⟩, ⟨o0, o1, f0, f1⟩, hz, hbw⟩ := T2
  go_wp2_with fail
  refine (isGate_any _ _ _ _ _ _ _ _ _ _ hg1 hg2).mono ?_; rintro e w3 ⟨rfl, hb3⟩
  have T3 := (⟨⟨k0, k1, k2, k3, k4, k5, k6, k7⟩, ⟨p0, p1⟩, ⟨o0, o1, f0, f1⟩, hz, hbw⟩ : Three w w2 nm x y z rose gates step width lo hi).keep hb3 (by omega)
  clear k0 k1 k2 k3 k4 k5 k6 k7 o0 o1 f0 f1 hz hbw p0 p1
  clear hb3
  obtain ⟨⟨k0, k1, k2, k3, k4, k5, k6, k7⟩, ⟨p0, p1⟩, ⟨o0, o1, f0, f1⟩, hz, hbw⟩ := T3
  go_wp2
  exact bodyPost_ret (v := .tuple #[.agg #[.int .i64 0, .int .i64 0], .int .i64 3]) (by simp [results, Try.results31, go_sem, o0, o1]) rfl ⟨rfl, Below.setCell (Below.setCell hbw (by dsimp only; omega) _) (by dsimp only; omega) _⟩

set_option maxHeartbeats 3200000 in
theorem Height_ok (nm : ByteArray) (x y z rose gates step width : Int) (t lo hi gate : Int) (w : World) (hs : nm.size ≤ maxLen) (h0 : siteC nm x y z rose gates step width = 0) (hk : SiteOk x y z rose gates step width) (c0 : inB t (-8) 264 = true) (c1 : spanB lo hi 1000000 100000000 = true) (c2 : inB gate 0 (gates - 1) = true) :
    Calls Try.prog 31 #[.agg #[.string nm, .int .i64 x, .int .i64 y, .int .i64 z, .int .i64 rose, .int .i64 gates, .int .i64 step, .int .i64 width], .int .i64 t, .agg #[.int .i64 lo, .int .i64 hi], .int .i64 gate] w
      fun e w' => e = .returned (.tuple #[.agg #[.int .i64 (climbLo z step t gate hi), .int .i64 (climbHi z step t gate lo)], .int .i64 0]) ∧ Below w.heap.size w w' := by
  have HS := Lib.hid hs
  have H0 := Lib.hid h0
  obtain ⟨x1, x2, y1, y2, z1, z2, r1, r2, hg1, hg2, s1, s2, d1, d2⟩ := hk
  obtain ⟨t1, t2⟩ := inB_true.1 c0
  obtain ⟨g1, g3⟩ := inB_gate c2
  obtain ⟨e1, e0, e4⟩ := spanB_true.1 c1
  clear hs h0
  go_enter Try.func31, Try.ntmps31
  go_wp2_with fail
  refine (CheckSite_any _ _ _ _ _ _ _ _ _ HS.out).mono ?_; rintro e w1 ⟨rfl, hb1⟩
  have T1 := (Three.new w nm x y z rose gates step width lo hi (.int .i64 0) (.int .i64 0) 43 43).keep hb1 (by simp only [World.size_alloc]; omega)
  clear hb1
  rw [H0.out]
  obtain ⟨⟨k0, k1, k2, k3, k4, k5, k6, k7⟩, ⟨p0, p1⟩, ⟨o0, o1, f0, f1⟩, hz, hbw⟩ := T1
  go_wp2_with fail
  refine (isSlanted_any _ _).mono ?_; rintro e w' ⟨rfl, rfl⟩
  go_wp2_with fail
  refine (isEarth_any _ _ _).mono ?_; rintro e w2 ⟨rfl, hb2⟩
  have T2 := (⟨⟨k0, k1, k2, k3, k4, k5, k6, k7⟩, ⟨p0, p1⟩, ⟨o0, o1, f0, f1⟩, hz, hbw⟩ : Three w w1 nm x y z rose gates step width lo hi).keep hb2 (by omega)
  clear k0 k1 k2 k3 k4 k5 k6 k7 o0 o1 f0 f1 hz hbw p0 p1
  clear hb2
  obtain ⟨⟨k0, k1, k2, k3, k4, k5, k6, k7⟩, ⟨p0, p1⟩, ⟨o0, o1, f0, f1⟩, hz, hbw⟩ := T2
  go_wp2_with fail
  refine (isGate_any _ _ _ _ _ _ _ _ _ _ hg1 hg2).mono ?_; rintro e w3 ⟨rfl, hb3⟩
  have T3 := (⟨⟨k0, k1, k2, k3, k4, k5, k6, k7⟩, ⟨p0, p1⟩, ⟨o0, o1, f0, f1⟩, hz, hbw⟩ : Three w w2 nm x y z rose gates step width lo hi).keep hb3 (by omega)
  clear k0 k1 k2 k3 k4 k5 k6 k7 o0 o1 f0 f1 hz hbw p0 p1
  clear hb3
  obtain ⟨⟨k0, k1, k2, k3, k4, k5, k6, k7⟩, ⟨p0, p1⟩, ⟨o0, o1, f0, f1⟩, hz, hbw⟩ := T3
  go_wp2_with fail
  refine (height_any _ _ _ _ _ _ _ _ _ _ _ _ _ (by omega) (by omega) s1 s2 g1 (by omega) z1 z2 e1 (by omega) (by omega) e4).mono ?_; rintro e w4 ⟨rfl, hb4⟩
  have T4 := (⟨⟨k0, k1, k2, k3, k4, k5, k6, k7⟩, ⟨p0, p1⟩, ⟨o0, o1, f0, f1⟩, hz, hbw⟩ : Three w w3 nm x y z rose gates step width lo hi).keep hb4 (by omega)
  clear k0 k1 k2 k3 k4 k5 k6 k7 o0 o1 f0 f1 hz hbw p0 p1
  clear hb4
  obtain ⟨⟨k0, k1, k2, k3, k4, k5, k6, k7⟩, ⟨p0, p1⟩, ⟨o0, o1, f0, f1⟩, hz, hbw⟩ := T4
  go_wp2
  exact bodyPost_ret (v := .tuple #[.agg #[.int .i64 (climbLo z step t gate hi), .int .i64 (climbHi z step t gate lo)], .int .i64 0]) (by simp [results, Try.results31, go_sem, o0, o1]) rfl ⟨rfl, Below.setCell (Below.setCell hbw (by dsimp only; omega) _) (by dsimp only; omega) _⟩

theorem Height_any (nm : ByteArray) (x y z rose gates step width : Int) (t lo hi gate : Int) (w : World) (hs : nm.size ≤ maxLen) :
    Calls Try.prog 31 #[.agg #[.string nm, .int .i64 x, .int .i64 y, .int .i64 z, .int .i64 rose, .int .i64 gates, .int .i64 step, .int .i64 width], .int .i64 t, .agg #[.int .i64 lo, .int .i64 hi], .int .i64 gate] w
      fun e w' => e = .returned (.tuple #[.agg #[.int .i64 (val (codeE (siteC nm x y z rose gates step width) (inB t (-8) 264 && spanB lo hi 1000000 100000000 && inB gate 0 (gates - 1))) (climbLo z step t gate hi)), .int .i64 (val (codeE (siteC nm x y z rose gates step width) (inB t (-8) 264 && spanB lo hi 1000000 100000000 && inB gate 0 (gates - 1))) (climbHi z step t gate lo))], .int .i64 (codeE (siteC nm x y z rose gates step width) (inB t (-8) 264 && spanB lo hi 1000000 100000000 && inB gate 0 (gates - 1)))]) ∧ Below w.heap.size w w' := by
  by_cases h0 : siteC nm x y z rose gates step width = 0
  · have hk := (siteC_zero.1 h0).2
    have hg1 := hk.g1
    have hg2 := hk.g2
    rcases (Bool.eq_false_or_eq_true (inB t (-8) 264)).symm with c0 | c0
    · have e : (codeE (siteC nm x y z rose gates step width) (inB t (-8) 264 && spanB lo hi 1000000 100000000 && inB gate 0 (gates - 1))) = 3 := by rw [h0, c0]; rfl
      rw [e, val_no, val_no]
      exact Height_no0 nm x y z rose gates step width t lo hi gate w hs h0 hg1 hg2 c0
    · have _u := hg1
      rcases (Bool.eq_false_or_eq_true (spanB lo hi 1000000 100000000)).symm with c1 | c1
      · have e : (codeE (siteC nm x y z rose gates step width) (inB t (-8) 264 && spanB lo hi 1000000 100000000 && inB gate 0 (gates - 1))) = 3 := by rw [h0, c0, c1]; rfl
        rw [e, val_no, val_no]
        exact Height_no1 nm x y z rose gates step width t lo hi gate w hs h0 hg1 hg2 c0 c1
      · have _u := hg1
        rcases (Bool.eq_false_or_eq_true (inB gate 0 (gates - 1))).symm with c2 | c2
        · have e : (codeE (siteC nm x y z rose gates step width) (inB t (-8) 264 && spanB lo hi 1000000 100000000 && inB gate 0 (gates - 1))) = 3 := by rw [h0, c0, c1, c2]; rfl
          rw [e, val_no, val_no]
          exact Height_no2 nm x y z rose gates step width t lo hi gate w hs h0 hg1 hg2 c0 c1 c2
        · have e : (codeE (siteC nm x y z rose gates step width) (inB t (-8) 264 && spanB lo hi 1000000 100000000 && inB gate 0 (gates - 1))) = 0 := by rw [h0, c0, c1, c2]; rfl
          rw [e, val_ok, val_ok]
          exact Height_ok nm x y z rose gates step width t lo hi gate w hs h0 hk c0 c1 c2
  · rw [codeE_err h0, val_err h0, val_err h0]
    exact Height_err nm x y z rose gates step width t lo hi gate w hs (bne_iff_ne.2 h0)

set_option maxHeartbeats 1600000 in
theorem refHeight_err (nm : ByteArray) (x y z rose gates step width : Int) (t lo hi gate : Int) (w : World) (hs : nm.size ≤ maxLen) (hne : (siteC nm x y z rose gates step width != 0) = true) :
    Calls Try.prog 32 #[.agg #[.string nm, .int .i64 x, .int .i64 y, .int .i64 z, .int .i64 rose, .int .i64 gates, .int .i64 step, .int .i64 width], .int .i64 t, .agg #[.int .i64 lo, .int .i64 hi], .int .i64 gate] w
      fun e w' => e = .returned (.tuple #[.agg #[.int .i64 0, .int .i64 0], .int .i64 (siteC nm x y z rose gates step width)]) ∧ Below w.heap.size w w' := by
  have HS := Lib.hid hs
  clear hs
  go_enter Try.func32, Try.ntmps32
  go_wp2_with fail
  refine (refCheckSite_any _ _ _ _ _ _ _ _ _ HS.out).mono ?_; rintro e w1 ⟨rfl, hb1⟩
  have T1 := (Three.new w nm x y z rose gates step width lo hi (.int .i64 0) (.int .i64 0) 43 43).keep hb1 (by simp only [World.size_alloc]; omega)
  clear hb1
  obtain ⟨⟨k0, k1, k2, k3, k4, k5, k6, k7⟩, ⟨p0, p1⟩, ⟨o0, o1, f0, f1⟩, hz, hbw⟩ := T1
  go_wp2
  exact bodyPost_ret (v := .tuple #[.agg #[.int .i64 0, .int .i64 0], .int .i64 (siteC nm x y z rose gates step width)]) (by simp [results, Try.results32, go_sem, o0, o1]) rfl ⟨rfl, Below.setCell (Below.setCell hbw (by dsimp only; omega) _) (by dsimp only; omega) _⟩

set_option maxHeartbeats 1600000 in
theorem refHeight_no0 (nm : ByteArray) (x y z rose gates step width : Int) (t lo hi gate : Int) (w : World) (hs : nm.size ≤ maxLen) (h0 : siteC nm x y z rose gates step width = 0) (hg1 : 1 ≤ gates) (hg2 : gates ≤ 200) (c0 : inB t (-8) 264 = false) :
    Calls Try.prog 32 #[.agg #[.string nm, .int .i64 x, .int .i64 y, .int .i64 z, .int .i64 rose, .int .i64 gates, .int .i64 step, .int .i64 width], .int .i64 t, .agg #[.int .i64 lo, .int .i64 hi], .int .i64 gate] w
      fun e w' => e = .returned (.tuple #[.agg #[.int .i64 0, .int .i64 0], .int .i64 3]) ∧ Below w.heap.size w w' := by
  have HS := Lib.hid hs
  have H0 := Lib.hid h0
  clear hs h0
  go_enter Try.func32, Try.ntmps32
  go_wp2_with fail
  refine (refCheckSite_any _ _ _ _ _ _ _ _ _ HS.out).mono ?_; rintro e w1 ⟨rfl, hb1⟩
  have T1 := (Three.new w nm x y z rose gates step width lo hi (.int .i64 0) (.int .i64 0) 43 43).keep hb1 (by simp only [World.size_alloc]; omega)
  clear hb1
  rw [H0.out]
  obtain ⟨⟨k0, k1, k2, k3, k4, k5, k6, k7⟩, ⟨p0, p1⟩, ⟨o0, o1, f0, f1⟩, hz, hbw⟩ := T1
  go_wp2_with fail
  refine (refIn_any _ _ _ _).mono ?_; rintro e w' ⟨rfl, rfl⟩
  go_wp2
  exact bodyPost_ret (v := .tuple #[.agg #[.int .i64 0, .int .i64 0], .int .i64 3]) (by simp [results, Try.results32, go_sem, o0, o1]) rfl ⟨rfl, Below.setCell (Below.setCell hbw (by dsimp only; omega) _) (by dsimp only; omega) _⟩

set_option maxHeartbeats 1600000 in
theorem refHeight_no1 (nm : ByteArray) (x y z rose gates step width : Int) (t lo hi gate : Int) (w : World) (hs : nm.size ≤ maxLen) (h0 : siteC nm x y z rose gates step width = 0) (hg1 : 1 ≤ gates) (hg2 : gates ≤ 200) (c0 : inB t (-8) 264 = true) (c1 : spanB lo hi 1000000 100000000 = false) :
    Calls Try.prog 32 #[.agg #[.string nm, .int .i64 x, .int .i64 y, .int .i64 z, .int .i64 rose, .int .i64 gates, .int .i64 step, .int .i64 width], .int .i64 t, .agg #[.int .i64 lo, .int .i64 hi], .int .i64 gate] w
      fun e w' => e = .returned (.tuple #[.agg #[.int .i64 0, .int .i64 0], .int .i64 3]) ∧ Below w.heap.size w w' := by
  have HS := Lib.hid hs
  have H0 := Lib.hid h0
  clear hs h0
  go_enter Try.func32, Try.ntmps32
  go_wp2_with fail
  refine (refCheckSite_any _ _ _ _ _ _ _ _ _ HS.out).mono ?_; rintro e w1 ⟨rfl, hb1⟩
  have T1 := (Three.new w nm x y z rose gates step width lo hi (.int .i64 0) (.int .i64 0) 43 43).keep hb1 (by simp only [World.size_alloc]; omega)
  clear hb1
  rw [H0.out]
  obtain ⟨⟨k0, k1, k2, k3, k4, k5, k6, k7⟩, ⟨p0, p1⟩, ⟨o0, o1, f0, f1⟩, hz, hbw⟩ := T1
  go_wp2_with fail
  refine (refIn_any _ _ _ _).mono ?_; rintro e w' ⟨rfl, rfl⟩
  go_wp2_with fail
  refine (Earth_any _ _ _).mono ?_; rintro e w2 ⟨rfl, hb2⟩
  have T2 := (⟨⟨k0, k1, k2, k3, k4, k5, k6, k7⟩, ⟨p0, p1⟩, ⟨o0, o1, f0, f1⟩, hz, hbw⟩ : Three w w1 nm x y z rose gates step width lo hi).keep hb2 (by omega)
  clear k0 k1 k2 k3 k4 k5 k6 k7 o0 o1 f0 f1 hz hbw p0 p1
  clear hb2
  obtain ⟨⟨k0, k1, k2, k3, k4, k5, k6, k7⟩, ⟨p0, p1⟩, ⟨o0, o1, f0, f1⟩, hz, hbw⟩ := T2
  go_wp2
  exact bodyPost_ret (v := .tuple #[.agg #[.int .i64 0, .int .i64 0], .int .i64 3]) (by simp [results, Try.results32, go_sem, o0, o1]) rfl ⟨rfl, Below.setCell (Below.setCell hbw (by dsimp only; omega) _) (by dsimp only; omega) _⟩

set_option maxHeartbeats 1600000 in
theorem refHeight_no2 (nm : ByteArray) (x y z rose gates step width : Int) (t lo hi gate : Int) (w : World) (hs : nm.size ≤ maxLen) (h0 : siteC nm x y z rose gates step width = 0) (hg1 : 1 ≤ gates) (hg2 : gates ≤ 200) (c0 : inB t (-8) 264 = true) (c1 : spanB lo hi 1000000 100000000 = true) (c2 : inB gate 0 (gates - 1) = false) :
    Calls Try.prog 32 #[.agg #[.string nm, .int .i64 x, .int .i64 y, .int .i64 z, .int .i64 rose, .int .i64 gates, .int .i64 step, .int .i64 width], .int .i64 t, .agg #[.int .i64 lo, .int .i64 hi], .int .i64 gate] w
      fun e w' => e = .returned (.tuple #[.agg #[.int .i64 0, .int .i64 0], .int .i64 3]) ∧ Below w.heap.size w w' := by
  have HS := Lib.hid hs
  have H0 := Lib.hid h0
  clear hs h0
  go_enter Try.func32, Try.ntmps32
  go_wp2_with fail
  refine (refCheckSite_any _ _ _ _ _ _ _ _ _ HS.out).mono ?_; rintro e w1 ⟨rfl, hb1⟩
  have T1 := (Three.new w nm x y z rose gates step width lo hi (.int .i64 0) (.int .i64 0) 43 43).keep hb1 (by simp only [World.size_alloc]; omega)
  clear hb1
  rw [H0.out]
  obtain ⟨⟨k0, k1, k2, k3, k4, k5, k6, k7⟩, ⟨p0, p1⟩, ⟨o0, o1, f0, f1⟩, hz, hbw⟩ := T1
  go_wp2_with fail
  refine (refIn_any _ _ _ _).mono ?_; rintro e w' ⟨rfl, rfl⟩
  go_wp2_with fail
  refine (Earth_any _ _ _).mono ?_; rintro e w2 ⟨rfl, hb2⟩
  have T2 := (⟨⟨k0, k1, k2, k3, k4, k5, k6, k7⟩, ⟨p0, p1⟩, ⟨o0, o1, f0, f1⟩, hz, hbw⟩ : Three w w1 nm x y z rose gates step width lo hi).keep hb2 (by omega)
  clear k0 k1 k2 k3 k4 k5 k6 k7 o0 o1 f0 f1 hz hbw p0 p1
  clear hb2
  obtain ⟨⟨k0, k1, k2, k3, k4, k5, k6, k7⟩, ⟨p0, p1⟩, ⟨o0, o1, f0, f1⟩, hz, hbw⟩ := T2
  go_wp2_with fail
  refine (refIn_any _ _ _ _).mono ?_; rintro e w' ⟨rfl, rfl⟩
  go_wp2
  exact bodyPost_ret (v := .tuple #[.agg #[.int .i64 0, .int .i64 0], .int .i64 3]) (by simp [results, Try.results32, go_sem, o0, o1]) rfl ⟨rfl, Below.setCell (Below.setCell hbw (by dsimp only; omega) _) (by dsimp only; omega) _⟩

set_option maxHeartbeats 3200000 in
theorem refHeight_ok (nm : ByteArray) (x y z rose gates step width : Int) (t lo hi gate : Int) (w : World) (hs : nm.size ≤ maxLen) (h0 : siteC nm x y z rose gates step width = 0) (hk : SiteOk x y z rose gates step width) (c0 : inB t (-8) 264 = true) (c1 : spanB lo hi 1000000 100000000 = true) (c2 : inB gate 0 (gates - 1) = true) :
    Calls Try.prog 32 #[.agg #[.string nm, .int .i64 x, .int .i64 y, .int .i64 z, .int .i64 rose, .int .i64 gates, .int .i64 step, .int .i64 width], .int .i64 t, .agg #[.int .i64 lo, .int .i64 hi], .int .i64 gate] w
      fun e w' => e = .returned (.tuple #[.agg #[.int .i64 (climbLo z step t gate hi), .int .i64 (climbHi z step t gate lo)], .int .i64 0]) ∧ Below w.heap.size w w' := by
  have HS := Lib.hid hs
  have H0 := Lib.hid h0
  obtain ⟨x1, x2, y1, y2, z1, z2, r1, r2, hg1, hg2, s1, s2, d1, d2⟩ := hk
  obtain ⟨t1, t2⟩ := inB_true.1 c0
  obtain ⟨g1, g3⟩ := inB_gate c2
  obtain ⟨e1, e0, e4⟩ := spanB_true.1 c1
  clear hs h0
  go_enter Try.func32, Try.ntmps32
  go_wp2_with fail
  refine (refCheckSite_any _ _ _ _ _ _ _ _ _ HS.out).mono ?_; rintro e w1 ⟨rfl, hb1⟩
  have T1 := (Three.new w nm x y z rose gates step width lo hi (.int .i64 0) (.int .i64 0) 43 43).keep hb1 (by simp only [World.size_alloc]; omega)
  clear hb1
  rw [H0.out]
  obtain ⟨⟨k0, k1, k2, k3, k4, k5, k6, k7⟩, ⟨p0, p1⟩, ⟨o0, o1, f0, f1⟩, hz, hbw⟩ := T1
  go_wp2_with fail
  refine (refIn_any _ _ _ _).mono ?_; rintro e w' ⟨rfl, rfl⟩
  go_wp2_with fail
  refine (Earth_any _ _ _).mono ?_; rintro e w2 ⟨rfl, hb2⟩
  have T2 := (⟨⟨k0, k1, k2, k3, k4, k5, k6, k7⟩, ⟨p0, p1⟩, ⟨o0, o1, f0, f1⟩, hz, hbw⟩ : Three w w1 nm x y z rose gates step width lo hi).keep hb2 (by omega)
  clear k0 k1 k2 k3 k4 k5 k6 k7 o0 o1 f0 f1 hz hbw p0 p1
  clear hb2
  obtain ⟨⟨k0, k1, k2, k3, k4, k5, k6, k7⟩, ⟨p0, p1⟩, ⟨o0, o1, f0, f1⟩, hz, hbw⟩ := T2
  go_wp2_with fail
  refine (refIn_any _ _ _ _).mono ?_; rintro e w' ⟨rfl, rfl⟩
  go_wp2_with fail
  refine (refheight_any _ _ _ _ _ _ _ _ _ _ _ _ _ (by omega) (by omega) s1 s2 g1 (by omega) z1 z2 e1 (by omega) (by omega) e4).mono ?_; rintro e w3 ⟨rfl, hb3⟩
  have T3 := (⟨⟨k0, k1, k2, k3, k4, k5, k6, k7⟩, ⟨p0, p1⟩, ⟨o0, o1, f0, f1⟩, hz, hbw⟩ : Three w w2 nm x y z rose gates step width lo hi).keep hb3 (by omega)
  clear k0 k1 k2 k3 k4 k5 k6 k7 o0 o1 f0 f1 hz hbw p0 p1
  clear hb3
  obtain ⟨⟨k0, k1, k2, k3, k4, k5, k6, k7⟩, ⟨p0, p1⟩, ⟨o0, o1, f0, f1⟩, hz, hbw⟩ := T3
  go_wp2
  exact bodyPost_ret (v := .tuple #[.agg #[.int .i64 (climbLo z step t gate hi), .int .i64 (climbHi z step t gate lo)], .int .i64 0]) (by simp [results, Try.results32, go_sem, o0, o1]) rfl ⟨rfl, Below.setCell (Below.setCell hbw (by dsimp only; omega) _) (by dsimp only; omega) _⟩

theorem refHeight_any (nm : ByteArray) (x y z rose gates step width : Int) (t lo hi gate : Int) (w : World) (hs : nm.size ≤ maxLen) :
    Calls Try.prog 32 #[.agg #[.string nm, .int .i64 x, .int .i64 y, .int .i64 z, .int .i64 rose, .int .i64 gates, .int .i64 step, .int .i64 width], .int .i64 t, .agg #[.int .i64 lo, .int .i64 hi], .int .i64 gate] w
      fun e w' => e = .returned (.tuple #[.agg #[.int .i64 (val (codeE (siteC nm x y z rose gates step width) (inB t (-8) 264 && spanB lo hi 1000000 100000000 && inB gate 0 (gates - 1))) (climbLo z step t gate hi)), .int .i64 (val (codeE (siteC nm x y z rose gates step width) (inB t (-8) 264 && spanB lo hi 1000000 100000000 && inB gate 0 (gates - 1))) (climbHi z step t gate lo))], .int .i64 (codeE (siteC nm x y z rose gates step width) (inB t (-8) 264 && spanB lo hi 1000000 100000000 && inB gate 0 (gates - 1)))]) ∧ Below w.heap.size w w' := by
  by_cases h0 : siteC nm x y z rose gates step width = 0
  · have hk := (siteC_zero.1 h0).2
    have hg1 := hk.g1
    have hg2 := hk.g2
    rcases (Bool.eq_false_or_eq_true (inB t (-8) 264)).symm with c0 | c0
    · have e : (codeE (siteC nm x y z rose gates step width) (inB t (-8) 264 && spanB lo hi 1000000 100000000 && inB gate 0 (gates - 1))) = 3 := by rw [h0, c0]; rfl
      rw [e, val_no, val_no]
      exact refHeight_no0 nm x y z rose gates step width t lo hi gate w hs h0 hg1 hg2 c0
    · have _u := hg1
      rcases (Bool.eq_false_or_eq_true (spanB lo hi 1000000 100000000)).symm with c1 | c1
      · have e : (codeE (siteC nm x y z rose gates step width) (inB t (-8) 264 && spanB lo hi 1000000 100000000 && inB gate 0 (gates - 1))) = 3 := by rw [h0, c0, c1]; rfl
        rw [e, val_no, val_no]
        exact refHeight_no1 nm x y z rose gates step width t lo hi gate w hs h0 hg1 hg2 c0 c1
      · have _u := hg1
        rcases (Bool.eq_false_or_eq_true (inB gate 0 (gates - 1))).symm with c2 | c2
        · have e : (codeE (siteC nm x y z rose gates step width) (inB t (-8) 264 && spanB lo hi 1000000 100000000 && inB gate 0 (gates - 1))) = 3 := by rw [h0, c0, c1, c2]; rfl
          rw [e, val_no, val_no]
          exact refHeight_no2 nm x y z rose gates step width t lo hi gate w hs h0 hg1 hg2 c0 c1 c2
        · have e : (codeE (siteC nm x y z rose gates step width) (inB t (-8) 264 && spanB lo hi 1000000 100000000 && inB gate 0 (gates - 1))) = 0 := by rw [h0, c0, c1, c2]; rfl
          rw [e, val_ok, val_ok]
          exact refHeight_ok nm x y z rose gates step width t lo hi gate w hs h0 hk c0 c1 c2
  · rw [codeE_err h0, val_err h0, val_err h0]
    exact refHeight_err nm x y z rose gates step width t lo hi gate w hs (bne_iff_ne.2 h0)

end Go.Proofs.Ythnjfnapjpdchaa
