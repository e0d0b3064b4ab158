/-
  What Band answers, in the code and in the reference.
-/
import Derived.Test.YthnjfnapjpdchaaQ0
import Derived.Test.YthnjfnapjpdchaaO
namespace Go.Proofs.Ythnjfnapjpdchaa
open Go.RowKit
set_option linter.unusedVariables false

set_option maxHeartbeats 1600000 in
theorem Band_err (nm : ByteArray) (x y z rose gates step width : Int) (t lo hi gate : Int) (w : World) (hs : nm.size ≤ maxLen) (hne : (siteC nm x y z rose gates step width != 0) = true) :
    Calls Try.prog 33 #[.agg #[.string nm, .int .i64 x, .int .i64 y, .int .i64 z, .int .i64 rose, .int .i64 gates, .int .i64 step, .int .i64 width], .int .i64 t, .agg #[.int .i64 lo, .int .i64 hi], .int .i64 gate] w
      fun e w' => e = .returned (.tuple #[.agg #[.int .i64 0, .int .i64 0], .int .i64 (siteC nm x y z rose gates step width)]) ∧ Below w.heap.size w w' := by
  have HS := Lib.hid hs
  clear hs
  go_enter Try.func33, Try.ntmps33
  go_wp2_with fail
  refine (CheckSite_any _ _ _ _ _ _ _ _ _ HS.out).mono ?_; rintro e w1 ⟨rfl, hb1⟩
  have T1 := (Three.new w nm x y z rose gates step width lo hi (.int .i64 0) (.int .i64 0) 43 43).keep hb1 (by simp only [World.size_alloc]; omega)
  clear hb1
  obtain ⟨⟨k0, k1, k2, k3, k4, k5, k6, k7⟩, ⟨p0, p1⟩, ⟨o0, o1, f0, f1⟩, hz, hbw⟩ := T1
  go_wp2
  exact bodyPost_ret (v := .tuple #[.agg #[.int .i64 0, .int .i64 0], .int .i64 (siteC nm x y z rose gates step width)]) (by simp [results, Try.results33, go_sem, o0, o1]) rfl ⟨rfl, Below.setCell (Below.setCell hbw (by dsimp only; omega) _) (by dsimp only; omega) _⟩

set_option maxHeartbeats 1600000 in
theorem Band_no0 (nm : ByteArray) (x y z rose gates step width : Int) (t lo hi gate : Int) (w : World) (hs : nm.size ≤ maxLen) (h0 : siteC nm x y z rose gates step width = 0) (hg1 : 1 ≤ gates) (hg2 : gates ≤ 200) (c0 : inB t 0 256 = false) :
    Calls Try.prog 33 #[.agg #[.string nm, .int .i64 x, .int .i64 y, .int .i64 z, .int .i64 rose, .int .i64 gates, .int .i64 step, .int .i64 width], .int .i64 t, .agg #[.int .i64 lo, .int .i64 hi], .int .i64 gate] w
      fun e w' => e = .returned (.tuple #[.agg #[.int .i64 0, .int .i64 0], .int .i64 3]) ∧ Below w.heap.size w w' := by
  have HS := Lib.hid hs
  have H0 := Lib.hid h0
  clear hs h0
  go_enter Try.func33, Try.ntmps33
  go_wp2_with fail
  refine (CheckSite_any _ _ _ _ _ _ _ _ _ HS.out).mono ?_; rintro e w1 ⟨rfl, hb1⟩
  have T1 := (Three.new w nm x y z rose gates step width lo hi (.int .i64 0) (.int .i64 0) 43 43).keep hb1 (by simp only [World.size_alloc]; omega)
  clear hb1
  rw [H0.out]
  obtain ⟨⟨k0, k1, k2, k3, k4, k5, k6, k7⟩, ⟨p0, p1⟩, ⟨o0, o1, f0, f1⟩, hz, hbw⟩ := T1
  go_wp2_with fail
  refine (isTilt_any _ _).mono ?_; rintro e w' ⟨rfl, rfl⟩
  go_wp2
  exact bodyPost_ret (v := .tuple #[.agg #[.int .i64 0, .int .i64 0], .int .i64 3]) (by simp [results, Try.results33, go_sem, o0, o1]) rfl ⟨rfl, Below.setCell (Below.setCell hbw (by dsimp only; omega) _) (by dsimp only; omega) _⟩

set_option maxHeartbeats 1600000 in
theorem Band_no1 (nm : ByteArray) (x y z rose gates step width : Int) (t lo hi gate : Int) (w : World) (hs : nm.size ≤ maxLen) (h0 : siteC nm x y z rose gates step width = 0) (hg1 : 1 ≤ gates) (hg2 : gates ≤ 200) (c0 : inB t 0 256 = true) (c1 : spanB lo hi 1000000 100000000 = false) :
    Calls Try.prog 33 #[.agg #[.string nm, .int .i64 x, .int .i64 y, .int .i64 z, .int .i64 rose, .int .i64 gates, .int .i64 step, .int .i64 width], .int .i64 t, .agg #[.int .i64 lo, .int .i64 hi], .int .i64 gate] w
      fun e w' => e = .returned (.tuple #[.agg #[.int .i64 0, .int .i64 0], .int .i64 3]) ∧ Below w.heap.size w w' := by
  have HS := Lib.hid hs
  have H0 := Lib.hid h0
  clear hs h0
  go_enter Try.func33, Try.ntmps33
  go_wp2_with fail
  refine (CheckSite_any _ _ _ _ _ _ _ _ _ HS.out).mono ?_; rintro e w1 ⟨rfl, hb1⟩
  have T1 := (Three.new w nm x y z rose gates step width lo hi (.int .i64 0) (.int .i64 0) 43 43).keep hb1 (by simp only [World.size_alloc]; omega)
  clear hb1
  rw [H0.out]
  obtain ⟨⟨k0, k1, k2, k3, k4, k5, k6, k7⟩, ⟨p0, p1⟩, ⟨o0, o1, f0, f1⟩, hz, hbw⟩ := T1
  go_wp2_with fail
  refine (isTilt_any _ _).mono ?_; rintro e w' ⟨rfl, rfl⟩
  go_wp2_with fail
  refine (isEarth_any _ _ _).mono ?_; rintro e w2 ⟨rfl, hb2⟩
  have T2 := (⟨⟨k0, k1, k2, k3, k4, k5, k6, k7⟩, ⟨p0, p1⟩, ⟨o0, o1, f0, f1⟩, hz, hbw⟩ : Three w w1 nm x y z rose gates step width lo hi).keep hb2 (by omega)
  clear k0 k1 k2 k3 k4 k5 k6 k7 o0 o1 f0 f1 hz hbw p0 p1
  clear hb2
  obtain ⟨⟨k0, k1, k2, k3, k4, k5, k6, k7⟩, ⟨p0, p1⟩, ⟨o0, o1, f0, f1⟩, hz, hbw⟩ := T2
  go_wp2
  exact bodyPost_ret (v := .tuple #[.agg #[.int .i64 0, .int .i64 0], .int .i64 3]) (by simp [results, Try.results33, go_sem, o0, o1]) rfl ⟨rfl, Below.setCell (Below.setCell hbw (by dsimp only; omega) _) (by dsimp only; omega) _⟩

set_option maxHeartbeats 1600000 in
theorem Band_no2 (nm : ByteArray) (x y z rose gates step width : Int) (t lo hi gate : Int) (w : World) (hs : nm.size ≤ maxLen) (h0 : siteC nm x y z rose gates step width = 0) (hg1 : 1 ≤ gates) (hg2 : gates ≤ 200) (c0 : inB t 0 256 = true) (c1 : spanB lo hi 1000000 100000000 = true) (c2 : inB gate 0 (gates - 1) = false) :
    Calls Try.prog 33 #[.agg #[.string nm, .int .i64 x, .int .i64 y, .int .i64 z, .int .i64 rose, .int .i64 gates, .int .i64 step, .int .i64 width], .int .i64 t, .agg #[.int .i64 lo, .int .i64 hi], .int .i64 gate] w
      fun e w' => e = .returned (.tuple #[.agg #[.int .i64 0, .int .i64 0], .int .i64 3]) ∧ Below w.heap.size w w' := by
  have HS := Lib.hid hs
  have H0 := Lib.hid h0
  clear hs h0
  go_enter Try.func33, Try.ntmps33
  go_wp2_with fail
  refine (CheckSite_any _ _ _ _ _ _ _ _ _ HS.out).mono ?_; rintro e w1 ⟨rfl, hb1⟩
  have T1 := (Three.new w nm x y z rose gates step width lo hi (.int .i64 0) (.int .i64 0) 43 43).keep hb1 (by simp only [World.size_alloc]; omega)
  clear hb1
  rw [H0.out]
  obtain ⟨⟨k0, k1, k2, k3, k4, k5, k6, k7⟩, ⟨p0, p1⟩, ⟨o0, o1, f0, f1⟩, hz, hbw⟩ := T1
  go_wp2_with fail
  refine (isTilt_any _ _).mono ?_; rintro e w' ⟨rfl, rfl⟩
  go_wp2_with fail
  refine (isEarth_any _ _ _).mono ?_; rintro e w2 ⟨rfl, hb2⟩
  have T2 := (⟨⟨k0, k1, k2, k3, k4, k5, k6, k7⟩, ⟨p0, p1⟩, ⟨o0, o1, f0, f1⟩, hz, hbw⟩ : Three w w1 nm x y z rose gates step width lo hi).keep hb2 (by omega)
  clear k0 k1 k2 k3 k4 k5 k6 k7 o0 o1 f0 f1 hz hbw p0 p1
  clear hb2
  obtain ⟨⟨k0, k1, k2, k3, k4, k5, k6, k7⟩, ⟨p0, p1⟩, ⟨o0, o1, f0, f1⟩, hz, hbw⟩ := T2
  go_wp2_with fail
  refine (isGate_any _ _ _ _ _ _ _ _ _ _ hg1 hg2).mono ?_; rintro e w3 ⟨rfl, hb3⟩
  have T3 := (⟨⟨k0, k1, k2, k3, k4, k5, k6, k7⟩, ⟨p0, p1⟩, ⟨o0, o1, f0, f1⟩, hz, hbw⟩ : Three w w2 nm x y z rose gates step width lo hi).keep hb3 (by omega)
  clear k0 k1 k2 k3 k4 k5 k6 k7 o0 o1 f0 f1 hz hbw p0 p1
  clear hb3
  obtain ⟨⟨k0, k1, k2, k3, k4, k5, k6, k7⟩, ⟨p0, p1⟩, ⟨o0, o1, f0, f1⟩, hz, hbw⟩ := T3
  go_wp2
  exact bodyPost_ret (v := .tuple #[.agg #[.int .i64 0, .int .i64 0], .int .i64 3]) (by simp [results, Try.results33, go_sem, o0, o1]) rfl ⟨rfl, Below.setCell (Below.setCell hbw (by dsimp only; omega) _) (by dsimp only; omega) _⟩

set_option maxHeartbeats 3200000 in
theorem Band_ok (nm : ByteArray) (x y z rose gates step width : Int) (t lo hi gate : Int) (w : World) (hs : nm.size ≤ maxLen) (h0 : siteC nm x y z rose gates step width = 0) (hk : SiteOk x y z rose gates step width) (c0 : inB t 0 256 = true) (c1 : spanB lo hi 1000000 100000000 = true) (c2 : inB gate 0 (gates - 1) = true) :
    Calls Try.prog 33 #[.agg #[.string nm, .int .i64 x, .int .i64 y, .int .i64 z, .int .i64 rose, .int .i64 gates, .int .i64 step, .int .i64 width], .int .i64 t, .agg #[.int .i64 lo, .int .i64 hi], .int .i64 gate] w
      fun e w' => e = .returned (.tuple #[.agg #[.int .i64 (climbLo z step (t - width) gate hi), .int .i64 (climbHi z step (t + width) gate lo)], .int .i64 0]) ∧ Below w.heap.size w w' := by
  have HS := Lib.hid hs
  have H0 := Lib.hid h0
  obtain ⟨x1, x2, y1, y2, z1, z2, r1, r2, hg1, hg2, s1, s2, d1, d2⟩ := hk
  obtain ⟨t1, t2⟩ := inB_true.1 c0
  obtain ⟨g1, g3⟩ := inB_gate c2
  obtain ⟨e1, e0, e4⟩ := spanB_true.1 c1
  clear hs h0
  go_enter Try.func33, Try.ntmps33
  go_wp2_with fail
  refine (CheckSite_any _ _ _ _ _ _ _ _ _ HS.out).mono ?_; rintro e w1 ⟨rfl, hb1⟩
  have T1 := (Three.new w nm x y z rose gates step width lo hi (.int .i64 0) (.int .i64 0) 43 43).keep hb1 (by simp only [World.size_alloc]; omega)
  clear hb1
  rw [H0.out]
  obtain ⟨⟨k0, k1, k2, k3, k4, k5, k6, k7⟩, ⟨p0, p1⟩, ⟨o0, o1, f0, f1⟩, hz, hbw⟩ := T1
  go_wp2_with fail
  refine (isTilt_any _ _).mono ?_; rintro e w' ⟨rfl, rfl⟩
  go_wp2_with fail
  refine (isEarth_any _ _ _).mono ?_; rintro e w2 ⟨rfl, hb2⟩
  have T2 := (⟨⟨k0, k1, k2, k3, k4, k5, k6, k7⟩, ⟨p0, p1⟩, ⟨o0, o1, f0, f1⟩, hz, hbw⟩ : Three w w1 nm x y z rose gates step width lo hi).keep hb2 (by omega)
  clear k0 k1 k2 k3 k4 k5 k6 k7 o0 o1 f0 f1 hz hbw p0 p1
  clear hb2
  obtain ⟨⟨k0, k1, k2, k3, k4, k5, k6, k7⟩, ⟨p0, p1⟩, ⟨o0, o1, f0, f1⟩, hz, hbw⟩ := T2
  go_wp2_with fail
  refine (isGate_any _ _ _ _ _ _ _ _ _ _ hg1 hg2).mono ?_; rintro e w3 ⟨rfl, hb3⟩
  have T3 := (⟨⟨k0, k1, k2, k3, k4, k5, k6, k7⟩, ⟨p0, p1⟩, ⟨o0, o1, f0, f1⟩, hz, hbw⟩ : Three w w2 nm x y z rose gates step width lo hi).keep hb3 (by omega)
  clear k0 k1 k2 k3 k4 k5 k6 k7 o0 o1 f0 f1 hz hbw p0 p1
  clear hb3
  obtain ⟨⟨k0, k1, k2, k3, k4, k5, k6, k7⟩, ⟨p0, p1⟩, ⟨o0, o1, f0, f1⟩, hz, hbw⟩ := T3
  go_wp2_with fail
  refine (height_any _ _ _ _ _ _ _ _ (t - width) lo hi gate _ (by omega) (by omega) s1 s2 g1 (by omega) z1 z2 e1 (by omega) (by omega) e4).mono ?_; rintro e w4 ⟨rfl, hb4⟩
  have T4 := (⟨⟨k0, k1, k2, k3, k4, k5, k6, k7⟩, ⟨p0, p1⟩, ⟨o0, o1, f0, f1⟩, hz, hbw⟩ : Three w w3 nm x y z rose gates step width lo hi).keep hb4 (by omega)
  clear k0 k1 k2 k3 k4 k5 k6 k7 o0 o1 f0 f1 hz hbw p0 p1
  clear hb4
  obtain ⟨⟨k0, k1, k2, k3, k4, k5, k6, k7⟩, ⟨p0, p1⟩, ⟨o0, o1, f0, f1⟩, hz, hbw⟩ := T4
  have y0 : w.heap.size < w4.heap.size := by omega
  have y1 : w.heap.size + 1 < w4.heap.size := by omega
  have y2 : w.heap.size + 1 + 1 < w4.heap.size := by omega
  go_wp2_with fail
  refine (height_any _ _ _ _ _ _ _ _ (t + width) lo hi gate _ (by omega) (by omega) s1 s2 g1 (by omega) z1 z2 e1 (by omega) (by omega) e4).mono ?_; rintro e w5 ⟨rfl, hb5⟩
  have P1 := (PairAt.new w4 (.int .i64 (climbLo z step (t - width) gate hi)) (.int .i64 (climbHi z step (t - width) gate lo)) 43).keep hb5 (by simp)
  have hz2 : w4.heap.size < w5.heap.size := by have := hb5.size; simp only [World.size_alloc] at this; omega
  have T5 := ((⟨⟨k0, k1, k2, k3, k4, k5, k6, k7⟩, ⟨p0, p1⟩, ⟨o0, o1, f0, f1⟩, hz, hbw⟩ : Three w w4 nm x y z rose gates step width lo hi).keep (below_alloc w4 _) (by omega)).keep hb5 (by simp only [World.size_alloc]; omega)
  clear k0 k1 k2 k3 k4 k5 k6 k7 o0 o1 f0 f1 hz hbw p0 p1
  clear hb5
  obtain ⟨⟨k0, k1, k2, k3, k4, k5, k6, k7⟩, ⟨p0, p1⟩, ⟨o0, o1, f0, f1⟩, hz, hbw⟩ := T5
  clear y0 y1 y2
  have y0 : w.heap.size < w5.heap.size := by omega
  have y1 : w.heap.size + 1 < w5.heap.size := by omega
  have y2 : w.heap.size + 1 + 1 < w5.heap.size := by omega
  obtain ⟨l0, l1⟩ := P1
  go_wp2
  have hp := pair_read (w := w5) (u := .int .i64 (climbLo z step (t - width) gate hi)) (v := .int .i64 (climbHi z step (t + width) gate lo)) (cellAt_set (cellAt_set o0)) (cellAt_set (cellAt_set o1))
  obtain ⟨hp0, hp1⟩ := hp
  have hq0 := alloc_keep (o := .cells #[.int .i64 (climbLo z step (t + width) gate hi), .int .i64 (climbHi z step (t + width) gate lo)] 43) (by simp; omega) hp0
  have hq1 := alloc_keep (o := .cells #[.int .i64 (climbLo z step (t + width) gate hi), .int .i64 (climbHi z step (t + width) gate lo)] 43) (by simp; omega) hp1
  exact bodyPost_ret (v := .tuple #[.agg #[.int .i64 (climbLo z step (t - width) gate hi), .int .i64 (climbHi z step (t + width) gate lo)], .int .i64 0]) (by simp [results, Try.results33, go_sem, hq0, hq1]) rfl ⟨rfl, Below.alloc (Below.setCell (Below.setCell hbw (by dsimp only; omega) _) (by dsimp only; omega) _) (by simp; omega) _⟩

theorem Band_any (nm : ByteArray) (x y z rose gates step width : Int) (t lo hi gate : Int) (w : World) (hs : nm.size ≤ maxLen) :
    Calls Try.prog 33 #[.agg #[.string nm, .int .i64 x, .int .i64 y, .int .i64 z, .int .i64 rose, .int .i64 gates, .int .i64 step, .int .i64 width], .int .i64 t, .agg #[.int .i64 lo, .int .i64 hi], .int .i64 gate] w
      fun e w' => e = .returned (.tuple #[.agg #[.int .i64 (val (codeE (siteC nm x y z rose gates step width) (inB t 0 256 && spanB lo hi 1000000 100000000 && inB gate 0 (gates - 1))) (climbLo z step (t - width) gate hi)), .int .i64 (val (codeE (siteC nm x y z rose gates step width) (inB t 0 256 && spanB lo hi 1000000 100000000 && inB gate 0 (gates - 1))) (climbHi z step (t + width) gate lo))], .int .i64 (codeE (siteC nm x y z rose gates step width) (inB t 0 256 && spanB lo hi 1000000 100000000 && inB gate 0 (gates - 1)))]) ∧ Below w.heap.size w w' := by
  by_cases h0 : siteC nm x y z rose gates step width = 0
  · have hk := (siteC_zero.1 h0).2
    have hg1 := hk.g1
    have hg2 := hk.g2
    rcases (Bool.eq_false_or_eq_true (inB t 0 256)).symm with c0 | c0
    · have e : (codeE (siteC nm x y z rose gates step width) (inB t 0 256 && spanB lo hi 1000000 100000000 && inB gate 0 (gates - 1))) = 3 := by rw [h0, c0]; rfl
      rw [e, val_no, val_no]
      exact Band_no0 nm x y z rose gates step width t lo hi gate w hs h0 hg1 hg2 c0
    · have _u := hg1
      rcases (Bool.eq_false_or_eq_true (spanB lo hi 1000000 100000000)).symm with c1 | c1
      · have e : (codeE (siteC nm x y z rose gates step width) (inB t 0 256 && spanB lo hi 1000000 100000000 && inB gate 0 (gates - 1))) = 3 := by rw [h0, c0, c1]; rfl
        rw [e, val_no, val_no]
        exact Band_no1 nm x y z rose gates step width t lo hi gate w hs h0 hg1 hg2 c0 c1
      · have _u := hg1
        rcases (Bool.eq_false_or_eq_true (inB gate 0 (gates - 1))).symm with c2 | c2
        · have e : (codeE (siteC nm x y z rose gates step width) (inB t 0 256 && spanB lo hi 1000000 100000000 && inB gate 0 (gates - 1))) = 3 := by rw [h0, c0, c1, c2]; rfl
          rw [e, val_no, val_no]
          exact Band_no2 nm x y z rose gates step width t lo hi gate w hs h0 hg1 hg2 c0 c1 c2
        · have e : (codeE (siteC nm x y z rose gates step width) (inB t 0 256 && spanB lo hi 1000000 100000000 && inB gate 0 (gates - 1))) = 0 := by rw [h0, c0, c1, c2]; rfl
          rw [e, val_ok, val_ok]
          exact Band_ok nm x y z rose gates step width t lo hi gate w hs h0 hk c0 c1 c2
  · rw [codeE_err h0, val_err h0, val_err h0]
    exact Band_err nm x y z rose gates step width t lo hi gate w hs (bne_iff_ne.2 h0)

set_option maxHeartbeats 1600000 in
theorem refBand_err (nm : ByteArray) (x y z rose gates step width : Int) (t lo hi gate : Int) (w : World) (hs : nm.size ≤ maxLen) (hne : (siteC nm x y z rose gates step width != 0) = true) :
    Calls Try.prog 34 #[.agg #[.string nm, .int .i64 x, .int .i64 y, .int .i64 z, .int .i64 rose, .int .i64 gates, .int .i64 step, .int .i64 width], .int .i64 t, .agg #[.int .i64 lo, .int .i64 hi], .int .i64 gate] w
      fun e w' => e = .returned (.tuple #[.agg #[.int .i64 0, .int .i64 0], .int .i64 (siteC nm x y z rose gates step width)]) ∧ Below w.heap.size w w' := by
  have HS := Lib.hid hs
  clear hs
  go_enter Try.func34, Try.ntmps34
  go_wp2_with fail
  refine (refCheckSite_any _ _ _ _ _ _ _ _ _ HS.out).mono ?_; rintro e w1 ⟨rfl, hb1⟩
  have T1 := (Three.new w nm x y z rose gates step width lo hi (.int .i64 0) (.int .i64 0) 43 43).keep hb1 (by simp only [World.size_alloc]; omega)
  clear hb1
  obtain ⟨⟨k0, k1, k2, k3, k4, k5, k6, k7⟩, ⟨p0, p1⟩, ⟨o0, o1, f0, f1⟩, hz, hbw⟩ := T1
  go_wp2
  exact bodyPost_ret (v := .tuple #[.agg #[.int .i64 0, .int .i64 0], .int .i64 (siteC nm x y z rose gates step width)]) (by simp [results, Try.results34, go_sem, o0, o1]) rfl ⟨rfl, Below.setCell (Below.setCell hbw (by dsimp only; omega) _) (by dsimp only; omega) _⟩

set_option maxHeartbeats 1600000 in
theorem refBand_no0 (nm : ByteArray) (x y z rose gates step width : Int) (t lo hi gate : Int) (w : World) (hs : nm.size ≤ maxLen) (h0 : siteC nm x y z rose gates step width = 0) (hg1 : 1 ≤ gates) (hg2 : gates ≤ 200) (c0 : inB t 0 256 = false) :
    Calls Try.prog 34 #[.agg #[.string nm, .int .i64 x, .int .i64 y, .int .i64 z, .int .i64 rose, .int .i64 gates, .int .i64 step, .int .i64 width], .int .i64 t, .agg #[.int .i64 lo, .int .i64 hi], .int .i64 gate] w
      fun e w' => e = .returned (.tuple #[.agg #[.int .i64 0, .int .i64 0], .int .i64 3]) ∧ Below w.heap.size w w' := by
  have HS := Lib.hid hs
  have H0 := Lib.hid h0
  clear hs h0
  go_enter Try.func34, Try.ntmps34
  go_wp2_with fail
  refine (refCheckSite_any _ _ _ _ _ _ _ _ _ HS.out).mono ?_; rintro e w1 ⟨rfl, hb1⟩
  have T1 := (Three.new w nm x y z rose gates step width lo hi (.int .i64 0) (.int .i64 0) 43 43).keep hb1 (by simp only [World.size_alloc]; omega)
  clear hb1
  rw [H0.out]
  obtain ⟨⟨k0, k1, k2, k3, k4, k5, k6, k7⟩, ⟨p0, p1⟩, ⟨o0, o1, f0, f1⟩, hz, hbw⟩ := T1
  go_wp2_with fail
  refine (refIn_any _ _ _ _).mono ?_; rintro e w' ⟨rfl, rfl⟩
  go_wp2
  exact bodyPost_ret (v := .tuple #[.agg #[.int .i64 0, .int .i64 0], .int .i64 3]) (by simp [results, Try.results34, go_sem, o0, o1]) rfl ⟨rfl, Below.setCell (Below.setCell hbw (by dsimp only; omega) _) (by dsimp only; omega) _⟩

set_option maxHeartbeats 1600000 in
theorem refBand_no1 (nm : ByteArray) (x y z rose gates step width : Int) (t lo hi gate : Int) (w : World) (hs : nm.size ≤ maxLen) (h0 : siteC nm x y z rose gates step width = 0) (hg1 : 1 ≤ gates) (hg2 : gates ≤ 200) (c0 : inB t 0 256 = true) (c1 : spanB lo hi 1000000 100000000 = false) :
    Calls Try.prog 34 #[.agg #[.string nm, .int .i64 x, .int .i64 y, .int .i64 z, .int .i64 rose, .int .i64 gates, .int .i64 step, .int .i64 width], .int .i64 t, .agg #[.int .i64 lo, .int .i64 hi], .int .i64 gate] w
      fun e w' => e = .returned (.tuple #[.agg #[.int .i64 0, .int .i64 0], .int .i64 3]) ∧ Below w.heap.size w w' := by
  have HS := Lib.hid hs
  have H0 := Lib.hid h0
  clear hs h0
  go_enter Try.func34, Try.ntmps34
  go_wp2_with fail
  refine (refCheckSite_any _ _ _ _ _ _ _ _ _ HS.out).mono ?_; rintro e w1 ⟨rfl, hb1⟩
  have T1 := (Three.new w nm x y z rose gates step width lo hi (.int .i64 0) (.int .i64 0) 43 43).keep hb1 (by simp only [World.size_alloc]; omega)
  clear hb1
  rw [H0.out]
  obtain ⟨⟨k0, k1, k2, k3, k4, k5, k6, k7⟩, ⟨p0, p1⟩, ⟨o0, o1, f0, f1⟩, hz, hbw⟩ := T1
  go_wp2_with fail
  refine (refIn_any _ _ _ _).mono ?_; rintro e w' ⟨rfl, rfl⟩
  go_wp2_with fail
  refine (Earth_any _ _ _).mono ?_; rintro e w2 ⟨rfl, hb2⟩
  have T2 := (⟨⟨k0, k1, k2, k3, k4, k5, k6, k7⟩, ⟨p0, p1⟩, ⟨o0, o1, f0, f1⟩, hz, hbw⟩ : Three w w1 nm x y z rose gates step width lo hi).keep hb2 (by omega)
  clear k0 k1 k2 k3 k4 k5 k6 k7 o0 o1 f0 f1 hz hbw p0 p1
  clear hb2
  obtain ⟨⟨k0, k1, k2, k3, k4, k5, k6, k7⟩, ⟨p0, p1⟩, ⟨o0, o1, f0, f1⟩, hz, hbw⟩ := T2
  go_wp2
  exact bodyPost_ret (v := .tuple #[.agg #[.int .i64 0, .int .i64 0], .int .i64 3]) (by simp [results, Try.results34, go_sem, o0, o1]) rfl ⟨rfl, Below.setCell (Below.setCell hbw (by dsimp only; omega) _) (by dsimp only; omega) _⟩

set_option maxHeartbeats 1600000 in
theorem refBand_no2 (nm : ByteArray) (x y z rose gates step width : Int) (t lo hi gate : Int) (w : World) (hs : nm.size ≤ maxLen) (h0 : siteC nm x y z rose gates step width = 0) (hg1 : 1 ≤ gates) (hg2 : gates ≤ 200) (c0 : inB t 0 256 = true) (c1 : spanB lo hi 1000000 100000000 = true) (c2 : inB gate 0 (gates - 1) = false) :
    Calls Try.prog 34 #[.agg #[.string nm, .int .i64 x, .int .i64 y, .int .i64 z, .int .i64 rose, .int .i64 gates, .int .i64 step, .int .i64 width], .int .i64 t, .agg #[.int .i64 lo, .int .i64 hi], .int .i64 gate] w
      fun e w' => e = .returned (.tuple #[.agg #[.int .i64 0, .int .i64 0], .int .i64 3]) ∧ Below w.heap.size w w' := by
  have HS := Lib.hid hs
  have H0 := Lib.hid h0
  clear hs h0
  go_enter Try.func34, Try.ntmps34
  go_wp2_with fail
  refine (refCheckSite_any _ _ _ _ _ _ _ _ _ HS.out).mono ?_; rintro e w1 ⟨rfl, hb1⟩
  have T1 := (Three.new w nm x y z rose gates step width lo hi (.int .i64 0) (.int .i64 0) 43 43).keep hb1 (by simp only [World.size_alloc]; omega)
  clear hb1
  rw [H0.out]
  obtain ⟨⟨k0, k1, k2, k3, k4, k5, k6, k7⟩, ⟨p0, p1⟩, ⟨o0, o1, f0, f1⟩, hz, hbw⟩ := T1
  go_wp2_with fail
  refine (refIn_any _ _ _ _).mono ?_; rintro e w' ⟨rfl, rfl⟩
  go_wp2_with fail
  refine (Earth_any _ _ _).mono ?_; rintro e w2 ⟨rfl, hb2⟩
  have T2 := (⟨⟨k0, k1, k2, k3, k4, k5, k6, k7⟩, ⟨p0, p1⟩, ⟨o0, o1, f0, f1⟩, hz, hbw⟩ : Three w w1 nm x y z rose gates step width lo hi).keep hb2 (by omega)
  clear k0 k1 k2 k3 k4 k5 k6 k7 o0 o1 f0 f1 hz hbw p0 p1
  clear hb2
  obtain ⟨⟨k0, k1, k2, k3, k4, k5, k6, k7⟩, ⟨p0, p1⟩, ⟨o0, o1, f0, f1⟩, hz, hbw⟩ := T2
  go_wp2_with fail
  refine (refIn_any _ _ _ _).mono ?_; rintro e w' ⟨rfl, rfl⟩
  go_wp2
  exact bodyPost_ret (v := .tuple #[.agg #[.int .i64 0, .int .i64 0], .int .i64 3]) (by simp [results, Try.results34, go_sem, o0, o1]) rfl ⟨rfl, Below.setCell (Below.setCell hbw (by dsimp only; omega) _) (by dsimp only; omega) _⟩

set_option maxHeartbeats 3200000 in
theorem refBand_ok (nm : ByteArray) (x y z rose gates step width : Int) (t lo hi gate : Int) (w : World) (hs : nm.size ≤ maxLen) (h0 : siteC nm x y z rose gates step width = 0) (hk : SiteOk x y z rose gates step width) (c0 : inB t 0 256 = true) (c1 : spanB lo hi 1000000 100000000 = true) (c2 : inB gate 0 (gates - 1) = true) :
    Calls Try.prog 34 #[.agg #[.string nm, .int .i64 x, .int .i64 y, .int .i64 z, .int .i64 rose, .int .i64 gates, .int .i64 step, .int .i64 width], .int .i64 t, .agg #[.int .i64 lo, .int .i64 hi], .int .i64 gate] w
      fun e w' => e = .returned (.tuple #[.agg #[.int .i64 (climbLo z step (t - width) gate hi), .int .i64 (climbHi z step (t + width) gate lo)], .int .i64 0]) ∧ Below w.heap.size w w' := by
  have HS := Lib.hid hs
  have H0 := Lib.hid h0
  obtain ⟨x1, x2, y1, y2, z1, z2, r1, r2, hg1, hg2, s1, s2, d1, d2⟩ := hk
  obtain ⟨t1, t2⟩ := inB_true.1 c0
  obtain ⟨g1, g3⟩ := inB_gate c2
  obtain ⟨e1, e0, e4⟩ := spanB_true.1 c1
  clear hs h0
  go_enter Try.func34, Try.ntmps34
  go_wp2_with fail
  refine (refCheckSite_any _ _ _ _ _ _ _ _ _ HS.out).mono ?_; rintro e w1 ⟨rfl, hb1⟩
  have T1 := (Three.new w nm x y z rose gates step width lo hi (.int .i64 0) (.int .i64 0) 43 43).keep hb1 (by simp only [World.size_alloc]; omega)
  clear hb1
  rw [H0.out]
  obtain ⟨⟨k0, k1, k2, k3, k4, k5, k6, k7⟩, ⟨p0, p1⟩, ⟨o0, o1, f0, f1⟩, hz, hbw⟩ := T1
  go_wp2_with fail
  refine (refIn_any _ _ _ _).mono ?_; rintro e w' ⟨rfl, rfl⟩
  go_wp2_with fail
  refine (Earth_any _ _ _).mono ?_; rintro e w2 ⟨rfl, hb2⟩
  have T2 := (⟨⟨k0, k1, k2, k3, k4, k5, k6, k7⟩, ⟨p0, p1⟩, ⟨o0, o1, f0, f1⟩, hz, hbw⟩ : Three w w1 nm x y z rose gates step width lo hi).keep hb2 (by omega)
  clear k0 k1 k2 k3 k4 k5 k6 k7 o0 o1 f0 f1 hz hbw p0 p1
  clear hb2
  obtain ⟨⟨k0, k1, k2, k3, k4, k5, k6, k7⟩, ⟨p0, p1⟩, ⟨o0, o1, f0, f1⟩, hz, hbw⟩ := T2
  go_wp2_with fail
  refine (refIn_any _ _ _ _).mono ?_; rintro e w' ⟨rfl, rfl⟩
  have q1 : IntKind.i64.wrap (t - width) = t - width := IntWalk.i64_in _ (by omega)
  have q2 : IntKind.i64.wrap (t + width) = t + width := IntWalk.i64_in _ (by omega)
  have hfd0 := fld0
  have hfd1 := fld1
  go_wp2_with fail
  go_region_held3 (fun w' => w'.cell? ⟨w.heap.size, 0, none⟩ = some (.string nm) ∧ w'.cell? ⟨w.heap.size, 1, none⟩ = some (.int .i64 x) ∧ w'.cell? ⟨w.heap.size, 2, none⟩ = some (.int .i64 y) ∧ w'.cell? ⟨w.heap.size, 3, none⟩ = some (.int .i64 z) ∧ w'.cell? ⟨w.heap.size, 4, none⟩ = some (.int .i64 rose) ∧ w'.cell? ⟨w.heap.size, 5, none⟩ = some (.int .i64 gates) ∧ w'.cell? ⟨w.heap.size, 6, none⟩ = some (.int .i64 step) ∧ w'.cell? ⟨w.heap.size, 7, none⟩ = some (.int .i64 width) ∧ w'.cell? ⟨w.heap.size + 1, 0, none⟩ = some (.int .i64 lo) ∧ w'.cell? ⟨w.heap.size + 1, 1, none⟩ = some (.int .i64 hi) ∧ w'.cell? ⟨w.heap.size + 1 + 1, 0, none⟩ = some (cellAt w' ⟨w.heap.size + 1 + 1, 0, none⟩) ∧ w'.cell? ⟨w.heap.size + 1 + 1, 1, none⟩ = some (cellAt w' ⟨w.heap.size + 1 + 1, 1, none⟩) ∧ w'.frozen? ⟨w.heap.size + 1 + 1, 0, none⟩ = false ∧ w'.frozen? ⟨w.heap.size + 1 + 1, 1, none⟩ = false ∧ w.heap.size + 3 ≤ w'.heap.size ∧ Below w.heap.size w w')
    (first | exact ⟨k0, k1, k2, k3, k4, k5, k6, k7, p0, p1, o0, o1, f0, f1, hz, hbw.drew⟩ | (go_split_ands; refine ⟨?_, ?_, ?_, ?_, ?_, ?_, ?_, ?_, ?_, ?_, ?_, ?_, ?_, ?_, ?_, ?_⟩ <;> first | exact keepB hb4 (by omega) (by assumption) | exact keepA hb4 (by omega) (by assumption) | exact keepF hb4 (by omega) (by assumption) | (have := hb4.size; omega) | exact Below.trans (by assumption) (hb4.mono (by omega)) | (refine Below.setCell (Below.setCell ?_ ?_ _) ?_ _; (assumption); (dsimp only; omega); (dsimp only; omega)) | exact cellAt_set (cellAt_set (by assumption)) | (rw [World.cell?_setCell_far _ _ _ _ (by dsimp only; omega), World.cell?_setCell_far _ _ _ _ (by dsimp only; omega)]; assumption) | (simp; assumption) | (simp; omega)))
    (first | (go_at_call_of 74 (Value.int IntKind.i64 (t - width)); refine (refheight_any _ _ _ _ _ _ _ _ (t - width) lo hi gate _ (by omega) (by omega) s1 s2 g1 (by omega) z1 z2 e1 (by omega) (by omega) e4).mono ?_; rintro e w4 ⟨rfl, hb4⟩) | (go_at_call 74; refine (refheight_any _ _ _ _ _ _ _ _ (t + width) lo hi gate _ (by omega) (by omega) s1 s2 g1 (by omega) z1 z2 e1 (by omega) (by omega) e4).mono ?_; rintro e w4 ⟨rfl, hb4⟩))
  clear o0 o1 f0 f1
  go_split_ands
  have hp := pair_read (by assumption) (by assumption)
  obtain ⟨hp0, hp1⟩ := hp
  go_wp2
  exact bodyPost_ret (v := .tuple #[.agg #[.int .i64 (climbLo z step (t - width) gate hi), .int .i64 (climbHi z step (t + width) gate lo)], .int .i64 0]) (by simp [results, Try.results34, go_sem, hp0, hp1]) rfl ⟨rfl, by assumption⟩

theorem refBand_any (nm : ByteArray) (x y z rose gates step width : Int) (t lo hi gate : Int) (w : World) (hs : nm.size ≤ maxLen) :
    Calls Try.prog 34 #[.agg #[.string nm, .int .i64 x, .int .i64 y, .int .i64 z, .int .i64 rose, .int .i64 gates, .int .i64 step, .int .i64 width], .int .i64 t, .agg #[.int .i64 lo, .int .i64 hi], .int .i64 gate] w
      fun e w' => e = .returned (.tuple #[.agg #[.int .i64 (val (codeE (siteC nm x y z rose gates step width) (inB t 0 256 && spanB lo hi 1000000 100000000 && inB gate 0 (gates - 1))) (climbLo z step (t - width) gate hi)), .int .i64 (val (codeE (siteC nm x y z rose gates step width) (inB t 0 256 && spanB lo hi 1000000 100000000 && inB gate 0 (gates - 1))) (climbHi z step (t + width) gate lo))], .int .i64 (codeE (siteC nm x y z rose gates step width) (inB t 0 256 && spanB lo hi 1000000 100000000 && inB gate 0 (gates - 1)))]) ∧ Below w.heap.size w w' := by
  by_cases h0 : siteC nm x y z rose gates step width = 0
  · have hk := (siteC_zero.1 h0).2
    have hg1 := hk.g1
    have hg2 := hk.g2
    rcases (Bool.eq_false_or_eq_true (inB t 0 256)).symm with c0 | c0
    · have e : (codeE (siteC nm x y z rose gates step width) (inB t 0 256 && spanB lo hi 1000000 100000000 && inB gate 0 (gates - 1))) = 3 := by rw [h0, c0]; rfl
      rw [e, val_no, val_no]
      exact refBand_no0 nm x y z rose gates step width t lo hi gate w hs h0 hg1 hg2 c0
    · have _u := hg1
      rcases (Bool.eq_false_or_eq_true (spanB lo hi 1000000 100000000)).symm with c1 | c1
      · have e : (codeE (siteC nm x y z rose gates step width) (inB t 0 256 && spanB lo hi 1000000 100000000 && inB gate 0 (gates - 1))) = 3 := by rw [h0, c0, c1]; rfl
        rw [e, val_no, val_no]
        exact refBand_no1 nm x y z rose gates step width t lo hi gate w hs h0 hg1 hg2 c0 c1
      · have _u := hg1
        rcases (Bool.eq_false_or_eq_true (inB gate 0 (gates - 1))).symm with c2 | c2
        · have e : (codeE (siteC nm x y z rose gates step width) (inB t 0 256 && spanB lo hi 1000000 100000000 && inB gate 0 (gates - 1))) = 3 := by rw [h0, c0, c1, c2]; rfl
          rw [e, val_no, val_no]
          exact refBand_no2 nm x y z rose gates step width t lo hi gate w hs h0 hg1 hg2 c0 c1 c2
        · have e : (codeE (siteC nm x y z rose gates step width) (inB t 0 256 && spanB lo hi 1000000 100000000 && inB gate 0 (gates - 1))) = 0 := by rw [h0, c0, c1, c2]; rfl
          rw [e, val_ok, val_ok]
          exact refBand_ok nm x y z rose gates step width t lo hi gate w hs h0 hk c0 c1 c2
  · rw [codeE_err h0, val_err h0, val_err h0]
    exact refBand_err nm x y z rose gates step width t lo hi gate w hs (bne_iff_ne.2 h0)

end Go.Proofs.Ythnjfnapjpdchaa
