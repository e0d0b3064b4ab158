/-
  What Place answers, in the code and in the reference.
-/
import Derived.Test.YthnjfnapjpdchaaKm9
import Derived.Test.YthnjfnapjpdchaaKm14
import Derived.Test.YthnjfnapjpdchaaKm13
import Derived.Test.YthnjfnapjpdchaaKm5
namespace Go.Proofs.Ythnjfnapjpdchaa
open Go.RowKit
set_option linter.unusedVariables false

theorem Down_q (a b : Int) (w : World) (hb : 1 ≤ b) (ha1 : -1000000000000000 ≤ a) (ha2 : a ≤ 1000000000000000) :
    Calls Try.prog 77 #[.int .i64 a, .int .i64 b] w fun e w' => e = .returned (.int .i64 (a / b)) ∧ w' = w :=
  (Down_any a b w hb ha1 ha2).mono fun _ _ h => ⟨h.1, h.2.symm⟩

/-- a site in a box (of what is called first) -/
theorem site_keep {w w1 : World} {nm : ByteArray} {x y z rose gates step width : Int} {T : TypeId} (hb : Below (w.alloc (.cells #[.string nm, .int .i64 x, .int .i64 y, .int .i64 z, .int .i64 rose, .int .i64 gates, .int .i64 step, .int .i64 width] 23)).heap.size (w.alloc (.cells #[.string nm, .int .i64 x, .int .i64 y, .int .i64 z, .int .i64 rose, .int .i64 gates, .int .i64 step, .int .i64 width] 23)) w1) :
    SiteAt w1 w.heap.size nm x y z rose gates step width ∧ w.heap.size + 1 ≤ w1.heap.size ∧ Below w.heap.size w w1 :=
  ⟨(SiteAt.new w nm x y z rose gates step width).keep hb (by simp), by have := hb.size; simp at this; omega, Below.trans (below_alloc _ _) (hb.mono (by simp))⟩

set_option maxHeartbeats 1600000 in
theorem Place_err (nm : ByteArray) (x y z rose gates step width : Int) (t ray gate : Int) (w : World) (hs : nm.size ≤ maxLen) (hne : (siteC nm x y z rose gates step width != 0) = true) :
    Calls Try.prog 36 #[.agg #[.string nm, .int .i64 x, .int .i64 y, .int .i64 z, .int .i64 rose, .int .i64 gates, .int .i64 step, .int .i64 width], .int .i64 t, .int .i64 ray, .int .i64 gate] w fun e w' => e = .returned (.tuple #[.int .i64 0, .int .i64 0, .int .i64 (siteC nm x y z rose gates step width)]) ∧ Below w.heap.size w w' := by
  have HS := Lib.hid hs
  clear hs
  go_enter Try.func36, Try.ntmps36
  go_wp2_with fail
  refine (CheckSite_any _ _ _ _ _ _ _ _ _ HS.out).mono ?_; rintro e w1 ⟨rfl, hb1⟩
  obtain ⟨⟨k0, k1, k2, k3, k4, k5, k6, k7⟩, hz, hbw⟩ := site_keep (T := 23) hb1
  clear hb1
  go_wp2
  go_ret3
  exact ⟨rfl, hbw⟩

set_option maxHeartbeats 1600000 in
theorem Place_no0 (nm : ByteArray) (x y z rose gates step width : Int) (t ray gate : Int) (w : World) (hs : nm.size ≤ maxLen) (h0 : siteC nm x y z rose gates step width = 0) (hk : SiteOk x y z rose gates step width) (c0 : inB t 0 256 = false) :
    Calls Try.prog 36 #[.agg #[.string nm, .int .i64 x, .int .i64 y, .int .i64 z, .int .i64 rose, .int .i64 gates, .int .i64 step, .int .i64 width], .int .i64 t, .int .i64 ray, .int .i64 gate] w fun e w' => e = .returned (.tuple #[.int .i64 0, .int .i64 0, .int .i64 3]) ∧ Below w.heap.size w w' := by
  have br1 := hk.r1
  have br2 := hk.r2
  have bg1 := hk.g1
  have bg2 := hk.g2
  have HS := Lib.hid hs
  have H0 := Lib.hid h0
  clear hs h0
  go_enter Try.func36, Try.ntmps36
  go_wp2_with fail
  refine (CheckSite_any _ _ _ _ _ _ _ _ _ HS.out).mono ?_; rintro e w1 ⟨rfl, hb1⟩
  obtain ⟨⟨k0, k1, k2, k3, k4, k5, k6, k7⟩, hz, hbw⟩ := site_keep (T := 23) hb1
  clear hb1
  rw [H0.out]
  go_wp2_with fail
  refine (isTilt_any _ _).mono ?_; rintro e w' ⟨rfl, rfl⟩
  go_wp2
  go_ret3
  exact ⟨rfl, hbw⟩

set_option maxHeartbeats 1600000 in
theorem Place_no1 (nm : ByteArray) (x y z rose gates step width : Int) (t ray gate : Int) (w : World) (hs : nm.size ≤ maxLen) (h0 : siteC nm x y z rose gates step width = 0) (hk : SiteOk x y z rose gates step width) (c0 : inB t 0 256 = true) (c1 : inB ray 0 (4 * rose - 1) = false) :
    Calls Try.prog 36 #[.agg #[.string nm, .int .i64 x, .int .i64 y, .int .i64 z, .int .i64 rose, .int .i64 gates, .int .i64 step, .int .i64 width], .int .i64 t, .int .i64 ray, .int .i64 gate] w fun e w' => e = .returned (.tuple #[.int .i64 0, .int .i64 0, .int .i64 3]) ∧ Below w.heap.size w w' := by
  have br1 := hk.r1
  have br2 := hk.r2
  have bg1 := hk.g1
  have bg2 := hk.g2
  have HS := Lib.hid hs
  have H0 := Lib.hid h0
  clear hs h0
  go_enter Try.func36, Try.ntmps36
  go_wp2_with fail
  refine (CheckSite_any _ _ _ _ _ _ _ _ _ HS.out).mono ?_; rintro e w1 ⟨rfl, hb1⟩
  obtain ⟨⟨k0, k1, k2, k3, k4, k5, k6, k7⟩, hz, hbw⟩ := site_keep (T := 23) hb1
  clear hb1
  rw [H0.out]
  go_wp2_with fail
  refine (isTilt_any _ _).mono ?_; rintro e w' ⟨rfl, rfl⟩
  go_wp2_with fail
  refine (isRay_any _ _ _ _ _ _ _ _ _ _ hk.r1 hk.r2).mono ?_; rintro e w2 ⟨rfl, hb2⟩
  have S2 : SiteAt w2 w.heap.size nm x y z rose gates step width := SiteAt.keep ⟨k0, k1, k2, k3, k4, k5, k6, k7⟩ hb2 (by omega)
  have hz2 : w.heap.size + 1 ≤ w2.heap.size := Nat.le_trans (by assumption) hb2.size
  have hbw := hbw.trans (hb2.mono (by omega))
  clear k0 k1 k2 k3 k4 k5 k6 k7
  obtain ⟨k0, k1, k2, k3, k4, k5, k6, k7⟩ := S2
  go_wp2
  go_ret3
  exact ⟨rfl, hbw⟩

set_option maxHeartbeats 1600000 in
theorem Place_no2 (nm : ByteArray) (x y z rose gates step width : Int) (t ray gate : Int) (w : World) (hs : nm.size ≤ maxLen) (h0 : siteC nm x y z rose gates step width = 0) (hk : SiteOk x y z rose gates step width) (c0 : inB t 0 256 = true) (c1 : inB ray 0 (4 * rose - 1) = true) (c2 : inB gate 0 (gates - 1) = false) :
    Calls Try.prog 36 #[.agg #[.string nm, .int .i64 x, .int .i64 y, .int .i64 z, .int .i64 rose, .int .i64 gates, .int .i64 step, .int .i64 width], .int .i64 t, .int .i64 ray, .int .i64 gate] w fun e w' => e = .returned (.tuple #[.int .i64 0, .int .i64 0, .int .i64 3]) ∧ Below w.heap.size w w' := by
  have br1 := hk.r1
  have br2 := hk.r2
  have bg1 := hk.g1
  have bg2 := hk.g2
  have HS := Lib.hid hs
  have H0 := Lib.hid h0
  clear hs h0
  go_enter Try.func36, Try.ntmps36
  go_wp2_with fail
  refine (CheckSite_any _ _ _ _ _ _ _ _ _ HS.out).mono ?_; rintro e w1 ⟨rfl, hb1⟩
  obtain ⟨⟨k0, k1, k2, k3, k4, k5, k6, k7⟩, hz, hbw⟩ := site_keep (T := 23) hb1
  clear hb1
  rw [H0.out]
  go_wp2_with fail
  refine (isTilt_any _ _).mono ?_; rintro e w' ⟨rfl, rfl⟩
  go_wp2_with fail
  refine (isRay_any _ _ _ _ _ _ _ _ _ _ hk.r1 hk.r2).mono ?_; rintro e w2 ⟨rfl, hb2⟩
  have S2 : SiteAt w2 w.heap.size nm x y z rose gates step width := SiteAt.keep ⟨k0, k1, k2, k3, k4, k5, k6, k7⟩ hb2 (by omega)
  have hz2 : w.heap.size + 1 ≤ w2.heap.size := Nat.le_trans (by assumption) hb2.size
  have hbw := hbw.trans (hb2.mono (by omega))
  clear k0 k1 k2 k3 k4 k5 k6 k7
  obtain ⟨k0, k1, k2, k3, k4, k5, k6, k7⟩ := S2
  go_wp2_with fail
  refine (isGate_any _ _ _ _ _ _ _ _ _ _ hk.g1 hk.g2).mono ?_; rintro e w3 ⟨rfl, hb3⟩
  have S3 : SiteAt w3 w.heap.size nm x y z rose gates step width := SiteAt.keep ⟨k0, k1, k2, k3, k4, k5, k6, k7⟩ hb3 (by omega)
  have hz3 : w.heap.size + 1 ≤ w3.heap.size := Nat.le_trans (by assumption) hb3.size
  have hbw := hbw.trans (hb3.mono (by omega))
  clear k0 k1 k2 k3 k4 k5 k6 k7
  obtain ⟨k0, k1, k2, k3, k4, k5, k6, k7⟩ := S3
  go_wp2
  go_ret3
  exact ⟨rfl, hbw⟩

set_option maxRecDepth 100000 in
set_option maxHeartbeats 3200000 in
theorem Place_ok (nm : ByteArray) (x y z rose gates step width : Int) (t ray gate : Int) (w : World) (hs : nm.size ≤ maxLen) (h0 : siteC nm x y z rose gates step width = 0) (hk : SiteOk x y z rose gates step width) (c0 : inB t 0 256 = true) (c1 : inB ray 0 (4 * rose - 1) = true) (c2 : inB gate 0 (gates - 1) = true) :
    Calls Try.prog 36 #[.agg #[.string nm, .int .i64 x, .int .i64 y, .int .i64 z, .int .i64 rose, .int .i64 gates, .int .i64 step, .int .i64 width], .int .i64 t, .int .i64 ray, .int .i64 gate] w fun e w' => e = .returned (.tuple #[.int .i64 (plX x rose step t ray gate), .int .i64 (plY y rose step t ray gate), .int .i64 0]) ∧ Below w.heap.size w w' := by
  obtain ⟨t1, t2⟩ := inB_true.1 c0
  obtain ⟨r1, r2⟩ := inB_true.1 c1
  obtain ⟨g1, g2⟩ := inB_true.1 c2
  have br1 := hk.r1
  have br2 := hk.r2
  have bg1 := hk.g1
  have bg2 := hk.g2
  have HS := Lib.hid hs
  have H0 := Lib.hid h0
  clear hs h0
  go_enter Try.func36, Try.ntmps36
  go_wp2_with fail
  refine (CheckSite_any _ _ _ _ _ _ _ _ _ HS.out).mono ?_; rintro e w1 ⟨rfl, hb1⟩
  obtain ⟨⟨k0, k1, k2, k3, k4, k5, k6, k7⟩, hz, hbw⟩ := site_keep (T := 23) hb1
  clear hb1
  rw [H0.out]
  go_wp2_with fail
  refine (isTilt_any _ _).mono ?_; rintro e w' ⟨rfl, rfl⟩
  go_wp2_with fail
  refine (isRay_any _ _ _ _ _ _ _ _ _ _ hk.r1 hk.r2).mono ?_; rintro e w2 ⟨rfl, hb2⟩
  have S2 : SiteAt w2 w.heap.size nm x y z rose gates step width := SiteAt.keep ⟨k0, k1, k2, k3, k4, k5, k6, k7⟩ hb2 (by omega)
  have hz2 : w.heap.size + 1 ≤ w2.heap.size := Nat.le_trans (by assumption) hb2.size
  have hbw := hbw.trans (hb2.mono (by omega))
  clear k0 k1 k2 k3 k4 k5 k6 k7
  obtain ⟨k0, k1, k2, k3, k4, k5, k6, k7⟩ := S2
  go_wp2_with fail
  refine (isGate_any _ _ _ _ _ _ _ _ _ _ hk.g1 hk.g2).mono ?_; rintro e w3 ⟨rfl, hb3⟩
  have S3 : SiteAt w3 w.heap.size nm x y z rose gates step width := SiteAt.keep ⟨k0, k1, k2, k3, k4, k5, k6, k7⟩ hb3 (by omega)
  have hz3 : w.heap.size + 1 ≤ w3.heap.size := Nat.le_trans (by assumption) hb3.size
  have hbw := hbw.trans (hb3.mono (by omega))
  clear k0 k1 k2 k3 k4 k5 k6 k7
  obtain ⟨k0, k1, k2, k3, k4, k5, k6, k7⟩ := S3
  go_wp2_with fail
  refine (place_any _ _ _ _ _ _ _ _ _ _ _ _ hk t1 t2 r1 (by omega) g1 (by omega)).mono ?_; rintro e w4 ⟨rfl, hb4⟩
  have hbw := hbw.trans (hb4.mono (by omega))
  have hz4 := hb4.size
  go_wp2
  go_quiet (fail)
  go_wp2
  exact bodyPost_ret (v := .tuple #[.int .i64 (plX x rose step t ray gate), .int .i64 (plY y rose step t ray gate), .int .i64 0]) (by simp [results, Try.results36, go_sem, plX, plY]) rfl ⟨rfl, by repeat (first | exact hbw | (refine below_drewN ?_ _) | (refine Below.alloc ?_ (by omega) _))⟩

theorem Place_any (nm : ByteArray) (x y z rose gates step width : Int) (t ray gate : Int) (w : World) (hs : nm.size ≤ maxLen) :
    Calls Try.prog 36 #[.agg #[.string nm, .int .i64 x, .int .i64 y, .int .i64 z, .int .i64 rose, .int .i64 gates, .int .i64 step, .int .i64 width], .int .i64 t, .int .i64 ray, .int .i64 gate] w fun e w' => e = .returned (.tuple #[.int .i64 (val (codeE (siteC nm x y z rose gates step width) (inB t 0 256 && inB ray 0 (4 * rose - 1) && inB gate 0 (gates - 1))) (plX x rose step t ray gate)), .int .i64 (val (codeE (siteC nm x y z rose gates step width) (inB t 0 256 && inB ray 0 (4 * rose - 1) && inB gate 0 (gates - 1))) (plY y rose step t ray gate)), .int .i64 (codeE (siteC nm x y z rose gates step width) (inB t 0 256 && inB ray 0 (4 * rose - 1) && inB gate 0 (gates - 1)))]) ∧ Below w.heap.size w w' := by
  by_cases h0 : siteC nm x y z rose gates step width = 0
  · have hk := (siteC_zero.1 h0).2
    rcases (Bool.eq_false_or_eq_true (inB t 0 256)).symm with c0 | c0
    · have e : (codeE (siteC nm x y z rose gates step width) (inB t 0 256 && inB ray 0 (4 * rose - 1) && inB gate 0 (gates - 1))) = 3 := by rw [h0, c0]; rfl
      rw [e, val_no, val_no]
      exact Place_no0 nm x y z rose gates step width t ray gate w hs h0 hk c0
    · rcases (Bool.eq_false_or_eq_true (inB ray 0 (4 * rose - 1))).symm with c1 | c1
      · have e : (codeE (siteC nm x y z rose gates step width) (inB t 0 256 && inB ray 0 (4 * rose - 1) && inB gate 0 (gates - 1))) = 3 := by rw [h0, c0, c1]; rfl
        rw [e, val_no, val_no]
        exact Place_no1 nm x y z rose gates step width t ray gate w hs h0 hk c0 c1
      · rcases (Bool.eq_false_or_eq_true (inB gate 0 (gates - 1))).symm with c2 | c2
        · have e : (codeE (siteC nm x y z rose gates step width) (inB t 0 256 && inB ray 0 (4 * rose - 1) && inB gate 0 (gates - 1))) = 3 := by rw [h0, c0, c1, c2]; rfl
          rw [e, val_no, val_no]
          exact Place_no2 nm x y z rose gates step width t ray gate w hs h0 hk c0 c1 c2
        · have e : (codeE (siteC nm x y z rose gates step width) (inB t 0 256 && inB ray 0 (4 * rose - 1) && inB gate 0 (gates - 1))) = 0 := by rw [h0, c0, c1, c2]; rfl
          rw [e, val_ok, val_ok]
          exact Place_ok nm x y z rose gates step width t ray gate w hs h0 hk c0 c1 c2
  · rw [codeE_err h0, val_err h0, val_err h0]
    exact Place_err nm x y z rose gates step width t ray gate w hs (bne_iff_ne.2 h0)

set_option maxHeartbeats 1600000 in
theorem refPlace_err (nm : ByteArray) (x y z rose gates step width : Int) (t ray gate : Int) (w : World) (hs : nm.size ≤ maxLen) (hne : (siteC nm x y z rose gates step width != 0) = true) :
    Calls Try.prog 37 #[.agg #[.string nm, .int .i64 x, .int .i64 y, .int .i64 z, .int .i64 rose, .int .i64 gates, .int .i64 step, .int .i64 width], .int .i64 t, .int .i64 ray, .int .i64 gate] w fun e w' => e = .returned (.tuple #[.int .i64 0, .int .i64 0, .int .i64 (siteC nm x y z rose gates step width)]) ∧ Below w.heap.size w w' := by
  have HS := Lib.hid hs
  clear hs
  go_enter Try.func37, Try.ntmps37
  go_wp2_with fail
  refine (refCheckSite_any _ _ _ _ _ _ _ _ _ HS.out).mono ?_; rintro e w1 ⟨rfl, hb1⟩
  obtain ⟨⟨k0, k1, k2, k3, k4, k5, k6, k7⟩, hz, hbw⟩ := site_keep (T := 23) hb1
  clear hb1
  go_wp2
  go_ret3
  exact ⟨rfl, hbw⟩

set_option maxHeartbeats 1600000 in
theorem refPlace_no0 (nm : ByteArray) (x y z rose gates step width : Int) (t ray gate : Int) (w : World) (hs : nm.size ≤ maxLen) (h0 : siteC nm x y z rose gates step width = 0) (hk : SiteOk x y z rose gates step width) (c0 : inB t 0 256 = false) :
    Calls Try.prog 37 #[.agg #[.string nm, .int .i64 x, .int .i64 y, .int .i64 z, .int .i64 rose, .int .i64 gates, .int .i64 step, .int .i64 width], .int .i64 t, .int .i64 ray, .int .i64 gate] w fun e w' => e = .returned (.tuple #[.int .i64 0, .int .i64 0, .int .i64 3]) ∧ Below w.heap.size w w' := by
  have br1 := hk.r1
  have br2 := hk.r2
  have bg1 := hk.g1
  have bg2 := hk.g2
  have HS := Lib.hid hs
  have H0 := Lib.hid h0
  clear hs h0
  go_enter Try.func37, Try.ntmps37
  go_wp2_with fail
  refine (refCheckSite_any _ _ _ _ _ _ _ _ _ HS.out).mono ?_; rintro e w1 ⟨rfl, hb1⟩
  obtain ⟨⟨k0, k1, k2, k3, k4, k5, k6, k7⟩, hz, hbw⟩ := site_keep (T := 23) hb1
  clear hb1
  rw [H0.out]
  go_wp2_with fail
  refine (refIn_any _ _ _ _).mono ?_; rintro e w' ⟨rfl, rfl⟩
  go_wp2
  go_ret3
  exact ⟨rfl, hbw⟩

set_option maxHeartbeats 1600000 in
theorem refPlace_no1 (nm : ByteArray) (x y z rose gates step width : Int) (t ray gate : Int) (w : World) (hs : nm.size ≤ maxLen) (h0 : siteC nm x y z rose gates step width = 0) (hk : SiteOk x y z rose gates step width) (c0 : inB t 0 256 = true) (c1 : inB ray 0 (4 * rose - 1) = false) :
    Calls Try.prog 37 #[.agg #[.string nm, .int .i64 x, .int .i64 y, .int .i64 z, .int .i64 rose, .int .i64 gates, .int .i64 step, .int .i64 width], .int .i64 t, .int .i64 ray, .int .i64 gate] w fun e w' => e = .returned (.tuple #[.int .i64 0, .int .i64 0, .int .i64 3]) ∧ Below w.heap.size w w' := by
  have br1 := hk.r1
  have br2 := hk.r2
  have bg1 := hk.g1
  have bg2 := hk.g2
  have HS := Lib.hid hs
  have H0 := Lib.hid h0
  clear hs h0
  go_enter Try.func37, Try.ntmps37
  go_wp2_with fail
  refine (refCheckSite_any _ _ _ _ _ _ _ _ _ HS.out).mono ?_; rintro e w1 ⟨rfl, hb1⟩
  obtain ⟨⟨k0, k1, k2, k3, k4, k5, k6, k7⟩, hz, hbw⟩ := site_keep (T := 23) hb1
  clear hb1
  rw [H0.out]
  go_wp2_with fail
  refine (refIn_any _ _ _ _).mono ?_; rintro e w' ⟨rfl, rfl⟩
  go_wp2_with fail
  refine (refIn_any _ _ _ _).mono ?_; rintro e w' ⟨rfl, rfl⟩
  go_wp2
  go_ret3
  exact ⟨rfl, hbw⟩

set_option maxHeartbeats 1600000 in
theorem refPlace_no2 (nm : ByteArray) (x y z rose gates step width : Int) (t ray gate : Int) (w : World) (hs : nm.size ≤ maxLen) (h0 : siteC nm x y z rose gates step width = 0) (hk : SiteOk x y z rose gates step width) (c0 : inB t 0 256 = true) (c1 : inB ray 0 (4 * rose - 1) = true) (c2 : inB gate 0 (gates - 1) = false) :
    Calls Try.prog 37 #[.agg #[.string nm, .int .i64 x, .int .i64 y, .int .i64 z, .int .i64 rose, .int .i64 gates, .int .i64 step, .int .i64 width], .int .i64 t, .int .i64 ray, .int .i64 gate] w fun e w' => e = .returned (.tuple #[.int .i64 0, .int .i64 0, .int .i64 3]) ∧ Below w.heap.size w w' := by
  have br1 := hk.r1
  have br2 := hk.r2
  have bg1 := hk.g1
  have bg2 := hk.g2
  have HS := Lib.hid hs
  have H0 := Lib.hid h0
  clear hs h0
  go_enter Try.func37, Try.ntmps37
  go_wp2_with fail
  refine (refCheckSite_any _ _ _ _ _ _ _ _ _ HS.out).mono ?_; rintro e w1 ⟨rfl, hb1⟩
  obtain ⟨⟨k0, k1, k2, k3, k4, k5, k6, k7⟩, hz, hbw⟩ := site_keep (T := 23) hb1
  clear hb1
  rw [H0.out]
  go_wp2_with fail
  refine (refIn_any _ _ _ _).mono ?_; rintro e w' ⟨rfl, rfl⟩
  go_wp2_with fail
  refine (refIn_any _ _ _ _).mono ?_; rintro e w' ⟨rfl, rfl⟩
  go_wp2_with fail
  refine (refIn_any _ _ _ _).mono ?_; rintro e w' ⟨rfl, rfl⟩
  go_wp2
  go_ret3
  exact ⟨rfl, hbw⟩

set_option maxRecDepth 100000 in
set_option maxHeartbeats 3200000 in
theorem refPlace_ok (nm : ByteArray) (x y z rose gates step width : Int) (t ray gate : Int) (w : World) (hs : nm.size ≤ maxLen) (h0 : siteC nm x y z rose gates step width = 0) (hk : SiteOk x y z rose gates step width) (c0 : inB t 0 256 = true) (c1 : inB ray 0 (4 * rose - 1) = true) (c2 : inB gate 0 (gates - 1) = true) :
    Calls Try.prog 37 #[.agg #[.string nm, .int .i64 x, .int .i64 y, .int .i64 z, .int .i64 rose, .int .i64 gates, .int .i64 step, .int .i64 width], .int .i64 t, .int .i64 ray, .int .i64 gate] w fun e w' => e = .returned (.tuple #[.int .i64 (plX x rose step t ray gate), .int .i64 (plY y rose step t ray gate), .int .i64 0]) ∧ Below w.heap.size w w' := by
  obtain ⟨t1, t2⟩ := inB_true.1 c0
  obtain ⟨r1, r2⟩ := inB_true.1 c1
  obtain ⟨g1, g2⟩ := inB_true.1 c2
  have br1 := hk.r1
  have br2 := hk.r2
  have bg1 := hk.g1
  have bg2 := hk.g2
  have x1 := hk.x1
  have x2 := hk.x2
  have y1 := hk.y1
  have y2 := hk.y2
  obtain ⟨e1, e2⟩ := runLo_bd (t := t) (by omega) (by omega) hk.s1 hk.s2 g1 (by omega)
  obtain ⟨⟨b1, b2⟩, ⟨b3, b4⟩, b5, b6⟩ := dir_bd (n := 2 * rose) (d := 2 * ray + 1) (by omega) (by omega) (by omega) (by omega)
  have m1 := mul_abs e1 e2 b1 b2 (by omega)
  have m2 := mul_abs e1 e2 b3 b4 (by omega)
  have u1 := quot_bd b5 (B := 399000 * 64800) m1.1 m1.2 (by omega)
  have u2 := quot_bd b5 (B := 399000 * 64800) m2.1 m2.2 (by omega)
  have i1 : IntKind.i64.wrap (runLo step t gate * dirX (2 * rose) (2 * ray + 1)) = runLo step t gate * dirX (2 * rose) (2 * ray + 1) := IntWalk.i64_in _ (by omega)
  have i2 : IntKind.i64.wrap (runLo step t gate * dirY (2 * rose) (2 * ray + 1)) = runLo step t gate * dirY (2 * rose) (2 * ray + 1) := IntWalk.i64_in _ (by omega)
  have i3 : IntKind.i64.wrap (x + runLo step t gate * dirX (2 * rose) (2 * ray + 1) / dirL (2 * rose) (2 * ray + 1)) = x + runLo step t gate * dirX (2 * rose) (2 * ray + 1) / dirL (2 * rose) (2 * ray + 1) := IntWalk.i64_in _ (by omega)
  have i4 : IntKind.i64.wrap (y + runLo step t gate * dirY (2 * rose) (2 * ray + 1) / dirL (2 * rose) (2 * ray + 1)) = y + runLo step t gate * dirY (2 * rose) (2 * ray + 1) / dirL (2 * rose) (2 * ray + 1) := IntWalk.i64_in _ (by omega)
  have HS := Lib.hid hs
  have H0 := Lib.hid h0
  clear hs h0
  go_enter Try.func37, Try.ntmps37
  go_wp2_with fail
  refine (refCheckSite_any _ _ _ _ _ _ _ _ _ HS.out).mono ?_; rintro e w1 ⟨rfl, hb1⟩
  obtain ⟨⟨k0, k1, k2, k3, k4, k5, k6, k7⟩, hz, hbw⟩ := site_keep (T := 23) hb1
  clear hb1
  rw [H0.out]
  go_wp2_with fail
  refine (refIn_any _ _ _ _).mono ?_; rintro e w' ⟨rfl, rfl⟩
  go_wp2_with fail
  refine (refIn_any _ _ _ _).mono ?_; rintro e w' ⟨rfl, rfl⟩
  go_wp2_with fail
  refine (refIn_any _ _ _ _).mono ?_; rintro e w' ⟨rfl, rfl⟩
  go_wp2_with fail
  refine (refDirection_ok _ _ _ (by omega) (by omega) (by omega) (by omega)).mono ?_; rintro e w' ⟨rfl, rfl⟩
  go_wp2_with fail
  refine (refground_any _ _ _ _ _ _ _ _ _ _ _ (by omega) (by omega) hk.s1 hk.s2 g1 (by omega)).mono ?_; rintro e w2 ⟨rfl, hb2⟩
  have S2 : SiteAt w2 w.heap.size nm x y z rose gates step width := SiteAt.keep ⟨k0, k1, k2, k3, k4, k5, k6, k7⟩ hb2 (by omega)
  have hbw := hbw.trans (hb2.mono (by omega))
  clear k0 k1 k2 k3 k4 k5 k6 k7
  obtain ⟨k0, k1, k2, k3, k4, k5, k6, k7⟩ := S2
  have F0 := fld0 (runLo step t gate) (runHi step t gate)
  go_wp2
  go_quiet ((go_at_call 77; exact Calls.quiet_of_same (Down_q _ _ _ (by omega) (by omega) (by omega))))
  go_wp2
  exact bodyPost_ret (v := .tuple #[.int .i64 (plX x rose step t ray gate), .int .i64 (plY y rose step t ray gate), .int .i64 0]) (by simp [results, Try.results37, go_sem, plX, plY]) rfl ⟨rfl, by repeat (first | exact hbw | (refine below_drewN ?_ _) | (refine Below.alloc ?_ (by omega) _))⟩

theorem refPlace_any (nm : ByteArray) (x y z rose gates step width : Int) (t ray gate : Int) (w : World) (hs : nm.size ≤ maxLen) :
    Calls Try.prog 37 #[.agg #[.string nm, .int .i64 x, .int .i64 y, .int .i64 z, .int .i64 rose, .int .i64 gates, .int .i64 step, .int .i64 width], .int .i64 t, .int .i64 ray, .int .i64 gate] w fun e w' => e = .returned (.tuple #[.int .i64 (val (codeE (siteC nm x y z rose gates step width) (inB t 0 256 && inB ray 0 (4 * rose - 1) && inB gate 0 (gates - 1))) (plX x rose step t ray gate)), .int .i64 (val (codeE (siteC nm x y z rose gates step width) (inB t 0 256 && inB ray 0 (4 * rose - 1) && inB gate 0 (gates - 1))) (plY y rose step t ray gate)), .int .i64 (codeE (siteC nm x y z rose gates step width) (inB t 0 256 && inB ray 0 (4 * rose - 1) && inB gate 0 (gates - 1)))]) ∧ Below w.heap.size w w' := by
  by_cases h0 : siteC nm x y z rose gates step width = 0
  · have hk := (siteC_zero.1 h0).2
    rcases (Bool.eq_false_or_eq_true (inB t 0 256)).symm with c0 | c0
    · have e : (codeE (siteC nm x y z rose gates step width) (inB t 0 256 && inB ray 0 (4 * rose - 1) && inB gate 0 (gates - 1))) = 3 := by rw [h0, c0]; rfl
      rw [e, val_no, val_no]
      exact refPlace_no0 nm x y z rose gates step width t ray gate w hs h0 hk c0
    · rcases (Bool.eq_false_or_eq_true (inB ray 0 (4 * rose - 1))).symm with c1 | c1
      · have e : (codeE (siteC nm x y z rose gates step width) (inB t 0 256 && inB ray 0 (4 * rose - 1) && inB gate 0 (gates - 1))) = 3 := by rw [h0, c0, c1]; rfl
        rw [e, val_no, val_no]
        exact refPlace_no1 nm x y z rose gates step width t ray gate w hs h0 hk c0 c1
      · rcases (Bool.eq_false_or_eq_true (inB gate 0 (gates - 1))).symm with c2 | c2
        · have e : (codeE (siteC nm x y z rose gates step width) (inB t 0 256 && inB ray 0 (4 * rose - 1) && inB gate 0 (gates - 1))) = 3 := by rw [h0, c0, c1, c2]; rfl
          rw [e, val_no, val_no]
          exact refPlace_no2 nm x y z rose gates step width t ray gate w hs h0 hk c0 c1 c2
        · have e : (codeE (siteC nm x y z rose gates step width) (inB t 0 256 && inB ray 0 (4 * rose - 1) && inB gate 0 (gates - 1))) = 0 := by rw [h0, c0, c1, c2]; rfl
          rw [e, val_ok, val_ok]
          exact refPlace_ok nm x y z rose gates step width t ray gate w hs h0 hk c0 c1 c2
  · rw [codeE_err h0, val_err h0, val_err h0]
    exact refPlace_err nm x y z rose gates step width t ray gate w hs (bne_iff_ne.2 h0)

end Go.Proofs.Ythnjfnapjpdchaa

namespace Go.Proofs.Ythnjfnapjpdchaa
open Go.RowKit
set_option linter.unusedVariables false

theorem srchS : SrchIs (4 + 1) (inside (705 * 705 + 1323 * 1323) (bordI 1000 0)) 2 := by
  refine ⟨by decide, by decide +kernel, fun k h1 h2 => ?_⟩
  have : k = 2 ∨ k = 3 ∨ k = 4 := by omega
  rcases this with rfl | rfl | rfl <;> decide +kernel
theorem rayS : RayIs 2 705 1323 0 := by
  refine .inr ⟨0, 705, 1323, by decide, by decide, by decide, by decide, by decide, 1, ⟨by decide, by decide +kernel, fun k h1 h2 => ?_⟩, by decide⟩
  obtain rfl : k = 1 := by omega
  decide +kernel
theorem okS : SiteOk 0 0 100 2 4 1000 1 := (siteC_zero.1 siteS).2
theorem Find_S (w : World) : Calls Try.prog 38 #[.agg #[.string nmS, .int .i64 0, .int .i64 0, .int .i64 100, .int .i64 2, .int .i64 4, .int .i64 1000, .int .i64 1], .int .i64 0, .int .i64 705, .int .i64 1323] w
    fun e w' => e = .returned (.tuple #[.int .i64 0, .int .i64 1, .int .i64 0]) ∧ Below w.heap.size w w' :=
  Find_in nmS 0 0 100 2 4 1000 1 0 705 1323 705 1323 (by decide) (by decide) 2 srchS w nmS_size siteS okS (by decide) (by decide) (by decide) (by decide) (by decide) 0 rayS
theorem p001 : codeE (siteC nmS 0 0 100 2 4 1000 1) (inB 0 0 256 && inB 0 0 (4 * 2 - 1) && inB 1 0 (4 - 1)) = 0 := by rw [siteS]; decide
theorem plS : plX 0 2 1000 0 0 1 = 705 ∧ plY 0 2 1000 0 0 1 = 1323 := by decide +kernel
theorem Place_S (w : World) : Calls Try.prog 36 #[.agg #[.string nmS, .int .i64 0, .int .i64 0, .int .i64 100, .int .i64 2, .int .i64 4, .int .i64 1000, .int .i64 1], .int .i64 0, .int .i64 0, .int .i64 1] w
    fun e w' => e = .returned (.tuple #[.int .i64 705, .int .i64 1323, .int .i64 0]) ∧ Below w.heap.size w w' := by
  have h := Place_any nmS 0 0 100 2 4 1000 1 0 0 1 w nmS_size
  rw [p001, val_ok, val_ok, plS.1, plS.2] at h
  exact h

set_option maxHeartbeats 800000 in
theorem places_any (w : World) :
    Calls Try.prog 42 #[] w fun e w' => e = .returned (.bool true) ∧ Below w.heap.size w w' := by
  go_enter Try.func42, Try.ntmps42
  go_wp2_with fail
  refine (S_any _).mono ?_; rintro e w1 ⟨rfl, hb1⟩
  go_wp2_with fail
  refine (Find_S _).mono ?_; rintro e w2 ⟨rfl, hb2⟩
  go_wp2_with fail
  refine (S_any _).mono ?_; rintro e w3 ⟨rfl, hb3⟩
  go_wp2_with fail
  refine (Place_S _).mono ?_; rintro e w4 ⟨rfl, hb4⟩
  have hb := ((hb1.trans (hb2.mono hb1.size)).trans (hb3.mono (Nat.le_trans hb1.size hb2.size))).trans (hb4.mono (Nat.le_trans (Nat.le_trans hb1.size hb2.size) hb3.size))
  go_wp2
  go_ret
  exact ⟨rfl, hb⟩

end Go.Proofs.Ythnjfnapjpdchaa

namespace Go.Proofs.Ythnjfnapjpdchaa
open Go.RowKit
set_option linter.unusedVariables false

/-- a site and a grid in boxes -/
structure SG (w w' : World) (nm : ByteArray) (x y z rose gates step width gx gy size wide high : Int) : Prop where
  s : SiteAt w' w.heap.size nm x y z rose gates step width
  g : GridAt w' (w.heap.size + 1) gx gy size wide high
  z : w.heap.size + 2 ≤ w'.heap.size
  b : Below w.heap.size w w'
theorem SG.new (w : World) (nm : ByteArray) (x y z rose gates step width gx gy size wide high : Int) : SG w ((w.alloc (.cells #[.string nm, .int .i64 x, .int .i64 y, .int .i64 z, .int .i64 rose, .int .i64 gates, .int .i64 step, .int .i64 width] 23)).alloc (.cells #[.int .i64 gx, .int .i64 gy, .int .i64 size, .int .i64 wide, .int .i64 high] 25)) nm x y z rose gates step width gx gy size wide high := by
  have e : (w.alloc (.cells #[.string nm, .int .i64 x, .int .i64 y, .int .i64 z, .int .i64 rose, .int .i64 gates, .int .i64 step, .int .i64 width] 23)).heap.size = w.heap.size + 1 := World.size_alloc _ _
  refine ⟨(SiteAt.new w nm x y z rose gates step width).keep (below_alloc _ _) (by omega), ?_, by simp, Below.trans (below_alloc _ _) ((below_alloc _ _).mono (by omega))⟩
  rw [← e]; exact GridAt.new _ _ _ _ _ _
theorem SG.keep {w W w1 : World} {B : Nat} {nm : ByteArray} {x y z rose gates step width gx gy size wide high : Int} (t : SG w W nm x y z rose gates step width gx gy size wide high) (hb : Below B W w1) (h : w.heap.size + 2 ≤ B) : SG w w1 nm x y z rose gates step width gx gy size wide high :=
  ⟨t.s.keep hb (by omega), t.g.keep hb (by omega), Nat.le_trans t.z hb.size, t.b.trans (hb.mono (by omega))⟩

set_option maxRecDepth 100000 in
set_option maxHeartbeats 1600000 in
theorem BeamPlaces_few (nm : ByteArray) (x y z rose gates step width gx gy size wide high : Int) (t ray gate ax ay : Int) (w : World) (hs : nm.size ≤ maxLen) (hf : fewB nm.size rose gates wide high = false) :
    Calls Try.prog 6 #[.agg #[.string nm, .int .i64 x, .int .i64 y, .int .i64 z, .int .i64 rose, .int .i64 gates, .int .i64 step, .int .i64 width], .agg #[.int .i64 gx, .int .i64 gy, .int .i64 size, .int .i64 wide, .int .i64 high], .int .i64 t, .int .i64 ray, .int .i64 gate, .int .i64 ax, .int .i64 ay] w fun e w' => e = .returned (.bool true) ∧ Below w.heap.size w w' := by
  have HS := Lib.hid hs
  have HF := Lib.hid hf
  clear hf hs
  go_enter Try.func6, Try.ntmps6
  go_wp2_with fail
  refine (few_any _ _ _ _ _ _ _ _ _ _ _ _ _ _ HS.out).mono ?_; rintro e w1 ⟨rfl, hb1⟩
  have O1 := (SG.new w nm x y z rose gates step width gx gy size wide high).keep hb1 (by simp)
  clear hb1
  obtain ⟨⟨k0, k1, k2, k3, k4, k5, k6, k7⟩, ⟨g0, g1, g2, g3, g4⟩, hz, hbw⟩ := O1
  have y0 : w.heap.size < w1.heap.size := by omega
  have y1 : w.heap.size + 1 < w1.heap.size := by omega
  rw [HF.out]
  go_wp2_with fail
  refine (works_any _).mono ?_; rintro e w9 ⟨rfl, hb9⟩
  go_wp2
  go_ret
  exact ⟨rfl, hbw.trans (hb9.mono (by omega))⟩

set_option maxRecDepth 100000 in
set_option maxHeartbeats 6400000 in
theorem BeamPlaces_good (nm : ByteArray) (x y z rose gates step width gx gy size wide high : Int) (t ray gate ax ay : Int) (w : World) (hs : nm.size ≤ maxLen) (hf : fewB nm.size rose gates wide high = true) (a b c p q r m h : Int)
    (f36 : ∀ w : World, Calls Try.prog 36 #[.agg #[.string nm, .int .i64 x, .int .i64 y, .int .i64 z, .int .i64 rose, .int .i64 gates, .int .i64 step, .int .i64 width], .int .i64 t, .int .i64 ray, .int .i64 gate] w fun e w' => e = .returned (.tuple #[.int .i64 a, .int .i64 b, .int .i64 c]) ∧ Below w.heap.size w w')
    (f37 : ∀ w : World, Calls Try.prog 37 #[.agg #[.string nm, .int .i64 x, .int .i64 y, .int .i64 z, .int .i64 rose, .int .i64 gates, .int .i64 step, .int .i64 width], .int .i64 t, .int .i64 ray, .int .i64 gate] w fun e w' => e = .returned (.tuple #[.int .i64 a, .int .i64 b, .int .i64 c]) ∧ Below w.heap.size w w')
    (f38 : ∀ w : World, Calls Try.prog 38 #[.agg #[.string nm, .int .i64 x, .int .i64 y, .int .i64 z, .int .i64 rose, .int .i64 gates, .int .i64 step, .int .i64 width], .int .i64 t, .int .i64 ax, .int .i64 ay] w fun e w' => e = .returned (.tuple #[.int .i64 p, .int .i64 q, .int .i64 r]) ∧ Below w.heap.size w w')
    (f39 : ∀ w : World, Calls Try.prog 39 #[.agg #[.string nm, .int .i64 x, .int .i64 y, .int .i64 z, .int .i64 rose, .int .i64 gates, .int .i64 step, .int .i64 width], .int .i64 t, .int .i64 ax, .int .i64 ay] w fun e w' => e = .returned (.tuple #[.int .i64 p, .int .i64 q, .int .i64 r]) ∧ Below w.heap.size w w')
    (f40 : ∀ w : World, Calls Try.prog 40 #[.agg #[.int .i64 gx, .int .i64 gy, .int .i64 size, .int .i64 wide, .int .i64 high], .int .i64 ax, .int .i64 ay] w fun e w' => e = .returned (.tuple #[.int .i64 m, .int .i64 h]) ∧ Below w.heap.size w w')
    (f41 : ∀ w : World, Calls Try.prog 41 #[.agg #[.int .i64 gx, .int .i64 gy, .int .i64 size, .int .i64 wide, .int .i64 high], .int .i64 ax, .int .i64 ay] w fun e w' => e = .returned (.tuple #[.int .i64 m, .int .i64 h]) ∧ Below w.heap.size w w') :
    Calls Try.prog 6 #[.agg #[.string nm, .int .i64 x, .int .i64 y, .int .i64 z, .int .i64 rose, .int .i64 gates, .int .i64 step, .int .i64 width], .agg #[.int .i64 gx, .int .i64 gy, .int .i64 size, .int .i64 wide, .int .i64 high], .int .i64 t, .int .i64 ray, .int .i64 gate, .int .i64 ax, .int .i64 ay] w fun e w' => e = .returned (.bool true) ∧ Below w.heap.size w w' := by
  have HS := Lib.hid hs
  have HF := Lib.hid hf
  have F36 := Lib.hid f36
  have F37 := Lib.hid f37
  have F38 := Lib.hid f38
  have F39 := Lib.hid f39
  have F40 := Lib.hid f40
  have F41 := Lib.hid f41
  clear hf hs f36 f37 f38 f39 f40 f41
  go_enter Try.func6, Try.ntmps6
  go_wp2_with fail
  refine (few_any _ _ _ _ _ _ _ _ _ _ _ _ _ _ HS.out).mono ?_; rintro e w1 ⟨rfl, hb1⟩
  have O1 := (SG.new w nm x y z rose gates step width gx gy size wide high).keep hb1 (by simp)
  clear hb1
  obtain ⟨⟨k0, k1, k2, k3, k4, k5, k6, k7⟩, ⟨g0, g1, g2, g3, g4⟩, hz, hbw⟩ := O1
  have y0 : w.heap.size < w1.heap.size := by omega
  have y1 : w.heap.size + 1 < w1.heap.size := by omega
  rw [HF.out]
  go_wp2_with fail
  refine (F36.out _).mono ?_; rintro e w2 ⟨rfl, hb2⟩
  have O2 := (⟨⟨k0, k1, k2, k3, k4, k5, k6, k7⟩, ⟨g0, g1, g2, g3, g4⟩, hz, hbw⟩ : SG w w1 nm x y z rose gates step width gx gy size wide high).keep hb2 hz
  clear k0 k1 k2 k3 k4 k5 k6 k7 g0 g1 g2 g3 g4 hz hbw y0 y1 hb2
  obtain ⟨⟨k0, k1, k2, k3, k4, k5, k6, k7⟩, ⟨g0, g1, g2, g3, g4⟩, hz, hbw⟩ := O2
  have y0 : w.heap.size < w2.heap.size := by omega
  have y1 : w.heap.size + 1 < w2.heap.size := by omega
  go_wp2_with fail
  refine (F37.out _).mono ?_; rintro e w3 ⟨rfl, hb3⟩
  have O3 := (⟨⟨k0, k1, k2, k3, k4, k5, k6, k7⟩, ⟨g0, g1, g2, g3, g4⟩, hz, hbw⟩ : SG w w2 nm x y z rose gates step width gx gy size wide high).keep hb3 hz
  clear k0 k1 k2 k3 k4 k5 k6 k7 g0 g1 g2 g3 g4 hz hbw y0 y1 hb3
  obtain ⟨⟨k0, k1, k2, k3, k4, k5, k6, k7⟩, ⟨g0, g1, g2, g3, g4⟩, hz, hbw⟩ := O3
  have y0 : w.heap.size < w3.heap.size := by omega
  have y1 : w.heap.size + 1 < w3.heap.size := by omega
  go_wp2_with fail
  refine (F38.out _).mono ?_; rintro e w4 ⟨rfl, hb4⟩
  have O4 := (⟨⟨k0, k1, k2, k3, k4, k5, k6, k7⟩, ⟨g0, g1, g2, g3, g4⟩, hz, hbw⟩ : SG w w3 nm x y z rose gates step width gx gy size wide high).keep hb4 hz
  clear k0 k1 k2 k3 k4 k5 k6 k7 g0 g1 g2 g3 g4 hz hbw y0 y1 hb4
  obtain ⟨⟨k0, k1, k2, k3, k4, k5, k6, k7⟩, ⟨g0, g1, g2, g3, g4⟩, hz, hbw⟩ := O4
  have y0 : w.heap.size < w4.heap.size := by omega
  have y1 : w.heap.size + 1 < w4.heap.size := by omega
  go_wp2_with fail
  refine (F39.out _).mono ?_; rintro e w5 ⟨rfl, hb5⟩
  have O5 := (⟨⟨k0, k1, k2, k3, k4, k5, k6, k7⟩, ⟨g0, g1, g2, g3, g4⟩, hz, hbw⟩ : SG w w4 nm x y z rose gates step width gx gy size wide high).keep hb5 hz
  clear k0 k1 k2 k3 k4 k5 k6 k7 g0 g1 g2 g3 g4 hz hbw y0 y1 hb5
  obtain ⟨⟨k0, k1, k2, k3, k4, k5, k6, k7⟩, ⟨g0, g1, g2, g3, g4⟩, hz, hbw⟩ := O5
  have y0 : w.heap.size < w5.heap.size := by omega
  have y1 : w.heap.size + 1 < w5.heap.size := by omega
  go_wp2_with fail
  refine (F40.out _).mono ?_; rintro e w6 ⟨rfl, hb6⟩
  have O6 := (⟨⟨k0, k1, k2, k3, k4, k5, k6, k7⟩, ⟨g0, g1, g2, g3, g4⟩, hz, hbw⟩ : SG w w5 nm x y z rose gates step width gx gy size wide high).keep hb6 hz
  clear k0 k1 k2 k3 k4 k5 k6 k7 g0 g1 g2 g3 g4 hz hbw y0 y1 hb6
  obtain ⟨⟨k0, k1, k2, k3, k4, k5, k6, k7⟩, ⟨g0, g1, g2, g3, g4⟩, hz, hbw⟩ := O6
  have y0 : w.heap.size < w6.heap.size := by omega
  have y1 : w.heap.size + 1 < w6.heap.size := by omega
  go_wp2_with fail
  refine (F41.out _).mono ?_; rintro e w7 ⟨rfl, hb7⟩
  have O7 := (⟨⟨k0, k1, k2, k3, k4, k5, k6, k7⟩, ⟨g0, g1, g2, g3, g4⟩, hz, hbw⟩ : SG w w6 nm x y z rose gates step width gx gy size wide high).keep hb7 hz
  clear k0 k1 k2 k3 k4 k5 k6 k7 g0 g1 g2 g3 g4 hz hbw y0 y1 hb7
  obtain ⟨⟨k0, k1, k2, k3, k4, k5, k6, k7⟩, ⟨g0, g1, g2, g3, g4⟩, hz, hbw⟩ := O7
  have y0 : w.heap.size < w7.heap.size := by omega
  have y1 : w.heap.size + 1 < w7.heap.size := by omega
  go_wp2_with fail
  refine (places_any _).mono ?_; rintro e w9 ⟨rfl, hb9⟩
  go_wp2
  go_ret
  exact ⟨rfl, hbw.trans (hb9.mono (by omega))⟩

end Go.Proofs.Ythnjfnapjpdchaa
