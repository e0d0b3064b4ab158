/-
  What Find of the reference answers: errors, and the radar's own place.
-/
import Derived.Test.YthnjfnapjpdchaaX3
namespace Go.Proofs.Ythnjfnapjpdchaa
open Go.RowKit
set_option linter.unusedVariables false

set_option maxHeartbeats 1600000 in
theorem refFind_err (nm : ByteArray) (x y z rose gates step width : Int) (t ax ay : Int) (w : World) (hs : nm.size ≤ maxLen) (hne : (siteC nm x y z rose gates step width != 0) = true) :
    Calls Try.prog 39 #[.agg #[.string nm, .int .i64 x, .int .i64 y, .int .i64 z, .int .i64 rose, .int .i64 gates, .int .i64 step, .int .i64 width], .int .i64 t, .int .i64 ax, .int .i64 ay] w fun e w' => e = .returned (.tuple #[.int .i64 0, .int .i64 0, .int .i64 (siteC nm x y z rose gates step width)]) ∧ Below w.heap.size w w' := by
  have HS := Lib.hid hs
  clear hs
  go_enter Try.func39, Try.ntmps39
  go_wp2_with fail
  refine (refCheckSite_any _ _ _ _ _ _ _ _ _ HS.out).mono ?_; rintro e w1 ⟨rfl, hb1⟩
  obtain ⟨⟨k0, k1, k2, k3, k4, k5, k6, k7⟩, hz, hbw⟩ := site_keep (T := 23) hb1
  clear hb1
  go_wp2
  go_ret3
  exact ⟨rfl, hbw⟩

set_option maxHeartbeats 1600000 in
theorem refFind_no0 (nm : ByteArray) (x y z rose gates step width : Int) (t ax ay : Int) (w : World) (hs : nm.size ≤ maxLen) (h0 : siteC nm x y z rose gates step width = 0) (c0 : inB t 0 256 = false) :
    Calls Try.prog 39 #[.agg #[.string nm, .int .i64 x, .int .i64 y, .int .i64 z, .int .i64 rose, .int .i64 gates, .int .i64 step, .int .i64 width], .int .i64 t, .int .i64 ax, .int .i64 ay] w fun e w' => e = .returned (.tuple #[.int .i64 0, .int .i64 0, .int .i64 3]) ∧ Below w.heap.size w w' := by
  have HS := Lib.hid hs
  have H0 := Lib.hid h0
  clear hs h0
  go_enter Try.func39, Try.ntmps39
  go_wp2_with fail
  refine (refCheckSite_any _ _ _ _ _ _ _ _ _ HS.out).mono ?_; rintro e w1 ⟨rfl, hb1⟩
  obtain ⟨⟨k0, k1, k2, k3, k4, k5, k6, k7⟩, hz, hbw⟩ := site_keep (T := 23) hb1
  clear hb1
  rw [H0.out]
  go_wp2_with fail
  refine (refIn_any _ _ _ _).mono ?_; rintro e w' ⟨rfl, rfl⟩
  go_wp2
  go_ret3
  exact ⟨rfl, hbw⟩

set_option maxHeartbeats 1600000 in
theorem refFind_no1 (nm : ByteArray) (x y z rose gates step width : Int) (t ax ay : Int) (w : World) (hs : nm.size ≤ maxLen) (h0 : siteC nm x y z rose gates step width = 0) (c0 : inB t 0 256 = true) (c1 : inB ax (-4194304) 4194304 = false) :
    Calls Try.prog 39 #[.agg #[.string nm, .int .i64 x, .int .i64 y, .int .i64 z, .int .i64 rose, .int .i64 gates, .int .i64 step, .int .i64 width], .int .i64 t, .int .i64 ax, .int .i64 ay] w fun e w' => e = .returned (.tuple #[.int .i64 0, .int .i64 0, .int .i64 3]) ∧ Below w.heap.size w w' := by
  have HS := Lib.hid hs
  have H0 := Lib.hid h0
  clear hs h0
  go_enter Try.func39, Try.ntmps39
  go_wp2_with fail
  refine (refCheckSite_any _ _ _ _ _ _ _ _ _ HS.out).mono ?_; rintro e w1 ⟨rfl, hb1⟩
  obtain ⟨⟨k0, k1, k2, k3, k4, k5, k6, k7⟩, hz, hbw⟩ := site_keep (T := 23) hb1
  clear hb1
  rw [H0.out]
  go_wp2_with fail
  refine (refIn_any _ _ _ _).mono ?_; rintro e w' ⟨rfl, rfl⟩
  go_wp2_with fail
  refine (refIn_any _ _ _ _).mono ?_; rintro e w' ⟨rfl, rfl⟩
  go_wp2
  go_ret3
  exact ⟨rfl, hbw⟩

set_option maxHeartbeats 1600000 in
theorem refFind_no2 (nm : ByteArray) (x y z rose gates step width : Int) (t ax ay : Int) (w : World) (hs : nm.size ≤ maxLen) (h0 : siteC nm x y z rose gates step width = 0) (c0 : inB t 0 256 = true) (c1 : inB ax (-4194304) 4194304 = true) (c2 : inB ay (-4194304) 4194304 = false) :
    Calls Try.prog 39 #[.agg #[.string nm, .int .i64 x, .int .i64 y, .int .i64 z, .int .i64 rose, .int .i64 gates, .int .i64 step, .int .i64 width], .int .i64 t, .int .i64 ax, .int .i64 ay] w fun e w' => e = .returned (.tuple #[.int .i64 0, .int .i64 0, .int .i64 3]) ∧ Below w.heap.size w w' := by
  have HS := Lib.hid hs
  have H0 := Lib.hid h0
  clear hs h0
  go_enter Try.func39, Try.ntmps39
  go_wp2_with fail
  refine (refCheckSite_any _ _ _ _ _ _ _ _ _ HS.out).mono ?_; rintro e w1 ⟨rfl, hb1⟩
  obtain ⟨⟨k0, k1, k2, k3, k4, k5, k6, k7⟩, hz, hbw⟩ := site_keep (T := 23) hb1
  clear hb1
  rw [H0.out]
  go_wp2_with fail
  refine (refIn_any _ _ _ _).mono ?_; rintro e w' ⟨rfl, rfl⟩
  go_wp2_with fail
  refine (refIn_any _ _ _ _).mono ?_; rintro e w' ⟨rfl, rfl⟩
  go_wp2_with fail
  refine (refIn_any _ _ _ _).mono ?_; rintro e w' ⟨rfl, rfl⟩
  go_wp2
  go_ret3
  exact ⟨rfl, hbw⟩

set_option maxRecDepth 100000 in
set_option maxHeartbeats 1600000 in
theorem refFind_zero (nm : ByteArray) (x y z rose gates step width : Int) (t ax ay dx dy : Int) (hx : ax - x = dx) (hy : ay - y = dy) (w : World) (hs : nm.size ≤ maxLen) (h0 : siteC nm x y z rose gates step width = 0) (c0 : inB t 0 256 = true) (c1 : inB ax (-4194304) 4194304 = true) (c2 : inB ay (-4194304) 4194304 = true) (z1 : (dx == 0) = true) (z2 : (dy == 0) = true) :
    Calls Try.prog 39 #[.agg #[.string nm, .int .i64 x, .int .i64 y, .int .i64 z, .int .i64 rose, .int .i64 gates, .int .i64 step, .int .i64 width], .int .i64 t, .int .i64 ax, .int .i64 ay] w fun e w' => e = .returned (.tuple #[.int .i64 0, .int .i64 0, .int .i64 0]) ∧ Below w.heap.size w w' := by
  have HS := Lib.hid hs
  have H0 := Lib.hid h0
  have hk := (siteC_zero.1 h0).2
  obtain ⟨b1, b2⟩ := inB_true.1 c1
  obtain ⟨b3, b4⟩ := inB_true.1 c2
  obtain ⟨x1, x2, y1, y2⟩ : (-1048576 ≤ x ∧ x ≤ 1048576 ∧ -1048576 ≤ y ∧ y ≤ 1048576) := ⟨hk.x1, hk.x2, hk.y1, hk.y2⟩
  clear hs h0 hk
  have i1 : IntKind.i64.wrap (ax - x) = dx := by rw [hx]; exact IntWalk.i64_in _ (by omega)
  have i2 : IntKind.i64.wrap (ay - y) = dy := by rw [hy]; exact IntWalk.i64_in _ (by omega)
  go_enter Try.func39, Try.ntmps39
  go_wp2_with fail
  refine (refCheckSite_any _ _ _ _ _ _ _ _ _ HS.out).mono ?_; rintro e w1 ⟨rfl, hb1⟩
  obtain ⟨⟨k0, k1, k2, k3, k4, k5, k6, k7⟩, hz, hbw⟩ := site_keep (T := 23) hb1
  clear hb1
  rw [H0.out]
  go_wp2_with fail
  refine (refIn_any _ _ _ _).mono ?_; rintro e w' ⟨rfl, rfl⟩
  go_wp2_with fail
  refine (refIn_any _ _ _ _).mono ?_; rintro e w' ⟨rfl, rfl⟩
  go_wp2_with fail
  refine (refIn_any _ _ _ _).mono ?_; rintro e w' ⟨rfl, rfl⟩
  go_wp2
  go_quiet (fail)
  try rw [i1, i2]
  clear i1 i2
  go_wp2
  go_ret3
  exact ⟨rfl, below_drewN hbw _⟩

end Go.Proofs.Ythnjfnapjpdchaa
