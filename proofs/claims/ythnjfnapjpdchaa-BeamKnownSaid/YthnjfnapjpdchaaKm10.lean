/-
  What Blocked returns: errors, and the threads that are blocked.
-/
import Derived.Test.YthnjfnapjpdchaaKm7
import Derived.Test.YthnjfnapjpdchaaKm9
import Derived.Test.YthnjfnapjpdchaaKm5
import Derived.Test.YthnjfnapjpdchaaKm4
import Derived.Test.YthnjfnapjpdchaaKm8
namespace Go.Proofs.Ythnjfnapjpdchaa
open Go.RowKit
set_option linter.unusedVariables false

theorem ground_code {gx gy size wide high : Int} {len : Nat} {zs : Nat → Int × Int} (h : fieldC gx gy size wide high len zs 1073741824 = 0) : fieldC gx gy size wide high len zs 20000 = spansC len zs 0 20000 := by
  by_cases hg : gridC gx gy size wide high = 0
  · by_cases h2 : (len : Int) = wide * high
    · exact fieldC_spans hg h2
    · rw [fieldC_shape hg h2] at h; cases h
  · rw [fieldC_grid hg] at h; exact absurd h hg
theorem ground_err {gx gy size wide high : Int} {len : Nat} {zs : Nat → Int × Int} (h : fieldC gx gy size wide high len zs 1073741824 ≠ 0) : fieldC gx gy size wide high len zs 20000 = fieldC gx gy size wide high len zs 1073741824 := by
  by_cases hg : gridC gx gy size wide high = 0
  · by_cases h2 : (len : Int) = wide * high
    · rw [fieldC_spans hg h2] at h ⊢
      rw [fieldC_spans hg h2]
      have hn : ¬ AllIn len zs 0 1073741824 := fun h3 => h (spansC_ok h3)
      have hn2 : ¬ AllIn len zs 0 20000 := fun h3 => hn (fun j hj => by have := spanB_true.1 (h3 j hj); exact spanB_true.2 ⟨this.1, this.2.1, by omega⟩)
      unfold spansC
      rw [@if_neg _ (Classical.propDecidable _) hn, @if_neg _ (Classical.propDecidable _) hn2]
    · rw [fieldC_shape hg h2, fieldC_shape hg h2]
  · rw [fieldC_grid hg, fieldC_grid hg]
theorem ground_zero {gx gy size wide high : Int} {len : Nat} {zs : Nat → Int × Int} (h : fieldC gx gy size wide high len zs 20000 = 0) : gridC gx gy size wide high = 0 ∧ (len : Int) = wide * high ∧ AllIn len zs 0 20000 := by
  by_cases hg : gridC gx gy size wide high = 0
  · by_cases h2 : (len : Int) = wide * high
    · refine ⟨hg, h2, ?_⟩
      rw [fieldC_spans hg h2] at h
      by_cases h3 : AllIn len zs 0 20000
      · exact h3
      · unfold spansC at h; rw [@if_neg _ (Classical.propDecidable _) h3] at h; cases h
    · rw [fieldC_shape hg h2] at h; cases h
  · rw [fieldC_grid hg] at h; exact absurd h hg

set_option maxHeartbeats 1600000 in
theorem checkGround_err (gx gy size wide high : Int) (a : Option Addr) (len cap : Nat) (zs : Nat → Int × Int) (w : World) (hl : len ≤ 1000000) (hs : SliceIs w a len cap zs) (hne : (fieldC gx gy size wide high len zs 1073741824 != 0) = true) :
    Calls Try.prog 85 #[.agg #[.int .i64 gx, .int .i64 gy, .int .i64 size, .int .i64 wide, .int .i64 high, .slice a len cap]] w fun e w' => e = .returned (.int .i64 (fieldC gx gy size wide high len zs 1073741824)) ∧ Below w.heap.size w w' := by
  have HS := Lib.hid hs
  clear hs
  go_enter Try.func85, Try.ntmps85
  go_wp2_with fail
  refine (CheckField_any _ _ _ _ _ _ _ _ zs _ hl (HS.out.keep (below_alloc _ _))).mono ?_; rintro e w1 ⟨rfl, hb1⟩
  go_wp2
  go_ret
  exact ⟨rfl, Below.trans (below_alloc _ _) (hb1.mono (by simp))⟩

set_option maxHeartbeats 1600000 in
theorem checkGround_ok (gx gy size wide high : Int) (a : Option Addr) (len cap : Nat) (zs : Nat → Int × Int) (w : World) (hl : len ≤ 1000000) (hs : SliceIs w a len cap zs) (h0 : fieldC gx gy size wide high len zs 1073741824 = 0) :
    Calls Try.prog 85 #[.agg #[.int .i64 gx, .int .i64 gy, .int .i64 size, .int .i64 wide, .int .i64 high, .slice a len cap]] w fun e w' => e = .returned (.int .i64 (spansC len zs 0 20000)) ∧ Below w.heap.size w w' := by
  have HS := Lib.hid hs
  have H0 := Lib.hid h0
  clear hs h0
  go_enter Try.func85, Try.ntmps85
  go_wp2_with fail
  refine (CheckField_any _ _ _ _ _ _ _ _ zs _ hl (HS.out.keep (below_alloc _ _))).mono ?_; rintro e w1 ⟨rfl, hb1⟩
  have hbw : Below w.heap.size w w1 := Below.trans (below_alloc _ _) (hb1.mono (by simp))
  have hz : w.heap.size < w1.heap.size := by have := hb1.size; simp at this; omega
  have f5 : w1.cell? ⟨w.heap.size, 5, none⟩ = some (.slice a len cap) := keepB hb1 (by simp) (alloc_new rfl rfl)
  have LEAD := Lib.hid (show (fun w' : World => w'.cell? ⟨w.heap.size, 5, none⟩ = some (.slice a len cap) ∧ w.heap.size < w'.heap.size ∧ Below w.heap.size w w') w1.drew from ⟨by simp; exact f5, by simp; omega, hbw.drew⟩)
  clear hb1 hbw hz
  rw [H0.out]
  go_wp2
  clear f5
  go_region_held3 (fun w' => w'.cell? ⟨w.heap.size, 5, none⟩ = some (.slice a len cap) ∧ w.heap.size < w'.heap.size ∧ Below w.heap.size w w')
    (first | exact LEAD.out | (go_split_ands; refine ⟨?_, ?_, ?_⟩ <;> first | assumption | exact keepB hb4 (by omega) (by assumption) | (have := hb4.size; omega) | exact Below.trans (by assumption) (hb4.mono (by omega))))
    (first | (go_at_call 100; refine (unknownGround_any _).mono ?_; rintro e w5 ⟨rfl, hb4⟩) | (go_at_call 61; go_split_ands; refine (checkSpans_any _ _ _ zs _ _ _ hl (HS.out.keep (by assumption))).mono ?_; rintro e w5 ⟨rfl, hb4⟩))
  go_split_ands
  go_wp2
  go_ret
  exact ⟨rfl, by assumption⟩

theorem checkGround_any (gx gy size wide high : Int) (a : Option Addr) (len cap : Nat) (zs : Nat → Int × Int) (w : World) (hl : len ≤ 1000000) (hs : SliceIs w a len cap zs) :
    Calls Try.prog 85 #[.agg #[.int .i64 gx, .int .i64 gy, .int .i64 size, .int .i64 wide, .int .i64 high, .slice a len cap]] w fun e w' => e = .returned (.int .i64 (fieldC gx gy size wide high len zs 20000)) ∧ Below w.heap.size w w' := by
  by_cases h : fieldC gx gy size wide high len zs 1073741824 = 0
  · rw [ground_code h]; exact checkGround_ok _ _ _ _ _ a len cap zs w hl hs h
  · rw [ground_err h]; exact checkGround_err _ _ _ _ _ a len cap zs w hl hs (bne_iff_ne.2 h)

/-- a site, an earth and a field in boxes -/
structure SEF (w w' : World) (nm : ByteArray) (x y z rose gates step width lo hi gx gy size wide high : Int) (sl : Value) : Prop where
  s : SiteAt w' w.heap.size nm x y z rose gates step width
  e : PairAt w' (w.heap.size + 1) (.int .i64 lo) (.int .i64 hi)
  f : FieldAt w' (w.heap.size + 1 + 1) gx gy size wide high sl
  z : w.heap.size + 3 ≤ w'.heap.size
  b : Below w.heap.size w w'
theorem SEF.new (w : World) (nm : ByteArray) (x y z rose gates step width lo hi gx gy size wide high : Int) (sl : Value) : SEF w (((w.alloc (.cells #[.string nm, .int .i64 x, .int .i64 y, .int .i64 z, .int .i64 rose, .int .i64 gates, .int .i64 step, .int .i64 width] 23)).alloc (.cells #[.int .i64 lo, .int .i64 hi] 43)).alloc (.cells #[.int .i64 gx, .int .i64 gy, .int .i64 size, .int .i64 wide, .int .i64 high, sl] 28)) nm x y z rose gates step width lo hi gx gy size wide high sl := by
  obtain ⟨A1, e1⟩ : ∃ A, A = w.alloc (.cells #[.string nm, .int .i64 x, .int .i64 y, .int .i64 z, .int .i64 rose, .int .i64 gates, .int .i64 step, .int .i64 width] 23) := ⟨_, rfl⟩
  obtain ⟨A2, e2⟩ : ∃ A, A = A1.alloc (.cells #[.int .i64 lo, .int .i64 hi] 43) := ⟨_, rfl⟩
  obtain ⟨A3, e3⟩ : ∃ A, A = A2.alloc (.cells #[.int .i64 gx, .int .i64 gy, .int .i64 size, .int .i64 wide, .int .i64 high, sl] 28) := ⟨_, rfl⟩
  have s1 : A1.heap.size = w.heap.size + 1 := by rw [e1]; exact World.size_alloc _ _
  have s2 : A2.heap.size = w.heap.size + 1 + 1 := by rw [e2, World.size_alloc, s1]
  have s3 : A3.heap.size = w.heap.size + 3 := by rw [e3, World.size_alloc, s2]
  have b1 : Below w.heap.size w A1 := by rw [e1]; exact below_alloc _ _
  have b2 : Below A1.heap.size A1 A2 := by rw [e2]; exact below_alloc _ _
  have b3 : Below A2.heap.size A2 A3 := by rw [e3]; exact below_alloc _ _
  have c13 : Below A1.heap.size A1 A3 := b2.trans (b3.mono (by omega))
  have S0 : SiteAt A1 w.heap.size nm x y z rose gates step width := by rw [e1]; exact SiteAt.new _ _ _ _ _ _ _ _ _
  have E0 : PairAt A2 (w.heap.size + 1) (.int .i64 lo) (.int .i64 hi) := by rw [e2, ← s1]; exact PairAt.new _ _ _ _
  have F0 : FieldAt A3 (w.heap.size + 1 + 1) gx gy size wide high sl := by rw [e3, ← s2]; exact FieldAt.new _ _ _ _ _ _ _
  rw [← e1, ← e2, ← e3]
  exact ⟨S0.keep c13 (by omega), E0.keep b3 (by omega), F0, by omega, b1.trans (c13.mono (by omega))⟩
theorem SEF.keep {w W w1 : World} {B : Nat} {nm : ByteArray} {x y z rose gates step width lo hi gx gy size wide high : Int} {sl : Value} (t : SEF w W nm x y z rose gates step width lo hi gx gy size wide high sl) (hb : Below B W w1) (h : w.heap.size + 3 ≤ B) : SEF w w1 nm x y z rose gates step width lo hi gx gy size wide high sl :=
  ⟨t.s.keep hb (by omega), t.e.keep hb (by omega), t.f.keep hb (by omega), Nat.le_trans t.z hb.size, t.b.trans (hb.mono (by omega))⟩

set_option maxRecDepth 100000 in
set_option maxHeartbeats 3200000 in
theorem Blocked_site (nm : ByteArray) (x y z rose gates step width lo hi gx gy size wide high : Int) (fa : Option Addr) (len cap : Nat) (zs : Nat → Int × Int) (t ray : Int) (w : World) (hs : nm.size ≤ maxLen) (hl : len ≤ 1000000) (hsl : SliceIs w fa len cap zs) (hne : (siteC nm x y z rose gates step width != 0) = true) :
    Calls Try.prog 46 #[.agg #[.string nm, .int .i64 x, .int .i64 y, .int .i64 z, .int .i64 rose, .int .i64 gates, .int .i64 step, .int .i64 width], .int .i64 t, .agg #[.int .i64 lo, .int .i64 hi], .agg #[.int .i64 gx, .int .i64 gy, .int .i64 size, .int .i64 wide, .int .i64 high, .slice fa len cap], .int .i64 ray] w fun e w' => e = .returned (.tuple #[.slice none 0 0, .int .i64 (siteC nm x y z rose gates step width)]) ∧ Below w.heap.size w w' := by
  have HS := Lib.hid hs
  have HSL := Lib.hid hsl
  clear hs hsl
  go_enter Try.func46, Try.ntmps46
  go_wp2_with fail
  refine (CheckSite_any _ _ _ _ _ _ _ _ _ HS.out).mono ?_; rintro e w1 ⟨rfl, hb1⟩
  have O1 := (SEF.new w nm x y z rose gates step width lo hi gx gy size wide high (.slice fa len cap)).keep hb1 (by simp)
  clear hb1
  obtain ⟨⟨k0, k1, k2, k3, k4, k5, k6, k7⟩, ⟨p0, p1⟩, ⟨f0, f1, f2, f3, f4, f5⟩, hz, hbw⟩ := O1
  have y0 : w.heap.size < w1.heap.size := by omega
  have y1 : w.heap.size + 1 < w1.heap.size := by omega
  have y2 : w.heap.size + 1 + 1 < w1.heap.size := by omega
  go_wp2
  go_ret2
  exact ⟨rfl, hbw⟩

set_option maxRecDepth 100000 in
set_option maxHeartbeats 3200000 in
theorem Blocked_ground (nm : ByteArray) (x y z rose gates step width lo hi gx gy size wide high : Int) (fa : Option Addr) (len cap : Nat) (zs : Nat → Int × Int) (t ray : Int) (w : World) (hs : nm.size ≤ maxLen) (hl : len ≤ 1000000) (hsl : SliceIs w fa len cap zs) (h0 : siteC nm x y z rose gates step width = 0) (hne : (fieldC gx gy size wide high len zs 20000 != 0) = true) :
    Calls Try.prog 46 #[.agg #[.string nm, .int .i64 x, .int .i64 y, .int .i64 z, .int .i64 rose, .int .i64 gates, .int .i64 step, .int .i64 width], .int .i64 t, .agg #[.int .i64 lo, .int .i64 hi], .agg #[.int .i64 gx, .int .i64 gy, .int .i64 size, .int .i64 wide, .int .i64 high, .slice fa len cap], .int .i64 ray] w fun e w' => e = .returned (.tuple #[.slice none 0 0, .int .i64 (fieldC gx gy size wide high len zs 20000)]) ∧ Below w.heap.size w w' := by
  have HS := Lib.hid hs
  have HSL := Lib.hid hsl
  clear hs hsl
  have H0 := Lib.hid h0
  clear h0
  go_enter Try.func46, Try.ntmps46
  go_wp2_with fail
  refine (CheckSite_any _ _ _ _ _ _ _ _ _ HS.out).mono ?_; rintro e w1 ⟨rfl, hb1⟩
  have O1 := (SEF.new w nm x y z rose gates step width lo hi gx gy size wide high (.slice fa len cap)).keep hb1 (by simp)
  clear hb1
  obtain ⟨⟨k0, k1, k2, k3, k4, k5, k6, k7⟩, ⟨p0, p1⟩, ⟨f0, f1, f2, f3, f4, f5⟩, hz, hbw⟩ := O1
  have y0 : w.heap.size < w1.heap.size := by omega
  have y1 : w.heap.size + 1 < w1.heap.size := by omega
  have y2 : w.heap.size + 1 + 1 < w1.heap.size := by omega
  rw [H0.out]
  go_wp2_with fail
  refine (checkGround_any _ _ _ _ _ fa len cap zs _ hl (HSL.out.keep hbw)).mono ?_; rintro e w2 ⟨rfl, hb2⟩
  have O2 := (⟨⟨k0, k1, k2, k3, k4, k5, k6, k7⟩, ⟨p0, p1⟩, ⟨f0, f1, f2, f3, f4, f5⟩, hz, hbw⟩ : SEF w w1 nm x y z rose gates step width lo hi gx gy size wide high (.slice fa len cap)).keep hb2 hz
  clear k0 k1 k2 k3 k4 k5 k6 k7 p0 p1 f0 f1 f2 f3 f4 f5 hz hbw y0 y1 y2 hb2
  obtain ⟨⟨k0, k1, k2, k3, k4, k5, k6, k7⟩, ⟨p0, p1⟩, ⟨f0, f1, f2, f3, f4, f5⟩, hz, hbw⟩ := O2
  have y0 : w.heap.size < w2.heap.size := by omega
  have y1 : w.heap.size + 1 < w2.heap.size := by omega
  have y2 : w.heap.size + 1 + 1 < w2.heap.size := by omega
  go_wp2
  go_ret2
  exact ⟨rfl, hbw⟩

set_option maxRecDepth 100000 in
set_option maxHeartbeats 3200000 in
theorem Blocked_no0 (nm : ByteArray) (x y z rose gates step width lo hi gx gy size wide high : Int) (fa : Option Addr) (len cap : Nat) (zs : Nat → Int × Int) (t ray : Int) (w : World) (hs : nm.size ≤ maxLen) (hl : len ≤ 1000000) (hsl : SliceIs w fa len cap zs) (h0 : siteC nm x y z rose gates step width = 0) (hk : SiteOk x y z rose gates step width) (hg : fieldC gx gy size wide high len zs 20000 = 0) (c0 : inB t 0 256 = false) :
    Calls Try.prog 46 #[.agg #[.string nm, .int .i64 x, .int .i64 y, .int .i64 z, .int .i64 rose, .int .i64 gates, .int .i64 step, .int .i64 width], .int .i64 t, .agg #[.int .i64 lo, .int .i64 hi], .agg #[.int .i64 gx, .int .i64 gy, .int .i64 size, .int .i64 wide, .int .i64 high, .slice fa len cap], .int .i64 ray] w fun e w' => e = .returned (.tuple #[.slice none 0 0, .int .i64 (3)]) ∧ Below w.heap.size w w' := by
  have HS := Lib.hid hs
  have HSL := Lib.hid hsl
  clear hs hsl
  have H0 := Lib.hid h0
  have HG := Lib.hid hg
  have r1 := hk.r1
  have r2 := hk.r2
  clear h0 hg hk
  go_enter Try.func46, Try.ntmps46
  go_wp2_with fail
  refine (CheckSite_any _ _ _ _ _ _ _ _ _ HS.out).mono ?_; rintro e w1 ⟨rfl, hb1⟩
  have O1 := (SEF.new w nm x y z rose gates step width lo hi gx gy size wide high (.slice fa len cap)).keep hb1 (by simp)
  clear hb1
  obtain ⟨⟨k0, k1, k2, k3, k4, k5, k6, k7⟩, ⟨p0, p1⟩, ⟨f0, f1, f2, f3, f4, f5⟩, hz, hbw⟩ := O1
  have y0 : w.heap.size < w1.heap.size := by omega
  have y1 : w.heap.size + 1 < w1.heap.size := by omega
  have y2 : w.heap.size + 1 + 1 < w1.heap.size := by omega
  rw [H0.out]
  go_wp2_with fail
  refine (checkGround_any _ _ _ _ _ fa len cap zs _ hl (HSL.out.keep hbw)).mono ?_; rintro e w2 ⟨rfl, hb2⟩
  have O2 := (⟨⟨k0, k1, k2, k3, k4, k5, k6, k7⟩, ⟨p0, p1⟩, ⟨f0, f1, f2, f3, f4, f5⟩, hz, hbw⟩ : SEF w w1 nm x y z rose gates step width lo hi gx gy size wide high (.slice fa len cap)).keep hb2 hz
  clear k0 k1 k2 k3 k4 k5 k6 k7 p0 p1 f0 f1 f2 f3 f4 f5 hz hbw y0 y1 y2 hb2
  obtain ⟨⟨k0, k1, k2, k3, k4, k5, k6, k7⟩, ⟨p0, p1⟩, ⟨f0, f1, f2, f3, f4, f5⟩, hz, hbw⟩ := O2
  have y0 : w.heap.size < w2.heap.size := by omega
  have y1 : w.heap.size + 1 < w2.heap.size := by omega
  have y2 : w.heap.size + 1 + 1 < w2.heap.size := by omega
  rw [HG.out]
  go_wp2_with fail
  refine (isTilt_any _ _).mono ?_; rintro e w' ⟨rfl, rfl⟩
  go_wp2
  go_ret2
  exact ⟨rfl, hbw⟩

set_option maxRecDepth 100000 in
set_option maxHeartbeats 3200000 in
theorem Blocked_no1 (nm : ByteArray) (x y z rose gates step width lo hi gx gy size wide high : Int) (fa : Option Addr) (len cap : Nat) (zs : Nat → Int × Int) (t ray : Int) (w : World) (hs : nm.size ≤ maxLen) (hl : len ≤ 1000000) (hsl : SliceIs w fa len cap zs) (h0 : siteC nm x y z rose gates step width = 0) (hk : SiteOk x y z rose gates step width) (hg : fieldC gx gy size wide high len zs 20000 = 0) (c0 : inB t 0 256 = true) (c1 : spanB lo hi 1000000 100000000 = false) :
    Calls Try.prog 46 #[.agg #[.string nm, .int .i64 x, .int .i64 y, .int .i64 z, .int .i64 rose, .int .i64 gates, .int .i64 step, .int .i64 width], .int .i64 t, .agg #[.int .i64 lo, .int .i64 hi], .agg #[.int .i64 gx, .int .i64 gy, .int .i64 size, .int .i64 wide, .int .i64 high, .slice fa len cap], .int .i64 ray] w fun e w' => e = .returned (.tuple #[.slice none 0 0, .int .i64 (3)]) ∧ Below w.heap.size w w' := by
  have HS := Lib.hid hs
  have HSL := Lib.hid hsl
  clear hs hsl
  have H0 := Lib.hid h0
  have HG := Lib.hid hg
  have r1 := hk.r1
  have r2 := hk.r2
  clear h0 hg hk
  go_enter Try.func46, Try.ntmps46
  go_wp2_with fail
  refine (CheckSite_any _ _ _ _ _ _ _ _ _ HS.out).mono ?_; rintro e w1 ⟨rfl, hb1⟩
  have O1 := (SEF.new w nm x y z rose gates step width lo hi gx gy size wide high (.slice fa len cap)).keep hb1 (by simp)
  clear hb1
  obtain ⟨⟨k0, k1, k2, k3, k4, k5, k6, k7⟩, ⟨p0, p1⟩, ⟨f0, f1, f2, f3, f4, f5⟩, hz, hbw⟩ := O1
  have y0 : w.heap.size < w1.heap.size := by omega
  have y1 : w.heap.size + 1 < w1.heap.size := by omega
  have y2 : w.heap.size + 1 + 1 < w1.heap.size := by omega
  rw [H0.out]
  go_wp2_with fail
  refine (checkGround_any _ _ _ _ _ fa len cap zs _ hl (HSL.out.keep hbw)).mono ?_; rintro e w2 ⟨rfl, hb2⟩
  have O2 := (⟨⟨k0, k1, k2, k3, k4, k5, k6, k7⟩, ⟨p0, p1⟩, ⟨f0, f1, f2, f3, f4, f5⟩, hz, hbw⟩ : SEF w w1 nm x y z rose gates step width lo hi gx gy size wide high (.slice fa len cap)).keep hb2 hz
  clear k0 k1 k2 k3 k4 k5 k6 k7 p0 p1 f0 f1 f2 f3 f4 f5 hz hbw y0 y1 y2 hb2
  obtain ⟨⟨k0, k1, k2, k3, k4, k5, k6, k7⟩, ⟨p0, p1⟩, ⟨f0, f1, f2, f3, f4, f5⟩, hz, hbw⟩ := O2
  have y0 : w.heap.size < w2.heap.size := by omega
  have y1 : w.heap.size + 1 < w2.heap.size := by omega
  have y2 : w.heap.size + 1 + 1 < w2.heap.size := by omega
  rw [HG.out]
  go_wp2_with fail
  refine (isTilt_any _ _).mono ?_; rintro e w' ⟨rfl, rfl⟩
  go_wp2_with fail
  refine (isEarth_any _ _ _).mono ?_; rintro e w3 ⟨rfl, hb3⟩
  have O3 := (⟨⟨k0, k1, k2, k3, k4, k5, k6, k7⟩, ⟨p0, p1⟩, ⟨f0, f1, f2, f3, f4, f5⟩, hz, hbw⟩ : SEF w w2 nm x y z rose gates step width lo hi gx gy size wide high (.slice fa len cap)).keep hb3 hz
  clear k0 k1 k2 k3 k4 k5 k6 k7 p0 p1 f0 f1 f2 f3 f4 f5 hz hbw y0 y1 y2 hb3
  obtain ⟨⟨k0, k1, k2, k3, k4, k5, k6, k7⟩, ⟨p0, p1⟩, ⟨f0, f1, f2, f3, f4, f5⟩, hz, hbw⟩ := O3
  have y0 : w.heap.size < w3.heap.size := by omega
  have y1 : w.heap.size + 1 < w3.heap.size := by omega
  have y2 : w.heap.size + 1 + 1 < w3.heap.size := by omega
  go_wp2
  go_ret2
  exact ⟨rfl, hbw⟩

set_option maxRecDepth 100000 in
set_option maxHeartbeats 3200000 in
theorem Blocked_no2 (nm : ByteArray) (x y z rose gates step width lo hi gx gy size wide high : Int) (fa : Option Addr) (len cap : Nat) (zs : Nat → Int × Int) (t ray : Int) (w : World) (hs : nm.size ≤ maxLen) (hl : len ≤ 1000000) (hsl : SliceIs w fa len cap zs) (h0 : siteC nm x y z rose gates step width = 0) (hk : SiteOk x y z rose gates step width) (hg : fieldC gx gy size wide high len zs 20000 = 0) (c0 : inB t 0 256 = true) (c1 : spanB lo hi 1000000 100000000 = true) (c2 : inB ray 0 (4 * rose - 1) = false) :
    Calls Try.prog 46 #[.agg #[.string nm, .int .i64 x, .int .i64 y, .int .i64 z, .int .i64 rose, .int .i64 gates, .int .i64 step, .int .i64 width], .int .i64 t, .agg #[.int .i64 lo, .int .i64 hi], .agg #[.int .i64 gx, .int .i64 gy, .int .i64 size, .int .i64 wide, .int .i64 high, .slice fa len cap], .int .i64 ray] w fun e w' => e = .returned (.tuple #[.slice none 0 0, .int .i64 (3)]) ∧ Below w.heap.size w w' := by
  have HS := Lib.hid hs
  have HSL := Lib.hid hsl
  clear hs hsl
  have H0 := Lib.hid h0
  have HG := Lib.hid hg
  have r1 := hk.r1
  have r2 := hk.r2
  clear h0 hg hk
  go_enter Try.func46, Try.ntmps46
  go_wp2_with fail
  refine (CheckSite_any _ _ _ _ _ _ _ _ _ HS.out).mono ?_; rintro e w1 ⟨rfl, hb1⟩
  have O1 := (SEF.new w nm x y z rose gates step width lo hi gx gy size wide high (.slice fa len cap)).keep hb1 (by simp)
  clear hb1
  obtain ⟨⟨k0, k1, k2, k3, k4, k5, k6, k7⟩, ⟨p0, p1⟩, ⟨f0, f1, f2, f3, f4, f5⟩, hz, hbw⟩ := O1
  have y0 : w.heap.size < w1.heap.size := by omega
  have y1 : w.heap.size + 1 < w1.heap.size := by omega
  have y2 : w.heap.size + 1 + 1 < w1.heap.size := by omega
  rw [H0.out]
  go_wp2_with fail
  refine (checkGround_any _ _ _ _ _ fa len cap zs _ hl (HSL.out.keep hbw)).mono ?_; rintro e w2 ⟨rfl, hb2⟩
  have O2 := (⟨⟨k0, k1, k2, k3, k4, k5, k6, k7⟩, ⟨p0, p1⟩, ⟨f0, f1, f2, f3, f4, f5⟩, hz, hbw⟩ : SEF w w1 nm x y z rose gates step width lo hi gx gy size wide high (.slice fa len cap)).keep hb2 hz
  clear k0 k1 k2 k3 k4 k5 k6 k7 p0 p1 f0 f1 f2 f3 f4 f5 hz hbw y0 y1 y2 hb2
  obtain ⟨⟨k0, k1, k2, k3, k4, k5, k6, k7⟩, ⟨p0, p1⟩, ⟨f0, f1, f2, f3, f4, f5⟩, hz, hbw⟩ := O2
  have y0 : w.heap.size < w2.heap.size := by omega
  have y1 : w.heap.size + 1 < w2.heap.size := by omega
  have y2 : w.heap.size + 1 + 1 < w2.heap.size := by omega
  rw [HG.out]
  go_wp2_with fail
  refine (isTilt_any _ _).mono ?_; rintro e w' ⟨rfl, rfl⟩
  go_wp2_with fail
  refine (isEarth_any _ _ _).mono ?_; rintro e w3 ⟨rfl, hb3⟩
  have O3 := (⟨⟨k0, k1, k2, k3, k4, k5, k6, k7⟩, ⟨p0, p1⟩, ⟨f0, f1, f2, f3, f4, f5⟩, hz, hbw⟩ : SEF w w2 nm x y z rose gates step width lo hi gx gy size wide high (.slice fa len cap)).keep hb3 hz
  clear k0 k1 k2 k3 k4 k5 k6 k7 p0 p1 f0 f1 f2 f3 f4 f5 hz hbw y0 y1 y2 hb3
  obtain ⟨⟨k0, k1, k2, k3, k4, k5, k6, k7⟩, ⟨p0, p1⟩, ⟨f0, f1, f2, f3, f4, f5⟩, hz, hbw⟩ := O3
  have y0 : w.heap.size < w3.heap.size := by omega
  have y1 : w.heap.size + 1 < w3.heap.size := by omega
  have y2 : w.heap.size + 1 + 1 < w3.heap.size := by omega
  go_wp2_with fail
  refine (isRay_any _ _ _ _ _ _ _ _ _ _ r1 r2).mono ?_; rintro e w4 ⟨rfl, hb4⟩
  have O4 := (⟨⟨k0, k1, k2, k3, k4, k5, k6, k7⟩, ⟨p0, p1⟩, ⟨f0, f1, f2, f3, f4, f5⟩, hz, hbw⟩ : SEF w w3 nm x y z rose gates step width lo hi gx gy size wide high (.slice fa len cap)).keep hb4 hz
  clear k0 k1 k2 k3 k4 k5 k6 k7 p0 p1 f0 f1 f2 f3 f4 f5 hz hbw y0 y1 y2 hb4
  obtain ⟨⟨k0, k1, k2, k3, k4, k5, k6, k7⟩, ⟨p0, p1⟩, ⟨f0, f1, f2, f3, f4, f5⟩, hz, hbw⟩ := O4
  have y0 : w.heap.size < w4.heap.size := by omega
  have y1 : w.heap.size + 1 < w4.heap.size := by omega
  have y2 : w.heap.size + 1 + 1 < w4.heap.size := by omega
  go_wp2
  go_ret2
  exact ⟨rfl, hbw⟩

/-- the threads that surely meet the ground, and those that perhaps do -/
def thrP (z step t width lo : Int) (GL : Nat → Int) (k j : Nat) : Bool := decide (climbHi z step (t - width + k) j lo ≤ GL j)
def thrQ (z step t width hi : Int) (GH : Nat → Int) (k j : Nat) : Bool := decide (climbLo z step (t - width + k) j hi ≤ GH j)
/-- what is counted so far -/
def sumsOf (p : Nat → Nat → Bool) (T j : Nat) : Int := (cnt (fun k => seen p k (j + 1)) T : Int)
theorem SpRow.spans {w : World} {b n : Nat} {L H : Nat → Int} (s : SpRow w b n L H) : SpansAt w b 0 n (fun j => (L j, H j)) := fun i hi => ⟨by rw [Nat.zero_add]; exact s.c0 i hi, by rw [Nat.zero_add]; exact s.c1 i hi⟩
theorem sums_of (b g T : Nat) (p q : Nat → Nat → Bool) (w : World) (hg : g ≤ 1000) (hT : T ≤ 1000) (hs : SpRow w b g (fun i => (cnt (fun k => fst p k i) T : Int)) (fun i => (cnt (fun k => fst q k i) T : Int))) (hb : b < w.heap.size) :
    Calls Try.prog 86 #[.slice (some ⟨b, 0, none⟩) g g] w fun e w' => e = .returned (.slice (some ⟨b, 0, none⟩) g g) ∧ SpRow w' b g (sumsOf p T) (sumsOf q T) ∧ b < w'.heap.size ∧ Below b w w' := by
  have z : ∀ (r : Nat → Nat → Bool) (n : Nat), cnt (fun k => seen r k 0) n = 0 := fun r n => by
    induction n with
    | zero => rfl
    | succ n ih => rw [cnt_no (q := fun k => seen r k 0) rfl, ih]
  have st : ∀ (r : Nat → Nat → Bool) (m : Nat), sumsOf r T (m + 1) = (cnt (fun k => fst r k (m + 1)) T : Int) + sumsOf r T m := fun r m => by
    unfold sumsOf; rw [cnt_seen r T (m + 1)]; omega
  have s0 : ∀ (r : Nat → Nat → Bool), sumsOf r T 0 = (cnt (fun k => fst r k 0) T : Int) := fun r => by
    unfold sumsOf; rw [cnt_seen r T 0, z]; omega
  refine sums_any b g _ _ (sumsOf p T) (sumsOf q T) w hg hs hb (fun _ => s0 p) (fun _ => s0 q) (fun m _ => st p m) (fun m _ => st q m) (fun m _ => ?_)
  have a1 := cnt_le (fun k => fst p k m) T
  have a2 := cnt_le (fun k => fst q k m) T
  have a3 := cnt_le (fun k => seen p k (m + 1)) T
  have a4 := cnt_le (fun k => seen q k (m + 1)) T
  unfold sumsOf
  omega

/-- the ground below the gates -/
def GndIs (x y rose step t ray gx gy size wide high : Int) (zs : Nat → Int × Int) (g : Nat) (GL GH : Nat → Int) : Prop :=
  ∀ j, j < g → (pixB gx gy size wide high (plX x rose step t ray j) (plY y rose step t ray j) = true → GL j = (zs (pixN gx gy size wide (plX x rose step t ray j) (plY y rose step t ray j)).toNat).1 ∧ GH j = (zs (pixN gx gy size wide (plX x rose step t ray j) (plY y rose step t ray j)).toNat).2) ∧ (pixB gx gy size wide high (plX x rose step t ray j) (plY y rose step t ray j) = false → GL j = 0 ∧ GH j = 20000)

def BlkRet (g : Nat) (L H : Nat → Int) (w : World) (e : Ending) (w' : World) : Prop :=
  ∃ b c : Nat, e = .returned (.tuple #[.slice (some ⟨b, 0, none⟩) g c, .int .i64 0]) ∧ SpansAt w' b 0 g (fun j => (L j, H j)) ∧ w.heap.size ≤ b ∧ b < w'.heap.size ∧ Below w.heap.size w w'

set_option maxRecDepth 100000 in
set_option maxHeartbeats 12800000 in
theorem Blocked_ok (nm : ByteArray) (x y z rose : Int) (g : Nat) (step width lo hi gx gy size wide high : Int) (fb off len cap : Nat) (zs : Nat → Int × Int) (t ray : Int) (T : Nat) (hT : (T : Int) = 2 * width + 1) (GL GH : Nat → Int) (w : World) (hs : nm.size ≤ maxLen) (hl : len ≤ 1000000) (hsp : SpansAt w fb off len zs) (hfb : fb < w.heap.size) (h0 : siteC nm x y z rose g step width = 0) (hk : SiteOk x y z rose g step width) (hg : fieldC gx gy size wide high len zs 20000 = 0) (c0 : inB t 0 256 = true) (c1 : spanB lo hi 1000000 100000000 = true) (c2 : inB ray 0 (4 * rose - 1) = true) (hG : GndIs x y rose step t ray gx gy size wide high zs g GL GH)
    (hpq : ∀ k j, k < T → j < g → thrP z step t width lo GL k j = true → thrQ z step t width hi GH k j = true) :
    Calls Try.prog 46 #[.agg #[.string nm, .int .i64 x, .int .i64 y, .int .i64 z, .int .i64 rose, .int .i64 (g : Nat), .int .i64 step, .int .i64 width], .int .i64 t, .agg #[.int .i64 lo, .int .i64 hi], .agg #[.int .i64 gx, .int .i64 gy, .int .i64 size, .int .i64 wide, .int .i64 high, .slice (some ⟨fb, off, none⟩) len cap], .int .i64 ray] w (BlkRet g (sumsOf (thrP z step t width lo GL) T) (sumsOf (thrQ z step t width hi GH) T) w) := by
  have HS := Lib.hid hs
  have HSL := Lib.hid (show SliceIs w (some ⟨fb, off, none⟩) len cap zs from .inr ⟨fb, off, rfl, hfb, hsp⟩)
  have HSP := Lib.hid hsp
  have H0 := Lib.hid h0
  have HG := Lib.hid hg
  obtain ⟨hg1, hg2, _⟩ := ground_zero hg
  obtain ⟨t1, t2⟩ := inB_true.1 c0
  obtain ⟨e1, e0, e4⟩ := spanB_true.1 c1
  obtain ⟨v1, v2⟩ := inB_true.1 c2
  have r1 := hk.r1
  have r2 := hk.r2
  have gg := hk.g2
  have tT := cnt_le
  have HGB := Lib.hid (fun (wx : World) (hb : Below w.heap.size w wx) => groundBelow_any nm x y z rose g step width t ray gx gy size wide high fb off len cap zs GL GH wx hk t1 t2 v1 (by omega) hg1 hg2 (hsp.keep hb hfb) (Nat.lt_of_lt_of_le hfb hb.size) hG)
  have HMT := Lib.hid (fun (b1 : Nat) (wx : World) (hr : SpRow wx b1 g GL GH) (hb : b1 < wx.heap.size) => met_any nm x y z rose g step width t lo hi g b1 T GL GH (thrP z step t width lo GL) (thrQ z step t width hi GH) wx hT hk.d1 hk.d2 t1 t2 hk.s1 hk.s2 hk.z1 hk.z2 e1 (by omega) (by omega) e4 (by omega) hr hb (fun _ _ => rfl) (fun _ _ => rfl) hpq)
  have HSM := Lib.hid (fun (b2 : Nat) (wx : World) (hr : SpRow wx b2 g (fun i => (cnt (fun k => fst (thrP z step t width lo GL) k i) T : Int)) (fun i => (cnt (fun k => fst (thrQ z step t width hi GH) k i) T : Int))) (hb : b2 < wx.heap.size) => sums_of b2 g T (thrP z step t width lo GL) (thrQ z step t width hi GH) wx (by omega) (by have := hk.d2; omega) hr hb)
  clear hs hsp h0 hg hg1 hg2 hk hG hpq hT
  go_enter Try.func46, Try.ntmps46
  go_wp2_with fail
  refine (CheckSite_any _ _ _ _ _ _ _ _ _ HS.out).mono ?_; rintro e w1 ⟨rfl, hb1⟩
  have O1 := (SEF.new w nm x y z rose g step width lo hi gx gy size wide high (.slice (some ⟨fb, off, none⟩) len cap)).keep hb1 (by simp)
  clear hb1
  obtain ⟨⟨k0, k1, k2, k3, k4, k5, k6, k7⟩, ⟨p0, p1⟩, ⟨f0, f1, f2, f3, f4, f5⟩, hz, hbw⟩ := O1
  have y0 : w.heap.size < w1.heap.size := by omega
  have y1 : w.heap.size + 1 < w1.heap.size := by omega
  have y2 : w.heap.size + 1 + 1 < w1.heap.size := by omega
  rw [H0.out]
  go_wp2_with fail
  refine (checkGround_any _ _ _ _ _ (some ⟨fb, off, none⟩) len cap zs _ hl (HSL.out.keep hbw)).mono ?_; rintro e w2 ⟨rfl, hb2⟩
  have O2 := (⟨⟨k0, k1, k2, k3, k4, k5, k6, k7⟩, ⟨p0, p1⟩, ⟨f0, f1, f2, f3, f4, f5⟩, hz, hbw⟩ : SEF w w1 nm x y z rose g step width lo hi gx gy size wide high (.slice (some ⟨fb, off, none⟩) len cap)).keep hb2 hz
  clear k0 k1 k2 k3 k4 k5 k6 k7 p0 p1 f0 f1 f2 f3 f4 f5 hz hbw y0 y1 y2 hb2
  obtain ⟨⟨k0, k1, k2, k3, k4, k5, k6, k7⟩, ⟨p0, p1⟩, ⟨f0, f1, f2, f3, f4, f5⟩, hz, hbw⟩ := O2
  have y0 : w.heap.size < w2.heap.size := by omega
  have y1 : w.heap.size + 1 < w2.heap.size := by omega
  have y2 : w.heap.size + 1 + 1 < w2.heap.size := by omega
  rw [HG.out]
  go_wp2_with fail
  refine (isTilt_any _ _).mono ?_; rintro e w' ⟨rfl, rfl⟩
  go_wp2_with fail
  refine (isEarth_any _ _ _).mono ?_; rintro e w3 ⟨rfl, hb3⟩
  have O3 := (⟨⟨k0, k1, k2, k3, k4, k5, k6, k7⟩, ⟨p0, p1⟩, ⟨f0, f1, f2, f3, f4, f5⟩, hz, hbw⟩ : SEF w w2 nm x y z rose g step width lo hi gx gy size wide high (.slice (some ⟨fb, off, none⟩) len cap)).keep hb3 hz
  clear k0 k1 k2 k3 k4 k5 k6 k7 p0 p1 f0 f1 f2 f3 f4 f5 hz hbw y0 y1 y2 hb3
  obtain ⟨⟨k0, k1, k2, k3, k4, k5, k6, k7⟩, ⟨p0, p1⟩, ⟨f0, f1, f2, f3, f4, f5⟩, hz, hbw⟩ := O3
  have y0 : w.heap.size < w3.heap.size := by omega
  have y1 : w.heap.size + 1 < w3.heap.size := by omega
  have y2 : w.heap.size + 1 + 1 < w3.heap.size := by omega
  go_wp2_with fail
  refine (isRay_any _ _ _ _ _ _ _ _ _ _ r1 r2).mono ?_; rintro e w4 ⟨rfl, hb4⟩
  have O4 := (⟨⟨k0, k1, k2, k3, k4, k5, k6, k7⟩, ⟨p0, p1⟩, ⟨f0, f1, f2, f3, f4, f5⟩, hz, hbw⟩ : SEF w w3 nm x y z rose g step width lo hi gx gy size wide high (.slice (some ⟨fb, off, none⟩) len cap)).keep hb4 hz
  clear k0 k1 k2 k3 k4 k5 k6 k7 p0 p1 f0 f1 f2 f3 f4 f5 hz hbw y0 y1 y2 hb4
  obtain ⟨⟨k0, k1, k2, k3, k4, k5, k6, k7⟩, ⟨p0, p1⟩, ⟨f0, f1, f2, f3, f4, f5⟩, hz, hbw⟩ := O4
  have y0 : w.heap.size < w4.heap.size := by omega
  have y1 : w.heap.size + 1 < w4.heap.size := by omega
  have y2 : w.heap.size + 1 + 1 < w4.heap.size := by omega
  have LEAD := Lib.hid (show (fun w' : World => w'.cell? ⟨w.heap.size, 0, none⟩ = some (.string nm) ∧ w'.cell? ⟨w.heap.size, 1, none⟩ = some (.int .i64 x) ∧ w'.cell? ⟨w.heap.size, 2, none⟩ = some (.int .i64 y) ∧ w'.cell? ⟨w.heap.size, 3, none⟩ = some (.int .i64 z) ∧ w'.cell? ⟨w.heap.size, 4, none⟩ = some (.int .i64 rose) ∧ w'.cell? ⟨w.heap.size, 5, none⟩ = some (.int .i64 (g : Nat)) ∧ w'.cell? ⟨w.heap.size, 6, none⟩ = some (.int .i64 step) ∧ w'.cell? ⟨w.heap.size, 7, none⟩ = some (.int .i64 width) ∧ w'.cell? ⟨w.heap.size + 1, 0, none⟩ = some (.int .i64 lo) ∧ w'.cell? ⟨w.heap.size + 1, 1, none⟩ = some (.int .i64 hi) ∧ w'.cell? ⟨w.heap.size + 1 + 1, 0, none⟩ = some (.int .i64 gx) ∧ w'.cell? ⟨w.heap.size + 1 + 1, 1, none⟩ = some (.int .i64 gy) ∧ w'.cell? ⟨w.heap.size + 1 + 1, 2, none⟩ = some (.int .i64 size) ∧ w'.cell? ⟨w.heap.size + 1 + 1, 3, none⟩ = some (.int .i64 wide) ∧ w'.cell? ⟨w.heap.size + 1 + 1, 4, none⟩ = some (.int .i64 high) ∧ w'.cell? ⟨w.heap.size + 1 + 1, 5, none⟩ = some (.slice (some ⟨fb, off, none⟩) len cap) ∧ w.heap.size + 1 + 1 < w'.heap.size ∧ Below w.heap.size w w') w4.drew from ⟨k0, k1, k2, k3, k4, k5, k6, k7, p0, p1, f0, f1, f2, f3, f4, f5, y2, hbw.drew⟩)
  clear y0 y1 y2
  go_wp2
  clear k0 k1 k2 k3 k4 k5 k6 k7 p0 p1 f0 f1 f2 f3 f4 f5 hz hbw
  go_region_held3 (fun w' => w'.cell? ⟨w.heap.size, 0, none⟩ = some (.string nm) ∧ w'.cell? ⟨w.heap.size, 1, none⟩ = some (.int .i64 x) ∧ w'.cell? ⟨w.heap.size, 2, none⟩ = some (.int .i64 y) ∧ w'.cell? ⟨w.heap.size, 3, none⟩ = some (.int .i64 z) ∧ w'.cell? ⟨w.heap.size, 4, none⟩ = some (.int .i64 rose) ∧ w'.cell? ⟨w.heap.size, 5, none⟩ = some (.int .i64 (g : Nat)) ∧ w'.cell? ⟨w.heap.size, 6, none⟩ = some (.int .i64 step) ∧ w'.cell? ⟨w.heap.size, 7, none⟩ = some (.int .i64 width) ∧ w'.cell? ⟨w.heap.size + 1, 0, none⟩ = some (.int .i64 lo) ∧ w'.cell? ⟨w.heap.size + 1, 1, none⟩ = some (.int .i64 hi) ∧ w'.cell? ⟨w.heap.size + 1 + 1, 0, none⟩ = some (.int .i64 gx) ∧ w'.cell? ⟨w.heap.size + 1 + 1, 1, none⟩ = some (.int .i64 gy) ∧ w'.cell? ⟨w.heap.size + 1 + 1, 2, none⟩ = some (.int .i64 size) ∧ w'.cell? ⟨w.heap.size + 1 + 1, 3, none⟩ = some (.int .i64 wide) ∧ w'.cell? ⟨w.heap.size + 1 + 1, 4, none⟩ = some (.int .i64 high) ∧ w'.cell? ⟨w.heap.size + 1 + 1, 5, none⟩ = some (.slice (some ⟨fb, off, none⟩) len cap) ∧ w.heap.size + 1 + 1 < w'.heap.size ∧ Below w.heap.size w w')
    (first | exact LEAD.out | (go_split_ands; refine ⟨?_, ?_, ?_, ?_, ?_, ?_, ?_, ?_, ?_, ?_, ?_, ?_, ?_, ?_, ?_, ?_, ?_, ?_⟩ <;> first | assumption | exact keepB hb4 (by omega) (by assumption) | (have := hb4.size; omega) | exact Below.trans (by assumption) (hb4.mono (by omega))))
    (first | (go_at_call 88; go_split_ands; refine (HGB.out _ (by assumption)).mono ?_; rintro e w5 ⟨b1, rfl, hr1, hl1, hm1, hb4⟩) | (go_at_call 87; go_split_ands; refine (HMT.out _ _ (by assumption) (by assumption)).mono ?_; rintro e w6 ⟨b2, rfl, hr2, hl2, hm2, hb4⟩) | (go_at_call 86; go_split_ands; refine (HSM.out _ _ (by assumption) (by assumption)).mono ?_; rintro e w7 ⟨rfl, hr3, hm3, hb4⟩))
  go_split_ands
  go_wp2
  go_ret2
  exact ⟨_, _, rfl, hr3.spans, by omega, hm3, by assumption⟩

end Go.Proofs.Ythnjfnapjpdchaa

namespace Go.Proofs.Ythnjfnapjpdchaa
open Go.RowKit
set_option linter.unusedVariables false

set_option maxHeartbeats 400000 in
theorem G_any (w : World) :
    Calls Try.prog 55 #[] w fun e w' => e = .returned (.agg #[.int .i64 (-5000), .int .i64 (-5000), .int .i64 5000, .int .i64 2, .int .i64 2]) ∧ Below w.heap.size w w' := by
  go_enter Try.func55, Try.ntmps55
  go_wp2
  exact bodyPost_ret (v := .agg #[.int .i64 (-5000), .int .i64 (-5000), .int .i64 5000, .int .i64 2, .int .i64 2]) (by simp [results, Try.results55, go_sem]) rfl ⟨rfl, by repeat (first | exact Below.refl _ _ | (refine Below.setCell ?_ (by simp) _) | (refine Below.alloc ?_ (by simp) _))⟩

theorem set_other {w : World} {b i j : Nat} {v x : Value} (h : i ≠ j) (hc : w.cell? ⟨b, j, none⟩ = some x) : (w.setCell ⟨b, i, none⟩ v).cell? ⟨b, j, none⟩ = some x := by
  rw [World.cell?_setCell_other _ _ _ _ (fun e => h (by injection e))]; exact hc
theorem set_same {w : World} {b i : Nat} {v x : Value} (hc : w.cell? ⟨b, i, none⟩ = some x) : (w.setCell ⟨b, i, none⟩ v).cell? ⟨b, i, none⟩ = some v :=
  World.cell?_setCell_same' _ _ _ (by rw [hc]; rfl)

/-- the spans of the examples' field -/
def zsH (i : Nat) : Int × Int := if i = 3 then (150, 200) else (0, 0)

/-- what Hill answers -/
def HillRet (w : World) (e : Ending) (w' : World) : Prop := ∃ b : Nat, e = .returned (.agg #[.int .i64 (-5000), .int .i64 (-5000), .int .i64 5000, .int .i64 2, .int .i64 2, .slice (some ⟨b, 0, none⟩) 4 4]) ∧ SliceIs w' (some ⟨b, 0, none⟩) 4 4 zsH ∧ Below w.heap.size w w'

set_option maxHeartbeats 1600000 in
theorem Hill_any (w : World) : Calls Try.prog 24 #[] w (HillRet w) := by
  go_enter Try.func24, Try.ntmps24
  go_wp2_with fail
  refine (G_any _).mono ?_; rintro e w1 ⟨rfl, hb1⟩
  have hz := hb1.size
  simp only [World.size_alloc] at hz
  have y0 : w.heap.size < w1.heap.size := by omega
  have hbw : Below w.heap.size w w1 := Below.trans (below_alloc _ _) (hb1.mono (by simp))
  have H1 := Lib.hid hb1
  obtain ⟨hc, hf⟩ := bcell hb1
  clear hb1
  go_wp2
  have hb1 := H1.out
  have k0 : w1.cell? ⟨w.heap.size, 0, none⟩ = some (.int .i64 0) := keepB hb1 (by simp) (alloc_new rfl rfl)
  have k1 : w1.cell? ⟨w.heap.size, 1, none⟩ = some (.int .i64 0) := keepB hb1 (by simp) (alloc_new rfl rfl)
  have k2 : w1.cell? ⟨w.heap.size, 2, none⟩ = some (.int .i64 0) := keepB hb1 (by simp) (alloc_new rfl rfl)
  have k3 : w1.cell? ⟨w.heap.size, 3, none⟩ = some (.int .i64 0) := keepB hb1 (by simp) (alloc_new rfl rfl)
  have k4 : w1.cell? ⟨w.heap.size, 4, none⟩ = some (.int .i64 0) := keepB hb1 (by simp) (alloc_new rfl rfl)
  have k5 : w1.cell? ⟨w.heap.size, 5, none⟩ = some (.slice none 0 0) := keepB hb1 (by simp) (alloc_new rfl rfl)
  obtain ⟨X, hX⟩ : ∃ X : World, X = ((((((w1.setCell ⟨w.heap.size, 0, none⟩ (.int .i64 (-5000))).setCell ⟨w.heap.size, 1, none⟩ (.int .i64 (-5000))).setCell ⟨w.heap.size, 2, none⟩ (.int .i64 5000)).setCell ⟨w.heap.size, 3, none⟩ (.int .i64 2)).setCell ⟨w.heap.size, 4, none⟩ (.int .i64 2)).setCell ⟨w.heap.size, 5, none⟩ (.slice (some ⟨w1.heap.size, 0, none⟩) 4 4)) := ⟨_, rfl⟩
  have hsz : X.heap.size = w1.heap.size := by rw [hX]; simp
  have hXb : Below w.heap.size w X := by
    rw [hX]
    exact ((((((hbw.setCell (p := ⟨w.heap.size, 0, none⟩) (Nat.le_refl _) _).setCell (p := ⟨w.heap.size, 1, none⟩) (Nat.le_refl _) _).setCell (p := ⟨w.heap.size, 2, none⟩) (Nat.le_refl _) _).setCell (p := ⟨w.heap.size, 3, none⟩) (Nat.le_refl _) _).setCell (p := ⟨w.heap.size, 4, none⟩) (Nat.le_refl _) _).setCell (p := ⟨w.heap.size, 5, none⟩) (Nat.le_refl _) _)
  have c0 : X.cell? ⟨w.heap.size, 0, none⟩ = some (.int .i64 (-5000)) := by rw [hX]; exact (set_other (by decide) (set_other (by decide) (set_other (by decide) (set_other (by decide) (set_other (by decide) (set_same k0))))))
  have c1 : X.cell? ⟨w.heap.size, 1, none⟩ = some (.int .i64 (-5000)) := by rw [hX]; exact (set_other (by decide) (set_other (by decide) (set_other (by decide) (set_other (by decide) (set_same (set_other (by decide) k1))))))
  have c2 : X.cell? ⟨w.heap.size, 2, none⟩ = some (.int .i64 5000) := by rw [hX]; exact (set_other (by decide) (set_other (by decide) (set_other (by decide) (set_same (set_other (by decide) (set_other (by decide) k2))))))
  have c3 : X.cell? ⟨w.heap.size, 3, none⟩ = some (.int .i64 2) := by rw [hX]; exact (set_other (by decide) (set_other (by decide) (set_same (set_other (by decide) (set_other (by decide) (set_other (by decide) k3))))))
  have c4 : X.cell? ⟨w.heap.size, 4, none⟩ = some (.int .i64 2) := by rw [hX]; exact (set_other (by decide) (set_same (set_other (by decide) (set_other (by decide) (set_other (by decide) (set_other (by decide) k4))))))
  have c5 : X.cell? ⟨w.heap.size, 5, none⟩ = some (.slice (some ⟨w1.heap.size, 0, none⟩) 4 4) := by rw [hX]; exact (set_same (set_other (by decide) (set_other (by decide) (set_other (by decide) (set_other (by decide) (set_other (by decide) k5))))))
  rw [← hX]
  have d0 := alloc_keep (o := .cells #[.int .i64 0, .int .i64 0, .int .i64 0, .int .i64 0, .int .i64 0, .int .i64 0, .int .i64 150, .int .i64 200] 43) (by omega) c0
  have d1 := alloc_keep (o := .cells #[.int .i64 0, .int .i64 0, .int .i64 0, .int .i64 0, .int .i64 0, .int .i64 0, .int .i64 150, .int .i64 200] 43) (by omega) c1
  have d2 := alloc_keep (o := .cells #[.int .i64 0, .int .i64 0, .int .i64 0, .int .i64 0, .int .i64 0, .int .i64 0, .int .i64 150, .int .i64 200] 43) (by omega) c2
  have d3 := alloc_keep (o := .cells #[.int .i64 0, .int .i64 0, .int .i64 0, .int .i64 0, .int .i64 0, .int .i64 0, .int .i64 150, .int .i64 200] 43) (by omega) c3
  have d4 := alloc_keep (o := .cells #[.int .i64 0, .int .i64 0, .int .i64 0, .int .i64 0, .int .i64 0, .int .i64 0, .int .i64 150, .int .i64 200] 43) (by omega) c4
  have d5 := alloc_keep (o := .cells #[.int .i64 0, .int .i64 0, .int .i64 0, .int .i64 0, .int .i64 0, .int .i64 0, .int .i64 150, .int .i64 200] 43) (by omega) c5
  refine bodyPost_ret (v := .agg #[.int .i64 (-5000), .int .i64 (-5000), .int .i64 5000, .int .i64 2, .int .i64 2, .slice (some ⟨w1.heap.size, 0, none⟩) 4 4]) (by simp [results, Try.results24, go_sem, d0, d1, d2, d3, d4, d5]) rfl ⟨w1.heap.size, rfl, .inr ⟨w1.heap.size, 0, rfl, by simp only [World.size_alloc]; omega, fun i hi => ?_⟩, hXb.alloc (by omega) _⟩
  have hi' : i = 0 ∨ i = 1 ∨ i = 2 ∨ i = 3 := by omega
  rcases hi' with rfl | rfl | rfl | rfl <;> exact ⟨alloc_new (by omega) rfl, alloc_new (by omega) rfl⟩

theorem hill_C : fieldC (-5000) (-5000) 5000 2 2 4 zsH 1073741824 = 0 := by
  rw [fieldC_spans (by decide) (by decide), spansC_ok]
  intro j hj
  have hj' : j = 0 ∨ j = 1 ∨ j = 2 ∨ j = 3 := by omega
  rcases hj' with rfl | rfl | rfl | rfl <;> decide

theorem CheckField_Hill (b : Nat) (w : World) (hs : SliceIs w (some ⟨b, 0, none⟩) 4 4 zsH) :
    Calls Try.prog 21 #[.agg #[.int .i64 (-5000), .int .i64 (-5000), .int .i64 5000, .int .i64 2, .int .i64 2, .slice (some ⟨b, 0, none⟩) 4 4]] w fun e w' => e = .returned (.int .i64 0) ∧ Below w.heap.size w w' := by
  have h := CheckField_any (-5000) (-5000) 5000 2 2 (some ⟨b, 0, none⟩) 4 4 zsH w (by decide) hs
  rw [hill_C] at h
  exact h

end Go.Proofs.Ythnjfnapjpdchaa

namespace Go.Proofs.Ythnjfnapjpdchaa
open Go.RowKit
set_option linter.unusedVariables false

/-- between i and j lies the least number that passes -/
def SrchRel (n : Nat) (p : Nat → Bool) (i j : Nat) : Prop := i ≤ j ∧ j ≤ n ∧ (∀ k, k < i → p k = false) ∧ (∀ k, j ≤ k → k < n → p k = true)
/-- the number that Search answers -/
def SrchIs (n : Nat) (p : Nat → Bool) (r : Nat) : Prop := r ≤ n ∧ (∀ k, k < r → p k = false) ∧ (∀ k, r ≤ k → k < n → p k = true)

/-- what Search answers -/
def SrchRet (n : Nat) (p : Nat → Bool) (w : World) (e : Ending) (w' : World) : Prop := ∃ r : Nat, SrchIs n p r ∧ e = .returned (.int .i64 r) ∧ Below w.heap.size w w'

theorem srch_yes {n : Nat} {p : Nat → Bool} {a b m : Nat} (hmono : ∀ i j, i ≤ j → j < n → p i = true → p j = true) (h : SrchRel n p a b) (h1 : a ≤ m) (h2 : m < b) (hp : p m = true) : SrchRel n p a m := by
  obtain ⟨g1, g2, g3, g4⟩ := h
  exact ⟨h1, by omega, g3, fun k k1 k2 => hmono m k k1 k2 hp⟩
theorem srch_no {n : Nat} {p : Nat → Bool} {a b m : Nat} (hmono : ∀ i j, i ≤ j → j < n → p i = true → p j = true) (h : SrchRel n p a b) (h1 : a ≤ m) (h2 : m < b) (hp : p m = false) : SrchRel n p (m + 1) b := by
  obtain ⟨g1, g2, g3, g4⟩ := h
  refine ⟨by omega, g2, fun k hk => ?_, g4⟩
  cases e : p k
  · rfl
  · have := hmono k m (by omega) (by omega) e
    rw [hp] at this; cases this
theorem srch_end {n : Nat} {p : Nat → Bool} {a b : Nat} (h : SrchRel n p a b) (h1 : ¬ a < b) : SrchIs n p a := by
  obtain ⟨g1, g2, g3, g4⟩ := h
  exact ⟨by omega, g3, fun k k1 k2 => g4 k (by omega) k2⟩

set_option maxHeartbeats 1600000 in
theorem isBefore_any (a b c d : Int) (w : World) (h1 : -1000000000000000 ≤ d * a ∧ d * a ≤ 1000000000000000) (h2 : -1000000000000000 ≤ c * b ∧ c * b ≤ 1000000000000000) :
    Calls Try.prog 103 #[.agg #[.int .i64 a, .int .i64 b], .agg #[.int .i64 c, .int .i64 d]] w
      fun e w' => e = .returned (.bool (decide (d * a < c * b))) ∧ Below w.heap.size w w' := by
  go_enter Try.func103, Try.ntmps103
  go_wp2
  go_ret
  exact ⟨rfl, by repeat (first | exact Below.refl _ _ | (refine Below.alloc ?_ (by simp) _))⟩

set_option maxHeartbeats 1600000 in
theorem Search97 (n : Nat) (c1 c2 : Value) (p : Nat → Bool) (w : World) (hn : n ≤ 1000000) (hmono : ∀ i j, i ≤ j → j < n → p i = true → p j = true)
    (hf : ∀ (k : Nat) (wr : World), k < n → Below w.heap.size w wr → Calls Try.prog 97 #[.int .i64 k, c1, c2] wr fun e w' => e = .returned (.bool (p k)) ∧ Below wr.heap.size wr w') :
    Calls Try.prog 96 #[.int .i64 n, .func (Fn.func 97) #[] #[c1, c2]] w (SrchRet n p w) := by
  have HF := Lib.hid hf
  have HM := Lib.hid hmono
  clear hf hmono
  go_enter Try.func96, Try.ntmps96
  go_wp2
  go_loopw [5, 6] (fun i j wr => ∃ a b : Nat, SrchRel n p a b ∧ i = .int .i64 a ∧ j = .int .i64 b ∧ Below w.heap.size w wr) (fun i j _ => (intOf j).toNat - (intOf i).toNat)
  case atStart => exact ⟨0, n, ⟨Nat.zero_le _, Nat.le_refl _, fun k hk => by omega, fun k h1 h2 => by omega⟩, rfl, rfl, Below.refl _ _⟩
  case round =>
    obtain ⟨a, b, hrel, rfl, rfl, hbw⟩ := hrel
    have h1 : a ≤ b := hrel.1
    have h2 : b ≤ n := hrel.2.1
    have HR := Lib.hid hrel
    clear hrel
    by_cases hlt : a < b
    · have e1 : ((a : Int) + (b : Int)) / 2 = (((a + b) / 2 : Nat) : Int) := by omega
      have E1 := Lib.hid e1
      clear e1
      obtain ⟨m, hm⟩ : ∃ m, m = (a + b) / 2 := ⟨_, rfl⟩
      have m1 : a ≤ m := by omega
      have m2 : m < b := by omega
      have HFm := Lib.hid (HF.out m wr (by omega) hbw)
      have HM2 := Lib.hid hm
      clear hm
      rcases (Bool.eq_false_or_eq_true (p m)).symm with hp | hp
      · have HR2 := Lib.hid (srch_no HM.out HR.out m1 m2 hp)
        rw [hp] at HFm
        clear hp
        go_wp2_with fail
        rw [E1.out, ← HM2.out]
        refine (HFm.out).mono ?_; rintro e w1 ⟨rfl, hb1⟩
        have hbw2 := hbw.trans (hb1.mono hbw.size)
        clear hb1
        go_wp2
        go_roundw
        case rel => exact ⟨m + 1, b, HR2.out, by go_num, rfl, hbw2⟩
        case measure => simp [intOf]; omega
      · have HR2 := Lib.hid (srch_yes HM.out HR.out m1 m2 hp)
        rw [hp] at HFm
        clear hp
        go_wp2_with fail
        rw [E1.out, ← HM2.out]
        refine (HFm.out).mono ?_; rintro e w1 ⟨rfl, hb1⟩
        have hbw2 := hbw.trans (hb1.mono hbw.size)
        clear hb1
        go_wp2
        go_roundw
        case rel => exact ⟨a, m, HR2.out, rfl, rfl, hbw2⟩
        case measure => simp [intOf]; omega
    · have HS := Lib.hid (srch_end HR.out hlt)
      go_wp2
      go_ret
      exact ⟨a, HS.out, rfl, hbw⟩

set_option maxHeartbeats 1600000 in
theorem Search102 (n : Nat) (c1 c2 : Value) (p : Nat → Bool) (w : World) (hn : n ≤ 1000000) (hmono : ∀ i j, i ≤ j → j < n → p i = true → p j = true)
    (hf : ∀ (k : Nat) (wr : World), k < n → Below w.heap.size w wr → Calls Try.prog 102 #[.int .i64 k, c1, c2] wr fun e w' => e = .returned (.bool (p k)) ∧ Below wr.heap.size wr w') :
    Calls Try.prog 96 #[.int .i64 n, .func (Fn.func 102) #[] #[c1, c2]] w (SrchRet n p w) := by
  have HF := Lib.hid hf
  have HM := Lib.hid hmono
  clear hf hmono
  go_enter Try.func96, Try.ntmps96
  go_wp2
  go_loopw [5, 6] (fun i j wr => ∃ a b : Nat, SrchRel n p a b ∧ i = .int .i64 a ∧ j = .int .i64 b ∧ Below w.heap.size w wr) (fun i j _ => (intOf j).toNat - (intOf i).toNat)
  case atStart => exact ⟨0, n, ⟨Nat.zero_le _, Nat.le_refl _, fun k hk => by omega, fun k h1 h2 => by omega⟩, rfl, rfl, Below.refl _ _⟩
  case round =>
    obtain ⟨a, b, hrel, rfl, rfl, hbw⟩ := hrel
    have h1 : a ≤ b := hrel.1
    have h2 : b ≤ n := hrel.2.1
    have HR := Lib.hid hrel
    clear hrel
    by_cases hlt : a < b
    · have e1 : ((a : Int) + (b : Int)) / 2 = (((a + b) / 2 : Nat) : Int) := by omega
      have E1 := Lib.hid e1
      clear e1
      obtain ⟨m, hm⟩ : ∃ m, m = (a + b) / 2 := ⟨_, rfl⟩
      have m1 : a ≤ m := by omega
      have m2 : m < b := by omega
      have HFm := Lib.hid (HF.out m wr (by omega) hbw)
      have HM2 := Lib.hid hm
      clear hm
      rcases (Bool.eq_false_or_eq_true (p m)).symm with hp | hp
      · have HR2 := Lib.hid (srch_no HM.out HR.out m1 m2 hp)
        rw [hp] at HFm
        clear hp
        go_wp2_with fail
        rw [E1.out, ← HM2.out]
        refine (HFm.out).mono ?_; rintro e w1 ⟨rfl, hb1⟩
        have hbw2 := hbw.trans (hb1.mono hbw.size)
        clear hb1
        go_wp2
        go_roundw
        case rel => exact ⟨m + 1, b, HR2.out, by go_num, rfl, hbw2⟩
        case measure => simp [intOf]; omega
      · have HR2 := Lib.hid (srch_yes HM.out HR.out m1 m2 hp)
        rw [hp] at HFm
        clear hp
        go_wp2_with fail
        rw [E1.out, ← HM2.out]
        refine (HFm.out).mono ?_; rintro e w1 ⟨rfl, hb1⟩
        have hbw2 := hbw.trans (hb1.mono hbw.size)
        clear hb1
        go_wp2
        go_roundw
        case rel => exact ⟨a, m, HR2.out, rfl, rfl, hbw2⟩
        case measure => simp [intOf]; omega
    · have HS := Lib.hid (srch_end HR.out hlt)
      go_wp2
      go_ret
      exact ⟨a, HS.out, rfl, hbw⟩

end Go.Proofs.Ythnjfnapjpdchaa
