/-
  The walk over BeamSectors.
-/
import Derived.Test.YthnjfnapjpdchaaW8
import Derived.Test.YthnjfnapjpdchaaR
import Derived.Test.YthnjfnapjpdchaaC
namespace Go.Proofs.Ythnjfnapjpdchaa
open Go.RowKit
set_option linter.unusedVariables false

/-- a site in a box -/
structure One (w w' : World) (nm : ByteArray) (x y z rose gates step width : Int) : Prop where
  s : SiteAt w' w.heap.size nm x y z rose gates step width
  z : w.heap.size + 1 ≤ w'.heap.size
  b : Below w.heap.size w w'
theorem One.new (w : World) (nm : ByteArray) (x y z rose gates step width : Int) : One w (w.alloc (.cells #[.string nm, .int .i64 x, .int .i64 y, .int .i64 z, .int .i64 rose, .int .i64 gates, .int .i64 step, .int .i64 width] 23)) nm x y z rose gates step width := ⟨SiteAt.new w nm x y z rose gates step width, by simp, below_alloc _ _⟩
theorem One.keep {w W w1 : World} {B : Nat} {nm : ByteArray} {x y z rose gates step width : Int} (t : One w W nm x y z rose gates step width) (hb : Below B W w1) (h : w.heap.size + 1 ≤ B) : One w w1 nm x y z rose gates step width :=
  ⟨t.s.keep hb (by omega), Nat.le_trans t.z hb.size, t.b.trans (hb.mono (by omega))⟩

def MetIs (pr : Int) (a : Nat) (m : Int) : Prop := m = if pr < a then 1 else 0
def GatIs (r j : Nat) (m : Int) : Prop := m = if r ≤ j then 1 else 0
theorem MetIs.bd {pr : Int} {a : Nat} {m : Int} (h : MetIs pr a m) : 0 ≤ m ∧ m ≤ 1 := by unfold MetIs at h; split at h <;> omega
theorem GatIs.bd {r j : Nat} {m : Int} (h : GatIs r j m) : 0 ≤ m ∧ m ≤ 1 := by unfold GatIs at h; split at h <;> omega
theorem MetIs.hit {pr : Int} {a : Nat} {m : Int} (h : MetIs pr a m) (e : (a : Int) = pr) : MetIs pr (a + 1) (m + 1) := by unfold MetIs at *; rw [if_neg (by omega)] at h; rw [if_pos (by omega)]; omega
theorem MetIs.miss {pr : Int} {a : Nat} {m : Int} (h : MetIs pr a m) (e : (a : Int) ≠ pr) : MetIs pr (a + 1) m := by
  unfold MetIs at *
  by_cases h2 : pr < a
  · rw [if_pos h2] at h; rw [if_pos (by omega)]; exact h
  · rw [if_neg h2] at h; rw [if_neg (by omega)]; exact h
theorem GatIs.hit {r j : Nat} {m : Int} (h : GatIs r j m) (e : j + 1 = r) : GatIs r (j + 1) (m + 1) := by unfold GatIs at *; rw [if_neg (by omega)] at h; rw [if_pos (by omega)]; omega
theorem GatIs.miss {r j : Nat} {m : Int} (h : GatIs r j m) (e : j + 1 ≠ r) : GatIs r (j + 1) m := by
  unfold GatIs at *
  by_cases h2 : r ≤ j
  · rw [if_pos h2] at h; rw [if_pos (by omega)]; exact h
  · rw [if_neg h2] at h; rw [if_neg (by omega)]; exact h

set_option maxRecDepth 100000 in
set_option maxHeartbeats 1600000 in
theorem BeamSectors_few (nm : ByteArray) (x y z rose gates step width : Int) (t xx yy : Int) (w : World) (hs : nm.size ≤ maxLen) (hf : fewB nm.size rose gates 0 0 = false) :
    Calls Try.prog 10 #[.agg #[.string nm, .int .i64 x, .int .i64 y, .int .i64 z, .int .i64 rose, .int .i64 gates, .int .i64 step, .int .i64 width], .int .i64 t, .int .i32 xx, .int .i32 yy] w fun e w' => e = .returned (.bool true) ∧ Below w.heap.size w w' := by
  have HS := Lib.hid hs
  have HF := Lib.hid hf
  clear hf
  clear hs
  go_enter Try.func10, Try.ntmps10
  go_wp2_with fail
  refine (few_any _ _ _ _ _ _ _ _ _ _ _ _ _ _ HS.out).mono ?_; rintro e w1 ⟨rfl, hb1⟩
  have O1 := (One.new w nm x y z rose gates step width).keep hb1 (by simp)
  clear hb1
  obtain ⟨⟨k0, k1, k2, k3, k4, k5, k6, k7⟩, hz, hbw⟩ := O1
  have y0 : w.heap.size < w1.heap.size := by omega
  rw [HF.out]
  go_wp2_with fail
  refine (works_any _).mono ?_; rintro e w9 ⟨rfl, hb9⟩
  go_wp2
  go_ret
  exact ⟨rfl, hbw.trans (hb9.mono (by omega))⟩

set_option maxRecDepth 100000 in
set_option maxHeartbeats 1600000 in
theorem BeamSectors_site (nm : ByteArray) (x y z rose gates step width : Int) (t xx yy : Int) (w : World) (hs : nm.size ≤ maxLen) (hf : fewB nm.size rose gates 0 0 = true) (hne : (siteC nm x y z rose gates step width != 0) = true) :
    Calls Try.prog 10 #[.agg #[.string nm, .int .i64 x, .int .i64 y, .int .i64 z, .int .i64 rose, .int .i64 gates, .int .i64 step, .int .i64 width], .int .i64 t, .int .i32 xx, .int .i32 yy] w fun e w' => e = .returned (.bool true) ∧ Below w.heap.size w w' := by
  have HS := Lib.hid hs
  have HF := Lib.hid hf
  clear hf
  clear hs
  go_enter Try.func10, Try.ntmps10
  go_wp2_with fail
  refine (few_any _ _ _ _ _ _ _ _ _ _ _ _ _ _ HS.out).mono ?_; rintro e w1 ⟨rfl, hb1⟩
  have O1 := (One.new w nm x y z rose gates step width).keep hb1 (by simp)
  clear hb1
  obtain ⟨⟨k0, k1, k2, k3, k4, k5, k6, k7⟩, hz, hbw⟩ := O1
  have y0 : w.heap.size < w1.heap.size := by omega
  rw [HF.out]
  go_wp2_with fail
  refine (CheckSite_any _ _ _ _ _ _ _ _ _ HS.out).mono ?_; rintro e w2 ⟨rfl, hb2⟩
  have O2 := (⟨⟨k0, k1, k2, k3, k4, k5, k6, k7⟩, hz, hbw⟩ : One w w1 nm x y z rose gates step width).keep hb2 hz
  clear k0 k1 k2 k3 k4 k5 k6 k7 hz hbw y0
  obtain ⟨⟨k0, k1, k2, k3, k4, k5, k6, k7⟩, hz, hbw⟩ := O2
  have y0 : w.heap.size < w2.heap.size := by omega
  clear hb2
  go_wp2_with fail
  refine (works_any _).mono ?_; rintro e w9 ⟨rfl, hb9⟩
  go_wp2
  go_ret
  exact ⟨rfl, hbw.trans (hb9.mono (by omega))⟩

set_option maxRecDepth 100000 in
set_option maxHeartbeats 1600000 in
theorem BeamSectors_low (nm : ByteArray) (x y z rose gates step width : Int) (t xx yy : Int) (w : World) (hs : nm.size ≤ maxLen) (hf : fewB nm.size rose gates 0 0 = true) (h0 : siteC nm x y z rose gates step width = 0) (ht : t < 0) :
    Calls Try.prog 10 #[.agg #[.string nm, .int .i64 x, .int .i64 y, .int .i64 z, .int .i64 rose, .int .i64 gates, .int .i64 step, .int .i64 width], .int .i64 t, .int .i32 xx, .int .i32 yy] w fun e w' => e = .returned (.bool true) ∧ Below w.heap.size w w' := by
  have HS := Lib.hid hs
  have HF := Lib.hid hf
  have H0 := Lib.hid h0
  clear hf h0
  clear hs
  go_enter Try.func10, Try.ntmps10
  go_wp2_with fail
  refine (few_any _ _ _ _ _ _ _ _ _ _ _ _ _ _ HS.out).mono ?_; rintro e w1 ⟨rfl, hb1⟩
  have O1 := (One.new w nm x y z rose gates step width).keep hb1 (by simp)
  clear hb1
  obtain ⟨⟨k0, k1, k2, k3, k4, k5, k6, k7⟩, hz, hbw⟩ := O1
  have y0 : w.heap.size < w1.heap.size := by omega
  rw [HF.out]
  go_wp2_with fail
  refine (CheckSite_any _ _ _ _ _ _ _ _ _ HS.out).mono ?_; rintro e w2 ⟨rfl, hb2⟩
  have O2 := (⟨⟨k0, k1, k2, k3, k4, k5, k6, k7⟩, hz, hbw⟩ : One w w1 nm x y z rose gates step width).keep hb2 hz
  clear k0 k1 k2 k3 k4 k5 k6 k7 hz hbw y0
  obtain ⟨⟨k0, k1, k2, k3, k4, k5, k6, k7⟩, hz, hbw⟩ := O2
  have y0 : w.heap.size < w2.heap.size := by omega
  clear hb2
  rw [H0.out]
  go_wp2_with fail
  refine (works_any _).mono ?_; rintro e w9 ⟨rfl, hb9⟩
  go_wp2
  go_ret
  exact ⟨rfl, hbw.trans (hb9.mono (by omega))⟩

set_option maxRecDepth 100000 in
set_option maxHeartbeats 1600000 in
theorem BeamSectors_high (nm : ByteArray) (x y z rose gates step width : Int) (t xx yy : Int) (w : World) (hs : nm.size ≤ maxLen) (hf : fewB nm.size rose gates 0 0 = true) (h0 : siteC nm x y z rose gates step width = 0) (ht0 : 0 ≤ t) (ht : 256 < t) :
    Calls Try.prog 10 #[.agg #[.string nm, .int .i64 x, .int .i64 y, .int .i64 z, .int .i64 rose, .int .i64 gates, .int .i64 step, .int .i64 width], .int .i64 t, .int .i32 xx, .int .i32 yy] w fun e w' => e = .returned (.bool true) ∧ Below w.heap.size w w' := by
  have HS := Lib.hid hs
  have HF := Lib.hid hf
  have H0 := Lib.hid h0
  clear hf h0
  clear hs
  go_enter Try.func10, Try.ntmps10
  go_wp2_with fail
  refine (few_any _ _ _ _ _ _ _ _ _ _ _ _ _ _ HS.out).mono ?_; rintro e w1 ⟨rfl, hb1⟩
  have O1 := (One.new w nm x y z rose gates step width).keep hb1 (by simp)
  clear hb1
  obtain ⟨⟨k0, k1, k2, k3, k4, k5, k6, k7⟩, hz, hbw⟩ := O1
  have y0 : w.heap.size < w1.heap.size := by omega
  rw [HF.out]
  go_wp2_with fail
  refine (CheckSite_any _ _ _ _ _ _ _ _ _ HS.out).mono ?_; rintro e w2 ⟨rfl, hb2⟩
  have O2 := (⟨⟨k0, k1, k2, k3, k4, k5, k6, k7⟩, hz, hbw⟩ : One w w1 nm x y z rose gates step width).keep hb2 hz
  clear k0 k1 k2 k3 k4 k5 k6 k7 hz hbw y0
  obtain ⟨⟨k0, k1, k2, k3, k4, k5, k6, k7⟩, hz, hbw⟩ := O2
  have y0 : w.heap.size < w2.heap.size := by omega
  clear hb2
  rw [H0.out]
  go_wp2_with fail
  refine (works_any _).mono ?_; rintro e w9 ⟨rfl, hb9⟩
  go_wp2
  go_ret
  exact ⟨rfl, hbw.trans (hb9.mono (by omega))⟩

set_option maxRecDepth 100000 in
set_option maxHeartbeats 3200000 in
theorem BeamSectors_zero (nm : ByteArray) (x y z : Int) (n g : Nat) (step width t xx yy dx dy : Int) (w : World) (hs : nm.size ≤ maxLen) (hf : fewB nm.size n g 0 0 = true) (h0 : siteC nm x y z n g step width = 0) (hk : SiteOk x y z n g step width) (ht0 : 0 ≤ t) (ht : t ≤ 256) (i1 : -2147483648 ≤ xx) (i2 : xx ≤ 2147483647) (i3 : -2147483648 ≤ yy) (i4 : yy ≤ 2147483647) (hdx : xx.tmod 1000000 = dx) (hdy : yy.tmod 1000000 = dy) (b1 : -1000000 ≤ dx) (b2 : dx ≤ 1000000) (b3 : -1000000 ≤ dy) (b4 : dy ≤ 1000000) (hz1 : (dx == 0) = true) (hz2 : (dy == 0) = true) (f1 : ∀ w : World, Calls Try.prog 38 #[.agg #[.string nm, .int .i64 x, .int .i64 y, .int .i64 z, .int .i64 (n : Nat), .int .i64 (g : Nat), .int .i64 step, .int .i64 width], .int .i64 t, .int .i64 (x + dx), .int .i64 (y + dy)] w fun q w' => q = .returned (.tuple #[.int .i64 0, .int .i64 0, .int .i64 0]) ∧ Below w.heap.size w w') :
    Calls Try.prog 10 #[.agg #[.string nm, .int .i64 x, .int .i64 y, .int .i64 z, .int .i64 (n : Nat), .int .i64 (g : Nat), .int .i64 step, .int .i64 width], .int .i64 t, .int .i32 xx, .int .i32 yy] w fun e w' => e = .returned (.bool true) ∧ Below w.heap.size w w' := by
  have HS := Lib.hid hs
  have HF := Lib.hid hf
  have H0 := Lib.hid h0
  obtain ⟨x1, x2, y1, y2, z1, z2, r1, r2, hg1, hg2, s1, s2, d1, d2⟩ := hk
  have tt := M.sq_nonneg t
  have tt2 := (M.sq_bd (a := t) (A := 256) (by omega) ht).2
  clear hs hf h0
  have F1 := Lib.hid f1
  clear f1
  go_enter Try.func10, Try.ntmps10
  go_wp2_with fail
  refine (few_any _ _ _ _ _ _ _ _ _ _ _ _ _ _ HS.out).mono ?_; rintro e w1 ⟨rfl, hb1⟩
  have O1 := (One.new w nm x y z n g step width).keep hb1 (by simp)
  clear hb1
  obtain ⟨⟨k0, k1, k2, k3, k4, k5, k6, k7⟩, hz, hbw⟩ := O1
  have y0 : w.heap.size < w1.heap.size := by omega
  rw [HF.out]
  go_wp2_with fail
  refine (CheckSite_any _ _ _ _ _ _ _ _ _ HS.out).mono ?_; rintro e w2 ⟨rfl, hb2⟩
  have O2 := (⟨⟨k0, k1, k2, k3, k4, k5, k6, k7⟩, hz, hbw⟩ : One w w1 nm x y z n g step width).keep hb2 hz
  clear k0 k1 k2 k3 k4 k5 k6 k7 hz hbw y0
  obtain ⟨⟨k0, k1, k2, k3, k4, k5, k6, k7⟩, hz, hbw⟩ := O2
  have y0 : w.heap.size < w2.heap.size := by omega
  clear hb2
  rw [H0.out]
  go_wp2_with fail
  refine (F1.out _).mono ?_; rintro e w3 ⟨rfl, hb3⟩
  have O3 := (⟨⟨k0, k1, k2, k3, k4, k5, k6, k7⟩, hz, hbw⟩ : One w w2 nm x y z n g step width).keep hb3 hz
  clear k0 k1 k2 k3 k4 k5 k6 k7 hz hbw y0
  obtain ⟨⟨k0, k1, k2, k3, k4, k5, k6, k7⟩, hz, hbw⟩ := O3
  have y0 : w.heap.size < w3.heap.size := by omega
  clear hb3
  go_wp2_with fail
  refine (Slant_ok t _ (by omega) (by omega)).mono ?_; rintro e w' ⟨rfl, rfl⟩
  go_wp2_with fail
  refine (works_any _).mono ?_; rintro e w9 ⟨rfl, hb9⟩
  go_wp2
  go_ret
  exact ⟨rfl, hbw.trans (hb9.mono (by omega))⟩

set_option maxRecDepth 100000 in
set_option maxHeartbeats 12800000 in
theorem BeamSectors_in (nm : ByteArray) (x y z : Int) (n g : Nat) (step width t xx yy dx dy : Int) (w : World) (hs : nm.size ≤ maxLen) (hf : fewB nm.size n g 0 0 = true) (h0 : siteC nm x y z n g step width = 0) (hk : SiteOk x y z n g step width) (ht0 : 0 ≤ t) (ht : t ≤ 256) (i1 : -2147483648 ≤ xx) (i2 : xx ≤ 2147483647) (i3 : -2147483648 ≤ yy) (i4 : yy ≤ 2147483647) (hdx : xx.tmod 1000000 = dx) (hdy : yy.tmod 1000000 = dy) (b1 : -1000000 ≤ dx) (b2 : dx ≤ 1000000) (b3 : -1000000 ≤ dy) (b4 : dy ≤ 1000000) (hnz : (dx == 0 && dy == 0) = false) (r : Nat) (pr : Int) (hr1 : 1 ≤ r) (hrg : r ≤ g) (hp0 : 0 ≤ pr) (hp1 : pr < 4 * n)
    (hsec : ∀ a : Int, 0 ≤ a → a < 4 * n → (SecP n a dx dy ↔ a = pr)) (hgat : ∀ j, j < g → ((bordI step t j * bordI step t j ≤ dx * dx + dy * dy ∧ dx * dx + dy * dy < bordI step t (j + 1) * bordI step t (j + 1)) ↔ j + 1 = r))
    (f1 : ∀ w : World, Calls Try.prog 38 #[.agg #[.string nm, .int .i64 x, .int .i64 y, .int .i64 z, .int .i64 (n : Nat), .int .i64 (g : Nat), .int .i64 step, .int .i64 width], .int .i64 t, .int .i64 (x + dx), .int .i64 (y + dy)] w fun q w' => q = .returned (.tuple #[.int .i64 pr, .int .i64 ((r : Int) - 1), .int .i64 0]) ∧ Below w.heap.size w w') (f2 : ∀ w : World, Calls Try.prog 38 #[.agg #[.string nm, .int .i64 x, .int .i64 y, .int .i64 z, .int .i64 (n : Nat), .int .i64 (g : Nat), .int .i64 step, .int .i64 width], .int .i64 t, .int .i64 (x + dy), .int .i64 (y - dx)] w fun q w' => q = .returned (.tuple #[.int .i64 ((pr + n) % (4 * n)), .int .i64 ((r : Int) - 1), .int .i64 0]) ∧ Below w.heap.size w w') :
    Calls Try.prog 10 #[.agg #[.string nm, .int .i64 x, .int .i64 y, .int .i64 z, .int .i64 (n : Nat), .int .i64 (g : Nat), .int .i64 step, .int .i64 width], .int .i64 t, .int .i32 xx, .int .i32 yy] w fun e w' => e = .returned (.bool true) ∧ Below w.heap.size w w' := by
  have HS := Lib.hid hs
  have HF := Lib.hid hf
  have H0 := Lib.hid h0
  obtain ⟨x1, x2, y1, y2, z1, z2, r1, r2, hg1, hg2, s1, s2, d1, d2⟩ := hk
  have tt := M.sq_nonneg t
  have tt2 := (M.sq_bd (a := t) (A := 256) (by omega) ht).2
  clear hs hf h0
  have F1 := Lib.hid f1
  have F2 := Lib.hid f2
  have SEC := Lib.hid hsec
  have GAT := Lib.hid hgat
  have q1 := M.sq_bd (a := dx) (A := 1000000) b1 b2
  have q2 := M.sq_bd (a := dy) (A := 1000000) b3 b4
  clear f1 f2 hsec hgat
  go_enter Try.func10, Try.ntmps10
  go_wp2_with fail
  refine (few_any _ _ _ _ _ _ _ _ _ _ _ _ _ _ HS.out).mono ?_; rintro e w1 ⟨rfl, hb1⟩
  have O1 := (One.new w nm x y z n g step width).keep hb1 (by simp)
  clear hb1
  obtain ⟨⟨k0, k1, k2, k3, k4, k5, k6, k7⟩, hz, hbw⟩ := O1
  have y0 : w.heap.size < w1.heap.size := by omega
  rw [HF.out]
  go_wp2_with fail
  refine (CheckSite_any _ _ _ _ _ _ _ _ _ HS.out).mono ?_; rintro e w2 ⟨rfl, hb2⟩
  have O2 := (⟨⟨k0, k1, k2, k3, k4, k5, k6, k7⟩, hz, hbw⟩ : One w w1 nm x y z n g step width).keep hb2 hz
  clear k0 k1 k2 k3 k4 k5 k6 k7 hz hbw y0
  obtain ⟨⟨k0, k1, k2, k3, k4, k5, k6, k7⟩, hz, hbw⟩ := O2
  have y0 : w.heap.size < w2.heap.size := by omega
  clear hb2
  rw [H0.out]
  go_wp2_with fail
  refine (F1.out _).mono ?_; rintro e w3 ⟨rfl, hb3⟩
  have O3 := (⟨⟨k0, k1, k2, k3, k4, k5, k6, k7⟩, hz, hbw⟩ : One w w2 nm x y z n g step width).keep hb3 hz
  clear k0 k1 k2 k3 k4 k5 k6 k7 hz hbw y0
  obtain ⟨⟨k0, k1, k2, k3, k4, k5, k6, k7⟩, hz, hbw⟩ := O3
  have y0 : w.heap.size < w3.heap.size := by omega
  clear hb3
  go_wp2_with fail
  refine (Slant_ok t _ (by omega) (by omega)).mono ?_; rintro e w' ⟨rfl, rfl⟩
  by_cases hd0 : dx = 0
  · have hz5 : (dx == 0) = true := by simp [hd0]
    have hz6 : (dy == 0) = false := by rw [hz5, Bool.true_and] at hnz; exact hnz
    clear hd0 hnz
    have hO := Lib.hid (show One w w3 nm x y z n g step width from ⟨⟨k0, k1, k2, k3, k4, k5, k6, k7⟩, hz, hbw⟩)
    go_wp2
    clear k0 k1 k2 k3 k4 k5 k6 k7 hz hbw y0
    go_loopw [18, 20] (fun m i wr => ∃ (a : Nat) (mc : Int), (a : Int) ≤ 4 * n ∧ i = .int .i64 a ∧ m = .int .i64 mc ∧ MetIs pr a mc ∧ One w wr nm x y z n g step width) (fun _ i _ => 4 * n - (intOf i).toNat)
    case atStart => exact ⟨0, 0, by omega, rfl, rfl, by unfold MetIs; rw [if_neg (by omega)], hO.out⟩
    case round =>
      clear hO
      obtain ⟨a, mc, ha4, rfl, rfl, hmc, hone⟩ := hrel
      obtain ⟨mb1, mb2⟩ := hmc.bd
      obtain ⟨⟨k0, k1, k2, k3, k4, k5, k6, k7⟩, hz, hbw⟩ := hone
      have y0 : w.heap.size < wr.heap.size := by omega
      by_cases hlt : (a : Int) < 4 * n
      · by_cases ha : (a : Int) = pr
        · have HP := Lib.hid ((SEC.out a (by omega) hlt).2 ha)
          have HM := Lib.hid (hmc.hit ha)
          have t1 : ((a : Int) != pr) = false := by rw [ha]; simp
          clear ha hmc
          go_wp2_with fail
          refine (lsector_yes n a dx dy _ (by omega) (by omega) (by omega) hlt b1 b2 b3 b4 HP.out).mono ?_; rintro e w4 ⟨rfl, hb4⟩
          have HO := Lib.hid ((⟨⟨k0, k1, k2, k3, k4, k5, k6, k7⟩, hz, hbw⟩ : One w wr nm x y z n g step width).keep hb4 hz)
          clear hb4 k0 k1 k2 k3 k4 k5 k6 k7 hz hbw y0
          go_wp2
          go_roundw
          case rel => exact ⟨a + 1, mc + 1, by omega, by go_num, rfl, HM.out, HO.out⟩
          case measure => simp [intOf]; omega
        · have HP := Lib.hid (fun h => ha ((SEC.out a (by omega) hlt).1 h))
          have HM := Lib.hid (hmc.miss ha)
          clear ha hmc
          go_wp2_with fail
          refine (lsector_no n a dx dy _ (by omega) (by omega) (by omega) hlt b1 b2 b3 b4 HP.out).mono ?_; rintro e w4 ⟨rfl, hb4⟩
          have HO := Lib.hid ((⟨⟨k0, k1, k2, k3, k4, k5, k6, k7⟩, hz, hbw⟩ : One w wr nm x y z n g step width).keep hb4 hz)
          clear hb4 k0 k1 k2 k3 k4 k5 k6 k7 hz hbw y0
          go_wp2
          go_roundw
          case rel => exact ⟨a + 1, mc, by omega, by go_num, rfl, HM.out, HO.out⟩
          case measure => simp [intOf]; omega
      · obtain rfl : mc = 1 := by unfold MetIs at hmc; rw [if_pos (by omega)] at hmc; exact hmc
        clear hmc mb1 mb2
        have hO2 := Lib.hid (show One w wr nm x y z n g step width from ⟨⟨k0, k1, k2, k3, k4, k5, k6, k7⟩, hz, hbw⟩)
        go_wp2
        clear k0 k1 k2 k3 k4 k5 k6 k7 hz hbw y0
        go_loopw [21, 22] (fun m i wr => ∃ (j : Nat) (gc : Int), j ≤ g ∧ i = .int .i64 j ∧ m = .int .i64 gc ∧ GatIs r j gc ∧ One w wr nm x y z n g step width) (fun _ i _ => g - (intOf i).toNat)
        case atStart => exact ⟨0, 0, Nat.zero_le _, rfl, rfl, by unfold GatIs; rw [if_neg (by omega)], hO2.out⟩
        case round =>
          clear hO2
          obtain ⟨j, gc, hj, rfl, rfl, hgc, hone⟩ := hrel
          obtain ⟨gb1, gb2⟩ := hgc.bd
          obtain ⟨⟨k0, k1, k2, k3, k4, k5, k6, k7⟩, hz, hbw⟩ := hone
          have y0 : w.heap.size < wr.heap.size := by omega
          by_cases hlt2 : j < g
          · obtain ⟨⟨a1, a2⟩, ⟨a3, a4⟩, a5, a6⟩ := bordI_bd (k := j) ht0 ht s1 s2 (by omega)
            obtain ⟨⟨c1, c2⟩, ⟨c3, c4⟩, c5, c6⟩ := bordI_bd (k := j + 1) ht0 ht s1 s2 (by omega)
            have ej : ((j + 1 : Nat) : Int) = (j : Int) + 1 := by omega
            rw [ej] at c1 c2 c3 c4
            have gt := GAT.out j hlt2
            obtain ⟨L, hL⟩ : ∃ L, L = bordI step t j := ⟨_, rfl⟩
            obtain ⟨H, hH⟩ : ∃ H, H = bordI step t (j + 1) := ⟨_, rfl⟩
            have p3 : ((j : Int) * step * (262144 - t * t)).tdiv (262144 + t * t) = L := by rw [hL]; unfold bordI; exact Int.tdiv_eq_ediv_of_nonneg a3
            have p9 : (((j : Int) + 1) * step * (262144 - t * t)).tdiv (262144 + t * t) = H := by rw [hH]; unfold bordI; rw [ej]; exact Int.tdiv_eq_ediv_of_nonneg c3
            rw [← hL] at a5 a6 gt
            rw [← hH] at c5 c6 gt
            have mL := M.mul_bd a5 a6 a5 a6
            have mH := M.mul_bd c5 c6 c5 c6
            clear hL hH ej
            have p1 : IntKind.i64.wrap ((j : Int) * step) = (j : Int) * step := IntWalk.i64_in _ (by omega)
            have p2 : IntKind.i64.wrap ((j : Int) * step * (262144 - t * t)) = (j : Int) * step * (262144 - t * t) := IntWalk.i64_in _ (by omega)
            have p4 : IntKind.i64.wrap L = L := IntWalk.i64_in _ (by omega)
            have p5 : (262144 + t * t == 0) = false := by rw [beq_eq_false_iff_ne]; omega
            have p6 : IntKind.i64.wrap ((j : Int) + 1) = (j : Int) + 1 := IntWalk.i64_in _ (by omega)
            have p7 : IntKind.i64.wrap (((j : Int) + 1) * step) = ((j : Int) + 1) * step := IntWalk.i64_in _ (by omega)
            have p8 : IntKind.i64.wrap (((j : Int) + 1) * step * (262144 - t * t)) = ((j : Int) + 1) * step * (262144 - t * t) := IntWalk.i64_in _ (by omega)
            have p10 : IntKind.i64.wrap H = H := IntWalk.i64_in _ (by omega)
            have HO := Lib.hid (show One w wr nm x y z n g step width from ⟨⟨k0, k1, k2, k3, k4, k5, k6, k7⟩, hz, hbw⟩)
            by_cases hh : j + 1 = r
            · have GT := Lib.hid (gt.2 hh)
              have u1 : L * L ≤ dx * dx + dy * dy := GT.out.1
              have u2 : dx * dx + dy * dy < H * H := GT.out.2
              have HM := Lib.hid (hgc.hit hh)
              have t1 : ((j : Int) != (r : Int) - 1) = false := by rw [bne_eq_false_iff_eq]; omega
              clear hh gt hgc
              go_wp2
              go_quiet (fail)
              clear p1 p2 p3 p4 p5 p6 p7 p8 p9 p10
              go_wp2
              go_roundw
              case rel => exact ⟨j + 1, gc + 1, by omega, by go_num, rfl, HM.out, HO.out.keep (below_drewN (Below.refl _ _) _) HO.out.z⟩
              case measure => simp [intOf]; omega
            · have HM := Lib.hid (hgc.miss hh)
              have GT := Lib.hid (fun h => hh (gt.1 h))
              clear hh gt hgc
              by_cases u1 : L * L ≤ dx * dx + dy * dy
              · have u2 : ¬ dx * dx + dy * dy < H * H := fun h => GT.out ⟨u1, h⟩
                go_wp2
                go_quiet (fail)
                clear p1 p2 p3 p4 p5 p6 p7 p8 p9 p10
                go_wp2
                go_roundw
                case rel => exact ⟨j + 1, gc, by omega, by go_num, rfl, HM.out, HO.out.keep (below_drewN (Below.refl _ _) _) HO.out.z⟩
                case measure => simp [intOf]; omega
              · go_wp2
                go_quiet (fail)
                clear p1 p2 p3 p4 p5 p6 p7 p8 p9 p10
                go_wp2
                go_roundw
                case rel => exact ⟨j + 1, gc, by omega, by go_num, rfl, HM.out, HO.out.keep (below_drewN (Below.refl _ _) _) HO.out.z⟩
                case measure => simp [intOf]; omega
          · obtain rfl : gc = 1 := by unfold GatIs at hgc; rw [if_pos (by omega)] at hgc; exact hgc
            clear hgc gb1 gb2
            go_wp2_with fail
            refine (F2.out _).mono ?_; rintro e w5 ⟨rfl, hb5⟩
            have O5 := (⟨⟨k0, k1, k2, k3, k4, k5, k6, k7⟩, hz, hbw⟩ : One w wr nm x y z n g step width).keep hb5 hz
            clear hb5 k0 k1 k2 k3 k4 k5 k6 k7 hz hbw y0
            obtain ⟨⟨k0, k1, k2, k3, k4, k5, k6, k7⟩, hz, hbw⟩ := O5
            have y0 : w.heap.size < w5.heap.size := by omega
            go_wp2_with fail
            refine (works_any _).mono ?_; rintro e w9 ⟨rfl, hb9⟩
            go_wp2
            go_ret
            exact ⟨rfl, hbw.trans (hb9.mono (by omega))⟩
  · have hz5 : (dx == 0) = false := by rw [beq_eq_false_iff_ne]; exact hd0
    clear hd0 hnz
    have hO := Lib.hid (show One w w3 nm x y z n g step width from ⟨⟨k0, k1, k2, k3, k4, k5, k6, k7⟩, hz, hbw⟩)
    go_wp2
    clear k0 k1 k2 k3 k4 k5 k6 k7 hz hbw y0
    go_loopw [18, 20] (fun m i wr => ∃ (a : Nat) (mc : Int), (a : Int) ≤ 4 * n ∧ i = .int .i64 a ∧ m = .int .i64 mc ∧ MetIs pr a mc ∧ One w wr nm x y z n g step width) (fun _ i _ => 4 * n - (intOf i).toNat)
    case atStart => exact ⟨0, 0, by omega, rfl, rfl, by unfold MetIs; rw [if_neg (by omega)], hO.out⟩
    case round =>
      clear hO
      obtain ⟨a, mc, ha4, rfl, rfl, hmc, hone⟩ := hrel
      obtain ⟨mb1, mb2⟩ := hmc.bd
      obtain ⟨⟨k0, k1, k2, k3, k4, k5, k6, k7⟩, hz, hbw⟩ := hone
      have y0 : w.heap.size < wr.heap.size := by omega
      by_cases hlt : (a : Int) < 4 * n
      · by_cases ha : (a : Int) = pr
        · have HP := Lib.hid ((SEC.out a (by omega) hlt).2 ha)
          have HM := Lib.hid (hmc.hit ha)
          have t1 : ((a : Int) != pr) = false := by rw [ha]; simp
          clear ha hmc
          go_wp2_with fail
          refine (lsector_yes n a dx dy _ (by omega) (by omega) (by omega) hlt b1 b2 b3 b4 HP.out).mono ?_; rintro e w4 ⟨rfl, hb4⟩
          have HO := Lib.hid ((⟨⟨k0, k1, k2, k3, k4, k5, k6, k7⟩, hz, hbw⟩ : One w wr nm x y z n g step width).keep hb4 hz)
          clear hb4 k0 k1 k2 k3 k4 k5 k6 k7 hz hbw y0
          go_wp2
          go_roundw
          case rel => exact ⟨a + 1, mc + 1, by omega, by go_num, rfl, HM.out, HO.out⟩
          case measure => simp [intOf]; omega
        · have HP := Lib.hid (fun h => ha ((SEC.out a (by omega) hlt).1 h))
          have HM := Lib.hid (hmc.miss ha)
          clear ha hmc
          go_wp2_with fail
          refine (lsector_no n a dx dy _ (by omega) (by omega) (by omega) hlt b1 b2 b3 b4 HP.out).mono ?_; rintro e w4 ⟨rfl, hb4⟩
          have HO := Lib.hid ((⟨⟨k0, k1, k2, k3, k4, k5, k6, k7⟩, hz, hbw⟩ : One w wr nm x y z n g step width).keep hb4 hz)
          clear hb4 k0 k1 k2 k3 k4 k5 k6 k7 hz hbw y0
          go_wp2
          go_roundw
          case rel => exact ⟨a + 1, mc, by omega, by go_num, rfl, HM.out, HO.out⟩
          case measure => simp [intOf]; omega
      · obtain rfl : mc = 1 := by unfold MetIs at hmc; rw [if_pos (by omega)] at hmc; exact hmc
        clear hmc mb1 mb2
        have hO2 := Lib.hid (show One w wr nm x y z n g step width from ⟨⟨k0, k1, k2, k3, k4, k5, k6, k7⟩, hz, hbw⟩)
        go_wp2
        clear k0 k1 k2 k3 k4 k5 k6 k7 hz hbw y0
        go_loopw [21, 22] (fun m i wr => ∃ (j : Nat) (gc : Int), j ≤ g ∧ i = .int .i64 j ∧ m = .int .i64 gc ∧ GatIs r j gc ∧ One w wr nm x y z n g step width) (fun _ i _ => g - (intOf i).toNat)
        case atStart => exact ⟨0, 0, Nat.zero_le _, rfl, rfl, by unfold GatIs; rw [if_neg (by omega)], hO2.out⟩
        case round =>
          clear hO2
          obtain ⟨j, gc, hj, rfl, rfl, hgc, hone⟩ := hrel
          obtain ⟨gb1, gb2⟩ := hgc.bd
          obtain ⟨⟨k0, k1, k2, k3, k4, k5, k6, k7⟩, hz, hbw⟩ := hone
          have y0 : w.heap.size < wr.heap.size := by omega
          by_cases hlt2 : j < g
          · obtain ⟨⟨a1, a2⟩, ⟨a3, a4⟩, a5, a6⟩ := bordI_bd (k := j) ht0 ht s1 s2 (by omega)
            obtain ⟨⟨c1, c2⟩, ⟨c3, c4⟩, c5, c6⟩ := bordI_bd (k := j + 1) ht0 ht s1 s2 (by omega)
            have ej : ((j + 1 : Nat) : Int) = (j : Int) + 1 := by omega
            rw [ej] at c1 c2 c3 c4
            have gt := GAT.out j hlt2
            obtain ⟨L, hL⟩ : ∃ L, L = bordI step t j := ⟨_, rfl⟩
            obtain ⟨H, hH⟩ : ∃ H, H = bordI step t (j + 1) := ⟨_, rfl⟩
            have p3 : ((j : Int) * step * (262144 - t * t)).tdiv (262144 + t * t) = L := by rw [hL]; unfold bordI; exact Int.tdiv_eq_ediv_of_nonneg a3
            have p9 : (((j : Int) + 1) * step * (262144 - t * t)).tdiv (262144 + t * t) = H := by rw [hH]; unfold bordI; rw [ej]; exact Int.tdiv_eq_ediv_of_nonneg c3
            rw [← hL] at a5 a6 gt
            rw [← hH] at c5 c6 gt
            have mL := M.mul_bd a5 a6 a5 a6
            have mH := M.mul_bd c5 c6 c5 c6
            clear hL hH ej
            have p1 : IntKind.i64.wrap ((j : Int) * step) = (j : Int) * step := IntWalk.i64_in _ (by omega)
            have p2 : IntKind.i64.wrap ((j : Int) * step * (262144 - t * t)) = (j : Int) * step * (262144 - t * t) := IntWalk.i64_in _ (by omega)
            have p4 : IntKind.i64.wrap L = L := IntWalk.i64_in _ (by omega)
            have p5 : (262144 + t * t == 0) = false := by rw [beq_eq_false_iff_ne]; omega
            have p6 : IntKind.i64.wrap ((j : Int) + 1) = (j : Int) + 1 := IntWalk.i64_in _ (by omega)
            have p7 : IntKind.i64.wrap (((j : Int) + 1) * step) = ((j : Int) + 1) * step := IntWalk.i64_in _ (by omega)
            have p8 : IntKind.i64.wrap (((j : Int) + 1) * step * (262144 - t * t)) = ((j : Int) + 1) * step * (262144 - t * t) := IntWalk.i64_in _ (by omega)
            have p10 : IntKind.i64.wrap H = H := IntWalk.i64_in _ (by omega)
            have HO := Lib.hid (show One w wr nm x y z n g step width from ⟨⟨k0, k1, k2, k3, k4, k5, k6, k7⟩, hz, hbw⟩)
            by_cases hh : j + 1 = r
            · have GT := Lib.hid (gt.2 hh)
              have u1 : L * L ≤ dx * dx + dy * dy := GT.out.1
              have u2 : dx * dx + dy * dy < H * H := GT.out.2
              have HM := Lib.hid (hgc.hit hh)
              have t1 : ((j : Int) != (r : Int) - 1) = false := by rw [bne_eq_false_iff_eq]; omega
              clear hh gt hgc
              go_wp2
              go_quiet (fail)
              clear p1 p2 p3 p4 p5 p6 p7 p8 p9 p10
              go_wp2
              go_roundw
              case rel => exact ⟨j + 1, gc + 1, by omega, by go_num, rfl, HM.out, HO.out.keep (below_drewN (Below.refl _ _) _) HO.out.z⟩
              case measure => simp [intOf]; omega
            · have HM := Lib.hid (hgc.miss hh)
              have GT := Lib.hid (fun h => hh (gt.1 h))
              clear hh gt hgc
              by_cases u1 : L * L ≤ dx * dx + dy * dy
              · have u2 : ¬ dx * dx + dy * dy < H * H := fun h => GT.out ⟨u1, h⟩
                go_wp2
                go_quiet (fail)
                clear p1 p2 p3 p4 p5 p6 p7 p8 p9 p10
                go_wp2
                go_roundw
                case rel => exact ⟨j + 1, gc, by omega, by go_num, rfl, HM.out, HO.out.keep (below_drewN (Below.refl _ _) _) HO.out.z⟩
                case measure => simp [intOf]; omega
              · go_wp2
                go_quiet (fail)
                clear p1 p2 p3 p4 p5 p6 p7 p8 p9 p10
                go_wp2
                go_roundw
                case rel => exact ⟨j + 1, gc, by omega, by go_num, rfl, HM.out, HO.out.keep (below_drewN (Below.refl _ _) _) HO.out.z⟩
                case measure => simp [intOf]; omega
          · obtain rfl : gc = 1 := by unfold GatIs at hgc; rw [if_pos (by omega)] at hgc; exact hgc
            clear hgc gb1 gb2
            go_wp2_with fail
            refine (F2.out _).mono ?_; rintro e w5 ⟨rfl, hb5⟩
            have O5 := (⟨⟨k0, k1, k2, k3, k4, k5, k6, k7⟩, hz, hbw⟩ : One w wr nm x y z n g step width).keep hb5 hz
            clear hb5 k0 k1 k2 k3 k4 k5 k6 k7 hz hbw y0
            obtain ⟨⟨k0, k1, k2, k3, k4, k5, k6, k7⟩, hz, hbw⟩ := O5
            have y0 : w.heap.size < w5.heap.size := by omega
            go_wp2_with fail
            refine (works_any _).mono ?_; rintro e w9 ⟨rfl, hb9⟩
            go_wp2
            go_ret
            exact ⟨rfl, hbw.trans (hb9.mono (by omega))⟩

set_option maxRecDepth 100000 in
set_option maxHeartbeats 12800000 in
theorem BeamSectors_out (nm : ByteArray) (x y z : Int) (n g : Nat) (step width t xx yy dx dy : Int) (w : World) (hs : nm.size ≤ maxLen) (hf : fewB nm.size n g 0 0 = true) (h0 : siteC nm x y z n g step width = 0) (hk : SiteOk x y z n g step width) (ht0 : 0 ≤ t) (ht : t ≤ 256) (i1 : -2147483648 ≤ xx) (i2 : xx ≤ 2147483647) (i3 : -2147483648 ≤ yy) (i4 : yy ≤ 2147483647) (hdx : xx.tmod 1000000 = dx) (hdy : yy.tmod 1000000 = dy) (b1 : -1000000 ≤ dx) (b2 : dx ≤ 1000000) (b3 : -1000000 ≤ dy) (b4 : dy ≤ 1000000) (hnz : (dx == 0 && dy == 0) = false) (r : Nat) (pr : Int) (hr1 : 1 ≤ r) (hrg : r = g + 1) (hp0 : 0 ≤ pr) (hp1 : pr < 4 * n)
    (hsec : ∀ a : Int, 0 ≤ a → a < 4 * n → (SecP n a dx dy ↔ a = pr)) (hgat : ∀ j, j < g → ((bordI step t j * bordI step t j ≤ dx * dx + dy * dy ∧ dx * dx + dy * dy < bordI step t (j + 1) * bordI step t (j + 1)) ↔ j + 1 = r))
    (f1 : ∀ w : World, Calls Try.prog 38 #[.agg #[.string nm, .int .i64 x, .int .i64 y, .int .i64 z, .int .i64 (n : Nat), .int .i64 (g : Nat), .int .i64 step, .int .i64 width], .int .i64 t, .int .i64 (x + dx), .int .i64 (y + dy)] w fun q w' => q = .returned (.tuple #[.int .i64 0, .int .i64 0, .int .i64 29]) ∧ Below w.heap.size w w') (f2 : ∀ w : World, Calls Try.prog 38 #[.agg #[.string nm, .int .i64 x, .int .i64 y, .int .i64 z, .int .i64 (n : Nat), .int .i64 (g : Nat), .int .i64 step, .int .i64 width], .int .i64 t, .int .i64 (x + dy), .int .i64 (y - dx)] w fun q w' => q = .returned (.tuple #[.int .i64 0, .int .i64 0, .int .i64 29]) ∧ Below w.heap.size w w') :
    Calls Try.prog 10 #[.agg #[.string nm, .int .i64 x, .int .i64 y, .int .i64 z, .int .i64 (n : Nat), .int .i64 (g : Nat), .int .i64 step, .int .i64 width], .int .i64 t, .int .i32 xx, .int .i32 yy] w fun e w' => e = .returned (.bool true) ∧ Below w.heap.size w w' := by
  have HS := Lib.hid hs
  have HF := Lib.hid hf
  have H0 := Lib.hid h0
  obtain ⟨x1, x2, y1, y2, z1, z2, r1, r2, hg1, hg2, s1, s2, d1, d2⟩ := hk
  have tt := M.sq_nonneg t
  have tt2 := (M.sq_bd (a := t) (A := 256) (by omega) ht).2
  clear hs hf h0
  have F1 := Lib.hid f1
  have F2 := Lib.hid f2
  have SEC := Lib.hid hsec
  have GAT := Lib.hid hgat
  have q1 := M.sq_bd (a := dx) (A := 1000000) b1 b2
  have q2 := M.sq_bd (a := dy) (A := 1000000) b3 b4
  clear f1 f2 hsec hgat
  go_enter Try.func10, Try.ntmps10
  go_wp2_with fail
  refine (few_any _ _ _ _ _ _ _ _ _ _ _ _ _ _ HS.out).mono ?_; rintro e w1 ⟨rfl, hb1⟩
  have O1 := (One.new w nm x y z n g step width).keep hb1 (by simp)
  clear hb1
  obtain ⟨⟨k0, k1, k2, k3, k4, k5, k6, k7⟩, hz, hbw⟩ := O1
  have y0 : w.heap.size < w1.heap.size := by omega
  rw [HF.out]
  go_wp2_with fail
  refine (CheckSite_any _ _ _ _ _ _ _ _ _ HS.out).mono ?_; rintro e w2 ⟨rfl, hb2⟩
  have O2 := (⟨⟨k0, k1, k2, k3, k4, k5, k6, k7⟩, hz, hbw⟩ : One w w1 nm x y z n g step width).keep hb2 hz
  clear k0 k1 k2 k3 k4 k5 k6 k7 hz hbw y0
  obtain ⟨⟨k0, k1, k2, k3, k4, k5, k6, k7⟩, hz, hbw⟩ := O2
  have y0 : w.heap.size < w2.heap.size := by omega
  clear hb2
  rw [H0.out]
  go_wp2_with fail
  refine (F1.out _).mono ?_; rintro e w3 ⟨rfl, hb3⟩
  have O3 := (⟨⟨k0, k1, k2, k3, k4, k5, k6, k7⟩, hz, hbw⟩ : One w w2 nm x y z n g step width).keep hb3 hz
  clear k0 k1 k2 k3 k4 k5 k6 k7 hz hbw y0
  obtain ⟨⟨k0, k1, k2, k3, k4, k5, k6, k7⟩, hz, hbw⟩ := O3
  have y0 : w.heap.size < w3.heap.size := by omega
  clear hb3
  go_wp2_with fail
  refine (Slant_ok t _ (by omega) (by omega)).mono ?_; rintro e w' ⟨rfl, rfl⟩
  by_cases hd0 : dx = 0
  · have hz5 : (dx == 0) = true := by simp [hd0]
    have hz6 : (dy == 0) = false := by rw [hz5, Bool.true_and] at hnz; exact hnz
    clear hd0 hnz
    have hO := Lib.hid (show One w w3 nm x y z n g step width from ⟨⟨k0, k1, k2, k3, k4, k5, k6, k7⟩, hz, hbw⟩)
    go_wp2
    clear k0 k1 k2 k3 k4 k5 k6 k7 hz hbw y0
    go_loopw [18, 20] (fun m i wr => ∃ (a : Nat) (mc : Int), (a : Int) ≤ 4 * n ∧ i = .int .i64 a ∧ m = .int .i64 mc ∧ MetIs pr a mc ∧ One w wr nm x y z n g step width) (fun _ i _ => 4 * n - (intOf i).toNat)
    case atStart => exact ⟨0, 0, by omega, rfl, rfl, by unfold MetIs; rw [if_neg (by omega)], hO.out⟩
    case round =>
      clear hO
      obtain ⟨a, mc, ha4, rfl, rfl, hmc, hone⟩ := hrel
      obtain ⟨mb1, mb2⟩ := hmc.bd
      obtain ⟨⟨k0, k1, k2, k3, k4, k5, k6, k7⟩, hz, hbw⟩ := hone
      have y0 : w.heap.size < wr.heap.size := by omega
      by_cases hlt : (a : Int) < 4 * n
      · by_cases ha : (a : Int) = pr
        · have HP := Lib.hid ((SEC.out a (by omega) hlt).2 ha)
          have HM := Lib.hid (hmc.hit ha)
          skip
          clear ha hmc
          go_wp2_with fail
          refine (lsector_yes n a dx dy _ (by omega) (by omega) (by omega) hlt b1 b2 b3 b4 HP.out).mono ?_; rintro e w4 ⟨rfl, hb4⟩
          have HO := Lib.hid ((⟨⟨k0, k1, k2, k3, k4, k5, k6, k7⟩, hz, hbw⟩ : One w wr nm x y z n g step width).keep hb4 hz)
          clear hb4 k0 k1 k2 k3 k4 k5 k6 k7 hz hbw y0
          go_wp2
          go_roundw
          case rel => exact ⟨a + 1, mc + 1, by omega, by go_num, rfl, HM.out, HO.out⟩
          case measure => simp [intOf]; omega
        · have HP := Lib.hid (fun h => ha ((SEC.out a (by omega) hlt).1 h))
          have HM := Lib.hid (hmc.miss ha)
          clear ha hmc
          go_wp2_with fail
          refine (lsector_no n a dx dy _ (by omega) (by omega) (by omega) hlt b1 b2 b3 b4 HP.out).mono ?_; rintro e w4 ⟨rfl, hb4⟩
          have HO := Lib.hid ((⟨⟨k0, k1, k2, k3, k4, k5, k6, k7⟩, hz, hbw⟩ : One w wr nm x y z n g step width).keep hb4 hz)
          clear hb4 k0 k1 k2 k3 k4 k5 k6 k7 hz hbw y0
          go_wp2
          go_roundw
          case rel => exact ⟨a + 1, mc, by omega, by go_num, rfl, HM.out, HO.out⟩
          case measure => simp [intOf]; omega
      · obtain rfl : mc = 1 := by unfold MetIs at hmc; rw [if_pos (by omega)] at hmc; exact hmc
        clear hmc mb1 mb2
        have hO2 := Lib.hid (show One w wr nm x y z n g step width from ⟨⟨k0, k1, k2, k3, k4, k5, k6, k7⟩, hz, hbw⟩)
        go_wp2
        clear k0 k1 k2 k3 k4 k5 k6 k7 hz hbw y0
        go_loopw [21, 22] (fun m i wr => ∃ (j : Nat) (gc : Int), j ≤ g ∧ i = .int .i64 j ∧ m = .int .i64 gc ∧ GatIs r j gc ∧ One w wr nm x y z n g step width) (fun _ i _ => g - (intOf i).toNat)
        case atStart => exact ⟨0, 0, Nat.zero_le _, rfl, rfl, by unfold GatIs; rw [if_neg (by omega)], hO2.out⟩
        case round =>
          clear hO2
          obtain ⟨j, gc, hj, rfl, rfl, hgc, hone⟩ := hrel
          obtain ⟨gb1, gb2⟩ := hgc.bd
          obtain ⟨⟨k0, k1, k2, k3, k4, k5, k6, k7⟩, hz, hbw⟩ := hone
          have y0 : w.heap.size < wr.heap.size := by omega
          by_cases hlt2 : j < g
          · obtain ⟨⟨a1, a2⟩, ⟨a3, a4⟩, a5, a6⟩ := bordI_bd (k := j) ht0 ht s1 s2 (by omega)
            obtain ⟨⟨c1, c2⟩, ⟨c3, c4⟩, c5, c6⟩ := bordI_bd (k := j + 1) ht0 ht s1 s2 (by omega)
            have ej : ((j + 1 : Nat) : Int) = (j : Int) + 1 := by omega
            rw [ej] at c1 c2 c3 c4
            have gt := GAT.out j hlt2
            obtain ⟨L, hL⟩ : ∃ L, L = bordI step t j := ⟨_, rfl⟩
            obtain ⟨H, hH⟩ : ∃ H, H = bordI step t (j + 1) := ⟨_, rfl⟩
            have p3 : ((j : Int) * step * (262144 - t * t)).tdiv (262144 + t * t) = L := by rw [hL]; unfold bordI; exact Int.tdiv_eq_ediv_of_nonneg a3
            have p9 : (((j : Int) + 1) * step * (262144 - t * t)).tdiv (262144 + t * t) = H := by rw [hH]; unfold bordI; rw [ej]; exact Int.tdiv_eq_ediv_of_nonneg c3
            rw [← hL] at a5 a6 gt
            rw [← hH] at c5 c6 gt
            have mL := M.mul_bd a5 a6 a5 a6
            have mH := M.mul_bd c5 c6 c5 c6
            clear hL hH ej
            have p1 : IntKind.i64.wrap ((j : Int) * step) = (j : Int) * step := IntWalk.i64_in _ (by omega)
            have p2 : IntKind.i64.wrap ((j : Int) * step * (262144 - t * t)) = (j : Int) * step * (262144 - t * t) := IntWalk.i64_in _ (by omega)
            have p4 : IntKind.i64.wrap L = L := IntWalk.i64_in _ (by omega)
            have p5 : (262144 + t * t == 0) = false := by rw [beq_eq_false_iff_ne]; omega
            have p6 : IntKind.i64.wrap ((j : Int) + 1) = (j : Int) + 1 := IntWalk.i64_in _ (by omega)
            have p7 : IntKind.i64.wrap (((j : Int) + 1) * step) = ((j : Int) + 1) * step := IntWalk.i64_in _ (by omega)
            have p8 : IntKind.i64.wrap (((j : Int) + 1) * step * (262144 - t * t)) = ((j : Int) + 1) * step * (262144 - t * t) := IntWalk.i64_in _ (by omega)
            have p10 : IntKind.i64.wrap H = H := IntWalk.i64_in _ (by omega)
            have HO := Lib.hid (show One w wr nm x y z n g step width from ⟨⟨k0, k1, k2, k3, k4, k5, k6, k7⟩, hz, hbw⟩)
            by_cases hh : j + 1 = r
            · exfalso; omega
            · have HM := Lib.hid (hgc.miss hh)
              have GT := Lib.hid (fun h => hh (gt.1 h))
              clear hh gt hgc
              by_cases u1 : L * L ≤ dx * dx + dy * dy
              · have u2 : ¬ dx * dx + dy * dy < H * H := fun h => GT.out ⟨u1, h⟩
                go_wp2
                go_quiet (fail)
                clear p1 p2 p3 p4 p5 p6 p7 p8 p9 p10
                go_wp2
                go_roundw
                case rel => exact ⟨j + 1, gc, by omega, by go_num, rfl, HM.out, HO.out.keep (below_drewN (Below.refl _ _) _) HO.out.z⟩
                case measure => simp [intOf]; omega
              · go_wp2
                go_quiet (fail)
                clear p1 p2 p3 p4 p5 p6 p7 p8 p9 p10
                go_wp2
                go_roundw
                case rel => exact ⟨j + 1, gc, by omega, by go_num, rfl, HM.out, HO.out.keep (below_drewN (Below.refl _ _) _) HO.out.z⟩
                case measure => simp [intOf]; omega
          · obtain rfl : gc = 0 := by unfold GatIs at hgc; rw [if_neg (by omega)] at hgc; exact hgc
            clear hgc gb1 gb2
            go_wp2_with fail
            refine (F2.out _).mono ?_; rintro e w5 ⟨rfl, hb5⟩
            have O5 := (⟨⟨k0, k1, k2, k3, k4, k5, k6, k7⟩, hz, hbw⟩ : One w wr nm x y z n g step width).keep hb5 hz
            clear hb5 k0 k1 k2 k3 k4 k5 k6 k7 hz hbw y0
            obtain ⟨⟨k0, k1, k2, k3, k4, k5, k6, k7⟩, hz, hbw⟩ := O5
            have y0 : w.heap.size < w5.heap.size := by omega
            go_wp2_with fail
            refine (works_any _).mono ?_; rintro e w9 ⟨rfl, hb9⟩
            go_wp2
            go_ret
            exact ⟨rfl, hbw.trans (hb9.mono (by omega))⟩
  · have hz5 : (dx == 0) = false := by rw [beq_eq_false_iff_ne]; exact hd0
    clear hd0 hnz
    have hO := Lib.hid (show One w w3 nm x y z n g step width from ⟨⟨k0, k1, k2, k3, k4, k5, k6, k7⟩, hz, hbw⟩)
    go_wp2
    clear k0 k1 k2 k3 k4 k5 k6 k7 hz hbw y0
    go_loopw [18, 20] (fun m i wr => ∃ (a : Nat) (mc : Int), (a : Int) ≤ 4 * n ∧ i = .int .i64 a ∧ m = .int .i64 mc ∧ MetIs pr a mc ∧ One w wr nm x y z n g step width) (fun _ i _ => 4 * n - (intOf i).toNat)
    case atStart => exact ⟨0, 0, by omega, rfl, rfl, by unfold MetIs; rw [if_neg (by omega)], hO.out⟩
    case round =>
      clear hO
      obtain ⟨a, mc, ha4, rfl, rfl, hmc, hone⟩ := hrel
      obtain ⟨mb1, mb2⟩ := hmc.bd
      obtain ⟨⟨k0, k1, k2, k3, k4, k5, k6, k7⟩, hz, hbw⟩ := hone
      have y0 : w.heap.size < wr.heap.size := by omega
      by_cases hlt : (a : Int) < 4 * n
      · by_cases ha : (a : Int) = pr
        · have HP := Lib.hid ((SEC.out a (by omega) hlt).2 ha)
          have HM := Lib.hid (hmc.hit ha)
          skip
          clear ha hmc
          go_wp2_with fail
          refine (lsector_yes n a dx dy _ (by omega) (by omega) (by omega) hlt b1 b2 b3 b4 HP.out).mono ?_; rintro e w4 ⟨rfl, hb4⟩
          have HO := Lib.hid ((⟨⟨k0, k1, k2, k3, k4, k5, k6, k7⟩, hz, hbw⟩ : One w wr nm x y z n g step width).keep hb4 hz)
          clear hb4 k0 k1 k2 k3 k4 k5 k6 k7 hz hbw y0
          go_wp2
          go_roundw
          case rel => exact ⟨a + 1, mc + 1, by omega, by go_num, rfl, HM.out, HO.out⟩
          case measure => simp [intOf]; omega
        · have HP := Lib.hid (fun h => ha ((SEC.out a (by omega) hlt).1 h))
          have HM := Lib.hid (hmc.miss ha)
          clear ha hmc
          go_wp2_with fail
          refine (lsector_no n a dx dy _ (by omega) (by omega) (by omega) hlt b1 b2 b3 b4 HP.out).mono ?_; rintro e w4 ⟨rfl, hb4⟩
          have HO := Lib.hid ((⟨⟨k0, k1, k2, k3, k4, k5, k6, k7⟩, hz, hbw⟩ : One w wr nm x y z n g step width).keep hb4 hz)
          clear hb4 k0 k1 k2 k3 k4 k5 k6 k7 hz hbw y0
          go_wp2
          go_roundw
          case rel => exact ⟨a + 1, mc, by omega, by go_num, rfl, HM.out, HO.out⟩
          case measure => simp [intOf]; omega
      · obtain rfl : mc = 1 := by unfold MetIs at hmc; rw [if_pos (by omega)] at hmc; exact hmc
        clear hmc mb1 mb2
        have hO2 := Lib.hid (show One w wr nm x y z n g step width from ⟨⟨k0, k1, k2, k3, k4, k5, k6, k7⟩, hz, hbw⟩)
        go_wp2
        clear k0 k1 k2 k3 k4 k5 k6 k7 hz hbw y0
        go_loopw [21, 22] (fun m i wr => ∃ (j : Nat) (gc : Int), j ≤ g ∧ i = .int .i64 j ∧ m = .int .i64 gc ∧ GatIs r j gc ∧ One w wr nm x y z n g step width) (fun _ i _ => g - (intOf i).toNat)
        case atStart => exact ⟨0, 0, Nat.zero_le _, rfl, rfl, by unfold GatIs; rw [if_neg (by omega)], hO2.out⟩
        case round =>
          clear hO2
          obtain ⟨j, gc, hj, rfl, rfl, hgc, hone⟩ := hrel
          obtain ⟨gb1, gb2⟩ := hgc.bd
          obtain ⟨⟨k0, k1, k2, k3, k4, k5, k6, k7⟩, hz, hbw⟩ := hone
          have y0 : w.heap.size < wr.heap.size := by omega
          by_cases hlt2 : j < g
          · obtain ⟨⟨a1, a2⟩, ⟨a3, a4⟩, a5, a6⟩ := bordI_bd (k := j) ht0 ht s1 s2 (by omega)
            obtain ⟨⟨c1, c2⟩, ⟨c3, c4⟩, c5, c6⟩ := bordI_bd (k := j + 1) ht0 ht s1 s2 (by omega)
            have ej : ((j + 1 : Nat) : Int) = (j : Int) + 1 := by omega
            rw [ej] at c1 c2 c3 c4
            have gt := GAT.out j hlt2
            obtain ⟨L, hL⟩ : ∃ L, L = bordI step t j := ⟨_, rfl⟩
            obtain ⟨H, hH⟩ : ∃ H, H = bordI step t (j + 1) := ⟨_, rfl⟩
            have p3 : ((j : Int) * step * (262144 - t * t)).tdiv (262144 + t * t) = L := by rw [hL]; unfold bordI; exact Int.tdiv_eq_ediv_of_nonneg a3
            have p9 : (((j : Int) + 1) * step * (262144 - t * t)).tdiv (262144 + t * t) = H := by rw [hH]; unfold bordI; rw [ej]; exact Int.tdiv_eq_ediv_of_nonneg c3
            rw [← hL] at a5 a6 gt
            rw [← hH] at c5 c6 gt
            have mL := M.mul_bd a5 a6 a5 a6
            have mH := M.mul_bd c5 c6 c5 c6
            clear hL hH ej
            have p1 : IntKind.i64.wrap ((j : Int) * step) = (j : Int) * step := IntWalk.i64_in _ (by omega)
            have p2 : IntKind.i64.wrap ((j : Int) * step * (262144 - t * t)) = (j : Int) * step * (262144 - t * t) := IntWalk.i64_in _ (by omega)
            have p4 : IntKind.i64.wrap L = L := IntWalk.i64_in _ (by omega)
            have p5 : (262144 + t * t == 0) = false := by rw [beq_eq_false_iff_ne]; omega
            have p6 : IntKind.i64.wrap ((j : Int) + 1) = (j : Int) + 1 := IntWalk.i64_in _ (by omega)
            have p7 : IntKind.i64.wrap (((j : Int) + 1) * step) = ((j : Int) + 1) * step := IntWalk.i64_in _ (by omega)
            have p8 : IntKind.i64.wrap (((j : Int) + 1) * step * (262144 - t * t)) = ((j : Int) + 1) * step * (262144 - t * t) := IntWalk.i64_in _ (by omega)
            have p10 : IntKind.i64.wrap H = H := IntWalk.i64_in _ (by omega)
            have HO := Lib.hid (show One w wr nm x y z n g step width from ⟨⟨k0, k1, k2, k3, k4, k5, k6, k7⟩, hz, hbw⟩)
            by_cases hh : j + 1 = r
            · exfalso; omega
            · have HM := Lib.hid (hgc.miss hh)
              have GT := Lib.hid (fun h => hh (gt.1 h))
              clear hh gt hgc
              by_cases u1 : L * L ≤ dx * dx + dy * dy
              · have u2 : ¬ dx * dx + dy * dy < H * H := fun h => GT.out ⟨u1, h⟩
                go_wp2
                go_quiet (fail)
                clear p1 p2 p3 p4 p5 p6 p7 p8 p9 p10
                go_wp2
                go_roundw
                case rel => exact ⟨j + 1, gc, by omega, by go_num, rfl, HM.out, HO.out.keep (below_drewN (Below.refl _ _) _) HO.out.z⟩
                case measure => simp [intOf]; omega
              · go_wp2
                go_quiet (fail)
                clear p1 p2 p3 p4 p5 p6 p7 p8 p9 p10
                go_wp2
                go_roundw
                case rel => exact ⟨j + 1, gc, by omega, by go_num, rfl, HM.out, HO.out.keep (below_drewN (Below.refl _ _) _) HO.out.z⟩
                case measure => simp [intOf]; omega
          · obtain rfl : gc = 0 := by unfold GatIs at hgc; rw [if_neg (by omega)] at hgc; exact hgc
            clear hgc gb1 gb2
            go_wp2_with fail
            refine (F2.out _).mono ?_; rintro e w5 ⟨rfl, hb5⟩
            have O5 := (⟨⟨k0, k1, k2, k3, k4, k5, k6, k7⟩, hz, hbw⟩ : One w wr nm x y z n g step width).keep hb5 hz
            clear hb5 k0 k1 k2 k3 k4 k5 k6 k7 hz hbw y0
            obtain ⟨⟨k0, k1, k2, k3, k4, k5, k6, k7⟩, hz, hbw⟩ := O5
            have y0 : w.heap.size < w5.heap.size := by omega
            go_wp2_with fail
            refine (works_any _).mono ?_; rintro e w9 ⟨rfl, hb9⟩
            go_wp2
            go_ret
            exact ⟨rfl, hbw.trans (hb9.mono (by omega))⟩

end Go.Proofs.Ythnjfnapjpdchaa
