/-
  What a view is; two lists compared; the errors of View.
-/
import Derived.Test.YthnjfnapjpdchaaZ0
import Derived.Test.YthnjfnapjpdchaaY1
import Derived.Test.YthnjfnapjpdchaaY2
namespace Go.Proofs.Ythnjfnapjpdchaa
open Go.RowKit
set_option linter.unusedVariables false

theorem ray_bd {n : Nat} {dx dy ray : Int} (h1 : 1 ≤ n) (hr : RayIs n dx dy ray) : 0 ≤ ray ∧ ray < 4 * n := by
  by_cases h : dx = 0 ∧ dy = 0
  · obtain ⟨rfl, rfl⟩ := h
    obtain rfl := ray_det h1 hr (.inl ⟨rfl, rfl, rfl⟩)
    omega
  · exact (sec_unique h1 h hr).1

/-- what a pixel's middle sees -/
def ViewIs (n g : Nat) (step t dx dy v : Int) : Prop :=
  ∃ r, SrchIs (g + 1) (inside (dx * dx + dy * dy) (bordI step t)) r ∧ ((r = g + 1 ∧ v = -1) ∨ (r ≤ g ∧ ∃ pr, RayIs n dx dy pr ∧ v = pr * g + ((r : Int) - 1)))
theorem view_exists {n g : Nat} {step t : Int} (h1 : 0 ≤ t) (h2 : t ≤ 256) (s1 : 50 ≤ step) (s2 : step ≤ 2000) (hg : g ≤ 200) (dx dy : Int) : ∃ v, ViewIs n g step t dx dy v := by
  obtain ⟨r, hr⟩ := srch_exists (g + 1) (inside (dx * dx + dy * dy) (bordI step t)) (inside_mono (bord_mono (step := step) (t := t) h1 h2 s1 s2 (by omega)))
  by_cases h : r ≤ g
  · obtain ⟨pr, hpr⟩ := ray_exists (n := n) dx dy
    exact ⟨_, r, hr, .inr ⟨h, pr, hpr, rfl⟩⟩
  · have := hr.1
    exact ⟨-1, r, hr, .inl ⟨by omega, rfl⟩⟩
theorem view_find {n g : Nat} {step t dx dy v ray gate : Int} {ok : Bool} (hn : 1 ≤ n) (hv : ViewIs n g step t dx dy v) (hf : FindIs (g + 1) n (bordI step t) dx dy ray gate ok) :
    (ok = false ∧ v = -1) ∨ (ok = true ∧ v = ray * g + gate ∧ (0 ≤ ray ∧ ray < 4 * n) ∧ -1 ≤ gate ∧ gate < g) := by
  obtain ⟨r, hr, hv⟩ := hv
  obtain ⟨r2, hr2, hf⟩ := hf
  obtain rfl := srch_det hr hr2
  rcases hf with ⟨e1, e2, _, _⟩ | ⟨e1, e2, rfl, h3⟩
  · rcases hv with ⟨_, rfl⟩ | ⟨e3, _⟩
    · exact .inl ⟨e2, rfl⟩
    · omega
  · rcases hv with ⟨e3, _⟩ | ⟨_, pr, hpr, rfl⟩
    · omega
    · obtain rfl := ray_det hn hpr h3
      exact .inr ⟨e2, rfl, ray_bd hn h3, by omega, by omega⟩

theorem RowAt.keep {C b n : Nat} {W w1 : World} {B : Nat → Int} (s : RowAt W b n B) (hb : Below C W w1) (h : b < C) : RowAt w1 b n B := ⟨fun k hk => keepB hb h (s.c k hk), fun k hk => keepF hb h (s.f k hk)⟩
theorem RowAt.ext {b n : Nat} {W : World} {B B2 : Nat → Int} (s : RowAt W b n B) (h : ∀ k, k < n → B2 k = B k) : RowAt W b n B2 := ⟨fun k hk => by rw [h k hk]; exact s.c k hk, s.f⟩

set_option maxHeartbeats 1600000 in
theorem numbers_same (n b1 b2 c1 c2 : Nat) (V : Nat → Int) (w : World) (hn : n ≤ 100000) (h1 : IntsAt w b1 n V) (h2 : IntsAt w b2 n V) (l1 : b1 < w.heap.size) (l2 : b2 < w.heap.size) :
    Calls Try.prog 45 #[.slice (some ⟨b1, 0, none⟩) n c1, .slice (some ⟨b2, 0, none⟩) n c2] w fun e w' => e = .returned (.bool true) ∧ Below w.heap.size w w' := by
  have H1 := Lib.hid h1
  have H2 := Lib.hid h2
  clear h1 h2
  go_enter Try.func45, Try.ntmps45
  go_wp2
  go_loopw [5] (fun i wr => ∃ k : Nat, k ≤ n ∧ i = .int .i64 k ∧ Below w.heap.size w wr) (fun i _ => n - (intOf i).toNat)
  case atStart => exact ⟨0, Nat.zero_le _, rfl, Below.refl _ _⟩
  case round =>
    obtain ⟨k, hk, rfl, hbw⟩ := hrel
    by_cases hlt : k < n
    · have p1 := keepB hbw l1 (H1.out k hlt)
      have p2 := keepB hbw l2 (H2.out k hlt)
      have q0 : (0 : Int) ≤ (k : Int) := by omega
      have q1 : (k : Int) < (n : Int) := by omega
      go_wp2
      go_quiet (fail)
      go_wp2
      go_roundw
      case rel => exact ⟨k + 1, by omega, by go_num, below_drewN hbw _⟩
      case measure => simp [intOf]; omega
    · go_wp2
      go_ret
      exact ⟨rfl, hbw⟩

set_option maxHeartbeats 1600000 in
theorem numbers_nil (w : World) :
    Calls Try.prog 45 #[.slice none 0 0, .slice none 0 0] w fun e w' => e = .returned (.bool true) ∧ Below w.heap.size w w' := by
  go_enter Try.func45, Try.ntmps45
  go_wp2
  go_loopw [5] (fun i wr => i = .int .i64 0 ∧ Below w.heap.size w wr) (fun i _ => 0)
  case atStart => exact ⟨rfl, Below.refl _ _⟩
  case round =>
    obtain ⟨rfl, hbw⟩ := hrel
    go_wp2
    go_ret
    exact ⟨rfl, hbw⟩

set_option maxRecDepth 100000 in
set_option maxHeartbeats 1600000 in
theorem View_site (nm : ByteArray) (x y z rose gates step width gx gy size wide high : Int) (t : Int) (w : World) (hs : nm.size ≤ maxLen) (hne : (siteC nm x y z rose gates step width != 0) = true) :
    Calls Try.prog 43 #[.agg #[.string nm, .int .i64 x, .int .i64 y, .int .i64 z, .int .i64 rose, .int .i64 gates, .int .i64 step, .int .i64 width], .int .i64 t, .agg #[.int .i64 gx, .int .i64 gy, .int .i64 size, .int .i64 wide, .int .i64 high]] w fun e w' => e = .returned (.tuple #[.slice none 0 0, .int .i64 (siteC nm x y z rose gates step width)]) ∧ Below w.heap.size w w' := by
  have HS := Lib.hid hs
  clear hs
  have hne2 : (siteC nm x y z rose gates step width == 0) = false := by rw [beq_eq_false_iff_ne]; exact bne_iff_ne.1 hne
  go_enter Try.func43, Try.ntmps43
  go_wp2_with fail
  refine (CheckSite_any _ _ _ _ _ _ _ _ _ HS.out).mono ?_; rintro e w1 ⟨rfl, hb1⟩
  have O1 := (SG.new w nm x y z rose gates step width gx gy size wide high).keep hb1 (by simp)
  clear hb1
  obtain ⟨⟨k0, k1, k2, k3, k4, k5, k6, k7⟩, ⟨g0, g1, g2, g3, g4⟩, hz, hbw⟩ := O1
  have y0 : w.heap.size < w1.heap.size := by omega
  have y1 : w.heap.size + 1 < w1.heap.size := by omega
  go_wp2
  go_ret2
  exact ⟨rfl, hbw⟩

set_option maxRecDepth 100000 in
set_option maxHeartbeats 1600000 in
theorem View_grid (nm : ByteArray) (x y z rose gates step width gx gy size wide high : Int) (t : Int) (w : World) (hs : nm.size ≤ maxLen) (h0 : siteC nm x y z rose gates step width = 0) (hne : (gridC gx gy size wide high != 0) = true) :
    Calls Try.prog 43 #[.agg #[.string nm, .int .i64 x, .int .i64 y, .int .i64 z, .int .i64 rose, .int .i64 gates, .int .i64 step, .int .i64 width], .int .i64 t, .agg #[.int .i64 gx, .int .i64 gy, .int .i64 size, .int .i64 wide, .int .i64 high]] w fun e w' => e = .returned (.tuple #[.slice none 0 0, .int .i64 (gridC gx gy size wide high)]) ∧ Below w.heap.size w w' := by
  have HS := Lib.hid hs
  clear hs
  have H0 := Lib.hid h0
  clear h0
  go_enter Try.func43, Try.ntmps43
  go_wp2_with fail
  refine (CheckSite_any _ _ _ _ _ _ _ _ _ HS.out).mono ?_; rintro e w1 ⟨rfl, hb1⟩
  have O1 := (SG.new w nm x y z rose gates step width gx gy size wide high).keep hb1 (by simp)
  clear hb1
  obtain ⟨⟨k0, k1, k2, k3, k4, k5, k6, k7⟩, ⟨g0, g1, g2, g3, g4⟩, hz, hbw⟩ := O1
  have y0 : w.heap.size < w1.heap.size := by omega
  have y1 : w.heap.size + 1 < w1.heap.size := by omega
  rw [H0.out]
  go_wp2_with fail
  refine (CheckGrid_any _ _ _ _ _ _).mono ?_; rintro e w2 ⟨rfl, hb2⟩
  have O2 := (⟨⟨k0, k1, k2, k3, k4, k5, k6, k7⟩, ⟨g0, g1, g2, g3, g4⟩, hz, hbw⟩ : SG w w1 nm x y z rose gates step width gx gy size wide high).keep hb2 hz
  clear k0 k1 k2 k3 k4 k5 k6 k7 g0 g1 g2 g3 g4 hz hbw y0 y1 hb2
  obtain ⟨⟨k0, k1, k2, k3, k4, k5, k6, k7⟩, ⟨g0, g1, g2, g3, g4⟩, hz, hbw⟩ := O2
  have y0 : w.heap.size < w2.heap.size := by omega
  have y1 : w.heap.size + 1 < w2.heap.size := by omega
  go_wp2
  go_ret2
  exact ⟨rfl, hbw⟩

set_option maxRecDepth 100000 in
set_option maxHeartbeats 1600000 in
theorem View_tilt (nm : ByteArray) (x y z rose gates step width gx gy size wide high : Int) (t : Int) (w : World) (hs : nm.size ≤ maxLen) (h0 : siteC nm x y z rose gates step width = 0) (hg : gridC gx gy size wide high = 0) (c0 : inB t 0 256 = false) :
    Calls Try.prog 43 #[.agg #[.string nm, .int .i64 x, .int .i64 y, .int .i64 z, .int .i64 rose, .int .i64 gates, .int .i64 step, .int .i64 width], .int .i64 t, .agg #[.int .i64 gx, .int .i64 gy, .int .i64 size, .int .i64 wide, .int .i64 high]] w fun e w' => e = .returned (.tuple #[.slice none 0 0, .int .i64 (3)]) ∧ Below w.heap.size w w' := by
  have HS := Lib.hid hs
  clear hs
  have H0 := Lib.hid h0
  have HG := Lib.hid hg
  clear h0 hg
  go_enter Try.func43, Try.ntmps43
  go_wp2_with fail
  refine (CheckSite_any _ _ _ _ _ _ _ _ _ HS.out).mono ?_; rintro e w1 ⟨rfl, hb1⟩
  have O1 := (SG.new w nm x y z rose gates step width gx gy size wide high).keep hb1 (by simp)
  clear hb1
  obtain ⟨⟨k0, k1, k2, k3, k4, k5, k6, k7⟩, ⟨g0, g1, g2, g3, g4⟩, hz, hbw⟩ := O1
  have y0 : w.heap.size < w1.heap.size := by omega
  have y1 : w.heap.size + 1 < w1.heap.size := by omega
  rw [H0.out]
  go_wp2_with fail
  refine (CheckGrid_any _ _ _ _ _ _).mono ?_; rintro e w2 ⟨rfl, hb2⟩
  have O2 := (⟨⟨k0, k1, k2, k3, k4, k5, k6, k7⟩, ⟨g0, g1, g2, g3, g4⟩, hz, hbw⟩ : SG w w1 nm x y z rose gates step width gx gy size wide high).keep hb2 hz
  clear k0 k1 k2 k3 k4 k5 k6 k7 g0 g1 g2 g3 g4 hz hbw y0 y1 hb2
  obtain ⟨⟨k0, k1, k2, k3, k4, k5, k6, k7⟩, ⟨g0, g1, g2, g3, g4⟩, hz, hbw⟩ := O2
  have y0 : w.heap.size < w2.heap.size := by omega
  have y1 : w.heap.size + 1 < w2.heap.size := by omega
  rw [HG.out]
  go_wp2_with fail
  refine (isTilt_any _ _).mono ?_; rintro e w' ⟨rfl, rfl⟩
  go_wp2
  go_ret2
  exact ⟨rfl, hbw⟩

set_option maxRecDepth 100000 in
set_option maxHeartbeats 1600000 in
theorem refView_site (nm : ByteArray) (x y z rose gates step width gx gy size wide high : Int) (t : Int) (w : World) (hs : nm.size ≤ maxLen) (hne : (siteC nm x y z rose gates step width != 0) = true) :
    Calls Try.prog 44 #[.agg #[.string nm, .int .i64 x, .int .i64 y, .int .i64 z, .int .i64 rose, .int .i64 gates, .int .i64 step, .int .i64 width], .int .i64 t, .agg #[.int .i64 gx, .int .i64 gy, .int .i64 size, .int .i64 wide, .int .i64 high]] w fun e w' => e = .returned (.tuple #[.slice none 0 0, .int .i64 (siteC nm x y z rose gates step width)]) ∧ Below w.heap.size w w' := by
  have HS := Lib.hid hs
  clear hs
  have hne2 : (siteC nm x y z rose gates step width == 0) = false := by rw [beq_eq_false_iff_ne]; exact bne_iff_ne.1 hne
  go_enter Try.func44, Try.ntmps44
  go_wp2_with fail
  refine (refCheckSite_any _ _ _ _ _ _ _ _ _ HS.out).mono ?_; rintro e w1 ⟨rfl, hb1⟩
  have O1 := (SG.new w nm x y z rose gates step width gx gy size wide high).keep hb1 (by simp)
  clear hb1
  obtain ⟨⟨k0, k1, k2, k3, k4, k5, k6, k7⟩, ⟨g0, g1, g2, g3, g4⟩, hz, hbw⟩ := O1
  have y0 : w.heap.size < w1.heap.size := by omega
  have y1 : w.heap.size + 1 < w1.heap.size := by omega
  go_wp2
  go_ret2
  exact ⟨rfl, hbw⟩

set_option maxRecDepth 100000 in
set_option maxHeartbeats 1600000 in
theorem refView_grid (nm : ByteArray) (x y z rose gates step width gx gy size wide high : Int) (t : Int) (w : World) (hs : nm.size ≤ maxLen) (h0 : siteC nm x y z rose gates step width = 0) (hne : (gridC gx gy size wide high != 0) = true) :
    Calls Try.prog 44 #[.agg #[.string nm, .int .i64 x, .int .i64 y, .int .i64 z, .int .i64 rose, .int .i64 gates, .int .i64 step, .int .i64 width], .int .i64 t, .agg #[.int .i64 gx, .int .i64 gy, .int .i64 size, .int .i64 wide, .int .i64 high]] w fun e w' => e = .returned (.tuple #[.slice none 0 0, .int .i64 (gridC gx gy size wide high)]) ∧ Below w.heap.size w w' := by
  have HS := Lib.hid hs
  clear hs
  have H0 := Lib.hid h0
  clear h0
  go_enter Try.func44, Try.ntmps44
  go_wp2_with fail
  refine (refCheckSite_any _ _ _ _ _ _ _ _ _ HS.out).mono ?_; rintro e w1 ⟨rfl, hb1⟩
  have O1 := (SG.new w nm x y z rose gates step width gx gy size wide high).keep hb1 (by simp)
  clear hb1
  obtain ⟨⟨k0, k1, k2, k3, k4, k5, k6, k7⟩, ⟨g0, g1, g2, g3, g4⟩, hz, hbw⟩ := O1
  have y0 : w.heap.size < w1.heap.size := by omega
  have y1 : w.heap.size + 1 < w1.heap.size := by omega
  rw [H0.out]
  go_wp2_with fail
  refine (refCheckGrid_any _ _ _ _ _ _).mono ?_; rintro e w2 ⟨rfl, hb2⟩
  have O2 := (⟨⟨k0, k1, k2, k3, k4, k5, k6, k7⟩, ⟨g0, g1, g2, g3, g4⟩, hz, hbw⟩ : SG w w1 nm x y z rose gates step width gx gy size wide high).keep hb2 hz
  clear k0 k1 k2 k3 k4 k5 k6 k7 g0 g1 g2 g3 g4 hz hbw y0 y1 hb2
  obtain ⟨⟨k0, k1, k2, k3, k4, k5, k6, k7⟩, ⟨g0, g1, g2, g3, g4⟩, hz, hbw⟩ := O2
  have y0 : w.heap.size < w2.heap.size := by omega
  have y1 : w.heap.size + 1 < w2.heap.size := by omega
  go_wp2
  go_ret2
  exact ⟨rfl, hbw⟩

set_option maxRecDepth 100000 in
set_option maxHeartbeats 1600000 in
theorem refView_tilt (nm : ByteArray) (x y z rose gates step width gx gy size wide high : Int) (t : Int) (w : World) (hs : nm.size ≤ maxLen) (h0 : siteC nm x y z rose gates step width = 0) (hg : gridC gx gy size wide high = 0) (c0 : inB t 0 256 = false) :
    Calls Try.prog 44 #[.agg #[.string nm, .int .i64 x, .int .i64 y, .int .i64 z, .int .i64 rose, .int .i64 gates, .int .i64 step, .int .i64 width], .int .i64 t, .agg #[.int .i64 gx, .int .i64 gy, .int .i64 size, .int .i64 wide, .int .i64 high]] w fun e w' => e = .returned (.tuple #[.slice none 0 0, .int .i64 (3)]) ∧ Below w.heap.size w w' := by
  have HS := Lib.hid hs
  clear hs
  have H0 := Lib.hid h0
  have HG := Lib.hid hg
  clear h0 hg
  go_enter Try.func44, Try.ntmps44
  go_wp2_with fail
  refine (refCheckSite_any _ _ _ _ _ _ _ _ _ HS.out).mono ?_; rintro e w1 ⟨rfl, hb1⟩
  have O1 := (SG.new w nm x y z rose gates step width gx gy size wide high).keep hb1 (by simp)
  clear hb1
  obtain ⟨⟨k0, k1, k2, k3, k4, k5, k6, k7⟩, ⟨g0, g1, g2, g3, g4⟩, hz, hbw⟩ := O1
  have y0 : w.heap.size < w1.heap.size := by omega
  have y1 : w.heap.size + 1 < w1.heap.size := by omega
  rw [H0.out]
  go_wp2_with fail
  refine (refCheckGrid_any _ _ _ _ _ _).mono ?_; rintro e w2 ⟨rfl, hb2⟩
  have O2 := (⟨⟨k0, k1, k2, k3, k4, k5, k6, k7⟩, ⟨g0, g1, g2, g3, g4⟩, hz, hbw⟩ : SG w w1 nm x y z rose gates step width gx gy size wide high).keep hb2 hz
  clear k0 k1 k2 k3 k4 k5 k6 k7 g0 g1 g2 g3 g4 hz hbw y0 y1 hb2
  obtain ⟨⟨k0, k1, k2, k3, k4, k5, k6, k7⟩, ⟨g0, g1, g2, g3, g4⟩, hz, hbw⟩ := O2
  have y0 : w.heap.size < w2.heap.size := by omega
  have y1 : w.heap.size + 1 < w2.heap.size := by omega
  rw [HG.out]
  go_wp2_with fail
  refine (refIn_any _ _ _ _).mono ?_; rintro e w' ⟨rfl, rfl⟩
  go_wp2
  go_ret2
  exact ⟨rfl, hbw⟩

end Go.Proofs.Ythnjfnapjpdchaa
