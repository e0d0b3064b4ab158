/-
  Find and its reference answer the same.
-/
import Derived.Test.Ythnjfnapjpdchaamg12
import Derived.Test.Ythnjfnapjpdchaamg4
import Derived.Test.Ythnjfnapjpdchaamg3
namespace Go.Proofs.Ythnjfnapjpdchaa
open Go.RowKit
set_option linter.unusedVariables false

def FindCalls (F : Nat) (nm : ByteArray) (x y z rose gates step width : Int) (t ax ay p q r : Int) : Prop := ∀ w : World, Calls Try.prog F #[.agg #[.string nm, .int .i64 x, .int .i64 y, .int .i64 z, .int .i64 rose, .int .i64 gates, .int .i64 step, .int .i64 width], .int .i64 t, .int .i64 ax, .int .i64 ay] w fun e w' => e = .returned (.tuple #[.int .i64 p, .int .i64 q, .int .i64 r]) ∧ Below w.heap.size w w'

theorem find_both (nm : ByteArray) (x y z rose gates step width : Int) (t ax ay : Int) (hs : nm.size ≤ maxLen) : ∃ p q r : Int, FindCalls 38 nm x y z rose gates step width t ax ay p q r ∧ FindCalls 39 nm x y z rose gates step width t ax ay p q r := by
  by_cases h0 : siteC nm x y z rose gates step width = 0
  · have hk := (siteC_zero.1 h0).2
    rcases (Bool.eq_false_or_eq_true (inB t 0 256)).symm with c0 | c0
    · exact ⟨0, 0, 3, fun w => Find_no0 nm x y z rose gates step width t ax ay w hs h0 c0, fun w => refFind_no0 nm x y z rose gates step width t ax ay w hs h0 c0⟩
    rcases (Bool.eq_false_or_eq_true (inB ax (-4194304) 4194304)).symm with c1 | c1
    · exact ⟨0, 0, 3, fun w => Find_no1 nm x y z rose gates step width t ax ay w hs h0 c0 c1, fun w => refFind_no1 nm x y z rose gates step width t ax ay w hs h0 c0 c1⟩
    rcases (Bool.eq_false_or_eq_true (inB ay (-4194304) 4194304)).symm with c2 | c2
    · exact ⟨0, 0, 3, fun w => Find_no2 nm x y z rose gates step width t ax ay w hs h0 c0 c1 c2, fun w => refFind_no2 nm x y z rose gates step width t ax ay w hs h0 c0 c1 c2⟩
    obtain ⟨n, rfl⟩ := Int.eq_ofNat_of_zero_le (show 0 ≤ rose by have := hk.r1; omega)
    obtain ⟨g, rfl⟩ := Int.eq_ofNat_of_zero_le (show 0 ≤ gates by have := hk.g1; omega)
    have hn : 1 ≤ n := by have := hk.r1; omega
    have hg : 1 ≤ g := by have := hk.g1; omega
    have hg2 : g ≤ 200 := by have := hk.g2; omega
    obtain ⟨ht0, ht⟩ := inB_true.1 c0
    obtain ⟨dx, hdx⟩ : ∃ d, ax - x = d := ⟨_, rfl⟩
    obtain ⟨dy, hdy⟩ : ∃ d, ay - y = d := ⟨_, rfl⟩
    obtain ⟨r, hr⟩ := srch_exists (g + 1) (inside (dx * dx + dy * dy) (bordI step t)) (inside_mono (bord_mono (step := step) (t := t) ht0 ht hk.s1 hk.s2 (by omega)))
    by_cases hz : dx = 0 ∧ dy = 0
    · have hr1 : r = 1 := by
        rw [hz.1, hz.2] at hr
        exact srch_zero hg ht0 ht hk.s1 hr
      refine ⟨0, 0, 0, fun w => ?_, fun w => refFind_zero nm x y z n g step width t ax ay dx dy hdx hdy w hs h0 c0 c1 c2 (by simp [hz.1]) (by simp [hz.2])⟩
      have h := Find_in nm x y z n g step width t ax ay dx dy hdx hdy r hr w hs h0 hk c0 c1 c2 (by omega) hn 0 (.inl ⟨hz.1, hz.2, rfl⟩)
      rw [hr1] at h
      exact h
    · obtain ⟨pr, hpr⟩ := ray_exists (n := n) dx dy
      obtain ⟨⟨hp0, hp1⟩, hsec⟩ := sec_unique hn hz hpr
      obtain ⟨P, rfl⟩ := Int.eq_ofNat_of_zero_le hp0
      have hr1 : 1 ≤ r := srch_one (by have := M.sq_nonneg dx; have := M.sq_nonneg dy; omega) hr
      have hrN := hr.1
      have key : ∀ (Res : Value), (r ≤ g → Res = .tuple #[.int .i64 P, .int .i64 ((r : Int) - 1), .int .i64 0]) → (¬ r ≤ g → Res = .tuple #[.int .i64 0, .int .i64 0, .int .i64 29]) → ∀ w : World, Calls Try.prog 39 #[.agg #[.string nm, .int .i64 x, .int .i64 y, .int .i64 z, .int .i64 (n : Nat), .int .i64 (g : Nat), .int .i64 step, .int .i64 width], .int .i64 t, .int .i64 ax, .int .i64 ay] w fun e w' => e = .returned Res ∧ Below w.heap.size w w' := by
        intro Res k1 k2 w
        by_cases z1 : dx = 0
        · exact refFind_b nm x y z n g step width t ax ay dx dy hdx hdy r hr hr1 w hs h0 hk c0 c1 c2 P hp1 Res k1 k2 hsec (by simp [z1]) (by rw [beq_eq_false_iff_ne]; exact fun h => hz ⟨z1, h⟩)
        · exact refFind_a nm x y z n g step width t ax ay dx dy hdx hdy r hr hr1 w hs h0 hk c0 c1 c2 P hp1 Res k1 k2 hsec (by rw [beq_eq_false_iff_ne]; exact z1)
      by_cases hin : r ≤ g
      · exact ⟨P, (r : Int) - 1, 0, fun w => Find_in nm x y z n g step width t ax ay dx dy hdx hdy r hr w hs h0 hk c0 c1 c2 hin hn P hpr, key _ (fun _ => rfl) (fun h => absurd hin h)⟩
      · exact ⟨0, 0, 29, fun w => Find_out nm x y z n g step width t ax ay dx dy hdx hdy r hr w hs h0 hk c0 c1 c2 (by omega), key _ (fun h => absurd h hin) (fun _ => rfl)⟩
  · exact ⟨0, 0, siteC nm x y z rose gates step width, fun w => Find_err nm x y z rose gates step width t ax ay w hs (bne_iff_ne.2 h0), fun w => refFind_err nm x y z rose gates step width t ax ay w hs (bne_iff_ne.2 h0)⟩

end Go.Proofs.Ythnjfnapjpdchaa

namespace Go.Proofs.Ythnjfnapjpdchaa
open Go.RowKit
set_option linter.unusedVariables false

theorem ray_bd {n : Nat} {dx dy ray : Int} (h1 : 1 ≤ n) (hr : RayIs n dx dy ray) : 0 ≤ ray ∧ ray < 4 * n := by
  by_cases h : dx = 0 ∧ dy = 0
  · obtain ⟨rfl, rfl⟩ := h
    obtain rfl := ray_det h1 hr (.inl ⟨rfl, rfl, rfl⟩)
    omega
  · exact (sec_unique h1 h hr).1

/-- what a pixel's middle sees -/
def ViewIs (n g : Nat) (step t dx dy v : Int) : Prop :=
  ∃ r, SrchIs (g + 1) (inside (dx * dx + dy * dy) (bordI step t)) r ∧ ((r = g + 1 ∧ v = -1) ∨ (r ≤ g ∧ ∃ pr, RayIs n dx dy pr ∧ v = pr * g + ((r : Int) - 1)))
theorem view_exists {n g : Nat} {step t : Int} (h1 : 0 ≤ t) (h2 : t ≤ 256) (s1 : 50 ≤ step) (s2 : step ≤ 2000) (hg : g ≤ 200) (dx dy : Int) : ∃ v, ViewIs n g step t dx dy v := by
  obtain ⟨r, hr⟩ := srch_exists (g + 1) (inside (dx * dx + dy * dy) (bordI step t)) (inside_mono (bord_mono (step := step) (t := t) h1 h2 s1 s2 (by omega)))
  by_cases h : r ≤ g
  · obtain ⟨pr, hpr⟩ := ray_exists (n := n) dx dy
    exact ⟨_, r, hr, .inr ⟨h, pr, hpr, rfl⟩⟩
  · have := hr.1
    exact ⟨-1, r, hr, .inl ⟨by omega, rfl⟩⟩
theorem view_find {n g : Nat} {step t dx dy v ray gate : Int} {ok : Bool} (hn : 1 ≤ n) (hv : ViewIs n g step t dx dy v) (hf : FindIs (g + 1) n (bordI step t) dx dy ray gate ok) :
    (ok = false ∧ v = -1) ∨ (ok = true ∧ v = ray * g + gate ∧ (0 ≤ ray ∧ ray < 4 * n) ∧ -1 ≤ gate ∧ gate < g) := by
  obtain ⟨r, hr, hv⟩ := hv
  obtain ⟨r2, hr2, hf⟩ := hf
  obtain rfl := srch_det hr hr2
  rcases hf with ⟨e1, e2, _, _⟩ | ⟨e1, e2, rfl, h3⟩
  · rcases hv with ⟨_, rfl⟩ | ⟨e3, _⟩
    · exact .inl ⟨e2, rfl⟩
    · omega
  · rcases hv with ⟨e3, _⟩ | ⟨_, pr, hpr, rfl⟩
    · omega
    · obtain rfl := ray_det hn hpr h3
      exact .inr ⟨e2, rfl, ray_bd hn h3, by omega, by omega⟩

theorem RowAt.keep {C b n : Nat} {W w1 : World} {B : Nat → Int} (s : RowAt W b n B) (hb : Below C W w1) (h : b < C) : RowAt w1 b n B := ⟨fun k hk => keepB hb h (s.c k hk), fun k hk => keepF hb h (s.f k hk)⟩
theorem RowAt.ext {b n : Nat} {W : World} {B B2 : Nat → Int} (s : RowAt W b n B) (h : ∀ k, k < n → B2 k = B k) : RowAt W b n B2 := ⟨fun k hk => by rw [h k hk]; exact s.c k hk, s.f⟩

set_option maxHeartbeats 1600000 in
theorem numbers_same (n b1 b2 c1 c2 : Nat) (V : Nat → Int) (w : World) (hn : n ≤ 100000) (h1 : IntsAt w b1 n V) (h2 : IntsAt w b2 n V) (l1 : b1 < w.heap.size) (l2 : b2 < w.heap.size) :
    Calls Try.prog 45 #[.slice (some ⟨b1, 0, none⟩) n c1, .slice (some ⟨b2, 0, none⟩) n c2] w fun e w' => e = .returned (.bool true) ∧ Below w.heap.size w w' := by
  have H1 := Lib.hid h1
  have H2 := Lib.hid h2
  clear h1 h2
  go_enter Try.func45, Try.ntmps45
  go_wp2
  go_loopw [5] (fun i wr => ∃ k : Nat, k ≤ n ∧ i = .int .i64 k ∧ Below w.heap.size w wr) (fun i _ => n - (intOf i).toNat)
  case atStart => exact ⟨0, Nat.zero_le _, rfl, Below.refl _ _⟩
  case round =>
    obtain ⟨k, hk, rfl, hbw⟩ := hrel
    by_cases hlt : k < n
    · have p1 := keepB hbw l1 (H1.out k hlt)
      have p2 := keepB hbw l2 (H2.out k hlt)
      have q0 : (0 : Int) ≤ (k : Int) := by omega
      have q1 : (k : Int) < (n : Int) := by omega
      go_wp2
      go_quiet (fail)
      go_wp2
      go_roundw
      case rel => exact ⟨k + 1, by omega, by go_num, below_drewN hbw _⟩
      case measure => simp [intOf]; omega
    · go_wp2
      go_ret
      exact ⟨rfl, hbw⟩

set_option maxHeartbeats 1600000 in
theorem numbers_nil (w : World) :
    Calls Try.prog 45 #[.slice none 0 0, .slice none 0 0] w fun e w' => e = .returned (.bool true) ∧ Below w.heap.size w w' := by
  go_enter Try.func45, Try.ntmps45
  go_wp2
  go_loopw [5] (fun i wr => i = .int .i64 0 ∧ Below w.heap.size w wr) (fun i _ => 0)
  case atStart => exact ⟨rfl, Below.refl _ _⟩
  case round =>
    obtain ⟨rfl, hbw⟩ := hrel
    go_wp2
    go_ret
    exact ⟨rfl, hbw⟩

set_option maxRecDepth 100000 in
set_option maxHeartbeats 1600000 in
theorem View_site (nm : ByteArray) (x y z rose gates step width gx gy size wide high : Int) (t : Int) (w : World) (hs : nm.size ≤ maxLen) (hne : (siteC nm x y z rose gates step width != 0) = true) :
    Calls Try.prog 43 #[.agg #[.string nm, .int .i64 x, .int .i64 y, .int .i64 z, .int .i64 rose, .int .i64 gates, .int .i64 step, .int .i64 width], .int .i64 t, .agg #[.int .i64 gx, .int .i64 gy, .int .i64 size, .int .i64 wide, .int .i64 high]] w fun e w' => e = .returned (.tuple #[.slice none 0 0, .int .i64 (siteC nm x y z rose gates step width)]) ∧ Below w.heap.size w w' := by
  have HS := Lib.hid hs
  clear hs
  have hne2 : (siteC nm x y z rose gates step width == 0) = false := by rw [beq_eq_false_iff_ne]; exact bne_iff_ne.1 hne
  go_enter Try.func43, Try.ntmps43
  go_wp2_with fail
  refine (CheckSite_any _ _ _ _ _ _ _ _ _ HS.out).mono ?_; rintro e w1 ⟨rfl, hb1⟩
  have O1 := (SG.new w nm x y z rose gates step width gx gy size wide high).keep hb1 (by simp)
  clear hb1
  obtain ⟨⟨k0, k1, k2, k3, k4, k5, k6, k7⟩, ⟨g0, g1, g2, g3, g4⟩, hz, hbw⟩ := O1
  have y0 : w.heap.size < w1.heap.size := by omega
  have y1 : w.heap.size + 1 < w1.heap.size := by omega
  go_wp2
  go_ret2
  exact ⟨rfl, hbw⟩

set_option maxRecDepth 100000 in
set_option maxHeartbeats 1600000 in
theorem View_grid (nm : ByteArray) (x y z rose gates step width gx gy size wide high : Int) (t : Int) (w : World) (hs : nm.size ≤ maxLen) (h0 : siteC nm x y z rose gates step width = 0) (hne : (gridC gx gy size wide high != 0) = true) :
    Calls Try.prog 43 #[.agg #[.string nm, .int .i64 x, .int .i64 y, .int .i64 z, .int .i64 rose, .int .i64 gates, .int .i64 step, .int .i64 width], .int .i64 t, .agg #[.int .i64 gx, .int .i64 gy, .int .i64 size, .int .i64 wide, .int .i64 high]] w fun e w' => e = .returned (.tuple #[.slice none 0 0, .int .i64 (gridC gx gy size wide high)]) ∧ Below w.heap.size w w' := by
  have HS := Lib.hid hs
  clear hs
  have H0 := Lib.hid h0
  clear h0
  go_enter Try.func43, Try.ntmps43
  go_wp2_with fail
  refine (CheckSite_any _ _ _ _ _ _ _ _ _ HS.out).mono ?_; rintro e w1 ⟨rfl, hb1⟩
  have O1 := (SG.new w nm x y z rose gates step width gx gy size wide high).keep hb1 (by simp)
  clear hb1
  obtain ⟨⟨k0, k1, k2, k3, k4, k5, k6, k7⟩, ⟨g0, g1, g2, g3, g4⟩, hz, hbw⟩ := O1
  have y0 : w.heap.size < w1.heap.size := by omega
  have y1 : w.heap.size + 1 < w1.heap.size := by omega
  rw [H0.out]
  go_wp2_with fail
  refine (CheckGrid_any _ _ _ _ _ _).mono ?_; rintro e w2 ⟨rfl, hb2⟩
  have O2 := (⟨⟨k0, k1, k2, k3, k4, k5, k6, k7⟩, ⟨g0, g1, g2, g3, g4⟩, hz, hbw⟩ : SG w w1 nm x y z rose gates step width gx gy size wide high).keep hb2 hz
  clear k0 k1 k2 k3 k4 k5 k6 k7 g0 g1 g2 g3 g4 hz hbw y0 y1 hb2
  obtain ⟨⟨k0, k1, k2, k3, k4, k5, k6, k7⟩, ⟨g0, g1, g2, g3, g4⟩, hz, hbw⟩ := O2
  have y0 : w.heap.size < w2.heap.size := by omega
  have y1 : w.heap.size + 1 < w2.heap.size := by omega
  go_wp2
  go_ret2
  exact ⟨rfl, hbw⟩

set_option maxRecDepth 100000 in
set_option maxHeartbeats 1600000 in
theorem View_tilt (nm : ByteArray) (x y z rose gates step width gx gy size wide high : Int) (t : Int) (w : World) (hs : nm.size ≤ maxLen) (h0 : siteC nm x y z rose gates step width = 0) (hg : gridC gx gy size wide high = 0) (c0 : inB t 0 256 = false) :
    Calls Try.prog 43 #[.agg #[.string nm, .int .i64 x, .int .i64 y, .int .i64 z, .int .i64 rose, .int .i64 gates, .int .i64 step, .int .i64 width], .int .i64 t, .agg #[.int .i64 gx, .int .i64 gy, .int .i64 size, .int .i64 wide, .int .i64 high]] w fun e w' => e = .returned (.tuple #[.slice none 0 0, .int .i64 (3)]) ∧ Below w.heap.size w w' := by
  have HS := Lib.hid hs
  clear hs
  have H0 := Lib.hid h0
  have HG := Lib.hid hg
  clear h0 hg
  go_enter Try.func43, Try.ntmps43
  go_wp2_with fail
  refine (CheckSite_any _ _ _ _ _ _ _ _ _ HS.out).mono ?_; rintro e w1 ⟨rfl, hb1⟩
  have O1 := (SG.new w nm x y z rose gates step width gx gy size wide high).keep hb1 (by simp)
  clear hb1
  obtain ⟨⟨k0, k1, k2, k3, k4, k5, k6, k7⟩, ⟨g0, g1, g2, g3, g4⟩, hz, hbw⟩ := O1
  have y0 : w.heap.size < w1.heap.size := by omega
  have y1 : w.heap.size + 1 < w1.heap.size := by omega
  rw [H0.out]
  go_wp2_with fail
  refine (CheckGrid_any _ _ _ _ _ _).mono ?_; rintro e w2 ⟨rfl, hb2⟩
  have O2 := (⟨⟨k0, k1, k2, k3, k4, k5, k6, k7⟩, ⟨g0, g1, g2, g3, g4⟩, hz, hbw⟩ : SG w w1 nm x y z rose gates step width gx gy size wide high).keep hb2 hz
  clear k0 k1 k2 k3 k4 k5 k6 k7 g0 g1 g2 g3 g4 hz hbw y0 y1 hb2
  obtain ⟨⟨k0, k1, k2, k3, k4, k5, k6, k7⟩, ⟨g0, g1, g2, g3, g4⟩, hz, hbw⟩ := O2
  have y0 : w.heap.size < w2.heap.size := by omega
  have y1 : w.heap.size + 1 < w2.heap.size := by omega
  rw [HG.out]
  go_wp2_with fail
  refine (isTilt_any _ _).mono ?_; rintro e w' ⟨rfl, rfl⟩
  go_wp2
  go_ret2
  exact ⟨rfl, hbw⟩

set_option maxRecDepth 100000 in
set_option maxHeartbeats 1600000 in
theorem refView_site (nm : ByteArray) (x y z rose gates step width gx gy size wide high : Int) (t : Int) (w : World) (hs : nm.size ≤ maxLen) (hne : (siteC nm x y z rose gates step width != 0) = true) :
    Calls Try.prog 44 #[.agg #[.string nm, .int .i64 x, .int .i64 y, .int .i64 z, .int .i64 rose, .int .i64 gates, .int .i64 step, .int .i64 width], .int .i64 t, .agg #[.int .i64 gx, .int .i64 gy, .int .i64 size, .int .i64 wide, .int .i64 high]] w fun e w' => e = .returned (.tuple #[.slice none 0 0, .int .i64 (siteC nm x y z rose gates step width)]) ∧ Below w.heap.size w w' := by
  have HS := Lib.hid hs
  clear hs
  have hne2 : (siteC nm x y z rose gates step width == 0) = false := by rw [beq_eq_false_iff_ne]; exact bne_iff_ne.1 hne
  go_enter Try.func44, Try.ntmps44
  go_wp2_with fail
  refine (refCheckSite_any _ _ _ _ _ _ _ _ _ HS.out).mono ?_; rintro e w1 ⟨rfl, hb1⟩
  have O1 := (SG.new w nm x y z rose gates step width gx gy size wide high).keep hb1 (by simp)
  clear hb1
  obtain ⟨⟨k0, k1, k2, k3, k4, k5, k6, k7⟩, ⟨g0, g1, g2, g3, g4⟩, hz, hbw⟩ := O1
  have y0 : w.heap.size < w1.heap.size := by omega
  have y1 : w.heap.size + 1 < w1.heap.size := by omega
  go_wp2
  go_ret2
  exact ⟨rfl, hbw⟩

set_option maxRecDepth 100000 in
set_option maxHeartbeats 1600000 in
theorem refView_grid (nm : ByteArray) (x y z rose gates step width gx gy size wide high : Int) (t : Int) (w : World) (hs : nm.size ≤ maxLen) (h0 : siteC nm x y z rose gates step width = 0) (hne : (gridC gx gy size wide high != 0) = true) :
    Calls Try.prog 44 #[.agg #[.string nm, .int .i64 x, .int .i64 y, .int .i64 z, .int .i64 rose, .int .i64 gates, .int .i64 step, .int .i64 width], .int .i64 t, .agg #[.int .i64 gx, .int .i64 gy, .int .i64 size, .int .i64 wide, .int .i64 high]] w fun e w' => e = .returned (.tuple #[.slice none 0 0, .int .i64 (gridC gx gy size wide high)]) ∧ Below w.heap.size w w' := by
  have HS := Lib.hid hs
  clear hs
  have H0 := Lib.hid h0
  clear h0
  go_enter Try.func44, Try.ntmps44
  go_wp2_with fail
  refine (refCheckSite_any _ _ _ _ _ _ _ _ _ HS.out).mono ?_; rintro e w1 ⟨rfl, hb1⟩
  have O1 := (SG.new w nm x y z rose gates step width gx gy size wide high).keep hb1 (by simp)
  clear hb1
  obtain ⟨⟨k0, k1, k2, k3, k4, k5, k6, k7⟩, ⟨g0, g1, g2, g3, g4⟩, hz, hbw⟩ := O1
  have y0 : w.heap.size < w1.heap.size := by omega
  have y1 : w.heap.size + 1 < w1.heap.size := by omega
  rw [H0.out]
  go_wp2_with fail
  refine (refCheckGrid_any _ _ _ _ _ _).mono ?_; rintro e w2 ⟨rfl, hb2⟩
  have O2 := (⟨⟨k0, k1, k2, k3, k4, k5, k6, k7⟩, ⟨g0, g1, g2, g3, g4⟩, hz, hbw⟩ : SG w w1 nm x y z rose gates step width gx gy size wide high).keep hb2 hz
  clear k0 k1 k2 k3 k4 k5 k6 k7 g0 g1 g2 g3 g4 hz hbw y0 y1 hb2
  obtain ⟨⟨k0, k1, k2, k3, k4, k5, k6, k7⟩, ⟨g0, g1, g2, g3, g4⟩, hz, hbw⟩ := O2
  have y0 : w.heap.size < w2.heap.size := by omega
  have y1 : w.heap.size + 1 < w2.heap.size := by omega
  go_wp2
  go_ret2
  exact ⟨rfl, hbw⟩

set_option maxRecDepth 100000 in
set_option maxHeartbeats 1600000 in
theorem refView_tilt (nm : ByteArray) (x y z rose gates step width gx gy size wide high : Int) (t : Int) (w : World) (hs : nm.size ≤ maxLen) (h0 : siteC nm x y z rose gates step width = 0) (hg : gridC gx gy size wide high = 0) (c0 : inB t 0 256 = false) :
    Calls Try.prog 44 #[.agg #[.string nm, .int .i64 x, .int .i64 y, .int .i64 z, .int .i64 rose, .int .i64 gates, .int .i64 step, .int .i64 width], .int .i64 t, .agg #[.int .i64 gx, .int .i64 gy, .int .i64 size, .int .i64 wide, .int .i64 high]] w fun e w' => e = .returned (.tuple #[.slice none 0 0, .int .i64 (3)]) ∧ Below w.heap.size w w' := by
  have HS := Lib.hid hs
  clear hs
  have H0 := Lib.hid h0
  have HG := Lib.hid hg
  clear h0 hg
  go_enter Try.func44, Try.ntmps44
  go_wp2_with fail
  refine (refCheckSite_any _ _ _ _ _ _ _ _ _ HS.out).mono ?_; rintro e w1 ⟨rfl, hb1⟩
  have O1 := (SG.new w nm x y z rose gates step width gx gy size wide high).keep hb1 (by simp)
  clear hb1
  obtain ⟨⟨k0, k1, k2, k3, k4, k5, k6, k7⟩, ⟨g0, g1, g2, g3, g4⟩, hz, hbw⟩ := O1
  have y0 : w.heap.size < w1.heap.size := by omega
  have y1 : w.heap.size + 1 < w1.heap.size := by omega
  rw [H0.out]
  go_wp2_with fail
  refine (refCheckGrid_any _ _ _ _ _ _).mono ?_; rintro e w2 ⟨rfl, hb2⟩
  have O2 := (⟨⟨k0, k1, k2, k3, k4, k5, k6, k7⟩, ⟨g0, g1, g2, g3, g4⟩, hz, hbw⟩ : SG w w1 nm x y z rose gates step width gx gy size wide high).keep hb2 hz
  clear k0 k1 k2 k3 k4 k5 k6 k7 g0 g1 g2 g3 g4 hz hbw y0 y1 hb2
  obtain ⟨⟨k0, k1, k2, k3, k4, k5, k6, k7⟩, ⟨g0, g1, g2, g3, g4⟩, hz, hbw⟩ := O2
  have y0 : w.heap.size < w2.heap.size := by omega
  have y1 : w.heap.size + 1 < w2.heap.size := by omega
  rw [HG.out]
  go_wp2_with fail
  refine (refIn_any _ _ _ _).mono ?_; rintro e w' ⟨rfl, rfl⟩
  go_wp2
  go_ret2
  exact ⟨rfl, hbw⟩

end Go.Proofs.Ythnjfnapjpdchaa

namespace Go.Proofs.Ythnjfnapjpdchaa
open Go.RowKit
set_option linter.unusedVariables false

/-- a list of integers, without an error -/
def ListRet (N : Nat) (V : Nat → Int) (w : World) (e : Ending) (w' : World) : Prop :=
  ∃ b c : Nat, e = .returned (.tuple #[.slice (some ⟨b, 0, none⟩) N c, .int .i64 0]) ∧ IntsAt w' b N V ∧ w.heap.size ≤ b ∧ b < w'.heap.size ∧ Below w.heap.size w w'

/-- the state of the loop -/
structure VRel (w wr : World) (bb bv N j : Nat) (V : Nat → Int) (nm : ByteArray) (x y z : Int) (n g : Nat) (step width gx gy size wide high : Int) (t : Int) : Prop where
  row : RowAt wr bv N (fun k => if k < j then V k else 0)
  bor : IntsAt wr bb (g + 1) (bordI step t)
  sg : SG w wr nm x y z n g step width gx gy size wide high
  lt : bv < wr.heap.size

set_option maxRecDepth 100000 in
set_option maxHeartbeats 12800000 in
theorem View_ok (nm : ByteArray) (x y z : Int) (n g : Nat) (step width gx gy size wide high : Int) (t : Int) (N : Nat) (hN : wide * high = N) (V : Nat → Int) (hV : ∀ k : Nat, k < N → ViewIs n g step t (midX gx size wide k - x) (midY gy size wide k - y) (V k)) (w : World) (hs : nm.size ≤ maxLen) (h0 : siteC nm x y z n g step width = 0) (hk : SiteOk x y z n g step width) (hg : gridC gx gy size wide high = 0) (c0 : inB t 0 256 = true) :
    Calls Try.prog 43 #[.agg #[.string nm, .int .i64 x, .int .i64 y, .int .i64 z, .int .i64 (n : Nat), .int .i64 (g : Nat), .int .i64 step, .int .i64 width], .int .i64 t, .agg #[.int .i64 gx, .int .i64 gy, .int .i64 size, .int .i64 wide, .int .i64 high]] w (ListRet N V w) := by
  have HS := Lib.hid hs
  have H0 := Lib.hid h0
  have HG := Lib.hid hg
  have HV := Lib.hid hV
  obtain ⟨ht0, ht⟩ := inB_true.1 c0
  obtain ⟨x1, x2, y1, y2⟩ : (-1048576 ≤ x ∧ x ≤ 1048576 ∧ -1048576 ≤ y ∧ y ≤ 1048576) := ⟨hk.x1, hk.x2, hk.y1, hk.y2⟩
  have q1 := hk.r1
  have q2 := hk.r2
  have gg1 := hk.g1
  have gg2 := hk.g2
  have s1 := hk.s1
  have s2 := hk.s2
  have hn : 1 ≤ n := by omega
  obtain ⟨_, _, _, ⟨v1, v2⟩, v3, v4⟩ := gridB_bd (gridC_zero.1 hg)
  have v6 := M.mul_bd (a := wide) (b := high) (A := 64) (B := 64) (by omega) v2 (by omega) v4
  have hN2 : N ≤ 4096 := by omega
  have MID := Lib.hid (fun (k : Nat) (hk2 : k < N) => mid_bd (k := k) hg (show (k : Int) < wide * high by omega))
  have HM := Lib.hid (fun (k : Nat) (hk2 : k < N) (w : World) => middle_any gx gy size wide high k w hg (by omega))
  have HMono := Lib.hid (bord_mono (step := step) (t := t) ht0 ht s1 s2 (N := g + 1) (by omega))
  have HB2 := Lib.hid (fun (i : Nat) (hi : i < g + 1) => show bordI step t i ≤ 1000000 by have := (bordI_bd (k := i) ht0 ht s1 s2 (by omega)).2.2.2; omega)
  have hmk := fun wx : World => run_make_row' (P := Try.prog) 54 3 (.int .i64 0) 8 Try.underlying54 info3 rfl .i64 .i64 N (by omega) (by omega) wx
  have i1 : IntKind.i64.wrap (wide * high) = wide * high := IntWalk.i64_in _ (by omega)
  clear hs h0 hg hV hk
  go_enter Try.func43, Try.ntmps43
  go_wp2_with fail
  refine (CheckSite_any _ _ _ _ _ _ _ _ _ HS.out).mono ?_; rintro e w1 ⟨rfl, hb1⟩
  have O1 := (SG.new w nm x y z n g step width gx gy size wide high).keep hb1 (by simp)
  clear hb1
  obtain ⟨⟨k0, k1, k2, k3, k4, k5, k6, k7⟩, ⟨g0, g1, g2, g3, g4⟩, hz, hbw⟩ := O1
  have y0 : w.heap.size < w1.heap.size := by omega
  have y1 : w.heap.size + 1 < w1.heap.size := by omega
  rw [H0.out]
  go_wp2_with fail
  refine (CheckGrid_any _ _ _ _ _ _).mono ?_; rintro e w2 ⟨rfl, hb2⟩
  have O2 := (⟨⟨k0, k1, k2, k3, k4, k5, k6, k7⟩, ⟨g0, g1, g2, g3, g4⟩, hz, hbw⟩ : SG w w1 nm x y z n g step width gx gy size wide high).keep hb2 hz
  clear k0 k1 k2 k3 k4 k5 k6 k7 g0 g1 g2 g3 g4 hz hbw y0 y1 hb2
  obtain ⟨⟨k0, k1, k2, k3, k4, k5, k6, k7⟩, ⟨g0, g1, g2, g3, g4⟩, hz, hbw⟩ := O2
  have y0 : w.heap.size < w2.heap.size := by omega
  have y1 : w.heap.size + 1 < w2.heap.size := by omega
  rw [HG.out]
  go_wp2_with fail
  refine (isTilt_any _ _).mono ?_; rintro e w' ⟨rfl, rfl⟩
  go_wp2_with fail
  refine (borders_any _ _ _ _ _ g _ _ _ _ (by omega) ht0 ht s1 s2).mono ?_; rintro e w4 ⟨bb, rfl, hI, hbb, hbc, hb4⟩
  have hbb0 : w.heap.size + 1 < bb := by omega
  have O4 := (⟨⟨k0, k1, k2, k3, k4, k5, k6, k7⟩, ⟨g0, g1, g2, g3, g4⟩, hz, hbw⟩ : SG w w2 nm x y z n g step width gx gy size wide high).keep hb4 hz
  clear k0 k1 k2 k3 k4 k5 k6 k7 g0 g1 g2 g3 g4 hz hbw y0 y1
  obtain ⟨⟨k0, k1, k2, k3, k4, k5, k6, k7⟩, ⟨g0, g1, g2, g3, g4⟩, hz, hbw⟩ := O4
  have y0 : w.heap.size < w4.heap.size := by omega
  have y1 : w.heap.size + 1 < w4.heap.size := by omega
  have RST := Lib.hid (show VRel w (w4.alloc (.cells (madeCells #[.int .i64 0] N) 3)) bb w4.heap.size N 0 V nm x y z n g step width gx gy size wide high t from ⟨⟨fun k hk => by simp only [Nat.not_lt_zero, if_false]; exact alloc_new rfl (made_get _ _ hk), fun k hk => alloc_newF rfl⟩, hI.keep (below_alloc _ _) hbc, (⟨⟨k0, k1, k2, k3, k4, k5, k6, k7⟩, ⟨g0, g1, g2, g3, g4⟩, hz, hbw⟩ : SG w w4 nm x y z n g step width gx gy size wide high).keep (below_alloc _ _) hz, by simp⟩)
  clear hI hb4
  go_wp2
  clear k0 k1 k2 k3 k4 k5 k6 k7 g0 g1 g2 g3 g4 hz hbw hmk i1
  go_loopw [40] (fun i wr => ∃ j : Nat, j ≤ N ∧ i = .int .i64 j ∧ VRel w wr bb w4.heap.size N j V nm x y z n g step width gx gy size wide high t) (fun i _ => N - (intOf i).toNat)
  case atStart => exact ⟨0, Nat.zero_le _, rfl, RST.out⟩
  case round =>
    clear RST
    obtain ⟨j, hj, rfl, hrow, hbor, hsg, hlt4⟩ := hrel
    by_cases hlt : j < N
    · have cj := hrow.c j hlt
      have fj := hrow.f j hlt
      simp only [Nat.lt_irrefl, if_false] at cj
      obtain ⟨⟨ax1, ax2⟩, ay1, ay2⟩ := MID.out j hlt
      have HF := Lib.hid (fun (wx : World) (l : bb < wx.heap.size) (hi : IntsAt wx bb (g + 1) (bordI step t)) => find_any nm x y z n g step width (g + 1) bb (bordI step t) (midX gx size wide j) (midY gy size wide j) wx l hi (by omega) HMono.out HB2.out (by omega) (by omega) (by omega) (by omega) (by omega) (by omega) (by omega) (by omega) (by omega) (by omega) (by omega) (by omega) (by omega) (by omega))
      have R1 : RowAt (wr.setCell ⟨w4.heap.size, j, none⟩ (.int .i64 (-1))) w4.heap.size N (fun k => if k = j then -1 else if k < j then V k else 0) := hrow.set hlt (by simp) (fun i hi => by simp [hi])
      have B1 : Below (w4.heap.size) wr (wr.setCell ⟨w4.heap.size, j, none⟩ (.int .i64 (-1))) := (Below.refl w4.heap.size wr).setCell (p := ⟨w4.heap.size, j, none⟩) (Nat.le_refl _) _
      have SG1 := hsg.keep B1 (by omega)
      have BO1 := hbor.keep B1 hbc
      obtain ⟨⟨k0, k1, k2, k3, k4, k5, k6, k7⟩, ⟨g0, g1, g2, g3, g4⟩, hz, hbw⟩ := SG1
      have LEAD := Lib.hid (show (fun w' : World => w'.cell? ⟨w.heap.size, 0, none⟩ = some (.string nm) ∧ w'.cell? ⟨w.heap.size, 1, none⟩ = some (.int .i64 x) ∧ w'.cell? ⟨w.heap.size, 2, none⟩ = some (.int .i64 y) ∧ w'.cell? ⟨w.heap.size, 3, none⟩ = some (.int .i64 z) ∧ w'.cell? ⟨w.heap.size, 4, none⟩ = some (.int .i64 (n : Nat)) ∧ w'.cell? ⟨w.heap.size, 5, none⟩ = some (.int .i64 (g : Nat)) ∧ w'.cell? ⟨w.heap.size, 6, none⟩ = some (.int .i64 step) ∧ w'.cell? ⟨w.heap.size, 7, none⟩ = some (.int .i64 width) ∧ w'.cell? ⟨w.heap.size + 1, 0, none⟩ = some (.int .i64 gx) ∧ w'.cell? ⟨w.heap.size + 1, 1, none⟩ = some (.int .i64 gy) ∧ w'.cell? ⟨w.heap.size + 1, 2, none⟩ = some (.int .i64 size) ∧ w'.cell? ⟨w.heap.size + 1, 3, none⟩ = some (.int .i64 wide) ∧ w'.cell? ⟨w.heap.size + 1, 4, none⟩ = some (.int .i64 high) ∧ IntsAt w' bb (g + 1) (bordI step t) ∧ RowAt w' w4.heap.size N (fun k => if k = j then -1 else if k < j then V k else 0) ∧ w4.heap.size < w'.heap.size ∧ Below w.heap.size w w') (wr.setCell ⟨w4.heap.size, j, none⟩ (.int .i64 (-1))).drew from ⟨k0, k1, k2, k3, k4, k5, k6, k7, g0, g1, g2, g3, g4, BO1.keep (B := bordI step t) (Below.refl (bb + 1) _).drew (by omega), R1.keep (Below.refl (w4.heap.size + 1) _).drew (by omega), by simp; omega, hbw.drew⟩)
      have HMj := Lib.hid (HM.out j hlt)
      clear k0 k1 k2 k3 k4 k5 k6 k7 g0 g1 g2 g3 g4 hz hbw BO1 B1 R1 hrow hbor hsg
      go_wp2
      clear cj fj
      go_region_held3 (fun w' => w'.cell? ⟨w.heap.size, 0, none⟩ = some (.string nm) ∧ w'.cell? ⟨w.heap.size, 1, none⟩ = some (.int .i64 x) ∧ w'.cell? ⟨w.heap.size, 2, none⟩ = some (.int .i64 y) ∧ w'.cell? ⟨w.heap.size, 3, none⟩ = some (.int .i64 z) ∧ w'.cell? ⟨w.heap.size, 4, none⟩ = some (.int .i64 (n : Nat)) ∧ w'.cell? ⟨w.heap.size, 5, none⟩ = some (.int .i64 (g : Nat)) ∧ w'.cell? ⟨w.heap.size, 6, none⟩ = some (.int .i64 step) ∧ w'.cell? ⟨w.heap.size, 7, none⟩ = some (.int .i64 width) ∧ w'.cell? ⟨w.heap.size + 1, 0, none⟩ = some (.int .i64 gx) ∧ w'.cell? ⟨w.heap.size + 1, 1, none⟩ = some (.int .i64 gy) ∧ w'.cell? ⟨w.heap.size + 1, 2, none⟩ = some (.int .i64 size) ∧ w'.cell? ⟨w.heap.size + 1, 3, none⟩ = some (.int .i64 wide) ∧ w'.cell? ⟨w.heap.size + 1, 4, none⟩ = some (.int .i64 high) ∧ IntsAt w' bb (g + 1) (bordI step t) ∧ RowAt w' w4.heap.size N (fun k => if k = j then -1 else if k < j then V k else 0) ∧ w4.heap.size < w'.heap.size ∧ Below w.heap.size w w')
        (first | exact LEAD.out | (go_split_ands; refine ⟨?_, ?_, ?_, ?_, ?_, ?_, ?_, ?_, ?_, ?_, ?_, ?_, ?_, ?_, ?_, ?_, ?_⟩ <;> first | assumption | exact keepB hb4 (by omega) (by assumption) | (have := hb4.size; omega) | exact Below.trans (by assumption) (hb4.mono (by omega)) | exact IntsAt.keep (by assumption) hb4 (by omega) | exact RowAt.keep (by assumption) hb4 (by omega)))
        (first | (go_at_call 83; refine (HMj.out _).mono ?_; rintro e w5 ⟨rfl, hb4⟩) | (go_at_call 78; go_split_ands; refine (HF.out _ (by omega) (by assumption)).mono ?_; rintro e w5 ⟨ray, gate, ok, hfi, rfl, hb4⟩))
      go_split_ands
      have hz5 : w4.heap.size < w5.heap.size := by assumption
      have hb5 : Below w.heap.size w w5 := by assumption
      have hrow5 : RowAt w5 w4.heap.size N (fun k => if k = j then -1 else if k < j then V k else 0) := by assumption
      have hbor5 : IntsAt w5 bb (g + 1) (bordI step t) := by assumption
      have hsg5 : SG w w5 nm x y z n g step width gx gy size wide high := ⟨⟨by assumption, by assumption, by assumption, by assumption, by assumption, by assumption, by assumption, by assumption⟩, ⟨by assumption, by assumption, by assumption, by assumption, by assumption⟩, by omega, hb5⟩
      rcases view_find hn (HV.out j hlt) hfi with ⟨eok, ev⟩ | ⟨eok, ev, ⟨rb1, rb2⟩, gb1, gb2⟩
      · subst eok
        have HRel := Lib.hid (show VRel w w5 bb w4.heap.size N (j + 1) V nm x y z n g step width gx gy size wide high t from ⟨hrow5.ext (fun k hk => by
          by_cases e : k = j
          · simp [e, ev]
          · by_cases e2 : k < j
            · rw [if_pos (by omega), if_neg e, if_pos e2]
            · rw [if_neg (by omega), if_neg e, if_neg e2]), hbor5, hsg5, hz5⟩)
        clear hrow5 hbor5 hsg5 hfi ev
        go_wp2
        go_roundw
        case rel => exact ⟨j + 1, by omega, by go_num, HRel.out⟩
        case measure => simp [intOf]; omega
      · subst eok
        have m1 := M.mul_bd (a := ray) (b := (g : Int)) (A := 360) (B := 200) rb1 (by omega) (by omega) gg2
        have i1 : IntKind.i64.wrap (ray * g) = ray * g := IntWalk.i64_in _ (by omega)
        have i2 : IntKind.i64.wrap (ray * g + gate) = ray * g + gate := IntWalk.i64_in _ (by omega)
        have cj := hrow5.c j hlt
        have fj := hrow5.f j hlt
        simp only [if_true] at cj
        have B5 : Below w4.heap.size w5 (w5.setCell ⟨w4.heap.size, j, none⟩ (.int .i64 (ray * g + gate))) := (Below.refl w4.heap.size w5).setCell (p := ⟨w4.heap.size, j, none⟩) (Nat.le_refl _) _
        have HRel := Lib.hid (show VRel w (w5.setCell ⟨w4.heap.size, j, none⟩ (.int .i64 (ray * g + gate))) bb w4.heap.size N (j + 1) V nm x y z n g step width gx gy size wide high t from ⟨hrow5.set hlt (by simp [ev]) (fun k hk => by
            by_cases e2 : k < j
            · rw [if_pos (by omega), if_neg hk, if_pos e2]
            · rw [if_neg (by omega), if_neg hk, if_neg e2]), hbor5.keep B5 hbc, hsg5.keep B5 (by omega), by simp; omega⟩)
        clear hrow5 hbor5 hsg5 hfi ev B5
        go_wp2
        go_roundw
        case rel => exact ⟨j + 1, by omega, by go_num, HRel.out⟩
        case measure => simp [intOf]; omega
    · obtain rfl : j = N := by omega
      have HI := Lib.hid (show IntsAt wr w4.heap.size j V from fun k hk => by
        have h := hrow.c k hk
        simp only [hk, if_true] at h
        exact h)
      have hbw := hsg.b
      clear hrow hbor hsg
      go_wp2
      go_ret2
      exact ⟨_, _, rfl, HI.out, by omega, by omega, hbw⟩

end Go.Proofs.Ythnjfnapjpdchaa

namespace Go.Proofs.Ythnjfnapjpdchaa.M

theorem core {q K A1 A2 N1 N2 F1 F2 G1 G2 : Int} (hq : 0 < q) (hK : 0 < K) (h1 : q * F1 ≤ A1) (h2 : A2 ≤ q * F2) (h3 : K * q * G1 ≤ N1) (h4 : N2 ≤ K * q * G2)
    (h5 : N1 + A1 * A1 = N2 + A2 * A2) (h6 : A1 ≤ A2) (h7 : A1 + A2 ≤ K) : F1 + G1 ≤ F2 + G2 := by
  have e1 : K * q * F1 ≤ K * A1 := by rw [Int.mul_assoc]; exact Int.mul_le_mul_of_nonneg_left h1 (by omega)
  have e2 : K * A2 ≤ K * q * F2 := by rw [Int.mul_assoc]; exact Int.mul_le_mul_of_nonneg_left h2 (by omega)
  have e3 : (A2 - A1) * (A1 + A2) ≤ (A2 - A1) * K := Int.mul_le_mul_of_nonneg_left h7 (by omega)
  have e4 : (A2 - A1) * (A1 + A2) = A2 * A2 - A1 * A1 := by rw [Int.sub_mul, Int.mul_add, Int.mul_add, Int.mul_comm A2 A1]; omega
  have e5 : (A2 - A1) * K = K * A2 - K * A1 := by rw [Int.sub_mul, Int.mul_comm A2, Int.mul_comm A1]
  have hKq : 0 < K * q := Int.mul_pos hK hq
  have e6 : 0 ≤ K * q * (F2 + G2 - (F1 + G1)) := by
    rw [Int.mul_sub, Int.mul_add, Int.mul_add]; omega
  by_cases h : F1 + G1 ≤ F2 + G2
  · exact h
  · exfalso
    have h8 : K * q * (F2 + G2 - (F1 + G1)) < 0 := Int.mul_neg_of_pos_of_neg hKq (by omega)
    omega

theorem sq_le_sq {a b : Int} (h0 : 0 ≤ a) (h : a ≤ b) : a * a ≤ b * b := Int.mul_le_mul h h h0 (by omega)
theorem fl_le {a b : Int} : b * (a / b) ≤ a ∨ b = 0 := by
  by_cases h : b = 0
  · exact .inr h
  · exact .inl (Int.mul_ediv_self_le h)
theorem floor_le {a b : Int} (hb : 0 < b) : b * (a / b) ≤ a := Int.mul_ediv_self_le (by omega)
theorem ceil_ge {a b : Int} (hb : 0 < b) : a ≤ b * -((-a) / b) := by
  have := floor_le (a := -a) hb
  rw [Int.mul_neg]; omega

theorem slant_unit (t : Int) : (262144 - t * t) * (262144 - t * t) + (1024 * t) * (1024 * t) = (262144 + t * t) * (262144 + t * t) := by
  have e1 : (1024 * t) * (1024 * t) = 1048576 * (t * t) := by rw [Int.mul_assoc, Int.mul_left_comm t 1024 t]; omega
  have e2 : (262144 - t * t) * (262144 - t * t) = 68719476736 - 524288 * (t * t) + (t * t) * (t * t) := by rw [Int.sub_mul, Int.mul_sub, Int.mul_sub]; omega
  have e3 : (262144 + t * t) * (262144 + t * t) = 68719476736 + 524288 * (t * t) + (t * t) * (t * t) := by rw [Int.add_mul, Int.mul_add, Int.mul_add]; omega
  rw [e1, e2, e3]; omega

theorem mul_sq (a b : Int) : (a * b) * (a * b) = (a * a) * (b * b) := by
  rw [Int.mul_assoc, Int.mul_left_comm b a b, ← Int.mul_assoc a a]

/-- a gate seen at a lower tilt is not higher than at a higher one, within roundings -/
theorem rise {z step s t gate lo hi : Int} (s1 : -8 ≤ s) (s2 : s ≤ t) (t2 : t ≤ 264) (p1 : 50 ≤ step) (p2 : step ≤ 2000) (g1 : 0 ≤ gate) (g2 : gate ≤ 199)
    (e1 : 1000000 ≤ lo) (e2 : lo ≤ hi) : climbLo z step s gate hi ≤ climbHi z step t gate lo := by
  obtain ⟨m, hm⟩ : ∃ m, m = (2 * gate + 1) * step := ⟨_, rfl⟩
  obtain ⟨x, hx⟩ : ∃ x, x = 262144 + s * s := ⟨_, rfl⟩
  obtain ⟨y, hy⟩ : ∃ y, y = 262144 + t * t := ⟨_, rfl⟩
  have m1 := mul_bd (a := 2 * gate + 1) (b := step) (A := 399) (B := 2000) (by omega) (by omega) (by omega) p2
  rw [← hm] at m1
  have ss := sq_nonneg s
  have tt := sq_nonneg t
  have ss2 := (sq_bd (a := s) (A := 264) (by omega) (by omega)).2
  have tt2 := (sq_bd (a := t) (A := 264) (by omega) t2).2
  have xpos : 0 < x := by omega
  have ypos : 0 < y := by omega
  have hxy : 0 < x * y := Int.mul_pos xpos ypos
  -- the pieces
  obtain ⟨F1, hF1⟩ : ∃ F, F = sinN step s gate / runD s := ⟨_, rfl⟩
  obtain ⟨L1, hL1⟩ : ∃ F, F = runLo step s gate := ⟨_, rfl⟩
  obtain ⟨H2, hH2⟩ : ∃ F, F = runHi step t gate := ⟨_, rfl⟩
  obtain ⟨F2, hF2⟩ : ∃ F, F = -((-sinN step t gate) / runD t) := ⟨_, rfl⟩
  obtain ⟨G1, hG1⟩ : ∃ F, F = L1 * L1 / (2 * hi) := ⟨_, rfl⟩
  obtain ⟨G2, hG2⟩ : ∃ F, F = -((-(H2 * H2)) / (2 * lo)) := ⟨_, rfl⟩
  have goal : climbLo z step s gate hi = z + (F1 + G1) ∧ climbHi z step t gate lo = z + (F2 + G2) := by
    unfold climbLo climbHi
    rw [← hL1, ← hH2, ← hF1, ← hF2, ← hG1, ← hG2]
    constructor <;> omega
  rw [goal.1, goal.2]
  have dS : runD s = 2 * x := by unfold runD; rw [hx]
  have dT : runD t = 2 * y := by unfold runD; rw [hy]
  have a1 : sinN step s gate = m * (1024 * s) := by unfold sinN; rw [← hm]
  have a2 : sinN step t gate = m * (1024 * t) := by unfold sinN; rw [← hm]
  have n1 : runN step s gate = m * (262144 - s * s) := by unfold runN; rw [← hm]
  have n2 : runN step t gate = m * (262144 - t * t) := by unfold runN; rw [← hm]
  have f1 : 2 * x * F1 ≤ m * (1024 * s) := by rw [hF1, dS, a1]; exact floor_le (by omega)
  have f2 : m * (1024 * t) ≤ 2 * y * F2 := by rw [hF2, dT, a2]; exact ceil_ge (by omega)
  have l1 : 2 * x * L1 ≤ m * (262144 - s * s) := by rw [hL1]; unfold runLo; rw [dS, n1]; exact floor_le (by omega)
  have l0 : 0 ≤ L1 := by rw [hL1]; exact (runLo_bd s1 (by omega) p1 p2 g1 g2).1
  have h2 : m * (262144 - t * t) ≤ 2 * y * H2 := by rw [hH2]; unfold runHi; rw [dT, n2]; exact ceil_ge (by omega)
  have w1 : 2 * hi * G1 ≤ L1 * L1 := by rw [hG1]; exact floor_le (by omega)
  have w2 : H2 * H2 ≤ 2 * lo * G2 := by rw [hG2]; exact ceil_ge (by omega)
  have G1n : 0 ≤ G1 := by rw [hG1]; exact Int.ediv_nonneg (sq_nonneg _) (by omega)
  clear hF1 hL1 hH2 hF2 hG1 hG2 goal
  have c1 : 0 ≤ m * (262144 - s * s) := Int.mul_nonneg (by omega) (by omega)
  have c2 : 0 ≤ m * (262144 - t * t) := Int.mul_nonneg (by omega) (by omega)
  have hq : 0 < 2 * (x * y) := by omega
  have hK : 0 < 2 * lo * (2 * (x * y)) := Int.mul_pos (by omega) hq
  have key : F1 + G1 ≤ F2 + G2 := by
    refine core (q := 2 * (x * y)) (K := 2 * lo * (2 * (x * y))) (A1 := y * (m * (1024 * s))) (A2 := x * (m * (1024 * t)))
      (N1 := (y * (m * (262144 - s * s))) * (y * (m * (262144 - s * s)))) (N2 := (x * (m * (262144 - t * t))) * (x * (m * (262144 - t * t)))) hq hK ?_ ?_ ?_ ?_ ?_ ?_ ?_
    · have e : 2 * (x * y) * F1 = y * (2 * x * F1) := by
        rw [Int.mul_comm x y, Int.mul_left_comm 2 y x, Int.mul_assoc]
      rw [e]; exact Int.mul_le_mul_of_nonneg_left f1 (by omega)
    · have e : 2 * (x * y) * F2 = x * (2 * y * F2) := by
        rw [Int.mul_left_comm 2 x y, Int.mul_assoc]
      rw [e]; exact Int.mul_le_mul_of_nonneg_left f2 (by omega)
    · have e : 2 * (x * y) * L1 = y * (2 * x * L1) := by
        rw [Int.mul_comm x y, Int.mul_left_comm 2 y x, Int.mul_assoc]
      have b1 : 2 * (x * y) * L1 ≤ y * (m * (262144 - s * s)) := by rw [e]; exact Int.mul_le_mul_of_nonneg_left l1 (by omega)
      have b2 := sq_le_sq (Int.mul_nonneg (by omega) l0) b1
      have b3 : 2 * lo * G1 ≤ L1 * L1 := by
        have : 2 * lo * G1 ≤ 2 * hi * G1 := Int.mul_le_mul_of_nonneg_right (by omega) G1n
        omega
      have b4 := Int.mul_le_mul_of_nonneg_left b3 (show 0 ≤ (2 * (x * y)) * (2 * (x * y)) from sq_nonneg _)
      have e2 : 2 * lo * (2 * (x * y)) * (2 * (x * y)) * G1 = (2 * (x * y)) * (2 * (x * y)) * (2 * lo * G1) := by
        rw [Int.mul_assoc (2 * lo), Int.mul_assoc (2 * lo), Int.mul_left_comm (2 * lo)]
      rw [e2]
      rw [mul_sq (2 * (x * y)) L1] at b2
      omega
    · have e : 2 * (x * y) * H2 = x * (2 * y * H2) := by
        rw [Int.mul_left_comm 2 x y, Int.mul_assoc]
      have b1 : x * (m * (262144 - t * t)) ≤ 2 * (x * y) * H2 := by rw [e]; exact Int.mul_le_mul_of_nonneg_left h2 (by omega)
      have b2 := sq_le_sq (Int.mul_nonneg (by omega) c2) b1
      have b4 := Int.mul_le_mul_of_nonneg_left w2 (show 0 ≤ (2 * (x * y)) * (2 * (x * y)) from sq_nonneg _)
      have e2 : 2 * lo * (2 * (x * y)) * (2 * (x * y)) * G2 = (2 * (x * y)) * (2 * (x * y)) * (2 * lo * G2) := by
        rw [Int.mul_assoc (2 * lo), Int.mul_assoc (2 * lo), Int.mul_left_comm (2 * lo)]
      rw [e2]
      rw [mul_sq (2 * (x * y)) H2] at b2
      omega
    · have us := slant_unit s
      have ut := slant_unit t
      rw [← hx] at us
      rw [← hy] at ut
      rw [mul_sq y, mul_sq y, mul_sq x, mul_sq x, mul_sq m, mul_sq m, mul_sq m, mul_sq m, ← Int.mul_add, ← Int.mul_add, ← Int.mul_add, ← Int.mul_add, us, ut]
      rw [Int.mul_left_comm (y * y), Int.mul_left_comm (x * x), Int.mul_comm (y * y)]
    · have d1 : s * y ≤ t * x := by
        have v1 : s * t ≤ 69696 := (mul_abs (a := s) (b := t) (A := 264) (B := 264) (by omega) (by omega) (by omega) (by omega)).2
        have v2 : 0 ≤ (t - s) * (262144 - s * t) := Int.mul_nonneg (by omega) (by omega)
        have v3 : (t - s) * (262144 - s * t) = t * x - s * y := by
          rw [hx, hy, Int.sub_mul, Int.mul_sub, Int.mul_sub, Int.mul_add, Int.mul_add, ← Int.mul_assoc s t t, Int.mul_left_comm t s t, Int.mul_left_comm t s s, Int.mul_comm t s, ← Int.mul_assoc s s t, Int.mul_assoc s t t, Int.mul_assoc s s t]
          omega
        omega
      have d2 := Int.mul_le_mul_of_nonneg_left d1 (show 0 ≤ m * 1024 by omega)
      have z1 : y * (m * (1024 * s)) = m * 1024 * (s * y) := by
        rw [Int.mul_left_comm y m, Int.mul_left_comm y 1024 s, Int.mul_comm y s, ← Int.mul_assoc m 1024]
      have z2 : x * (m * (1024 * t)) = m * 1024 * (t * x) := by
        rw [Int.mul_left_comm x m, Int.mul_left_comm x 1024 t, Int.mul_comm x t, ← Int.mul_assoc m 1024]
      rw [z1, z2]; exact d2
    · have u1 : 1024 * s ≤ x := by
        have := sq_nonneg (s - 512)
        rw [Int.sub_mul, Int.mul_sub, Int.mul_sub] at this
        omega
      have u2 : 1024 * t ≤ y := by
        have := sq_nonneg (t - 512)
        rw [Int.sub_mul, Int.mul_sub, Int.mul_sub] at this
        omega
      have v1 := Int.mul_le_mul_of_nonneg_left u1 (show 0 ≤ m by omega)
      have v2 := Int.mul_le_mul_of_nonneg_left u2 (show 0 ≤ m by omega)
      have w3 := Int.mul_le_mul_of_nonneg_left v1 (show 0 ≤ y by omega)
      have w4 := Int.mul_le_mul_of_nonneg_left v2 (show 0 ≤ x by omega)
      have z1 : y * (m * x) = m * (x * y) := by rw [Int.mul_left_comm y m x, Int.mul_comm y x]
      have z2 : x * (m * y) = m * (x * y) := by rw [Int.mul_left_comm x m y]
      rw [z1] at w3
      rw [z2] at w4
      have z3 : 2 * m * (x * y) ≤ 2 * lo * (2 * (x * y)) := by
        rw [Int.mul_left_comm (2 * lo) 2]
        rw [Int.mul_assoc 2 m]
        have := Int.mul_le_mul_of_nonneg_right (show m ≤ 2 * lo by omega) (show 0 ≤ x * y by omega)
        omega
      rw [Int.mul_assoc 2 m] at z3
      omega
  omega

theorem lo_mono {z step t gate hi hi' : Int} (h1 : 0 < hi') (h2 : hi' ≤ hi) : climbLo z step t gate hi ≤ climbLo z step t gate hi' := by
  unfold climbLo
  have hn : 0 ≤ runLo step t gate * runLo step t gate := sq_nonneg _
  have h3 : 0 ≤ runLo step t gate * runLo step t gate / (2 * hi) := Int.ediv_nonneg hn (by omega)
  have h4 := floor_le (a := runLo step t gate * runLo step t gate) (b := 2 * hi) (by omega)
  have h5 : runLo step t gate * runLo step t gate / (2 * hi) ≤ runLo step t gate * runLo step t gate / (2 * hi') := by
    apply Int.le_ediv_of_mul_le (by omega)
    have := Int.mul_le_mul_of_nonneg_left (show 2 * hi' ≤ 2 * hi by omega) h3
    rw [Int.mul_comm _ (2 * hi)] at this
    omega
  omega

theorem hi_mono {z step t gate lo lo' : Int} (h1 : 0 < lo) (h2 : lo ≤ lo') : climbHi z step t gate lo' ≤ climbHi z step t gate lo := by
  unfold climbHi
  have hn : 0 ≤ runHi step t gate * runHi step t gate := sq_nonneg _
  have h3 : (-(runHi step t gate * runHi step t gate)) / (2 * lo) ≤ 0 := by
    have : (-(runHi step t gate * runHi step t gate)) / (2 * lo) < 1 := Int.ediv_lt_of_lt_mul (by omega) (by omega)
    omega
  have h4 := floor_le (a := -(runHi step t gate * runHi step t gate)) (b := 2 * lo) (by omega)
  have h5 : (-(runHi step t gate * runHi step t gate)) / (2 * lo) ≤ (-(runHi step t gate * runHi step t gate)) / (2 * lo') := by
    apply Int.le_ediv_of_mul_le (by omega)
    have := Int.mul_le_mul_of_nonpos_left h3 (show 2 * lo ≤ 2 * lo' by omega)
    rw [Int.mul_comm _ (2 * lo)] at this
    omega
  omega

end Go.Proofs.Ythnjfnapjpdchaa.M
