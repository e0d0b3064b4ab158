/-
  What Find answers at a place, said outright.
-/
import Derived.Test.Ythnjfnapjpdchaamg9
import Derived.Test.Ythnjfnapjpdchaamg6
namespace Go.Proofs.Ythnjfnapjpdchaa
open Go.RowKit
set_option linter.unusedVariables false

theorem srch_exists (n : Nat) (p : Nat → Bool) (hm : ∀ i j, i ≤ j → j < n → p i = true → p j = true) : ∃ r, SrchIs n p r := by
  induction n with
  | zero => exact ⟨0, Nat.le_refl _, fun k hk => by omega, fun k h1 h2 => by omega⟩
  | succ n ih =>
    obtain ⟨r, h1, h2, h3⟩ := ih (fun i j hij hj => hm i j hij (by omega))
    by_cases e : r < n
    · refine ⟨r, by omega, h2, fun k k1 k2 => ?_⟩
      by_cases hk : k < n
      · exact h3 k k1 hk
      · exact hm r k k1 k2 (h3 r (Nat.le_refl _) e)
    · obtain rfl : r = n := by omega
      cases hp : p r
      · refine ⟨r + 1, Nat.le_refl _, fun k hk => ?_, fun k k1 k2 => by omega⟩
        by_cases hk2 : k < r
        · exact h2 k hk2
        · obtain rfl : k = r := by omega
          exact hp
      · refine ⟨r, by omega, h2, fun k k1 k2 => ?_⟩
        obtain rfl : k = r := by omega
        exact hp

theorem srch_det {n : Nat} {p : Nat → Bool} {r s : Nat} (h1 : SrchIs n p r) (h2 : SrchIs n p s) : r = s := by
  obtain ⟨x1, x2, x3⟩ := h1
  obtain ⟨y1, y2, y3⟩ := h2
  by_cases h : s < r
  · have := x2 s h; rw [y3 s (Nat.le_refl _) (by omega)] at this; cases this
  · by_cases h3 : r < s
    · have := y2 r h3; rw [x3 r (Nat.le_refl _) (by omega)] at this; cases this
    · omega

theorem ray_exists {n : Nat} (dx dy : Int) : ∃ pr, RayIs n dx dy pr := by
  by_cases h : dx = 0 ∧ dy = 0
  · exact ⟨0, .inl ⟨h.1, h.2, rfl⟩⟩
  · obtain ⟨q, a, b, hq, ha, hb, e1, e2⟩ := rot_of dx dy h
    obtain ⟨r, hr⟩ := srch_exists n (before n a b) (before_mono ha hb)
    exact ⟨_, .inr ⟨q, a, b, hq, ha, hb, e1, e2, r, hr, rfl⟩⟩

theorem ray_det {n : Nat} {dx dy p1 p2 : Int} (h1 : 1 ≤ n) (r1 : RayIs n dx dy p1) (r2 : RayIs n dx dy p2) : p1 = p2 := by
  by_cases h : dx = 0 ∧ dy = 0
  · obtain ⟨rfl, rfl⟩ := h
    have key : ∀ p, RayIs n 0 0 p → p = 0 := by
      rintro p (⟨_, _, e⟩ | ⟨q, a, b, hq, ha, hb, e1, e2, _⟩)
      · exact e
      · exfalso
        have hq' : q = 0 ∨ q = 1 ∨ q = 2 ∨ q = 3 := by omega
        rcases hq' with rfl | rfl | rfl | rfl <;> simp [rotX, rotY] at e1 e2 <;> omega
    rw [key p1 r1, key p2 r2]
  · obtain ⟨hb, hu⟩ := sec_unique h1 h r1
    obtain ⟨hb2, hu2⟩ := sec_unique h1 h r2
    exact (hu2 p1 hb.1 hb.2).1 ((hu p1 hb.1 hb.2).2 rfl)

theorem Find_in (nm : ByteArray) (x y z : Int) (n g : Nat) (step width t ax ay dx dy : Int) (hx : ax - x = dx) (hy : ay - y = dy) (r : Nat) (hr : SrchIs (g + 1) (inside (dx * dx + dy * dy) (bordI step t)) r) (w : World) (hs : nm.size ≤ maxLen) (h0 : siteC nm x y z n g step width = 0) (hk : SiteOk x y z n g step width) (c0 : inB t 0 256 = true) (c1 : inB ax (-4194304) 4194304 = true) (c2 : inB ay (-4194304) 4194304 = true) (hin : r ≤ g) (h1 : 1 ≤ n) (pr : Int) (hpr : RayIs n dx dy pr) :
    Calls Try.prog 38 #[.agg #[.string nm, .int .i64 x, .int .i64 y, .int .i64 z, .int .i64 (n : Nat), .int .i64 (g : Nat), .int .i64 step, .int .i64 width], .int .i64 t, .int .i64 ax, .int .i64 ay] w fun e w' => e = .returned (.tuple #[.int .i64 pr, .int .i64 ((r : Int) - 1), .int .i64 0]) ∧ Below w.heap.size w w' := by
  refine (Find_ok nm x y z n g step width t ax ay w hs h0 hk c0 c1 c2).mono ?_
  rintro e w' ⟨ray, gate, ee, ⟨ok, ⟨r2, hr2, hcase⟩, rfl⟩, rfl, hb⟩
  rw [hx, hy] at hr2
  obtain rfl := srch_det hr hr2
  rcases hcase with ⟨e1, _⟩ | ⟨_, rfl, rfl, hray⟩
  · omega
  · rw [hx, hy] at hray
    obtain rfl := ray_det h1 hpr hray
    exact ⟨rfl, hb⟩

theorem Find_out (nm : ByteArray) (x y z : Int) (n g : Nat) (step width t ax ay dx dy : Int) (hx : ax - x = dx) (hy : ay - y = dy) (r : Nat) (hr : SrchIs (g + 1) (inside (dx * dx + dy * dy) (bordI step t)) r) (w : World) (hs : nm.size ≤ maxLen) (h0 : siteC nm x y z n g step width = 0) (hk : SiteOk x y z n g step width) (c0 : inB t 0 256 = true) (c1 : inB ax (-4194304) 4194304 = true) (c2 : inB ay (-4194304) 4194304 = true) (hin : r = g + 1) :
    Calls Try.prog 38 #[.agg #[.string nm, .int .i64 x, .int .i64 y, .int .i64 z, .int .i64 (n : Nat), .int .i64 (g : Nat), .int .i64 step, .int .i64 width], .int .i64 t, .int .i64 ax, .int .i64 ay] w fun e w' => e = .returned (.tuple #[.int .i64 0, .int .i64 0, .int .i64 29]) ∧ Below w.heap.size w w' := by
  refine (Find_ok nm x y z n g step width t ax ay w hs h0 hk c0 c1 c2).mono ?_
  rintro e w' ⟨ray, gate, ee, ⟨ok, ⟨r2, hr2, hcase⟩, rfl⟩, rfl, hb⟩
  rw [hx, hy] at hr2
  obtain rfl := srch_det hr hr2
  rcases hcase with ⟨_, rfl, rfl, rfl⟩ | ⟨e1, _⟩
  · exact ⟨rfl, hb⟩
  · omega

/-- the border test of a gate, and the search -/
theorem gate_test {g r j : Nat} {sq step t : Int} (h : SrchIs (g + 1) (inside sq (bordI step t)) r) (hj : j < g) :
    (bordI step t j * bordI step t j ≤ sq ∧ sq < bordI step t (j + 1) * bordI step t (j + 1)) ↔ j + 1 = r := by
  obtain ⟨h1, h2, h3⟩ := h
  have e1 : bordI step t j * bordI step t j ≤ sq ↔ inside sq (bordI step t) j = false := by unfold inside; rw [decide_eq_false_iff_not]; omega
  have e2 : sq < bordI step t (j + 1) * bordI step t (j + 1) ↔ inside sq (bordI step t) (j + 1) = true := by unfold inside; rw [decide_eq_true_iff]
  rw [e1, e2]
  constructor
  · rintro ⟨a, b⟩
    by_cases c : j + 1 = r
    · exact c
    · exfalso
      by_cases c2 : r ≤ j
      · rw [h3 j c2 (by omega)] at a; cases a
      · rw [h2 (j + 1) (by omega)] at b; cases b
  · intro e
    exact ⟨h2 j (by omega), h3 (j + 1) (by omega) (by omega)⟩

theorem srch_one {g r : Nat} {sq step t : Int} (hsq : 0 ≤ sq) (h : SrchIs (g + 1) (inside sq (bordI step t)) r) : 1 ≤ r := by
  by_cases e : 1 ≤ r
  · exact e
  · exfalso
    have := h.2.2 0 (by omega) (by omega)
    unfold inside at this
    rw [decide_eq_true_iff] at this
    have e0 : bordI step t 0 = 0 := by unfold bordI; simp
    rw [e0] at this
    omega

theorem srch_zero {g r : Nat} {step t : Int} (hg : 1 ≤ g) (h1 : 0 ≤ t) (h2 : t ≤ 256) (s1 : 50 ≤ step) (h : SrchIs (g + 1) (inside (0 * 0 + 0 * 0) (bordI step t)) r) : r = 1 := by
  have a := srch_one (by decide) h
  by_cases e : r = 1
  · exact e
  · exfalso
    have h3 := h.2.1 1 (by omega)
    unfold inside at h3
    rw [decide_eq_false_iff_not] at h3
    apply h3
    have tt := M.sq_nonneg t
    have t2 := (M.sq_bd (a := t) (A := 256) (by omega) h2).2
    have hb : 1 ≤ bordI step t 1 := by
      unfold bordI
      apply Int.le_ediv_of_mul_le (by omega)
      have := Int.mul_le_mul (show (50 : Int) ≤ ((1 : Nat) : Int) * step by omega) (show (196608 : Int) ≤ 262144 - t * t by omega) (by omega) (by omega)
      omega
    have := Int.mul_pos (show 0 < bordI step t 1 by omega) (show 0 < bordI step t 1 by omega)
    simpa using this

end Go.Proofs.Ythnjfnapjpdchaa

namespace Go.Proofs.Ythnjfnapjpdchaa
open Go.RowKit

set_option maxHeartbeats 400000 in
theorem Direction_ok (n d : Int) (w : World) (h1 : 1 ≤ n) (h2 : n ≤ 180) (h3 : 0 ≤ d) (h4 : d < 4 * n) :
    Calls Try.prog 25 #[.int .i64 n, .int .i64 d] w fun e w' => e = .returned (.tuple #[.int .i64 (dirX n d), .int .i64 (dirY n d), .int .i64 (dirL n d), .int .i64 0]) ∧ Below w.heap.size w w' := by
  have hi : inB n 1 180 = true := inB_true.2 ⟨h1, h2⟩
  have hj : inB d 0 (4 * n - 1) = true := inB_true.2 ⟨h3, by omega⟩
  go_enter Try.func25, Try.ntmps25
  go_wp2_with (first | (go_at_call 59; refine (isIn_any _ _ _ _).mono ?_; rintro e w' ⟨rfl, rfl⟩) | (go_at_call 63; refine (towards_any n d _ h1 h2 h3 h4).mono ?_; rintro e w1 ⟨rfl, hb⟩))
  go_quiet (fail)
  go_wp2
  exact bodyPost_ret (v := .tuple #[.int .i64 (dirX n d), .int .i64 (dirY n d), .int .i64 (dirL n d), .int .i64 0]) (by simp [results, Try.results25, go_sem]) rfl ⟨rfl, below_drewN (hb.alloc hb.size _) _⟩

set_option maxHeartbeats 400000 in
theorem Direction_no1 (n d : Int) (w : World) (h : inB n 1 180 = false) :
    Calls Try.prog 25 #[.int .i64 n, .int .i64 d] w fun e w' => e = .returned (.tuple #[.int .i64 0, .int .i64 0, .int .i64 0, .int .i64 3]) ∧ w = w' := by
  go_enter Try.func25, Try.ntmps25
  go_wp2_with (go_at_call 59; refine (isIn_any _ _ _ _).mono ?_; rintro e w' ⟨rfl, rfl⟩)
  exact bodyPost_ret (v := .tuple #[.int .i64 0, .int .i64 0, .int .i64 0, .int .i64 3]) (by simp [results, Try.results25, go_sem]) rfl ⟨rfl, rfl⟩

set_option maxHeartbeats 400000 in
theorem Direction_no2 (n d : Int) (w : World) (h1 : 1 ≤ n) (h2 : n ≤ 180) (h : inB d 0 (4 * n - 1) = false) :
    Calls Try.prog 25 #[.int .i64 n, .int .i64 d] w fun e w' => e = .returned (.tuple #[.int .i64 0, .int .i64 0, .int .i64 0, .int .i64 3]) ∧ w = w' := by
  have hi : inB n 1 180 = true := inB_true.2 ⟨h1, h2⟩
  go_enter Try.func25, Try.ntmps25
  go_wp2_with (go_at_call 59; refine (isIn_any _ _ _ _).mono ?_; rintro e w' ⟨rfl, rfl⟩)
  exact bodyPost_ret (v := .tuple #[.int .i64 0, .int .i64 0, .int .i64 0, .int .i64 3]) (by simp [results, Try.results25, go_sem]) rfl ⟨rfl, rfl⟩

set_option maxHeartbeats 400000 in
theorem refDirection_no1 (n d : Int) (w : World) (h : inB n 1 180 = false) :
    Calls Try.prog 26 #[.int .i64 n, .int .i64 d] w fun e w' => e = .returned (.tuple #[.int .i64 0, .int .i64 0, .int .i64 0, .int .i64 3]) ∧ w = w' := by
  go_enter Try.func26, Try.ntmps26
  go_wp2_with (go_at_call 60; refine (refIn_any _ _ _ _).mono ?_; rintro e w' ⟨rfl, rfl⟩)
  exact bodyPost_ret (v := .tuple #[.int .i64 0, .int .i64 0, .int .i64 0, .int .i64 3]) (by simp [results, Try.results26, go_sem]) rfl ⟨rfl, rfl⟩

set_option maxHeartbeats 400000 in
theorem refDirection_no2 (n d : Int) (w : World) (h1 : 1 ≤ n) (h2 : n ≤ 180) (h : inB d 0 (4 * n - 1) = false) :
    Calls Try.prog 26 #[.int .i64 n, .int .i64 d] w fun e w' => e = .returned (.tuple #[.int .i64 0, .int .i64 0, .int .i64 0, .int .i64 3]) ∧ w = w' := by
  have hi : inB n 1 180 = true := inB_true.2 ⟨h1, h2⟩
  go_enter Try.func26, Try.ntmps26
  go_wp2_with (go_at_call 60; refine (refIn_any _ _ _ _).mono ?_; rintro e w' ⟨rfl, rfl⟩)
  exact bodyPost_ret (v := .tuple #[.int .i64 0, .int .i64 0, .int .i64 0, .int .i64 3]) (by simp [results, Try.results26, go_sem]) rfl ⟨rfl, rfl⟩

set_option maxRecDepth 100000 in
set_option maxHeartbeats 400000 in
theorem refDirection0 (n d : Int) (w : World) (h1 : 1 ≤ n) (h2 : n ≤ 180) (h3 : 0 ≤ d) (h4 : d < 4 * n) (hq : d / n = 0) :
    Calls Try.prog 26 #[.int .i64 n, .int .i64 d] w fun e w' => e = .returned (.tuple #[.int .i64 (2 * n * (d % n)), .int .i64 (n * n - d % n * (d % n)), .int .i64 (n * n + d % n * (d % n)), .int .i64 0]) ∧ w = w' := by
  have hi : inB n 1 180 = true := inB_true.2 ⟨h1, h2⟩
  have hj : inB d 0 (4 * n - 1) = true := inB_true.2 ⟨h3, by omega⟩
  have k0 : 0 ≤ d % n := Int.emod_nonneg _ (by omega)
  have k1 : d % n < n := Int.emod_lt_of_pos _ (by omega)
  have b1 := M.mul_bd (a := n) (b := n) (A := 180) (B := 180) (by omega) h2 (by omega) h2
  have b2 := M.mul_bd (a := d % n) (b := d % n) (A := 180) (B := 180) k0 (by omega) k0 (by omega)
  have b3 := M.mul_bd (a := 2 * n) (b := d % n) (A := 360) (B := 180) (by omega) (by omega) k0 (by omega)
  go_enter Try.func26, Try.ntmps26
  go_wp2_with (go_at_call 60; refine (refIn_any _ _ _ _).mono ?_; rintro e w' ⟨rfl, rfl⟩)
  exact bodyPost_ret (v := .tuple #[.int .i64 (2 * n * (d % n)), .int .i64 (n * n - d % n * (d % n)), .int .i64 (n * n + d % n * (d % n)), .int .i64 0]) (by simp [results, Try.results26, go_sem]) rfl ⟨rfl, rfl⟩

set_option maxRecDepth 100000 in
set_option maxHeartbeats 400000 in
theorem refDirection1 (n d : Int) (w : World) (h1 : 1 ≤ n) (h2 : n ≤ 180) (h3 : 0 ≤ d) (h4 : d < 4 * n) (hq : d / n = 1) :
    Calls Try.prog 26 #[.int .i64 n, .int .i64 d] w fun e w' => e = .returned (.tuple #[.int .i64 (n * n - d % n * (d % n)), .int .i64 (-(2 * n * (d % n))), .int .i64 (n * n + d % n * (d % n)), .int .i64 0]) ∧ w = w' := by
  have hi : inB n 1 180 = true := inB_true.2 ⟨h1, h2⟩
  have hj : inB d 0 (4 * n - 1) = true := inB_true.2 ⟨h3, by omega⟩
  have k0 : 0 ≤ d % n := Int.emod_nonneg _ (by omega)
  have k1 : d % n < n := Int.emod_lt_of_pos _ (by omega)
  have b1 := M.mul_bd (a := n) (b := n) (A := 180) (B := 180) (by omega) h2 (by omega) h2
  have b2 := M.mul_bd (a := d % n) (b := d % n) (A := 180) (B := 180) k0 (by omega) k0 (by omega)
  have b3 := M.mul_bd (a := 2 * n) (b := d % n) (A := 360) (B := 180) (by omega) (by omega) k0 (by omega)
  go_enter Try.func26, Try.ntmps26
  go_wp2_with (go_at_call 60; refine (refIn_any _ _ _ _).mono ?_; rintro e w' ⟨rfl, rfl⟩)
  exact bodyPost_ret (v := .tuple #[.int .i64 (n * n - d % n * (d % n)), .int .i64 (-(2 * n * (d % n))), .int .i64 (n * n + d % n * (d % n)), .int .i64 0]) (by simp [results, Try.results26, go_sem]) rfl ⟨rfl, rfl⟩

set_option maxRecDepth 100000 in
set_option maxHeartbeats 400000 in
theorem refDirection2 (n d : Int) (w : World) (h1 : 1 ≤ n) (h2 : n ≤ 180) (h3 : 0 ≤ d) (h4 : d < 4 * n) (hq : d / n = 2) :
    Calls Try.prog 26 #[.int .i64 n, .int .i64 d] w fun e w' => e = .returned (.tuple #[.int .i64 (-(2 * n * (d % n))), .int .i64 (-(n * n - d % n * (d % n))), .int .i64 (n * n + d % n * (d % n)), .int .i64 0]) ∧ w = w' := by
  have hi : inB n 1 180 = true := inB_true.2 ⟨h1, h2⟩
  have hj : inB d 0 (4 * n - 1) = true := inB_true.2 ⟨h3, by omega⟩
  have k0 : 0 ≤ d % n := Int.emod_nonneg _ (by omega)
  have k1 : d % n < n := Int.emod_lt_of_pos _ (by omega)
  have b1 := M.mul_bd (a := n) (b := n) (A := 180) (B := 180) (by omega) h2 (by omega) h2
  have b2 := M.mul_bd (a := d % n) (b := d % n) (A := 180) (B := 180) k0 (by omega) k0 (by omega)
  have b3 := M.mul_bd (a := 2 * n) (b := d % n) (A := 360) (B := 180) (by omega) (by omega) k0 (by omega)
  go_enter Try.func26, Try.ntmps26
  go_wp2_with (go_at_call 60; refine (refIn_any _ _ _ _).mono ?_; rintro e w' ⟨rfl, rfl⟩)
  exact bodyPost_ret (v := .tuple #[.int .i64 (-(2 * n * (d % n))), .int .i64 (-(n * n - d % n * (d % n))), .int .i64 (n * n + d % n * (d % n)), .int .i64 0]) (by simp [results, Try.results26, go_sem]) rfl ⟨rfl, rfl⟩

set_option maxRecDepth 100000 in
set_option maxHeartbeats 400000 in
theorem refDirection3 (n d : Int) (w : World) (h1 : 1 ≤ n) (h2 : n ≤ 180) (h3 : 0 ≤ d) (h4 : d < 4 * n) (hq : d / n = 3) :
    Calls Try.prog 26 #[.int .i64 n, .int .i64 d] w fun e w' => e = .returned (.tuple #[.int .i64 (-(n * n - d % n * (d % n))), .int .i64 (2 * n * (d % n)), .int .i64 (n * n + d % n * (d % n)), .int .i64 0]) ∧ w = w' := by
  have hi : inB n 1 180 = true := inB_true.2 ⟨h1, h2⟩
  have hj : inB d 0 (4 * n - 1) = true := inB_true.2 ⟨h3, by omega⟩
  have k0 : 0 ≤ d % n := Int.emod_nonneg _ (by omega)
  have k1 : d % n < n := Int.emod_lt_of_pos _ (by omega)
  have b1 := M.mul_bd (a := n) (b := n) (A := 180) (B := 180) (by omega) h2 (by omega) h2
  have b2 := M.mul_bd (a := d % n) (b := d % n) (A := 180) (B := 180) k0 (by omega) k0 (by omega)
  have b3 := M.mul_bd (a := 2 * n) (b := d % n) (A := 360) (B := 180) (by omega) (by omega) k0 (by omega)
  go_enter Try.func26, Try.ntmps26
  go_wp2_with (go_at_call 60; refine (refIn_any _ _ _ _).mono ?_; rintro e w' ⟨rfl, rfl⟩)
  exact bodyPost_ret (v := .tuple #[.int .i64 (-(n * n - d % n * (d % n))), .int .i64 (2 * n * (d % n)), .int .i64 (n * n + d % n * (d % n)), .int .i64 0]) (by simp [results, Try.results26, go_sem]) rfl ⟨rfl, rfl⟩

theorem refDirection_ok (n d : Int) (w : World) (h1 : 1 ≤ n) (h2 : n ≤ 180) (h3 : 0 ≤ d) (h4 : d < 4 * n) :
    Calls Try.prog 26 #[.int .i64 n, .int .i64 d] w fun e w' => e = .returned (.tuple #[.int .i64 (dirX n d), .int .i64 (dirY n d), .int .i64 (dirL n d), .int .i64 0]) ∧ w = w' := by
  rcases quarter h1 h3 h4 with h | h | h | h
  · refine (refDirection0 n d w h1 h2 h3 h4 h).mono fun e w' hw => ?_
    simpa only [dirX, dirY, dirL, h, if_true] using hw
  · refine (refDirection1 n d w h1 h2 h3 h4 h).mono fun e w' hw => ?_
    simpa [dirX, dirY, dirL, h] using hw
  · refine (refDirection2 n d w h1 h2 h3 h4 h).mono fun e w' hw => ?_
    simpa [dirX, dirY, dirL, h] using hw
  · refine (refDirection3 n d w h1 h2 h3 h4 h).mono fun e w' hw => ?_
    simpa [dirX, dirY, dirL, h] using hw

end Go.Proofs.Ythnjfnapjpdchaa

namespace Go.Proofs.Ythnjfnapjpdchaa
open Go.RowKit
set_option linter.unusedVariables false

def fewB (len : Nat) (rose gates wide high : Int) : Bool := decide (rose ≤ 20 ∧ gates ≤ 60 ∧ wide ≤ 16 ∧ high ≤ 16 ∧ len ≤ 20)
theorem fewB_true {len : Nat} {rose gates wide high : Int} : fewB len rose gates wide high = true ↔ rose ≤ 20 ∧ gates ≤ 60 ∧ wide ≤ 16 ∧ high ≤ 16 ∧ len ≤ 20 := by unfold fewB; rw [decide_eq_true_iff]
theorem fewB_false {len : Nat} {rose gates wide high : Int} : fewB len rose gates wide high = false ↔ ¬ (rose ≤ 20 ∧ gates ≤ 60 ∧ wide ≤ 16 ∧ high ≤ 16 ∧ len ≤ 20) := by unfold fewB; rw [decide_eq_false_iff_not]

set_option maxHeartbeats 1600000 in
theorem few_any (nm : ByteArray) (x y z rose gates step width : Int) (gx gy size wide high : Int) (w : World) (hs : nm.size ≤ maxLen) :
    Calls Try.prog 35 #[.agg #[.string nm, .int .i64 x, .int .i64 y, .int .i64 z, .int .i64 rose, .int .i64 gates, .int .i64 step, .int .i64 width], .agg #[.int .i64 gx, .int .i64 gy, .int .i64 size, .int .i64 wide, .int .i64 high]] w fun e w' => e = .returned (.bool (fewB nm.size rose gates wide high)) ∧ Below w.heap.size w w' := by
  unfold maxLen at hs
  by_cases c0 : rose ≤ 20
  · skip
    by_cases c1 : gates ≤ 60
    · skip
      by_cases c2 : wide ≤ 16
      · skip
        by_cases c3 : high ≤ 16
        · skip
          by_cases c4 : nm.size ≤ 20
          · skip
            have c4' : decide ((nm.size : Int) ≤ 20) = true := by rw [decide_eq_true_iff]; omega
            rw [show fewB nm.size rose gates wide high = true from fewB_true.2 ⟨c0, c1, c2, c3, c4⟩]
            go_enter Try.func35, Try.ntmps35
            go_wp2
            go_ret
            exact ⟨rfl, by repeat (first | exact Below.refl _ _ | (refine Below.alloc ?_ (by simp) _))⟩
          · have c4' : decide ((nm.size : Int) ≤ 20) = false := by rw [decide_eq_false_iff_not]; omega
            rw [show fewB nm.size rose gates wide high = false from fewB_false.2 (by omega)]
            go_enter Try.func35, Try.ntmps35
            go_wp2
            go_ret
            exact ⟨rfl, by repeat (first | exact Below.refl _ _ | (refine Below.alloc ?_ (by simp) _))⟩
        · rw [show fewB nm.size rose gates wide high = false from fewB_false.2 (by omega)]
          go_enter Try.func35, Try.ntmps35
          go_wp2
          go_ret
          exact ⟨rfl, by repeat (first | exact Below.refl _ _ | (refine Below.alloc ?_ (by simp) _))⟩
      · rw [show fewB nm.size rose gates wide high = false from fewB_false.2 (by omega)]
        go_enter Try.func35, Try.ntmps35
        go_wp2
        go_ret
        exact ⟨rfl, by repeat (first | exact Below.refl _ _ | (refine Below.alloc ?_ (by simp) _))⟩
    · rw [show fewB nm.size rose gates wide high = false from fewB_false.2 (by omega)]
      go_enter Try.func35, Try.ntmps35
      go_wp2
      go_ret
      exact ⟨rfl, by repeat (first | exact Below.refl _ _ | (refine Below.alloc ?_ (by simp) _))⟩
  · rw [show fewB nm.size rose gates wide high = false from fewB_false.2 (by omega)]
    go_enter Try.func35, Try.ntmps35
    go_wp2
    go_ret
    exact ⟨rfl, by repeat (first | exact Below.refl _ _ | (refine Below.alloc ?_ (by simp) _))⟩

set_option maxHeartbeats 1600000 in
theorem lsector_yes (n a dx dy : Int) (w : World) (h1 : 1 ≤ n) (h2 : n ≤ 90) (a1 : 0 ≤ a) (a2 : a < 4 * n) (b1 : -1000000 ≤ dx) (b2 : dx ≤ 1000000) (b3 : -1000000 ≤ dy) (b4 : dy ≤ 1000000) (hp : SecP n a dx dy) :
    Calls Try.prog 51 #[.int .i64 n, .int .i64 a, .int .i64 dx, .int .i64 dy] w fun e w' => e = .returned (.bool true) ∧ Below w.heap.size w w' := by
  have e0 : 0 ≤ (a + 1) % (4 * n) := Int.emod_nonneg _ (by omega)
  have e1 : (a + 1) % (4 * n) < 4 * n := Int.emod_lt_of_pos _ (by omega)
  obtain ⟨⟨d1, d2⟩, ⟨d3, d4⟩, _⟩ := dir_bd h1 (by omega) a1 a2
  obtain ⟨⟨d5, d6⟩, ⟨d7, d8⟩, _⟩ := dir_bd h1 (by omega) e0 e1
  have m1 := M.mul_abs (a := dirY n a) (b := dx) (A := 64800) (B := 1000000) d3 d4 b1 b2
  have m2 := M.mul_abs (a := dirX n a) (b := dy) (A := 64800) (B := 1000000) d1 d2 b3 b4
  have m3 := M.mul_abs (a := dy) (b := dirX n ((a + 1) % (4 * n))) (A := 1000000) (B := 64800) b3 b4 d5 d6
  have m4 := M.mul_abs (a := dx) (b := dirY n ((a + 1) % (4 * n))) (A := 1000000) (B := 64800) b1 b2 d7 d8
  obtain ⟨s1, s2⟩ := hp
  have s3 : decide (dx * dirY n ((a + 1) % (4 * n)) < dy * dirX n ((a + 1) % (4 * n))) = true := by rw [decide_eq_true_iff]; omega
  go_enter Try.func51, Try.ntmps51
  go_wp2_with fail
  refine (Direction_ok n a _ h1 (by omega) a1 a2).mono ?_; rintro e w1 ⟨rfl, hb1⟩
  go_wp2_with fail
  refine (Direction_ok n ((a + 1) % (4 * n)) _ h1 (by omega) e0 e1).mono ?_; rintro e w2 ⟨rfl, hb2⟩
  go_wp2
  go_ret
  exact ⟨rfl, hb1.trans (hb2.mono hb1.size)⟩

set_option maxHeartbeats 3200000 in
theorem lsector_no (n a dx dy : Int) (w : World) (h1 : 1 ≤ n) (h2 : n ≤ 90) (a1 : 0 ≤ a) (a2 : a < 4 * n) (b1 : -1000000 ≤ dx) (b2 : dx ≤ 1000000) (b3 : -1000000 ≤ dy) (b4 : dy ≤ 1000000) (hp : ¬ SecP n a dx dy) :
    Calls Try.prog 51 #[.int .i64 n, .int .i64 a, .int .i64 dx, .int .i64 dy] w fun e w' => e = .returned (.bool false) ∧ Below w.heap.size w w' := by
  have e0 : 0 ≤ (a + 1) % (4 * n) := Int.emod_nonneg _ (by omega)
  have e1 : (a + 1) % (4 * n) < 4 * n := Int.emod_lt_of_pos _ (by omega)
  obtain ⟨⟨d1, d2⟩, ⟨d3, d4⟩, _⟩ := dir_bd h1 (by omega) a1 a2
  obtain ⟨⟨d5, d6⟩, ⟨d7, d8⟩, _⟩ := dir_bd h1 (by omega) e0 e1
  have m1 := M.mul_abs (a := dirY n a) (b := dx) (A := 64800) (B := 1000000) d3 d4 b1 b2
  have m2 := M.mul_abs (a := dirX n a) (b := dy) (A := 64800) (B := 1000000) d1 d2 b3 b4
  have m3 := M.mul_abs (a := dy) (b := dirX n ((a + 1) % (4 * n))) (A := 1000000) (B := 64800) b3 b4 d5 d6
  have m4 := M.mul_abs (a := dx) (b := dirY n ((a + 1) % (4 * n))) (A := 1000000) (B := 64800) b1 b2 d7 d8
  by_cases s1 : 0 ≤ dirY n a * dx - dirX n a * dy
  · have s2 : ¬ 0 < dy * dirX n ((a + 1) % (4 * n)) - dx * dirY n ((a + 1) % (4 * n)) := fun h => hp ⟨s1, h⟩
    have s3 : decide (dx * dirY n ((a + 1) % (4 * n)) < dy * dirX n ((a + 1) % (4 * n))) = false := by rw [decide_eq_false_iff_not]; omega
    clear hp
    go_enter Try.func51, Try.ntmps51
    go_wp2_with fail
    refine (Direction_ok n a _ h1 (by omega) a1 a2).mono ?_; rintro e w1 ⟨rfl, hb1⟩
    go_wp2_with fail
    refine (Direction_ok n ((a + 1) % (4 * n)) _ h1 (by omega) e0 e1).mono ?_; rintro e w2 ⟨rfl, hb2⟩
    go_wp2
    go_ret
    exact ⟨rfl, hb1.trans (hb2.mono hb1.size)⟩
  · clear hp
    go_enter Try.func51, Try.ntmps51
    go_wp2_with fail
    refine (Direction_ok n a _ h1 (by omega) a1 a2).mono ?_; rintro e w1 ⟨rfl, hb1⟩
    go_wp2_with fail
    refine (Direction_ok n ((a + 1) % (4 * n)) _ h1 (by omega) e0 e1).mono ?_; rintro e w2 ⟨rfl, hb2⟩
    go_wp2
    go_ret
    exact ⟨rfl, hb1.trans (hb2.mono hb1.size)⟩

end Go.Proofs.Ythnjfnapjpdchaa

namespace Go.Proofs.Ythnjfnapjpdchaa
open Go.RowKit
set_option linter.unusedVariables false

set_option maxHeartbeats 1600000 in
theorem Ground_err (nm : ByteArray) (x y z rose gates step width : Int) (t gate : Int) (w : World) (hs : nm.size ≤ maxLen) (hne : (siteC nm x y z rose gates step width != 0) = true) :
    Calls Try.prog 29 #[.agg #[.string nm, .int .i64 x, .int .i64 y, .int .i64 z, .int .i64 rose, .int .i64 gates, .int .i64 step, .int .i64 width], .int .i64 t, .int .i64 gate] w
      fun e w' => e = .returned (.tuple #[.agg #[.int .i64 0, .int .i64 0], .int .i64 (siteC nm x y z rose gates step width)]) ∧ Below w.heap.size w w' := by
  have HS := Lib.hid hs
  clear hs
  go_enter Try.func29, Try.ntmps29
  go_wp2_with fail
  refine (CheckSite_any _ _ _ _ _ _ _ _ _ HS.out).mono ?_; rintro e w1 ⟨rfl, hb1⟩
  have T1 := (Two.new w nm x y z rose gates step width (.int .i64 0) (.int .i64 0) 43).keep hb1 (by simp only [World.size_alloc]; omega)
  clear hb1
  obtain ⟨⟨k0, k1, k2, k3, k4, k5, k6, k7⟩, ⟨o0, o1, f0, f1⟩, hz, hbw⟩ := T1
  go_wp2
  exact bodyPost_ret (v := .tuple #[.agg #[.int .i64 0, .int .i64 0], .int .i64 (siteC nm x y z rose gates step width)]) (by simp [results, Try.results29, go_sem, o0, o1]) rfl ⟨rfl, Below.setCell (Below.setCell hbw (by dsimp only; omega) _) (by dsimp only; omega) _⟩

set_option maxHeartbeats 1600000 in
theorem Ground_no0 (nm : ByteArray) (x y z rose gates step width : Int) (t gate : Int) (w : World) (hs : nm.size ≤ maxLen) (h0 : siteC nm x y z rose gates step width = 0) (hg1 : 1 ≤ gates) (hg2 : gates ≤ 200) (c0 : inB t 0 256 = false) :
    Calls Try.prog 29 #[.agg #[.string nm, .int .i64 x, .int .i64 y, .int .i64 z, .int .i64 rose, .int .i64 gates, .int .i64 step, .int .i64 width], .int .i64 t, .int .i64 gate] w
      fun e w' => e = .returned (.tuple #[.agg #[.int .i64 0, .int .i64 0], .int .i64 3]) ∧ Below w.heap.size w w' := by
  have HS := Lib.hid hs
  have H0 := Lib.hid h0
  clear hs h0
  go_enter Try.func29, Try.ntmps29
  go_wp2_with fail
  refine (CheckSite_any _ _ _ _ _ _ _ _ _ HS.out).mono ?_; rintro e w1 ⟨rfl, hb1⟩
  have T1 := (Two.new w nm x y z rose gates step width (.int .i64 0) (.int .i64 0) 43).keep hb1 (by simp only [World.size_alloc]; omega)
  clear hb1
  rw [H0.out]
  obtain ⟨⟨k0, k1, k2, k3, k4, k5, k6, k7⟩, ⟨o0, o1, f0, f1⟩, hz, hbw⟩ := T1
  go_wp2_with fail
  refine (isTilt_any _ _).mono ?_; rintro e w' ⟨rfl, rfl⟩
  go_wp2
  exact bodyPost_ret (v := .tuple #[.agg #[.int .i64 0, .int .i64 0], .int .i64 3]) (by simp [results, Try.results29, go_sem, o0, o1]) rfl ⟨rfl, Below.setCell (Below.setCell hbw (by dsimp only; omega) _) (by dsimp only; omega) _⟩

set_option maxHeartbeats 1600000 in
theorem Ground_no1 (nm : ByteArray) (x y z rose gates step width : Int) (t gate : Int) (w : World) (hs : nm.size ≤ maxLen) (h0 : siteC nm x y z rose gates step width = 0) (hg1 : 1 ≤ gates) (hg2 : gates ≤ 200) (c0 : inB t 0 256 = true) (c1 : inB gate 0 (gates - 1) = false) :
    Calls Try.prog 29 #[.agg #[.string nm, .int .i64 x, .int .i64 y, .int .i64 z, .int .i64 rose, .int .i64 gates, .int .i64 step, .int .i64 width], .int .i64 t, .int .i64 gate] w
      fun e w' => e = .returned (.tuple #[.agg #[.int .i64 0, .int .i64 0], .int .i64 3]) ∧ Below w.heap.size w w' := by
  have HS := Lib.hid hs
  have H0 := Lib.hid h0
  clear hs h0
  go_enter Try.func29, Try.ntmps29
  go_wp2_with fail
  refine (CheckSite_any _ _ _ _ _ _ _ _ _ HS.out).mono ?_; rintro e w1 ⟨rfl, hb1⟩
  have T1 := (Two.new w nm x y z rose gates step width (.int .i64 0) (.int .i64 0) 43).keep hb1 (by simp only [World.size_alloc]; omega)
  clear hb1
  rw [H0.out]
  obtain ⟨⟨k0, k1, k2, k3, k4, k5, k6, k7⟩, ⟨o0, o1, f0, f1⟩, hz, hbw⟩ := T1
  go_wp2_with fail
  refine (isTilt_any _ _).mono ?_; rintro e w' ⟨rfl, rfl⟩
  go_wp2_with fail
  refine (isGate_any _ _ _ _ _ _ _ _ _ _ hg1 hg2).mono ?_; rintro e w2 ⟨rfl, hb2⟩
  have T2 := (⟨⟨k0, k1, k2, k3, k4, k5, k6, k7⟩, ⟨o0, o1, f0, f1⟩, hz, hbw⟩ : Two w w1 nm x y z rose gates step width ).keep hb2 (by omega)
  clear k0 k1 k2 k3 k4 k5 k6 k7 o0 o1 f0 f1 hz hbw
  clear hb2
  obtain ⟨⟨k0, k1, k2, k3, k4, k5, k6, k7⟩, ⟨o0, o1, f0, f1⟩, hz, hbw⟩ := T2
  go_wp2
  exact bodyPost_ret (v := .tuple #[.agg #[.int .i64 0, .int .i64 0], .int .i64 3]) (by simp [results, Try.results29, go_sem, o0, o1]) rfl ⟨rfl, Below.setCell (Below.setCell hbw (by dsimp only; omega) _) (by dsimp only; omega) _⟩

set_option maxHeartbeats 800000 in
theorem Ground_ok0 (nm : ByteArray) (x y z rose gates step width t gate : Int) (w : World) (hs : nm.size ≤ maxLen) (h0 : siteC nm x y z rose gates step width = 0) (h1 : 0 ≤ t) (h2 : t ≤ 256) (s1 : 50 ≤ step) (s2 : step ≤ 2000) (g1 : 0 ≤ gate) (g2 : gate ≤ 199) (g3 : gate < gates) (g4 : gates ≤ 200) :
    Calls Try.prog 29 #[.agg #[.string nm, .int .i64 x, .int .i64 y, .int .i64 z, .int .i64 rose, .int .i64 gates, .int .i64 step, .int .i64 width], .int .i64 t, .int .i64 gate] w
      fun e w' => e = .returned (.tuple #[.agg #[.int .i64 (runLo step t gate), .int .i64 (runHi step t gate)], .int .i64 0]) ∧ Below w.heap.size w w' := by
  have HS := Lib.hid hs
  have H0 := Lib.hid h0
  have hi : inB t 0 256 = true := inB_true.2 ⟨h1, h2⟩
  have hj : inB gate 0 (gates - 1) = true := inB_true.2 ⟨g1, by omega⟩
  clear hs h0
  go_enter Try.func29, Try.ntmps29
  go_wp2_with fail
  refine (CheckSite_any _ _ _ _ _ _ _ _ _ HS.out).mono ?_; rintro e w1 ⟨rfl, hb1⟩; rw [H0.out]
  obtain ⟨hc1, hf1⟩ := bcell hb1
  have hz1 := hb1.size
  simp at hz1
  go_wp2_with fail
  refine (isTilt_any _ _).mono ?_; rintro e w2 ⟨rfl, rfl⟩
  go_wp2_with fail
  refine (isGate_any _ _ _ _ _ _ _ _ _ _ (by omega) g4).mono ?_; rintro e w2 ⟨rfl, hb2⟩
  obtain ⟨hc2, hf2⟩ := bcell hb2
  have hz2 := hb2.size
  go_wp2_with fail
  refine (roundings_any _).mono ?_; rintro e w3 ⟨rfl, hw3⟩
  subst hw3
  have hz3 : w.heap.size + 1 < w2.heap.size := by omega
  obtain ⟨k0, k1, k2, k3, k4, k5, k6, k7, k8, k9, k10, k11⟩ : w2.cell? ⟨w.heap.size, 0, none⟩ = some (.string nm) ∧ w2.cell? ⟨w.heap.size, 1, none⟩ = some (.int .i64 x) ∧ w2.cell? ⟨w.heap.size, 2, none⟩ = some (.int .i64 y) ∧ w2.cell? ⟨w.heap.size, 3, none⟩ = some (.int .i64 z) ∧ w2.cell? ⟨w.heap.size, 4, none⟩ = some (.int .i64 rose) ∧ w2.cell? ⟨w.heap.size, 5, none⟩ = some (.int .i64 gates) ∧ w2.cell? ⟨w.heap.size, 6, none⟩ = some (.int .i64 step) ∧ w2.cell? ⟨w.heap.size, 7, none⟩ = some (.int .i64 width) ∧ w2.cell? ⟨w.heap.size + 1, 0, none⟩ = some (cellAt w2 ⟨w.heap.size + 1, 0, none⟩) ∧ w2.cell? ⟨w.heap.size + 1, 1, none⟩ = some (cellAt w2 ⟨w.heap.size + 1, 1, none⟩) ∧ w2.frozen? ⟨w.heap.size + 1, 0, none⟩ = false ∧ w2.frozen? ⟨w.heap.size + 1, 1, none⟩ = false := by
    refine ⟨?_, ?_, ?_, ?_, ?_, ?_, ?_, ?_, ?_, ?_, ?_, ?_⟩ <;> first | (rw [hc2 _ _ (by omega), hc1 _ _ (by first | (simp; done) | (simp; omega))]; simp; done) | (rw [hf2 _ _ (by omega), hf1 _ _ (by first | (simp; done) | (simp; omega))]; simp; done) | (refine cellAt_mk (v := .int .i64 0) ?_; rw [hc2 _ _ (by omega), hc1 _ _ (by first | (simp; done) | (simp; omega))]; simp)
  have hb4 : Below w2.heap.size w2 (w2.alloc (.cells #[.func (Fn.func 92) #[] #[]] 90)).drew := ((Below.refl _ _).alloc (Nat.le_refl _) _).drew
  have hk8 : (w2.alloc (.cells #[.func (Fn.func 92) #[] #[]] 90)).drew.cell? ⟨w2.heap.size, 0, none⟩ = some (.func (Fn.func 92) #[] #[]) := by simp
  have hk9 : w2.heap.size < (w2.alloc (.cells #[.func (Fn.func 92) #[] #[]] 90)).drew.heap.size := by simp
  have hbw : Below w.heap.size w w2 := by
    refine Below.trans ?_ (hb2.mono (by omega))
    refine Below.trans ?_ (hb1.mono (by simp; omega))
    exact ((Below.refl _ _).alloc (Nat.le_refl _) _).alloc (by simp) _
  have hbw2 : Below w.heap.size w (w2.alloc (.cells #[.func (Fn.func 92) #[] #[]] 90)).drew := hbw.trans (hb4.mono (by omega))
  go_wp2_with fail
  go_region_held3 (fun w' => w'.cell? ⟨w.heap.size, 0, none⟩ = some (.string nm) ∧ w'.cell? ⟨w.heap.size, 1, none⟩ = some (.int .i64 x) ∧ w'.cell? ⟨w.heap.size, 2, none⟩ = some (.int .i64 y) ∧ w'.cell? ⟨w.heap.size, 3, none⟩ = some (.int .i64 z) ∧ w'.cell? ⟨w.heap.size, 4, none⟩ = some (.int .i64 rose) ∧ w'.cell? ⟨w.heap.size, 5, none⟩ = some (.int .i64 gates) ∧ w'.cell? ⟨w.heap.size, 6, none⟩ = some (.int .i64 step) ∧ w'.cell? ⟨w.heap.size, 7, none⟩ = some (.int .i64 width) ∧ w'.cell? ⟨w.heap.size + 1, 0, none⟩ = some (cellAt w' ⟨w.heap.size + 1, 0, none⟩) ∧ w'.cell? ⟨w.heap.size + 1, 1, none⟩ = some (cellAt w' ⟨w.heap.size + 1, 1, none⟩) ∧ w'.frozen? ⟨w.heap.size + 1, 0, none⟩ = false ∧ w'.frozen? ⟨w.heap.size + 1, 1, none⟩ = false ∧
      w'.cell? ⟨w2.heap.size, 0, none⟩ = some (.func (Fn.func 92) #[] #[]) ∧ w2.heap.size < w'.heap.size ∧ Below w.heap.size w w')
    (first | (go_split_ands; refine ⟨?_, ?_, ?_, ?_, ?_, ?_, ?_, ?_, ?_, ?_, ?_, ?_, ?_, ?_, ?_⟩ <;> first | exact hbw2 | exact hk8 | exact hk9 | exact keepB hb4 (by omega) (by assumption) | exact keepA hb4 (by omega) (by assumption) | exact keepF hb4 (by omega) (by assumption) | (have := hb4.size; omega) | exact Below.trans (by assumption) (hb4.mono (by omega)) | exact Below.setCell (Below.setCell (by assumption) (by simp) _) (by simp) _ | exact cellAt_set (cellAt_set (by assumption)) | (rw [World.cell?_setCell_far _ _ _ _ (by dsimp only; omega), World.cell?_setCell_far _ _ _ _ (by dsimp only; omega)]; assumption) | (simp; assumption) | (simp; omega)))
    (first | (go_at_call_of 69 (Value.func (Fn.func 92) #[] #[]); refine (run_down _ _ _ _ _ _ _ _ _ _ _ (by omega) (by omega) s1 s2 g1 g2).mono ?_; rintro e w4 ⟨rfl, hb4⟩) | (go_at_call 69; refine (run_up _ _ _ _ _ _ _ _ _ _ _ _ ?_ ?_ (by omega) (by omega) s1 s2 g1 g2).mono ?_; (go_split_ands; assumption); (go_split_ands; assumption); rintro e w4 ⟨rfl, hb4⟩))
  go_split_ands
  have hp := pair_read (by assumption) (by assumption)
  obtain ⟨hp0, hp1⟩ := hp
  go_wp2
  exact bodyPost_ret (v := .tuple #[.agg #[.int .i64 (runLo step t gate), .int .i64 (runHi step t gate)], .int .i64 0]) (by simp [results, Try.results29, go_sem, hp0, hp1]) rfl ⟨rfl, by assumption⟩

theorem Ground_ok (nm : ByteArray) (x y z rose gates step width : Int) (t gate : Int) (w : World) (hs : nm.size ≤ maxLen) (h0 : siteC nm x y z rose gates step width = 0) (hk : SiteOk x y z rose gates step width) (c0 : inB t 0 256 = true) (c1 : inB gate 0 (gates - 1) = true) :
    Calls Try.prog 29 #[.agg #[.string nm, .int .i64 x, .int .i64 y, .int .i64 z, .int .i64 rose, .int .i64 gates, .int .i64 step, .int .i64 width], .int .i64 t, .int .i64 gate] w
      fun e w' => e = .returned (.tuple #[.agg #[.int .i64 (runLo step t gate), .int .i64 (runHi step t gate)], .int .i64 0]) ∧ Below w.heap.size w w' := by
  obtain ⟨t1, t2⟩ := inB_true.1 c0
  obtain ⟨g1, g3⟩ := inB_gate c1
  have g2 := hk.g2
  exact Ground_ok0 nm x y z rose gates step width t gate w hs h0 t1 t2 hk.s1 hk.s2 g1 (by omega) g3 g2

theorem Ground_any (nm : ByteArray) (x y z rose gates step width : Int) (t gate : Int) (w : World) (hs : nm.size ≤ maxLen) :
    Calls Try.prog 29 #[.agg #[.string nm, .int .i64 x, .int .i64 y, .int .i64 z, .int .i64 rose, .int .i64 gates, .int .i64 step, .int .i64 width], .int .i64 t, .int .i64 gate] w
      fun e w' => e = .returned (.tuple #[.agg #[.int .i64 (val (codeE (siteC nm x y z rose gates step width) (inB t 0 256 && inB gate 0 (gates - 1))) (runLo step t gate)), .int .i64 (val (codeE (siteC nm x y z rose gates step width) (inB t 0 256 && inB gate 0 (gates - 1))) (runHi step t gate))], .int .i64 (codeE (siteC nm x y z rose gates step width) (inB t 0 256 && inB gate 0 (gates - 1)))]) ∧ Below w.heap.size w w' := by
  by_cases h0 : siteC nm x y z rose gates step width = 0
  · have hk := (siteC_zero.1 h0).2
    have hg1 := hk.g1
    have hg2 := hk.g2
    rcases (Bool.eq_false_or_eq_true (inB t 0 256)).symm with c0 | c0
    · have e : (codeE (siteC nm x y z rose gates step width) (inB t 0 256 && inB gate 0 (gates - 1))) = 3 := by rw [h0, c0]; rfl
      rw [e, val_no, val_no]
      exact Ground_no0 nm x y z rose gates step width t gate w hs h0 hg1 hg2 c0
    · have _u := hg1
      rcases (Bool.eq_false_or_eq_true (inB gate 0 (gates - 1))).symm with c1 | c1
      · have e : (codeE (siteC nm x y z rose gates step width) (inB t 0 256 && inB gate 0 (gates - 1))) = 3 := by rw [h0, c0, c1]; rfl
        rw [e, val_no, val_no]
        exact Ground_no1 nm x y z rose gates step width t gate w hs h0 hg1 hg2 c0 c1
      · have e : (codeE (siteC nm x y z rose gates step width) (inB t 0 256 && inB gate 0 (gates - 1))) = 0 := by rw [h0, c0, c1]; rfl
        rw [e, val_ok, val_ok]
        exact Ground_ok nm x y z rose gates step width t gate w hs h0 hk c0 c1
  · rw [codeE_err h0, val_err h0, val_err h0]
    exact Ground_err nm x y z rose gates step width t gate w hs (bne_iff_ne.2 h0)

set_option maxHeartbeats 1600000 in
theorem refGround_err (nm : ByteArray) (x y z rose gates step width : Int) (t gate : Int) (w : World) (hs : nm.size ≤ maxLen) (hne : (siteC nm x y z rose gates step width != 0) = true) :
    Calls Try.prog 30 #[.agg #[.string nm, .int .i64 x, .int .i64 y, .int .i64 z, .int .i64 rose, .int .i64 gates, .int .i64 step, .int .i64 width], .int .i64 t, .int .i64 gate] w
      fun e w' => e = .returned (.tuple #[.agg #[.int .i64 0, .int .i64 0], .int .i64 (siteC nm x y z rose gates step width)]) ∧ Below w.heap.size w w' := by
  have HS := Lib.hid hs
  clear hs
  go_enter Try.func30, Try.ntmps30
  go_wp2_with fail
  refine (refCheckSite_any _ _ _ _ _ _ _ _ _ HS.out).mono ?_; rintro e w1 ⟨rfl, hb1⟩
  have T1 := (Two.new w nm x y z rose gates step width (.int .i64 0) (.int .i64 0) 43).keep hb1 (by simp only [World.size_alloc]; omega)
  clear hb1
  obtain ⟨⟨k0, k1, k2, k3, k4, k5, k6, k7⟩, ⟨o0, o1, f0, f1⟩, hz, hbw⟩ := T1
  go_wp2
  exact bodyPost_ret (v := .tuple #[.agg #[.int .i64 0, .int .i64 0], .int .i64 (siteC nm x y z rose gates step width)]) (by simp [results, Try.results30, go_sem, o0, o1]) rfl ⟨rfl, Below.setCell (Below.setCell hbw (by dsimp only; omega) _) (by dsimp only; omega) _⟩

set_option maxHeartbeats 1600000 in
theorem refGround_no0 (nm : ByteArray) (x y z rose gates step width : Int) (t gate : Int) (w : World) (hs : nm.size ≤ maxLen) (h0 : siteC nm x y z rose gates step width = 0) (hg1 : 1 ≤ gates) (hg2 : gates ≤ 200) (c0 : inB t 0 256 = false) :
    Calls Try.prog 30 #[.agg #[.string nm, .int .i64 x, .int .i64 y, .int .i64 z, .int .i64 rose, .int .i64 gates, .int .i64 step, .int .i64 width], .int .i64 t, .int .i64 gate] w
      fun e w' => e = .returned (.tuple #[.agg #[.int .i64 0, .int .i64 0], .int .i64 3]) ∧ Below w.heap.size w w' := by
  have HS := Lib.hid hs
  have H0 := Lib.hid h0
  clear hs h0
  go_enter Try.func30, Try.ntmps30
  go_wp2_with fail
  refine (refCheckSite_any _ _ _ _ _ _ _ _ _ HS.out).mono ?_; rintro e w1 ⟨rfl, hb1⟩
  have T1 := (Two.new w nm x y z rose gates step width (.int .i64 0) (.int .i64 0) 43).keep hb1 (by simp only [World.size_alloc]; omega)
  clear hb1
  rw [H0.out]
  obtain ⟨⟨k0, k1, k2, k3, k4, k5, k6, k7⟩, ⟨o0, o1, f0, f1⟩, hz, hbw⟩ := T1
  go_wp2_with fail
  refine (refIn_any _ _ _ _).mono ?_; rintro e w' ⟨rfl, rfl⟩
  go_wp2
  exact bodyPost_ret (v := .tuple #[.agg #[.int .i64 0, .int .i64 0], .int .i64 3]) (by simp [results, Try.results30, go_sem, o0, o1]) rfl ⟨rfl, Below.setCell (Below.setCell hbw (by dsimp only; omega) _) (by dsimp only; omega) _⟩

set_option maxHeartbeats 1600000 in
theorem refGround_no1 (nm : ByteArray) (x y z rose gates step width : Int) (t gate : Int) (w : World) (hs : nm.size ≤ maxLen) (h0 : siteC nm x y z rose gates step width = 0) (hg1 : 1 ≤ gates) (hg2 : gates ≤ 200) (c0 : inB t 0 256 = true) (c1 : inB gate 0 (gates - 1) = false) :
    Calls Try.prog 30 #[.agg #[.string nm, .int .i64 x, .int .i64 y, .int .i64 z, .int .i64 rose, .int .i64 gates, .int .i64 step, .int .i64 width], .int .i64 t, .int .i64 gate] w
      fun e w' => e = .returned (.tuple #[.agg #[.int .i64 0, .int .i64 0], .int .i64 3]) ∧ Below w.heap.size w w' := by
  have HS := Lib.hid hs
  have H0 := Lib.hid h0
  clear hs h0
  go_enter Try.func30, Try.ntmps30
  go_wp2_with fail
  refine (refCheckSite_any _ _ _ _ _ _ _ _ _ HS.out).mono ?_; rintro e w1 ⟨rfl, hb1⟩
  have T1 := (Two.new w nm x y z rose gates step width (.int .i64 0) (.int .i64 0) 43).keep hb1 (by simp only [World.size_alloc]; omega)
  clear hb1
  rw [H0.out]
  obtain ⟨⟨k0, k1, k2, k3, k4, k5, k6, k7⟩, ⟨o0, o1, f0, f1⟩, hz, hbw⟩ := T1
  go_wp2_with fail
  refine (refIn_any _ _ _ _).mono ?_; rintro e w' ⟨rfl, rfl⟩
  go_wp2_with fail
  refine (refIn_any _ _ _ _).mono ?_; rintro e w' ⟨rfl, rfl⟩
  go_wp2
  exact bodyPost_ret (v := .tuple #[.agg #[.int .i64 0, .int .i64 0], .int .i64 3]) (by simp [results, Try.results30, go_sem, o0, o1]) rfl ⟨rfl, Below.setCell (Below.setCell hbw (by dsimp only; omega) _) (by dsimp only; omega) _⟩

set_option maxHeartbeats 3200000 in
theorem refGround_ok (nm : ByteArray) (x y z rose gates step width : Int) (t gate : Int) (w : World) (hs : nm.size ≤ maxLen) (h0 : siteC nm x y z rose gates step width = 0) (hk : SiteOk x y z rose gates step width) (c0 : inB t 0 256 = true) (c1 : inB gate 0 (gates - 1) = true) :
    Calls Try.prog 30 #[.agg #[.string nm, .int .i64 x, .int .i64 y, .int .i64 z, .int .i64 rose, .int .i64 gates, .int .i64 step, .int .i64 width], .int .i64 t, .int .i64 gate] w
      fun e w' => e = .returned (.tuple #[.agg #[.int .i64 (runLo step t gate), .int .i64 (runHi step t gate)], .int .i64 0]) ∧ Below w.heap.size w w' := by
  have HS := Lib.hid hs
  have H0 := Lib.hid h0
  obtain ⟨x1, x2, y1, y2, z1, z2, r1, r2, hg1, hg2, s1, s2, d1, d2⟩ := hk
  obtain ⟨t1, t2⟩ := inB_true.1 c0
  obtain ⟨g1, g3⟩ := inB_gate c1
  clear hs h0
  go_enter Try.func30, Try.ntmps30
  go_wp2_with fail
  refine (refCheckSite_any _ _ _ _ _ _ _ _ _ HS.out).mono ?_; rintro e w1 ⟨rfl, hb1⟩
  have T1 := (Two.new w nm x y z rose gates step width (.int .i64 0) (.int .i64 0) 43).keep hb1 (by simp only [World.size_alloc]; omega)
  clear hb1
  rw [H0.out]
  obtain ⟨⟨k0, k1, k2, k3, k4, k5, k6, k7⟩, ⟨o0, o1, f0, f1⟩, hz, hbw⟩ := T1
  go_wp2_with fail
  refine (refIn_any _ _ _ _).mono ?_; rintro e w' ⟨rfl, rfl⟩
  go_wp2_with fail
  refine (refIn_any _ _ _ _).mono ?_; rintro e w' ⟨rfl, rfl⟩
  go_wp2_with fail
  refine (refground_any _ _ _ _ _ _ _ _ _ _ _ (by omega) (by omega) s1 s2 g1 (by omega)).mono ?_; rintro e w2 ⟨rfl, hb2⟩
  have T2 := (⟨⟨k0, k1, k2, k3, k4, k5, k6, k7⟩, ⟨o0, o1, f0, f1⟩, hz, hbw⟩ : Two w w1 nm x y z rose gates step width ).keep hb2 (by omega)
  clear k0 k1 k2 k3 k4 k5 k6 k7 o0 o1 f0 f1 hz hbw
  clear hb2
  obtain ⟨⟨k0, k1, k2, k3, k4, k5, k6, k7⟩, ⟨o0, o1, f0, f1⟩, hz, hbw⟩ := T2
  go_wp2
  exact bodyPost_ret (v := .tuple #[.agg #[.int .i64 (runLo step t gate), .int .i64 (runHi step t gate)], .int .i64 0]) (by simp [results, Try.results30, go_sem, o0, o1]) rfl ⟨rfl, Below.setCell (Below.setCell hbw (by dsimp only; omega) _) (by dsimp only; omega) _⟩

theorem refGround_any (nm : ByteArray) (x y z rose gates step width : Int) (t gate : Int) (w : World) (hs : nm.size ≤ maxLen) :
    Calls Try.prog 30 #[.agg #[.string nm, .int .i64 x, .int .i64 y, .int .i64 z, .int .i64 rose, .int .i64 gates, .int .i64 step, .int .i64 width], .int .i64 t, .int .i64 gate] w
      fun e w' => e = .returned (.tuple #[.agg #[.int .i64 (val (codeE (siteC nm x y z rose gates step width) (inB t 0 256 && inB gate 0 (gates - 1))) (runLo step t gate)), .int .i64 (val (codeE (siteC nm x y z rose gates step width) (inB t 0 256 && inB gate 0 (gates - 1))) (runHi step t gate))], .int .i64 (codeE (siteC nm x y z rose gates step width) (inB t 0 256 && inB gate 0 (gates - 1)))]) ∧ Below w.heap.size w w' := by
  by_cases h0 : siteC nm x y z rose gates step width = 0
  · have hk := (siteC_zero.1 h0).2
    have hg1 := hk.g1
    have hg2 := hk.g2
    rcases (Bool.eq_false_or_eq_true (inB t 0 256)).symm with c0 | c0
    · have e : (codeE (siteC nm x y z rose gates step width) (inB t 0 256 && inB gate 0 (gates - 1))) = 3 := by rw [h0, c0]; rfl
      rw [e, val_no, val_no]
      exact refGround_no0 nm x y z rose gates step width t gate w hs h0 hg1 hg2 c0
    · have _u := hg1
      rcases (Bool.eq_false_or_eq_true (inB gate 0 (gates - 1))).symm with c1 | c1
      · have e : (codeE (siteC nm x y z rose gates step width) (inB t 0 256 && inB gate 0 (gates - 1))) = 3 := by rw [h0, c0, c1]; rfl
        rw [e, val_no, val_no]
        exact refGround_no1 nm x y z rose gates step width t gate w hs h0 hg1 hg2 c0 c1
      · have e : (codeE (siteC nm x y z rose gates step width) (inB t 0 256 && inB gate 0 (gates - 1))) = 0 := by rw [h0, c0, c1]; rfl
        rw [e, val_ok, val_ok]
        exact refGround_ok nm x y z rose gates step width t gate w hs h0 hk c0 c1
  · rw [codeE_err h0, val_err h0, val_err h0]
    exact refGround_err nm x y z rose gates step width t gate w hs (bne_iff_ne.2 h0)

end Go.Proofs.Ythnjfnapjpdchaa
