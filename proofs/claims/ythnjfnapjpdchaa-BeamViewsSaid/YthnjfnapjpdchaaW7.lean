/-
  What Find answers at a place, said outright.
-/
import Derived.Test.YthnjfnapjpdchaaW5
import Derived.Test.YthnjfnapjpdchaaW6
namespace Go.Proofs.Ythnjfnapjpdchaa
open Go.RowKit
set_option linter.unusedVariables false

theorem srch_exists (n : Nat) (p : Nat → Bool) (hm : ∀ i j, i ≤ j → j < n → p i = true → p j = true) : ∃ r, SrchIs n p r := by
  induction n with
  | zero => exact ⟨0, Nat.le_refl _, fun k hk => by omega, fun k h1 h2 => by omega⟩
  | succ n ih =>
    obtain ⟨r, h1, h2, h3⟩ := ih (fun i j hij hj => hm i j hij (by omega))
    by_cases e : r < n
    · refine ⟨r, by omega, h2, fun k k1 k2 => ?_⟩
      by_cases hk : k < n
      · exact h3 k k1 hk
      · exact hm r k k1 k2 (h3 r (Nat.le_refl _) e)
    · obtain rfl : r = n := by omega
      cases hp : p r
      · refine ⟨r + 1, Nat.le_refl _, fun k hk => ?_, fun k k1 k2 => by omega⟩
        by_cases hk2 : k < r
        · exact h2 k hk2
        · obtain rfl : k = r := by omega
          exact hp
      · refine ⟨r, by omega, h2, fun k k1 k2 => ?_⟩
        obtain rfl : k = r := by omega
        exact hp

theorem srch_det {n : Nat} {p : Nat → Bool} {r s : Nat} (h1 : SrchIs n p r) (h2 : SrchIs n p s) : r = s := by
  obtain ⟨x1, x2, x3⟩ := h1
  obtain ⟨y1, y2, y3⟩ := h2
  by_cases h : s < r
  · have := x2 s h; rw [y3 s (Nat.le_refl _) (by omega)] at this; cases this
  · by_cases h3 : r < s
    · have := y2 r h3; rw [x3 r (Nat.le_refl _) (by omega)] at this; cases this
    · omega

theorem ray_exists {n : Nat} (dx dy : Int) : ∃ pr, RayIs n dx dy pr := by
  by_cases h : dx = 0 ∧ dy = 0
  · exact ⟨0, .inl ⟨h.1, h.2, rfl⟩⟩
  · obtain ⟨q, a, b, hq, ha, hb, e1, e2⟩ := rot_of dx dy h
    obtain ⟨r, hr⟩ := srch_exists n (before n a b) (before_mono ha hb)
    exact ⟨_, .inr ⟨q, a, b, hq, ha, hb, e1, e2, r, hr, rfl⟩⟩

theorem ray_det {n : Nat} {dx dy p1 p2 : Int} (h1 : 1 ≤ n) (r1 : RayIs n dx dy p1) (r2 : RayIs n dx dy p2) : p1 = p2 := by
  by_cases h : dx = 0 ∧ dy = 0
  · obtain ⟨rfl, rfl⟩ := h
    have key : ∀ p, RayIs n 0 0 p → p = 0 := by
      rintro p (⟨_, _, e⟩ | ⟨q, a, b, hq, ha, hb, e1, e2, _⟩)
      · exact e
      · exfalso
        have hq' : q = 0 ∨ q = 1 ∨ q = 2 ∨ q = 3 := by omega
        rcases hq' with rfl | rfl | rfl | rfl <;> simp [rotX, rotY] at e1 e2 <;> omega
    rw [key p1 r1, key p2 r2]
  · obtain ⟨hb, hu⟩ := sec_unique h1 h r1
    obtain ⟨hb2, hu2⟩ := sec_unique h1 h r2
    exact (hu2 p1 hb.1 hb.2).1 ((hu p1 hb.1 hb.2).2 rfl)

theorem Find_in (nm : ByteArray) (x y z : Int) (n g : Nat) (step width t ax ay dx dy : Int) (hx : ax - x = dx) (hy : ay - y = dy) (r : Nat) (hr : SrchIs (g + 1) (inside (dx * dx + dy * dy) (bordI step t)) r) (w : World) (hs : nm.size ≤ maxLen) (h0 : siteC nm x y z n g step width = 0) (hk : SiteOk x y z n g step width) (c0 : inB t 0 256 = true) (c1 : inB ax (-4194304) 4194304 = true) (c2 : inB ay (-4194304) 4194304 = true) (hin : r ≤ g) (h1 : 1 ≤ n) (pr : Int) (hpr : RayIs n dx dy pr) :
    Calls Try.prog 38 #[.agg #[.string nm, .int .i64 x, .int .i64 y, .int .i64 z, .int .i64 (n : Nat), .int .i64 (g : Nat), .int .i64 step, .int .i64 width], .int .i64 t, .int .i64 ax, .int .i64 ay] w fun e w' => e = .returned (.tuple #[.int .i64 pr, .int .i64 ((r : Int) - 1), .int .i64 0]) ∧ Below w.heap.size w w' := by
  refine (Find_ok nm x y z n g step width t ax ay w hs h0 hk c0 c1 c2).mono ?_
  rintro e w' ⟨ray, gate, ee, ⟨ok, ⟨r2, hr2, hcase⟩, rfl⟩, rfl, hb⟩
  rw [hx, hy] at hr2
  obtain rfl := srch_det hr hr2
  rcases hcase with ⟨e1, _⟩ | ⟨_, rfl, rfl, hray⟩
  · omega
  · rw [hx, hy] at hray
    obtain rfl := ray_det h1 hpr hray
    exact ⟨rfl, hb⟩

theorem Find_out (nm : ByteArray) (x y z : Int) (n g : Nat) (step width t ax ay dx dy : Int) (hx : ax - x = dx) (hy : ay - y = dy) (r : Nat) (hr : SrchIs (g + 1) (inside (dx * dx + dy * dy) (bordI step t)) r) (w : World) (hs : nm.size ≤ maxLen) (h0 : siteC nm x y z n g step width = 0) (hk : SiteOk x y z n g step width) (c0 : inB t 0 256 = true) (c1 : inB ax (-4194304) 4194304 = true) (c2 : inB ay (-4194304) 4194304 = true) (hin : r = g + 1) :
    Calls Try.prog 38 #[.agg #[.string nm, .int .i64 x, .int .i64 y, .int .i64 z, .int .i64 (n : Nat), .int .i64 (g : Nat), .int .i64 step, .int .i64 width], .int .i64 t, .int .i64 ax, .int .i64 ay] w fun e w' => e = .returned (.tuple #[.int .i64 0, .int .i64 0, .int .i64 29]) ∧ Below w.heap.size w w' := by
  refine (Find_ok nm x y z n g step width t ax ay w hs h0 hk c0 c1 c2).mono ?_
  rintro e w' ⟨ray, gate, ee, ⟨ok, ⟨r2, hr2, hcase⟩, rfl⟩, rfl, hb⟩
  rw [hx, hy] at hr2
  obtain rfl := srch_det hr hr2
  rcases hcase with ⟨_, rfl, rfl, rfl⟩ | ⟨e1, _⟩
  · exact ⟨rfl, hb⟩
  · omega

/-- the border test of a gate, and the search -/
theorem gate_test {g r j : Nat} {sq step t : Int} (h : SrchIs (g + 1) (inside sq (bordI step t)) r) (hj : j < g) :
    (bordI step t j * bordI step t j ≤ sq ∧ sq < bordI step t (j + 1) * bordI step t (j + 1)) ↔ j + 1 = r := by
  obtain ⟨h1, h2, h3⟩ := h
  have e1 : bordI step t j * bordI step t j ≤ sq ↔ inside sq (bordI step t) j = false := by unfold inside; rw [decide_eq_false_iff_not]; omega
  have e2 : sq < bordI step t (j + 1) * bordI step t (j + 1) ↔ inside sq (bordI step t) (j + 1) = true := by unfold inside; rw [decide_eq_true_iff]
  rw [e1, e2]
  constructor
  · rintro ⟨a, b⟩
    by_cases c : j + 1 = r
    · exact c
    · exfalso
      by_cases c2 : r ≤ j
      · rw [h3 j c2 (by omega)] at a; cases a
      · rw [h2 (j + 1) (by omega)] at b; cases b
  · intro e
    exact ⟨h2 j (by omega), h3 (j + 1) (by omega) (by omega)⟩

theorem srch_one {g r : Nat} {sq step t : Int} (hsq : 0 ≤ sq) (h : SrchIs (g + 1) (inside sq (bordI step t)) r) : 1 ≤ r := by
  by_cases e : 1 ≤ r
  · exact e
  · exfalso
    have := h.2.2 0 (by omega) (by omega)
    unfold inside at this
    rw [decide_eq_true_iff] at this
    have e0 : bordI step t 0 = 0 := by unfold bordI; simp
    rw [e0] at this
    omega

theorem srch_zero {g r : Nat} {step t : Int} (hg : 1 ≤ g) (h1 : 0 ≤ t) (h2 : t ≤ 256) (s1 : 50 ≤ step) (h : SrchIs (g + 1) (inside (0 * 0 + 0 * 0) (bordI step t)) r) : r = 1 := by
  have a := srch_one (by decide) h
  by_cases e : r = 1
  · exact e
  · exfalso
    have h3 := h.2.1 1 (by omega)
    unfold inside at h3
    rw [decide_eq_false_iff_not] at h3
    apply h3
    have tt := M.sq_nonneg t
    have t2 := (M.sq_bd (a := t) (A := 256) (by omega) h2).2
    have hb : 1 ≤ bordI step t 1 := by
      unfold bordI
      apply Int.le_ediv_of_mul_le (by omega)
      have := Int.mul_le_mul (show (50 : Int) ≤ ((1 : Nat) : Int) * step by omega) (show (196608 : Int) ≤ 262144 - t * t by omega) (by omega) (by omega)
      omega
    have := Int.mul_pos (show 0 < bordI step t 1 by omega) (show 0 < bordI step t 1 by omega)
    simpa using this

end Go.Proofs.Ythnjfnapjpdchaa
