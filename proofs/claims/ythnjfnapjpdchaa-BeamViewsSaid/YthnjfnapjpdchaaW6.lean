/-
  Plain lemmas: a place is in the sector of exactly one ray, and a quarter turn is a quarter of the rays further.
-/
import Derived.Test.YthnjfnapjpdchaaW4
namespace Go.Proofs.Ythnjfnapjpdchaa
set_option linter.unusedVariables false

/-- a vector is in the sector of a ray -/
def SecP (n d dx dy : Int) : Prop := 0 ≤ dirY n d * dx - dirX n d * dy ∧ 0 < dy * dirX n ((d + 1) % (4 * n)) - dx * dirY n ((d + 1) % (4 * n))

/-- the direction that ends a sector, seen from its quarter -/
def endX (n k : Int) : Int := if k + 1 < n then 2 * n * (k + 1) else n * n
def endY (n k : Int) : Int := if k + 1 < n then n * n - (k + 1) * (k + 1) else 0

theorem base_pos {P R E F u v : Int} (hP : 0 < P) (hR : 0 ≤ R) (hF : 0 ≤ F) (hD : 0 < P * E - R * F) (hE : 0 ≤ E) (h1 : 0 ≤ P * u - R * v) (h2 : 0 < v * E - u * F) : 0 ≤ u ∧ 0 < v := by
  have e1 : u * (P * E - R * F) = E * (P * u - R * v) + R * (v * E - u * F) := by
    rw [Int.mul_sub, Int.mul_sub, Int.mul_sub, Int.mul_left_comm u P E, Int.mul_left_comm u R F, Int.mul_left_comm E P u, Int.mul_left_comm E R v, Int.mul_comm E u, Int.mul_comm E v]; omega
  have e2 : v * (P * E - R * F) = P * (v * E - u * F) + F * (P * u - R * v) := by
    rw [Int.mul_sub, Int.mul_sub, Int.mul_sub, Int.mul_left_comm v P E, Int.mul_left_comm v R F, Int.mul_left_comm F P u, Int.mul_left_comm F R v, Int.mul_comm F u, Int.mul_comm F v]; omega
  have a1 := Int.mul_nonneg hE h1
  have a2 := Int.mul_nonneg hR (Int.le_of_lt h2)
  have a3 := Int.mul_pos hP h2
  have a4 := Int.mul_nonneg hF h1
  constructor
  · by_cases h : 0 ≤ u
    · exact h
    · have := Int.mul_neg_of_neg_of_pos (show u < 0 by omega) hD
      omega
  · by_cases h : 0 < v
    · exact h
    · have := Int.mul_nonpos_of_nonpos_of_nonneg (show v ≤ 0 by omega) (Int.le_of_lt hD)
      omega

theorem end_facts {n k : Int} (h0 : 0 ≤ k) (h1 : k < n) : 0 < n * n - k * k ∧ 0 ≤ 2 * n * k ∧ 0 ≤ endY n k ∧ 0 < (n * n - k * k) * endX n k - (2 * n * k) * endY n k ∧ 0 ≤ endX n k := by
  have p1 := M.sq_lt h0 h1
  have p2 : 0 ≤ 2 * n * k := Int.mul_nonneg (by omega) h0
  have p3 : 0 < n * n := Int.mul_pos (by omega) (by omega)
  unfold endX endY
  by_cases h : k + 1 < n
  · rw [if_pos h, if_pos h]
    have p4 := M.sq_lt (n := n) (k := k + 1) (by omega) h
    exact ⟨p1, p2, by omega, M.next_in h0 h1, Int.mul_nonneg (by omega) (by omega)⟩
  · rw [if_neg h, if_neg h]
    have := Int.mul_pos p1 p3
    exact ⟨p1, p2, by omega, by rw [Int.mul_zero]; omega, by omega⟩

/-- the next direction, by quarters -/
theorem next_eq {n k : Int} {q : Nat} (hq : q ≤ 3) (h0 : 0 ≤ k) (h1 : k < n) :
    dirX n ((q * n + k + 1) % (4 * n)) = rotX q (endX n k) (endY n k) ∧ dirY n ((q * n + k + 1) % (4 * n)) = rotY q (endX n k) (endY n k) := by
  have hq' : q = 0 ∨ q = 1 ∨ q = 2 ∨ q = 3 := by omega
  by_cases hk : k + 1 < n
  · have ex : endX n k = 2 * n * (k + 1) := by unfold endX; rw [if_pos hk]
    have ey : endY n k = n * n - (k + 1) * (k + 1) := by unfold endY; rw [if_pos hk]
    rw [ex, ey]
    have e : ((q : Int) * n + k + 1) % (4 * n) = q * n + (k + 1) := by
      rw [M.emod_small (by rcases hq' with rfl | rfl | rfl | rfl <;> omega) (by rcases hq' with rfl | rfl | rfl | rfl <;> omega)]; omega
    rw [e]
    obtain ⟨g1, g2, _⟩ := dir_eq (n := n) (q := q) (k := k + 1) (by omega) hk
    rw [g1, g2]
    rcases hq' with rfl | rfl | rfl | rfl <;> simp [M.dx, M.dy, rotX, rotY]
  · have hk' : k = n - 1 := by omega
    have ex : endX n k = n * n := by unfold endX; rw [if_neg hk]
    have ey : endY n k = 0 := by unfold endY; rw [if_neg hk]
    rw [ex, ey]
    rcases hq' with rfl | rfl | rfl | rfl
    · rw [M.emod_small (by omega) (by omega), show (((0 : Nat) : Int) * n + k + 1 : Int) = 1 * n + 0 by omega]
      obtain ⟨g1, g2, _⟩ := dir_eq (n := n) (q := 1) (k := 0) (by omega) (by omega)
      rw [g1, g2]; simp [M.dx, M.dy, rotX, rotY]
    · rw [M.emod_small (by omega) (by omega), show (((1 : Nat) : Int) * n + k + 1 : Int) = 2 * n + 0 by omega]
      obtain ⟨g1, g2, _⟩ := dir_eq (n := n) (q := 2) (k := 0) (by omega) (by omega)
      rw [g1, g2]; simp [M.dx, M.dy, rotX, rotY]
    · rw [M.emod_small (by omega) (by omega), show (((2 : Nat) : Int) * n + k + 1 : Int) = 3 * n + 0 by omega]
      obtain ⟨g1, g2, _⟩ := dir_eq (n := n) (q := 3) (k := 0) (by omega) (by omega)
      rw [g1, g2]; simp [M.dx, M.dy, rotX, rotY]
    · rw [M.emod_wrap (by omega) (by omega), show (((3 : Nat) : Int) * n + k + 1 - 4 * n : Int) = 0 * n + 0 by omega]
      obtain ⟨g1, g2, _⟩ := dir_eq (n := n) (q := 0) (k := 0) (by omega) (by omega)
      rw [g1, g2]; simp [M.dx, M.dy, rotX, rotY]

theorem cross_rot (q : Nat) (hq : q ≤ 3) (a b u v : Int) : rotY q a b * rotX q u v - rotX q a b * rotY q u v = b * u - a * v := by
  have hq' : q = 0 ∨ q = 1 ∨ q = 2 ∨ q = 3 := by omega
  rcases hq' with rfl | rfl | rfl | rfl <;> simp [rotX, rotY, Int.neg_mul, Int.mul_neg] <;> omega

theorem dir_rot {n k : Int} {q : Nat} (hq : q ≤ 3) (h0 : 0 ≤ k) (h1 : k < n) : dirX n (q * n + k) = rotX q (2 * n * k) (n * n - k * k) ∧ dirY n (q * n + k) = rotY q (2 * n * k) (n * n - k * k) := by
  have hq' : q = 0 ∨ q = 1 ∨ q = 2 ∨ q = 3 := by omega
  obtain ⟨g1, g2, _⟩ := dir_eq (n := n) (q := q) h0 h1
  rw [g1, g2]
  rcases hq' with rfl | rfl | rfl | rfl <;> simp [M.dx, M.dy, rotX, rotY]

theorem secP_base {n k : Int} {q : Nat} (hq : q ≤ 3) (h0 : 0 ≤ k) (h1 : k < n) (u v : Int) :
    SecP n (q * n + k) (rotX q u v) (rotY q u v) ↔ 0 ≤ (n * n - k * k) * u - (2 * n * k) * v ∧ 0 < v * endX n k - u * endY n k := by
  unfold SecP
  obtain ⟨d1, d2⟩ := dir_rot hq h0 h1
  obtain ⟨e1, e2⟩ := next_eq hq h0 h1
  rw [d1, d2, e1, e2, cross_rot q hq, cross_rot q hq]

theorem rot_unique {q q' : Nat} {a b u v : Int} (hq : q ≤ 3) (hq' : q' ≤ 3) (ha : 0 ≤ a) (hb : 0 < b) (hu : 0 ≤ u) (hv : 0 < v) (h1 : rotX q a b = rotX q' u v) (h2 : rotY q a b = rotY q' u v) : q = q' ∧ a = u ∧ b = v := by
  have e1 : q = 0 ∨ q = 1 ∨ q = 2 ∨ q = 3 := by omega
  have e2 : q' = 0 ∨ q' = 1 ∨ q' = 2 ∨ q' = 3 := by omega
  rcases e1 with rfl | rfl | rfl | rfl <;> rcases e2 with rfl | rfl | rfl | rfl <;> simp [rotX, rotY] at h1 h2 <;> first | omega | (refine ⟨rfl, ?_, ?_⟩ <;> omega)

theorem rot_back (q : Nat) (hq : q ≤ 3) (dx dy : Int) : ∃ u v : Int, dx = rotX q u v ∧ dy = rotY q u v := by
  have e1 : q = 0 ∨ q = 1 ∨ q = 2 ∨ q = 3 := by omega
  rcases e1 with rfl | rfl | rfl | rfl
  · exact ⟨dx, dy, rfl, rfl⟩
  · exact ⟨-dy, dx, by simp [rotX], by simp [rotY]⟩
  · exact ⟨-dx, -dy, by simp [rotX], by simp [rotY]⟩
  · exact ⟨dy, -dx, by simp [rotX], by simp [rotY]⟩

theorem before_iff {n k : Nat} {a b : Int} (h : k < n) : before n a b k = true ↔ ¬ (0 ≤ ((n : Int) * n - (k : Int) * k) * a - (2 * n * k) * b) := by
  unfold before
  obtain ⟨e1, e2⟩ := dir_first (n := n) (k := k) (Int.natCast_nonneg _) (by omega)
  rw [decide_eq_true_iff, e1, e2]; omega

theorem srch_pos {n r : Nat} {a b : Int} (h1 : 1 ≤ n) (ha : 0 ≤ a) (h : SrchIs n (before n a b) r) : 1 ≤ r := by
  by_cases e : 1 ≤ r
  · exact e
  · exfalso
    have := (before_iff (a := a) (b := b) (show 0 < n by omega)).1 (h.2.2 0 (by omega) (by omega))
    apply this
    simp
    exact Int.mul_nonneg (Int.mul_nonneg (by omega) (by omega)) ha

/-- in the quarter: the sector is the one that the search found -/
theorem sec_quarter {n r k : Nat} {a b : Int} (hk : k < n) (ha : 0 ≤ a) (hb : 0 < b) (h : SrchIs n (before n a b) r) :
    (0 ≤ ((n : Int) * n - (k : Int) * k) * a - (2 * n * k) * b ∧ 0 < b * endX n k - a * endY n k) ↔ k + 1 = r := by
  have c2 : 0 < b * endX n k - a * endY n k ↔ (k + 1 < n → before n a b (k + 1) = true) := by
    unfold endX endY
    by_cases hk2 : ((k : Int) + 1 < n)
    · have hk3 : k + 1 < n := by omega
      rw [if_pos hk2, if_pos hk2]
      have := before_iff (a := a) (b := b) hk3
      have e : ((k + 1 : Nat) : Int) = (k : Int) + 1 := by omega
      rw [e] at this
      rw [Int.mul_comm b, Int.mul_comm a]
      constructor
      · intro hh _; rw [this]; omega
      · intro hh; have := this.1 (hh hk3); omega
    · rw [if_neg hk2, if_neg hk2]
      constructor
      · intro _ h3; omega
      · intro _
        have := Int.mul_pos hb (Int.mul_pos (show 0 < (n : Int) by omega) (show 0 < (n : Int) by omega))
        rw [Int.mul_zero]; omega
  have c1 := before_iff (a := a) (b := b) hk
  rw [c2]
  obtain ⟨r1, r2, r3⟩ := h
  constructor
  · rintro ⟨h1, h2⟩
    have nb : ¬ before n a b k = true := fun h => (c1.1 h) h1
    have kr : k < r := by
      by_cases e : k < r
      · exact e
      · exact absurd (r3 k (by omega) hk) nb
    by_cases e : k + 1 = r
    · exact e
    · exfalso
      have := h2 (by omega)
      rw [r2 (k + 1) (by omega)] at this
      cases this
  · intro e
    refine ⟨?_, fun h2 => r3 (k + 1) (by omega) h2⟩
    have := r2 k (by omega)
    by_cases h3 : 0 ≤ ((n : Int) * n - (k : Int) * k) * a - (2 * n * k) * b
    · exact h3
    · rw [c1.2 h3] at this; cases this

/-- exactly one ray -/
theorem sec_unique {n : Nat} {dx dy ray : Int} (h1 : 1 ≤ n) (hne : ¬ (dx = 0 ∧ dy = 0)) (hr : RayIs n dx dy ray) : (0 ≤ ray ∧ ray < 4 * n) ∧ ∀ d : Int, 0 ≤ d → d < 4 * n → (SecP n d dx dy ↔ d = ray) := by
  rcases hr with ⟨e1, e2, _⟩ | ⟨q, a, b, hq, ha, hb, rfl, rfl, r, hs, hray⟩
  · exact absurd ⟨e1, e2⟩ hne
  have rp := srch_pos h1 ha hs
  have rn := hs.1
  have hq' : q = 0 ∨ q = 1 ∨ q = 2 ∨ q = 3 := by omega
  refine ⟨by rcases hq' with rfl | rfl | rfl | rfl <;> omega, fun d d0 d1 => ?_⟩
  obtain ⟨q2, k, hq2, k0, k1, hd⟩ := decomp (n := n) (d := d) (by omega) d0 d1
  obtain ⟨Q, rfl⟩ := Int.eq_ofNat_of_zero_le (show 0 ≤ q2 by omega)
  obtain ⟨k, rfl⟩ := Int.eq_ofNat_of_zero_le k0
  have hQ : Q ≤ 3 := by omega
  obtain ⟨u, v, eu, ev⟩ := rot_back Q hQ (rotX q a b) (rotY q a b)
  rw [hd]
  constructor
  · intro h
    rw [eu, ev, secP_base hQ k0 k1] at h
    obtain ⟨f1, f2, f3, f4, f5⟩ := end_facts k0 k1
    obtain ⟨hu, hv⟩ := base_pos f1 f2 f3 f4 f5 h.1 h.2
    obtain ⟨rfl, rfl, rfl⟩ := rot_unique hq hQ ha hb hu hv eu ev
    have := (sec_quarter (by omega) ha hb hs).1 h
    omega
  · intro h
    have hkr : Q = q ∧ k + 1 = r := by
      have e : (Q : Int) * n + k = q * n + (r - 1) := by omega
      have a1 := M.divmod (n := n) (q := Q) (k := k) k0 k1
      have a2 := M.divmod (n := n) (q := q) (k := (r : Int) - 1) (by omega) (by omega)
      rw [e] at a1
      omega
    obtain ⟨rfl, hk⟩ := hkr
    rw [secP_base hq k0 k1]
    exact (sec_quarter (by omega) ha hb hs).2 hk

/-- a quarter turn -/
theorem ray_turn {n : Nat} {dx dy ray ray2 : Int} (h1 : 1 ≤ n) (hne : ¬ (dx = 0 ∧ dy = 0)) (hr : RayIs n dx dy ray) (hr2 : RayIs n dy (-dx) ray2) : ray2 = (ray + n) % (4 * n) := by
  rcases hr with ⟨e1, e2, _⟩ | ⟨q, a, b, hq, ha, hb, rfl, rfl, r, hs, hray⟩
  · exact absurd ⟨e1, e2⟩ hne
  rcases hr2 with ⟨e1, e2, _⟩ | ⟨q2, u, v, hq2, hu, hv, eu, ev, r2, hs2, hray2⟩
  · exact absurd ⟨by omega, e1⟩ hne
  have rp := srch_pos h1 ha hs
  have rn := hs.1
  have hq' : q = 0 ∨ q = 1 ∨ q = 2 ∨ q = 3 := by omega
  have key : rotX ((q + 1) % 4) a b = rotY q a b ∧ rotY ((q + 1) % 4) a b = -rotX q a b := by
    rcases hq' with rfl | rfl | rfl | rfl <;> simp [rotX, rotY]
  obtain ⟨hq3, rfl, rfl⟩ := rot_unique (q := (q + 1) % 4) (by omega) hq2 ha hb hu hv (by rw [key.1]; exact eu) (by rw [key.2]; exact ev)
  have hrr : r2 = r := by
    obtain ⟨x1, x2, x3⟩ := hs
    obtain ⟨y1, y2, y3⟩ := hs2
    by_cases h : r2 < r
    · have := x2 r2 h; rw [y3 r2 (Nat.le_refl _) (by omega)] at this; cases this
    · by_cases h3 : r < r2
      · have := y2 r h3; rw [x3 r (Nat.le_refl _) (by omega)] at this; cases this
      · omega
  subst hrr
  rcases hq' with rfl | rfl | rfl | rfl
  · subst hq3; rw [M.emod_small (by omega) (by omega)]; simp at hray2; omega
  · subst hq3; rw [M.emod_small (by omega) (by omega)]; simp at hray2; omega
  · subst hq3; rw [M.emod_small (by omega) (by omega)]; simp at hray2; omega
  · subst hq3; rw [M.emod_wrap (by omega) (by omega)]; simp at hray2; omega

end Go.Proofs.Ythnjfnapjpdchaa
