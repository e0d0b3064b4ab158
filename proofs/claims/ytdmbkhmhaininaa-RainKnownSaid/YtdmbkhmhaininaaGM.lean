/-
  Plain mathematics of gauges and of the scales that suit pairs.
-/
import Derived.Test.YtdmbkhmhaininaaM
namespace Go.Proofs.Ytdmbkhmhaininaa
set_option linter.unusedVariables false

/-- a pair: its sum, and its gauge -/
structure Pr where
  s1 : Int
  s2 : Int
  ti : Int
  sz : Int
/-- what fell, where the gauge is valid -/
def gL (p : Pr) : Int := max 0 ((p.ti - 1) * p.sz + 1)
def gH (p : Pr) : Int := (p.ti + 1) * p.sz - 1
def prE (p : Pr) : Int := if spanB p.s1 p.s2 0 2147483648 && (inB p.ti 0 1000000 && inB p.sz 1 10000) then 0 else 3
def adjC (n : Nat) (ps : Nat → Pr) : Int := if n = 0 then 18 else if 100 < n then 9 else firstE (fun j => prE (ps j)) n
structure PrOk (p : Pr) : Prop where
  a1 : 0 ≤ p.s1
  a2 : p.s1 ≤ p.s2
  a3 : p.s2 ≤ 2147483648
  b1 : 0 ≤ p.ti
  b2 : p.ti ≤ 1000000
  c1 : 1 ≤ p.sz
  c2 : p.sz ≤ 10000
theorem prE_ok {p : Pr} (h : prE p = 0) : PrOk p := by
  unfold prE at h
  cases h1 : spanB p.s1 p.s2 0 2147483648 <;> cases h2 : inB p.ti 0 1000000 <;> cases h3 : inB p.sz 1 10000 <;> simp [h1, h2, h3] at h
  have a := spanB_true.1 h1
  have b := inB_true.1 h2
  have c := inB_true.1 h3
  exact ⟨a.1, a.2.1, a.2.2, b.1, b.2, c.1, c.2⟩
theorem PrOk.g {p : Pr} (h : PrOk p) : 0 ≤ gL p ∧ gL p ≤ gH p ∧ gH p ≤ 10000010000 := by
  have a := mul_bd (a := p.ti + 1) (b := p.sz) (A := 1000001) (B := 10000) (by have := h.b1; omega) (by have := h.b2; omega) (by have := h.c1; omega) h.c2
  have e : (p.ti + 1) * p.sz = p.ti * p.sz + p.sz := by rw [Int.add_mul, Int.one_mul]
  have f : (p.ti - 1) * p.sz = p.ti * p.sz - p.sz := by rw [Int.sub_mul, Int.one_mul]
  have c := h.c1
  have d := Int.mul_nonneg h.b1 (show 0 ≤ p.sz by omega)
  unfold gL gH
  omega
/-- the first scale with which the sum is enough, and the last one with which it is not too much -/
def rLo (p : Pr) : Int := if 0 < p.s2 then max 1 (cdiv (1000 * gL p) p.s2) else if 0 < gL p then 100001 else 1
def rHi (p : Pr) : Int := if 0 < p.s1 then min 100000 (1000 * gH p / p.s1) else 100000
def cLo (p : Pr) : Int := min 100001 (rLo p)
theorem cdiv_le {a b f : Int} (hb : 1 ≤ b) : cdiv a b ≤ f ↔ a ≤ b * f := by
  unfold cdiv
  constructor
  · intro h
    have h1 : -f ≤ (-a) / b := by omega
    have h2 := Int.ediv_mul_le (-a) (b := b) (by omega)
    have h3 : (-f) * b ≤ (-a) / b * b := Int.mul_le_mul_of_nonneg_right h1 (by omega)
    rw [Int.neg_mul, Int.mul_comm f b] at h3
    omega
  · intro h
    have h1 : (-f) * b ≤ -a := by rw [Int.neg_mul, Int.mul_comm f b]; omega
    have h2 := Int.le_ediv_of_mul_le (c := b) (by omega) h1
    omega
theorem lo_iff {p : Pr} (h : PrOk p) {f : Int} (f1 : 1 ≤ f) (f2 : f ≤ 100000) : 1000 * gL p ≤ p.s2 * f ↔ rLo p ≤ f := by
  have g := h.g
  unfold rLo
  by_cases h0 : 0 < p.s2
  · rw [if_pos h0, ← cdiv_le (a := 1000 * gL p) (f := f) (show 1 ≤ p.s2 by omega)]; omega
  · rw [if_neg h0, show p.s2 = 0 by have := h.a1; have := h.a2; omega, Int.zero_mul]
    split <;> omega
theorem hi_iff {p : Pr} (h : PrOk p) {f : Int} (f1 : 1 ≤ f) (f2 : f ≤ 100000) : p.s1 * f ≤ 1000 * gH p ↔ f ≤ rHi p := by
  have g := h.g
  unfold rHi
  by_cases h0 : 0 < p.s1
  · rw [if_pos h0]
    have : f ≤ 1000 * gH p / p.s1 ↔ f * p.s1 ≤ 1000 * gH p := Int.le_ediv_iff_mul_le h0
    rw [Int.mul_comm p.s1 f]
    omega
  · rw [if_neg h0, show p.s1 = 0 by have := h.a1; omega, Int.zero_mul]
    omega
theorem lo_ge {p : Pr} : 1 ≤ rLo p := by
  unfold rLo
  split
  · omega
  · split <;> omega
theorem hi_le {p : Pr} : rHi p ≤ 100000 := by
  unfold rHi
  split <;> omega
theorem hi_ge {p : Pr} (h : PrOk p) : 0 ≤ rHi p := by
  have g := h.g
  unfold rHi
  by_cases h0 : 0 < p.s1
  · rw [if_pos h0]
    have := Int.ediv_nonneg (a := 1000 * gH p) (b := p.s1) (by omega) (by omega)
    omega
  · rw [if_neg h0]; omega
theorem lo_big {p : Pr} (h : PrOk p) : rLo p ≤ 10000010000000 := by
  have g := h.g
  unfold rLo
  by_cases h0 : 0 < p.s2
  · rw [if_pos h0]
    have := (cdiv_le (a := 1000 * gL p) (b := p.s2) (f := 10000010000000) (by omega)).2 (by have := Int.mul_le_mul_of_nonneg_right (show 1 ≤ p.s2 by omega) (show (0:Int) ≤ 10000010000000 by decide); omega)
    omega
  · rw [if_neg h0]; split <;> omega
/-- what a search finds -/
theorem find_lo {p : Pr} (h : PrOk p) {r : Nat} (h1 : r ≤ 100000) (h2 : ∀ k, k < r → decide (1000 * gL p ≤ p.s2 * (1 + (k : Int))) = false) (h3 : ∀ k, r ≤ k → k < 100000 → decide (1000 * gL p ≤ p.s2 * (1 + (k : Int))) = true) : 1 + (r : Int) = cLo p := by
  have lg := lo_ge (p := p)
  unfold cLo
  by_cases hr : r < 100000
  · have a := (lo_iff h (f := 1 + (r : Int)) (by omega) (by omega)).1 (of_decide_eq_true (h3 r (Nat.le_refl _) hr))
    by_cases h0 : r = 0
    · omega
    · have b := of_decide_eq_false (h2 (r - 1) (by omega))
      rw [lo_iff h (by omega) (by omega)] at b
      omega
  · have b := of_decide_eq_false (h2 (r - 1) (by omega))
    rw [lo_iff h (by omega) (by omega)] at b
    omega
theorem find_hi {p : Pr} (h : PrOk p) {r : Nat} (h1 : r ≤ 100000) (h2 : ∀ k, k < r → decide (1000 * gH p < p.s1 * (1 + (k : Int))) = false) (h3 : ∀ k, r ≤ k → k < 100000 → decide (1000 * gH p < p.s1 * (1 + (k : Int))) = true) : (r : Int) = rHi p := by
  have lg := hi_le (p := p)
  have lh := hi_ge h
  have up : (r : Int) ≤ rHi p := by
    by_cases h0 : r = 0
    · omega
    · have b := of_decide_eq_false (h2 (r - 1) (by omega))
      have c := (hi_iff h (f := 1 + ((r - 1 : Nat) : Int)) (by omega) (by omega)).1 (by omega)
      omega
  by_cases hr : r < 100000
  · have a := of_decide_eq_true (h3 r (Nat.le_refl _) hr)
    have c : ¬ (1 + (r : Int) ≤ rHi p) := fun hh => by
      have := (hi_iff h (f := 1 + (r : Int)) (by omega) (by omega)).2 hh
      omega
    omega
  · omega
/-- what all have in common -/
def cF (ps : Nat → Pr) : Nat → Int × Int
  | 0 => (1, 100000)
  | k + 1 => (max (cF ps k).1 (cLo (ps k)), min (cF ps k).2 (rHi (ps k)))
def rF (ps : Nat → Pr) : Nat → Int × Int
  | 0 => (1, 100000)
  | k + 1 => (max (rF ps k).1 (rLo (ps k)), min (rF ps k).2 (rHi (ps k)))
theorem cr_F (ps : Nat → Pr) : ∀ k, (cF ps k).1 = min 100001 (rF ps k).1 ∧ (cF ps k).2 = (rF ps k).2 ∧ (rF ps k).2 ≤ 100000 ∧ 1 ≤ (rF ps k).1
  | 0 => by unfold cF rF; dsimp only; omega
  | k + 1 => by
    obtain ⟨a, b, c, d⟩ := cr_F ps k
    unfold cF rF cLo
    dsimp only
    omega
theorem F_iff (ps : Nat → Pr) (k : Nat) : (cF ps k).1 ≤ (cF ps k).2 ↔ (rF ps k).1 ≤ (rF ps k).2 := by
  obtain ⟨a, b, c, d⟩ := cr_F ps k; omega
theorem F_eq {ps : Nat → Pr} {k : Nat} (h : (rF ps k).1 ≤ (rF ps k).2) : cF ps k = rF ps k := by
  obtain ⟨a, b, c, d⟩ := cr_F ps k
  exact Prod.ext (by omega) b
theorem cF_bd {ps : Nat → Pr} (h : ∀ j, PrOk (ps j)) : ∀ k, 1 ≤ (cF ps k).1 ∧ (cF ps k).1 ≤ 100001 ∧ 0 ≤ (cF ps k).2 ∧ (cF ps k).2 ≤ 100000
  | 0 => by unfold cF; dsimp only; omega
  | k + 1 => by
    obtain ⟨a, b, c, d⟩ := cF_bd h k
    have e := hi_ge (h k)
    unfold cF cLo
    dsimp only
    omega
/-- two pairs that contradict each other -/
def badP (p q : Pr) : Bool := decide (min (rHi p) (rHi q) < max (rLo p) (rLo q))
theorem badP_iff {p q : Pr} : badP p q = true ↔ min (rHi p) (rHi q) < max (rLo p) (rLo q) := by unfold badP; rw [decide_eq_true_eq]
theorem badP_comm (p q : Pr) : badP p q = badP q p := by
  unfold badP
  rw [show min (rHi p) (rHi q) = min (rHi q) (rHi p) by omega, show max (rLo p) (rLo q) = max (rLo q) (rLo p) by omega]
theorem bad_two (p q : Pr) : badP p q = decide (min (min 100000 (rHi p)) (rHi q) < max (max 1 (cLo p)) (cLo q)) := by
  have a := lo_ge (p := p)
  have b := lo_ge (p := q)
  have c := hi_le (p := p)
  have d := hi_le (p := q)
  unfold badP cLo
  by_cases h : min (rHi p) (rHi q) < max (rLo p) (rLo q)
  · rw [decide_eq_true h]; exact (decide_eq_true (by omega)).symm
  · rw [decide_eq_false h]; exact (decide_eq_false (by omega)).symm
theorem F_at (ps : Nat → Pr) : ∀ k, ((rF ps k).1 = 1 ∨ ∃ i, i < k ∧ (rF ps k).1 = rLo (ps i)) ∧ ((rF ps k).2 = 100000 ∨ ∃ i, i < k ∧ (rF ps k).2 = rHi (ps i))
  | 0 => ⟨.inl rfl, .inl rfl⟩
  | k + 1 => by
    obtain ⟨a, b⟩ := F_at ps k
    have e1 : (rF ps (k + 1)).1 = max (rF ps k).1 (rLo (ps k)) := rfl
    have e2 : (rF ps (k + 1)).2 = min (rF ps k).2 (rHi (ps k)) := rfl
    rw [e1, e2]
    constructor
    · by_cases h : (rF ps k).1 ≤ rLo (ps k)
      · exact .inr ⟨k, by omega, by omega⟩
      · rcases a with a | ⟨i, hi, a⟩
        · exact .inl (by omega)
        · exact .inr ⟨i, by omega, by omega⟩
    · by_cases h : rHi (ps k) ≤ (rF ps k).2
      · exact .inr ⟨k, by omega, by omega⟩
      · rcases b with b | ⟨i, hi, b⟩
        · exact .inl (by omega)
        · exact .inr ⟨i, by omega, by omega⟩
theorem F_in (ps : Nat → Pr) : ∀ k j, j < k → rLo (ps j) ≤ (rF ps k).1 ∧ (rF ps k).2 ≤ rHi (ps j)
  | 0, j, h => by omega
  | k + 1, j, h => by
    have e1 : (rF ps (k + 1)).1 = max (rF ps k).1 (rLo (ps k)) := rfl
    have e2 : (rF ps (k + 1)).2 = min (rF ps k).2 (rHi (ps k)) := rfl
    rw [e1, e2]
    by_cases e : j = k
    · subst e; omega
    · have := F_in ps k j (by omega); omega
/-- where nothing suits all, two contradict each other -/
theorem helly {n : Nat} {ps : Nat → Pr} (h : ¬ (rF ps n).1 ≤ (rF ps n).2) : ∃ i j, i ≤ j ∧ j < n ∧ badP (ps i) (ps j) = true := by
  obtain ⟨a, b⟩ := F_at ps n
  have key : ∀ i j, i < n → j < n → rHi (ps j) < rLo (ps i) → ∃ i j, i ≤ j ∧ j < n ∧ badP (ps i) (ps j) = true := fun i j hi hj hh => by
    by_cases hij : i ≤ j
    · exact ⟨i, j, hij, hj, badP_iff.2 (by omega)⟩
    · exact ⟨j, i, by omega, hi, badP_iff.2 (by omega)⟩
  rcases a with a | ⟨i, hi, a⟩ <;> rcases b with b | ⟨j, hj, b⟩
  · omega
  · exact key j j hj hj (by have := lo_ge (p := ps j); omega)
  · exact key i i hi hi (by have := hi_le (p := ps i); omega)
  · exact key i j hi hj (by omega)
theorem bad_conf {n : Nat} {ps : Nat → Pr} {i j : Nat} (hi : i < n) (hj : j < n) (h : badP (ps i) (ps j) = true) : ¬ (rF ps n).1 ≤ (rF ps n).2 := by
  have a := F_in ps n i hi
  have b := F_in ps n j hj
  have c := badP_iff.1 h
  omega
/-- the first two that contradict each other -/
structure FirstBad (n : Nat) (ps : Nat → Pr) (i j : Nat) : Prop where
  ij : i ≤ j
  jn : j < n
  bad : badP (ps i) (ps j) = true
  row : ∀ b, i ≤ b → b < j → badP (ps i) (ps b) = false
  rows : ∀ a b, a < i → a ≤ b → b < n → badP (ps a) (ps b) = false
theorem FirstBad.uniq {n : Nat} {ps : Nat → Pr} {i j i2 j2 : Nat} (h : FirstBad n ps i j) (g : FirstBad n ps i2 j2) : i = i2 ∧ j = j2 := by
  have e : i = i2 := by
    rcases Nat.lt_trichotomy i i2 with x | x | x
    · have := g.rows i j x h.ij h.jn; rw [h.bad] at this; cases this
    · exact x
    · have := h.rows i2 j2 x g.ij g.jn; rw [g.bad] at this; cases this
  subst e
  refine ⟨rfl, ?_⟩
  rcases Nat.lt_trichotomy j j2 with x | x | x
  · have := g.row j h.ij x; rw [h.bad] at this; cases this
  · exact x
  · have := h.row j2 g.ij x; rw [g.bad] at this; cases this
/-- a scale that suits -/
def suB (p : Pr) (f : Int) : Bool := decide (p.s1 * f ≤ 1000 * gH p) && decide (1000 * gL p ≤ p.s2 * f)
theorem su_iff {p : Pr} (h : PrOk p) {f : Int} (f1 : 1 ≤ f) (f2 : f ≤ 100000) : suB p f = true ↔ rLo p ≤ f ∧ f ≤ rHi p := by
  unfold suB
  rw [Bool.and_eq_true, decide_eq_true_eq, decide_eq_true_eq, lo_iff h f1 f2, hi_iff h f1 f2]
  exact and_comm
theorem su_all {n : Nat} {ps : Nat → Pr} (h : ∀ j, j < n → PrOk (ps j)) {f : Int} (f1 : 1 ≤ f) (f2 : f ≤ 100000) (hs : ∀ j, j < n → suB (ps j) f = true) : (rF ps n).1 ≤ f ∧ f ≤ (rF ps n).2 := by
  obtain ⟨a, b⟩ := F_at ps n
  constructor
  · rcases a with a | ⟨i, hi, a⟩
    · omega
    · have := (su_iff (h i hi) f1 f2).1 (hs i hi); omega
  · rcases b with b | ⟨i, hi, b⟩
    · omega
    · have := (su_iff (h i hi) f1 f2).1 (hs i hi); omega
theorem su_of {n : Nat} {ps : Nat → Pr} (h : ∀ j, j < n → PrOk (ps j)) {f : Int} (f1 : (rF ps n).1 ≤ f) (f2 : f ≤ (rF ps n).2) : ∀ j, j < n → suB (ps j) f = true := fun j hj => by
  have c := cr_F ps n
  have d := F_in ps n j hj
  exact (su_iff (h j hj) (by omega) (by omega)).2 (by omega)
theorem su_bad {p q : Pr} (hp : PrOk p) (hq : PrOk q) (h : badP p q = true) {f : Int} (f1 : 1 ≤ f) (f2 : f ≤ 100000) : ¬ (suB p f = true ∧ suB q f = true) := fun ⟨a, b⟩ => by
  have a := (su_iff hp f1 f2).1 a
  have b := (su_iff hq f1 f2).1 b
  have c := badP_iff.1 h
  omega
/-- without one of them -/
def skipP (ps : Nat → Pr) (k j : Nat) : Pr := if j < k then ps j else ps (j + 1)
theorem skip_in {n : Nat} {ps : Nat → Pr} {k : Nat} (hk : k < n) (h : (rF ps n).1 ≤ (rF ps n).2) : (rF (skipP ps k) (n - 1)).1 ≤ (rF ps n).1 ∧ (rF ps n).2 ≤ (rF (skipP ps k) (n - 1)).2 := by
  obtain ⟨a, b⟩ := F_at (skipP ps k) (n - 1)
  have c := cr_F ps n
  constructor
  · rcases a with a | ⟨i, hi, a⟩
    · omega
    · by_cases e : i < k
      · have s : skipP ps k i = ps i := by unfold skipP; rw [if_pos e]
        rw [s] at a; have := (F_in ps n i (by omega)).1; omega
      · have s : skipP ps k i = ps (i + 1) := by unfold skipP; rw [if_neg e]
        rw [s] at a; have := (F_in ps n (i + 1) (by omega)).1; omega
  · rcases b with b | ⟨i, hi, b⟩
    · omega
    · by_cases e : i < k
      · have s : skipP ps k i = ps i := by unfold skipP; rw [if_pos e]
        rw [s] at b; have := (F_in ps n i (by omega)).2; omega
      · have s : skipP ps k i = ps (i + 1) := by unfold skipP; rw [if_neg e]
        rw [s] at b; have := (F_in ps n (i + 1) (by omega)).2; omega
/-- two alone -/
def twoP (p q : Pr) (j : Nat) : Pr := if j = 0 then p else q
theorem two_first {n : Nat} {ps : Nat → Pr} {i j a b : Nat} (h : FirstBad n ps i j) (g : FirstBad 2 (twoP (ps i) (ps j)) a b) : (a = 0 ∧ b = 1) ∨ (i = j ∧ a = 0 ∧ b = 0) := by
  have h1 := g.jn
  have h2 := g.ij
  have h3 := g.bad
  by_cases e : i = j
  · subst e
    right
    have t : ∀ x, twoP (ps i) (ps i) x = ps i := fun x => by unfold twoP; split <;> rfl
    have : FirstBad 2 (twoP (ps i) (ps i)) 0 0 := ⟨Nat.le_refl _, by decide, by rw [t]; exact h.bad, fun b h1 h2 => by omega, fun a b h1 => by omega⟩
    have := g.uniq this
    exact ⟨rfl, this.1, this.2⟩
  · left
    have r := h.row i (Nat.le_refl _) (by have := h.ij; omega)
    have : FirstBad 2 (twoP (ps i) (ps j)) 0 1 := ⟨by decide, by decide, h.bad, fun b h1 h2 => by
      obtain rfl : b = 0 := by omega
      exact r, fun a b h1 => by omega⟩
    exact g.uniq this

end Go.Proofs.Ytdmbkhmhaininaa
