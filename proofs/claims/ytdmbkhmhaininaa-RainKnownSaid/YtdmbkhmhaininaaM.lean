/-
  Plain mathematics of layer 5: quotients, tables, values of tables, passages.
-/
import Derived.WalkKit
namespace Go.Proofs.Ytdmbkhmhaininaa
set_option linter.unusedVariables false

/-- is a number between two others? -/
def inB (n a b : Int) : Bool := decide (a ≤ n ∧ n ≤ b)
theorem inB_true {n a b : Int} : inB n a b = true ↔ a ≤ n ∧ n ≤ b := by unfold inB; simp
theorem inB_false {n a b : Int} : inB n a b = false ↔ ¬ (a ≤ n ∧ n ≤ b) := by unfold inB; rw [decide_eq_false_iff_not]
/-- a span that is valid, and within two numbers -/
def spanB (lo hi a b : Int) : Bool := decide (a ≤ lo ∧ lo ≤ hi ∧ hi ≤ b)
theorem spanB_true {lo hi a b : Int} : spanB lo hi a b = true ↔ a ≤ lo ∧ lo ≤ hi ∧ hi ≤ b := by unfold spanB; simp
theorem spanB_false {lo hi a b : Int} : spanB lo hi a b = false ↔ ¬ (a ≤ lo ∧ lo ≤ hi ∧ hi ≤ b) := by unfold spanB; rw [decide_eq_false_iff_not]

/-- a quotient, rounded up -/
def cdiv (a b : Int) : Int := -((-a) / b)
theorem cdiv_eq {a b : Int} (hb : 1 ≤ b) : (a + b - 1) / b = cdiv a b := by
  unfold cdiv
  have h1 := Int.emod_nonneg (-a) (b := b) (by omega)
  have h2 := Int.emod_lt_of_pos (-a) (b := b) (by omega)
  have h3 := Int.emod_add_mul_ediv (-a) b
  refine ((Int.ediv_emod_unique (r := b - 1 - (-a) % b) (by omega)).2 ⟨?_, by omega, by omega⟩).1
  rw [Int.mul_neg]; omega
theorem floor_bd {a b q : Int} (hb : 1 ≤ b) (h0 : 0 ≤ a) (h : a ≤ q * b) : 0 ≤ a / b ∧ a / b ≤ q := by
  refine ⟨Int.ediv_nonneg h0 (by omega), ?_⟩
  have := Int.ediv_le_ediv (c := b) (by omega) h
  rwa [Int.mul_ediv_cancel _ (by omega)] at this
theorem cdiv_bd {a b q : Int} (hb : 1 ≤ b) (h0 : 0 ≤ a) (h : a ≤ q * b) : 0 ≤ cdiv a b ∧ cdiv a b ≤ q := by
  unfold cdiv
  have h1 : -q ≤ (-a) / b := by
    have := Int.ediv_le_ediv (c := b) (a := (-q) * b) (b := -a) (by omega) (by rw [Int.neg_mul]; omega)
    rwa [Int.mul_ediv_cancel _ (by omega)] at this
  have h2 : (-a) / b ≤ 0 := by
    have := Int.ediv_le_ediv (c := b) (a := -a) (b := 0) (by omega) (by omega)
    rwa [Int.zero_ediv] at this
  omega
theorem floor_le_cdiv {a b : Int} (hb : 1 ≤ b) : a / b ≤ cdiv a b := by
  rw [← cdiv_eq hb]
  exact Int.ediv_le_ediv (by omega) (by omega)
theorem cdiv_pos {a b : Int} (hb : 1 ≤ b) (h0 : 1 ≤ a) : 1 ≤ cdiv a b := by
  unfold cdiv
  have h2 : (-a) / b < 0 := Int.ediv_neg_of_neg_of_pos (by omega) (by omega)
  omega
theorem mul_bd {a b A B : Int} (h1 : 0 ≤ a) (h2 : a ≤ A) (h3 : 0 ≤ b) (h4 : b ≤ B) : 0 ≤ a * b ∧ a * b ≤ A * B :=
  ⟨Int.mul_nonneg h1 h3, Int.mul_le_mul h2 h4 h3 (by omega)⟩
theorem cdiv_mono {a b c : Int} (hc : 1 ≤ c) (h : a ≤ b) : cdiv a c ≤ cdiv b c := by
  rw [← cdiv_eq hc, ← cdiv_eq hc]; exact Int.ediv_le_ediv (by omega) (by omega)

/-- the first error of some elements -/
def firstE (g : Nat → Int) : Nat → Int
  | 0 => 0
  | n + 1 => if firstE g n = 0 then g n else firstE g n
theorem firstE_next {g : Nat → Int} {k : Nat} (h0 : firstE g k = 0) : firstE g (k + 1) = g k := by show (if firstE g k = 0 then g k else firstE g k) = g k; rw [if_pos h0]
theorem firstE_keep {g : Nat → Int} {k : Nat} (h0 : firstE g k ≠ 0) : ∀ d, firstE g (k + d) = firstE g k
  | 0 => rfl
  | d + 1 => by
    show (if firstE g (k + d) = 0 then g (k + d) else firstE g (k + d)) = firstE g k
    rw [firstE_keep h0 d, if_neg h0]
theorem firstE_stop {g : Nat → Int} {k n : Nat} (hk : k < n) (h0 : firstE g k = 0) (he : g k ≠ 0) : firstE g n = g k := by
  have h1 := firstE_next h0
  have h2 := firstE_keep (g := g) (k := k + 1) (by rw [h1]; exact he) (n - (k + 1))
  rw [show k + 1 + (n - (k + 1)) = n by omega, h1] at h2
  exact h2
theorem firstE_all {g : Nat → Int} {n : Nat} (h : firstE g n = 0) : ∀ j, j < n → g j = 0 := by
  induction n with
  | zero => intro j hj; omega
  | succ n ih =>
    intro j hj
    by_cases h0 : firstE g n = 0
    · by_cases e : j = n
      · subst e; rw [← firstE_next h0]; exact h
      · exact ih h0 j (by omega)
    · rw [firstE_keep h0 1] at h; exact absurd h h0
theorem firstE_zero {g : Nat → Int} {n : Nat} (h : ∀ j, j < n → g j = 0) : firstE g n = 0 := by
  induction n with
  | zero => rfl
  | succ n ih => rw [firstE_next (ih (fun j hj => h j (by omega)))]; exact h n (by omega)

/-- a point begins a table, or is beyond the one before it -/
def folB (zs : Nat → Int × Int) : Nat → Bool
  | 0 => (zs 0).1 == 0
  | j + 1 => decide ((zs j).1 < (zs (j + 1)).1) && decide ((zs j).2 ≤ (zs (j + 1)).2)
/-- the error of a point -/
def ptE (zs : Nat → Int × Int) (most : Int) (j : Nat) : Int := if inB (zs j).1 0 1073741824 && inB (zs j).2 0 most then (if folB zs j then 0 else 12) else 3
/-- the error of a table -/
def tabC (n : Nat) (zs : Nat → Int × Int) (most : Int) : Int := if n < 2 then 18 else if 32 < n then 9 else firstE (ptE zs most) n

structure TabOk (n : Nat) (zs : Nat → Int × Int) (most : Int) : Prop where
  n2 : 2 ≤ n
  n32 : n ≤ 32
  z0 : (zs 0).1 = 0
  zb : ∀ j, j < n → 0 ≤ (zs j).1 ∧ (zs j).1 ≤ 1073741824
  rb : ∀ j, j < n → 0 ≤ (zs j).2 ∧ (zs j).2 ≤ most
  asc : ∀ j, j + 1 < n → (zs j).1 < (zs (j + 1)).1 ∧ (zs j).2 ≤ (zs (j + 1)).2
theorem ptE_zero {zs : Nat → Int × Int} {most : Int} {j : Nat} (h : ptE zs most j = 0) : (0 ≤ (zs j).1 ∧ (zs j).1 ≤ 1073741824) ∧ (0 ≤ (zs j).2 ∧ (zs j).2 ≤ most) ∧ folB zs j = true := by
  unfold ptE at h
  cases h1 : inB (zs j).1 0 1073741824 <;> cases h2 : inB (zs j).2 0 most <;> cases h3 : folB zs j <;> simp [h1, h2, h3] at h
  exact ⟨inB_true.1 h1, inB_true.1 h2, rfl⟩
theorem tab_ok {n : Nat} {zs : Nat → Int × Int} {most : Int} (h : tabC n zs most = 0) : TabOk n zs most := by
  unfold tabC at h
  by_cases h1 : n < 2
  · rw [if_pos h1] at h; exact absurd h (by decide)
  rw [if_neg h1] at h
  by_cases h2 : 32 < n
  · rw [if_pos h2] at h; exact absurd h (by decide)
  rw [if_neg h2] at h
  have ha := firstE_all h
  refine ⟨by omega, by omega, ?_, fun j hj => (ptE_zero (ha j hj)).1, fun j hj => (ptE_zero (ha j hj)).2.1, fun j hj => ?_⟩
  · have := (ptE_zero (ha 0 (by omega))).2.2
    exact beq_iff_eq.1 this
  · have := (ptE_zero (ha (j + 1) hj)).2.2
    have h4 : (decide ((zs j).1 < (zs (j + 1)).1) && decide ((zs j).2 ≤ (zs (j + 1)).2)) = true := this
    rw [Bool.and_eq_true, decide_eq_true_eq, decide_eq_true_eq] at h4
    exact h4
theorem TabOk.zmono {n : Nat} {zs : Nat → Int × Int} {most : Int} (h : TabOk n zs most) : ∀ d i, i + d < n → (zs i).1 ≤ (zs (i + d)).1
  | 0, i, _ => Int.le_refl _
  | d + 1, i, hd => by
    have h1 := h.zmono d i (by omega)
    have h2 := (h.asc (i + d) (by omega)).1
    show (zs i).1 ≤ (zs (i + d + 1)).1
    omega
theorem TabOk.rmono {n : Nat} {zs : Nat → Int × Int} {most : Int} (h : TabOk n zs most) : ∀ d i, i + d < n → (zs i).2 ≤ (zs (i + d)).2
  | 0, i, _ => Int.le_refl _
  | d + 1, i, hd => by
    have h1 := h.rmono d i (by omega)
    have h2 := (h.asc (i + d) (by omega)).2
    show (zs i).2 ≤ (zs (i + d + 1)).2
    omega

/-- the piece of a table in which a power is -/
def segF (zs : Nat → Int × Int) (z : Int) : Nat → Nat → Nat
  | 0, i => i
  | m + 1, i => if z < (zs (i + 1)).1 then i else segF zs z m (i + 1)
def seg (n : Nat) (zs : Nat → Int × Int) (z : Int) : Nat := segF zs z (n - 1) 0
structure SegIs (n : Nat) (zs : Nat → Int × Int) (z : Int) (r : Nat) : Prop where
  lt : r + 1 ≤ n
  lo : ∀ j, j < r → (zs (j + 1)).1 ≤ z
  hi : r + 1 < n → z < (zs (r + 1)).1
theorem segF_is {n : Nat} {zs : Nat → Int × Int} {z : Int} : ∀ m i, i + m + 1 = n → (∀ j, j < i → (zs (j + 1)).1 ≤ z) → SegIs n zs z (segF zs z m i)
  | 0, i, hn, hl => ⟨by show i + 1 ≤ n; omega, hl, fun h => by have h : i + 1 < n := h; omega⟩
  | m + 1, i, hn, hl => by
    unfold segF
    by_cases h : z < (zs (i + 1)).1
    · rw [if_pos h]; exact ⟨by omega, hl, fun _ => h⟩
    · rw [if_neg h]
      exact segF_is m (i + 1) (by omega) (fun j hj => by
        by_cases e : j = i
        · subst e; omega
        · exact hl j (by omega))
theorem seg_is {n : Nat} {zs : Nat → Int × Int} {z : Int} (hn : 1 ≤ n) : SegIs n zs z (seg n zs z) := segF_is (n - 1) 0 (by omega) (fun j hj => by omega)
theorem seg_uniq {n : Nat} {zs : Nat → Int × Int} {z : Int} {r s : Nat} (h1 : SegIs n zs z r) (h2 : SegIs n zs z s) : r = s := by
  rcases Nat.lt_trichotomy r s with h | h | h
  · have a := h1.hi (by have := h2.lt; omega)
    have b := h2.lo r h
    omega
  · exact h
  · have a := h2.hi (by have := h1.lt; omega)
    have b := h1.lo s h
    omega
theorem seg_eq {n : Nat} {zs : Nat → Int × Int} {z : Int} {r : Nat} (h : SegIs n zs z r) : seg n zs z = r := seg_uniq (seg_is (by have := h.lt; omega)) h

/-- what a power is worth in a piece -/
def numP (zs : Nat → Int × Int) (z : Int) (i : Nat) : Int := ((zs (i + 1)).2 - (zs i).2) * (z - (zs i).1)
def denP (zs : Nat → Int × Int) (i : Nat) : Int := (zs (i + 1)).1 - (zs i).1
/-- what a power is worth, rounded down and up -/
def valLo (n : Nat) (zs : Nat → Int × Int) (z : Int) : Int := if seg n zs z + 1 < n then (zs (seg n zs z)).2 + numP zs z (seg n zs z) / denP zs (seg n zs z) else (zs (seg n zs z)).2
def valHi (n : Nat) (zs : Nat → Int × Int) (z : Int) : Int := if seg n zs z + 1 < n then (zs (seg n zs z)).2 + cdiv (numP zs z (seg n zs z)) (denP zs (seg n zs z)) else (zs (seg n zs z)).2
theorem val_in {n : Nat} {zs : Nat → Int × Int} {z : Int} {i : Nat} (h : SegIs n zs z i) (hi : i + 1 < n) : valLo n zs z = (zs i).2 + numP zs z i / denP zs i ∧ valHi n zs z = (zs i).2 + cdiv (numP zs z i) (denP zs i) := by
  unfold valLo valHi; rw [seg_eq h, if_pos hi, if_pos hi]; exact ⟨rfl, rfl⟩
theorem val_last {n : Nat} {zs : Nat → Int × Int} {z : Int} {i : Nat} (h : SegIs n zs z i) (hi : i + 1 = n) : valLo n zs z = (zs i).2 ∧ valHi n zs z = (zs i).2 := by
  unfold valLo valHi; rw [seg_eq h, if_neg (by omega), if_neg (by omega)]; exact ⟨rfl, rfl⟩

theorem TabOk.below {n : Nat} {zs : Nat → Int × Int} {most z : Int} (h : TabOk n zs most) (hz : 0 ≤ z) {i : Nat} (hs : SegIs n zs z i) : (zs i).1 ≤ z := by
  cases i with
  | zero => rw [h.z0]; exact hz
  | succ i => exact hs.lo i (by omega)
theorem TabOk.num {n : Nat} {zs : Nat → Int × Int} {most z : Int} (h : TabOk n zs most) (hm : most ≤ 1073741824) (hz : 0 ≤ z) {i : Nat} (hs : SegIs n zs z i) (hi : i + 1 < n) :
    1 ≤ denP zs i ∧ denP zs i ≤ 1073741824 ∧ 0 ≤ numP zs z i ∧ numP zs z i ≤ ((zs (i + 1)).2 - (zs i).2) * denP zs i ∧ numP zs z i ≤ 1152921504606846976 ∧ 0 ≤ (zs (i + 1)).2 - (zs i).2 ∧ (zs (i + 1)).2 - (zs i).2 ≤ 1073741824 ∧ 0 ≤ z - (zs i).1 ∧ z - (zs i).1 ≤ 1073741824 := by
  have a1 := h.asc i hi
  have a2 := h.zb i (by omega)
  have a3 := h.zb (i + 1) hi
  have a4 := h.rb i (by omega)
  have a5 := h.rb (i + 1) hi
  have a6 := h.below hz hs
  have a7 := hs.hi hi
  have hd : denP zs i = (zs (i + 1)).1 - (zs i).1 := rfl
  have m := mul_bd (a := (zs (i + 1)).2 - (zs i).2) (b := z - (zs i).1) (A := (zs (i + 1)).2 - (zs i).2) (B := denP zs i) (by omega) (Int.le_refl _) (by omega) (by omega)
  have m2 := mul_bd (a := (zs (i + 1)).2 - (zs i).2) (b := denP zs i) (A := 1073741824) (B := 1073741824) (by omega) (by omega) (by omega) (by omega)
  refine ⟨by omega, by omega, m.1, m.2, ?_, by omega, by omega, by omega, by omega⟩
  have : numP zs z i ≤ ((zs (i + 1)).2 - (zs i).2) * denP zs i := m.2
  omega
theorem TabOk.val {n : Nat} {zs : Nat → Int × Int} {most z : Int} (h : TabOk n zs most) (hm : most ≤ 1073741824) (hz : 0 ≤ z) : 0 ≤ valLo n zs z ∧ valLo n zs z ≤ valHi n zs z ∧ valHi n zs z ≤ most := by
  have hs := seg_is (n := n) (zs := zs) (z := z) (by have := h.n2; omega)
  generalize seg n zs z = i at hs
  have a4 := h.rb i (by have := hs.lt; omega)
  by_cases hi : i + 1 < n
  · obtain ⟨e1, e2⟩ := val_in hs hi
    obtain ⟨d1, _, n1, n2, _⟩ := h.num hm hz hs hi
    have a5 := h.rb (i + 1) hi
    have b1 := floor_bd d1 n1 n2
    have b2 := cdiv_bd d1 n1 n2
    have b3 := floor_le_cdiv (a := numP zs z i) d1
    rw [e1, e2]; omega
  · obtain ⟨e1, e2⟩ := val_last hs (by have := hs.lt; omega)
    rw [e1, e2]; omega

theorem seg_mono {n : Nat} {zs : Nat → Int × Int} {z y : Int} (hn : 1 ≤ n) (h : z ≤ y) : seg n zs z ≤ seg n zs y := by
  have a := seg_is (n := n) (zs := zs) (z := z) hn
  have b := seg_is (n := n) (zs := zs) (z := y) hn
  generalize seg n zs z = i at a
  generalize seg n zs y = j at b
  rcases Nat.lt_or_ge j i with hlt | hge
  · have x := b.hi (by have := a.lt; omega)
    have y := a.lo j hlt
    omega
  · exact hge
theorem TabOk.between {n : Nat} {zs : Nat → Int × Int} {most z : Int} (h : TabOk n zs most) (hm : most ≤ 1073741824) (hz : 0 ≤ z) {i : Nat} (hs : SegIs n zs z i) : (zs i).2 ≤ valLo n zs z ∧ (i + 1 < n → valHi n zs z ≤ (zs (i + 1)).2) := by
  by_cases hi : i + 1 < n
  · obtain ⟨e1, e2⟩ := val_in hs hi
    obtain ⟨d1, _, n1, n2, _⟩ := h.num hm hz hs hi
    have b1 := floor_bd d1 n1 n2
    have b2 := cdiv_bd d1 n1 n2
    exact ⟨by rw [e1]; omega, fun _ => by rw [e2]; omega⟩
  · obtain ⟨e1, e2⟩ := val_last hs (by have := hs.lt; omega)
    exact ⟨by rw [e1]; omega, fun x => absurd x hi⟩
theorem val_mono {n : Nat} {zs : Nat → Int × Int} {most z y : Int} (h : TabOk n zs most) (hm : most ≤ 1073741824) (hz : 0 ≤ z) (hy : z ≤ y) : valLo n zs z ≤ valLo n zs y ∧ valHi n zs z ≤ valHi n zs y := by
  have hn : 1 ≤ n := by have := h.n2; omega
  have m := seg_mono (zs := zs) hn hy
  have a := seg_is (n := n) (zs := zs) (z := z) hn
  have b := seg_is (n := n) (zs := zs) (z := y) hn
  generalize seg n zs z = i at a m
  generalize seg n zs y = j at b m
  by_cases e : i = j
  · subst e
    by_cases hi : i + 1 < n
    · obtain ⟨e1, e2⟩ := val_in a hi
      obtain ⟨f1, f2⟩ := val_in b hi
      obtain ⟨d1, _, n1, n2, _, r0, _⟩ := h.num hm hz a hi
      have k : numP zs z i ≤ numP zs y i := Int.mul_le_mul_of_nonneg_left (by omega) r0
      have x := Int.ediv_le_ediv (c := denP zs i) (by omega) k
      have w := cdiv_mono d1 k
      rw [e1, e2, f1, f2]; omega
    · obtain ⟨e1, e2⟩ := val_last a (by have := a.lt; omega)
      obtain ⟨f1, f2⟩ := val_last b (by have := b.lt; omega)
      rw [e1, e2, f1, f2]; omega
  · have u := h.between hm hz a
    have v := h.between hm (show 0 ≤ y by omega) b
    have t := (h.val hm hz).2.1
    have t2 := (h.val hm (show 0 ≤ y by omega)).2.1
    have hi : i + 1 < n := by have := b.lt; omega
    have r := h.rmono (j - (i + 1)) (i + 1) (by have := b.lt; omega)
    rw [show i + 1 + (j - (i + 1)) = j by omega] at r
    have := u.2 hi
    omega
theorem val_mix {n : Nat} {zs : Nat → Int × Int} {most z y : Int} (h : TabOk n zs most) (hm : most ≤ 1073741824) (hz : 0 ≤ z) (hy : z ≤ y) : valLo n zs z ≤ valHi n zs y := by
  have a := (val_mono h hm hz hy).1
  have b := (h.val hm (show 0 ≤ y by omega)).2.1
  omega

/-- what is left of a power that has passed some gates -/
def pasLo (n : Nat) (zs : Nat → Int × Int) (p : Nat → Int) : Nat → Int
  | 0 => 1073741824
  | k + 1 => pasLo n zs p k * (65536 - valHi n zs (p k)) / 65536
def pasHi (n : Nat) (zs : Nat → Int × Int) (p : Nat → Int) : Nat → Int
  | 0 => 1073741824
  | k + 1 => cdiv (pasHi n zs p k * (65536 - valLo n zs (p k))) 65536
def mesOf (n : Nat) (zs : Nat → Int × Int) (p : Nat → Int) (k : Nat) : Int × Int := (p k * pasLo n zs p k / 1073741824, cdiv (p k * pasHi n zs p k) 1073741824)
theorem step_bd {tl th vl vh : Int} (h1 : 0 ≤ tl) (h2 : tl ≤ th) (h3 : th ≤ 1073741824) (h4 : 1 ≤ th) (v1 : 0 ≤ vl) (v2 : vl ≤ 32768) (v3 : 0 ≤ vh) (v4 : vh ≤ 32768) (v5 : vl ≤ vh) :
    0 ≤ tl * (65536 - vh) / 65536 ∧ tl * (65536 - vh) / 65536 ≤ cdiv (th * (65536 - vl)) 65536 ∧ cdiv (th * (65536 - vl)) 65536 ≤ 1073741824 ∧ 1 ≤ cdiv (th * (65536 - vl)) 65536 := by
  have a := mul_bd (a := tl) (b := 65536 - vh) (A := 1073741824) (B := 65536) h1 (by omega) (by omega) (by omega)
  have b := mul_bd (a := th) (b := 65536 - vl) (A := 1073741824) (B := 65536) (by omega) (by omega) (by omega) (by omega)
  have c := floor_bd (b := 65536) (by decide) a.1 a.2
  have d := cdiv_bd (b := 65536) (by decide) b.1 b.2
  have e : tl * (65536 - vh) ≤ th * (65536 - vl) := Int.mul_le_mul h2 (by omega) (by omega) (by omega)
  have f : tl * (65536 - vh) / 65536 ≤ th * (65536 - vl) / 65536 := Int.ediv_le_ediv (by decide) e
  have g := floor_le_cdiv (a := th * (65536 - vl)) (b := 65536) (by decide)
  have i : 1 * 1 ≤ th * (65536 - vl) := Int.mul_le_mul h4 (by omega) (by omega) (by omega)
  exact ⟨c.1, by omega, d.2, cdiv_pos (by decide) (by omega)⟩
theorem pas_bd {n : Nat} {zs : Nat → Int × Int} (h : TabOk n zs 32768) {p : Nat → Int} : ∀ k, (∀ j, j < k → 0 ≤ p j) → 0 ≤ pasLo n zs p k ∧ pasLo n zs p k ≤ pasHi n zs p k ∧ pasHi n zs p k ≤ 1073741824 ∧ 1 ≤ pasHi n zs p k
  | 0, _ => by unfold pasLo pasHi; omega
  | k + 1, hp => by
    obtain ⟨a, b, c, d⟩ := pas_bd h k (fun j hj => hp j (by omega))
    obtain ⟨v1, v2, v3⟩ := h.val (by decide) (hp k (by omega))
    exact step_bd a b c d v1 (by omega) (by omega) v3 v2
theorem mes_bd {p tl th : Int} (h0 : 0 ≤ p) (h1 : p ≤ 1073741824) (a : 0 ≤ tl) (b : tl ≤ th) (c : th ≤ 1073741824) :
    0 ≤ p * tl ∧ p * tl ≤ 1152921504606846976 ∧ 0 ≤ p * th ∧ p * th ≤ 1152921504606846976 ∧ 0 ≤ p * tl / 1073741824 ∧ p * tl / 1073741824 ≤ cdiv (p * th) 1073741824 ∧ cdiv (p * th) 1073741824 ≤ p := by
  have x := mul_bd (a := p) (b := tl) (A := 1073741824) (B := 1073741824) h0 h1 a (by omega)
  have y := mul_bd (a := p) (b := th) (A := p) (B := 1073741824) h0 (Int.le_refl _) (by omega) c
  have y2 := mul_bd (a := p) (b := th) (A := 1073741824) (B := 1073741824) h0 h1 (by omega) c
  have z := cdiv_bd (b := 1073741824) (by decide) y.1 y.2
  have e : p * tl ≤ p * th := Int.mul_le_mul_of_nonneg_left b h0
  have f := Int.ediv_le_ediv (c := 1073741824) (by decide) e
  have g := floor_le_cdiv (a := p * th) (b := 1073741824) (by decide)
  exact ⟨x.1, x.2, y.1, y2.2, Int.ediv_nonneg x.1 (by decide), by omega, z.2⟩
/-- the error of a ray's powers -/
def powE (p : Nat → Int) (j : Nat) : Int := if inB (p j) 0 1073741824 then 0 else 3
def passC (n : Nat) (zs : Nat → Int × Int) (m : Nat) (p : Nat → Int) : Int := if tabC n zs 32768 ≠ 0 then tabC n zs 32768 else if 200 < m then 9 else firstE (powE p) m

/-- what was there, of what is measured behind a passage -/
def resLo (t m : Int × Int) : Int := min 1073741824 (m.1 * 1073741824 / t.2)
def resHi (t m : Int × Int) : Int := if 1048576 ≤ t.1 then min 1073741824 (cdiv (m.2 * 1073741824) t.1) else 1073741824
/-- the passages of a ray that is restored -/
def rstT (n : Nat) (zs : Nat → Int × Int) (ms : Nat → Int × Int) : Nat → Int × Int
  | 0 => (1073741824, 1073741824)
  | k + 1 => ((rstT n zs ms k).1 * (65536 - valHi n zs (resHi (rstT n zs ms k) (ms k))) / 65536, cdiv ((rstT n zs ms k).2 * (65536 - valLo n zs (resLo (rstT n zs ms k) (ms k)))) 65536)
def rstOf (n : Nat) (zs : Nat → Int × Int) (ms : Nat → Int × Int) (k : Nat) : Int × Int := (resLo (rstT n zs ms k) (ms k), resHi (rstT n zs ms k) (ms k))
theorem res_bd {t m : Int × Int} (h1 : 0 ≤ t.1) (h2 : t.1 ≤ t.2) (h4 : 1 ≤ t.2) (h5 : t.2 ≤ 1073741824) (m1 : 0 ≤ m.1) (m2 : m.1 ≤ m.2) (m3 : m.2 ≤ 1073741824) : 0 ≤ resLo t m ∧ resLo t m ≤ resHi t m ∧ resHi t m ≤ 1073741824 := by
  have a : 0 ≤ m.1 * 1073741824 / t.2 := Int.ediv_nonneg (Int.mul_nonneg m1 (by decide)) (by omega)
  unfold resLo resHi
  by_cases h : 1048576 ≤ t.1
  · rw [if_pos h]
    have b : m.1 * 1073741824 / t.2 ≤ cdiv (m.2 * 1073741824) t.1 := by
      have x := floor_le_cdiv (a := m.2 * 1073741824) (b := t.1) (by omega)
      have y : m.1 * 1073741824 / t.2 ≤ m.2 * 1073741824 / t.1 := by
        refine Int.le_ediv_of_mul_le (by omega) ?_
        have z := Int.ediv_mul_le (m.1 * 1073741824) (b := t.2) (by omega)
        have w : m.1 * 1073741824 / t.2 * t.1 ≤ m.1 * 1073741824 / t.2 * t.2 := Int.mul_le_mul_of_nonneg_left h2 a
        omega
      omega
    omega
  · rw [if_neg h]; omega
theorem rst_bd {n : Nat} {zs : Nat → Int × Int} (h : TabOk n zs 32768) {ms : Nat → Int × Int} : ∀ k, (∀ j, j < k → 0 ≤ (ms j).1 ∧ (ms j).1 ≤ (ms j).2 ∧ (ms j).2 ≤ 1073741824) → 0 ≤ (rstT n zs ms k).1 ∧ (rstT n zs ms k).1 ≤ (rstT n zs ms k).2 ∧ (rstT n zs ms k).2 ≤ 1073741824 ∧ 1 ≤ (rstT n zs ms k).2
  | 0, _ => by unfold rstT; dsimp only; omega
  | k + 1, hp => by
    obtain ⟨a, b, c, d⟩ := rst_bd h k (fun j hj => hp j (by omega))
    obtain ⟨m1, m2, m3⟩ := hp k (by omega)
    obtain ⟨r1, r2, r3⟩ := res_bd a b d c m1 m2 m3
    obtain ⟨u1, u2, u3⟩ := h.val (by decide) r1
    obtain ⟨v1, v2, v3⟩ := h.val (z := resHi (rstT n zs ms k) (ms k)) (by decide) (by omega)
    have mono : valLo n zs (resLo (rstT n zs ms k) (ms k)) ≤ valHi n zs (resHi (rstT n zs ms k) (ms k)) := val_mix h (by decide) r1 r2
    exact step_bd a b c d u1 (by omega) (by omega) v3 mono

end Go.Proofs.Ytdmbkhmhaininaa
