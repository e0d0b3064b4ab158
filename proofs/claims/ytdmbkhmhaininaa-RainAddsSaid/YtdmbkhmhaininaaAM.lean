/-
  Plain mathematics of sums of records in parts, with more slack, with one more reading.
-/
import Derived.Test.YtdmbkhmhaininaaN
namespace Go.Proofs.Ytdmbkhmhaininaa
open Go.RowKit
set_option linter.unusedVariables false
set_option linter.unusedSimpArgs false

theorem sm_ok {n : Nat} {rs : Nat → Rc} {en sl : Int} (h : smE n rs en sl = 0) : RecOk n rs ∧ (0 ≤ en ∧ en ≤ 4294967296) ∧ (0 ≤ sl ∧ sl ≤ 1000) ∧ (rs (n - 1)).t ≤ en := by
  unfold smE at h
  by_cases h1 : recC n rs = 0
  · rw [if_pos h1] at h
    cases h2 : inB en 0 4294967296 <;> cases h3 : inB sl 0 1000 <;> simp only [h2, h3, Bool.and_false, Bool.false_and, Bool.and_true, Bool.false_eq_true, if_false, if_true] at h
    · exact absurd h (by decide)
    · exact absurd h (by decide)
    · exact absurd h (by decide)
    · by_cases h4 : (rs (n - 1)).t ≤ en
      · exact ⟨rec_ok h1, inB_true.1 h2, inB_true.1 h3, h4⟩
      · rw [if_neg h4] at h; exact absurd h (by decide)
  · rw [if_neg h1] at h; exact absurd h h1
theorem ok_rec {n : Nat} {rs : Nat → Rc} (h : RecOk n rs) : recC n rs = 0 := by
  unfold recC
  rw [if_neg (by have := h.n1; omega)]
  refine firstE_zero fun j hj => ?_
  unfold recE
  rw [inB_true.2 (h.tb j hj), spanB_true.2 (h.rb j hj)]
  simp only [Bool.and_true, if_true]
  refine if_pos ?_
  by_cases h0 : j = 0
  · exact .inl h0
  · have := h.asc (j - 1) (by omega)
    rw [show j - 1 + 1 = j by omega] at this
    exact .inr this
theorem ok_sm {n : Nat} {rs : Nat → Rc} {en sl : Int} (h : RecOk n rs) (h1 : 0 ≤ en ∧ en ≤ 4294967296) (h2 : 0 ≤ sl ∧ sl ≤ 1000) (h3 : (rs (n - 1)).t ≤ en) : smE n rs en sl = 0 ∧ smL n rs en sl = prL n rs en n * (1000 - sl) / 360000 ∧ smH n rs en sl = cdiv (prH n rs en n * (1000 + sl)) 360000 := by
  have e : smE n rs en sl = 0 := by
    unfold smE
    rw [if_pos (ok_rec h), inB_true.2 h1, inB_true.2 h2, if_pos h3]; rfl
  unfold smL smH
  rw [if_pos e, if_pos e]
  exact ⟨e, rfl, rfl⟩
theorem sm_err {n : Nat} {rs : Nat → Rc} {en sl : Int} (h : smE n rs en sl ≠ 0) : smL n rs en sl = 0 ∧ smH n rs en sl = 0 := by
  unfold smL smH; rw [if_neg h, if_neg h]; exact ⟨rfl, rfl⟩
/-- the first readings, and the others -/
theorem RecOk.head {n : Nat} {rs : Nat → Rc} (h : RecOk n rs) {k : Nat} (hk : k < n) : RecOk (k + 1) rs :=
  ⟨by omega, fun j hj => h.tb j (by omega), fun j hj => h.rb j (by omega), fun j hj => h.asc j (by omega)⟩
theorem RecOk.tail {n : Nat} {rs : Nat → Rc} (h : RecOk n rs) {k : Nat} (hk : k < n) : RecOk (n - k) (fun j => rs (k + j)) :=
  ⟨by omega, fun j hj => h.tb _ (by omega), fun j hj => h.rb _ (by omega), fun j hj => h.asc (k + j) (by omega)⟩
theorem pr_head {n : Nat} {rs : Nat → Rc} {en t : Int} {k : Nat} (hk : k < n) : ∀ i, i ≤ k → prL (k + 1) rs t i = prL n rs en i ∧ prH (k + 1) rs t i = prH n rs en i
  | 0, _ => ⟨rfl, rfl⟩
  | i + 1, hi => by
    obtain ⟨a, b⟩ := pr_head (en := en) (t := t) hk i (by omega)
    have e1 : rlo (k + 1) rs i = rlo n rs i := by unfold rlo; rw [if_pos (by omega), if_pos (by omega)]
    have e2 : rhi (k + 1) rs i = rhi n rs i := by unfold rhi; rw [if_pos (by omega), if_pos (by omega)]
    have e3 : unt (k + 1) rs t i = unt n rs en i := by unfold unt; rw [if_pos (by omega), if_pos (by omega)]
    constructor
    · show prL (k + 1) rs t i + rlo (k + 1) rs i * (unt (k + 1) rs t i - (rs i).t) = prL n rs en i + rlo n rs i * (unt n rs en i - (rs i).t)
      rw [a, e1, e3]
    · show prH (k + 1) rs t i + rhi (k + 1) rs i * (unt (k + 1) rs t i - (rs i).t) = prH n rs en i + rhi n rs i * (unt n rs en i - (rs i).t)
      rw [b, e2, e3]
theorem pr_first {n : Nat} {rs : Nat → Rc} {en : Int} {k : Nat} (hk : k < n) : prL (k + 1) rs (rs k).t (k + 1) = prL n rs en k ∧ prH (k + 1) rs (rs k).t (k + 1) = prH n rs en k := by
  obtain ⟨a, b⟩ := pr_head (en := en) (t := (rs k).t) hk k (Nat.le_refl _)
  have e3 : unt (k + 1) rs (rs k).t k = (rs k).t := by unfold unt; rw [if_neg (by omega)]
  constructor
  · show prL (k + 1) rs (rs k).t k + rlo (k + 1) rs k * (unt (k + 1) rs (rs k).t k - (rs k).t) = _
    rw [a, e3, Int.sub_self, Int.mul_zero, Int.add_zero]
  · show prH (k + 1) rs (rs k).t k + rhi (k + 1) rs k * (unt (k + 1) rs (rs k).t k - (rs k).t) = _
    rw [b, e3, Int.sub_self, Int.mul_zero, Int.add_zero]
theorem pr_second {n : Nat} {rs : Nat → Rc} {en : Int} {k : Nat} : ∀ i, k + i ≤ n → prL (n - k) (fun j => rs (k + j)) en i = prL n rs en (k + i) - prL n rs en k ∧ prH (n - k) (fun j => rs (k + j)) en i = prH n rs en (k + i) - prH n rs en k
  | 0, _ => ⟨(Int.sub_self _).symm, (Int.sub_self _).symm⟩
  | i + 1, hi => by
    obtain ⟨a, b⟩ := pr_second (n := n) (k := k) (en := en) (rs := rs) i (by omega)
    have e1 : rlo (n - k) (fun j => rs (k + j)) i = rlo n rs (k + i) := by
      unfold rlo
      by_cases h : k + i + 1 < n
      · rw [if_pos (by omega), if_pos h]; rfl
      · rw [if_neg (by omega), if_neg h]
    have e2 : rhi (n - k) (fun j => rs (k + j)) i = rhi n rs (k + i) := by
      unfold rhi
      by_cases h : k + i + 1 < n
      · rw [if_pos (by omega), if_pos h]; rfl
      · rw [if_neg (by omega), if_neg h]
    have e3 : unt (n - k) (fun j => rs (k + j)) en i = unt n rs en (k + i) := by
      unfold unt
      by_cases h : k + i + 1 < n
      · rw [if_pos (by omega), if_pos h]; rfl
      · rw [if_neg (by omega), if_neg h]
    constructor
    · show prL (n - k) (fun j => rs (k + j)) en i + rlo (n - k) (fun j => rs (k + j)) i * (unt (n - k) (fun j => rs (k + j)) en i - (rs (k + i)).t) = prL n rs en (k + i) + rlo n rs (k + i) * (unt n rs en (k + i) - (rs (k + i)).t) - prL n rs en k
      rw [a, e1, e3]; omega
    · show prH (n - k) (fun j => rs (k + j)) en i + rhi (n - k) (fun j => rs (k + j)) i * (unt (n - k) (fun j => rs (k + j)) en i - (rs (k + i)).t) = prH n rs en (k + i) + rhi n rs (k + i) * (unt n rs en (k + i) - (rs (k + i)).t) - prH n rs en k
      rw [b, e2, e3]; omega
theorem floor_add2 {a b u : Int} (hu : 1 ≤ u) : a / u + b / u ≤ (a + b) / u ∧ (a + b) / u - a / u - b / u ≤ 1 := by
  have e1 := Int.emod_add_mul_ediv a u
  have e2 := Int.emod_add_mul_ediv b u
  have e3 := Int.emod_add_mul_ediv (a + b) u
  have f1 := Int.emod_nonneg a (b := u) (by omega)
  have f2 := Int.emod_nonneg b (b := u) (by omega)
  have f3 := Int.emod_nonneg (a + b) (b := u) (by omega)
  have g1 := Int.emod_lt_of_pos a (b := u) (by omega)
  have g2 := Int.emod_lt_of_pos b (b := u) (by omega)
  have g3 := Int.emod_lt_of_pos (a + b) (b := u) (by omega)
  obtain ⟨d, hd⟩ : ∃ d, d = (a + b) / u - a / u - b / u := ⟨_, rfl⟩
  have k : u * d = a % u + b % u - (a + b) % u := by
    rw [hd, Int.mul_sub, Int.mul_sub]; omega
  have h1 : -1 < d := by
    by_cases hd : d ≤ -1
    · have := Int.mul_le_mul_of_nonneg_left hd (show (0:Int) ≤ u by omega)
      omega
    · omega
  have h2 : d < 2 := by
    by_cases hd : 2 ≤ d
    · have := Int.mul_le_mul_of_nonneg_left hd (show (0:Int) ≤ u by omega)
      omega
    · omega
  omega
theorem cdiv_add {a b u : Int} (hu : 1 ≤ u) : cdiv (a + b) u ≤ cdiv a u + cdiv b u ∧ cdiv a u + cdiv b u - cdiv (a + b) u ≤ 1 := by
  unfold cdiv
  have := floor_add2 (a := -a) (b := -b) hu
  rw [show -a + -b = -(a + b) by omega] at this
  omega
/-- a record that is cut at a reading -/
theorem sum_parts {n : Nat} {rs : Nat → Rc} {en sl : Int} (h : smE n rs en sl = 0) {k : Nat} (hk : k < n) :
    smE (k + 1) rs (rs k).t sl = 0 ∧ smE (n - k) (fun j => rs (k + j)) en sl = 0 ∧
    (smL (k + 1) rs (rs k).t sl + smL (n - k) (fun j => rs (k + j)) en sl ≤ smL n rs en sl ∧ smL n rs en sl - smL (k + 1) rs (rs k).t sl - smL (n - k) (fun j => rs (k + j)) en sl ≤ 2) ∧
    (smH n rs en sl ≤ smH (k + 1) rs (rs k).t sl + smH (n - k) (fun j => rs (k + j)) en sl ∧ smH (k + 1) rs (rs k).t sl + smH (n - k) (fun j => rs (k + j)) en sl - smH n rs en sl ≤ 2) := by
  obtain ⟨ho, he, hs, hl⟩ := sm_ok h
  have h1 := ok_sm (en := (rs k).t) (sl := sl) (ho.head hk) (ho.tb k hk) hs (by rw [show k + 1 - 1 = k by omega]; exact Int.le_refl _)
  have h2 := ok_sm (en := en) (sl := sl) (ho.tail hk) he hs (by show (rs (k + (n - k - 1))).t ≤ en; rw [show k + (n - k - 1) = n - 1 by omega]; exact hl)
  have h0 := ok_sm ho he hs hl
  have p1 := pr_first (en := en) (rs := rs) hk
  have p2 := pr_second (en := en) (rs := rs) (n := n) (k := k) (n - k) (by omega)
  rw [show k + (n - k) = n by omega] at p2
  refine ⟨h1.1, h2.1, ?_⟩
  rw [h0.2.1, h0.2.2, h1.2.1, h1.2.2, h2.2.1, h2.2.2, p1.1, p1.2, p2.1, p2.2]
  have fa := floor_add2 (a := prL n rs en k * (1000 - sl)) (b := (prL n rs en n - prL n rs en k) * (1000 - sl)) (u := 360000) (by decide)
  have fb := cdiv_add (a := prH n rs en k * (1000 + sl)) (b := (prH n rs en n - prH n rs en k) * (1000 + sl)) (u := 360000) (by decide)
  rw [← Int.add_mul, show prL n rs en k + (prL n rs en n - prL n rs en k) = prL n rs en n by omega] at fa
  rw [← Int.add_mul, show prH n rs en k + (prH n rs en n - prH n rs en k) = prH n rs en n by omega] at fb
  omega
theorem sum_valid {n : Nat} {rs : Nat → Rc} {en sl : Int} (h : smE n rs en sl = 0) : 0 ≤ smL n rs en sl ∧ smL n rs en sl ≤ smH n rs en sl ∧ smH n rs en sl ≤ 24000000000000 := by
  obtain ⟨ho, he, hs, hl⟩ := sm_ok h
  have h0 := ok_sm ho he hs hl
  have b := ho.sums_bd hl he.2 (k := n) (Nat.le_refl _)
  rw [h0.2.1, h0.2.2]
  have m1 := mul_bd (a := prL n rs en n) (b := 1000 - sl) (A := 4294967296000000) (B := 1000) b.1 (by omega) (by omega) (by omega)
  have m2 := mul_bd (a := prH n rs en n) (b := 1000 + sl) (A := 4294967296000000) (B := 2000) (by omega) b.2.2 (by omega) (by omega)
  have m3 : prL n rs en n * (1000 - sl) ≤ prH n rs en n * (1000 + sl) := Int.mul_le_mul b.2.1 (by omega) (by omega) (by omega)
  have c := floor_le_cdiv (a := prL n rs en n * (1000 - sl)) (b := 360000) (by decide)
  have d := cdiv_mono (c := 360000) (by decide) m3
  have e := cdiv_bd (a := prH n rs en n * (1000 + sl)) (b := 360000) (q := 24000000000000) (by decide) m2.1 (by omega)
  refine ⟨Int.ediv_nonneg m1.1 (by decide), by omega, e.2⟩
/-- with more slack -/
theorem sum_slack {n : Nat} {rs : Nat → Rc} {en sl sl2 : Int} (h : smE n rs en sl = 0) (h1 : sl ≤ sl2) (h2 : sl2 ≤ 1000) : smE n rs en sl2 = 0 ∧ smL n rs en sl2 ≤ smL n rs en sl ∧ smH n rs en sl ≤ smH n rs en sl2 := by
  obtain ⟨ho, he, hs, hl⟩ := sm_ok h
  have a := ok_sm ho he hs hl
  have b := ok_sm (sl := sl2) ho he (by omega) hl
  have c := ho.sums_bd hl he.2 (k := n) (Nat.le_refl _)
  rw [a.2.1, a.2.2, b.2.1, b.2.2]
  exact ⟨b.1, Int.ediv_le_ediv (by decide) (Int.mul_le_mul_of_nonneg_left (by omega) c.1), cdiv_mono (by decide) (Int.mul_le_mul_of_nonneg_left (by omega) (by omega))⟩
/-- one more reading -/
def insR (rs : Nat → Rc) (k : Nat) (r : Rc) (j : Nat) : Rc := if j ≤ k then rs j else if j = k + 1 then r else rs (j - 1)
theorem ins_lo (rs : Nat → Rc) (k : Nat) (r : Rc) {j : Nat} (h : j ≤ k) : insR rs k r j = rs j := by unfold insR; rw [if_pos h]
theorem ins_at (rs : Nat → Rc) (k : Nat) (r : Rc) : insR rs k r (k + 1) = r := by unfold insR; rw [if_neg (by omega), if_pos rfl]
theorem ins_hi (rs : Nat → Rc) (k : Nat) (r : Rc) {j : Nat} (h : k + 1 ≤ j) : insR rs k r (j + 1) = rs j := by unfold insR; rw [if_neg (by omega), if_neg (by omega)]; rfl
structure InsOk (n : Nat) (rs : Nat → Rc) (k : Nat) (r : Rc) : Prop where
  k1 : k + 1 < n
  t0 : (rs k).t < r.t
  t1 : r.t < (rs (k + 1)).t
  l0 : min (rs k).lo (rs (k + 1)).lo ≤ r.lo
  lh : r.lo ≤ r.hi
  h0 : r.hi ≤ max (rs k).hi (rs (k + 1)).hi
theorem RecOk.ins {n : Nat} {rs : Nat → Rc} (h : RecOk n rs) {k : Nat} {r : Rc} (i : InsOk n rs k r) : RecOk (n + 1) (insR rs k r) := by
  have a1 := i.k1
  have a2 := h.tb k (by omega)
  have a3 := h.tb (k + 1) (by omega)
  have a4 := h.rb k (by omega)
  have a5 := h.rb (k + 1) (by omega)
  have b1 := i.t0
  have b2 := i.t1
  have b3 := i.l0
  have b4 := i.lh
  have b5 := i.h0
  refine ⟨by omega, fun j hj => ?_, fun j hj => ?_, fun j hj => ?_⟩
  · rcases Nat.lt_trichotomy j (k + 1) with h1 | h1 | h1
    · rw [ins_lo _ _ _ (by omega)]; exact h.tb j (by omega)
    · rw [h1, ins_at]; omega
    · obtain ⟨x, rfl⟩ : ∃ x, j = x + 1 := ⟨j - 1, by omega⟩
      rw [ins_hi _ _ _ (by omega)]; exact h.tb x (by omega)
  · rcases Nat.lt_trichotomy j (k + 1) with h1 | h1 | h1
    · rw [ins_lo _ _ _ (by omega)]; exact h.rb j (by omega)
    · rw [h1, ins_at]; omega
    · obtain ⟨x, rfl⟩ : ∃ x, j = x + 1 := ⟨j - 1, by omega⟩
      rw [ins_hi _ _ _ (by omega)]; exact h.rb x (by omega)
  · rcases Nat.lt_trichotomy j k with h1 | h1 | h1
    · rw [ins_lo _ _ _ (by omega), ins_lo _ _ _ (by omega)]; exact h.asc j (by omega)
    · rw [h1, ins_lo _ _ _ (Nat.le_refl _), ins_at]; exact b1
    · by_cases h2 : j = k + 1
      · rw [h2, ins_at, ins_hi _ _ _ (Nat.le_refl _)]; exact b2
      · obtain ⟨x, rfl⟩ : ∃ x, j = x + 1 := ⟨j - 1, by omega⟩
        rw [ins_hi _ _ _ (by omega), ins_hi _ _ _ (by omega)]; exact h.asc x (by omega)
theorem ins_last {n : Nat} {rs : Nat → Rc} {k : Nat} {r : Rc} (i : InsOk n rs k r) : insR rs k r (n + 1 - 1) = rs (n - 1) := by
  have := i.k1
  rw [show n + 1 - 1 = (n - 1) + 1 by omega, ins_hi _ _ _ (by omega)]
theorem pr_ins_head {n : Nat} {rs : Nat → Rc} {en : Int} {k : Nat} {r : Rc} (i : InsOk n rs k r) : ∀ j, j ≤ k → prL (n + 1) (insR rs k r) en j = prL n rs en j ∧ prH (n + 1) (insR rs k r) en j = prH n rs en j
  | 0, _ => ⟨rfl, rfl⟩
  | j + 1, hj => by
    have k1 := i.k1
    obtain ⟨a, b⟩ := pr_ins_head (en := en) i j (by omega)
    have e0 := ins_lo rs k r (j := j) (by omega)
    have e9 := ins_lo rs k r (j := j + 1) (by omega)
    have e1 : rlo (n + 1) (insR rs k r) j = rlo n rs j := by unfold rlo; rw [if_pos (by omega), if_pos (by omega), e0, e9]
    have e2 : rhi (n + 1) (insR rs k r) j = rhi n rs j := by unfold rhi; rw [if_pos (by omega), if_pos (by omega), e0, e9]
    have e3 : unt (n + 1) (insR rs k r) en j = unt n rs en j := by unfold unt; rw [if_pos (by omega), if_pos (by omega), e9]
    constructor
    · show prL (n + 1) (insR rs k r) en j + rlo (n + 1) (insR rs k r) j * (unt (n + 1) (insR rs k r) en j - (insR rs k r j).t) = prL n rs en j + rlo n rs j * (unt n rs en j - (rs j).t)
      rw [a, e1, e3, e0]
    · show prH (n + 1) (insR rs k r) en j + rhi (n + 1) (insR rs k r) j * (unt (n + 1) (insR rs k r) en j - (insR rs k r j).t) = prH n rs en j + rhi n rs j * (unt n rs en j - (rs j).t)
      rw [b, e2, e3, e0]
theorem pr_ins_tail {n : Nat} {rs : Nat → Rc} {en : Int} {k : Nat} {r : Rc} (i : InsOk n rs k r) : ∀ d, k + 1 + d ≤ n → prL (n + 1) (insR rs k r) en (k + 2 + d) - prL (n + 1) (insR rs k r) en (k + 2) = prL n rs en (k + 1 + d) - prL n rs en (k + 1) ∧ prH (n + 1) (insR rs k r) en (k + 2 + d) - prH (n + 1) (insR rs k r) en (k + 2) = prH n rs en (k + 1 + d) - prH n rs en (k + 1)
  | 0, _ => ⟨(Int.sub_self _).trans (Int.sub_self _).symm, (Int.sub_self _).trans (Int.sub_self _).symm⟩
  | d + 1, hd => by
    have k1 := i.k1
    obtain ⟨a, b⟩ := pr_ins_tail (en := en) i d (by omega)
    have e0 : insR rs k r (k + 2 + d) = rs (k + 1 + d) := by rw [show k + 2 + d = (k + 1 + d) + 1 by omega]; exact ins_hi _ _ _ (by omega)
    have e9 : insR rs k r (k + 2 + d + 1) = rs (k + 1 + d + 1) := by rw [show k + 2 + d + 1 = (k + 1 + d + 1) + 1 by omega]; exact ins_hi _ _ _ (by omega)
    have e1 : rlo (n + 1) (insR rs k r) (k + 2 + d) = rlo n rs (k + 1 + d) := by
      unfold rlo
      by_cases h : k + 1 + d + 1 < n
      · rw [if_pos (by omega), if_pos h, e0, e9]
      · rw [if_neg (by omega), if_neg h, e0]
    have e2 : rhi (n + 1) (insR rs k r) (k + 2 + d) = rhi n rs (k + 1 + d) := by
      unfold rhi
      by_cases h : k + 1 + d + 1 < n
      · rw [if_pos (by omega), if_pos h, e0, e9]
      · rw [if_neg (by omega), if_neg h, e0]
    have e3 : unt (n + 1) (insR rs k r) en (k + 2 + d) = unt n rs en (k + 1 + d) := by
      unfold unt
      by_cases h : k + 1 + d + 1 < n
      · rw [if_pos (by omega), if_pos h, e9]
      · rw [if_neg (by omega), if_neg h]
    constructor
    · show prL (n + 1) (insR rs k r) en (k + 2 + d) + rlo (n + 1) (insR rs k r) (k + 2 + d) * (unt (n + 1) (insR rs k r) en (k + 2 + d) - (insR rs k r (k + 2 + d)).t) - _ = prL n rs en (k + 1 + d) + rlo n rs (k + 1 + d) * (unt n rs en (k + 1 + d) - (rs (k + 1 + d)).t) - _
      rw [e1, e3, e0]; omega
    · show prH (n + 1) (insR rs k r) en (k + 2 + d) + rhi (n + 1) (insR rs k r) (k + 2 + d) * (unt (n + 1) (insR rs k r) en (k + 2 + d) - (insR rs k r (k + 2 + d)).t) - _ = prH n rs en (k + 1 + d) + rhi n rs (k + 1 + d) * (unt n rs en (k + 1 + d) - (rs (k + 1 + d)).t) - _
      rw [e2, e3, e0]; omega
theorem pr_ins_mid {n : Nat} {rs : Nat → Rc} {en : Int} {k : Nat} {r : Rc} (i : InsOk n rs k r) : prL n rs en (k + 1) - prL n rs en k ≤ prL (n + 1) (insR rs k r) en (k + 2) - prL (n + 1) (insR rs k r) en k ∧ prH (n + 1) (insR rs k r) en (k + 2) - prH (n + 1) (insR rs k r) en k ≤ prH n rs en (k + 1) - prH n rs en k := by
  have k1 := i.k1
  have b1 := i.t0
  have b2 := i.t1
  have b3 := i.l0
  have b4 := i.lh
  have b5 := i.h0
  have e0 := ins_lo rs k r (Nat.le_refl k)
  have e1 := ins_at rs k r
  have e2 : insR rs k r (k + 1 + 1) = rs (k + 1) := ins_hi rs k r (Nat.le_refl _)
  have l0 : rlo (n + 1) (insR rs k r) k = min (rs k).lo r.lo := by unfold rlo; rw [if_pos (by omega), e0, e1]
  have l1 : rlo (n + 1) (insR rs k r) (k + 1) = min r.lo (rs (k + 1)).lo := by unfold rlo; rw [if_pos (by omega), e1, e2]
  have l2 : rlo n rs k = min (rs k).lo (rs (k + 1)).lo := by unfold rlo; rw [if_pos k1]
  have h0 : rhi (n + 1) (insR rs k r) k = max (rs k).hi r.hi := by unfold rhi; rw [if_pos (by omega), e0, e1]
  have h1 : rhi (n + 1) (insR rs k r) (k + 1) = max r.hi (rs (k + 1)).hi := by unfold rhi; rw [if_pos (by omega), e1, e2]
  have h2 : rhi n rs k = max (rs k).hi (rs (k + 1)).hi := by unfold rhi; rw [if_pos k1]
  have u0 : unt (n + 1) (insR rs k r) en k = r.t := by unfold unt; rw [if_pos (by omega), e1]
  have u1 : unt (n + 1) (insR rs k r) en (k + 1) = (rs (k + 1)).t := by unfold unt; rw [if_pos (by omega), e2]
  have u2 : unt n rs en k = (rs (k + 1)).t := by unfold unt; rw [if_pos k1]
  constructor
  · show prL n rs en k + rlo n rs k * (unt n rs en k - (rs k).t) - prL n rs en k ≤ prL (n + 1) (insR rs k r) en k + rlo (n + 1) (insR rs k r) k * (unt (n + 1) (insR rs k r) en k - (insR rs k r k).t) + rlo (n + 1) (insR rs k r) (k + 1) * (unt (n + 1) (insR rs k r) en (k + 1) - (insR rs k r (k + 1)).t) - prL (n + 1) (insR rs k r) en k
    rw [l0, l1, l2, u0, u1, u2, e0, e1]
    have x1 := Int.mul_le_mul_of_nonneg_right (show min (rs k).lo (rs (k + 1)).lo ≤ min (rs k).lo r.lo by omega) (show 0 ≤ r.t - (rs k).t by omega)
    have x2 := Int.mul_le_mul_of_nonneg_right (show min (rs k).lo (rs (k + 1)).lo ≤ min r.lo (rs (k + 1)).lo by omega) (show 0 ≤ (rs (k + 1)).t - r.t by omega)
    have x3 := Int.mul_add (min (rs k).lo (rs (k + 1)).lo) (r.t - (rs k).t) ((rs (k + 1)).t - r.t)
    rw [show r.t - (rs k).t + ((rs (k + 1)).t - r.t) = (rs (k + 1)).t - (rs k).t by omega] at x3
    omega
  · show prH (n + 1) (insR rs k r) en k + rhi (n + 1) (insR rs k r) k * (unt (n + 1) (insR rs k r) en k - (insR rs k r k).t) + rhi (n + 1) (insR rs k r) (k + 1) * (unt (n + 1) (insR rs k r) en (k + 1) - (insR rs k r (k + 1)).t) - prH (n + 1) (insR rs k r) en k ≤ prH n rs en k + rhi n rs k * (unt n rs en k - (rs k).t) - prH n rs en k
    rw [h0, h1, h2, u0, u1, u2, e0, e1]
    have x1 := Int.mul_le_mul_of_nonneg_right (show max (rs k).hi r.hi ≤ max (rs k).hi (rs (k + 1)).hi by omega) (show 0 ≤ r.t - (rs k).t by omega)
    have x2 := Int.mul_le_mul_of_nonneg_right (show max r.hi (rs (k + 1)).hi ≤ max (rs k).hi (rs (k + 1)).hi by omega) (show 0 ≤ (rs (k + 1)).t - r.t by omega)
    have x3 := Int.mul_add (max (rs k).hi (rs (k + 1)).hi) (r.t - (rs k).t) ((rs (k + 1)).t - r.t)
    rw [show r.t - (rs k).t + ((rs (k + 1)).t - r.t) = (rs (k + 1)).t - (rs k).t by omega] at x3
    omega
theorem sum_ins {n : Nat} {rs : Nat → Rc} {en sl : Int} (h : smE n rs en sl = 0) {k : Nat} {r : Rc} (i : InsOk n rs k r) :
    smE (n + 1) (insR rs k r) en sl = 0 ∧ smL n rs en sl ≤ smL (n + 1) (insR rs k r) en sl ∧ smH (n + 1) (insR rs k r) en sl ≤ smH n rs en sl := by
  obtain ⟨ho, he, hs, hl⟩ := sm_ok h
  have k1 := i.k1
  have a := ok_sm ho he hs hl
  have b := ok_sm (en := en) (sl := sl) (ho.ins i) he hs (by rw [ins_last i]; exact hl)
  have p1 := pr_ins_head (en := en) i k (Nat.le_refl _)
  have p2 := pr_ins_mid (en := en) i
  have p3 := pr_ins_tail (en := en) i (n - k - 1) (by omega)
  rw [show k + 2 + (n - k - 1) = n + 1 by omega, show k + 1 + (n - k - 1) = n by omega] at p3
  refine ⟨b.1, ?_⟩
  rw [a.2.1, a.2.2, b.2.1, b.2.2]
  exact ⟨Int.ediv_le_ediv (by decide) (Int.mul_le_mul_of_nonneg_right (by omega) (by omega)), cdiv_mono (by decide) (Int.mul_le_mul_of_nonneg_right (by omega) (by omega))⟩

end Go.Proofs.Ytdmbkhmhaininaa
