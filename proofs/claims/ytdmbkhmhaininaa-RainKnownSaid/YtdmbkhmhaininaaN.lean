/-
  Plain mathematics of records and their sums.
-/
import Derived.Test.YtdmbkhmhaininaaM
namespace Go.Proofs.Ytdmbkhmhaininaa
open Go.RowKit
set_option linter.unusedVariables false
set_option linter.unusedSimpArgs false

/-- a reading: its time, and its rate -/
structure Rc where
  t : Int
  lo : Int
  hi : Int
def recE (rs : Nat → Rc) (j : Nat) : Int := if inB (rs j).t 0 4294967296 && spanB (rs j).lo (rs j).hi 0 1000000 then (if j = 0 ∨ (rs (j - 1)).t < (rs j).t then 0 else 12) else 3
def recC (n : Nat) (rs : Nat → Rc) : Int := if n = 0 then 18 else firstE (recE rs) n
structure RecOk (n : Nat) (rs : Nat → Rc) : Prop where
  n1 : 1 ≤ n
  tb : ∀ j, j < n → 0 ≤ (rs j).t ∧ (rs j).t ≤ 4294967296
  rb : ∀ j, j < n → 0 ≤ (rs j).lo ∧ (rs j).lo ≤ (rs j).hi ∧ (rs j).hi ≤ 1000000
  asc : ∀ j, j + 1 < n → (rs j).t < (rs (j + 1)).t
theorem rec_ok {n : Nat} {rs : Nat → Rc} (h : recC n rs = 0) : RecOk n rs := by
  unfold recC at h
  by_cases h0 : n = 0
  · rw [if_pos h0] at h; exact absurd h (by decide)
  rw [if_neg h0] at h
  have key : ∀ j, j < n → (0 ≤ (rs j).t ∧ (rs j).t ≤ 4294967296) ∧ (0 ≤ (rs j).lo ∧ (rs j).lo ≤ (rs j).hi ∧ (rs j).hi ≤ 1000000) ∧ (j = 0 ∨ (rs (j - 1)).t < (rs j).t) := fun j hj => by
    have h1 := firstE_all h j hj
    unfold recE at h1
    cases h2 : inB (rs j).t 0 4294967296 <;> cases h3 : spanB (rs j).lo (rs j).hi 0 1000000 <;> simp only [h2, h3, Bool.and_false, Bool.false_and, Bool.and_true, Bool.false_eq_true, if_false, if_true] at h1
    · exact absurd h1 (by decide)
    · exact absurd h1 (by decide)
    · exact absurd h1 (by decide)
    · by_cases h4 : j = 0 ∨ (rs (j - 1)).t < (rs j).t
      · exact ⟨inB_true.1 h2, spanB_true.1 h3, h4⟩
      · rw [if_neg h4] at h1; exact absurd h1 (by decide)
  refine ⟨by omega, fun j hj => (key j hj).1, fun j hj => (key j hj).2.1, fun j hj => ?_⟩
  rcases (key (j + 1) hj).2.2 with h5 | h5
  · omega
  · exact h5
/-- the rate from a reading on, and until when -/
def rlo (n : Nat) (rs : Nat → Rc) (k : Nat) : Int := if k + 1 < n then min (rs k).lo (rs (k + 1)).lo else (rs k).lo
def rhi (n : Nat) (rs : Nat → Rc) (k : Nat) : Int := if k + 1 < n then max (rs k).hi (rs (k + 1)).hi else (rs k).hi
def unt (n : Nat) (rs : Nat → Rc) (en : Int) (k : Nat) : Int := if k + 1 < n then (rs (k + 1)).t else en
def prL (n : Nat) (rs : Nat → Rc) (en : Int) : Nat → Int
  | 0 => 0
  | k + 1 => prL n rs en k + rlo n rs k * (unt n rs en k - (rs k).t)
def prH (n : Nat) (rs : Nat → Rc) (en : Int) : Nat → Int
  | 0 => 0
  | k + 1 => prH n rs en k + rhi n rs k * (unt n rs en k - (rs k).t)
/-- the time of a reading, or the end -/
def tim (n : Nat) (rs : Nat → Rc) (en : Int) (k : Nat) : Int := if k < n then (rs k).t else en
theorem unt_tim {n : Nat} {rs : Nat → Rc} {en : Int} (k : Nat) : unt n rs en k = tim n rs en (k + 1) := rfl
theorem RecOk.step {n : Nat} {rs : Nat → Rc} {en : Int} (h : RecOk n rs) (he : (rs (n - 1)).t ≤ en) {k : Nat} (hk : k < n) : 0 ≤ unt n rs en k - (rs k).t := by
  unfold unt
  by_cases h1 : k + 1 < n
  · rw [if_pos h1]; have := h.asc k h1; omega
  · rw [if_neg h1]; rw [show n - 1 = k by omega] at he; omega
theorem RecOk.rates {n : Nat} {rs : Nat → Rc} (h : RecOk n rs) {k : Nat} (hk : k < n) : 0 ≤ rlo n rs k ∧ rlo n rs k ≤ rhi n rs k ∧ rhi n rs k ≤ 1000000 := by
  unfold rlo rhi
  have a := h.rb k hk
  by_cases h1 : k + 1 < n
  · rw [if_pos h1, if_pos h1]; have := h.rb (k + 1) h1; omega
  · rw [if_neg h1, if_neg h1]; exact a
theorem RecOk.sums {n : Nat} {rs : Nat → Rc} {en : Int} (h : RecOk n rs) (he : (rs (n - 1)).t ≤ en) : ∀ k, k ≤ n → 0 ≤ prL n rs en k ∧ prL n rs en k ≤ prH n rs en k ∧ prH n rs en k ≤ 1000000 * (tim n rs en k - (rs 0).t)
  | 0, _ => by
    have : tim n rs en 0 = (rs 0).t := by unfold tim; rw [if_pos (by have := h.n1; omega)]
    unfold prL prH; rw [this]; omega
  | k + 1, hk => by
    obtain ⟨a, b, c⟩ := h.sums he k (by omega)
    have d := h.step he (k := k) (by omega)
    obtain ⟨r1, r2, r3⟩ := h.rates (k := k) (by omega)
    have e : tim n rs en k = (rs k).t := by unfold tim; rw [if_pos (by omega)]
    have m1 : 0 ≤ rlo n rs k * (unt n rs en k - (rs k).t) := Int.mul_nonneg r1 d
    have m2 : rlo n rs k * (unt n rs en k - (rs k).t) ≤ rhi n rs k * (unt n rs en k - (rs k).t) := Int.mul_le_mul_of_nonneg_right r2 d
    have m3 : rhi n rs k * (unt n rs en k - (rs k).t) ≤ 1000000 * (unt n rs en k - (rs k).t) := Int.mul_le_mul_of_nonneg_right r3 d
    have f := unt_tim (n := n) (rs := rs) (en := en) k
    rw [e] at c
    unfold prL prH
    rw [← f]
    omega
theorem RecOk.sums_bd {n : Nat} {rs : Nat → Rc} {en : Int} (h : RecOk n rs) (he : (rs (n - 1)).t ≤ en) (h2 : en ≤ 4294967296) {k : Nat} (hk : k ≤ n) : 0 ≤ prL n rs en k ∧ prL n rs en k ≤ prH n rs en k ∧ prH n rs en k ≤ 4294967296000000 := by
  obtain ⟨a, b, c⟩ := h.sums he k hk
  have d := h.tb 0 (by have := h.n1; omega)
  have e : tim n rs en k ≤ 4294967296 := by
    unfold tim
    by_cases h1 : k < n
    · rw [if_pos h1]; exact (h.tb k h1).2
    · rw [if_neg h1]; exact h2
  omega
/-- the answers of Sum -/
def smE (n : Nat) (rs : Nat → Rc) (en sl : Int) : Int := if recC n rs = 0 then (if inB en 0 4294967296 && inB sl 0 1000 then (if (rs (n - 1)).t ≤ en then 0 else 17) else 3) else recC n rs
def smL (n : Nat) (rs : Nat → Rc) (en sl : Int) : Int := if smE n rs en sl = 0 then prL n rs en n * (1000 - sl) / 360000 else 0
def smH (n : Nat) (rs : Nat → Rc) (en sl : Int) : Int := if smE n rs en sl = 0 then cdiv (prH n rs en n * (1000 + sl)) 360000 else 0

end Go.Proofs.Ytdmbkhmhaininaa
