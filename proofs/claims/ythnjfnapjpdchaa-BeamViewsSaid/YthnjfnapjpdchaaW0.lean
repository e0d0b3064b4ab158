/-
  The walks over sort.Search, at both closures; over isBefore and the closures.
-/
import Derived.Test.YthnjfnapjpdchaaP
import Derived.Test.YthnjfnapjpdchaaD
namespace Go.Proofs.Ythnjfnapjpdchaa
open Go.RowKit
set_option linter.unusedVariables false

/-- between i and j lies the least number that passes -/
def SrchRel (n : Nat) (p : Nat → Bool) (i j : Nat) : Prop := i ≤ j ∧ j ≤ n ∧ (∀ k, k < i → p k = false) ∧ (∀ k, j ≤ k → k < n → p k = true)
/-- the number that Search answers -/
def SrchIs (n : Nat) (p : Nat → Bool) (r : Nat) : Prop := r ≤ n ∧ (∀ k, k < r → p k = false) ∧ (∀ k, r ≤ k → k < n → p k = true)

/-- what Search answers -/
def SrchRet (n : Nat) (p : Nat → Bool) (w : World) (e : Ending) (w' : World) : Prop := ∃ r : Nat, SrchIs n p r ∧ e = .returned (.int .i64 r) ∧ Below w.heap.size w w'

theorem srch_yes {n : Nat} {p : Nat → Bool} {a b m : Nat} (hmono : ∀ i j, i ≤ j → j < n → p i = true → p j = true) (h : SrchRel n p a b) (h1 : a ≤ m) (h2 : m < b) (hp : p m = true) : SrchRel n p a m := by
  obtain ⟨g1, g2, g3, g4⟩ := h
  exact ⟨h1, by omega, g3, fun k k1 k2 => hmono m k k1 k2 hp⟩
theorem srch_no {n : Nat} {p : Nat → Bool} {a b m : Nat} (hmono : ∀ i j, i ≤ j → j < n → p i = true → p j = true) (h : SrchRel n p a b) (h1 : a ≤ m) (h2 : m < b) (hp : p m = false) : SrchRel n p (m + 1) b := by
  obtain ⟨g1, g2, g3, g4⟩ := h
  refine ⟨by omega, g2, fun k hk => ?_, g4⟩
  cases e : p k
  · rfl
  · have := hmono k m (by omega) (by omega) e
    rw [hp] at this; cases this
theorem srch_end {n : Nat} {p : Nat → Bool} {a b : Nat} (h : SrchRel n p a b) (h1 : ¬ a < b) : SrchIs n p a := by
  obtain ⟨g1, g2, g3, g4⟩ := h
  exact ⟨by omega, g3, fun k k1 k2 => g4 k (by omega) k2⟩

set_option maxHeartbeats 1600000 in
theorem isBefore_any (a b c d : Int) (w : World) (h1 : -1000000000000000 ≤ d * a ∧ d * a ≤ 1000000000000000) (h2 : -1000000000000000 ≤ c * b ∧ c * b ≤ 1000000000000000) :
    Calls Try.prog 103 #[.agg #[.int .i64 a, .int .i64 b], .agg #[.int .i64 c, .int .i64 d]] w
      fun e w' => e = .returned (.bool (decide (d * a < c * b))) ∧ Below w.heap.size w w' := by
  go_enter Try.func103, Try.ntmps103
  go_wp2
  go_ret
  exact ⟨rfl, by repeat (first | exact Below.refl _ _ | (refine Below.alloc ?_ (by simp) _))⟩

set_option maxHeartbeats 1600000 in
theorem Search97 (n : Nat) (c1 c2 : Value) (p : Nat → Bool) (w : World) (hn : n ≤ 1000000) (hmono : ∀ i j, i ≤ j → j < n → p i = true → p j = true)
    (hf : ∀ (k : Nat) (wr : World), k < n → Below w.heap.size w wr → Calls Try.prog 97 #[.int .i64 k, c1, c2] wr fun e w' => e = .returned (.bool (p k)) ∧ Below wr.heap.size wr w') :
    Calls Try.prog 96 #[.int .i64 n, .func (Fn.func 97) #[] #[c1, c2]] w (SrchRet n p w) := by
  have HF := Lib.hid hf
  have HM := Lib.hid hmono
  clear hf hmono
  go_enter Try.func96, Try.ntmps96
  go_wp2
  go_loopw [5, 6] (fun i j wr => ∃ a b : Nat, SrchRel n p a b ∧ i = .int .i64 a ∧ j = .int .i64 b ∧ Below w.heap.size w wr) (fun i j _ => (intOf j).toNat - (intOf i).toNat)
  case atStart => exact ⟨0, n, ⟨Nat.zero_le _, Nat.le_refl _, fun k hk => by omega, fun k h1 h2 => by omega⟩, rfl, rfl, Below.refl _ _⟩
  case round =>
    obtain ⟨a, b, hrel, rfl, rfl, hbw⟩ := hrel
    have h1 : a ≤ b := hrel.1
    have h2 : b ≤ n := hrel.2.1
    have HR := Lib.hid hrel
    clear hrel
    by_cases hlt : a < b
    · have e1 : ((a : Int) + (b : Int)) / 2 = (((a + b) / 2 : Nat) : Int) := by omega
      have E1 := Lib.hid e1
      clear e1
      obtain ⟨m, hm⟩ : ∃ m, m = (a + b) / 2 := ⟨_, rfl⟩
      have m1 : a ≤ m := by omega
      have m2 : m < b := by omega
      have HFm := Lib.hid (HF.out m wr (by omega) hbw)
      have HM2 := Lib.hid hm
      clear hm
      rcases (Bool.eq_false_or_eq_true (p m)).symm with hp | hp
      · have HR2 := Lib.hid (srch_no HM.out HR.out m1 m2 hp)
        rw [hp] at HFm
        clear hp
        go_wp2_with fail
        rw [E1.out, ← HM2.out]
        refine (HFm.out).mono ?_; rintro e w1 ⟨rfl, hb1⟩
        have hbw2 := hbw.trans (hb1.mono hbw.size)
        clear hb1
        go_wp2
        go_roundw
        case rel => exact ⟨m + 1, b, HR2.out, by go_num, rfl, hbw2⟩
        case measure => simp [intOf]; omega
      · have HR2 := Lib.hid (srch_yes HM.out HR.out m1 m2 hp)
        rw [hp] at HFm
        clear hp
        go_wp2_with fail
        rw [E1.out, ← HM2.out]
        refine (HFm.out).mono ?_; rintro e w1 ⟨rfl, hb1⟩
        have hbw2 := hbw.trans (hb1.mono hbw.size)
        clear hb1
        go_wp2
        go_roundw
        case rel => exact ⟨a, m, HR2.out, rfl, rfl, hbw2⟩
        case measure => simp [intOf]; omega
    · have HS := Lib.hid (srch_end HR.out hlt)
      go_wp2
      go_ret
      exact ⟨a, HS.out, rfl, hbw⟩

set_option maxHeartbeats 1600000 in
theorem Search102 (n : Nat) (c1 c2 : Value) (p : Nat → Bool) (w : World) (hn : n ≤ 1000000) (hmono : ∀ i j, i ≤ j → j < n → p i = true → p j = true)
    (hf : ∀ (k : Nat) (wr : World), k < n → Below w.heap.size w wr → Calls Try.prog 102 #[.int .i64 k, c1, c2] wr fun e w' => e = .returned (.bool (p k)) ∧ Below wr.heap.size wr w') :
    Calls Try.prog 96 #[.int .i64 n, .func (Fn.func 102) #[] #[c1, c2]] w (SrchRet n p w) := by
  have HF := Lib.hid hf
  have HM := Lib.hid hmono
  clear hf hmono
  go_enter Try.func96, Try.ntmps96
  go_wp2
  go_loopw [5, 6] (fun i j wr => ∃ a b : Nat, SrchRel n p a b ∧ i = .int .i64 a ∧ j = .int .i64 b ∧ Below w.heap.size w wr) (fun i j _ => (intOf j).toNat - (intOf i).toNat)
  case atStart => exact ⟨0, n, ⟨Nat.zero_le _, Nat.le_refl _, fun k hk => by omega, fun k h1 h2 => by omega⟩, rfl, rfl, Below.refl _ _⟩
  case round =>
    obtain ⟨a, b, hrel, rfl, rfl, hbw⟩ := hrel
    have h1 : a ≤ b := hrel.1
    have h2 : b ≤ n := hrel.2.1
    have HR := Lib.hid hrel
    clear hrel
    by_cases hlt : a < b
    · have e1 : ((a : Int) + (b : Int)) / 2 = (((a + b) / 2 : Nat) : Int) := by omega
      have E1 := Lib.hid e1
      clear e1
      obtain ⟨m, hm⟩ : ∃ m, m = (a + b) / 2 := ⟨_, rfl⟩
      have m1 : a ≤ m := by omega
      have m2 : m < b := by omega
      have HFm := Lib.hid (HF.out m wr (by omega) hbw)
      have HM2 := Lib.hid hm
      clear hm
      rcases (Bool.eq_false_or_eq_true (p m)).symm with hp | hp
      · have HR2 := Lib.hid (srch_no HM.out HR.out m1 m2 hp)
        rw [hp] at HFm
        clear hp
        go_wp2_with fail
        rw [E1.out, ← HM2.out]
        refine (HFm.out).mono ?_; rintro e w1 ⟨rfl, hb1⟩
        have hbw2 := hbw.trans (hb1.mono hbw.size)
        clear hb1
        go_wp2
        go_roundw
        case rel => exact ⟨m + 1, b, HR2.out, by go_num, rfl, hbw2⟩
        case measure => simp [intOf]; omega
      · have HR2 := Lib.hid (srch_yes HM.out HR.out m1 m2 hp)
        rw [hp] at HFm
        clear hp
        go_wp2_with fail
        rw [E1.out, ← HM2.out]
        refine (HFm.out).mono ?_; rintro e w1 ⟨rfl, hb1⟩
        have hbw2 := hbw.trans (hb1.mono hbw.size)
        clear hb1
        go_wp2
        go_roundw
        case rel => exact ⟨a, m, HR2.out, rfl, rfl, hbw2⟩
        case measure => simp [intOf]; omega
    · have HS := Lib.hid (srch_end HR.out hlt)
      go_wp2
      go_ret
      exact ⟨a, HS.out, rfl, hbw⟩

end Go.Proofs.Ythnjfnapjpdchaa
