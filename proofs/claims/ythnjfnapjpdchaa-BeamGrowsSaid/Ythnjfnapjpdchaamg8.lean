/-
  Walks over the examples' grid and field.
-/
import Derived.Test.Ythnjfnapjpdchaamg4
import Derived.Test.Ythnjfnapjpdchaamg3
import Derived.Test.Ythnjfnapjpdchaamg6
namespace Go.Proofs.Ythnjfnapjpdchaa
open Go.RowKit
set_option linter.unusedVariables false

set_option maxHeartbeats 400000 in
theorem G_any (w : World) :
    Calls Try.prog 55 #[] w fun e w' => e = .returned (.agg #[.int .i64 (-5000), .int .i64 (-5000), .int .i64 5000, .int .i64 2, .int .i64 2]) ∧ Below w.heap.size w w' := by
  go_enter Try.func55, Try.ntmps55
  go_wp2
  exact bodyPost_ret (v := .agg #[.int .i64 (-5000), .int .i64 (-5000), .int .i64 5000, .int .i64 2, .int .i64 2]) (by simp [results, Try.results55, go_sem]) rfl ⟨rfl, by repeat (first | exact Below.refl _ _ | (refine Below.setCell ?_ (by simp) _) | (refine Below.alloc ?_ (by simp) _))⟩

theorem set_other {w : World} {b i j : Nat} {v x : Value} (h : i ≠ j) (hc : w.cell? ⟨b, j, none⟩ = some x) : (w.setCell ⟨b, i, none⟩ v).cell? ⟨b, j, none⟩ = some x := by
  rw [World.cell?_setCell_other _ _ _ _ (fun e => h (by injection e))]; exact hc
theorem set_same {w : World} {b i : Nat} {v x : Value} (hc : w.cell? ⟨b, i, none⟩ = some x) : (w.setCell ⟨b, i, none⟩ v).cell? ⟨b, i, none⟩ = some v :=
  World.cell?_setCell_same' _ _ _ (by rw [hc]; rfl)

/-- the spans of the examples' field -/
def zsH (i : Nat) : Int × Int := if i = 3 then (150, 200) else (0, 0)

/-- what Hill answers -/
def HillRet (w : World) (e : Ending) (w' : World) : Prop := ∃ b : Nat, e = .returned (.agg #[.int .i64 (-5000), .int .i64 (-5000), .int .i64 5000, .int .i64 2, .int .i64 2, .slice (some ⟨b, 0, none⟩) 4 4]) ∧ SliceIs w' (some ⟨b, 0, none⟩) 4 4 zsH ∧ Below w.heap.size w w'

set_option maxHeartbeats 1600000 in
theorem Hill_any (w : World) : Calls Try.prog 24 #[] w (HillRet w) := by
  go_enter Try.func24, Try.ntmps24
  go_wp2_with fail
  refine (G_any _).mono ?_; rintro e w1 ⟨rfl, hb1⟩
  have hz := hb1.size
  simp only [World.size_alloc] at hz
  have y0 : w.heap.size < w1.heap.size := by omega
  have hbw : Below w.heap.size w w1 := Below.trans (below_alloc _ _) (hb1.mono (by simp))
  have H1 := Lib.hid hb1
  obtain ⟨hc, hf⟩ := bcell hb1
  clear hb1
  go_wp2
  have hb1 := H1.out
  have k0 : w1.cell? ⟨w.heap.size, 0, none⟩ = some (.int .i64 0) := keepB hb1 (by simp) (alloc_new rfl rfl)
  have k1 : w1.cell? ⟨w.heap.size, 1, none⟩ = some (.int .i64 0) := keepB hb1 (by simp) (alloc_new rfl rfl)
  have k2 : w1.cell? ⟨w.heap.size, 2, none⟩ = some (.int .i64 0) := keepB hb1 (by simp) (alloc_new rfl rfl)
  have k3 : w1.cell? ⟨w.heap.size, 3, none⟩ = some (.int .i64 0) := keepB hb1 (by simp) (alloc_new rfl rfl)
  have k4 : w1.cell? ⟨w.heap.size, 4, none⟩ = some (.int .i64 0) := keepB hb1 (by simp) (alloc_new rfl rfl)
  have k5 : w1.cell? ⟨w.heap.size, 5, none⟩ = some (.slice none 0 0) := keepB hb1 (by simp) (alloc_new rfl rfl)
  obtain ⟨X, hX⟩ : ∃ X : World, X = ((((((w1.setCell ⟨w.heap.size, 0, none⟩ (.int .i64 (-5000))).setCell ⟨w.heap.size, 1, none⟩ (.int .i64 (-5000))).setCell ⟨w.heap.size, 2, none⟩ (.int .i64 5000)).setCell ⟨w.heap.size, 3, none⟩ (.int .i64 2)).setCell ⟨w.heap.size, 4, none⟩ (.int .i64 2)).setCell ⟨w.heap.size, 5, none⟩ (.slice (some ⟨w1.heap.size, 0, none⟩) 4 4)) := ⟨_, rfl⟩
  have hsz : X.heap.size = w1.heap.size := by rw [hX]; simp
  have hXb : Below w.heap.size w X := by
    rw [hX]
    exact ((((((hbw.setCell (p := ⟨w.heap.size, 0, none⟩) (Nat.le_refl _) _).setCell (p := ⟨w.heap.size, 1, none⟩) (Nat.le_refl _) _).setCell (p := ⟨w.heap.size, 2, none⟩) (Nat.le_refl _) _).setCell (p := ⟨w.heap.size, 3, none⟩) (Nat.le_refl _) _).setCell (p := ⟨w.heap.size, 4, none⟩) (Nat.le_refl _) _).setCell (p := ⟨w.heap.size, 5, none⟩) (Nat.le_refl _) _)
  have c0 : X.cell? ⟨w.heap.size, 0, none⟩ = some (.int .i64 (-5000)) := by rw [hX]; exact (set_other (by decide) (set_other (by decide) (set_other (by decide) (set_other (by decide) (set_other (by decide) (set_same k0))))))
  have c1 : X.cell? ⟨w.heap.size, 1, none⟩ = some (.int .i64 (-5000)) := by rw [hX]; exact (set_other (by decide) (set_other (by decide) (set_other (by decide) (set_other (by decide) (set_same (set_other (by decide) k1))))))
  have c2 : X.cell? ⟨w.heap.size, 2, none⟩ = some (.int .i64 5000) := by rw [hX]; exact (set_other (by decide) (set_other (by decide) (set_other (by decide) (set_same (set_other (by decide) (set_other (by decide) k2))))))
  have c3 : X.cell? ⟨w.heap.size, 3, none⟩ = some (.int .i64 2) := by rw [hX]; exact (set_other (by decide) (set_other (by decide) (set_same (set_other (by decide) (set_other (by decide) (set_other (by decide) k3))))))
  have c4 : X.cell? ⟨w.heap.size, 4, none⟩ = some (.int .i64 2) := by rw [hX]; exact (set_other (by decide) (set_same (set_other (by decide) (set_other (by decide) (set_other (by decide) (set_other (by decide) k4))))))
  have c5 : X.cell? ⟨w.heap.size, 5, none⟩ = some (.slice (some ⟨w1.heap.size, 0, none⟩) 4 4) := by rw [hX]; exact (set_same (set_other (by decide) (set_other (by decide) (set_other (by decide) (set_other (by decide) (set_other (by decide) k5))))))
  rw [← hX]
  have d0 := alloc_keep (o := .cells #[.int .i64 0, .int .i64 0, .int .i64 0, .int .i64 0, .int .i64 0, .int .i64 0, .int .i64 150, .int .i64 200] 43) (by omega) c0
  have d1 := alloc_keep (o := .cells #[.int .i64 0, .int .i64 0, .int .i64 0, .int .i64 0, .int .i64 0, .int .i64 0, .int .i64 150, .int .i64 200] 43) (by omega) c1
  have d2 := alloc_keep (o := .cells #[.int .i64 0, .int .i64 0, .int .i64 0, .int .i64 0, .int .i64 0, .int .i64 0, .int .i64 150, .int .i64 200] 43) (by omega) c2
  have d3 := alloc_keep (o := .cells #[.int .i64 0, .int .i64 0, .int .i64 0, .int .i64 0, .int .i64 0, .int .i64 0, .int .i64 150, .int .i64 200] 43) (by omega) c3
  have d4 := alloc_keep (o := .cells #[.int .i64 0, .int .i64 0, .int .i64 0, .int .i64 0, .int .i64 0, .int .i64 0, .int .i64 150, .int .i64 200] 43) (by omega) c4
  have d5 := alloc_keep (o := .cells #[.int .i64 0, .int .i64 0, .int .i64 0, .int .i64 0, .int .i64 0, .int .i64 0, .int .i64 150, .int .i64 200] 43) (by omega) c5
  refine bodyPost_ret (v := .agg #[.int .i64 (-5000), .int .i64 (-5000), .int .i64 5000, .int .i64 2, .int .i64 2, .slice (some ⟨w1.heap.size, 0, none⟩) 4 4]) (by simp [results, Try.results24, go_sem, d0, d1, d2, d3, d4, d5]) rfl ⟨w1.heap.size, rfl, .inr ⟨w1.heap.size, 0, rfl, by simp only [World.size_alloc]; omega, fun i hi => ?_⟩, hXb.alloc (by omega) _⟩
  have hi' : i = 0 ∨ i = 1 ∨ i = 2 ∨ i = 3 := by omega
  rcases hi' with rfl | rfl | rfl | rfl <;> exact ⟨alloc_new (by omega) rfl, alloc_new (by omega) rfl⟩

theorem hill_C : fieldC (-5000) (-5000) 5000 2 2 4 zsH 1073741824 = 0 := by
  rw [fieldC_spans (by decide) (by decide), spansC_ok]
  intro j hj
  have hj' : j = 0 ∨ j = 1 ∨ j = 2 ∨ j = 3 := by omega
  rcases hj' with rfl | rfl | rfl | rfl <;> decide

theorem CheckField_Hill (b : Nat) (w : World) (hs : SliceIs w (some ⟨b, 0, none⟩) 4 4 zsH) :
    Calls Try.prog 21 #[.agg #[.int .i64 (-5000), .int .i64 (-5000), .int .i64 5000, .int .i64 2, .int .i64 2, .slice (some ⟨b, 0, none⟩) 4 4]] w fun e w' => e = .returned (.int .i64 0) ∧ Below w.heap.size w w' := by
  have h := CheckField_any (-5000) (-5000) 5000 2 2 (some ⟨b, 0, none⟩) 4 4 zsH w (by decide) hs
  rw [hill_C] at h
  exact h

end Go.Proofs.Ythnjfnapjpdchaa

namespace Go.Proofs.Ythnjfnapjpdchaa
open Go.RowKit
set_option linter.unusedVariables false

/-- between i and j lies the least number that passes -/
def SrchRel (n : Nat) (p : Nat → Bool) (i j : Nat) : Prop := i ≤ j ∧ j ≤ n ∧ (∀ k, k < i → p k = false) ∧ (∀ k, j ≤ k → k < n → p k = true)
/-- the number that Search answers -/
def SrchIs (n : Nat) (p : Nat → Bool) (r : Nat) : Prop := r ≤ n ∧ (∀ k, k < r → p k = false) ∧ (∀ k, r ≤ k → k < n → p k = true)

/-- what Search answers -/
def SrchRet (n : Nat) (p : Nat → Bool) (w : World) (e : Ending) (w' : World) : Prop := ∃ r : Nat, SrchIs n p r ∧ e = .returned (.int .i64 r) ∧ Below w.heap.size w w'

theorem srch_yes {n : Nat} {p : Nat → Bool} {a b m : Nat} (hmono : ∀ i j, i ≤ j → j < n → p i = true → p j = true) (h : SrchRel n p a b) (h1 : a ≤ m) (h2 : m < b) (hp : p m = true) : SrchRel n p a m := by
  obtain ⟨g1, g2, g3, g4⟩ := h
  exact ⟨h1, by omega, g3, fun k k1 k2 => hmono m k k1 k2 hp⟩
theorem srch_no {n : Nat} {p : Nat → Bool} {a b m : Nat} (hmono : ∀ i j, i ≤ j → j < n → p i = true → p j = true) (h : SrchRel n p a b) (h1 : a ≤ m) (h2 : m < b) (hp : p m = false) : SrchRel n p (m + 1) b := by
  obtain ⟨g1, g2, g3, g4⟩ := h
  refine ⟨by omega, g2, fun k hk => ?_, g4⟩
  cases e : p k
  · rfl
  · have := hmono k m (by omega) (by omega) e
    rw [hp] at this; cases this
theorem srch_end {n : Nat} {p : Nat → Bool} {a b : Nat} (h : SrchRel n p a b) (h1 : ¬ a < b) : SrchIs n p a := by
  obtain ⟨g1, g2, g3, g4⟩ := h
  exact ⟨by omega, g3, fun k k1 k2 => g4 k (by omega) k2⟩

set_option maxHeartbeats 1600000 in
theorem isBefore_any (a b c d : Int) (w : World) (h1 : -1000000000000000 ≤ d * a ∧ d * a ≤ 1000000000000000) (h2 : -1000000000000000 ≤ c * b ∧ c * b ≤ 1000000000000000) :
    Calls Try.prog 103 #[.agg #[.int .i64 a, .int .i64 b], .agg #[.int .i64 c, .int .i64 d]] w
      fun e w' => e = .returned (.bool (decide (d * a < c * b))) ∧ Below w.heap.size w w' := by
  go_enter Try.func103, Try.ntmps103
  go_wp2
  go_ret
  exact ⟨rfl, by repeat (first | exact Below.refl _ _ | (refine Below.alloc ?_ (by simp) _))⟩

set_option maxHeartbeats 1600000 in
theorem Search97 (n : Nat) (c1 c2 : Value) (p : Nat → Bool) (w : World) (hn : n ≤ 1000000) (hmono : ∀ i j, i ≤ j → j < n → p i = true → p j = true)
    (hf : ∀ (k : Nat) (wr : World), k < n → Below w.heap.size w wr → Calls Try.prog 97 #[.int .i64 k, c1, c2] wr fun e w' => e = .returned (.bool (p k)) ∧ Below wr.heap.size wr w') :
    Calls Try.prog 96 #[.int .i64 n, .func (Fn.func 97) #[] #[c1, c2]] w (SrchRet n p w) := by
  have HF := Lib.hid hf
  have HM := Lib.hid hmono
  clear hf hmono
  go_enter Try.func96, Try.ntmps96
  go_wp2
  go_loopw [5, 6] (fun i j wr => ∃ a b : Nat, SrchRel n p a b ∧ i = .int .i64 a ∧ j = .int .i64 b ∧ Below w.heap.size w wr) (fun i j _ => (intOf j).toNat - (intOf i).toNat)
  case atStart => exact ⟨0, n, ⟨Nat.zero_le _, Nat.le_refl _, fun k hk => by omega, fun k h1 h2 => by omega⟩, rfl, rfl, Below.refl _ _⟩
  case round =>
    obtain ⟨a, b, hrel, rfl, rfl, hbw⟩ := hrel
    have h1 : a ≤ b := hrel.1
    have h2 : b ≤ n := hrel.2.1
    have HR := Lib.hid hrel
    clear hrel
    by_cases hlt : a < b
    · have e1 : ((a : Int) + (b : Int)) / 2 = (((a + b) / 2 : Nat) : Int) := by omega
      have E1 := Lib.hid e1
      clear e1
      obtain ⟨m, hm⟩ : ∃ m, m = (a + b) / 2 := ⟨_, rfl⟩
      have m1 : a ≤ m := by omega
      have m2 : m < b := by omega
      have HFm := Lib.hid (HF.out m wr (by omega) hbw)
      have HM2 := Lib.hid hm
      clear hm
      rcases (Bool.eq_false_or_eq_true (p m)).symm with hp | hp
      · have HR2 := Lib.hid (srch_no HM.out HR.out m1 m2 hp)
        rw [hp] at HFm
        clear hp
        go_wp2_with fail
        rw [E1.out, ← HM2.out]
        refine (HFm.out).mono ?_; rintro e w1 ⟨rfl, hb1⟩
        have hbw2 := hbw.trans (hb1.mono hbw.size)
        clear hb1
        go_wp2
        go_roundw
        case rel => exact ⟨m + 1, b, HR2.out, by go_num, rfl, hbw2⟩
        case measure => simp [intOf]; omega
      · have HR2 := Lib.hid (srch_yes HM.out HR.out m1 m2 hp)
        rw [hp] at HFm
        clear hp
        go_wp2_with fail
        rw [E1.out, ← HM2.out]
        refine (HFm.out).mono ?_; rintro e w1 ⟨rfl, hb1⟩
        have hbw2 := hbw.trans (hb1.mono hbw.size)
        clear hb1
        go_wp2
        go_roundw
        case rel => exact ⟨a, m, HR2.out, rfl, rfl, hbw2⟩
        case measure => simp [intOf]; omega
    · have HS := Lib.hid (srch_end HR.out hlt)
      go_wp2
      go_ret
      exact ⟨a, HS.out, rfl, hbw⟩

set_option maxHeartbeats 1600000 in
theorem Search102 (n : Nat) (c1 c2 : Value) (p : Nat → Bool) (w : World) (hn : n ≤ 1000000) (hmono : ∀ i j, i ≤ j → j < n → p i = true → p j = true)
    (hf : ∀ (k : Nat) (wr : World), k < n → Below w.heap.size w wr → Calls Try.prog 102 #[.int .i64 k, c1, c2] wr fun e w' => e = .returned (.bool (p k)) ∧ Below wr.heap.size wr w') :
    Calls Try.prog 96 #[.int .i64 n, .func (Fn.func 102) #[] #[c1, c2]] w (SrchRet n p w) := by
  have HF := Lib.hid hf
  have HM := Lib.hid hmono
  clear hf hmono
  go_enter Try.func96, Try.ntmps96
  go_wp2
  go_loopw [5, 6] (fun i j wr => ∃ a b : Nat, SrchRel n p a b ∧ i = .int .i64 a ∧ j = .int .i64 b ∧ Below w.heap.size w wr) (fun i j _ => (intOf j).toNat - (intOf i).toNat)
  case atStart => exact ⟨0, n, ⟨Nat.zero_le _, Nat.le_refl _, fun k hk => by omega, fun k h1 h2 => by omega⟩, rfl, rfl, Below.refl _ _⟩
  case round =>
    obtain ⟨a, b, hrel, rfl, rfl, hbw⟩ := hrel
    have h1 : a ≤ b := hrel.1
    have h2 : b ≤ n := hrel.2.1
    have HR := Lib.hid hrel
    clear hrel
    by_cases hlt : a < b
    · have e1 : ((a : Int) + (b : Int)) / 2 = (((a + b) / 2 : Nat) : Int) := by omega
      have E1 := Lib.hid e1
      clear e1
      obtain ⟨m, hm⟩ : ∃ m, m = (a + b) / 2 := ⟨_, rfl⟩
      have m1 : a ≤ m := by omega
      have m2 : m < b := by omega
      have HFm := Lib.hid (HF.out m wr (by omega) hbw)
      have HM2 := Lib.hid hm
      clear hm
      rcases (Bool.eq_false_or_eq_true (p m)).symm with hp | hp
      · have HR2 := Lib.hid (srch_no HM.out HR.out m1 m2 hp)
        rw [hp] at HFm
        clear hp
        go_wp2_with fail
        rw [E1.out, ← HM2.out]
        refine (HFm.out).mono ?_; rintro e w1 ⟨rfl, hb1⟩
        have hbw2 := hbw.trans (hb1.mono hbw.size)
        clear hb1
        go_wp2
        go_roundw
        case rel => exact ⟨m + 1, b, HR2.out, by go_num, rfl, hbw2⟩
        case measure => simp [intOf]; omega
      · have HR2 := Lib.hid (srch_yes HM.out HR.out m1 m2 hp)
        rw [hp] at HFm
        clear hp
        go_wp2_with fail
        rw [E1.out, ← HM2.out]
        refine (HFm.out).mono ?_; rintro e w1 ⟨rfl, hb1⟩
        have hbw2 := hbw.trans (hb1.mono hbw.size)
        clear hb1
        go_wp2
        go_roundw
        case rel => exact ⟨a, m, HR2.out, rfl, rfl, hbw2⟩
        case measure => simp [intOf]; omega
    · have HS := Lib.hid (srch_end HR.out hlt)
      go_wp2
      go_ret
      exact ⟨a, HS.out, rfl, hbw⟩

end Go.Proofs.Ythnjfnapjpdchaa

namespace Go.Proofs.Ythnjfnapjpdchaa
open Go.RowKit
set_option linter.unusedVariables false

/-- integers in a row of a block -/
def IntsAt (w : World) (b n : Nat) (B : Nat → Int) : Prop := ∀ k, k < n → w.cell? ⟨b, k, none⟩ = some (.int .i64 (B k))
theorem IntsAt.keep {C b n : Nat} {W w1 : World} {B : Nat → Int} (s : IntsAt W b n B) (hb : Below C W w1) (h : b < C) : IntsAt w1 b n B := fun k hk => keepB hb h (s k hk)

set_option maxHeartbeats 1600000 in
theorem find1_any (q pb b n k : Nat) (sq : Int) (B : Nat → Int) (w : World) (hq : w.cell? ⟨q, 0, none⟩ = some (.int .i64 sq)) (hp : w.cell? ⟨pb, 0, none⟩ = some (.slice (some ⟨b, 0, none⟩) n n))
    (hs : IntsAt w b n B) (hk : k < n) (hn : n ≤ 1000000) (hB : 0 ≤ B k ∧ B k ≤ 1000000) :
    Calls Try.prog 97 #[.int .i64 k, .pointer (some ⟨q, 0, none⟩), .pointer (some ⟨pb, 0, none⟩)] w fun e w' => e = .returned (.bool (decide (sq < B k * B k))) ∧ Below w.heap.size w w' := by
  have hc := hs k hk
  have m1 := M.mul_bd hB.1 hB.2 hB.1 hB.2
  have q1 : IntKind.i64.wrap (B k * B k) = B k * B k := IntWalk.i64_in _ (by omega)
  have i1 : (0 : Int) ≤ (k : Int) := Int.natCast_nonneg _
  have i2 : (k : Int) < (n : Int) := by omega
  clear hs
  go_enter Try.func97, Try.ntmps97
  go_wp2
  go_quiet (fail)
  go_wp2
  go_ret
  exact ⟨rfl, below_drewN (Below.refl _ _) _⟩

set_option maxHeartbeats 1600000 in
theorem sector1_any (pr pv k : Nat) (n vx vy : Int) (w : World) (hr : w.cell? ⟨pr, 0, none⟩ = some (.int .i64 n)) (hv0 : w.cell? ⟨pv, 0, none⟩ = some (.int .i64 vx)) (hv1 : w.cell? ⟨pv, 1, none⟩ = some (.int .i64 vy))
    (h1 : 1 ≤ n) (h2 : n ≤ 90) (hk : (k : Int) < n) (b1 : -10000000 ≤ vx ∧ vx ≤ 10000000) (b2 : -10000000 ≤ vy ∧ vy ≤ 10000000) :
    Calls Try.prog 102 #[.int .i64 k, .pointer (some ⟨pr, 0, none⟩), .pointer (some ⟨pv, 0, none⟩)] w
      fun e w' => e = .returned (.bool (decide (dirY n k * vx < dirX n k * vy))) ∧ Below w.heap.size w w' := by
  obtain ⟨⟨d1, d2⟩, ⟨d3, d4⟩, _⟩ := dir_bd h1 (show n ≤ 180 by omega) (Int.natCast_nonneg k) (by omega)
  have m1 := M.mul_abs (a := dirY n k) (b := vx) (A := 64800) (B := 10000000) d3 d4 b1.1 b1.2
  have m2 := M.mul_abs (a := dirX n k) (b := vy) (A := 64800) (B := 10000000) d1 d2 b2.1 b2.2
  have l1 := World.block_lt_of_cell? w _ hv0
  have l2 := World.block_lt_of_cell? w _ hr
  have H0 := Lib.hid hv0
  have H1 := Lib.hid hv1
  go_enter Try.func102, Try.ntmps102
  go_wp2_with fail
  refine (towards_any n k _ h1 (by omega) (Int.natCast_nonneg _) (by omega)).mono ?_; rintro e w1 ⟨rfl, hb1⟩
  have c0 := keepB hb1 l1 H0.out
  have c1 := keepB hb1 l1 H1.out
  have l3 : pv < w1.heap.size := Nat.lt_of_lt_of_le l1 hb1.size
  have z1 := hb1.size
  have HB := Lib.hid hb1
  clear hb1 hv0 hv1
  go_wp2_with fail
  refine (isBefore_any _ _ _ _ _ (by omega) (by omega)).mono ?_; rintro e w2 ⟨rfl, hb2⟩
  go_wp2
  go_ret
  exact ⟨rfl, (HB.out).trans (Below.trans ((below_alloc _ _).mono z1) (hb2.mono (by simp only [World.size_alloc]; omega)))⟩

end Go.Proofs.Ythnjfnapjpdchaa

namespace Go.Proofs.Ythnjfnapjpdchaa
open Go.RowKit
set_option linter.unusedVariables false

/-- a vector in a box that may be written -/
structure VBox (w : World) (b : Nat) (x y : Int) : Prop where
  c0 : w.cell? ⟨b, 0, none⟩ = some (.int .i64 x)
  c1 : w.cell? ⟨b, 1, none⟩ = some (.int .i64 y)
  f0 : w.frozen? ⟨b, 0, none⟩ = false
  f1 : w.frozen? ⟨b, 1, none⟩ = false
theorem VBox.set {w : World} {b : Nat} {x y u v : Int} (s : VBox w b x y) : VBox ((w.setCell ⟨b, 0, none⟩ (.int .i64 u)).setCell ⟨b, 1, none⟩ (.int .i64 v)) b u v := by
  have e0 : (w.setCell ⟨b, 0, none⟩ (.int .i64 u)).cell? ⟨b, 0, none⟩ = some (.int .i64 u) := World.cell?_setCell_same' _ _ _ (by rw [s.c0]; rfl)
  have e1 : (w.setCell ⟨b, 0, none⟩ (.int .i64 u)).cell? ⟨b, 1, none⟩ = some (.int .i64 y) := by rw [World.cell?_setCell_other _ _ _ _ (by simp)]; exact s.c1
  refine ⟨?_, World.cell?_setCell_same' _ _ _ (by rw [e1]; rfl), ?_, ?_⟩
  · rw [World.cell?_setCell_other _ _ _ _ (by simp)]; exact e0
  · simp; exact s.f0
  · simp; exact s.f1
theorem VBox.keep {B b : Nat} {W w1 : World} {x y : Int} (s : VBox W b x y) (hb : Below B W w1) (h : b < B) : VBox w1 b x y := ⟨keepB hb h s.c0, keepB hb h s.c1, keepF hb h s.f0, keepF hb h s.f1⟩

/-- a vector turned on by quarters -/
def rotX (m : Nat) (a b : Int) : Int := if m = 0 then a else if m = 1 then b else if m = 2 then -a else -b
def rotY (m : Nat) (a b : Int) : Int := if m = 0 then b else if m = 1 then -a else if m = 2 then -b else a

/-- the test of the search -/
def before (n : Nat) (a b : Int) (k : Nat) : Bool := decide (dirY n k * a < dirX n k * b)

theorem dir_first {n k : Int} (h0 : 0 ≤ k) (h1 : k < n) : dirX n k = 2 * n * k ∧ dirY n k = n * n - k * k := by
  have h := dir_eq (q := 0) h0 h1
  simp [M.dx, M.dy] at h
  exact ⟨h.1, h.2.1⟩

theorem before_mono {n : Nat} {a b : Int} (ha : 0 ≤ a) (hb : 0 < b) : ∀ i j, i ≤ j → j < n → before n a b i = true → before n a b j = true := by
  intro i j hij hj hi
  unfold before at hi ⊢
  rw [decide_eq_true_iff] at hi ⊢
  obtain ⟨e1, e2⟩ := dir_first (n := n) (k := i) (Int.natCast_nonneg _) (by omega)
  obtain ⟨e3, e4⟩ := dir_first (n := n) (k := j) (Int.natCast_nonneg _) (by omega)
  rw [e1, e2] at hi
  rw [e3, e4]
  have s1 := M.sq_mono (a := (i : Int)) (b := (j : Int)) (by omega) (by omega)
  have l1 : ((n : Int) * n - (j : Int) * j) * a ≤ ((n : Int) * n - (i : Int) * i) * a := Int.mul_le_mul_of_nonneg_right (by omega) ha
  have l2 : 2 * (n : Int) * i ≤ 2 * (n : Int) * j := Int.mul_le_mul_of_nonneg_left (by omega) (by omega)
  have l3 : 2 * (n : Int) * i * b ≤ 2 * (n : Int) * j * b := Int.mul_le_mul_of_nonneg_right l2 (by omega)
  omega

/-- the ray in whose sector a vector is -/
def SecIs (n q : Nat) (a b : Int) (s : Int) : Prop := ∃ r : Nat, SrchIs n (before n a b) r ∧ s = q * n + r - 1
def SecRet (n q : Nat) (a b : Int) (w : World) (e : Ending) (w' : World) : Prop := ∃ s : Int, SecIs n q a b s ∧ e = .returned (.int .i64 s) ∧ Below w.heap.size w w'

/-- the relation of the loop -/
def RotRel (w : World) (n q : Nat) (a b : Int) (j : Nat) (wr : World) : Prop :=
  j ≤ q ∧ VBox wr (w.heap.size + 1) (rotX (q - j) a b) (rotY (q - j) a b) ∧ wr.cell? ⟨w.heap.size, 0, none⟩ = some (.int .i64 n) ∧ w.heap.size + 2 ≤ wr.heap.size ∧ Below w.heap.size w wr

theorem rot_turn {m : Nat} {a b : Int} (ha : 0 ≤ a) (hb : 0 < b) (h0 : 0 < m) (h : m ≤ 3) : (rotX m a b < 0 ∨ rotY m a b ≤ 0) ∧ -rotY m a b = rotX (m - 1) a b ∧ rotX m a b = rotY (m - 1) a b := by
  have hm : m = 1 ∨ m = 2 ∨ m = 3 := by omega
  rcases hm with rfl | rfl | rfl <;> simp [rotX, rotY] <;> omega
theorem rot_bd {m : Nat} {a b : Int} (ha : 0 ≤ a) (hb : 0 < b) (ha2 : a ≤ 10000000) (hb2 : b ≤ 10000000) : (-10000000 ≤ rotX m a b ∧ rotX m a b ≤ 10000000) ∧ (-10000000 ≤ rotY m a b ∧ rotY m a b ≤ 10000000) := by
  unfold rotX rotY
  split
  · omega
  · split
    · omega
    · split <;> omega
theorem sector_start (w : World) (n q : Nat) (a b X Y : Int) (hX : X = rotX q a b) (hY : Y = rotY q a b) :
    RotRel w n q a b 0 ((w.alloc (.cells #[.int .i64 n] 3)).alloc (.cells #[.int .i64 X, .int .i64 Y] 83)) := by
  have e : (w.alloc (.cells #[.int .i64 n] 3)).heap.size = w.heap.size + 1 := World.size_alloc _ _
  refine ⟨Nat.zero_le _, ?_, alloc_keep (by omega) (alloc_new rfl rfl), by simp, Below.trans (below_alloc _ _) ((below_alloc _ _).mono (by omega))⟩
  rw [Nat.sub_zero, ← hX, ← hY]
  exact ⟨alloc_new e.symm rfl, alloc_new e.symm rfl, alloc_newF e.symm, alloc_newF e.symm⟩
theorem rot_zero (a b : Int) : rotX 0 a b = a ∧ rotY 0 a b = b := ⟨rfl, rfl⟩

set_option maxHeartbeats 3200000 in
theorem sector_any (n q : Nat) (a b : Int) (w : World) (hq : q ≤ 3) (h1 : 1 ≤ n) (h2 : n ≤ 90) (ha : 0 ≤ a) (hb : 0 < b) (ha2 : a ≤ 10000000) (hb2 : b ≤ 10000000) (hne : (rotX q a b == 0 && rotY q a b == 0) = false) :
    Calls Try.prog 98 #[.int .i64 n, .agg #[.int .i64 (rotX q a b), .int .i64 (rotY q a b)]] w (SecRet n q a b w) := by
  obtain ⟨X, hX⟩ : ∃ X, X = rotX q a b := ⟨_, rfl⟩
  obtain ⟨Y, hY⟩ : ∃ Y, Y = rotY q a b := ⟨_, rfl⟩
  rw [← hX, ← hY] at hne ⊢
  have HX := Lib.hid hX
  have HY := Lib.hid hY
  clear hX hY
  by_cases hx0 : X = 0
  · subst hx0
    have hy0 : (Y == 0) = false := by simpa using hne
    have HNE := Lib.hid hne
    clear hne
    have START := Lib.hid (sector_start w n q a b 0 Y HX.out HY.out)
    go_enter Try.func98, Try.ntmps98
    go_wp2
    clear HNE
    go_loopw [5] (fun i wr => ∃ j : Nat, RotRel w n q a b j wr ∧ i = .int .i64 j) (fun i _ => q - (intOf i).toNat)
    case atStart => exact ⟨0, START.out, rfl⟩
    case round =>
      clear START
      obtain ⟨j, ⟨hj, hv, hr, hz, hbw⟩, rfl⟩ := hrel
      have y0 : w.heap.size < wr.heap.size := by omega
      have y1 : w.heap.size + 1 < wr.heap.size := by omega
      have HV := Lib.hid hv
      obtain ⟨v0, v1, f0, f1⟩ := hv
      by_cases hlt : j < q
      · obtain ⟨t1, t2, t3⟩ := rot_turn (m := q - j) ha hb (by omega) (by omega)
        obtain ⟨⟨g1, g2⟩, g3, g4⟩ := rot_bd (m := q - j) ha hb ha2 hb2
        have HV2 := Lib.hid (HV.out.set (u := -rotY (q - j) a b) (v := rotX (q - j) a b))
        have T2 := Lib.hid t2
        have T3 := Lib.hid t3
        obtain ⟨x, hx⟩ : ∃ x, x = rotX (q - j) a b := ⟨_, rfl⟩
        obtain ⟨y, hy⟩ : ∃ y, y = rotY (q - j) a b := ⟨_, rfl⟩
        rw [← hx] at v0 t1 g1 g2
        rw [← hy] at v1 t1 g3 g4
        have EX := Lib.hid hx
        have EY := Lib.hid hy
        clear t2 t3 hx hy HV
        have hbw2 : Below w.heap.size w ((wr.setCell ⟨w.heap.size + 1, 0, none⟩ (.int .i64 (-y))).setCell ⟨w.heap.size + 1, 1, none⟩ (.int .i64 x)) := (hbw.setCell (p := ⟨w.heap.size + 1, 0, none⟩) (Nat.le_succ _) _).setCell (p := ⟨w.heap.size + 1, 1, none⟩) (Nat.le_succ _) _
        have hr2 : ((wr.setCell ⟨w.heap.size + 1, 0, none⟩ (.int .i64 (-y))).setCell ⟨w.heap.size + 1, 1, none⟩ (.int .i64 x)).cell? ⟨w.heap.size, 0, none⟩ = some (.int .i64 n) := by
          rw [World.cell?_setCell_far _ _ _ _ (by dsimp only; omega), World.cell?_setCell_far _ _ _ _ (by dsimp only; omega)]; exact hr
        have HREL := Lib.hid (show RotRel w n q a b (j + 1) ((wr.setCell ⟨w.heap.size + 1, 0, none⟩ (.int .i64 (-y))).setCell ⟨w.heap.size + 1, 1, none⟩ (.int .i64 x)) from by
          refine ⟨by omega, ?_, hr2, by simp; omega, hbw2⟩
          have e : q - (j + 1) = q - j - 1 := by omega
          rw [e, ← T2.out, ← T3.out, EX.out, EY.out]
          exact HV2.out)
        clear hbw2 hr2
        by_cases hx0 : x < 0
        · go_wp2
          go_roundw
          case rel => exact ⟨j + 1, HREL.out, by go_num⟩
          case measure => simp [intOf]; omega
        · have hy0 : y ≤ 0 := by omega
          clear t1
          go_wp2
          go_roundw
          case rel => exact ⟨j + 1, HREL.out, by go_num⟩
          case measure => simp [intOf]; omega
      · obtain rfl : j = q := by omega
        rw [Nat.sub_self, (rot_zero a b).1] at v0
        rw [Nat.sub_self, (rot_zero a b).2] at v1
        have hbm := Lib.hid (before_mono (n := n) ha hb)
        go_wp2_with fail
        refine (Search102 n _ _ (before n a b) _ (by omega) hbm.out ?_).mono ?_
        · intro k w2 hk hb2'
          exact sector1_any _ _ k n a b w2 (keepB hb2' y0 hr) (keepB hb2' y1 v0) (keepB hb2' y1 v1) (by omega) (by omega) (by omega) ⟨by omega, ha2⟩ ⟨by omega, hb2⟩
        · rintro e w1 ⟨r, hs, rfl, hb1⟩
          have hr1 := keepB hb1 y0 hr
          have rn := hs.1
          have HS := Lib.hid hs
          have m1 := M.mul_bd (a := (j : Int)) (b := (n : Int)) (A := 3) (B := 90) (by omega) (by omega) (by omega) (by omega)
          clear v0 v1 f0 f1 HV
          go_wp2
          go_ret
          exact ⟨_, ⟨r, HS.out, rfl⟩, rfl, hbw.trans (hb1.mono (by omega))⟩
  · have hx1 : (X == 0) = false := by rw [beq_eq_false_iff_ne]; exact hx0
    have HNE := Lib.hid hne
    clear hne hx0
    have START := Lib.hid (sector_start w n q a b X Y HX.out HY.out)
    go_enter Try.func98, Try.ntmps98
    go_wp2
    clear HNE
    go_loopw [5] (fun i wr => ∃ j : Nat, RotRel w n q a b j wr ∧ i = .int .i64 j) (fun i _ => q - (intOf i).toNat)
    case atStart => exact ⟨0, START.out, rfl⟩
    case round =>
      clear START
      obtain ⟨j, ⟨hj, hv, hr, hz, hbw⟩, rfl⟩ := hrel
      have y0 : w.heap.size < wr.heap.size := by omega
      have y1 : w.heap.size + 1 < wr.heap.size := by omega
      have HV := Lib.hid hv
      obtain ⟨v0, v1, f0, f1⟩ := hv
      by_cases hlt : j < q
      · obtain ⟨t1, t2, t3⟩ := rot_turn (m := q - j) ha hb (by omega) (by omega)
        obtain ⟨⟨g1, g2⟩, g3, g4⟩ := rot_bd (m := q - j) ha hb ha2 hb2
        have HV2 := Lib.hid (HV.out.set (u := -rotY (q - j) a b) (v := rotX (q - j) a b))
        have T2 := Lib.hid t2
        have T3 := Lib.hid t3
        obtain ⟨x, hx⟩ : ∃ x, x = rotX (q - j) a b := ⟨_, rfl⟩
        obtain ⟨y, hy⟩ : ∃ y, y = rotY (q - j) a b := ⟨_, rfl⟩
        rw [← hx] at v0 t1 g1 g2
        rw [← hy] at v1 t1 g3 g4
        have EX := Lib.hid hx
        have EY := Lib.hid hy
        clear t2 t3 hx hy HV
        have hbw2 : Below w.heap.size w ((wr.setCell ⟨w.heap.size + 1, 0, none⟩ (.int .i64 (-y))).setCell ⟨w.heap.size + 1, 1, none⟩ (.int .i64 x)) := (hbw.setCell (p := ⟨w.heap.size + 1, 0, none⟩) (Nat.le_succ _) _).setCell (p := ⟨w.heap.size + 1, 1, none⟩) (Nat.le_succ _) _
        have hr2 : ((wr.setCell ⟨w.heap.size + 1, 0, none⟩ (.int .i64 (-y))).setCell ⟨w.heap.size + 1, 1, none⟩ (.int .i64 x)).cell? ⟨w.heap.size, 0, none⟩ = some (.int .i64 n) := by
          rw [World.cell?_setCell_far _ _ _ _ (by dsimp only; omega), World.cell?_setCell_far _ _ _ _ (by dsimp only; omega)]; exact hr
        have HREL := Lib.hid (show RotRel w n q a b (j + 1) ((wr.setCell ⟨w.heap.size + 1, 0, none⟩ (.int .i64 (-y))).setCell ⟨w.heap.size + 1, 1, none⟩ (.int .i64 x)) from by
          refine ⟨by omega, ?_, hr2, by simp; omega, hbw2⟩
          have e : q - (j + 1) = q - j - 1 := by omega
          rw [e, ← T2.out, ← T3.out, EX.out, EY.out]
          exact HV2.out)
        clear hbw2 hr2
        by_cases hx0 : x < 0
        · go_wp2
          go_roundw
          case rel => exact ⟨j + 1, HREL.out, by go_num⟩
          case measure => simp [intOf]; omega
        · have hy0 : y ≤ 0 := by omega
          clear t1
          go_wp2
          go_roundw
          case rel => exact ⟨j + 1, HREL.out, by go_num⟩
          case measure => simp [intOf]; omega
      · obtain rfl : j = q := by omega
        rw [Nat.sub_self, (rot_zero a b).1] at v0
        rw [Nat.sub_self, (rot_zero a b).2] at v1
        have hbm := Lib.hid (before_mono (n := n) ha hb)
        go_wp2_with fail
        refine (Search102 n _ _ (before n a b) _ (by omega) hbm.out ?_).mono ?_
        · intro k w2 hk hb2'
          exact sector1_any _ _ k n a b w2 (keepB hb2' y0 hr) (keepB hb2' y1 v0) (keepB hb2' y1 v1) (by omega) (by omega) (by omega) ⟨by omega, ha2⟩ ⟨by omega, hb2⟩
        · rintro e w1 ⟨r, hs, rfl, hb1⟩
          have hr1 := keepB hb1 y0 hr
          have rn := hs.1
          have HS := Lib.hid hs
          have m1 := M.mul_bd (a := (j : Int)) (b := (n : Int)) (A := 3) (B := 90) (by omega) (by omega) (by omega) (by omega)
          clear v0 v1 f0 f1 HV
          go_wp2
          go_ret
          exact ⟨_, ⟨r, HS.out, rfl⟩, rfl, hbw.trans (hb1.mono (by omega))⟩

end Go.Proofs.Ythnjfnapjpdchaa
