/-
  What flows have in common.
-/
import Derived.Test.YtaneipjpagbmpaaFD
namespace Go.Proofs.Ytaneipjpagbmpaa
open Go.RowKit
set_option linter.unusedVariables false
set_option linter.unusedSimpArgs false
set_option maxRecDepth 100000
set_option maxHeartbeats 4000000
def mxd (l : List Fl) (j : Nat) : Nat → Int
  | 0 => fc l 0 j
  | x + 1 => max (mxd l j x) (fc (l.drop 1) ↑x j)
def mnd (l : List Fl) (j : Nat) : Nat → Int
  | 0 => fc l 0 j
  | x + 1 => min (mnd l j x) (fc (l.drop 1) ↑x j)
theorem fc_drop (l : List Fl) (x : Nat) (j : Nat) : fc (l.drop 1) ↑x j = fc l ↑(x + 1) j := by
  simp only [fc, Int.toNat_natCast, List.getD_eq_getElem?_getD, List.getElem?_drop]
  rw [Nat.add_comm 1 x]
theorem mxd_ge (l : List Fl) (j : Nat) : ∀ x i : Nat, i ≤ x → fc l ↑i j ≤ mxd l j x
  | 0, i, h => by obtain rfl : i = 0 := by omega
                  exact Int.le_refl _
  | x + 1, i, h => by
    rw [mxd, fc_drop]
    by_cases e : i = x + 1
    · subst e; omega
    · have := mxd_ge l j x i (by omega); omega
theorem mnd_le (l : List Fl) (j : Nat) : ∀ x i : Nat, i ≤ x → mnd l j x ≤ fc l ↑i j
  | 0, i, h => by obtain rfl : i = 0 := by omega
                  exact Int.le_refl _
  | x + 1, i, h => by
    rw [mnd, fc_drop]
    by_cases e : i = x + 1
    · subst e; omega
    · have := mnd_le l j x i (by omega); omega
theorem mxd_ex (l : List Fl) (j : Nat) : ∀ x : Nat, ∃ i : Nat, i ≤ x ∧ mxd l j x = fc l ↑i j
  | 0 => ⟨0, Nat.le_refl _, rfl⟩
  | x + 1 => by
    obtain ⟨i, h1, h2⟩ := mxd_ex l j x
    rw [mxd, fc_drop]
    by_cases e : mxd l j x ≤ fc l ↑(x + 1) j
    · exact ⟨x + 1, Nat.le_refl _, by omega⟩
    · exact ⟨i, by omega, by omega⟩
theorem mnd_ex (l : List Fl) (j : Nat) : ∀ x : Nat, ∃ i : Nat, i ≤ x ∧ mnd l j x = fc l ↑i j
  | 0 => ⟨0, Nat.le_refl _, rfl⟩
  | x + 1 => by
    obtain ⟨i, h1, h2⟩ := mnd_ex l j x
    rw [mnd, fc_drop]
    by_cases e : fc l ↑(x + 1) j ≤ mnd l j x
    · exact ⟨x + 1, Nat.le_refl _, by omega⟩
    · exact ⟨i, by omega, by omega⟩
/-- no rush fits both -/
def noth (l : List Fl) (i j : Nat) : Prop := min (fc l ↑i 1) (fc l ↑j 1) < max (fc l ↑i 0) (fc l ↑j 0) ∨ min (fc l ↑i 3) (fc l ↑j 3) < max (fc l ↑i 2) (fc l ↑j 2)
theorem noth_symm {l : List Fl} {i j : Nat} (h : noth l i j) : noth l j i := by unfold noth at *; omega
def okF (l : List Fl) : Prop := ∀ i : Nat, i < l.length → fc l ↑i 0 ≤ fc l ↑i 1 ∧ fc l ↑i 2 ≤ fc l ↑i 3 ∧ -100000 ≤ fc l ↑i 0 ∧ fc l ↑i 1 ≤ 100000 ∧ -100000 ≤ fc l ↑i 2 ∧ fc l ↑i 3 ≤ 100000
/-- what all have in common is nothing -/
def empt (l : List Fl) (x : Nat) : Prop := mnd l 1 x < mxd l 0 x ∨ mnd l 3 x < mxd l 2 x
theorem two_noth {l : List Fl} (hv : okF l) {x : Nat} (hx : x < l.length) (h : empt l x) : ∃ i j, i < j ∧ j ≤ x ∧ noth l i j := by
  have key : ∃ i j, i ≤ x ∧ j ≤ x ∧ i ≠ j ∧ noth l i j := by
    rcases h with h | h
    · obtain ⟨i, i1, i2⟩ := mxd_ex l 0 x
      obtain ⟨j, j1, j2⟩ := mnd_ex l 1 x
      refine ⟨i, j, i1, j1, fun e => ?_, .inl (by omega)⟩
      subst e; have := hv i (by omega); omega
    · obtain ⟨i, i1, i2⟩ := mxd_ex l 2 x
      obtain ⟨j, j1, j2⟩ := mnd_ex l 3 x
      refine ⟨i, j, i1, j1, fun e => ?_, .inr (by omega)⟩
      subst e; have := hv i (by omega); omega
  obtain ⟨i, j, h1, h2, h3, h4⟩ := key
  by_cases e : i < j
  · exact ⟨i, j, e, h2, h4⟩
  · exact ⟨j, i, by omega, h1, noth_symm h4⟩
theorem least {p : Nat → Prop} (n : Nat) : p n → ∃ m, p m ∧ ∀ k, k < m → ¬ p k := by
  induction n using Nat.strongRecOn with
  | _ n ih =>
    intro h
    by_cases e : ∃ k, k < n ∧ p k
    · obtain ⟨k, h1, h2⟩ := e
      exact ih k h1 h2
    · exact ⟨n, h, fun k hk hp => e ⟨k, hk, hp⟩⟩
/-- the first two that contradict each other -/
theorem first_noth {l : List Fl} (h : ∃ i j, i < j ∧ j < l.length ∧ noth l i j) : ∃ i j, i < j ∧ j < l.length ∧ noth l i j ∧ (∀ p q, p < i → p < q → q < l.length → ¬ noth l p q) ∧ ∀ q, i < q → q < j → ¬ noth l i q := by
  obtain ⟨i0, h0⟩ := h
  obtain ⟨i, hi, h1⟩ := least (p := fun i => ∃ j, i < j ∧ j < l.length ∧ noth l i j) i0 h0
  obtain ⟨j0, h2⟩ := hi
  obtain ⟨j, ⟨hj1, hj2, hj3⟩, h3⟩ := least (p := fun j => i < j ∧ j < l.length ∧ noth l i j) j0 h2
  exact ⟨i, j, hj1, hj2, hj3, fun p q hp hq hl hn => h1 p hp ⟨q, hq, hl, hn⟩, fun q hq1 hq2 hn => h3 q hq2 ⟨hq1, by omega, hn⟩⟩
theorem hd_is {W : World} {s : Value} {l : List Fl} (hs : SliceIs W s 4 (l.map Fl.row)) (hcap : l.length ≤ capV s) (hn : 0 < l.length) : SliceIs W (cut s 4 1) 4 ((l.drop 1).map Fl.row) := by
  have := hs.cutIs (by simpa using hcap) (i := 1) (by rw [List.length_map]; omega)
  rwa [← List.map_drop] at this
end Go.Proofs.Ytaneipjpagbmpaa
