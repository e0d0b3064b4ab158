/-
  Flows as cells.
-/
import Derived.Test.YtaneipjpagbmpaaPA
namespace Go.Proofs.Ytaneipjpagbmpaa
open Go.RowKit
set_option linter.unusedVariables false
set_option linter.unusedSimpArgs false
set_option maxRecDepth 100000
set_option maxHeartbeats 4000000
/-- the first flows, as cells -/
def flatF (l : List Fl) (x : Nat) : List Value := (l.take x).flatMap Fl.row
theorem flatF_next (l : List Fl) (x : Nat) (h : x < l.length) : flatF l (x + 1) = flatF l x ++ [cI (fc l ↑x 0), cI (fc l ↑x 1), cI (fc l ↑x 2), cI (fc l ↑x 3)] := by
  unfold flatF
  rw [List.take_succ_eq_append_getElem h, List.flatMap_append]
  simp [fc, Fl.row, Fl.cell, h]
theorem flatF_len (l : List Fl) : ∀ x, x ≤ l.length → (flatF l x).length = x * 4
  | 0, _ => rfl
  | x + 1, h => by rw [flatF_next l x (by omega), List.length_append, flatF_len l x (by omega)]; simp; omega
theorem flatF_get (l : List Fl) (x : Nat) (h : x < l.length) : ∀ n, x < n → n ≤ l.length → [cI (fc l ↑x 0), cI (fc l ↑x 1), cI (fc l ↑x 2), cI (fc l ↑x 3)] = ((flatF l n).drop (x * 4)).take 4
  | 0, h1, _ => by omega
  | n + 1, h1, h2 => by
    rw [flatF_next l n (by omega)]
    by_cases e : x = n
    · subst e
      rw [List.drop_append_of_le_length (by rw [flatF_len l x (by omega)]; omega), List.drop_of_length_le (by rw [flatF_len l x (by omega)]; omega)]
      rfl
    · have hl := flatF_len l n (by omega)
      rw [List.drop_append_of_le_length (by omega), List.take_append_of_le_length (by simp; omega)]
      exact flatF_get l x h n (by omega) (by omega)
end Go.Proofs.Ytaneipjpagbmpaa
