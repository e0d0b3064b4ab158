/-
  BeamDirections returns true for every input: the directions and slants of the code are those of the reference.
-/
import Derived.Test.YthnjfnapjpdchaaR
import Derived.Test.YthnjfnapjpdchaaC
namespace Go.Proofs.Ythnjfnapjpdchaa
open Go.RowKit

/-! the answers of Direction and Slant in one form -/
def dirB (n d : Int) : Bool := inB n 1 180 && inB d 0 (4 * n - 1)
def dX (n d : Int) : Int := if dirB n d = true then dirX n d else 0
def dY (n d : Int) : Int := if dirB n d = true then dirY n d else 0
def dL (n d : Int) : Int := if dirB n d = true then dirL n d else 0
def dE (n d : Int) : Int := if dirB n d = true then 0 else 3

theorem dir_yes {n d : Int} (h : dirB n d = true) : 1 ≤ n ∧ n ≤ 180 ∧ 0 ≤ d ∧ d < 4 * n := by
  unfold dirB at h
  rw [Bool.and_eq_true] at h
  have h1 := inB_true.1 h.1
  have h2 := inB_true.1 h.2
  omega

theorem Direction_any (n d : Int) (w : World) :
    Calls Try.prog 25 #[.int .i64 n, .int .i64 d] w fun e w' => e = .returned (.tuple #[.int .i64 (dX n d), .int .i64 (dY n d), .int .i64 (dL n d), .int .i64 (dE n d)]) ∧ Below w.heap.size w w' := by
  rcases (Bool.eq_false_or_eq_true (dirB n d)).symm with h | h
  · have e1 : dX n d = 0 ∧ dY n d = 0 ∧ dL n d = 0 ∧ dE n d = 3 := by simp [dX, dY, dL, dE, h]
    rw [e1.1, e1.2.1, e1.2.2.1, e1.2.2.2]
    have fin : ∀ (e : Ending) (w' : World), e = .returned (.tuple #[.int .i64 0, .int .i64 0, .int .i64 0, .int .i64 3]) ∧ w = w' → e = .returned (.tuple #[.int .i64 0, .int .i64 0, .int .i64 0, .int .i64 3]) ∧ Below w.heap.size w w' := fun e w' h => ⟨h.1, h.2 ▸ Below.refl _ _⟩
    rcases (Bool.eq_false_or_eq_true (inB n 1 180)).symm with h1 | h1
    · exact (Direction_no1 n d w h1).mono fin
    · have h2 : inB d 0 (4 * n - 1) = false := by unfold dirB at h; rw [h1] at h; exact h
      obtain ⟨n1, n2⟩ := inB_true.1 h1
      exact (Direction_no2 n d w n1 n2 h2).mono fin
  · have e1 : dX n d = dirX n d ∧ dY n d = dirY n d ∧ dL n d = dirL n d ∧ dE n d = 0 := by simp [dX, dY, dL, dE, h]
    rw [e1.1, e1.2.1, e1.2.2.1, e1.2.2.2]
    obtain ⟨n1, n2, d1, d2⟩ := dir_yes h
    exact (Direction_ok n d w n1 n2 d1 d2)

theorem refDirection_any (n d : Int) (w : World) :
    Calls Try.prog 26 #[.int .i64 n, .int .i64 d] w fun e w' => e = .returned (.tuple #[.int .i64 (dX n d), .int .i64 (dY n d), .int .i64 (dL n d), .int .i64 (dE n d)]) ∧ Below w.heap.size w w' := by
  rcases (Bool.eq_false_or_eq_true (dirB n d)).symm with h | h
  · have e1 : dX n d = 0 ∧ dY n d = 0 ∧ dL n d = 0 ∧ dE n d = 3 := by simp [dX, dY, dL, dE, h]
    rw [e1.1, e1.2.1, e1.2.2.1, e1.2.2.2]
    have fin : ∀ (e : Ending) (w' : World), e = .returned (.tuple #[.int .i64 0, .int .i64 0, .int .i64 0, .int .i64 3]) ∧ w = w' → e = .returned (.tuple #[.int .i64 0, .int .i64 0, .int .i64 0, .int .i64 3]) ∧ Below w.heap.size w w' := fun e w' h => ⟨h.1, h.2 ▸ Below.refl _ _⟩
    rcases (Bool.eq_false_or_eq_true (inB n 1 180)).symm with h1 | h1
    · exact (refDirection_no1 n d w h1).mono fin
    · have h2 : inB d 0 (4 * n - 1) = false := by unfold dirB at h; rw [h1] at h; exact h
      obtain ⟨n1, n2⟩ := inB_true.1 h1
      exact (refDirection_no2 n d w n1 n2 h2).mono fin
  · have e1 : dX n d = dirX n d ∧ dY n d = dirY n d ∧ dL n d = dirL n d ∧ dE n d = 0 := by simp [dX, dY, dL, dE, h]
    rw [e1.1, e1.2.1, e1.2.2.1, e1.2.2.2]
    obtain ⟨n1, n2, d1, d2⟩ := dir_yes h
    exact (refDirection_ok n d w n1 n2 d1 d2).mono fun e w' h => ⟨h.1, h.2 ▸ Below.refl _ _⟩

def slB (t : Int) : Bool := inB t (-8) 264
def sC (t : Int) : Int := if slB t = true then 262144 - t * t else 0
def sS (t : Int) : Int := if slB t = true then 1024 * t else 0
def sD (t : Int) : Int := if slB t = true then 262144 + t * t else 0
def sE (t : Int) : Int := if slB t = true then 0 else 3

theorem Slant_any (t : Int) (w : World) :
    Calls Try.prog 27 #[.int .i64 t] w fun e w' => e = .returned (.tuple #[.int .i64 (sC t), .int .i64 (sS t), .int .i64 (sD t), .int .i64 (sE t)]) ∧ w = w' := by
  rcases (Bool.eq_false_or_eq_true (slB t)).symm with h | h
  · have e1 : sC t = 0 ∧ sS t = 0 ∧ sD t = 0 ∧ sE t = 3 := by simp [sC, sS, sD, sE, h]
    rw [e1.1, e1.2.1, e1.2.2.1, e1.2.2.2]
    exact Slant_no t w h
  · have e1 : sC t = 262144 - t * t ∧ sS t = 1024 * t ∧ sD t = 262144 + t * t ∧ sE t = 0 := by simp [sC, sS, sD, sE, h]
    rw [e1.1, e1.2.1, e1.2.2.1, e1.2.2.2]
    obtain ⟨t1, t2⟩ := inB_true.1 h
    exact Slant_ok t w t1 t2

theorem refSlant_any (t : Int) (w : World) :
    Calls Try.prog 28 #[.int .i64 t] w fun e w' => e = .returned (.tuple #[.int .i64 (sC t), .int .i64 (sS t), .int .i64 (sD t), .int .i64 (sE t)]) ∧ w = w' := by
  rcases (Bool.eq_false_or_eq_true (slB t)).symm with h | h
  · have e1 : sC t = 0 ∧ sS t = 0 ∧ sD t = 0 ∧ sE t = 3 := by simp [sC, sS, sD, sE, h]
    rw [e1.1, e1.2.1, e1.2.2.1, e1.2.2.2]
    exact refSlant_no t w h
  · have e1 : sC t = 262144 - t * t ∧ sS t = 1024 * t ∧ sD t = 262144 + t * t ∧ sE t = 0 := by simp [sC, sS, sD, sE, h]
    rw [e1.1, e1.2.1, e1.2.2.1, e1.2.2.2]
    obtain ⟨t1, t2⟩ := inB_true.1 h
    exact refSlant_ok t w t1 t2

set_option maxHeartbeats 800000 in
theorem BeamDirections_walk (a0 a1 a2 : Int) (w : World) :
    Calls Try.prog 4 #[.int .i64 a0, .int .i64 a1, .int .i64 a2] w fun e w' => e = .returned (.bool true) ∧ Below w.heap.size w w' := by
  go_enter Try.func4, Try.ntmps4
  go_wp2_with fail
  refine (Direction_any _ _ _).mono ?_; rintro e w1 ⟨rfl, hb1⟩
  go_wp2_with fail
  refine (refDirection_any _ _ _).mono ?_; rintro e w2 ⟨rfl, hb2⟩
  have hb : Below w.heap.size w w2 := hb1.trans (hb2.mono hb1.size)
  clear hb1 hb2
  go_wp2_with fail
  refine (Slant_any _ _).mono ?_; rintro e w' ⟨rfl, rfl⟩
  go_wp2_with fail
  refine (refSlant_any _ _).mono ?_; rintro e w' ⟨rfl, rfl⟩
  go_wp2_with fail
  refine (works_any _).mono ?_; rintro e w3 ⟨rfl, hb3⟩
  go_wp2
  go_ret
  exact ⟨rfl, hb.trans (hb3.mono hb.size)⟩

end Go.Proofs.Ythnjfnapjpdchaa
