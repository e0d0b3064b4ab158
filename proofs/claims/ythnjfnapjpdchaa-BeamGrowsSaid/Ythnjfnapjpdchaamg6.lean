/-
  What the exported functions answer: the error, and what goes with it.
-/
import Derived.Test.Ythnjfnapjpdchaamg3
import Derived.Test.Ythnjfnapjpdchaamg5
import Derived.Test.Ythnjfnapjpdchaamg1
namespace Go.Proofs.Ythnjfnapjpdchaa
open Go.RowKit

theorem fld0 (a b : Int) (w : World) : (Instr.field 43 (.agg #[.int .i64 a, .int .i64 b]) 0).run Try.prog w = .ok (.int .i64 a) w := by kernel_rfl
theorem fld1 (a b : Int) (w : World) : (Instr.field 43 (.agg #[.int .i64 a, .int .i64 b]) 1).run Try.prog w = .ok (.int .i64 b) w := by kernel_rfl

theorem inB_gate {gate gates : Int} (h : inB gate 0 (gates - 1) = true) : 0 ≤ gate ∧ gate < gates := by have := inB_true.1 h; omega

/-- the error, after that of the site -/
def codeE (sc : Int) (b : Bool) : Int := if sc = 0 then (if b = true then 0 else 3) else sc
/-- a value, and 0 beside an error -/
def val (e v : Int) : Int := if e = 0 then v else 0
theorem codeE_err {sc : Int} (h : sc ≠ 0) (b : Bool) : codeE sc b = sc := by unfold codeE; rw [if_neg h]
theorem codeE_no : codeE 0 false = 3 := rfl
theorem codeE_ok : codeE 0 true = 0 := rfl
theorem val_err {e : Int} (h : e ≠ 0) (v : Int) : val e v = 0 := by unfold val; rw [if_neg h]
theorem val_no (v : Int) : val 3 v = 0 := rfl
theorem val_ok (v : Int) : val 0 v = v := rfl

end Go.Proofs.Ythnjfnapjpdchaa

namespace Go.Proofs.Ythnjfnapjpdchaa
open Go.RowKit

theorem tdiv_of {n d q : Int} (h1 : 1 ≤ n) (h3 : 0 ≤ d) (hq : d / n = q) (h4 : q ≤ 1000) : wrap64 (d.tdiv n) = q := by
  have h5 : 0 ≤ d / n := Int.ediv_nonneg h3 (by omega)
  rw [Int.tdiv_eq_ediv_of_nonneg h3, hq]
  exact IntWalk.wrap64_in q ⟨by omega, by omega⟩

set_option maxRecDepth 100000 in
set_option maxHeartbeats 400000 in
theorem towards0 (n d : Int) (w : World) (h1 : 1 ≤ n) (h2 : n ≤ 180) (h3 : 0 ≤ d) (hq : wrap64 (d.tdiv n) = 0) :
    Calls Try.prog 63 #[.int .i64 n, .int .i64 d] w fun e w' => e = .returned (.tuple #[.agg #[.int .i64 (2 * n * (d % n)), .int .i64 (n * n - d % n * (d % n))], .int .i64 (n * n + d % n * (d % n))]) ∧ Below w.heap.size w w' := by
  have k0 : 0 ≤ d % n := Int.emod_nonneg _ (by omega)
  have k1 : d % n < n := Int.emod_lt_of_pos _ (by omega)
  have b1 := M.mul_bd (a := n) (b := n) (A := 180) (B := 180) (by omega) h2 (by omega) h2
  have b2 := M.mul_bd (a := d % n) (b := d % n) (A := 180) (B := 180) k0 (by omega) k0 (by omega)
  have b3 := M.mul_bd (a := 2 * n) (b := d % n) (A := 360) (B := 180) (by omega) (by omega) k0 (by omega)
  go_enter Try.func63, Try.ntmps63
  go_wp2
  exact bodyPost_ret (v := .tuple #[.agg #[.int .i64 (2 * n * (d % n)), .int .i64 (n * n - d % n * (d % n))], .int .i64 (n * n + d % n * (d % n))]) (by simp [results, Try.results63, go_sem]) rfl ⟨rfl, by repeat (first | exact Below.refl _ _ | (refine Below.setCell ?_ (by simp) _) | (refine Below.alloc ?_ (by simp) _))⟩

set_option maxRecDepth 100000 in
set_option maxHeartbeats 400000 in
theorem towards1 (n d : Int) (w : World) (h1 : 1 ≤ n) (h2 : n ≤ 180) (h3 : 0 ≤ d) (hq : wrap64 (d.tdiv n) = 1) :
    Calls Try.prog 63 #[.int .i64 n, .int .i64 d] w fun e w' => e = .returned (.tuple #[.agg #[.int .i64 (n * n - d % n * (d % n)), .int .i64 (-(2 * n * (d % n)))], .int .i64 (n * n + d % n * (d % n))]) ∧ Below w.heap.size w w' := by
  have k0 : 0 ≤ d % n := Int.emod_nonneg _ (by omega)
  have k1 : d % n < n := Int.emod_lt_of_pos _ (by omega)
  have b1 := M.mul_bd (a := n) (b := n) (A := 180) (B := 180) (by omega) h2 (by omega) h2
  have b2 := M.mul_bd (a := d % n) (b := d % n) (A := 180) (B := 180) k0 (by omega) k0 (by omega)
  have b3 := M.mul_bd (a := 2 * n) (b := d % n) (A := 360) (B := 180) (by omega) (by omega) k0 (by omega)
  go_enter Try.func63, Try.ntmps63
  go_wp2
  exact bodyPost_ret (v := .tuple #[.agg #[.int .i64 (n * n - d % n * (d % n)), .int .i64 (-(2 * n * (d % n)))], .int .i64 (n * n + d % n * (d % n))]) (by simp [results, Try.results63, go_sem]) rfl ⟨rfl, by repeat (first | exact Below.refl _ _ | (refine Below.setCell ?_ (by simp) _) | (refine Below.alloc ?_ (by simp) _))⟩

set_option maxRecDepth 100000 in
set_option maxHeartbeats 400000 in
theorem towards2 (n d : Int) (w : World) (h1 : 1 ≤ n) (h2 : n ≤ 180) (h3 : 0 ≤ d) (hq : wrap64 (d.tdiv n) = 2) :
    Calls Try.prog 63 #[.int .i64 n, .int .i64 d] w fun e w' => e = .returned (.tuple #[.agg #[.int .i64 (-(2 * n * (d % n))), .int .i64 (-(n * n - d % n * (d % n)))], .int .i64 (n * n + d % n * (d % n))]) ∧ Below w.heap.size w w' := by
  have k0 : 0 ≤ d % n := Int.emod_nonneg _ (by omega)
  have k1 : d % n < n := Int.emod_lt_of_pos _ (by omega)
  have b1 := M.mul_bd (a := n) (b := n) (A := 180) (B := 180) (by omega) h2 (by omega) h2
  have b2 := M.mul_bd (a := d % n) (b := d % n) (A := 180) (B := 180) k0 (by omega) k0 (by omega)
  have b3 := M.mul_bd (a := 2 * n) (b := d % n) (A := 360) (B := 180) (by omega) (by omega) k0 (by omega)
  go_enter Try.func63, Try.ntmps63
  go_wp2
  exact bodyPost_ret (v := .tuple #[.agg #[.int .i64 (-(2 * n * (d % n))), .int .i64 (-(n * n - d % n * (d % n)))], .int .i64 (n * n + d % n * (d % n))]) (by simp [results, Try.results63, go_sem]) rfl ⟨rfl, by repeat (first | exact Below.refl _ _ | (refine Below.setCell ?_ (by simp) _) | (refine Below.alloc ?_ (by simp) _))⟩

set_option maxRecDepth 100000 in
set_option maxHeartbeats 400000 in
theorem towards3 (n d : Int) (w : World) (h1 : 1 ≤ n) (h2 : n ≤ 180) (h3 : 0 ≤ d) (hq : wrap64 (d.tdiv n) = 3) :
    Calls Try.prog 63 #[.int .i64 n, .int .i64 d] w fun e w' => e = .returned (.tuple #[.agg #[.int .i64 (-(n * n - d % n * (d % n))), .int .i64 (2 * n * (d % n))], .int .i64 (n * n + d % n * (d % n))]) ∧ Below w.heap.size w w' := by
  have k0 : 0 ≤ d % n := Int.emod_nonneg _ (by omega)
  have k1 : d % n < n := Int.emod_lt_of_pos _ (by omega)
  have b1 := M.mul_bd (a := n) (b := n) (A := 180) (B := 180) (by omega) h2 (by omega) h2
  have b2 := M.mul_bd (a := d % n) (b := d % n) (A := 180) (B := 180) k0 (by omega) k0 (by omega)
  have b3 := M.mul_bd (a := 2 * n) (b := d % n) (A := 360) (B := 180) (by omega) (by omega) k0 (by omega)
  go_enter Try.func63, Try.ntmps63
  go_wp2
  exact bodyPost_ret (v := .tuple #[.agg #[.int .i64 (-(n * n - d % n * (d % n))), .int .i64 (2 * n * (d % n))], .int .i64 (n * n + d % n * (d % n))]) (by simp [results, Try.results63, go_sem]) rfl ⟨rfl, by repeat (first | exact Below.refl _ _ | (refine Below.setCell ?_ (by simp) _) | (refine Below.alloc ?_ (by simp) _))⟩

/-- the direction of a rose: to the east, to the north, and its length -/
def dirX (n d : Int) : Int := if d / n = 0 then 2 * n * (d % n) else if d / n = 1 then n * n - d % n * (d % n) else if d / n = 2 then -(2 * n * (d % n)) else -(n * n - d % n * (d % n))
def dirY (n d : Int) : Int := if d / n = 0 then n * n - d % n * (d % n) else if d / n = 1 then -(2 * n * (d % n)) else if d / n = 2 then -(n * n - d % n * (d % n)) else 2 * n * (d % n)
def dirL (n d : Int) : Int := n * n + d % n * (d % n)

theorem quarter {n d : Int} (h1 : 1 ≤ n) (h3 : 0 ≤ d) (h4 : d < 4 * n) : d / n = 0 ∨ d / n = 1 ∨ d / n = 2 ∨ d / n = 3 := by
  have h5 : 0 ≤ d / n := Int.ediv_nonneg h3 (by omega)
  have h6 : d / n < 4 := Int.ediv_lt_of_lt_mul (by omega) (by omega)
  omega

theorem towards_any (n d : Int) (w : World) (h1 : 1 ≤ n) (h2 : n ≤ 180) (h3 : 0 ≤ d) (h4 : d < 4 * n) :
    Calls Try.prog 63 #[.int .i64 n, .int .i64 d] w fun e w' => e = .returned (.tuple #[.agg #[.int .i64 (dirX n d), .int .i64 (dirY n d)], .int .i64 (dirL n d)]) ∧ Below w.heap.size w w' := by
  rcases quarter h1 h3 h4 with h | h | h | h
  · refine (towards0 n d w h1 h2 h3 (tdiv_of h1 h3 h (by omega))).mono fun e w' hw => ?_
    simpa only [dirX, dirY, dirL, h, if_true] using hw
  · refine (towards1 n d w h1 h2 h3 (tdiv_of h1 h3 h (by omega))).mono fun e w' hw => ?_
    simpa [dirX, dirY, dirL, h] using hw
  · refine (towards2 n d w h1 h2 h3 (tdiv_of h1 h3 h (by omega))).mono fun e w' hw => ?_
    simpa [dirX, dirY, dirL, h] using hw
  · refine (towards3 n d w h1 h2 h3 (tdiv_of h1 h3 h (by omega))).mono fun e w' hw => ?_
    simpa [dirX, dirY, dirL, h] using hw

end Go.Proofs.Ythnjfnapjpdchaa

namespace Go.Proofs.Ythnjfnapjpdchaa.M

theorem divmod {n q k : Int} (h0 : 0 ≤ k) (h1 : k < n) : (q * n + k) / n = q ∧ (q * n + k) % n = k := by
  have h : 0 < n := by omega
  exact (Int.ediv_emod_unique h).2 ⟨by rw [Int.mul_comm n q]; omega, h0, h1⟩

theorem emod_small {x m : Int} (h0 : 0 ≤ x) (h1 : x < m) : x % m = x := Int.emod_eq_of_lt h0 h1
theorem emod_wrap {x m : Int} (h0 : m ≤ x) (h1 : x < 2 * m) : x % m = x - m := by
  have h : 0 < m := by omega
  exact ((Int.ediv_emod_unique (q := 1) (r := x - m) h).2 ⟨by omega, by omega, by omega⟩).2

/-- a direction of a rose, by its quarter and its number in it -/
def dx (n q k : Int) : Int := if q = 0 then 2 * n * k else if q = 1 then n * n - k * k else if q = 2 then -(2 * n * k) else -(n * n - k * k)
def dy (n q k : Int) : Int := if q = 0 then n * n - k * k else if q = 1 then -(2 * n * k) else if q = 2 then -(n * n - k * k) else 2 * n * k

theorem unit (n k : Int) : (2 * n * k) * (2 * n * k) + (n * n - k * k) * (n * n - k * k) = (n * n + k * k) * (n * n + k * k) := by
  have e1 : (2 * n * k) * (2 * n * k) = 4 * ((n * k) * (n * k)) := by
    rw [Int.mul_assoc 2 n k, Int.mul_assoc 2 (n * k), Int.mul_left_comm (n * k) 2 (n * k)]; omega
  have e2 : (n * k) * (n * k) = (n * n) * (k * k) := by
    rw [Int.mul_assoc n k (n * k), Int.mul_left_comm k n k, ← Int.mul_assoc n n (k * k)]
  have e3 : (n * n - k * k) * (n * n - k * k) = (n * n) * (n * n) - 2 * ((n * n) * (k * k)) + (k * k) * (k * k) := by
    rw [Int.sub_mul, Int.mul_sub, Int.mul_sub, Int.mul_comm (k * k) (n * n)]; omega
  have e4 : (n * n + k * k) * (n * n + k * k) = (n * n) * (n * n) + 2 * ((n * n) * (k * k)) + (k * k) * (k * k) := by
    rw [Int.add_mul, Int.mul_add, Int.mul_add, Int.mul_comm (k * k) (n * n)]; omega
  rw [e1, e2, e3, e4]; omega

/-- the next direction is clockwise behind -/
theorem next_in {n k : Int} (h0 : 0 ≤ k) (h1 : k < n) : 0 < (n * n - k * k) * (2 * n * (k + 1)) - (2 * n * k) * (n * n - (k + 1) * (k + 1)) := by
  have e1 : (n * n - k * k) * (2 * n * (k + 1)) = 2 * n * ((n * n - k * k) * (k + 1)) := by rw [Int.mul_left_comm]
  have e2 : (2 * n * k) * (n * n - (k + 1) * (k + 1)) = 2 * n * (k * (n * n - (k + 1) * (k + 1))) := by rw [Int.mul_assoc]
  have e3 : (n * n - k * k) * (k + 1) - k * (n * n - (k + 1) * (k + 1)) = n * n + k * (k + 1) := by
    rw [Int.sub_mul, Int.mul_sub, Int.mul_add (n * n), Int.mul_comm k (n * n), Int.mul_one]
    have e4 : k * ((k + 1) * (k + 1)) = k * k * (k + 1) + k * (k + 1) := by
      rw [Int.mul_assoc k k (k + 1), ← Int.mul_add, Int.add_mul k 1 (k + 1), Int.one_mul]
    rw [e4]; omega
  rw [e1, e2, ← Int.mul_sub, e3]
  have h2 : 0 < n * n := Int.mul_pos (by omega) (by omega)
  have h3 : 0 ≤ k * (k + 1) := Int.mul_nonneg h0 (by omega)
  exact Int.mul_pos (by omega) (by omega)

theorem sq_lt {n k : Int} (h0 : 0 ≤ k) (h1 : k < n) : 0 < n * n - k * k := by
  have h2 : k * k ≤ k * n := Int.mul_le_mul_of_nonneg_left (by omega) h0
  have h3 : k * n < n * n := Int.mul_lt_mul_of_pos_right h1 (by omega)
  omega

end Go.Proofs.Ythnjfnapjpdchaa.M

namespace Go.Proofs.Ythnjfnapjpdchaa

theorem decomp {n d : Int} (h1 : 1 ≤ n) (h3 : 0 ≤ d) (h4 : d < 4 * n) : ∃ q k : Int, (q = 0 ∨ q = 1 ∨ q = 2 ∨ q = 3) ∧ 0 ≤ k ∧ k < n ∧ d = q * n + k := by
  refine ⟨d / n, d % n, quarter h1 h3 h4, Int.emod_nonneg _ (by omega), Int.emod_lt_of_pos _ (by omega), ?_⟩
  have := Int.mul_ediv_add_emod d n
  rw [Int.mul_comm] at this; omega

theorem dir_eq {n q k : Int} (h0 : 0 ≤ k) (h1 : k < n) : dirX n (q * n + k) = M.dx n q k ∧ dirY n (q * n + k) = M.dy n q k ∧ dirL n (q * n + k) = n * n + k * k := by
  obtain ⟨e1, e2⟩ := M.divmod (q := q) h0 h1
  unfold dirX dirY dirL M.dx M.dy
  rw [e1, e2]
  exact ⟨rfl, rfl, rfl⟩

theorem dir_unit {n d : Int} (h1 : 1 ≤ n) (h3 : 0 ≤ d) (h4 : d < 4 * n) : dirX n d * dirX n d + dirY n d * dirY n d = dirL n d * dirL n d ∧ 1 ≤ dirL n d := by
  obtain ⟨q, k, hq, k0, k1, rfl⟩ := decomp h1 h3 h4
  obtain ⟨e1, e2, e3⟩ := dir_eq (q := q) k0 k1
  rw [e1, e2, e3]
  have hu := M.unit n k
  have h5 : 1 ≤ n * n := by have := Int.mul_pos (show 0 < n by omega) (show 0 < n by omega); omega
  have h6 := Int.mul_nonneg k0 k0
  refine ⟨?_, by omega⟩
  rcases hq with rfl | rfl | rfl | rfl <;> simp [M.dx, M.dy, Int.neg_mul_neg] <;> omega

theorem dir_quarter {n d : Int} (h1 : 1 ≤ n) (h3 : 0 ≤ d) (h4 : d < 4 * n) : dirX n ((d + n) % (4 * n)) = dirY n d ∧ dirY n ((d + n) % (4 * n)) = -dirX n d ∧ dirL n ((d + n) % (4 * n)) = dirL n d := by
  obtain ⟨q, k, hq, k0, k1, rfl⟩ := decomp h1 h3 h4
  obtain ⟨e1, e2, e3⟩ := dir_eq (q := q) k0 k1
  rw [e1, e2, e3]
  rcases hq with rfl | rfl | rfl | rfl
  · rw [M.emod_small (by omega) (by omega), show (0 * n + k + n : Int) = 1 * n + k by omega]
    obtain ⟨g1, g2, g3⟩ := dir_eq (q := 1) k0 k1
    rw [g1, g2, g3]; simp [M.dx, M.dy]
  · rw [M.emod_small (by omega) (by omega), show (1 * n + k + n : Int) = 2 * n + k by omega]
    obtain ⟨g1, g2, g3⟩ := dir_eq (q := 2) k0 k1
    rw [g1, g2, g3]; simp [M.dx, M.dy]
  · rw [M.emod_small (by omega) (by omega), show (2 * n + k + n : Int) = 3 * n + k by omega]
    obtain ⟨g1, g2, g3⟩ := dir_eq (q := 3) k0 k1
    rw [g1, g2, g3]; simp [M.dx, M.dy]
  · rw [M.emod_wrap (by omega) (by omega), show (3 * n + k + n - 4 * n : Int) = 0 * n + k by omega]
    obtain ⟨g1, g2, g3⟩ := dir_eq (q := 0) k0 k1
    rw [g1, g2, g3]; simp [M.dx, M.dy]

theorem dir_next {n d : Int} (h1 : 1 ≤ n) (h3 : 0 ≤ d) (h4 : d < 4 * n) : 0 < dirY n d * dirX n ((d + 1) % (4 * n)) - dirX n d * dirY n ((d + 1) % (4 * n)) := by
  obtain ⟨q, k, hq, k0, k1, rfl⟩ := decomp h1 h3 h4
  obtain ⟨e1, e2, _⟩ := dir_eq (q := q) k0 k1
  rw [e1, e2]
  by_cases hk : k + 1 < n
  · have hn := M.next_in k0 k1
    have e : (q * n + k + 1) % (4 * n) = q * n + (k + 1) := by
      rw [M.emod_small (by omega) (by rcases hq with rfl | rfl | rfl | rfl <;> omega)]; omega
    rw [e]
    obtain ⟨g1, g2, _⟩ := dir_eq (n := n) (q := q) (k := k + 1) (by omega) hk
    rw [g1, g2]
    rcases hq with rfl | rfl | rfl | rfl <;> simp [M.dx, M.dy, Int.neg_mul, Int.mul_neg] <;> omega
  · have hk' : k = n - 1 := by omega
    have hr := M.sq_lt k0 k1
    have hn : 0 < n * n := Int.mul_pos (by omega) (by omega)
    have hp := Int.mul_pos hr hn
    rcases hq with rfl | rfl | rfl | rfl
    · rw [M.emod_small (by omega) (by omega), show (0 * n + k + 1 : Int) = 1 * n + 0 by omega]
      obtain ⟨g1, g2, _⟩ := dir_eq (n := n) (q := 1) (k := 0) (by omega) (by omega)
      rw [g1, g2]; simp [M.dx, M.dy]; omega
    · rw [M.emod_small (by omega) (by omega), show (1 * n + k + 1 : Int) = 2 * n + 0 by omega]
      obtain ⟨g1, g2, _⟩ := dir_eq (n := n) (q := 2) (k := 0) (by omega) (by omega)
      rw [g1, g2]; simp [M.dx, M.dy, Int.mul_neg]; omega
    · rw [M.emod_small (by omega) (by omega), show (2 * n + k + 1 : Int) = 3 * n + 0 by omega]
      obtain ⟨g1, g2, _⟩ := dir_eq (n := n) (q := 3) (k := 0) (by omega) (by omega)
      rw [g1, g2]; simp [M.dx, M.dy, Int.neg_mul_neg]; omega
    · rw [M.emod_wrap (by omega) (by omega), show (3 * n + k + 1 - 4 * n : Int) = 0 * n + 0 by omega]
      obtain ⟨g1, g2, _⟩ := dir_eq (n := n) (q := 0) (k := 0) (by omega) (by omega)
      rw [g1, g2]; simp [M.dx, M.dy, Int.neg_mul]; omega

theorem dir_twice {n d : Int} (h1 : 1 ≤ n) (h3 : 0 ≤ d) (h4 : d < 4 * n) : dirX (2 * n) (2 * d) = 4 * dirX n d ∧ dirY (2 * n) (2 * d) = 4 * dirY n d ∧ dirL (2 * n) (2 * d) = 4 * dirL n d := by
  obtain ⟨q, k, hq, k0, k1, rfl⟩ := decomp h1 h3 h4
  obtain ⟨e1, e2, e3⟩ := dir_eq (q := q) k0 k1
  have e : 2 * (q * n + k) = q * (2 * n) + 2 * k := by rw [Int.mul_left_comm q 2 n]; omega
  rw [e1, e2, e3, e]
  obtain ⟨g1, g2, g3⟩ := dir_eq (n := 2 * n) (q := q) (k := 2 * k) (by omega) (by omega)
  rw [g1, g2, g3]
  have a1 : (2 * n) * (2 * n) = 4 * (n * n) := by rw [Int.mul_assoc, Int.mul_left_comm n 2 n]; omega
  have a2 : (2 * k) * (2 * k) = 4 * (k * k) := by rw [Int.mul_assoc, Int.mul_left_comm k 2 k]; omega
  have a3 : 2 * (2 * n) * (2 * k) = 4 * (2 * n * k) := by
    rw [Int.mul_left_comm (2 * (2 * n)) 2 k, Int.mul_assoc 2 (2 * n) k]; omega
  rcases hq with rfl | rfl | rfl | rfl <;> simp only [M.dx, M.dy, a1, a2, a3] <;> simp <;> omega

theorem dir_bd {n d : Int} (h1 : 1 ≤ n) (h2 : n ≤ 180) (h3 : 0 ≤ d) (h4 : d < 4 * n) :
    (-64800 ≤ dirX n d ∧ dirX n d ≤ 64800) ∧ (-64800 ≤ dirY n d ∧ dirY n d ≤ 64800) ∧ (1 ≤ dirL n d ∧ dirL n d ≤ 64800) := by
  have hu := (dir_unit h1 h3 h4).2
  obtain ⟨q, k, hq, k0, k1, rfl⟩ := decomp h1 h3 h4
  obtain ⟨e1, e2, e3⟩ := dir_eq (q := q) k0 k1
  rw [e3] at hu
  rw [e1, e2, e3]
  have b1 := M.mul_bd (a := n) (b := n) (A := 180) (B := 180) (by omega) h2 (by omega) h2
  have b2 := M.mul_bd (a := k) (b := k) (A := 180) (B := 180) k0 (by omega) k0 (by omega)
  have b3 := M.mul_bd (a := 2 * n) (b := k) (A := 360) (B := 180) (by omega) (by omega) k0 (by omega)
  have b4 := M.sq_mono k0 (Int.le_of_lt k1)
  rcases hq with rfl | rfl | rfl | rfl <;> simp only [M.dx, M.dy] <;> simp <;> omega

end Go.Proofs.Ythnjfnapjpdchaa
