/-
  Walks over towards: the direction of a rose.
-/
import Derived.Test.YthnjfnapjpdchaaB
namespace Go.Proofs.Ythnjfnapjpdchaa
open Go.RowKit

theorem tdiv_of {n d q : Int} (h1 : 1 ≤ n) (h3 : 0 ≤ d) (hq : d / n = q) (h4 : q ≤ 1000) : wrap64 (d.tdiv n) = q := by
  have h5 : 0 ≤ d / n := Int.ediv_nonneg h3 (by omega)
  rw [Int.tdiv_eq_ediv_of_nonneg h3, hq]
  exact IntWalk.wrap64_in q ⟨by omega, by omega⟩

set_option maxRecDepth 100000 in
set_option maxHeartbeats 400000 in
theorem towards0 (n d : Int) (w : World) (h1 : 1 ≤ n) (h2 : n ≤ 180) (h3 : 0 ≤ d) (hq : wrap64 (d.tdiv n) = 0) :
    Calls Try.prog 63 #[.int .i64 n, .int .i64 d] w fun e w' => e = .returned (.tuple #[.agg #[.int .i64 (2 * n * (d % n)), .int .i64 (n * n - d % n * (d % n))], .int .i64 (n * n + d % n * (d % n))]) ∧ Below w.heap.size w w' := by
  have k0 : 0 ≤ d % n := Int.emod_nonneg _ (by omega)
  have k1 : d % n < n := Int.emod_lt_of_pos _ (by omega)
  have b1 := M.mul_bd (a := n) (b := n) (A := 180) (B := 180) (by omega) h2 (by omega) h2
  have b2 := M.mul_bd (a := d % n) (b := d % n) (A := 180) (B := 180) k0 (by omega) k0 (by omega)
  have b3 := M.mul_bd (a := 2 * n) (b := d % n) (A := 360) (B := 180) (by omega) (by omega) k0 (by omega)
  go_enter Try.func63, Try.ntmps63
  go_wp2
  exact bodyPost_ret (v := .tuple #[.agg #[.int .i64 (2 * n * (d % n)), .int .i64 (n * n - d % n * (d % n))], .int .i64 (n * n + d % n * (d % n))]) (by simp [results, Try.results63, go_sem]) rfl ⟨rfl, by repeat (first | exact Below.refl _ _ | (refine Below.setCell ?_ (by simp) _) | (refine Below.alloc ?_ (by simp) _))⟩

set_option maxRecDepth 100000 in
set_option maxHeartbeats 400000 in
theorem towards1 (n d : Int) (w : World) (h1 : 1 ≤ n) (h2 : n ≤ 180) (h3 : 0 ≤ d) (hq : wrap64 (d.tdiv n) = 1) :
    Calls Try.prog 63 #[.int .i64 n, .int .i64 d] w fun e w' => e = .returned (.tuple #[.agg #[.int .i64 (n * n - d % n * (d % n)), .int .i64 (-(2 * n * (d % n)))], .int .i64 (n * n + d % n * (d % n))]) ∧ Below w.heap.size w w' := by
  have k0 : 0 ≤ d % n := Int.emod_nonneg _ (by omega)
  have k1 : d % n < n := Int.emod_lt_of_pos _ (by omega)
  have b1 := M.mul_bd (a := n) (b := n) (A := 180) (B := 180) (by omega) h2 (by omega) h2
  have b2 := M.mul_bd (a := d % n) (b := d % n) (A := 180) (B := 180) k0 (by omega) k0 (by omega)
  have b3 := M.mul_bd (a := 2 * n) (b := d % n) (A := 360) (B := 180) (by omega) (by omega) k0 (by omega)
  go_enter Try.func63, Try.ntmps63
  go_wp2
  exact bodyPost_ret (v := .tuple #[.agg #[.int .i64 (n * n - d % n * (d % n)), .int .i64 (-(2 * n * (d % n)))], .int .i64 (n * n + d % n * (d % n))]) (by simp [results, Try.results63, go_sem]) rfl ⟨rfl, by repeat (first | exact Below.refl _ _ | (refine Below.setCell ?_ (by simp) _) | (refine Below.alloc ?_ (by simp) _))⟩

set_option maxRecDepth 100000 in
set_option maxHeartbeats 400000 in
theorem towards2 (n d : Int) (w : World) (h1 : 1 ≤ n) (h2 : n ≤ 180) (h3 : 0 ≤ d) (hq : wrap64 (d.tdiv n) = 2) :
    Calls Try.prog 63 #[.int .i64 n, .int .i64 d] w fun e w' => e = .returned (.tuple #[.agg #[.int .i64 (-(2 * n * (d % n))), .int .i64 (-(n * n - d % n * (d % n)))], .int .i64 (n * n + d % n * (d % n))]) ∧ Below w.heap.size w w' := by
  have k0 : 0 ≤ d % n := Int.emod_nonneg _ (by omega)
  have k1 : d % n < n := Int.emod_lt_of_pos _ (by omega)
  have b1 := M.mul_bd (a := n) (b := n) (A := 180) (B := 180) (by omega) h2 (by omega) h2
  have b2 := M.mul_bd (a := d % n) (b := d % n) (A := 180) (B := 180) k0 (by omega) k0 (by omega)
  have b3 := M.mul_bd (a := 2 * n) (b := d % n) (A := 360) (B := 180) (by omega) (by omega) k0 (by omega)
  go_enter Try.func63, Try.ntmps63
  go_wp2
  exact bodyPost_ret (v := .tuple #[.agg #[.int .i64 (-(2 * n * (d % n))), .int .i64 (-(n * n - d % n * (d % n)))], .int .i64 (n * n + d % n * (d % n))]) (by simp [results, Try.results63, go_sem]) rfl ⟨rfl, by repeat (first | exact Below.refl _ _ | (refine Below.setCell ?_ (by simp) _) | (refine Below.alloc ?_ (by simp) _))⟩

set_option maxRecDepth 100000 in
set_option maxHeartbeats 400000 in
theorem towards3 (n d : Int) (w : World) (h1 : 1 ≤ n) (h2 : n ≤ 180) (h3 : 0 ≤ d) (hq : wrap64 (d.tdiv n) = 3) :
    Calls Try.prog 63 #[.int .i64 n, .int .i64 d] w fun e w' => e = .returned (.tuple #[.agg #[.int .i64 (-(n * n - d % n * (d % n))), .int .i64 (2 * n * (d % n))], .int .i64 (n * n + d % n * (d % n))]) ∧ Below w.heap.size w w' := by
  have k0 : 0 ≤ d % n := Int.emod_nonneg _ (by omega)
  have k1 : d % n < n := Int.emod_lt_of_pos _ (by omega)
  have b1 := M.mul_bd (a := n) (b := n) (A := 180) (B := 180) (by omega) h2 (by omega) h2
  have b2 := M.mul_bd (a := d % n) (b := d % n) (A := 180) (B := 180) k0 (by omega) k0 (by omega)
  have b3 := M.mul_bd (a := 2 * n) (b := d % n) (A := 360) (B := 180) (by omega) (by omega) k0 (by omega)
  go_enter Try.func63, Try.ntmps63
  go_wp2
  exact bodyPost_ret (v := .tuple #[.agg #[.int .i64 (-(n * n - d % n * (d % n))), .int .i64 (2 * n * (d % n))], .int .i64 (n * n + d % n * (d % n))]) (by simp [results, Try.results63, go_sem]) rfl ⟨rfl, by repeat (first | exact Below.refl _ _ | (refine Below.setCell ?_ (by simp) _) | (refine Below.alloc ?_ (by simp) _))⟩

/-- the direction of a rose: to the east, to the north, and its length -/
def dirX (n d : Int) : Int := if d / n = 0 then 2 * n * (d % n) else if d / n = 1 then n * n - d % n * (d % n) else if d / n = 2 then -(2 * n * (d % n)) else -(n * n - d % n * (d % n))
def dirY (n d : Int) : Int := if d / n = 0 then n * n - d % n * (d % n) else if d / n = 1 then -(2 * n * (d % n)) else if d / n = 2 then -(n * n - d % n * (d % n)) else 2 * n * (d % n)
def dirL (n d : Int) : Int := n * n + d % n * (d % n)

theorem quarter {n d : Int} (h1 : 1 ≤ n) (h3 : 0 ≤ d) (h4 : d < 4 * n) : d / n = 0 ∨ d / n = 1 ∨ d / n = 2 ∨ d / n = 3 := by
  have h5 : 0 ≤ d / n := Int.ediv_nonneg h3 (by omega)
  have h6 : d / n < 4 := Int.ediv_lt_of_lt_mul (by omega) (by omega)
  omega

theorem towards_any (n d : Int) (w : World) (h1 : 1 ≤ n) (h2 : n ≤ 180) (h3 : 0 ≤ d) (h4 : d < 4 * n) :
    Calls Try.prog 63 #[.int .i64 n, .int .i64 d] w fun e w' => e = .returned (.tuple #[.agg #[.int .i64 (dirX n d), .int .i64 (dirY n d)], .int .i64 (dirL n d)]) ∧ Below w.heap.size w w' := by
  rcases quarter h1 h3 h4 with h | h | h | h
  · refine (towards0 n d w h1 h2 h3 (tdiv_of h1 h3 h (by omega))).mono fun e w' hw => ?_
    simpa only [dirX, dirY, dirL, h, if_true] using hw
  · refine (towards1 n d w h1 h2 h3 (tdiv_of h1 h3 h (by omega))).mono fun e w' hw => ?_
    simpa [dirX, dirY, dirL, h] using hw
  · refine (towards2 n d w h1 h2 h3 (tdiv_of h1 h3 h (by omega))).mono fun e w' hw => ?_
    simpa [dirX, dirY, dirL, h] using hw
  · refine (towards3 n d w h1 h2 h3 (tdiv_of h1 h3 h (by omega))).mono fun e w' hw => ?_
    simpa [dirX, dirY, dirL, h] using hw

end Go.Proofs.Ythnjfnapjpdchaa
