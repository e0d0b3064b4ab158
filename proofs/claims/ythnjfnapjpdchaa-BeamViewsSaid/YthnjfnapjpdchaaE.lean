/-
  Walks over Direction, in the code and in the reference.
-/
import Derived.Test.YthnjfnapjpdchaaD
namespace Go.Proofs.Ythnjfnapjpdchaa
open Go.RowKit

set_option maxHeartbeats 400000 in
theorem Direction_ok (n d : Int) (w : World) (h1 : 1 ≤ n) (h2 : n ≤ 180) (h3 : 0 ≤ d) (h4 : d < 4 * n) :
    Calls Try.prog 25 #[.int .i64 n, .int .i64 d] w fun e w' => e = .returned (.tuple #[.int .i64 (dirX n d), .int .i64 (dirY n d), .int .i64 (dirL n d), .int .i64 0]) ∧ Below w.heap.size w w' := by
  have hi : inB n 1 180 = true := inB_true.2 ⟨h1, h2⟩
  have hj : inB d 0 (4 * n - 1) = true := inB_true.2 ⟨h3, by omega⟩
  go_enter Try.func25, Try.ntmps25
  go_wp2_with (first | (go_at_call 59; refine (isIn_any _ _ _ _).mono ?_; rintro e w' ⟨rfl, rfl⟩) | (go_at_call 63; refine (towards_any n d _ h1 h2 h3 h4).mono ?_; rintro e w1 ⟨rfl, hb⟩))
  go_quiet (fail)
  go_wp2
  exact bodyPost_ret (v := .tuple #[.int .i64 (dirX n d), .int .i64 (dirY n d), .int .i64 (dirL n d), .int .i64 0]) (by simp [results, Try.results25, go_sem]) rfl ⟨rfl, below_drewN (hb.alloc hb.size _) _⟩

set_option maxHeartbeats 400000 in
theorem Direction_no1 (n d : Int) (w : World) (h : inB n 1 180 = false) :
    Calls Try.prog 25 #[.int .i64 n, .int .i64 d] w fun e w' => e = .returned (.tuple #[.int .i64 0, .int .i64 0, .int .i64 0, .int .i64 3]) ∧ w = w' := by
  go_enter Try.func25, Try.ntmps25
  go_wp2_with (go_at_call 59; refine (isIn_any _ _ _ _).mono ?_; rintro e w' ⟨rfl, rfl⟩)
  exact bodyPost_ret (v := .tuple #[.int .i64 0, .int .i64 0, .int .i64 0, .int .i64 3]) (by simp [results, Try.results25, go_sem]) rfl ⟨rfl, rfl⟩

set_option maxHeartbeats 400000 in
theorem Direction_no2 (n d : Int) (w : World) (h1 : 1 ≤ n) (h2 : n ≤ 180) (h : inB d 0 (4 * n - 1) = false) :
    Calls Try.prog 25 #[.int .i64 n, .int .i64 d] w fun e w' => e = .returned (.tuple #[.int .i64 0, .int .i64 0, .int .i64 0, .int .i64 3]) ∧ w = w' := by
  have hi : inB n 1 180 = true := inB_true.2 ⟨h1, h2⟩
  go_enter Try.func25, Try.ntmps25
  go_wp2_with (go_at_call 59; refine (isIn_any _ _ _ _).mono ?_; rintro e w' ⟨rfl, rfl⟩)
  exact bodyPost_ret (v := .tuple #[.int .i64 0, .int .i64 0, .int .i64 0, .int .i64 3]) (by simp [results, Try.results25, go_sem]) rfl ⟨rfl, rfl⟩

set_option maxHeartbeats 400000 in
theorem refDirection_no1 (n d : Int) (w : World) (h : inB n 1 180 = false) :
    Calls Try.prog 26 #[.int .i64 n, .int .i64 d] w fun e w' => e = .returned (.tuple #[.int .i64 0, .int .i64 0, .int .i64 0, .int .i64 3]) ∧ w = w' := by
  go_enter Try.func26, Try.ntmps26
  go_wp2_with (go_at_call 60; refine (refIn_any _ _ _ _).mono ?_; rintro e w' ⟨rfl, rfl⟩)
  exact bodyPost_ret (v := .tuple #[.int .i64 0, .int .i64 0, .int .i64 0, .int .i64 3]) (by simp [results, Try.results26, go_sem]) rfl ⟨rfl, rfl⟩

set_option maxHeartbeats 400000 in
theorem refDirection_no2 (n d : Int) (w : World) (h1 : 1 ≤ n) (h2 : n ≤ 180) (h : inB d 0 (4 * n - 1) = false) :
    Calls Try.prog 26 #[.int .i64 n, .int .i64 d] w fun e w' => e = .returned (.tuple #[.int .i64 0, .int .i64 0, .int .i64 0, .int .i64 3]) ∧ w = w' := by
  have hi : inB n 1 180 = true := inB_true.2 ⟨h1, h2⟩
  go_enter Try.func26, Try.ntmps26
  go_wp2_with (go_at_call 60; refine (refIn_any _ _ _ _).mono ?_; rintro e w' ⟨rfl, rfl⟩)
  exact bodyPost_ret (v := .tuple #[.int .i64 0, .int .i64 0, .int .i64 0, .int .i64 3]) (by simp [results, Try.results26, go_sem]) rfl ⟨rfl, rfl⟩

set_option maxRecDepth 100000 in
set_option maxHeartbeats 400000 in
theorem refDirection0 (n d : Int) (w : World) (h1 : 1 ≤ n) (h2 : n ≤ 180) (h3 : 0 ≤ d) (h4 : d < 4 * n) (hq : d / n = 0) :
    Calls Try.prog 26 #[.int .i64 n, .int .i64 d] w fun e w' => e = .returned (.tuple #[.int .i64 (2 * n * (d % n)), .int .i64 (n * n - d % n * (d % n)), .int .i64 (n * n + d % n * (d % n)), .int .i64 0]) ∧ w = w' := by
  have hi : inB n 1 180 = true := inB_true.2 ⟨h1, h2⟩
  have hj : inB d 0 (4 * n - 1) = true := inB_true.2 ⟨h3, by omega⟩
  have k0 : 0 ≤ d % n := Int.emod_nonneg _ (by omega)
  have k1 : d % n < n := Int.emod_lt_of_pos _ (by omega)
  have b1 := M.mul_bd (a := n) (b := n) (A := 180) (B := 180) (by omega) h2 (by omega) h2
  have b2 := M.mul_bd (a := d % n) (b := d % n) (A := 180) (B := 180) k0 (by omega) k0 (by omega)
  have b3 := M.mul_bd (a := 2 * n) (b := d % n) (A := 360) (B := 180) (by omega) (by omega) k0 (by omega)
  go_enter Try.func26, Try.ntmps26
  go_wp2_with (go_at_call 60; refine (refIn_any _ _ _ _).mono ?_; rintro e w' ⟨rfl, rfl⟩)
  exact bodyPost_ret (v := .tuple #[.int .i64 (2 * n * (d % n)), .int .i64 (n * n - d % n * (d % n)), .int .i64 (n * n + d % n * (d % n)), .int .i64 0]) (by simp [results, Try.results26, go_sem]) rfl ⟨rfl, rfl⟩

set_option maxRecDepth 100000 in
set_option maxHeartbeats 400000 in
theorem refDirection1 (n d : Int) (w : World) (h1 : 1 ≤ n) (h2 : n ≤ 180) (h3 : 0 ≤ d) (h4 : d < 4 * n) (hq : d / n = 1) :
    Calls Try.prog 26 #[.int .i64 n, .int .i64 d] w fun e w' => e = .returned (.tuple #[.int .i64 (n * n - d % n * (d % n)), .int .i64 (-(2 * n * (d % n))), .int .i64 (n * n + d % n * (d % n)), .int .i64 0]) ∧ w = w' := by
  have hi : inB n 1 180 = true := inB_true.2 ⟨h1, h2⟩
  have hj : inB d 0 (4 * n - 1) = true := inB_true.2 ⟨h3, by omega⟩
  have k0 : 0 ≤ d % n := Int.emod_nonneg _ (by omega)
  have k1 : d % n < n := Int.emod_lt_of_pos _ (by omega)
  have b1 := M.mul_bd (a := n) (b := n) (A := 180) (B := 180) (by omega) h2 (by omega) h2
  have b2 := M.mul_bd (a := d % n) (b := d % n) (A := 180) (B := 180) k0 (by omega) k0 (by omega)
  have b3 := M.mul_bd (a := 2 * n) (b := d % n) (A := 360) (B := 180) (by omega) (by omega) k0 (by omega)
  go_enter Try.func26, Try.ntmps26
  go_wp2_with (go_at_call 60; refine (refIn_any _ _ _ _).mono ?_; rintro e w' ⟨rfl, rfl⟩)
  exact bodyPost_ret (v := .tuple #[.int .i64 (n * n - d % n * (d % n)), .int .i64 (-(2 * n * (d % n))), .int .i64 (n * n + d % n * (d % n)), .int .i64 0]) (by simp [results, Try.results26, go_sem]) rfl ⟨rfl, rfl⟩

set_option maxRecDepth 100000 in
set_option maxHeartbeats 400000 in
theorem refDirection2 (n d : Int) (w : World) (h1 : 1 ≤ n) (h2 : n ≤ 180) (h3 : 0 ≤ d) (h4 : d < 4 * n) (hq : d / n = 2) :
    Calls Try.prog 26 #[.int .i64 n, .int .i64 d] w fun e w' => e = .returned (.tuple #[.int .i64 (-(2 * n * (d % n))), .int .i64 (-(n * n - d % n * (d % n))), .int .i64 (n * n + d % n * (d % n)), .int .i64 0]) ∧ w = w' := by
  have hi : inB n 1 180 = true := inB_true.2 ⟨h1, h2⟩
  have hj : inB d 0 (4 * n - 1) = true := inB_true.2 ⟨h3, by omega⟩
  have k0 : 0 ≤ d % n := Int.emod_nonneg _ (by omega)
  have k1 : d % n < n := Int.emod_lt_of_pos _ (by omega)
  have b1 := M.mul_bd (a := n) (b := n) (A := 180) (B := 180) (by omega) h2 (by omega) h2
  have b2 := M.mul_bd (a := d % n) (b := d % n) (A := 180) (B := 180) k0 (by omega) k0 (by omega)
  have b3 := M.mul_bd (a := 2 * n) (b := d % n) (A := 360) (B := 180) (by omega) (by omega) k0 (by omega)
  go_enter Try.func26, Try.ntmps26
  go_wp2_with (go_at_call 60; refine (refIn_any _ _ _ _).mono ?_; rintro e w' ⟨rfl, rfl⟩)
  exact bodyPost_ret (v := .tuple #[.int .i64 (-(2 * n * (d % n))), .int .i64 (-(n * n - d % n * (d % n))), .int .i64 (n * n + d % n * (d % n)), .int .i64 0]) (by simp [results, Try.results26, go_sem]) rfl ⟨rfl, rfl⟩

set_option maxRecDepth 100000 in
set_option maxHeartbeats 400000 in
theorem refDirection3 (n d : Int) (w : World) (h1 : 1 ≤ n) (h2 : n ≤ 180) (h3 : 0 ≤ d) (h4 : d < 4 * n) (hq : d / n = 3) :
    Calls Try.prog 26 #[.int .i64 n, .int .i64 d] w fun e w' => e = .returned (.tuple #[.int .i64 (-(n * n - d % n * (d % n))), .int .i64 (2 * n * (d % n)), .int .i64 (n * n + d % n * (d % n)), .int .i64 0]) ∧ w = w' := by
  have hi : inB n 1 180 = true := inB_true.2 ⟨h1, h2⟩
  have hj : inB d 0 (4 * n - 1) = true := inB_true.2 ⟨h3, by omega⟩
  have k0 : 0 ≤ d % n := Int.emod_nonneg _ (by omega)
  have k1 : d % n < n := Int.emod_lt_of_pos _ (by omega)
  have b1 := M.mul_bd (a := n) (b := n) (A := 180) (B := 180) (by omega) h2 (by omega) h2
  have b2 := M.mul_bd (a := d % n) (b := d % n) (A := 180) (B := 180) k0 (by omega) k0 (by omega)
  have b3 := M.mul_bd (a := 2 * n) (b := d % n) (A := 360) (B := 180) (by omega) (by omega) k0 (by omega)
  go_enter Try.func26, Try.ntmps26
  go_wp2_with (go_at_call 60; refine (refIn_any _ _ _ _).mono ?_; rintro e w' ⟨rfl, rfl⟩)
  exact bodyPost_ret (v := .tuple #[.int .i64 (-(n * n - d % n * (d % n))), .int .i64 (2 * n * (d % n)), .int .i64 (n * n + d % n * (d % n)), .int .i64 0]) (by simp [results, Try.results26, go_sem]) rfl ⟨rfl, rfl⟩

theorem refDirection_ok (n d : Int) (w : World) (h1 : 1 ≤ n) (h2 : n ≤ 180) (h3 : 0 ≤ d) (h4 : d < 4 * n) :
    Calls Try.prog 26 #[.int .i64 n, .int .i64 d] w fun e w' => e = .returned (.tuple #[.int .i64 (dirX n d), .int .i64 (dirY n d), .int .i64 (dirL n d), .int .i64 0]) ∧ w = w' := by
  rcases quarter h1 h3 h4 with h | h | h | h
  · refine (refDirection0 n d w h1 h2 h3 h4 h).mono fun e w' hw => ?_
    simpa only [dirX, dirY, dirL, h, if_true] using hw
  · refine (refDirection1 n d w h1 h2 h3 h4 h).mono fun e w' hw => ?_
    simpa [dirX, dirY, dirL, h] using hw
  · refine (refDirection2 n d w h1 h2 h3 h4 h).mono fun e w' hw => ?_
    simpa [dirX, dirY, dirL, h] using hw
  · refine (refDirection3 n d w h1 h2 h3 h4 h).mono fun e w' hw => ?_
    simpa [dirX, dirY, dirL, h] using hw

end Go.Proofs.Ythnjfnapjpdchaa
