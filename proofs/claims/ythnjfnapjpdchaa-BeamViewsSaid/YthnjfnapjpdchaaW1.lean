/-
  Walks over the closures of find and sector.
-/
import Derived.Test.YthnjfnapjpdchaaW0
import Derived.Test.YthnjfnapjpdchaaS2
namespace Go.Proofs.Ythnjfnapjpdchaa
open Go.RowKit
set_option linter.unusedVariables false

/-- integers in a row of a block -/
def IntsAt (w : World) (b n : Nat) (B : Nat → Int) : Prop := ∀ k, k < n → w.cell? ⟨b, k, none⟩ = some (.int .i64 (B k))
theorem IntsAt.keep {C b n : Nat} {W w1 : World} {B : Nat → Int} (s : IntsAt W b n B) (hb : Below C W w1) (h : b < C) : IntsAt w1 b n B := fun k hk => keepB hb h (s k hk)

set_option maxHeartbeats 1600000 in
theorem find1_any (q pb b n k : Nat) (sq : Int) (B : Nat → Int) (w : World) (hq : w.cell? ⟨q, 0, none⟩ = some (.int .i64 sq)) (hp : w.cell? ⟨pb, 0, none⟩ = some (.slice (some ⟨b, 0, none⟩) n n))
    (hs : IntsAt w b n B) (hk : k < n) (hn : n ≤ 1000000) (hB : 0 ≤ B k ∧ B k ≤ 1000000) :
    Calls Try.prog 97 #[.int .i64 k, .pointer (some ⟨q, 0, none⟩), .pointer (some ⟨pb, 0, none⟩)] w fun e w' => e = .returned (.bool (decide (sq < B k * B k))) ∧ Below w.heap.size w w' := by
  have hc := hs k hk
  have m1 := M.mul_bd hB.1 hB.2 hB.1 hB.2
  have q1 : IntKind.i64.wrap (B k * B k) = B k * B k := IntWalk.i64_in _ (by omega)
  have i1 : (0 : Int) ≤ (k : Int) := Int.natCast_nonneg _
  have i2 : (k : Int) < (n : Int) := by omega
  clear hs
  go_enter Try.func97, Try.ntmps97
  go_wp2
  go_quiet (fail)
  go_wp2
  go_ret
  exact ⟨rfl, below_drewN (Below.refl _ _) _⟩

set_option maxHeartbeats 1600000 in
theorem sector1_any (pr pv k : Nat) (n vx vy : Int) (w : World) (hr : w.cell? ⟨pr, 0, none⟩ = some (.int .i64 n)) (hv0 : w.cell? ⟨pv, 0, none⟩ = some (.int .i64 vx)) (hv1 : w.cell? ⟨pv, 1, none⟩ = some (.int .i64 vy))
    (h1 : 1 ≤ n) (h2 : n ≤ 90) (hk : (k : Int) < n) (b1 : -10000000 ≤ vx ∧ vx ≤ 10000000) (b2 : -10000000 ≤ vy ∧ vy ≤ 10000000) :
    Calls Try.prog 102 #[.int .i64 k, .pointer (some ⟨pr, 0, none⟩), .pointer (some ⟨pv, 0, none⟩)] w
      fun e w' => e = .returned (.bool (decide (dirY n k * vx < dirX n k * vy))) ∧ Below w.heap.size w w' := by
  obtain ⟨⟨d1, d2⟩, ⟨d3, d4⟩, _⟩ := dir_bd h1 (show n ≤ 180 by omega) (Int.natCast_nonneg k) (by omega)
  have m1 := M.mul_abs (a := dirY n k) (b := vx) (A := 64800) (B := 10000000) d3 d4 b1.1 b1.2
  have m2 := M.mul_abs (a := dirX n k) (b := vy) (A := 64800) (B := 10000000) d1 d2 b2.1 b2.2
  have l1 := World.block_lt_of_cell? w _ hv0
  have l2 := World.block_lt_of_cell? w _ hr
  have H0 := Lib.hid hv0
  have H1 := Lib.hid hv1
  go_enter Try.func102, Try.ntmps102
  go_wp2_with fail
  refine (towards_any n k _ h1 (by omega) (Int.natCast_nonneg _) (by omega)).mono ?_; rintro e w1 ⟨rfl, hb1⟩
  have c0 := keepB hb1 l1 H0.out
  have c1 := keepB hb1 l1 H1.out
  have l3 : pv < w1.heap.size := Nat.lt_of_lt_of_le l1 hb1.size
  have z1 := hb1.size
  have HB := Lib.hid hb1
  clear hb1 hv0 hv1
  go_wp2_with fail
  refine (isBefore_any _ _ _ _ _ (by omega) (by omega)).mono ?_; rintro e w2 ⟨rfl, hb2⟩
  go_wp2
  go_ret
  exact ⟨rfl, (HB.out).trans (Below.trans ((below_alloc _ _).mono z1) (hb2.mono (by simp only [World.size_alloc]; omega)))⟩

end Go.Proofs.Ythnjfnapjpdchaa
