/-
  The walk over works.
-/
import Derived.Test.YthnjfnapjpdchaaQ1
import Derived.Test.YthnjfnapjpdchaaE
namespace Go.Proofs.Ythnjfnapjpdchaa
open Go.RowKit

set_option maxHeartbeats 400000 in
theorem point_any (n : Int) (w : World) :
    Calls Try.prog 48 #[.int .i64 n] w fun e w' => e = .returned (.agg #[.int .i64 n, .int .i64 n]) ∧ Below w.heap.size w w' := by
  go_enter Try.func48, Try.ntmps48
  go_wp2
  exact bodyPost_ret (v := .agg #[.int .i64 n, .int .i64 n]) (by simp [results, Try.results48, go_sem]) rfl ⟨rfl, by repeat (first | exact Below.refl _ _ | (refine Below.setCell ?_ (by simp) _) | (refine Below.alloc ?_ (by simp) _))⟩

/-- the name of the example's site -/
def nmS : ByteArray := { data := #[115] }

set_option maxHeartbeats 400000 in
theorem S_any (w : World) :
    Calls Try.prog 23 #[] w fun e w' => e = .returned (.agg #[.string nmS, .int .i64 0, .int .i64 0, .int .i64 100, .int .i64 2, .int .i64 4, .int .i64 1000, .int .i64 1]) ∧ Below w.heap.size w w' := by
  go_enter Try.func23, Try.ntmps23
  go_wp2
  exact bodyPost_ret (v := .agg #[.string nmS, .int .i64 0, .int .i64 0, .int .i64 100, .int .i64 2, .int .i64 4, .int .i64 1000, .int .i64 1]) (by simp [results, Try.results23, go_sem, nmS]) rfl ⟨rfl, by repeat (first | exact Below.refl _ _ | (refine Below.setCell ?_ (by simp) _) | (refine Below.alloc ?_ (by simp) _))⟩

theorem nmS_ok : nameB nmS = true := by
  rw [nameB_true]
  refine ⟨by decide, by decide, fun h => ?_, fun j h => ?_⟩
  · have e : ((nmS[0]'h).toNat : Int) = 115 := rfl
    rw [e]; decide
  · have h2 : j < 1 := h
    obtain rfl : j = 0 := by omega
    have e : ((nmS[0]'h).toNat : Int) = 115 := rfl
    rw [e]; decide
theorem siteS : siteC nmS 0 0 100 2 4 1000 1 = 0 := siteC_zero.2 ⟨nmS_ok, siteB_true.1 (by decide)⟩
theorem nmS_size : nmS.size ≤ maxLen := by decide

theorem d21 : dirX 2 1 = 4 ∧ dirY 2 1 = 3 ∧ dirL 2 1 = 5 := by decide
theorem g256 : codeE (siteC nmS 0 0 100 2 4 1000 1) (inB 256 0 256 && inB 1 0 (4 - 1)) = 0 := by rw [siteS]; decide
theorem r256 : runLo 1000 256 1 = 900 ∧ runHi 1000 256 1 = 900 := by decide +kernel

theorem Direction_21 (w : World) : Calls Try.prog 25 #[.int .i64 2, .int .i64 1] w fun e w' => e = .returned (.tuple #[.int .i64 4, .int .i64 3, .int .i64 5, .int .i64 0]) ∧ Below w.heap.size w w' := by
  have h := Direction_ok 2 1 w (by decide) (by decide) (by decide) (by decide)
  rw [d21.1, d21.2.1, d21.2.2] at h
  exact h
theorem Ground_S (w : World) : Calls Try.prog 29 #[.agg #[.string nmS, .int .i64 0, .int .i64 0, .int .i64 100, .int .i64 2, .int .i64 4, .int .i64 1000, .int .i64 1], .int .i64 256, .int .i64 1] w
    fun e w' => e = .returned (.tuple #[.agg #[.int .i64 900, .int .i64 900], .int .i64 0]) ∧ Below w.heap.size w w' := by
  have h := Ground_any nmS 0 0 100 2 4 1000 1 256 1 w nmS_size
  rw [g256, val_ok, val_ok, r256.1, r256.2] at h
  exact h

set_option maxHeartbeats 800000 in
theorem works_any (w : World) :
    Calls Try.prog 14 #[] w fun e w' => e = .returned (.bool true) ∧ Below w.heap.size w w' := by
  go_enter Try.func14, Try.ntmps14
  go_wp2_with fail
  refine (Direction_21 _).mono ?_; rintro e w1 ⟨rfl, hb1⟩
  go_wp2_with fail
  refine (S_any _).mono ?_; rintro e w2 ⟨rfl, hb2⟩
  go_wp2_with fail
  refine (Ground_S _).mono ?_; rintro e w3 ⟨rfl, hb3⟩
  have hb : Below w.heap.size w w3 := (hb1.trans (hb2.mono hb1.size)).trans (hb3.mono (Nat.le_trans hb1.size hb2.size))
  have hz : w.heap.size ≤ w3.heap.size := hb.size
  clear hb1 hb2 hb3
  go_wp2_with fail
  go_region_held3 (fun w' => w'.cell? ⟨w3.heap.size, 0, none⟩ = some (.int .i64 900) ∧ w'.cell? ⟨w3.heap.size, 1, none⟩ = some (.int .i64 900) ∧ w3.heap.size < w'.heap.size ∧ Below w.heap.size w w')
    (first | exact ⟨alloc_new rfl rfl, alloc_new rfl rfl, by simp, (hb.alloc hz _).drew⟩ | (go_split_ands; refine ⟨?_, ?_, ?_, ?_⟩ <;> first | exact keepB hb4 (by omega) (by assumption) | (have := hb4.size; omega) | exact Below.trans (by assumption) (hb4.mono (by omega))))
    (first | (go_at_call 48; refine (point_any _ _).mono ?_; rintro e w4 ⟨rfl, hb4⟩))
  go_split_ands
  go_wp2
  go_ret
  exact ⟨rfl, by assumption⟩

end Go.Proofs.Ythnjfnapjpdchaa
