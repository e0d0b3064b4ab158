/-
  PulseSweeps, walked.
-/
import Derived.Test.Ytmojnopgpgnfeaamg27
import Derived.Test.Ytmojnopgpgnfeaamg19
namespace Go.Proofs.Ytmojnopgpgnfeaa
open Go.RowKit
set_option linter.unusedVariables false
set_option linter.unusedSimpArgs false

theorem name_a : nameP ⟨#[97]⟩ := ⟨by decide, by decide, fun _ => (by decide : letB 97 = true), fun j h => by
  have : j = 0 := by have : j < 1 := h; omega
  subst this; exact (by decide : chB 97 = true)⟩
theorem site_a : siteC ⟨#[97]⟩ 0 0 0 1 1 50 0 = 0 := siteC_ok (nameB_true.2 name_a) (by decide)
/-- the rays of the good sweep -/
def goodR (B : Nat) (_ : Nat) : RayD := ⟨some ⟨B, 0, none⟩, 1, 1, fun _ => fun j => if j = 0 then 1 else 0⟩
theorem sweep_good (B : Nat) : sweepC ⟨#[97]⟩ 0 0 0 1 1 50 0 0 0 4 (goodR B) = 0 := by
  unfold sweepC
  rw [site_a, if_pos rfl]
  rfl
theorem sweep_none (rs : Nat → RayD) : sweepC ⟨#[97]⟩ 0 0 0 1 1 50 0 0 0 0 rs = 11 := by
  unfold sweepC
  rw [site_a, if_pos rfl]
  rfl

set_option maxRecDepth 100000 in
theorem boxesS (nm : ByteArray) (x y z rose gates step width tilt time : Int) (a : Option Addr) (n cap : Nat) (rs : Nat → RayD) (w : World) (U : World) (hS : SwAt U w.heap.size nm x y z rose gates step width tilt time a n cap) (hz : w.heap.size < U.heap.size) : ∃ A, A = ((U.alloc (.cells #[.int .i64 1, .int .i64 0, .int .i64 0, .int .i64 0, .int .i64 0, .int .i64 0, .int .i64 0, .int .i64 0, .int .i64 0, .int .i64 0, .int .i64 0, .int .i64 0, .int .i64 0, .int .i64 0] 30)).alloc (.cells #[.slice (some ⟨U.heap.size, 0, none⟩) 1 1, .slice (some ⟨U.heap.size, 0, none⟩) 1 1, .slice (some ⟨U.heap.size, 0, none⟩) 1 1, .slice (some ⟨U.heap.size, 0, none⟩) 1 1] 47)).alloc (.cells #[.string ⟨#[97]⟩, .int .i64 0, .int .i64 0, .int .i64 0, .int .i64 1, .int .i64 1, .int .i64 50, .int .i64 0, .int .i64 0, .int .i64 0, .slice (some ⟨U.heap.size + 1, 0, none⟩) 4 4] 46) ∧ A.cell? ⟨w.heap.size, 0, none⟩ = some (.string nm) ∧ A.cell? ⟨w.heap.size, 1, none⟩ = some (.int .i64 x) ∧ A.cell? ⟨w.heap.size, 2, none⟩ = some (.int .i64 y) ∧ A.cell? ⟨w.heap.size, 3, none⟩ = some (.int .i64 z) ∧ A.cell? ⟨w.heap.size, 4, none⟩ = some (.int .i64 rose) ∧ A.cell? ⟨w.heap.size, 5, none⟩ = some (.int .i64 gates) ∧ A.cell? ⟨w.heap.size, 6, none⟩ = some (.int .i64 step) ∧ A.cell? ⟨w.heap.size, 7, none⟩ = some (.int .i64 width) ∧ A.cell? ⟨w.heap.size, 8, none⟩ = some (.int .i64 tilt) ∧ A.cell? ⟨w.heap.size, 9, none⟩ = some (.int .i64 time) ∧ A.cell? ⟨w.heap.size, 10, none⟩ = some (.slice a n cap) ∧ A.cell? ⟨U.heap.size + 1 + 1, 0, none⟩ = some (.string ⟨#[97]⟩) ∧ A.cell? ⟨U.heap.size + 1 + 1, 1, none⟩ = some (.int .i64 0) ∧ A.cell? ⟨U.heap.size + 1 + 1, 2, none⟩ = some (.int .i64 0) ∧ A.cell? ⟨U.heap.size + 1 + 1, 3, none⟩ = some (.int .i64 0) ∧ A.cell? ⟨U.heap.size + 1 + 1, 4, none⟩ = some (.int .i64 1) ∧ A.cell? ⟨U.heap.size + 1 + 1, 5, none⟩ = some (.int .i64 1) ∧ A.cell? ⟨U.heap.size + 1 + 1, 6, none⟩ = some (.int .i64 50) ∧ A.cell? ⟨U.heap.size + 1 + 1, 7, none⟩ = some (.int .i64 0) ∧ A.cell? ⟨U.heap.size + 1 + 1, 8, none⟩ = some (.int .i64 0) ∧ A.cell? ⟨U.heap.size + 1 + 1, 9, none⟩ = some (.int .i64 0) ∧ A.cell? ⟨U.heap.size + 1 + 1, 10, none⟩ = some (.slice (some ⟨U.heap.size + 1, 0, none⟩) 4 4) ∧ Below U.heap.size U A ∧ RaysIs A (some ⟨U.heap.size + 1, 0, none⟩) 4 (goodR U.heap.size) := by
  obtain ⟨A1, e1⟩ : ∃ A, A = U.alloc (.cells #[.int .i64 1, .int .i64 0, .int .i64 0, .int .i64 0, .int .i64 0, .int .i64 0, .int .i64 0, .int .i64 0, .int .i64 0, .int .i64 0, .int .i64 0, .int .i64 0, .int .i64 0, .int .i64 0] 30) := ⟨_, rfl⟩
  obtain ⟨A2, e2⟩ : ∃ A, A = A1.alloc (.cells #[.slice (some ⟨U.heap.size, 0, none⟩) 1 1, .slice (some ⟨U.heap.size, 0, none⟩) 1 1, .slice (some ⟨U.heap.size, 0, none⟩) 1 1, .slice (some ⟨U.heap.size, 0, none⟩) 1 1] 47) := ⟨_, rfl⟩
  obtain ⟨A3, e3⟩ : ∃ A, A = A2.alloc (.cells #[.string ⟨#[97]⟩, .int .i64 0, .int .i64 0, .int .i64 0, .int .i64 1, .int .i64 1, .int .i64 50, .int .i64 0, .int .i64 0, .int .i64 0, .slice (some ⟨U.heap.size + 1, 0, none⟩) 4 4] 46) := ⟨_, rfl⟩
  have s1 : A1.heap.size = U.heap.size + 1 := by rw [e1]; exact World.size_alloc _ _
  have s2 : A2.heap.size = U.heap.size + 1 + 1 := by rw [e2, World.size_alloc, s1]
  have s3 : A3.heap.size = U.heap.size + 1 + 1 + 1 := by rw [e3, World.size_alloc, s2]
  have b1 : Below U.heap.size U A1 := by rw [e1]; exact below_alloc _ _
  have b2 : Below A1.heap.size A1 A2 := by rw [e2]; exact below_alloc _ _
  have b3 : Below A2.heap.size A2 A3 := by rw [e3]; exact below_alloc _ _
  have c13 : Below A1.heap.size A1 A3 := b2.trans (b3.mono (by omega))
  have c03 : Below U.heap.size U A3 := b1.trans (c13.mono (by omega))
  refine ⟨A3, by rw [e3, e2, e1], keepB c03 hz hS.c0, keepB c03 hz hS.c1, keepB c03 hz hS.c2, keepB c03 hz hS.c3, keepB c03 hz hS.c4, keepB c03 hz hS.c5, keepB c03 hz hS.c6, keepB c03 hz hS.c7, keepB c03 hz hS.c8, keepB c03 hz hS.c9, keepB c03 hz hS.c10, by rw [e3, ← s2]; exact alloc_new rfl rfl, by rw [e3, ← s2]; exact alloc_new rfl rfl, by rw [e3, ← s2]; exact alloc_new rfl rfl, by rw [e3, ← s2]; exact alloc_new rfl rfl, by rw [e3, ← s2]; exact alloc_new rfl rfl, by rw [e3, ← s2]; exact alloc_new rfl rfl, by rw [e3, ← s2]; exact alloc_new rfl rfl, by rw [e3, ← s2]; exact alloc_new rfl rfl, by rw [e3, ← s2]; exact alloc_new rfl rfl, by rw [e3, ← s2]; exact alloc_new rfl rfl, by rw [e3, ← s2]; exact alloc_new rfl rfl, c03, .inr ⟨U.heap.size + 1, 0, rfl, by omega, fun i hi => ⟨?_, (by decide : 1 ≤ maxLen), .inr ⟨U.heap.size, 0, rfl, by omega, fun k hk j hj => ?_⟩⟩⟩⟩
  · have hi' : i = 0 ∨ i = 1 ∨ i = 2 ∨ i = 3 := by omega
    refine keepB b3 (by omega) ?_
    rw [e2, ← s1]
    rcases hi' with rfl | rfl | rfl | rfl <;> exact alloc_new rfl rfl
  · have hk' : k = 0 := by have : k < 1 := hk; omega
    subst hk'
    refine keepB c13 (by omega) ?_
    rw [e1]
    have hj' : j = 0 ∨ j = 1 ∨ j = 2 ∨ j = 3 ∨ j = 4 ∨ j = 5 ∨ j = 6 ∨ j = 7 ∨ j = 8 ∨ j = 9 ∨ j = 10 ∨ j = 11 ∨ j = 12 ∨ j = 13 := by omega
    rcases hj' with rfl | rfl | rfl | rfl | rfl | rfl | rfl | rfl | rfl | rfl | rfl | rfl | rfl | rfl <;> exact alloc_new rfl rfl

end Go.Proofs.Ytmojnopgpgnfeaa

namespace Go.Proofs.Ytmojnopgpgnfeaa
open Go.RowKit
set_option linter.unusedVariables false
set_option linter.unusedSimpArgs false

set_option maxRecDepth 100000 in
set_option maxHeartbeats 16000000 in
theorem PulseSweeps_walk (nm : ByteArray) (x y z rose gates step width tilt time : Int) (a : Option Addr) (n cap : Nat) (rs : Nat → RayD) (w : World) (hs : nm.size ≤ maxLen) (hn : n ≤ maxLen) (hR : RaysIs w a n rs) :
    Calls Try.prog 4 #[.agg #[.string nm, .int .i64 x, .int .i64 y, .int .i64 z, .int .i64 rose, .int .i64 gates, .int .i64 step, .int .i64 width, .int .i64 tilt, .int .i64 time, .slice a n cap]] w fun e w' => e = .returned (.bool true) ∧ Below w.heap.size w w' := by
  have hmaxl : maxLen = 9223372036854775807 := rfl
  obtain ⟨U, hU⟩ : ∃ U, U = w.alloc (.cells #[.string nm, .int .i64 x, .int .i64 y, .int .i64 z, .int .i64 rose, .int .i64 gates, .int .i64 step, .int .i64 width, .int .i64 tilt, .int .i64 time, .slice a n cap] 46) := ⟨_, rfl⟩
  have hS : SwAt U w.heap.size nm x y z rose gates step width tilt time a n cap := by rw [hU]; exact SwAt.new nm x y z rose gates step width tilt time a n cap w
  have bU : Below w.heap.size w U := by rw [hU]; exact below_alloc _ _
  have hz : w.heap.size < U.heap.size := by rw [hU, World.size_alloc]; omega
  have HS := Lib.hid hS
  obtain ⟨c0, c1, c2, c3, c4, c5, c6, c7, c8, c9, c10⟩ := hS
  by_cases h1 : 200 < n
  · have d1 : decide (200 < (n : Int)) = true := decide_eq_true (by omega)
    go_enter Try.func4, Try.ntmps4
    go_wp2_with fail
    rw [← hU]
    clear hU
    refine (works_any _).mono ?_; rintro e' X ⟨rfl, hb⟩
    go_wp2
    go_ret
    exact ⟨rfl, bU.trans (hb.mono bU.size)⟩
  have d1 : decide (200 < (n : Int)) = false := decide_eq_false (by omega)
  by_cases h2 : 40 < nm.size
  · have d2 : decide (40 < (nm.size : Int)) = true := decide_eq_true (by omega)
    go_enter Try.func4, Try.ntmps4
    go_wp2_with fail
    rw [← hU]
    clear hU
    refine (works_any _).mono ?_; rintro e' X ⟨rfl, hb⟩
    go_wp2
    go_ret
    exact ⟨rfl, bU.trans (hb.mono bU.size)⟩
  have d2 : decide (40 < (nm.size : Int)) = false := decide_eq_false (by omega)
  have hRU := Lib.hid (hR.keep bU)
  have HB := Lib.hid bU
  clear hR bU
  obtain ⟨sC, hsC⟩ : ∃ v, v = sweepC nm x y z rose gates step width tilt time n rs := ⟨_, rfl⟩
  have HC1 : Hid (∀ W : World, Below U.heap.size U W → Calls Try.prog 23 #[.agg #[.string nm, .int .i64 x, .int .i64 y, .int .i64 z, .int .i64 rose, .int .i64 gates, .int .i64 step, .int .i64 width, .int .i64 tilt, .int .i64 time, .slice a n cap]] W fun e w' => e = .returned (.int .i64 sC) ∧ Below W.heap.size W w') := Lib.hid fun W hW => by rw [hsC]; exact CheckSweep_any nm x y z rose gates step width tilt time a n cap rs W hs hn (hRU.out.keep hW)
  have HC2 : Hid (∀ W : World, Below U.heap.size U W → Calls Try.prog 24 #[.agg #[.string nm, .int .i64 x, .int .i64 y, .int .i64 z, .int .i64 rose, .int .i64 gates, .int .i64 step, .int .i64 width, .int .i64 tilt, .int .i64 time, .slice a n cap]] W fun e w' => e = .returned (.int .i64 sC) ∧ Below W.heap.size W w') := Lib.hid fun W hW => by rw [hsC]; exact refCheckSweep_any nm x y z rose gates step width tilt time a n cap rs W hs hn (hRU.out.keep hW)
  have HN : Hid (∀ W : World, Calls Try.prog 23 #[.agg #[.string ⟨#[97]⟩, .int .i64 0, .int .i64 0, .int .i64 0, .int .i64 1, .int .i64 1, .int .i64 50, .int .i64 0, .int .i64 0, .int .i64 0, .slice none 0 0]] W fun e w' => e = .returned (.int .i64 11) ∧ Below W.heap.size W w') := Lib.hid fun W => by
    have h := CheckSweep_any ⟨#[97]⟩ 0 0 0 1 1 50 0 0 0 none 0 0 (goodR 0) W (by decide) (by decide) (.inl rfl)
    rw [sweep_none] at h; exact h
  clear hsC
  obtain ⟨A, hA, g0, g1, g2, g3, g4, g5, g6, g7, g8, g9, g10, g11, g12, g13, g14, g15, g16, g17, g18, g19, g20, g21, bA, hGR⟩ := boxesS nm x y z rose gates step width tilt time a n cap rs w U HS.out hz
  have HA := Lib.hid hA
  have HBA := Lib.hid bA
  have HG : Hid (∀ W : World, Below A.drew.heap.size A.drew W → Calls Try.prog 23 #[.agg #[.string ⟨#[97]⟩, .int .i64 0, .int .i64 0, .int .i64 0, .int .i64 1, .int .i64 1, .int .i64 50, .int .i64 0, .int .i64 0, .int .i64 0, .slice (some ⟨U.heap.size + 1, 0, none⟩) 4 4]] W fun e w' => e = .returned (.int .i64 0) ∧ Below W.heap.size W w') := Lib.hid fun W hW => by
    have h := CheckSweep_any ⟨#[97]⟩ 0 0 0 1 1 50 0 0 0 (some ⟨U.heap.size + 1, 0, none⟩) 4 4 (goodR U.heap.size) W (by decide) (by decide) (hGR.keep ((Below.refl A.heap.size A).drew.trans hW))
    rw [sweep_good] at h; exact h
  have HSA := Lib.hid (show (fun w' : World => w'.cell? ⟨w.heap.size, 0, none⟩ = some (.string nm) ∧ w'.cell? ⟨w.heap.size, 1, none⟩ = some (.int .i64 x) ∧ w'.cell? ⟨w.heap.size, 2, none⟩ = some (.int .i64 y) ∧ w'.cell? ⟨w.heap.size, 3, none⟩ = some (.int .i64 z) ∧ w'.cell? ⟨w.heap.size, 4, none⟩ = some (.int .i64 rose) ∧ w'.cell? ⟨w.heap.size, 5, none⟩ = some (.int .i64 gates) ∧ w'.cell? ⟨w.heap.size, 6, none⟩ = some (.int .i64 step) ∧ w'.cell? ⟨w.heap.size, 7, none⟩ = some (.int .i64 width) ∧ w'.cell? ⟨w.heap.size, 8, none⟩ = some (.int .i64 tilt) ∧ w'.cell? ⟨w.heap.size, 9, none⟩ = some (.int .i64 time) ∧ w'.cell? ⟨w.heap.size, 10, none⟩ = some (.slice a n cap) ∧ w'.cell? ⟨U.heap.size + 1 + 1, 0, none⟩ = some (.string ⟨#[97]⟩) ∧ w'.cell? ⟨U.heap.size + 1 + 1, 1, none⟩ = some (.int .i64 0) ∧ w'.cell? ⟨U.heap.size + 1 + 1, 2, none⟩ = some (.int .i64 0) ∧ w'.cell? ⟨U.heap.size + 1 + 1, 3, none⟩ = some (.int .i64 0) ∧ w'.cell? ⟨U.heap.size + 1 + 1, 4, none⟩ = some (.int .i64 1) ∧ w'.cell? ⟨U.heap.size + 1 + 1, 5, none⟩ = some (.int .i64 1) ∧ w'.cell? ⟨U.heap.size + 1 + 1, 6, none⟩ = some (.int .i64 50) ∧ w'.cell? ⟨U.heap.size + 1 + 1, 7, none⟩ = some (.int .i64 0) ∧ w'.cell? ⟨U.heap.size + 1 + 1, 8, none⟩ = some (.int .i64 0) ∧ w'.cell? ⟨U.heap.size + 1 + 1, 9, none⟩ = some (.int .i64 0) ∧ w'.cell? ⟨U.heap.size + 1 + 1, 10, none⟩ = some (.slice (some ⟨U.heap.size + 1, 0, none⟩) 4 4) ∧ Below A.drew.heap.size A.drew w') A.drew from ⟨g0, g1, g2, g3, g4, g5, g6, g7, g8, g9, g10, g11, g12, g13, g14, g15, g16, g17, g18, g19, g20, g21, Below.refl _ _⟩)
  have HC3 : Hid (∀ W : World, Below A.drew.heap.size A.drew W → Below U.heap.size U W) := Lib.hid fun W hW => bA.trans (((Below.refl A.heap.size A).drew.trans hW).mono bA.size)
  clear hA bA hGR g0 g1 g2 g3 g4 g5 g6 g7 g8 g9 g10 g11 g12 g13 g14 g15 g16 g17 g18 g19 g20 g21
  go_enter Try.func4, Try.ntmps4
  go_wp2_with fail
  rw [← hU]
  clear hU
  go_wp2
  go_loopw [3] (fun i wr => ∃ k : Nat, k ≤ n ∧ i = .int .i64 k ∧ U = wr) (fun i _ => n - (intOf i).toNat)
  case atStart => exact ⟨0, Nat.zero_le _, rfl, rfl⟩
  case round =>
    obtain ⟨k, hk, rfl, rfl⟩ := hrel
    by_cases hlt : k < n
    · rcases hRU.out with h | ⟨b, off, rfl, hb, hc⟩
      · omega
      obtain ⟨zk, zl, zx⟩ := hc k hlt
      obtain ⟨ra, hra⟩ : ∃ v, v = (rs k).a := ⟨_, rfl⟩
      obtain ⟨rl, hrl⟩ : ∃ v, v = (rs k).len := ⟨_, rfl⟩
      obtain ⟨rc, hrc⟩ : ∃ v, v = (rs k).cap := ⟨_, rfl⟩
      rw [← hra, ← hrl, ← hrc] at zk
      rw [← hrl] at zl
      clear hra hrl hrc hc zx
      by_cases h3 : 60 < rl
      · have d3 : decide (60 < (rl : Int)) = true := decide_eq_true (by omega)
        go_wp2_with fail
        refine (works_any _).mono ?_; rintro e' X ⟨rfl, hb⟩
        go_wp2
        go_ret
        exact ⟨rfl, HB.out.trans (hb.mono HB.out.size)⟩
      · have d3 : decide (60 < (rl : Int)) = false := decide_eq_false (by omega)
        go_wp2
        go_roundw
        case rel => exact ⟨k + 1, by omega, by go_num, (by trivial)⟩
        case measure => simp [intOf]; omega
    · obtain rfl : n = k := by omega
      go_wp2_with fail
      rw [← HA.out]
      clear c0 c1 c2 c3 c4 c5 c6 c7 c8 c9 c10 d1 d2 hlt hk
      refine wp_region_held_tail (S := (fun w' : World => w'.cell? ⟨w.heap.size, 0, none⟩ = some (.string nm) ∧ w'.cell? ⟨w.heap.size, 1, none⟩ = some (.int .i64 x) ∧ w'.cell? ⟨w.heap.size, 2, none⟩ = some (.int .i64 y) ∧ w'.cell? ⟨w.heap.size, 3, none⟩ = some (.int .i64 z) ∧ w'.cell? ⟨w.heap.size, 4, none⟩ = some (.int .i64 rose) ∧ w'.cell? ⟨w.heap.size, 5, none⟩ = some (.int .i64 gates) ∧ w'.cell? ⟨w.heap.size, 6, none⟩ = some (.int .i64 step) ∧ w'.cell? ⟨w.heap.size, 7, none⟩ = some (.int .i64 width) ∧ w'.cell? ⟨w.heap.size, 8, none⟩ = some (.int .i64 tilt) ∧ w'.cell? ⟨w.heap.size, 9, none⟩ = some (.int .i64 time) ∧ w'.cell? ⟨w.heap.size, 10, none⟩ = some (.slice a n cap) ∧ w'.cell? ⟨U.heap.size + 1 + 1, 0, none⟩ = some (.string ⟨#[97]⟩) ∧ w'.cell? ⟨U.heap.size + 1 + 1, 1, none⟩ = some (.int .i64 0) ∧ w'.cell? ⟨U.heap.size + 1 + 1, 2, none⟩ = some (.int .i64 0) ∧ w'.cell? ⟨U.heap.size + 1 + 1, 3, none⟩ = some (.int .i64 0) ∧ w'.cell? ⟨U.heap.size + 1 + 1, 4, none⟩ = some (.int .i64 1) ∧ w'.cell? ⟨U.heap.size + 1 + 1, 5, none⟩ = some (.int .i64 1) ∧ w'.cell? ⟨U.heap.size + 1 + 1, 6, none⟩ = some (.int .i64 50) ∧ w'.cell? ⟨U.heap.size + 1 + 1, 7, none⟩ = some (.int .i64 0) ∧ w'.cell? ⟨U.heap.size + 1 + 1, 8, none⟩ = some (.int .i64 0) ∧ w'.cell? ⟨U.heap.size + 1 + 1, 9, none⟩ = some (.int .i64 0) ∧ w'.cell? ⟨U.heap.size + 1 + 1, 10, none⟩ = some (.slice (some ⟨U.heap.size + 1, 0, none⟩) 4 4) ∧ Below A.drew.heap.size A.drew w')) 20 (by kernel_rfl) (by kernel_rfl) HSA.out (fun hHeld => ?_)
      refine wpAnyH_take (i := 0) (v := ?v0_1) rfl (by kernel_rfl) (by kernel_rfl) (by kernel_rfl) (fun _ _ _ h => h) (Or.inl ⟨by rfl, ?hy0_1⟩) (by assumption) ?rest0_1
      case hy0_1 => (intro w hSw; (try dsimp only at hSw); go_simp; (try with_reducible rfl))
      try simp only [Act.put, List.setIfInBounds_toArray, List.set_cons_zero, List.set_cons_succ]
      refine wpAnyH_take (i := 2) (v := ?v2_2) rfl (by kernel_rfl) (by kernel_rfl) (by kernel_rfl) (fun _ _ _ h => h) (Or.inl ⟨by rfl, ?hy2_2⟩) (by assumption) ?rest2_2
      case hy2_2 => (intro w hSw; (try dsimp only at hSw); go_simp; (try with_reducible rfl))
      try simp only [Act.put, List.setIfInBounds_toArray, List.set_cons_zero, List.set_cons_succ]
      refine wpAnyH_ready (rs := [1]) (by kernel_rfl) (by simp) ?_
      refine AllReadyH.cons rfl (fun K hK => ?_) AllReadyH.nil
      go_simp; refine (HC1.out _ (HC3.out _ hHeld.2.2.2.2.2.2.2.2.2.2.2.2.2.2.2.2.2.2.2.2.2.2)).mono ?_; rintro e' w' ⟨rfl, hb'⟩
      refine hK.out _ _ (⟨keepW hb' hHeld.1, keepW hb' hHeld.2.1, keepW hb' hHeld.2.2.1, keepW hb' hHeld.2.2.2.1, keepW hb' hHeld.2.2.2.2.1, keepW hb' hHeld.2.2.2.2.2.1, keepW hb' hHeld.2.2.2.2.2.2.1, keepW hb' hHeld.2.2.2.2.2.2.2.1, keepW hb' hHeld.2.2.2.2.2.2.2.2.1, keepW hb' hHeld.2.2.2.2.2.2.2.2.2.1, keepW hb' hHeld.2.2.2.2.2.2.2.2.2.2.1, keepW hb' hHeld.2.2.2.2.2.2.2.2.2.2.2.1, keepW hb' hHeld.2.2.2.2.2.2.2.2.2.2.2.2.1, keepW hb' hHeld.2.2.2.2.2.2.2.2.2.2.2.2.2.1, keepW hb' hHeld.2.2.2.2.2.2.2.2.2.2.2.2.2.2.1, keepW hb' hHeld.2.2.2.2.2.2.2.2.2.2.2.2.2.2.2.1, keepW hb' hHeld.2.2.2.2.2.2.2.2.2.2.2.2.2.2.2.2.1, keepW hb' hHeld.2.2.2.2.2.2.2.2.2.2.2.2.2.2.2.2.2.1, keepW hb' hHeld.2.2.2.2.2.2.2.2.2.2.2.2.2.2.2.2.2.2.1, keepW hb' hHeld.2.2.2.2.2.2.2.2.2.2.2.2.2.2.2.2.2.2.2.1, keepW hb' hHeld.2.2.2.2.2.2.2.2.2.2.2.2.2.2.2.2.2.2.2.2.1, keepW hb' hHeld.2.2.2.2.2.2.2.2.2.2.2.2.2.2.2.2.2.2.2.2.2.1, hHeld.2.2.2.2.2.2.2.2.2.2.2.2.2.2.2.2.2.2.2.2.2.2.trans (hb'.mono hHeld.2.2.2.2.2.2.2.2.2.2.2.2.2.2.2.2.2.2.2.2.2.2.size)⟩) (fun hHeld => ?_)
      clear hK K
      try simp only [Act.put, List.setIfInBounds_toArray, List.set_cons_zero, List.set_cons_succ]
      refine wpAnyH_ready (rs := [3]) (by kernel_rfl) (by simp) ?_
      refine AllReadyH.cons rfl (fun K hK => ?_) AllReadyH.nil
      go_simp; refine (HC2.out _ (HC3.out _ hHeld.2.2.2.2.2.2.2.2.2.2.2.2.2.2.2.2.2.2.2.2.2.2)).mono ?_; rintro e' w' ⟨rfl, hb'⟩
      refine hK.out _ _ (⟨keepW hb' hHeld.1, keepW hb' hHeld.2.1, keepW hb' hHeld.2.2.1, keepW hb' hHeld.2.2.2.1, keepW hb' hHeld.2.2.2.2.1, keepW hb' hHeld.2.2.2.2.2.1, keepW hb' hHeld.2.2.2.2.2.2.1, keepW hb' hHeld.2.2.2.2.2.2.2.1, keepW hb' hHeld.2.2.2.2.2.2.2.2.1, keepW hb' hHeld.2.2.2.2.2.2.2.2.2.1, keepW hb' hHeld.2.2.2.2.2.2.2.2.2.2.1, keepW hb' hHeld.2.2.2.2.2.2.2.2.2.2.2.1, keepW hb' hHeld.2.2.2.2.2.2.2.2.2.2.2.2.1, keepW hb' hHeld.2.2.2.2.2.2.2.2.2.2.2.2.2.1, keepW hb' hHeld.2.2.2.2.2.2.2.2.2.2.2.2.2.2.1, keepW hb' hHeld.2.2.2.2.2.2.2.2.2.2.2.2.2.2.2.1, keepW hb' hHeld.2.2.2.2.2.2.2.2.2.2.2.2.2.2.2.2.1, keepW hb' hHeld.2.2.2.2.2.2.2.2.2.2.2.2.2.2.2.2.2.1, keepW hb' hHeld.2.2.2.2.2.2.2.2.2.2.2.2.2.2.2.2.2.2.1, keepW hb' hHeld.2.2.2.2.2.2.2.2.2.2.2.2.2.2.2.2.2.2.2.1, keepW hb' hHeld.2.2.2.2.2.2.2.2.2.2.2.2.2.2.2.2.2.2.2.2.1, keepW hb' hHeld.2.2.2.2.2.2.2.2.2.2.2.2.2.2.2.2.2.2.2.2.2.1, hHeld.2.2.2.2.2.2.2.2.2.2.2.2.2.2.2.2.2.2.2.2.2.2.trans (hb'.mono hHeld.2.2.2.2.2.2.2.2.2.2.2.2.2.2.2.2.2.2.2.2.2.2.size)⟩) (fun hHeld => ?_)
      clear hK K
      try simp only [Act.put, List.setIfInBounds_toArray, List.set_cons_zero, List.set_cons_succ]
      refine wpAnyH_take (i := 4) (v := ?v4_3) rfl (by kernel_rfl) (by kernel_rfl) (by kernel_rfl) (fun _ _ _ h => h) (Or.inl ⟨by rfl, ?hy4_3⟩) (by assumption) ?rest4_3
      case hy4_3 => (intro w hSw; (try dsimp only at hSw); go_simp; (try with_reducible rfl))
      try simp only [Act.put, List.setIfInBounds_toArray, List.set_cons_zero, List.set_cons_succ]
      refine wpAnyH_take (i := 5) (v := ?v5_4) rfl (by kernel_rfl) (by kernel_rfl) (by kernel_rfl) (fun _ _ _ h => h) (Or.inl ⟨by rfl, ?hy5_4⟩) (by assumption) ?rest5_4
      case hy5_4 => (intro w hSw; (try dsimp only at hSw); go_simp; (try with_reducible rfl))
      try simp only [Act.put, List.setIfInBounds_toArray, List.set_cons_zero, List.set_cons_succ]
      refine wpAnyH_take (i := 6) (v := ?v6_5) rfl (by kernel_rfl) (by kernel_rfl) (by kernel_rfl) (fun _ _ _ h => h) (Or.inl ⟨by rfl, ?hy6_5⟩) (by assumption) ?rest6_5
      case hy6_5 => (intro w hSw; (try dsimp only at hSw); go_simp; (try with_reducible rfl))
      try simp only [Act.put, List.setIfInBounds_toArray, List.set_cons_zero, List.set_cons_succ]
      refine wpAnyH_ready (rs := [7]) (by kernel_rfl) (by simp) ?_
      refine AllReadyH.cons rfl (fun K hK => ?_) AllReadyH.nil
      go_simp; refine (HG.out _ hHeld.2.2.2.2.2.2.2.2.2.2.2.2.2.2.2.2.2.2.2.2.2.2).mono ?_; rintro e' w' ⟨rfl, hb'⟩
      refine hK.out _ _ (⟨keepW hb' hHeld.1, keepW hb' hHeld.2.1, keepW hb' hHeld.2.2.1, keepW hb' hHeld.2.2.2.1, keepW hb' hHeld.2.2.2.2.1, keepW hb' hHeld.2.2.2.2.2.1, keepW hb' hHeld.2.2.2.2.2.2.1, keepW hb' hHeld.2.2.2.2.2.2.2.1, keepW hb' hHeld.2.2.2.2.2.2.2.2.1, keepW hb' hHeld.2.2.2.2.2.2.2.2.2.1, keepW hb' hHeld.2.2.2.2.2.2.2.2.2.2.1, keepW hb' hHeld.2.2.2.2.2.2.2.2.2.2.2.1, keepW hb' hHeld.2.2.2.2.2.2.2.2.2.2.2.2.1, keepW hb' hHeld.2.2.2.2.2.2.2.2.2.2.2.2.2.1, keepW hb' hHeld.2.2.2.2.2.2.2.2.2.2.2.2.2.2.1, keepW hb' hHeld.2.2.2.2.2.2.2.2.2.2.2.2.2.2.2.1, keepW hb' hHeld.2.2.2.2.2.2.2.2.2.2.2.2.2.2.2.2.1, keepW hb' hHeld.2.2.2.2.2.2.2.2.2.2.2.2.2.2.2.2.2.1, keepW hb' hHeld.2.2.2.2.2.2.2.2.2.2.2.2.2.2.2.2.2.2.1, keepW hb' hHeld.2.2.2.2.2.2.2.2.2.2.2.2.2.2.2.2.2.2.2.1, keepW hb' hHeld.2.2.2.2.2.2.2.2.2.2.2.2.2.2.2.2.2.2.2.2.1, keepW hb' hHeld.2.2.2.2.2.2.2.2.2.2.2.2.2.2.2.2.2.2.2.2.2.1, hHeld.2.2.2.2.2.2.2.2.2.2.2.2.2.2.2.2.2.2.2.2.2.2.trans (hb'.mono hHeld.2.2.2.2.2.2.2.2.2.2.2.2.2.2.2.2.2.2.2.2.2.2.size)⟩) (fun hHeld => ?_)
      clear hK K
      try simp only [Act.put, List.setIfInBounds_toArray, List.set_cons_zero, List.set_cons_succ]
      refine wpAnyH_take (i := 8) (v := ?v8_6) rfl (by kernel_rfl) (by kernel_rfl) (by kernel_rfl) (fun _ _ _ h => h) (Or.inl ⟨by rfl, ?hy8_6⟩) (by assumption) ?rest8_6
      case hy8_6 => (intro w hSw; (try dsimp only at hSw); go_simp; (try with_reducible rfl))
      try simp only [Act.put, List.setIfInBounds_toArray, List.set_cons_zero, List.set_cons_succ]
      refine wpAnyH_take (i := 9) (v := ?v9_7) rfl (by kernel_rfl) (by kernel_rfl) (by kernel_rfl) (fun _ _ _ h => h) (Or.inl ⟨by rfl, ?hy9_7⟩) (by assumption) ?rest9_7
      case hy9_7 => (intro w hSw; (try dsimp only at hSw); go_simp; (try with_reducible rfl))
      try simp only [Act.put, List.setIfInBounds_toArray, List.set_cons_zero, List.set_cons_succ]
      refine wpAnyH_take (i := 10) (v := ?v10_8) rfl (by kernel_rfl) (by kernel_rfl) (by kernel_rfl) (fun _ _ _ h => h) (Or.inl ⟨by rfl, ?hy10_8⟩) (by assumption) ?rest10_8
      case hy10_8 => (intro w hSw; (try dsimp only at hSw); go_simp; (try with_reducible rfl))
      try simp only [Act.put, List.setIfInBounds_toArray, List.set_cons_zero, List.set_cons_succ]
      refine wpAnyH_take (i := 11) (v := ?v11_9) rfl (by kernel_rfl) (by kernel_rfl) (by kernel_rfl) (fun _ _ _ h => h) (Or.inl ⟨by rfl, ?hy11_9⟩) (by assumption) ?rest11_9
      case hy11_9 => (intro w hSw; (try dsimp only at hSw); go_simp; (try with_reducible rfl))
      try simp only [Act.put, List.setIfInBounds_toArray, List.set_cons_zero, List.set_cons_succ]
      refine wpAnyH_take (i := 12) (v := ?v12_10) rfl (by kernel_rfl) (by kernel_rfl) (by kernel_rfl) (fun _ _ _ h => h) (Or.inl ⟨by rfl, ?hy12_10⟩) (by assumption) ?rest12_10
      case hy12_10 => (intro w hSw; (try dsimp only at hSw); go_simp; (try with_reducible rfl))
      try simp only [Act.put, List.setIfInBounds_toArray, List.set_cons_zero, List.set_cons_succ]
      refine wpAnyH_take (i := 13) (v := ?v13_11) rfl (by kernel_rfl) (by kernel_rfl) (by kernel_rfl) (fun _ _ _ h => h) (Or.inl ⟨by rfl, ?hy13_11⟩) (by assumption) ?rest13_11
      case hy13_11 => (intro w hSw; (try dsimp only at hSw); go_simp; (try with_reducible rfl))
      try simp only [Act.put, List.setIfInBounds_toArray, List.set_cons_zero, List.set_cons_succ]
      refine wpAnyH_ready (rs := [14]) (by kernel_rfl) (by simp) ?_
      refine AllReadyH.cons rfl (fun K hK => ?_) AllReadyH.nil
      go_simp; refine (HN.out _).mono ?_; rintro e' w' ⟨rfl, hb'⟩
      refine hK.out _ _ (⟨keepW hb' hHeld.1, keepW hb' hHeld.2.1, keepW hb' hHeld.2.2.1, keepW hb' hHeld.2.2.2.1, keepW hb' hHeld.2.2.2.2.1, keepW hb' hHeld.2.2.2.2.2.1, keepW hb' hHeld.2.2.2.2.2.2.1, keepW hb' hHeld.2.2.2.2.2.2.2.1, keepW hb' hHeld.2.2.2.2.2.2.2.2.1, keepW hb' hHeld.2.2.2.2.2.2.2.2.2.1, keepW hb' hHeld.2.2.2.2.2.2.2.2.2.2.1, keepW hb' hHeld.2.2.2.2.2.2.2.2.2.2.2.1, keepW hb' hHeld.2.2.2.2.2.2.2.2.2.2.2.2.1, keepW hb' hHeld.2.2.2.2.2.2.2.2.2.2.2.2.2.1, keepW hb' hHeld.2.2.2.2.2.2.2.2.2.2.2.2.2.2.1, keepW hb' hHeld.2.2.2.2.2.2.2.2.2.2.2.2.2.2.2.1, keepW hb' hHeld.2.2.2.2.2.2.2.2.2.2.2.2.2.2.2.2.1, keepW hb' hHeld.2.2.2.2.2.2.2.2.2.2.2.2.2.2.2.2.2.1, keepW hb' hHeld.2.2.2.2.2.2.2.2.2.2.2.2.2.2.2.2.2.2.1, keepW hb' hHeld.2.2.2.2.2.2.2.2.2.2.2.2.2.2.2.2.2.2.2.1, keepW hb' hHeld.2.2.2.2.2.2.2.2.2.2.2.2.2.2.2.2.2.2.2.2.1, keepW hb' hHeld.2.2.2.2.2.2.2.2.2.2.2.2.2.2.2.2.2.2.2.2.2.1, hHeld.2.2.2.2.2.2.2.2.2.2.2.2.2.2.2.2.2.2.2.2.2.2.trans (hb'.mono hHeld.2.2.2.2.2.2.2.2.2.2.2.2.2.2.2.2.2.2.2.2.2.2.size)⟩) (fun hHeld => ?_)
      clear hK K
      try simp only [Act.put, List.setIfInBounds_toArray, List.set_cons_zero, List.set_cons_succ]
      refine wpAnyH_take (i := 15) (v := ?v15_12) rfl (by kernel_rfl) (by kernel_rfl) (by kernel_rfl) (fun _ _ _ h => h) (Or.inl ⟨by rfl, ?hy15_12⟩) (by assumption) ?rest15_12
      case hy15_12 => (intro w hSw; (try dsimp only at hSw); go_simp; (try with_reducible rfl))
      try simp only [Act.put, List.setIfInBounds_toArray, List.set_cons_zero, List.set_cons_succ]
      refine wpAnyH_take (i := 16) (v := ?v16_13) rfl (by kernel_rfl) (by kernel_rfl) (by kernel_rfl) (fun _ _ _ h => h) (Or.inl ⟨by rfl, ?hy16_13⟩) (by assumption) ?rest16_13
      case hy16_13 => (intro w hSw; (try dsimp only at hSw); go_simp; (try with_reducible rfl))
      try simp only [Act.put, List.setIfInBounds_toArray, List.set_cons_zero, List.set_cons_succ]
      refine wpAnyH_take (i := 17) (v := ?v17_14) rfl (by kernel_rfl) (by kernel_rfl) (by kernel_rfl) (fun _ _ _ h => h) (Or.inl ⟨by rfl, ?hy17_14⟩) (by assumption) ?rest17_14
      case hy17_14 => (intro w hSw; (try dsimp only at hSw); go_simp; (try with_reducible rfl))
      try simp only [Act.put, List.setIfInBounds_toArray, List.set_cons_zero, List.set_cons_succ]
      refine wpAnyH_ready (rs := [18]) (by kernel_rfl) (by simp) ?_
      refine AllReadyH.cons rfl (fun K hK => ?_) AllReadyH.nil
      go_simp; refine (works_any _).mono ?_; rintro e' w' ⟨rfl, hb'⟩
      refine hK.out _ _ (⟨keepW hb' hHeld.1, keepW hb' hHeld.2.1, keepW hb' hHeld.2.2.1, keepW hb' hHeld.2.2.2.1, keepW hb' hHeld.2.2.2.2.1, keepW hb' hHeld.2.2.2.2.2.1, keepW hb' hHeld.2.2.2.2.2.2.1, keepW hb' hHeld.2.2.2.2.2.2.2.1, keepW hb' hHeld.2.2.2.2.2.2.2.2.1, keepW hb' hHeld.2.2.2.2.2.2.2.2.2.1, keepW hb' hHeld.2.2.2.2.2.2.2.2.2.2.1, keepW hb' hHeld.2.2.2.2.2.2.2.2.2.2.2.1, keepW hb' hHeld.2.2.2.2.2.2.2.2.2.2.2.2.1, keepW hb' hHeld.2.2.2.2.2.2.2.2.2.2.2.2.2.1, keepW hb' hHeld.2.2.2.2.2.2.2.2.2.2.2.2.2.2.1, keepW hb' hHeld.2.2.2.2.2.2.2.2.2.2.2.2.2.2.2.1, keepW hb' hHeld.2.2.2.2.2.2.2.2.2.2.2.2.2.2.2.2.1, keepW hb' hHeld.2.2.2.2.2.2.2.2.2.2.2.2.2.2.2.2.2.1, keepW hb' hHeld.2.2.2.2.2.2.2.2.2.2.2.2.2.2.2.2.2.2.1, keepW hb' hHeld.2.2.2.2.2.2.2.2.2.2.2.2.2.2.2.2.2.2.2.1, keepW hb' hHeld.2.2.2.2.2.2.2.2.2.2.2.2.2.2.2.2.2.2.2.2.1, keepW hb' hHeld.2.2.2.2.2.2.2.2.2.2.2.2.2.2.2.2.2.2.2.2.2.1, hHeld.2.2.2.2.2.2.2.2.2.2.2.2.2.2.2.2.2.2.2.2.2.2.trans (hb'.mono hHeld.2.2.2.2.2.2.2.2.2.2.2.2.2.2.2.2.2.2.2.2.2.2.size)⟩) (fun hHeld => ?_)
      clear hK K
      try simp only [Act.put, List.setIfInBounds_toArray, List.set_cons_zero, List.set_cons_succ]
      refine wpAnyH_take (i := 19) (v := ?v19_15) rfl (by kernel_rfl) (by kernel_rfl) (by kernel_rfl) (fun _ _ _ h => h) (Or.inl ⟨by rfl, ?hy19_15⟩) (by assumption) ?rest19_15
      case hy19_15 => (intro w hSw; (try dsimp only at hSw); go_simp; (try with_reducible rfl))
      try simp only [Act.put, List.setIfInBounds_toArray, List.set_cons_zero, List.set_cons_succ]
      refine wpAnyH_done (by kernel_rfl) ?_ _
      change wpList _ _ _ _ _ _
      simp only [List.drop_succ_cons, List.drop_zero]
      have bW := HB.out.trans ((HC3.out _ hHeld.2.2.2.2.2.2.2.2.2.2.2.2.2.2.2.2.2.2.2.2.2.2).mono HB.out.size)
      clear hHeld
      go_wp2
      go_ret
      exact ⟨rfl, bW⟩

end Go.Proofs.Ytmojnopgpgnfeaa
