/-
  PulseChecks, walked.
-/
import Derived.Test.YtmojnopgpgnfeaaProg
import Derived.ProofKit
import Derived.OpenShut
import Derived.KernelRfl
import Derived.Test.Ytmojnopgpgnfeaamg17
import Derived.Test.Ytmojnopgpgnfeaamg18
namespace Go.Proofs.Ytmojnopgpgnfeaa
open Go.RowKit
set_option linter.unusedVariables false
set_option linter.unusedSimpArgs false

theorem boxes3 (l k f s c lv ph n0 n1 kd p0 p1 s0 s1 s2 s3 sp r0 r1 m0 m1 t0 t1 : Int) (w : World) : ∃ A, A = ((w.alloc (.cells #[.int .i64 l, .int .i64 k, .int .i64 f, .int .i64 s, .int .i64 c] 23)).alloc (.cells #[.int .i64 lv, .int .i64 ph, .int .i64 n0, .int .i64 n1] 27)).alloc (.cells #[.int .i64 kd, .int .i64 p0, .int .i64 p1, .int .i64 s0, .int .i64 s1, .int .i64 s2, .int .i64 s3, .int .i64 sp, .int .i64 r0, .int .i64 r1, .int .i64 m0, .int .i64 m1, .int .i64 t0, .int .i64 t1] 30) ∧ A.cell? ⟨w.heap.size, 0, none⟩ = some (.int .i64 l) ∧ A.cell? ⟨w.heap.size, 1, none⟩ = some (.int .i64 k) ∧ A.cell? ⟨w.heap.size, 2, none⟩ = some (.int .i64 f) ∧ A.cell? ⟨w.heap.size, 3, none⟩ = some (.int .i64 s) ∧ A.cell? ⟨w.heap.size, 4, none⟩ = some (.int .i64 c) ∧ A.cell? ⟨w.heap.size + 1, 0, none⟩ = some (.int .i64 lv) ∧ A.cell? ⟨w.heap.size + 1, 1, none⟩ = some (.int .i64 ph) ∧ A.cell? ⟨w.heap.size + 1, 2, none⟩ = some (.int .i64 n0) ∧ A.cell? ⟨w.heap.size + 1, 3, none⟩ = some (.int .i64 n1) ∧ A.cell? ⟨w.heap.size + 1 + 1, 0, none⟩ = some (.int .i64 kd) ∧ A.cell? ⟨w.heap.size + 1 + 1, 1, none⟩ = some (.int .i64 p0) ∧ A.cell? ⟨w.heap.size + 1 + 1, 2, none⟩ = some (.int .i64 p1) ∧ A.cell? ⟨w.heap.size + 1 + 1, 3, none⟩ = some (.int .i64 s0) ∧ A.cell? ⟨w.heap.size + 1 + 1, 4, none⟩ = some (.int .i64 s1) ∧ A.cell? ⟨w.heap.size + 1 + 1, 5, none⟩ = some (.int .i64 s2) ∧ A.cell? ⟨w.heap.size + 1 + 1, 6, none⟩ = some (.int .i64 s3) ∧ A.cell? ⟨w.heap.size + 1 + 1, 7, none⟩ = some (.int .i64 sp) ∧ A.cell? ⟨w.heap.size + 1 + 1, 8, none⟩ = some (.int .i64 r0) ∧ A.cell? ⟨w.heap.size + 1 + 1, 9, none⟩ = some (.int .i64 r1) ∧ A.cell? ⟨w.heap.size + 1 + 1, 10, none⟩ = some (.int .i64 m0) ∧ A.cell? ⟨w.heap.size + 1 + 1, 11, none⟩ = some (.int .i64 m1) ∧ A.cell? ⟨w.heap.size + 1 + 1, 12, none⟩ = some (.int .i64 t0) ∧ A.cell? ⟨w.heap.size + 1 + 1, 13, none⟩ = some (.int .i64 t1) ∧ Below w.heap.size w A := by
  obtain ⟨A1, e1⟩ : ∃ A, A = w.alloc (.cells #[.int .i64 l, .int .i64 k, .int .i64 f, .int .i64 s, .int .i64 c] 23) := ⟨_, rfl⟩
  obtain ⟨A2, e2⟩ : ∃ A, A = A1.alloc (.cells #[.int .i64 lv, .int .i64 ph, .int .i64 n0, .int .i64 n1] 27) := ⟨_, rfl⟩
  obtain ⟨A3, e3⟩ : ∃ A, A = A2.alloc (.cells #[.int .i64 kd, .int .i64 p0, .int .i64 p1, .int .i64 s0, .int .i64 s1, .int .i64 s2, .int .i64 s3, .int .i64 sp, .int .i64 r0, .int .i64 r1, .int .i64 m0, .int .i64 m1, .int .i64 t0, .int .i64 t1] 30) := ⟨_, rfl⟩
  have s1 : A1.heap.size = w.heap.size + 1 := by rw [e1]; exact World.size_alloc _ _
  have s2 : A2.heap.size = w.heap.size + 1 + 1 := by rw [e2, World.size_alloc, s1]
  have b1 : Below w.heap.size w A1 := by rw [e1]; exact below_alloc _ _
  have b2 : Below A1.heap.size A1 A2 := by rw [e2]; exact below_alloc _ _
  have b3 : Below A2.heap.size A2 A3 := by rw [e3]; exact below_alloc _ _
  have c13 : Below A1.heap.size A1 A3 := b2.trans (b3.mono (by omega))
  refine ⟨A3, by rw [e3, e2, e1], keepB c13 (by omega) (by rw [e1]; exact alloc_new rfl rfl), keepB c13 (by omega) (by rw [e1]; exact alloc_new rfl rfl), keepB c13 (by omega) (by rw [e1]; exact alloc_new rfl rfl), keepB c13 (by omega) (by rw [e1]; exact alloc_new rfl rfl), keepB c13 (by omega) (by rw [e1]; exact alloc_new rfl rfl), keepB b3 (by omega) (by rw [e2, ← s1]; exact alloc_new rfl rfl), keepB b3 (by omega) (by rw [e2, ← s1]; exact alloc_new rfl rfl), keepB b3 (by omega) (by rw [e2, ← s1]; exact alloc_new rfl rfl), keepB b3 (by omega) (by rw [e2, ← s1]; exact alloc_new rfl rfl), by rw [e3, ← s2]; exact alloc_new rfl rfl, by rw [e3, ← s2]; exact alloc_new rfl rfl, by rw [e3, ← s2]; exact alloc_new rfl rfl, by rw [e3, ← s2]; exact alloc_new rfl rfl, by rw [e3, ← s2]; exact alloc_new rfl rfl, by rw [e3, ← s2]; exact alloc_new rfl rfl, by rw [e3, ← s2]; exact alloc_new rfl rfl, by rw [e3, ← s2]; exact alloc_new rfl rfl, by rw [e3, ← s2]; exact alloc_new rfl rfl, by rw [e3, ← s2]; exact alloc_new rfl rfl, by rw [e3, ← s2]; exact alloc_new rfl rfl, by rw [e3, ← s2]; exact alloc_new rfl rfl, by rw [e3, ← s2]; exact alloc_new rfl rfl, by rw [e3, ← s2]; exact alloc_new rfl rfl, b1.trans (c13.mono (by omega))⟩

set_option maxRecDepth 100000 in
set_option maxHeartbeats 16000000 in
theorem PulseChecks_walk (l k f s c lv ph n0 n1 kd p0 p1 s0 s1 s2 s3 sp r0 r1 m0 m1 t0 t1 : Int) (w : World) :
    Calls Try.prog 3 #[.agg #[.int .i64 l, .int .i64 k, .int .i64 f, .int .i64 s, .int .i64 c], .agg #[.int .i64 lv, .int .i64 ph, .int .i64 n0, .int .i64 n1], .agg #[.int .i64 kd, .int .i64 p0, .int .i64 p1, .int .i64 s0, .int .i64 s1, .int .i64 s2, .int .i64 s3, .int .i64 sp, .int .i64 r0, .int .i64 r1, .int .i64 m0, .int .i64 m1, .int .i64 t0, .int .i64 t1]] w fun e w' => e = .returned (.bool true) ∧ Below w.heap.size w w' := by
  obtain ⟨tc, htc⟩ : ∃ x, x = trainC l k f s c := ⟨_, rfl⟩
  obtain ⟨rc, hrc⟩ : ∃ x, x = recvC lv ph n0 n1 := ⟨_, rfl⟩
  obtain ⟨ec, hec⟩ : ∃ x, x = echoC kd p0 p1 s0 s1 s2 s3 sp r0 r1 m0 m1 t0 t1 := ⟨_, rfl⟩
  have HT1 : Hid (∀ W : World, Calls Try.prog 15 #[.agg #[.int .i64 l, .int .i64 k, .int .i64 f, .int .i64 s, .int .i64 c]] W fun e w' => e = .returned (.int .i64 tc) ∧ Below W.heap.size W w') := Lib.hid fun W => by rw [htc]; exact CheckTrain_any _ _ _ _ _ W
  have HT2 : Hid (∀ W : World, Calls Try.prog 16 #[.agg #[.int .i64 l, .int .i64 k, .int .i64 f, .int .i64 s, .int .i64 c]] W fun e w' => e = .returned (.int .i64 tc) ∧ Below W.heap.size W w') := Lib.hid fun W => by rw [htc]; exact refCheckTrain_any _ _ _ _ _ W
  have HR1 : Hid (∀ W : World, Calls Try.prog 17 #[.agg #[.int .i64 lv, .int .i64 ph, .int .i64 n0, .int .i64 n1]] W fun e w' => e = .returned (.int .i64 rc) ∧ Below W.heap.size W w') := Lib.hid fun W => by rw [hrc]; exact CheckReceiver_any _ _ _ _ W
  have HR2 : Hid (∀ W : World, Calls Try.prog 18 #[.agg #[.int .i64 lv, .int .i64 ph, .int .i64 n0, .int .i64 n1]] W fun e w' => e = .returned (.int .i64 rc) ∧ Below W.heap.size W w') := Lib.hid fun W => by rw [hrc]; exact refCheckReceiver_any _ _ _ _ W
  have HE1 : Hid (∀ W : World, Calls Try.prog 19 #[.agg #[.int .i64 kd, .int .i64 p0, .int .i64 p1, .int .i64 s0, .int .i64 s1, .int .i64 s2, .int .i64 s3, .int .i64 sp, .int .i64 r0, .int .i64 r1, .int .i64 m0, .int .i64 m1, .int .i64 t0, .int .i64 t1]] W fun e w' => e = .returned (.int .i64 ec) ∧ Below W.heap.size W w') := Lib.hid fun W => by rw [hec]; exact CheckEcho_any _ _ _ _ _ _ _ _ _ _ _ _ _ _ W
  have HE2 : Hid (∀ W : World, Calls Try.prog 20 #[.agg #[.int .i64 kd, .int .i64 p0, .int .i64 p1, .int .i64 s0, .int .i64 s1, .int .i64 s2, .int .i64 s3, .int .i64 sp, .int .i64 r0, .int .i64 r1, .int .i64 m0, .int .i64 m1, .int .i64 t0, .int .i64 t1]] W fun e w' => e = .returned (.int .i64 ec) ∧ Below W.heap.size W w') := Lib.hid fun W => by rw [hec]; exact refCheckEcho_any _ _ _ _ _ _ _ _ _ _ _ _ _ _ W
  have HK1 : Hid (∀ W : World, Calls Try.prog 15 #[.agg #[.int .i64 100000, .int .i64 1, .int .i64 1000, .int .i64 0, .int .i64 4]] W fun e w' => e = .returned (.int .i64 0) ∧ Below W.heap.size W w') := Lib.hid fun W => by
    have h := CheckTrain_any 100000 1 1000 0 4 W
    rw [show trainC 100000 1 1000 0 4 = 0 by decide] at h; exact h
  have HK2 : Hid (∀ W : World, Calls Try.prog 15 #[.agg #[.int .i64 0, .int .i64 0, .int .i64 0, .int .i64 0, .int .i64 0]] W fun e w' => e = .returned (.int .i64 2) ∧ Below W.heap.size W w') := Lib.hid fun W => by
    have h := CheckTrain_any 0 0 0 0 0 W
    rw [show trainC 0 0 0 0 0 = 2 by decide] at h; exact h
  have HK3 : Hid (∀ W : World, Calls Try.prog 19 #[.agg #[.int .i64 0, .int .i64 0, .int .i64 0, .int .i64 0, .int .i64 0, .int .i64 0, .int .i64 0, .int .i64 0, .int .i64 0, .int .i64 0, .int .i64 0, .int .i64 0, .int .i64 0, .int .i64 0]] W fun e w' => e = .returned (.int .i64 2) ∧ Below W.heap.size W w') := Lib.hid fun W => by
    have h := CheckEcho_any 0 0 0 0 0 0 0 0 0 0 0 0 0 0 W
    rw [show echoC 0 0 0 0 0 0 0 0 0 0 0 0 0 0 = 2 by decide] at h; exact h
  clear htc hrc hec
  obtain ⟨A, hA, c0, c1, c2, c3, c4, c5, c6, c7, c8, c9, c10, c11, c12, c13, c14, c15, c16, c17, c18, c19, c20, c21, c22, bA⟩ := boxes3 l k f s c lv ph n0 n1 kd p0 p1 s0 s1 s2 s3 sp r0 r1 m0 m1 t0 t1 w
  have HS := Lib.hid (show (fun w' : World => w'.cell? ⟨w.heap.size, 0, none⟩ = some (.int .i64 l) ∧ w'.cell? ⟨w.heap.size, 1, none⟩ = some (.int .i64 k) ∧ w'.cell? ⟨w.heap.size, 2, none⟩ = some (.int .i64 f) ∧ w'.cell? ⟨w.heap.size, 3, none⟩ = some (.int .i64 s) ∧ w'.cell? ⟨w.heap.size, 4, none⟩ = some (.int .i64 c) ∧ w'.cell? ⟨w.heap.size + 1, 0, none⟩ = some (.int .i64 lv) ∧ w'.cell? ⟨w.heap.size + 1, 1, none⟩ = some (.int .i64 ph) ∧ w'.cell? ⟨w.heap.size + 1, 2, none⟩ = some (.int .i64 n0) ∧ w'.cell? ⟨w.heap.size + 1, 3, none⟩ = some (.int .i64 n1) ∧ w'.cell? ⟨w.heap.size + 1 + 1, 0, none⟩ = some (.int .i64 kd) ∧ w'.cell? ⟨w.heap.size + 1 + 1, 1, none⟩ = some (.int .i64 p0) ∧ w'.cell? ⟨w.heap.size + 1 + 1, 2, none⟩ = some (.int .i64 p1) ∧ w'.cell? ⟨w.heap.size + 1 + 1, 3, none⟩ = some (.int .i64 s0) ∧ w'.cell? ⟨w.heap.size + 1 + 1, 4, none⟩ = some (.int .i64 s1) ∧ w'.cell? ⟨w.heap.size + 1 + 1, 5, none⟩ = some (.int .i64 s2) ∧ w'.cell? ⟨w.heap.size + 1 + 1, 6, none⟩ = some (.int .i64 s3) ∧ w'.cell? ⟨w.heap.size + 1 + 1, 7, none⟩ = some (.int .i64 sp) ∧ w'.cell? ⟨w.heap.size + 1 + 1, 8, none⟩ = some (.int .i64 r0) ∧ w'.cell? ⟨w.heap.size + 1 + 1, 9, none⟩ = some (.int .i64 r1) ∧ w'.cell? ⟨w.heap.size + 1 + 1, 10, none⟩ = some (.int .i64 m0) ∧ w'.cell? ⟨w.heap.size + 1 + 1, 11, none⟩ = some (.int .i64 m1) ∧ w'.cell? ⟨w.heap.size + 1 + 1, 12, none⟩ = some (.int .i64 t0) ∧ w'.cell? ⟨w.heap.size + 1 + 1, 13, none⟩ = some (.int .i64 t1) ∧ Below A.drew.heap.size A.drew w') A.drew from ⟨c0, c1, c2, c3, c4, c5, c6, c7, c8, c9, c10, c11, c12, c13, c14, c15, c16, c17, c18, c19, c20, c21, c22, Below.refl _ _⟩)
  clear c0 c1 c2 c3 c4 c5 c6 c7 c8 c9 c10 c11 c12 c13 c14 c15 c16 c17 c18 c19 c20 c21 c22
  go_enter Try.func3, Try.ntmps3
  go_wp2_with fail
  rw [← hA]
  clear hA
  refine wp_region_held_tail (S := (fun w' : World => w'.cell? ⟨w.heap.size, 0, none⟩ = some (.int .i64 l) ∧ w'.cell? ⟨w.heap.size, 1, none⟩ = some (.int .i64 k) ∧ w'.cell? ⟨w.heap.size, 2, none⟩ = some (.int .i64 f) ∧ w'.cell? ⟨w.heap.size, 3, none⟩ = some (.int .i64 s) ∧ w'.cell? ⟨w.heap.size, 4, none⟩ = some (.int .i64 c) ∧ w'.cell? ⟨w.heap.size + 1, 0, none⟩ = some (.int .i64 lv) ∧ w'.cell? ⟨w.heap.size + 1, 1, none⟩ = some (.int .i64 ph) ∧ w'.cell? ⟨w.heap.size + 1, 2, none⟩ = some (.int .i64 n0) ∧ w'.cell? ⟨w.heap.size + 1, 3, none⟩ = some (.int .i64 n1) ∧ w'.cell? ⟨w.heap.size + 1 + 1, 0, none⟩ = some (.int .i64 kd) ∧ w'.cell? ⟨w.heap.size + 1 + 1, 1, none⟩ = some (.int .i64 p0) ∧ w'.cell? ⟨w.heap.size + 1 + 1, 2, none⟩ = some (.int .i64 p1) ∧ w'.cell? ⟨w.heap.size + 1 + 1, 3, none⟩ = some (.int .i64 s0) ∧ w'.cell? ⟨w.heap.size + 1 + 1, 4, none⟩ = some (.int .i64 s1) ∧ w'.cell? ⟨w.heap.size + 1 + 1, 5, none⟩ = some (.int .i64 s2) ∧ w'.cell? ⟨w.heap.size + 1 + 1, 6, none⟩ = some (.int .i64 s3) ∧ w'.cell? ⟨w.heap.size + 1 + 1, 7, none⟩ = some (.int .i64 sp) ∧ w'.cell? ⟨w.heap.size + 1 + 1, 8, none⟩ = some (.int .i64 r0) ∧ w'.cell? ⟨w.heap.size + 1 + 1, 9, none⟩ = some (.int .i64 r1) ∧ w'.cell? ⟨w.heap.size + 1 + 1, 10, none⟩ = some (.int .i64 m0) ∧ w'.cell? ⟨w.heap.size + 1 + 1, 11, none⟩ = some (.int .i64 m1) ∧ w'.cell? ⟨w.heap.size + 1 + 1, 12, none⟩ = some (.int .i64 t0) ∧ w'.cell? ⟨w.heap.size + 1 + 1, 13, none⟩ = some (.int .i64 t1) ∧ Below A.drew.heap.size A.drew w')) 37 (by kernel_rfl) (by kernel_rfl) HS.out (fun hHeld => ?_)
  refine wpAnyH_take (i := 0) (v := ?v0_1) rfl (by kernel_rfl) (by kernel_rfl) (by kernel_rfl) (fun _ _ _ h => h) (Or.inl ⟨by rfl, ?hy0_1⟩) (by assumption) ?rest0_1
  case hy0_1 => (intro w hSw; (try dsimp only at hSw); go_simp; (try with_reducible rfl))
  try simp only [Act.put, List.setIfInBounds_toArray, List.set_cons_zero, List.set_cons_succ]
  refine wpAnyH_take (i := 2) (v := ?v2_2) rfl (by kernel_rfl) (by kernel_rfl) (by kernel_rfl) (fun _ _ _ h => h) (Or.inl ⟨by rfl, ?hy2_2⟩) (by assumption) ?rest2_2
  case hy2_2 => (intro w hSw; (try dsimp only at hSw); go_simp; (try with_reducible rfl))
  try simp only [Act.put, List.setIfInBounds_toArray, List.set_cons_zero, List.set_cons_succ]
  refine wpAnyH_ready (rs := [1]) (by kernel_rfl) (by simp) ?_
  refine AllReadyH.cons rfl (fun K hK => ?_) AllReadyH.nil
  go_simp; refine (HT1.out _).mono ?_; rintro e' w' ⟨rfl, hb'⟩
  refine hK.out _ _ (⟨keepW hb' hHeld.1, keepW hb' hHeld.2.1, keepW hb' hHeld.2.2.1, keepW hb' hHeld.2.2.2.1, keepW hb' hHeld.2.2.2.2.1, keepW hb' hHeld.2.2.2.2.2.1, keepW hb' hHeld.2.2.2.2.2.2.1, keepW hb' hHeld.2.2.2.2.2.2.2.1, keepW hb' hHeld.2.2.2.2.2.2.2.2.1, keepW hb' hHeld.2.2.2.2.2.2.2.2.2.1, keepW hb' hHeld.2.2.2.2.2.2.2.2.2.2.1, keepW hb' hHeld.2.2.2.2.2.2.2.2.2.2.2.1, keepW hb' hHeld.2.2.2.2.2.2.2.2.2.2.2.2.1, keepW hb' hHeld.2.2.2.2.2.2.2.2.2.2.2.2.2.1, keepW hb' hHeld.2.2.2.2.2.2.2.2.2.2.2.2.2.2.1, keepW hb' hHeld.2.2.2.2.2.2.2.2.2.2.2.2.2.2.2.1, keepW hb' hHeld.2.2.2.2.2.2.2.2.2.2.2.2.2.2.2.2.1, keepW hb' hHeld.2.2.2.2.2.2.2.2.2.2.2.2.2.2.2.2.2.1, keepW hb' hHeld.2.2.2.2.2.2.2.2.2.2.2.2.2.2.2.2.2.2.1, keepW hb' hHeld.2.2.2.2.2.2.2.2.2.2.2.2.2.2.2.2.2.2.2.1, keepW hb' hHeld.2.2.2.2.2.2.2.2.2.2.2.2.2.2.2.2.2.2.2.2.1, keepW hb' hHeld.2.2.2.2.2.2.2.2.2.2.2.2.2.2.2.2.2.2.2.2.2.1, keepW hb' hHeld.2.2.2.2.2.2.2.2.2.2.2.2.2.2.2.2.2.2.2.2.2.2.1, hHeld.2.2.2.2.2.2.2.2.2.2.2.2.2.2.2.2.2.2.2.2.2.2.2.trans (hb'.mono hHeld.2.2.2.2.2.2.2.2.2.2.2.2.2.2.2.2.2.2.2.2.2.2.2.size)⟩) (fun hHeld => ?_)
  clear hK K
  try simp only [Act.put, List.setIfInBounds_toArray, List.set_cons_zero, List.set_cons_succ]
  refine wpAnyH_ready (rs := [3]) (by kernel_rfl) (by simp) ?_
  refine AllReadyH.cons rfl (fun K hK => ?_) AllReadyH.nil
  go_simp; refine (HT2.out _).mono ?_; rintro e' w' ⟨rfl, hb'⟩
  refine hK.out _ _ (⟨keepW hb' hHeld.1, keepW hb' hHeld.2.1, keepW hb' hHeld.2.2.1, keepW hb' hHeld.2.2.2.1, keepW hb' hHeld.2.2.2.2.1, keepW hb' hHeld.2.2.2.2.2.1, keepW hb' hHeld.2.2.2.2.2.2.1, keepW hb' hHeld.2.2.2.2.2.2.2.1, keepW hb' hHeld.2.2.2.2.2.2.2.2.1, keepW hb' hHeld.2.2.2.2.2.2.2.2.2.1, keepW hb' hHeld.2.2.2.2.2.2.2.2.2.2.1, keepW hb' hHeld.2.2.2.2.2.2.2.2.2.2.2.1, keepW hb' hHeld.2.2.2.2.2.2.2.2.2.2.2.2.1, keepW hb' hHeld.2.2.2.2.2.2.2.2.2.2.2.2.2.1, keepW hb' hHeld.2.2.2.2.2.2.2.2.2.2.2.2.2.2.1, keepW hb' hHeld.2.2.2.2.2.2.2.2.2.2.2.2.2.2.2.1, keepW hb' hHeld.2.2.2.2.2.2.2.2.2.2.2.2.2.2.2.2.1, keepW hb' hHeld.2.2.2.2.2.2.2.2.2.2.2.2.2.2.2.2.2.1, keepW hb' hHeld.2.2.2.2.2.2.2.2.2.2.2.2.2.2.2.2.2.2.1, keepW hb' hHeld.2.2.2.2.2.2.2.2.2.2.2.2.2.2.2.2.2.2.2.1, keepW hb' hHeld.2.2.2.2.2.2.2.2.2.2.2.2.2.2.2.2.2.2.2.2.1, keepW hb' hHeld.2.2.2.2.2.2.2.2.2.2.2.2.2.2.2.2.2.2.2.2.2.1, keepW hb' hHeld.2.2.2.2.2.2.2.2.2.2.2.2.2.2.2.2.2.2.2.2.2.2.1, hHeld.2.2.2.2.2.2.2.2.2.2.2.2.2.2.2.2.2.2.2.2.2.2.2.trans (hb'.mono hHeld.2.2.2.2.2.2.2.2.2.2.2.2.2.2.2.2.2.2.2.2.2.2.2.size)⟩) (fun hHeld => ?_)
  clear hK K
  try simp only [Act.put, List.setIfInBounds_toArray, List.set_cons_zero, List.set_cons_succ]
  refine wpAnyH_take (i := 4) (v := ?v4_3) rfl (by kernel_rfl) (by kernel_rfl) (by kernel_rfl) (fun _ _ _ h => h) (Or.inl ⟨by rfl, ?hy4_3⟩) (by assumption) ?rest4_3
  case hy4_3 => (intro w hSw; (try dsimp only at hSw); go_simp; (try with_reducible rfl))
  try simp only [Act.put, List.setIfInBounds_toArray, List.set_cons_zero, List.set_cons_succ]
  refine wpAnyH_take (i := 5) (v := ?v5_4) rfl (by kernel_rfl) (by kernel_rfl) (by kernel_rfl) (fun _ _ _ h => h) (Or.inl ⟨by rfl, ?hy5_4⟩) (by assumption) ?rest5_4
  case hy5_4 => (intro w hSw; (try dsimp only at hSw); go_simp; (try with_reducible rfl))
  try simp only [Act.put, List.setIfInBounds_toArray, List.set_cons_zero, List.set_cons_succ]
  refine wpAnyH_take (i := 6) (v := ?v6_5) rfl (by kernel_rfl) (by kernel_rfl) (by kernel_rfl) (fun _ _ _ h => h) (Or.inl ⟨by rfl, ?hy6_5⟩) (by assumption) ?rest6_5
  case hy6_5 => (intro w hSw; (try dsimp only at hSw); go_simp; (try with_reducible rfl))
  try simp only [Act.put, List.setIfInBounds_toArray, List.set_cons_zero, List.set_cons_succ]
  refine wpAnyH_take (i := 8) (v := ?v8_6) rfl (by kernel_rfl) (by kernel_rfl) (by kernel_rfl) (fun _ _ _ h => h) (Or.inl ⟨by rfl, ?hy8_6⟩) (by assumption) ?rest8_6
  case hy8_6 => (intro w hSw; (try dsimp only at hSw); go_simp; (try with_reducible rfl))
  try simp only [Act.put, List.setIfInBounds_toArray, List.set_cons_zero, List.set_cons_succ]
  refine wpAnyH_ready (rs := [7]) (by kernel_rfl) (by simp) ?_
  refine AllReadyH.cons rfl (fun K hK => ?_) AllReadyH.nil
  go_simp; refine (HR1.out _).mono ?_; rintro e' w' ⟨rfl, hb'⟩
  refine hK.out _ _ (⟨keepW hb' hHeld.1, keepW hb' hHeld.2.1, keepW hb' hHeld.2.2.1, keepW hb' hHeld.2.2.2.1, keepW hb' hHeld.2.2.2.2.1, keepW hb' hHeld.2.2.2.2.2.1, keepW hb' hHeld.2.2.2.2.2.2.1, keepW hb' hHeld.2.2.2.2.2.2.2.1, keepW hb' hHeld.2.2.2.2.2.2.2.2.1, keepW hb' hHeld.2.2.2.2.2.2.2.2.2.1, keepW hb' hHeld.2.2.2.2.2.2.2.2.2.2.1, keepW hb' hHeld.2.2.2.2.2.2.2.2.2.2.2.1, keepW hb' hHeld.2.2.2.2.2.2.2.2.2.2.2.2.1, keepW hb' hHeld.2.2.2.2.2.2.2.2.2.2.2.2.2.1, keepW hb' hHeld.2.2.2.2.2.2.2.2.2.2.2.2.2.2.1, keepW hb' hHeld.2.2.2.2.2.2.2.2.2.2.2.2.2.2.2.1, keepW hb' hHeld.2.2.2.2.2.2.2.2.2.2.2.2.2.2.2.2.1, keepW hb' hHeld.2.2.2.2.2.2.2.2.2.2.2.2.2.2.2.2.2.1, keepW hb' hHeld.2.2.2.2.2.2.2.2.2.2.2.2.2.2.2.2.2.2.1, keepW hb' hHeld.2.2.2.2.2.2.2.2.2.2.2.2.2.2.2.2.2.2.2.1, keepW hb' hHeld.2.2.2.2.2.2.2.2.2.2.2.2.2.2.2.2.2.2.2.2.1, keepW hb' hHeld.2.2.2.2.2.2.2.2.2.2.2.2.2.2.2.2.2.2.2.2.2.1, keepW hb' hHeld.2.2.2.2.2.2.2.2.2.2.2.2.2.2.2.2.2.2.2.2.2.2.1, hHeld.2.2.2.2.2.2.2.2.2.2.2.2.2.2.2.2.2.2.2.2.2.2.2.trans (hb'.mono hHeld.2.2.2.2.2.2.2.2.2.2.2.2.2.2.2.2.2.2.2.2.2.2.2.size)⟩) (fun hHeld => ?_)
  clear hK K
  try simp only [Act.put, List.setIfInBounds_toArray, List.set_cons_zero, List.set_cons_succ]
  refine wpAnyH_ready (rs := [9]) (by kernel_rfl) (by simp) ?_
  refine AllReadyH.cons rfl (fun K hK => ?_) AllReadyH.nil
  go_simp; refine (HR2.out _).mono ?_; rintro e' w' ⟨rfl, hb'⟩
  refine hK.out _ _ (⟨keepW hb' hHeld.1, keepW hb' hHeld.2.1, keepW hb' hHeld.2.2.1, keepW hb' hHeld.2.2.2.1, keepW hb' hHeld.2.2.2.2.1, keepW hb' hHeld.2.2.2.2.2.1, keepW hb' hHeld.2.2.2.2.2.2.1, keepW hb' hHeld.2.2.2.2.2.2.2.1, keepW hb' hHeld.2.2.2.2.2.2.2.2.1, keepW hb' hHeld.2.2.2.2.2.2.2.2.2.1, keepW hb' hHeld.2.2.2.2.2.2.2.2.2.2.1, keepW hb' hHeld.2.2.2.2.2.2.2.2.2.2.2.1, keepW hb' hHeld.2.2.2.2.2.2.2.2.2.2.2.2.1, keepW hb' hHeld.2.2.2.2.2.2.2.2.2.2.2.2.2.1, keepW hb' hHeld.2.2.2.2.2.2.2.2.2.2.2.2.2.2.1, keepW hb' hHeld.2.2.2.2.2.2.2.2.2.2.2.2.2.2.2.1, keepW hb' hHeld.2.2.2.2.2.2.2.2.2.2.2.2.2.2.2.2.1, keepW hb' hHeld.2.2.2.2.2.2.2.2.2.2.2.2.2.2.2.2.2.1, keepW hb' hHeld.2.2.2.2.2.2.2.2.2.2.2.2.2.2.2.2.2.2.1, keepW hb' hHeld.2.2.2.2.2.2.2.2.2.2.2.2.2.2.2.2.2.2.2.1, keepW hb' hHeld.2.2.2.2.2.2.2.2.2.2.2.2.2.2.2.2.2.2.2.2.1, keepW hb' hHeld.2.2.2.2.2.2.2.2.2.2.2.2.2.2.2.2.2.2.2.2.2.1, keepW hb' hHeld.2.2.2.2.2.2.2.2.2.2.2.2.2.2.2.2.2.2.2.2.2.2.1, hHeld.2.2.2.2.2.2.2.2.2.2.2.2.2.2.2.2.2.2.2.2.2.2.2.trans (hb'.mono hHeld.2.2.2.2.2.2.2.2.2.2.2.2.2.2.2.2.2.2.2.2.2.2.2.size)⟩) (fun hHeld => ?_)
  clear hK K
  try simp only [Act.put, List.setIfInBounds_toArray, List.set_cons_zero, List.set_cons_succ]
  refine wpAnyH_take (i := 10) (v := ?v10_7) rfl (by kernel_rfl) (by kernel_rfl) (by kernel_rfl) (fun _ _ _ h => h) (Or.inl ⟨by rfl, ?hy10_7⟩) (by assumption) ?rest10_7
  case hy10_7 => (intro w hSw; (try dsimp only at hSw); go_simp; (try with_reducible rfl))
  try simp only [Act.put, List.setIfInBounds_toArray, List.set_cons_zero, List.set_cons_succ]
  refine wpAnyH_take (i := 11) (v := ?v11_8) rfl (by kernel_rfl) (by kernel_rfl) (by kernel_rfl) (fun _ _ _ h => h) (Or.inl ⟨by rfl, ?hy11_8⟩) (by assumption) ?rest11_8
  case hy11_8 => (intro w hSw; (try dsimp only at hSw); go_simp; (try with_reducible rfl))
  try simp only [Act.put, List.setIfInBounds_toArray, List.set_cons_zero, List.set_cons_succ]
  refine wpAnyH_take (i := 12) (v := ?v12_9) rfl (by kernel_rfl) (by kernel_rfl) (by kernel_rfl) (fun _ _ _ h => h) (Or.inl ⟨by rfl, ?hy12_9⟩) (by assumption) ?rest12_9
  case hy12_9 => (intro w hSw; (try dsimp only at hSw); go_simp; (try with_reducible rfl))
  try simp only [Act.put, List.setIfInBounds_toArray, List.set_cons_zero, List.set_cons_succ]
  refine wpAnyH_take (i := 13) (v := ?v13_10) rfl (by kernel_rfl) (by kernel_rfl) (by kernel_rfl) (fun _ _ _ h => h) (Or.inl ⟨by rfl, ?hy13_10⟩) (by assumption) ?rest13_10
  case hy13_10 => (intro w hSw; (try dsimp only at hSw); go_simp; (try with_reducible rfl))
  try simp only [Act.put, List.setIfInBounds_toArray, List.set_cons_zero, List.set_cons_succ]
  refine wpAnyH_take (i := 15) (v := ?v15_11) rfl (by kernel_rfl) (by kernel_rfl) (by kernel_rfl) (fun _ _ _ h => h) (Or.inl ⟨by rfl, ?hy15_11⟩) (by assumption) ?rest15_11
  case hy15_11 => (intro w hSw; (try dsimp only at hSw); go_simp; (try with_reducible rfl))
  try simp only [Act.put, List.setIfInBounds_toArray, List.set_cons_zero, List.set_cons_succ]
  refine wpAnyH_ready (rs := [14]) (by kernel_rfl) (by simp) ?_
  refine AllReadyH.cons rfl (fun K hK => ?_) AllReadyH.nil
  go_simp; refine (HE1.out _).mono ?_; rintro e' w' ⟨rfl, hb'⟩
  refine hK.out _ _ (⟨keepW hb' hHeld.1, keepW hb' hHeld.2.1, keepW hb' hHeld.2.2.1, keepW hb' hHeld.2.2.2.1, keepW hb' hHeld.2.2.2.2.1, keepW hb' hHeld.2.2.2.2.2.1, keepW hb' hHeld.2.2.2.2.2.2.1, keepW hb' hHeld.2.2.2.2.2.2.2.1, keepW hb' hHeld.2.2.2.2.2.2.2.2.1, keepW hb' hHeld.2.2.2.2.2.2.2.2.2.1, keepW hb' hHeld.2.2.2.2.2.2.2.2.2.2.1, keepW hb' hHeld.2.2.2.2.2.2.2.2.2.2.2.1, keepW hb' hHeld.2.2.2.2.2.2.2.2.2.2.2.2.1, keepW hb' hHeld.2.2.2.2.2.2.2.2.2.2.2.2.2.1, keepW hb' hHeld.2.2.2.2.2.2.2.2.2.2.2.2.2.2.1, keepW hb' hHeld.2.2.2.2.2.2.2.2.2.2.2.2.2.2.2.1, keepW hb' hHeld.2.2.2.2.2.2.2.2.2.2.2.2.2.2.2.2.1, keepW hb' hHeld.2.2.2.2.2.2.2.2.2.2.2.2.2.2.2.2.2.1, keepW hb' hHeld.2.2.2.2.2.2.2.2.2.2.2.2.2.2.2.2.2.2.1, keepW hb' hHeld.2.2.2.2.2.2.2.2.2.2.2.2.2.2.2.2.2.2.2.1, keepW hb' hHeld.2.2.2.2.2.2.2.2.2.2.2.2.2.2.2.2.2.2.2.2.1, keepW hb' hHeld.2.2.2.2.2.2.2.2.2.2.2.2.2.2.2.2.2.2.2.2.2.1, keepW hb' hHeld.2.2.2.2.2.2.2.2.2.2.2.2.2.2.2.2.2.2.2.2.2.2.1, hHeld.2.2.2.2.2.2.2.2.2.2.2.2.2.2.2.2.2.2.2.2.2.2.2.trans (hb'.mono hHeld.2.2.2.2.2.2.2.2.2.2.2.2.2.2.2.2.2.2.2.2.2.2.2.size)⟩) (fun hHeld => ?_)
  clear hK K
  try simp only [Act.put, List.setIfInBounds_toArray, List.set_cons_zero, List.set_cons_succ]
  refine wpAnyH_ready (rs := [16]) (by kernel_rfl) (by simp) ?_
  refine AllReadyH.cons rfl (fun K hK => ?_) AllReadyH.nil
  go_simp; refine (HE2.out _).mono ?_; rintro e' w' ⟨rfl, hb'⟩
  refine hK.out _ _ (⟨keepW hb' hHeld.1, keepW hb' hHeld.2.1, keepW hb' hHeld.2.2.1, keepW hb' hHeld.2.2.2.1, keepW hb' hHeld.2.2.2.2.1, keepW hb' hHeld.2.2.2.2.2.1, keepW hb' hHeld.2.2.2.2.2.2.1, keepW hb' hHeld.2.2.2.2.2.2.2.1, keepW hb' hHeld.2.2.2.2.2.2.2.2.1, keepW hb' hHeld.2.2.2.2.2.2.2.2.2.1, keepW hb' hHeld.2.2.2.2.2.2.2.2.2.2.1, keepW hb' hHeld.2.2.2.2.2.2.2.2.2.2.2.1, keepW hb' hHeld.2.2.2.2.2.2.2.2.2.2.2.2.1, keepW hb' hHeld.2.2.2.2.2.2.2.2.2.2.2.2.2.1, keepW hb' hHeld.2.2.2.2.2.2.2.2.2.2.2.2.2.2.1, keepW hb' hHeld.2.2.2.2.2.2.2.2.2.2.2.2.2.2.2.1, keepW hb' hHeld.2.2.2.2.2.2.2.2.2.2.2.2.2.2.2.2.1, keepW hb' hHeld.2.2.2.2.2.2.2.2.2.2.2.2.2.2.2.2.2.1, keepW hb' hHeld.2.2.2.2.2.2.2.2.2.2.2.2.2.2.2.2.2.2.1, keepW hb' hHeld.2.2.2.2.2.2.2.2.2.2.2.2.2.2.2.2.2.2.2.1, keepW hb' hHeld.2.2.2.2.2.2.2.2.2.2.2.2.2.2.2.2.2.2.2.2.1, keepW hb' hHeld.2.2.2.2.2.2.2.2.2.2.2.2.2.2.2.2.2.2.2.2.2.1, keepW hb' hHeld.2.2.2.2.2.2.2.2.2.2.2.2.2.2.2.2.2.2.2.2.2.2.1, hHeld.2.2.2.2.2.2.2.2.2.2.2.2.2.2.2.2.2.2.2.2.2.2.2.trans (hb'.mono hHeld.2.2.2.2.2.2.2.2.2.2.2.2.2.2.2.2.2.2.2.2.2.2.2.size)⟩) (fun hHeld => ?_)
  clear hK K
  try simp only [Act.put, List.setIfInBounds_toArray, List.set_cons_zero, List.set_cons_succ]
  refine wpAnyH_take (i := 17) (v := ?v17_12) rfl (by kernel_rfl) (by kernel_rfl) (by kernel_rfl) (fun _ _ _ h => h) (Or.inl ⟨by rfl, ?hy17_12⟩) (by assumption) ?rest17_12
  case hy17_12 => (intro w hSw; (try dsimp only at hSw); go_simp; (try with_reducible rfl))
  try simp only [Act.put, List.setIfInBounds_toArray, List.set_cons_zero, List.set_cons_succ]
  refine wpAnyH_take (i := 18) (v := ?v18_13) rfl (by kernel_rfl) (by kernel_rfl) (by kernel_rfl) (fun _ _ _ h => h) (Or.inl ⟨by rfl, ?hy18_13⟩) (by assumption) ?rest18_13
  case hy18_13 => (intro w hSw; (try dsimp only at hSw); go_simp; (try with_reducible rfl))
  try simp only [Act.put, List.setIfInBounds_toArray, List.set_cons_zero, List.set_cons_succ]
  refine wpAnyH_take (i := 19) (v := ?v19_14) rfl (by kernel_rfl) (by kernel_rfl) (by kernel_rfl) (fun _ _ _ h => h) (Or.inl ⟨by rfl, ?hy19_14⟩) (by assumption) ?rest19_14
  case hy19_14 => (intro w hSw; (try dsimp only at hSw); go_simp; (try with_reducible rfl))
  try simp only [Act.put, List.setIfInBounds_toArray, List.set_cons_zero, List.set_cons_succ]
  refine wpAnyH_ready (rs := [20]) (by kernel_rfl) (by simp) ?_
  refine AllReadyH.cons rfl (fun K hK => ?_) AllReadyH.nil
  go_simp; refine (O_any _).mono ?_; rintro e' w' ⟨rfl, hb'⟩
  refine hK.out _ _ (⟨keepW hb' hHeld.1, keepW hb' hHeld.2.1, keepW hb' hHeld.2.2.1, keepW hb' hHeld.2.2.2.1, keepW hb' hHeld.2.2.2.2.1, keepW hb' hHeld.2.2.2.2.2.1, keepW hb' hHeld.2.2.2.2.2.2.1, keepW hb' hHeld.2.2.2.2.2.2.2.1, keepW hb' hHeld.2.2.2.2.2.2.2.2.1, keepW hb' hHeld.2.2.2.2.2.2.2.2.2.1, keepW hb' hHeld.2.2.2.2.2.2.2.2.2.2.1, keepW hb' hHeld.2.2.2.2.2.2.2.2.2.2.2.1, keepW hb' hHeld.2.2.2.2.2.2.2.2.2.2.2.2.1, keepW hb' hHeld.2.2.2.2.2.2.2.2.2.2.2.2.2.1, keepW hb' hHeld.2.2.2.2.2.2.2.2.2.2.2.2.2.2.1, keepW hb' hHeld.2.2.2.2.2.2.2.2.2.2.2.2.2.2.2.1, keepW hb' hHeld.2.2.2.2.2.2.2.2.2.2.2.2.2.2.2.2.1, keepW hb' hHeld.2.2.2.2.2.2.2.2.2.2.2.2.2.2.2.2.2.1, keepW hb' hHeld.2.2.2.2.2.2.2.2.2.2.2.2.2.2.2.2.2.2.1, keepW hb' hHeld.2.2.2.2.2.2.2.2.2.2.2.2.2.2.2.2.2.2.2.1, keepW hb' hHeld.2.2.2.2.2.2.2.2.2.2.2.2.2.2.2.2.2.2.2.2.1, keepW hb' hHeld.2.2.2.2.2.2.2.2.2.2.2.2.2.2.2.2.2.2.2.2.2.1, keepW hb' hHeld.2.2.2.2.2.2.2.2.2.2.2.2.2.2.2.2.2.2.2.2.2.2.1, hHeld.2.2.2.2.2.2.2.2.2.2.2.2.2.2.2.2.2.2.2.2.2.2.2.trans (hb'.mono hHeld.2.2.2.2.2.2.2.2.2.2.2.2.2.2.2.2.2.2.2.2.2.2.2.size)⟩) (fun hHeld => ?_)
  clear hK K
  try simp only [Act.put, List.setIfInBounds_toArray, List.set_cons_zero, List.set_cons_succ]
  refine wpAnyH_ready (rs := [21]) (by kernel_rfl) (by simp) ?_
  refine AllReadyH.cons rfl (fun K hK => ?_) AllReadyH.nil
  go_simp; refine (HK1.out _).mono ?_; rintro e' w' ⟨rfl, hb'⟩
  refine hK.out _ _ (⟨keepW hb' hHeld.1, keepW hb' hHeld.2.1, keepW hb' hHeld.2.2.1, keepW hb' hHeld.2.2.2.1, keepW hb' hHeld.2.2.2.2.1, keepW hb' hHeld.2.2.2.2.2.1, keepW hb' hHeld.2.2.2.2.2.2.1, keepW hb' hHeld.2.2.2.2.2.2.2.1, keepW hb' hHeld.2.2.2.2.2.2.2.2.1, keepW hb' hHeld.2.2.2.2.2.2.2.2.2.1, keepW hb' hHeld.2.2.2.2.2.2.2.2.2.2.1, keepW hb' hHeld.2.2.2.2.2.2.2.2.2.2.2.1, keepW hb' hHeld.2.2.2.2.2.2.2.2.2.2.2.2.1, keepW hb' hHeld.2.2.2.2.2.2.2.2.2.2.2.2.2.1, keepW hb' hHeld.2.2.2.2.2.2.2.2.2.2.2.2.2.2.1, keepW hb' hHeld.2.2.2.2.2.2.2.2.2.2.2.2.2.2.2.1, keepW hb' hHeld.2.2.2.2.2.2.2.2.2.2.2.2.2.2.2.2.1, keepW hb' hHeld.2.2.2.2.2.2.2.2.2.2.2.2.2.2.2.2.2.1, keepW hb' hHeld.2.2.2.2.2.2.2.2.2.2.2.2.2.2.2.2.2.2.1, keepW hb' hHeld.2.2.2.2.2.2.2.2.2.2.2.2.2.2.2.2.2.2.2.1, keepW hb' hHeld.2.2.2.2.2.2.2.2.2.2.2.2.2.2.2.2.2.2.2.2.1, keepW hb' hHeld.2.2.2.2.2.2.2.2.2.2.2.2.2.2.2.2.2.2.2.2.2.1, keepW hb' hHeld.2.2.2.2.2.2.2.2.2.2.2.2.2.2.2.2.2.2.2.2.2.2.1, hHeld.2.2.2.2.2.2.2.2.2.2.2.2.2.2.2.2.2.2.2.2.2.2.2.trans (hb'.mono hHeld.2.2.2.2.2.2.2.2.2.2.2.2.2.2.2.2.2.2.2.2.2.2.2.size)⟩) (fun hHeld => ?_)
  clear hK K
  try simp only [Act.put, List.setIfInBounds_toArray, List.set_cons_zero, List.set_cons_succ]
  refine wpAnyH_take (i := 22) (v := ?v22_15) rfl (by kernel_rfl) (by kernel_rfl) (by kernel_rfl) (fun _ _ _ h => h) (Or.inl ⟨by rfl, ?hy22_15⟩) (by assumption) ?rest22_15
  case hy22_15 => (intro w hSw; (try dsimp only at hSw); go_simp; (try with_reducible rfl))
  try simp only [Act.put, List.setIfInBounds_toArray, List.set_cons_zero, List.set_cons_succ]
  refine wpAnyH_take (i := 23) (v := ?v23_16) rfl (by kernel_rfl) (by kernel_rfl) (by kernel_rfl) (fun _ _ _ h => h) (Or.inl ⟨by rfl, ?hy23_16⟩) (by assumption) ?rest23_16
  case hy23_16 => (intro w hSw; (try dsimp only at hSw); go_simp; (try with_reducible rfl))
  try simp only [Act.put, List.setIfInBounds_toArray, List.set_cons_zero, List.set_cons_succ]
  refine wpAnyH_take (i := 24) (v := ?v24_17) rfl (by kernel_rfl) (by kernel_rfl) (by kernel_rfl) (fun _ _ _ h => h) (Or.inl ⟨by rfl, ?hy24_17⟩) (by assumption) ?rest24_17
  case hy24_17 => (intro w hSw; (try dsimp only at hSw); go_simp; (try with_reducible rfl))
  try simp only [Act.put, List.setIfInBounds_toArray, List.set_cons_zero, List.set_cons_succ]
  refine wpAnyH_take (i := 25) (v := ?v25_18) rfl (by kernel_rfl) (by kernel_rfl) (by kernel_rfl) (fun _ _ _ h => h) (Or.inl ⟨by rfl, ?hy25_18⟩) (by assumption) ?rest25_18
  case hy25_18 => (intro w hSw; (try dsimp only at hSw); go_simp; (try with_reducible rfl))
  try simp only [Act.put, List.setIfInBounds_toArray, List.set_cons_zero, List.set_cons_succ]
  refine wpAnyH_ready (rs := [26]) (by kernel_rfl) (by simp) ?_
  refine AllReadyH.cons rfl (fun K hK => ?_) AllReadyH.nil
  go_simp; refine (HK2.out _).mono ?_; rintro e' w' ⟨rfl, hb'⟩
  refine hK.out _ _ (⟨keepW hb' hHeld.1, keepW hb' hHeld.2.1, keepW hb' hHeld.2.2.1, keepW hb' hHeld.2.2.2.1, keepW hb' hHeld.2.2.2.2.1, keepW hb' hHeld.2.2.2.2.2.1, keepW hb' hHeld.2.2.2.2.2.2.1, keepW hb' hHeld.2.2.2.2.2.2.2.1, keepW hb' hHeld.2.2.2.2.2.2.2.2.1, keepW hb' hHeld.2.2.2.2.2.2.2.2.2.1, keepW hb' hHeld.2.2.2.2.2.2.2.2.2.2.1, keepW hb' hHeld.2.2.2.2.2.2.2.2.2.2.2.1, keepW hb' hHeld.2.2.2.2.2.2.2.2.2.2.2.2.1, keepW hb' hHeld.2.2.2.2.2.2.2.2.2.2.2.2.2.1, keepW hb' hHeld.2.2.2.2.2.2.2.2.2.2.2.2.2.2.1, keepW hb' hHeld.2.2.2.2.2.2.2.2.2.2.2.2.2.2.2.1, keepW hb' hHeld.2.2.2.2.2.2.2.2.2.2.2.2.2.2.2.2.1, keepW hb' hHeld.2.2.2.2.2.2.2.2.2.2.2.2.2.2.2.2.2.1, keepW hb' hHeld.2.2.2.2.2.2.2.2.2.2.2.2.2.2.2.2.2.2.1, keepW hb' hHeld.2.2.2.2.2.2.2.2.2.2.2.2.2.2.2.2.2.2.2.1, keepW hb' hHeld.2.2.2.2.2.2.2.2.2.2.2.2.2.2.2.2.2.2.2.2.1, keepW hb' hHeld.2.2.2.2.2.2.2.2.2.2.2.2.2.2.2.2.2.2.2.2.2.1, keepW hb' hHeld.2.2.2.2.2.2.2.2.2.2.2.2.2.2.2.2.2.2.2.2.2.2.1, hHeld.2.2.2.2.2.2.2.2.2.2.2.2.2.2.2.2.2.2.2.2.2.2.2.trans (hb'.mono hHeld.2.2.2.2.2.2.2.2.2.2.2.2.2.2.2.2.2.2.2.2.2.2.2.size)⟩) (fun hHeld => ?_)
  clear hK K
  try simp only [Act.put, List.setIfInBounds_toArray, List.set_cons_zero, List.set_cons_succ]
  refine wpAnyH_take (i := 27) (v := ?v27_19) rfl (by kernel_rfl) (by kernel_rfl) (by kernel_rfl) (fun _ _ _ h => h) (Or.inl ⟨by rfl, ?hy27_19⟩) (by assumption) ?rest27_19
  case hy27_19 => (intro w hSw; (try dsimp only at hSw); go_simp; (try with_reducible rfl))
  try simp only [Act.put, List.setIfInBounds_toArray, List.set_cons_zero, List.set_cons_succ]
  refine wpAnyH_take (i := 28) (v := ?v28_20) rfl (by kernel_rfl) (by kernel_rfl) (by kernel_rfl) (fun _ _ _ h => h) (Or.inl ⟨by rfl, ?hy28_20⟩) (by assumption) ?rest28_20
  case hy28_20 => (intro w hSw; (try dsimp only at hSw); go_simp; (try with_reducible rfl))
  try simp only [Act.put, List.setIfInBounds_toArray, List.set_cons_zero, List.set_cons_succ]
  refine wpAnyH_take (i := 29) (v := ?v29_21) rfl (by kernel_rfl) (by kernel_rfl) (by kernel_rfl) (fun _ _ _ h => h) (Or.inl ⟨by rfl, ?hy29_21⟩) (by assumption) ?rest29_21
  case hy29_21 => (intro w hSw; (try dsimp only at hSw); go_simp; (try with_reducible rfl))
  try simp only [Act.put, List.setIfInBounds_toArray, List.set_cons_zero, List.set_cons_succ]
  refine wpAnyH_take (i := 30) (v := ?v30_22) rfl (by kernel_rfl) (by kernel_rfl) (by kernel_rfl) (fun _ _ _ h => h) (Or.inl ⟨by rfl, ?hy30_22⟩) (by assumption) ?rest30_22
  case hy30_22 => (intro w hSw; (try dsimp only at hSw); go_simp; (try with_reducible rfl))
  try simp only [Act.put, List.setIfInBounds_toArray, List.set_cons_zero, List.set_cons_succ]
  refine wpAnyH_ready (rs := [31]) (by kernel_rfl) (by simp) ?_
  refine AllReadyH.cons rfl (fun K hK => ?_) AllReadyH.nil
  go_simp; refine (HK3.out _).mono ?_; rintro e' w' ⟨rfl, hb'⟩
  refine hK.out _ _ (⟨keepW hb' hHeld.1, keepW hb' hHeld.2.1, keepW hb' hHeld.2.2.1, keepW hb' hHeld.2.2.2.1, keepW hb' hHeld.2.2.2.2.1, keepW hb' hHeld.2.2.2.2.2.1, keepW hb' hHeld.2.2.2.2.2.2.1, keepW hb' hHeld.2.2.2.2.2.2.2.1, keepW hb' hHeld.2.2.2.2.2.2.2.2.1, keepW hb' hHeld.2.2.2.2.2.2.2.2.2.1, keepW hb' hHeld.2.2.2.2.2.2.2.2.2.2.1, keepW hb' hHeld.2.2.2.2.2.2.2.2.2.2.2.1, keepW hb' hHeld.2.2.2.2.2.2.2.2.2.2.2.2.1, keepW hb' hHeld.2.2.2.2.2.2.2.2.2.2.2.2.2.1, keepW hb' hHeld.2.2.2.2.2.2.2.2.2.2.2.2.2.2.1, keepW hb' hHeld.2.2.2.2.2.2.2.2.2.2.2.2.2.2.2.1, keepW hb' hHeld.2.2.2.2.2.2.2.2.2.2.2.2.2.2.2.2.1, keepW hb' hHeld.2.2.2.2.2.2.2.2.2.2.2.2.2.2.2.2.2.1, keepW hb' hHeld.2.2.2.2.2.2.2.2.2.2.2.2.2.2.2.2.2.2.1, keepW hb' hHeld.2.2.2.2.2.2.2.2.2.2.2.2.2.2.2.2.2.2.2.1, keepW hb' hHeld.2.2.2.2.2.2.2.2.2.2.2.2.2.2.2.2.2.2.2.2.1, keepW hb' hHeld.2.2.2.2.2.2.2.2.2.2.2.2.2.2.2.2.2.2.2.2.2.1, keepW hb' hHeld.2.2.2.2.2.2.2.2.2.2.2.2.2.2.2.2.2.2.2.2.2.2.1, hHeld.2.2.2.2.2.2.2.2.2.2.2.2.2.2.2.2.2.2.2.2.2.2.2.trans (hb'.mono hHeld.2.2.2.2.2.2.2.2.2.2.2.2.2.2.2.2.2.2.2.2.2.2.2.size)⟩) (fun hHeld => ?_)
  clear hK K
  try simp only [Act.put, List.setIfInBounds_toArray, List.set_cons_zero, List.set_cons_succ]
  refine wpAnyH_take (i := 32) (v := ?v32_23) rfl (by kernel_rfl) (by kernel_rfl) (by kernel_rfl) (fun _ _ _ h => h) (Or.inl ⟨by rfl, ?hy32_23⟩) (by assumption) ?rest32_23
  case hy32_23 => (intro w hSw; (try dsimp only at hSw); go_simp; (try with_reducible rfl))
  try simp only [Act.put, List.setIfInBounds_toArray, List.set_cons_zero, List.set_cons_succ]
  refine wpAnyH_take (i := 33) (v := ?v33_24) rfl (by kernel_rfl) (by kernel_rfl) (by kernel_rfl) (fun _ _ _ h => h) (Or.inl ⟨by rfl, ?hy33_24⟩) (by assumption) ?rest33_24
  case hy33_24 => (intro w hSw; (try dsimp only at hSw); go_simp; (try with_reducible rfl))
  try simp only [Act.put, List.setIfInBounds_toArray, List.set_cons_zero, List.set_cons_succ]
  refine wpAnyH_take (i := 34) (v := ?v34_25) rfl (by kernel_rfl) (by kernel_rfl) (by kernel_rfl) (fun _ _ _ h => h) (Or.inl ⟨by rfl, ?hy34_25⟩) (by assumption) ?rest34_25
  case hy34_25 => (intro w hSw; (try dsimp only at hSw); go_simp; (try with_reducible rfl))
  try simp only [Act.put, List.setIfInBounds_toArray, List.set_cons_zero, List.set_cons_succ]
  refine wpAnyH_ready (rs := [35]) (by kernel_rfl) (by simp) ?_
  refine AllReadyH.cons rfl (fun K hK => ?_) AllReadyH.nil
  go_simp; refine (works_any _).mono ?_; rintro e' w' ⟨rfl, hb'⟩
  refine hK.out _ _ (⟨keepW hb' hHeld.1, keepW hb' hHeld.2.1, keepW hb' hHeld.2.2.1, keepW hb' hHeld.2.2.2.1, keepW hb' hHeld.2.2.2.2.1, keepW hb' hHeld.2.2.2.2.2.1, keepW hb' hHeld.2.2.2.2.2.2.1, keepW hb' hHeld.2.2.2.2.2.2.2.1, keepW hb' hHeld.2.2.2.2.2.2.2.2.1, keepW hb' hHeld.2.2.2.2.2.2.2.2.2.1, keepW hb' hHeld.2.2.2.2.2.2.2.2.2.2.1, keepW hb' hHeld.2.2.2.2.2.2.2.2.2.2.2.1, keepW hb' hHeld.2.2.2.2.2.2.2.2.2.2.2.2.1, keepW hb' hHeld.2.2.2.2.2.2.2.2.2.2.2.2.2.1, keepW hb' hHeld.2.2.2.2.2.2.2.2.2.2.2.2.2.2.1, keepW hb' hHeld.2.2.2.2.2.2.2.2.2.2.2.2.2.2.2.1, keepW hb' hHeld.2.2.2.2.2.2.2.2.2.2.2.2.2.2.2.2.1, keepW hb' hHeld.2.2.2.2.2.2.2.2.2.2.2.2.2.2.2.2.2.1, keepW hb' hHeld.2.2.2.2.2.2.2.2.2.2.2.2.2.2.2.2.2.2.1, keepW hb' hHeld.2.2.2.2.2.2.2.2.2.2.2.2.2.2.2.2.2.2.2.1, keepW hb' hHeld.2.2.2.2.2.2.2.2.2.2.2.2.2.2.2.2.2.2.2.2.1, keepW hb' hHeld.2.2.2.2.2.2.2.2.2.2.2.2.2.2.2.2.2.2.2.2.2.1, keepW hb' hHeld.2.2.2.2.2.2.2.2.2.2.2.2.2.2.2.2.2.2.2.2.2.2.1, hHeld.2.2.2.2.2.2.2.2.2.2.2.2.2.2.2.2.2.2.2.2.2.2.2.trans (hb'.mono hHeld.2.2.2.2.2.2.2.2.2.2.2.2.2.2.2.2.2.2.2.2.2.2.2.size)⟩) (fun hHeld => ?_)
  clear hK K
  try simp only [Act.put, List.setIfInBounds_toArray, List.set_cons_zero, List.set_cons_succ]
  refine wpAnyH_take (i := 36) (v := ?v36_26) rfl (by kernel_rfl) (by kernel_rfl) (by kernel_rfl) (fun _ _ _ h => h) (Or.inl ⟨by rfl, ?hy36_26⟩) (by assumption) ?rest36_26
  case hy36_26 => (intro w hSw; (try dsimp only at hSw); go_simp; (try with_reducible rfl))
  try simp only [Act.put, List.setIfInBounds_toArray, List.set_cons_zero, List.set_cons_succ]
  refine wpAnyH_done (by kernel_rfl) ?_ _
  change wpList _ _ _ _ _ _
  simp only [List.drop_succ_cons, List.drop_zero]
  have bW := bA.trans ((Below.refl A.heap.size A).drew.trans hHeld.2.2.2.2.2.2.2.2.2.2.2.2.2.2.2.2.2.2.2.2.2.2.2 |>.mono bA.size)
  clear hHeld HS
  go_wp2
  go_ret
  exact ⟨rfl, bW⟩

end Go.Proofs.Ytmojnopgpgnfeaa

namespace Go.Proofs.Ytmojnopgpgnfeaa
open Go.ChangeShapes Go.WideShapes Go.ChangeAt Go.RowKit
set_option linter.unusedVariables false
set_option linter.unusedSimpArgs false

theorem cells3 : Try.prog.cellsOf 3 = 1 := by kernel_rfl
theorem cells23 : Try.prog.cellsOf 23 = 5 := by kernel_rfl
theorem cells25 : Try.prog.cellsOf 25 = 2 := by kernel_rfl
theorem cells27 : Try.prog.cellsOf 27 = 4 := by kernel_rfl
theorem cells28 : Try.prog.cellsOf 28 = 4 := by kernel_rfl
theorem cells30 : Try.prog.cellsOf 30 = 14 := by kernel_rfl
theorem cells67 : Try.prog.cellsOf 67 = 2 := by kernel_rfl

set_option maxRecDepth 100000 in
theorem span_trod {H : Type} {enc : TypeId × Value → H} {w : World} {base : Nat} {spare : Nat → Bool} {held : Bool} {fuel : Nat} {v0 v1 : Value} {y : DataW H × List MemPlace}
    (hf : DataW.trod enc Try.prog w base spare held fuel 25 [v0, v1] = some y) : ∃ (lo hi : Int), v0 = .int .i64 lo ∧ v1 = .int .i64 hi ∧ (Lit.int .i64 lo).wf = true ∧ (Lit.int .i64 hi).wf = true := by
  obtain ⟨xs, m, _, _, _, hlen, hg⟩ := DataW.trod_struct Try.underlying25 hf
  match xs, hlen with
  | [y0, y1], _ =>
    have g0 := hg 0 _ rfl
    simp [Value.cells, cells3] at g0
    obtain ⟨lo, e0, _, w0⟩ := DataW.trod_int Try.underlying3 g0
    have g1 := hg 1 _ rfl
    simp [Value.cells, cells3] at g1
    obtain ⟨hi, e1, _, w1⟩ := DataW.trod_int Try.underlying3 g1
    simp only [List.cons.injEq, and_true] at e0 e1
    exact ⟨lo, hi, e0, e1, w0, w1⟩
set_option maxRecDepth 100000 in
theorem steps_trod {H : Type} {enc : TypeId × Value → H} {w : World} {base : Nat} {spare : Nat → Bool} {held : Bool} {fuel : Nat} {v0 v1 v2 v3 : Value} {y : DataW H × List MemPlace}
    (hf : DataW.trod enc Try.prog w base spare held fuel 28 [v0, v1, v2, v3] = some y) : ∃ (a b c d : Int), v0 = .int .i64 a ∧ v1 = .int .i64 b ∧ v2 = .int .i64 c ∧ v3 = .int .i64 d ∧ (Lit.int .i64 a).wf = true ∧ (Lit.int .i64 b).wf = true ∧ (Lit.int .i64 c).wf = true ∧ (Lit.int .i64 d).wf = true := by
  obtain ⟨xs, m, _, _, _, hlen, hg⟩ := DataW.trod_array Try.underlying28 hf
  match xs, hlen with
  | [y0, y1], _ =>
    have g0 := hg 0 (by decide)
    simp [cells25] at g0
    have g1 := hg 1 (by decide)
    simp [cells25] at g1
    obtain ⟨a, b, e0, e1, w0, w1⟩ := span_trod g0
    obtain ⟨c, d, e2, e3, w2, w3⟩ := span_trod g1
    exact ⟨a, b, c, d, e0, e1, e2, e3, w0, w1, w2, w3⟩

set_option maxRecDepth 100000 in
theorem span_open {H : Type} {enc : TypeId × Value → H} {w : World} {r : Reach} {b0 base : Nat} {spare : Nat → Bool} {held : Bool} {v : Value} {d : DataW H} {p : List MemPlace}
    (hv : Value.okWide Try.prog w r b0 25 v) (h : DataW.Trod enc Try.prog w base spare held 25 v d p) :
    ∃ (lo hi : Int), v = .agg #[.int .i64 lo, .int .i64 hi] ∧ (Lit.int .i64 lo).wf = true ∧ (Lit.int .i64 hi).wf = true := by
  obtain ⟨cs, rfl, hsz⟩ := okWide_struct Try.underlying25 hv
  have hsz2 := hsz.trans cells25
  obtain ⟨l⟩ := cs
  have hl : l.length = 2 := hsz2
  clear hsz hsz2 hv
  match l, hl with
  | [v0, v1], _ =>
    obtain ⟨fuel, hf⟩ := h
    obtain ⟨xs, m, _, _, _, hlen, hg⟩ := DataW.trod_struct Try.underlying25 hf
    match xs, hlen with
    | [y0, y1], _ =>
      have g0 := hg 0 _ rfl
      simp [Value.cells, cells3] at g0
      obtain ⟨lo, e0, _, w0⟩ := DataW.trod_int Try.underlying3 g0
      have g1 := hg 1 _ rfl
      simp [Value.cells, cells3] at g1
      obtain ⟨hi, e1, _, w1⟩ := DataW.trod_int Try.underlying3 g1
      try simp only [List.cons.injEq, and_true] at e0 e1
      subst e0 e1
      exact ⟨lo, hi, rfl, w0, w1⟩

set_option maxRecDepth 100000 in
theorem train_open {H : Type} {enc : TypeId × Value → H} {w : World} {r : Reach} {b0 base : Nat} {spare : Nat → Bool} {held : Bool} {v : Value} {d : DataW H} {p : List MemPlace}
    (hv : Value.okWide Try.prog w r b0 23 v) (h : DataW.Trod enc Try.prog w base spare held 23 v d p) :
    ∃ (l k f s c : Int), v = .agg #[.int .i64 l, .int .i64 k, .int .i64 f, .int .i64 s, .int .i64 c] ∧ (Lit.int .i64 l).wf = true ∧ (Lit.int .i64 k).wf = true ∧ (Lit.int .i64 f).wf = true ∧ (Lit.int .i64 s).wf = true ∧ (Lit.int .i64 c).wf = true := by
  obtain ⟨cs, rfl, hsz⟩ := okWide_struct Try.underlying23 hv
  have hsz2 := hsz.trans cells23
  obtain ⟨l⟩ := cs
  have hl : l.length = 5 := hsz2
  clear hsz hsz2 hv
  match l, hl with
  | [v0, v1, v2, v3, v4], _ =>
    obtain ⟨fuel, hf⟩ := h
    obtain ⟨xs, m, _, _, _, hlen, hg⟩ := DataW.trod_struct Try.underlying23 hf
    match xs, hlen with
    | [y0, y1, y2, y3, y4], _ =>
      have g0 := hg 0 _ rfl
      simp [Value.cells, cells3] at g0
      obtain ⟨l, e0, _, w0⟩ := DataW.trod_int Try.underlying3 g0
      have g1 := hg 1 _ rfl
      simp [Value.cells, cells3] at g1
      obtain ⟨k, e1, _, w1⟩ := DataW.trod_int Try.underlying3 g1
      have g2 := hg 2 _ rfl
      simp [Value.cells, cells3] at g2
      obtain ⟨f, e2, _, w2⟩ := DataW.trod_int Try.underlying3 g2
      have g3 := hg 3 _ rfl
      simp [Value.cells, cells3] at g3
      obtain ⟨s, e3, _, w3⟩ := DataW.trod_int Try.underlying3 g3
      have g4 := hg 4 _ rfl
      simp [Value.cells, cells3] at g4
      obtain ⟨c, e4, _, w4⟩ := DataW.trod_int Try.underlying3 g4
      try simp only [List.cons.injEq, and_true] at e0 e1 e2 e3 e4
      subst e0 e1 e2 e3 e4
      exact ⟨l, k, f, s, c, rfl, w0, w1, w2, w3, w4⟩

set_option maxRecDepth 100000 in
theorem recv_open {H : Type} {enc : TypeId × Value → H} {w : World} {r : Reach} {b0 base : Nat} {spare : Nat → Bool} {held : Bool} {v : Value} {d : DataW H} {p : List MemPlace}
    (hv : Value.okWide Try.prog w r b0 27 v) (h : DataW.Trod enc Try.prog w base spare held 27 v d p) :
    ∃ (lv ph n0 n1 : Int), v = .agg #[.int .i64 lv, .int .i64 ph, .int .i64 n0, .int .i64 n1] ∧ (Lit.int .i64 lv).wf = true ∧ (Lit.int .i64 ph).wf = true ∧ (Lit.int .i64 n0).wf = true ∧ (Lit.int .i64 n1).wf = true := by
  obtain ⟨cs, rfl, hsz⟩ := okWide_struct Try.underlying27 hv
  have hsz2 := hsz.trans cells27
  obtain ⟨l⟩ := cs
  have hl : l.length = 4 := hsz2
  clear hsz hsz2 hv
  match l, hl with
  | [v0, v1, v2, v3], _ =>
    obtain ⟨fuel, hf⟩ := h
    obtain ⟨xs, m, _, _, _, hlen, hg⟩ := DataW.trod_struct Try.underlying27 hf
    match xs, hlen with
    | [y0, y1, y2], _ =>
      have g0 := hg 0 _ rfl
      simp [Value.cells, cells3] at g0
      obtain ⟨lv, e0, _, w0⟩ := DataW.trod_int Try.underlying3 g0
      have g1 := hg 1 _ rfl
      simp [Value.cells, cells3] at g1
      obtain ⟨ph, e1, _, w1⟩ := DataW.trod_int Try.underlying3 g1
      have g2 := hg 2 _ rfl
      simp [Value.cells, cells25] at g2
      obtain ⟨n0, n1, e2, e3, w2, w3⟩ := span_trod g2
      try simp only [List.cons.injEq, and_true] at e0 e1 e2 e3
      subst e0 e1 e2 e3
      exact ⟨lv, ph, n0, n1, rfl, w0, w1, w2, w3⟩

set_option maxRecDepth 100000 in
theorem echo_open {H : Type} {enc : TypeId × Value → H} {w : World} {r : Reach} {b0 base : Nat} {spare : Nat → Bool} {held : Bool} {v : Value} {d : DataW H} {p : List MemPlace}
    (hv : Value.okWide Try.prog w r b0 30 v) (h : DataW.Trod enc Try.prog w base spare held 30 v d p) :
    ∃ (kd p0 p1 s0 s1 s2 s3 sp r0 r1 m0 m1 t0 t1 : Int), v = .agg #[.int .i64 kd, .int .i64 p0, .int .i64 p1, .int .i64 s0, .int .i64 s1, .int .i64 s2, .int .i64 s3, .int .i64 sp, .int .i64 r0, .int .i64 r1, .int .i64 m0, .int .i64 m1, .int .i64 t0, .int .i64 t1] ∧ (Lit.int .i64 kd).wf = true ∧ (Lit.int .i64 p0).wf = true ∧ (Lit.int .i64 p1).wf = true ∧ (Lit.int .i64 s0).wf = true ∧ (Lit.int .i64 s1).wf = true ∧ (Lit.int .i64 s2).wf = true ∧ (Lit.int .i64 s3).wf = true ∧ (Lit.int .i64 sp).wf = true ∧ (Lit.int .i64 r0).wf = true ∧ (Lit.int .i64 r1).wf = true ∧ (Lit.int .i64 m0).wf = true ∧ (Lit.int .i64 m1).wf = true ∧ (Lit.int .i64 t0).wf = true ∧ (Lit.int .i64 t1).wf = true := by
  obtain ⟨cs, rfl, hsz⟩ := okWide_struct Try.underlying30 hv
  have hsz2 := hsz.trans cells30
  obtain ⟨l⟩ := cs
  have hl : l.length = 14 := hsz2
  clear hsz hsz2 hv
  match l, hl with
  | [v0, v1, v2, v3, v4, v5, v6, v7, v8, v9, v10, v11, v12, v13], _ =>
    obtain ⟨fuel, hf⟩ := h
    obtain ⟨xs, m, _, _, _, hlen, hg⟩ := DataW.trod_struct Try.underlying30 hf
    match xs, hlen with
    | [y0, y1, y2, y3, y4, y5, y6], _ =>
      have g0 := hg 0 _ rfl
      simp [Value.cells, cells3] at g0
      obtain ⟨kd, e0, _, w0⟩ := DataW.trod_int Try.underlying3 g0
      have g1 := hg 1 _ rfl
      simp [Value.cells, cells25] at g1
      obtain ⟨p0, p1, e1, e2, w1, w2⟩ := span_trod g1
      have g2 := hg 2 _ rfl
      simp [Value.cells, cells28] at g2
      obtain ⟨s0, s1, s2, s3, e3, e4, e5, e6, w3, w4, w5, w6⟩ := steps_trod g2
      have g3 := hg 3 _ rfl
      simp [Value.cells, cells3] at g3
      obtain ⟨sp, e7, _, w7⟩ := DataW.trod_int Try.underlying3 g3
      have g4 := hg 4 _ rfl
      simp [Value.cells, cells25] at g4
      obtain ⟨r0, r1, e8, e9, w8, w9⟩ := span_trod g4
      have g5 := hg 5 _ rfl
      simp [Value.cells, cells25] at g5
      obtain ⟨m0, m1, e10, e11, w10, w11⟩ := span_trod g5
      have g6 := hg 6 _ rfl
      simp [Value.cells, cells25] at g6
      obtain ⟨t0, t1, e12, e13, w12, w13⟩ := span_trod g6
      try simp only [List.cons.injEq, and_true] at e0 e1 e2 e3 e4 e5 e6 e7 e8 e9 e10 e11 e12 e13
      subst e0 e1 e2 e3 e4 e5 e6 e7 e8 e9 e10 e11 e12 e13
      exact ⟨kd, p0, p1, s0, s1, s2, s3, sp, r0, r1, m0, m1, t0, t1, rfl, w0, w1, w2, w3, w4, w5, w6, w7, w8, w9, w10, w11, w12, w13⟩

set_option maxRecDepth 100000 in
theorem pair_open {H : Type} {enc : TypeId × Value → H} {w : World} {r : Reach} {b0 base : Nat} {spare : Nat → Bool} {held : Bool} {v : Value} {d : DataW H} {p : List MemPlace}
    (hv : Value.okWide Try.prog w r b0 67 v) (h : DataW.Trod enc Try.prog w base spare held 67 v d p) :
    ∃ (a b : Int), v = .agg #[.int .i64 a, .int .i64 b] ∧ (Lit.int .i64 a).wf = true ∧ (Lit.int .i64 b).wf = true := by
  simp only [Value.okWide, Try.underlying67] at hv
  obtain ⟨cs, rfl, hsz, _⟩ := hv
  have hsz2 := hsz.trans cells67
  obtain ⟨l⟩ := cs
  have hl : l.length = 2 := hsz2
  clear hsz hsz2
  match l, hl with
  | [v0, v1], _ =>
    obtain ⟨fuel, hf⟩ := h
    obtain ⟨xs, m, _, _, _, hlen, hg⟩ := DataW.trod_array Try.underlying67 hf
    match xs, hlen with
    | [y0, y1], _ =>
      have g0 := hg 0 (by decide)
      simp [cells3, Value.cells] at g0
      have g1 := hg 1 (by decide)
      simp [cells3, Value.cells] at g1
      obtain ⟨a, e0, _, w0⟩ := DataW.trod_int Try.underlying3 g0
      obtain ⟨b, e1, _, w1⟩ := DataW.trod_int Try.underlying3 g1
      simp only [List.cons.injEq, and_true] at e0 e1
      subst e0 e1
      exact ⟨a, b, rfl, w0, w1⟩

end Go.Proofs.Ytmojnopgpgnfeaa
