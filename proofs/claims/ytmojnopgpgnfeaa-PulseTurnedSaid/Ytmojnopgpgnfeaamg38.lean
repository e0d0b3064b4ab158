/-
  What is heard is a valid echo, and its angles have bounds.
-/
import Derived.Test.Ytmojnopgpgnfeaamg37
import Derived.Test.Ytmojnopgpgnfeaamg34
import Derived.Test.Ytmojnopgpgnfeaamg31
import Derived.Test.Ytmojnopgpgnfeaamg36
namespace Go.Proofs.Ytmojnopgpgnfeaa
set_option linter.unusedVariables false

theorem hear_echo {l kd f s c lv ph n0 n1 : Int} {n : Nat} {zs : Nat → Smp} (ht : trainC l kd f s c = 0) (hr : recvC lv ph n0 n1 = 0) (hn : (n : Int) = c) (ha : allS zs n = true) :
    echoC (hearOf l kd c lv ph n0 n1 n zs 0) (hearOf l kd c lv ph n0 n1 n zs 1) (hearOf l kd c lv ph n0 n1 n zs 2) (hearOf l kd c lv ph n0 n1 n zs 3) (hearOf l kd c lv ph n0 n1 n zs 4) (hearOf l kd c lv ph n0 n1 n zs 5) (hearOf l kd c lv ph n0 n1 n zs 6) (hearOf l kd c lv ph n0 n1 n zs 7) (hearOf l kd c lv ph n0 n1 n zs 8) (hearOf l kd c lv ph n0 n1 n zs 9) (hearOf l kd c lv ph n0 n1 n zs 10) (hearOf l kd c lv ph n0 n1 n zs 11) (hearOf l kd c lv ph n0 n1 n zs 12) (hearOf l kd c lv ph n0 n1 n zs 13) = 0 := by
  obtain ⟨⟨t1, t2⟩, t3⟩ := train_ok ht
  obtain ⟨r1, r2, r3⟩ := recv_ok hr
  have hlc : ((trnTo zs n).length : Int) = c := by rw [trnTo_len]; exact hn
  exact hearE_ok (amt_of r1 (by omega) hn (by omega) (lev_ok ha) ⟨by omega, by omega⟩) (fun _ => means_of r2 hlc)
/-- an angle that is no wilder than this -/
def Tame (x : Int) : Prop := -100000 ≤ x ∧ x ≤ 100000
theorem turnB_tame {lo hi : Int} (h : turnB lo hi = true) : Tame lo ∧ Tame hi := by
  unfold turnB at h
  rw [Bool.and_eq_true, inB_true, inB_true] at h
  unfold Tame
  omega
theorem clear_tame {kd p0 p1 s0 s1 s2 s3 sp r0 r1 m0 m1 t0 t1 : Int} (h : echoC kd p0 p1 s0 s1 s2 s3 sp r0 r1 m0 m1 t0 t1 = 0) (h3 : kd = 3) : (Tame s0 ∧ Tame s1) ∧ (Tame s2 ∧ Tame s3) ∧ (Tame t0 ∧ Tame t1) := by
  subst h3
  unfold echoC at h
  rw [if_neg (by decide), if_neg (by decide), if_pos rfl] at h
  split at h
  · rename_i h2
    unfold clearB at h2
    simp only [Bool.and_eq_true] at h2
    exact ⟨turnB_tame h2.2.1.1, turnB_tame h2.2.1.2, turnB_tame h2.2.2⟩
  · omega
theorem eq_tame {a b c d : Int} (h : eqT a b c d) (hc : -200000 ≤ c ∧ c ≤ 200000) (hd : -200000 ≤ d ∧ d ≤ 200000) : (-1000000 ≤ a ∧ a ≤ 1000000) ∧ (-1000000 ≤ b ∧ b ≤ 1000000) := by
  obtain ⟨k, k1, k2, k3, k4, k5⟩ := h
  omega

end Go.Proofs.Ytmojnopgpgnfeaa

namespace Go.Proofs.Ytmojnopgpgnfeaa
open Go.RowKit
set_option linter.unusedVariables false
set_option linter.unusedSimpArgs false

theorem equal_true (a b c d : Int) (w : World) (ha : -1000000 ≤ a ∧ a ≤ 1000000) (hb : -1000000 ≤ b ∧ b ≤ 1000000) (h : eqT a b c d) :
    Calls Try.prog 42 #[.agg #[.int .i64 a, .int .i64 b], .agg #[.int .i64 c, .int .i64 d]] w fun e w' => e = .returned (.bool true) ∧ Below w.heap.size w w' := by
  obtain ⟨q, q1, q2, q3, q4, q5⟩ := h
  have H1 : Hid (∀ W : World, Calls Try.prog 77 #[.agg #[.int .i64 a, .int .i64 b], .agg #[.int .i64 c, .int .i64 d]] W fun e w' => e = .returned (.bool true) ∧ Below W.heap.size W w') := Lib.hid fun W => turned_true a b c d W (by omega) (by omega) ⟨q, q1, q2, q3, by omega, by omega⟩
  have H2 : Hid (∀ W : World, Calls Try.prog 77 #[.agg #[.int .i64 c, .int .i64 d], .agg #[.int .i64 a, .int .i64 b]] W fun e w' => e = .returned (.bool true) ∧ Below W.heap.size W w') := Lib.hid fun W => turned_true c d a b W (by omega) (by omega) ⟨-q, by omega, by omega, by omega, by omega, by omega⟩
  obtain ⟨A1, e1⟩ : ∃ A, A = w.alloc (.cells #[.int .i64 a, .int .i64 b] 25) := ⟨_, rfl⟩
  obtain ⟨U, e2⟩ : ∃ A, A = A1.alloc (.cells #[.int .i64 c, .int .i64 d] 25) := ⟨_, rfl⟩
  have s1 : A1.heap.size = w.heap.size + 1 := by rw [e1]; exact World.size_alloc _ _
  have s2 : U.heap.size = w.heap.size + 1 + 1 := by rw [e2, World.size_alloc, s1]
  have b1 : Below w.heap.size w A1 := by rw [e1]; exact below_alloc _ _
  have b2 : Below A1.heap.size A1 U := by rw [e2]; exact below_alloc _ _
  have bU := b1.trans (b2.mono b1.size)
  have k0 : U.cell? ⟨w.heap.size, 0, none⟩ = some (.int .i64 a) := keepB b2 (by omega) (by rw [e1]; exact alloc_new rfl rfl)
  have k1 : U.cell? ⟨w.heap.size, 1, none⟩ = some (.int .i64 b) := keepB b2 (by omega) (by rw [e1]; exact alloc_new rfl rfl)
  have k2 : U.cell? ⟨w.heap.size + 1, 0, none⟩ = some (.int .i64 c) := by rw [e2, ← s1]; exact alloc_new rfl rfl
  have k3 : U.cell? ⟨w.heap.size + 1, 1, none⟩ = some (.int .i64 d) := by rw [e2, ← s1]; exact alloc_new rfl rfl
  have HB := Lib.hid bU
  have HS := Lib.hid s2
  rw [e1] at e2
  clear e1 b1 b2 bU s1 q q1 q2 q3 q4 q5 ha hb
  go_enter Try.func42, Try.ntmps42
  go_wp2_with fail
  rw [← e2]
  clear e2
  go_wp2_with fail
  refine (H1.out _).mono ?_; rintro e' X ⟨rfl, hbX⟩
  have k0 := keepB hbX (by omega) k0
  have k1 := keepB hbX (by omega) k1
  have k2 := keepB hbX (by omega) k2
  have k3 := keepB hbX (by omega) k3
  have HX := Lib.hid hbX
  clear hbX
  go_wp2_with fail
  refine (H2.out _).mono ?_; rintro e' Y ⟨rfl, hbY⟩
  go_wp2
  go_ret
  exact ⟨rfl, HB.out.trans ((HX.out.trans (hbY.mono HX.out.size)).mono HB.out.size)⟩

end Go.Proofs.Ytmojnopgpgnfeaa
