/-
  PulseTurned, walked.
-/
import Derived.Test.Ytmojnopgpgnfeaamg35
import Derived.Test.Ytmojnopgpgnfeaamg37
import Derived.Test.Ytmojnopgpgnfeaamg38
import Derived.Test.Ytmojnopgpgnfeaamg29
namespace Go.Proofs.Ytmojnopgpgnfeaa
open Go.RowKit
set_option linter.unusedVariables false
set_option linter.unusedSimpArgs false

set_option maxRecDepth 100000 in
set_option maxHeartbeats 16000000 in
theorem PulseTurned_B (l kd f s c lv ph n0 n1 : Int) (a : Option Addr) (n cap : Nat) (zs : Nat → Smp) (mo ru : Int) (w : World) (hn : n ≤ maxLen) (hS : SmpsIs w a n zs) (hmo : 0 ≤ mo ∧ mo < 65536) (hru : 0 ≤ ru ∧ ru < 65536) (hv : herV l kd f s c lv ph n0 n1 n zs 0 = 3) (hkv : kd = 1) :
    Calls Try.prog 11 #[.agg #[.int .i64 l, .int .i64 kd, .int .i64 f, .int .i64 s, .int .i64 c], .agg #[.int .i64 lv, .int .i64 ph, .int .i64 n0, .int .i64 n1], .slice a n cap, .int .u16 mo, .int .u16 ru] w fun e w' => e = .returned (.bool true) ∧ Below w.heap.size w w' := by
  have hmaxl : maxLen = 9223372036854775807 := rfl
  have HKV := Lib.hid hkv
  clear hkv
  have P0 := Lib.hid (TrB.new w l kd f s c lv ph n0 n1)
  obtain ⟨U, hU⟩ : ∃ U, U = ((w.alloc (.cells #[.int .i64 l, .int .i64 kd, .int .i64 f, .int .i64 s, .int .i64 c] 23)).alloc (.cells #[.int .i64 lv, .int .i64 ph, .int .i64 n0, .int .i64 n1] 27)) := ⟨_, rfl⟩
  rw [← hU] at P0
  by_cases h64 : 64 < n
  · have e1 : decide (64 < (n : Int)) = true := decide_eq_true (by omega)
    go_enter Try.func11, Try.ntmps11
    go_wp2_with fail
    rw [← hU]
    clear hU
    refine (works_any _).mono ?_; rintro e' X ⟨rfl, hb⟩
    go_wp2
    go_ret
    exact ⟨rfl, P0.out.b.trans (hb.mono P0.out.b.size)⟩
  have e1 : decide (64 < (n : Int)) = false := decide_eq_false (by omega)
  obtain ⟨E, hE⟩ : ∃ E, E = herE l kd f s c lv ph n0 n1 n zs := ⟨_, rfl⟩
  obtain ⟨g, hg⟩ : ∃ g, g = herV l kd f s c lv ph n0 n1 n zs := ⟨_, rfl⟩
  have G3 : Hid (g 0 = 3) := Lib.hid (by rw [hg]; exact hv)
  clear hv
  have H1 : Hid (∀ W : World, Below w.heap.size w W → Calls Try.prog 27 #[.agg #[.int .i64 l, .int .i64 kd, .int .i64 f, .int .i64 s, .int .i64 c], .agg #[.int .i64 lv, .int .i64 ph, .int .i64 n0, .int .i64 n1], .slice a n cap] W fun e w' => e = .returned (.tuple #[.agg #[.int .i64 (g 0), .int .i64 (g 1), .int .i64 (g 2), .int .i64 (g 3), .int .i64 (g 4), .int .i64 (g 5), .int .i64 (g 6), .int .i64 (g 7), .int .i64 (g 8), .int .i64 (g 9), .int .i64 (g 10), .int .i64 (g 11), .int .i64 (g 12), .int .i64 (g 13)], .int .i64 E]) ∧ Below W.heap.size W w') := Lib.hid fun W hW => by rw [hE, hg]; exact Hear_any _ _ _ _ _ _ _ _ _ a n cap zs W (hS.keep hW)
  by_cases hE0 : E = 0
  case neg =>
    have e2 : (E == 0) = false := beq_eq_false_iff_ne.2 hE0
    have e3 : (E != 0) = true := by simpa using hE0
    clear hE hg hE0 hS
    go_enter Try.func11, Try.ntmps11
    go_wp2_with fail
    rw [← hU]
    clear hU
    obtain ⟨c0, c1, c2, c3, c4, c5, c6, c7, c8, hz, hbw⟩ := P0.out
    refine (H1.out _ hbw).mono ?_; rintro e' X1 ⟨rfl, hb1⟩
    have b2 := hbw.trans ((hb1.trans ((below_alloc X1 (.cells #[.int .i64 (g 0), .int .i64 (g 1), .int .i64 (g 2), .int .i64 (g 3), .int .i64 (g 4), .int .i64 (g 5), .int .i64 (g 6), .int .i64 (g 7), .int .i64 (g 8), .int .i64 (g 9), .int .i64 (g 10), .int .i64 (g 11), .int .i64 (g 12), .int .i64 (g 13)] 30)).mono hb1.size)).mono hbw.size)
    clear c0 c1 c2 c3 c4 c5 c6 c7 c8 hz hbw hb1 P0
    go_wp2_with fail
    refine (works_any _).mono ?_; rintro e' X ⟨rfl, hb⟩
    go_wp2
    go_ret
    exact ⟨rfl, b2.trans (hb.mono b2.size)⟩
  obtain ⟨k1, k2, k3, k4⟩ := herE_0 (hE.symm.trans hE0)
  obtain ⟨r1, r2, r3⟩ := recv_ok k2
  have hc2 := (train_ok k1).1
  have hg2 : g = hearOf l kd c lv ph n0 n1 n zs := by rw [hg]; unfold herV; rw [if_pos (hE.symm.trans hE0)]
  rcases hS with h | ⟨b, off, rfl, hb, hs⟩
  · omega
  have HZ := Lib.hid (lev_ok k4)
  have HP := Lib.hid (fun i (hi : i < n) => smpB_true (allS_at k4 hi))
  have HS := Lib.hid hs
  have hn2 : 2 ≤ n ∧ n ≤ 64 := by omega
  subst hE0
  have HG := Lib.hid (And.intro hg2 (And.intro k1 (And.intro k2 (And.intro k3 k4))))
  clear hE hg hg2 hs k1 k2 k3 k4
  obtain ⟨i0, hi, hz0, hz1, hz2⟩ := info_parts4 info84
  go_enter Try.func11, Try.ntmps11
  go_wp2_with fail
  rw [← hU]
  clear hU
  obtain ⟨c0, c1, c2, c3, c4, c5, c6, c7, c8, hz, hbw⟩ := P0.out
  refine (H1.out _ hbw).mono ?_; rintro e' X1 ⟨rfl, hb1⟩
  obtain ⟨V, hV⟩ : ∃ V, V = X1.alloc (.cells #[.int .i64 (g 0), .int .i64 (g 1), .int .i64 (g 2), .int .i64 (g 3), .int .i64 (g 4), .int .i64 (g 5), .int .i64 (g 6), .int .i64 (g 7), .int .i64 (g 8), .int .i64 (g 9), .int .i64 (g 10), .int .i64 (g 11), .int .i64 (g 12), .int .i64 (g 13)] 30) := ⟨_, rfl⟩
  have P1 := Lib.hid (P0.out.keep hb1)
  have bV : Below X1.heap.size X1 V := by rw [hV]; exact below_alloc _ _
  have PV := Lib.hid (P1.out.keep bV)
  have GV := Lib.hid (show EchB V X1.heap.size g by rw [hV]; exact EchB.new X1 g)
  have KV := Lib.hid (show EchoG V X1.heap.size g by rw [hV]; exact EchoG.new X1 g 30)
  have yV : X1.heap.size < V.heap.size := by rw [hV, World.size_alloc]; omega
  clear c0 c1 c2 c3 c4 c5 c6 c7 c8 hz hbw hb1 P0 bV
  obtain ⟨c0, c1, c2, c3, c4, c5, c6, c7, c8, hz, hbw⟩ := P1.out
  have y0 : w.heap.size < X1.heap.size := by omega
  have y1 : w.heap.size + 1 < X1.heap.size := by omega
  have YY := Lib.hid (And.intro y0 (And.intro y1 yV))
  go_wp2_with fail
  rw [← hV]
  clear hV c0 c1 c2 c3 c4 c5 c6 c7 c8 y0 y1 hz hbw P1 yV
  go_loopw [13, 14, 15, 16] (fun v13 v14 v15 v16 wr => ∃ k : Nat, k ≤ n ∧ v16 = .int .i64 k ∧ TrS V wr v13 v14 v15 k k k (addP mo zs) (runP ru zs) (oppP zs)) (fun _ _ _ v16 _ => n - (intOf v16).toNat)
  case atStart => exact ⟨0, Nat.zero_le _, rfl, TrS.new V _ _ _⟩
  case round =>
    obtain ⟨k, hk, rfl, hI⟩ := hrel
    by_cases hlt : k < n
    · have hbw := hI.b
      have HI := Lib.hid hI
      have bVw := PV.out.b
      have hbV : b < V.heap.size := Nat.lt_of_lt_of_le hb bVw.size
      have hbr : b < wr.heap.size := Nat.lt_of_lt_of_le hbV hbw.size
      have z0 := keepB hbw hbV (keepB bVw hb (HS.out.c0 k hlt))
      have z1 := keepB hbw hbV (keepB bVw hb (HS.out.c1 k hlt))
      have z2 := keepB hbw hbV (keepB bVw hb (HS.out.c2 k hlt))
      have z3 := keepB hbw hbV (keepB bVw hb (HS.out.c3 k hlt))
      have hp := HP.out k hlt
      obtain ⟨yh, hyh⟩ : ∃ x, x = (zs k).h := ⟨_, rfl⟩
      obtain ⟨yp, hyp⟩ : ∃ x, x = (zs k).p := ⟨_, rfl⟩
      obtain ⟨yv, hyv⟩ : ∃ x, x = (zs k).v := ⟨_, rfl⟩
      obtain ⟨yq, hyq⟩ : ∃ x, x = (zs k).q := ⟨_, rfl⟩
      rw [← hyh] at z0
      rw [← hyp] at z1
      rw [← hyv] at z2
      rw [← hyq] at z3
      rw [← hyp, ← hyq] at hp
      have HYY := Lib.hid (And.intro hyh (And.intro hyp (And.intro hyv hyq)))
      clear hyh hyp hyv hyq
      have qb : (0 ≤ yp ∧ yp ≤ 65535) ∧ (0 ≤ yq ∧ yq ≤ 65535) := by omega
      have hx0 := TrX.new yh yp yv yq HI.out
      obtain ⟨A0, hA0⟩ : ∃ A, A = wr.alloc (.cells #[.int .i64 yh, .int .i64 yp, .int .i64 yv, .int .i64 yq] 84) := ⟨_, rfl⟩
      rw [← hA0] at hx0
      have HX0 := Lib.hid (hx0.keep (Below.refl _ _).drew)
      clear hx0
      have HS0 := Lib.hid (show (fun w' : World => w'.cell? ⟨wr.heap.size, 0, none⟩ = some (.int .i64 yh) ∧ w'.cell? ⟨wr.heap.size, 1, none⟩ = some (.int .i64 yp) ∧ w'.cell? ⟨wr.heap.size, 2, none⟩ = some (.int .i64 yv) ∧ w'.cell? ⟨wr.heap.size, 3, none⟩ = some (.int .i64 yq) ∧ Below A0.drew.heap.size A0.drew w') A0.drew from ⟨HX0.out.c0, HX0.out.c1, HX0.out.c2, HX0.out.c3, Below.refl _ _⟩)
      have im : IntKind.i64.wrap mo = mo := IntWalk.i64_in _ (by omega)
      have ir : IntKind.i64.wrap ru = ru := IntWalk.i64_in _ (by omega)
      have ia : IntKind.i64.wrap (yp + mo) = yp + mo := IntWalk.i64_in _ (by omega)
      have ib : IntKind.i64.wrap (yq + mo) = yq + mo := IntWalk.i64_in _ (by omega)
      have kr : 0 ≤ (k : Int) * ru ∧ (k : Int) * ru ≤ 64 * 65536 := ⟨Int.mul_nonneg (by omega) (by omega), Int.le_trans (Int.mul_le_mul_of_nonneg_right (show (k : Int) ≤ 64 by omega) hru.1) (Int.mul_le_mul_of_nonneg_left (by omega) (by decide))⟩
      have ik : IntKind.i64.wrap ((k : Int) * ru) = (k : Int) * ru := IntWalk.i64_in _ (by omega)
      have ikp : IntKind.i64.wrap (yp + (k : Int) * ru) = yp + (k : Int) * ru := IntWalk.i64_in _ (by omega)
      have ikq : IntKind.i64.wrap (yq + (k : Int) * ru) = yq + (k : Int) * ru := IntWalk.i64_in _ (by omega)
      have iop : IntKind.i64.wrap (-yp) = -yp := IntWalk.i64_in _ (by omega)
      have ioq : IntKind.i64.wrap (-yq) = -yq := IntWalk.i64_in _ (by omega)
      clear hI hbw bVw HI
      go_wp2_with fail
      rw [← hA0]
      clear hA0
      refine wp_region_held_tail (S := (fun w' : World => w'.cell? ⟨wr.heap.size, 0, none⟩ = some (.int .i64 yh) ∧ w'.cell? ⟨wr.heap.size, 1, none⟩ = some (.int .i64 yp) ∧ w'.cell? ⟨wr.heap.size, 2, none⟩ = some (.int .i64 yv) ∧ w'.cell? ⟨wr.heap.size, 3, none⟩ = some (.int .i64 yq) ∧ Below A0.drew.heap.size A0.drew w')) 19 (by kernel_rfl) (by kernel_rfl) HS0.out (fun hHeld => ?_)
      refine wpAnyH_take (i := 0) (v := ?v0_1) rfl (by kernel_rfl) (by kernel_rfl) (by kernel_rfl) (fun _ _ _ h => h) (Or.inl ⟨by rfl, ?hy0_1⟩) (by assumption) ?rest0_1
      case hy0_1 => (intro w hSw; (try dsimp only at hSw); go_simp; (try with_reducible rfl))
      try simp only [Act.put, List.setIfInBounds_toArray, List.set_cons_zero, List.set_cons_succ]
      refine wpAnyH_take (i := 1) (v := ?v1_2) rfl (by kernel_rfl) (by kernel_rfl) (by kernel_rfl) (fun _ _ _ h => h) (Or.inl ⟨by rfl, ?hy1_2⟩) (by assumption) ?rest1_2
      case hy1_2 => (intro w hSw; (try dsimp only at hSw); go_simp; (try with_reducible rfl))
      try simp only [Act.put, List.setIfInBounds_toArray, List.set_cons_zero, List.set_cons_succ]
      refine wpAnyH_take (i := 2) (v := ?v2_3) rfl (by kernel_rfl) (by kernel_rfl) (by kernel_rfl) (fun _ _ _ h => h) (Or.inl ⟨by rfl, ?hy2_3⟩) (by assumption) ?rest2_3
      case hy2_3 => (intro w hSw; (try dsimp only at hSw); go_simp; (try with_reducible rfl))
      try simp only [Act.put, List.setIfInBounds_toArray, List.set_cons_zero, List.set_cons_succ]
      refine wpAnyH_take (i := 3) (v := ?v3_4) rfl (by kernel_rfl) (by kernel_rfl) (by kernel_rfl) (fun _ _ _ h => h) (Or.inl ⟨by rfl, ?hy3_4⟩) (by assumption) ?rest3_4
      case hy3_4 => (intro w hSw; (try dsimp only at hSw); go_simp; (try with_reducible rfl))
      try simp only [Act.put, List.setIfInBounds_toArray, List.set_cons_zero, List.set_cons_succ]
      refine wpAnyH_take (i := 4) (v := ?v4_5) rfl (by kernel_rfl) (by kernel_rfl) (by kernel_rfl) (fun _ _ _ h => h) (Or.inl ⟨by rfl, ?hy4_5⟩) (by assumption) ?rest4_5
      case hy4_5 => (intro w hSw; (try dsimp only at hSw); go_simp; (try with_reducible rfl))
      try simp only [Act.put, List.setIfInBounds_toArray, List.set_cons_zero, List.set_cons_succ]
      refine wpAnyH_take (i := 5) (v := ?v5_6) rfl (by kernel_rfl) (by kernel_rfl) (by kernel_rfl) (fun _ _ _ h => h) (Or.inl ⟨by rfl, ?hy5_6⟩) (by assumption) ?rest5_6
      case hy5_6 => (intro w hSw; (try dsimp only at hSw); go_simp; (try with_reducible rfl))
      try simp only [Act.put, List.setIfInBounds_toArray, List.set_cons_zero, List.set_cons_succ]
      refine wpAnyH_take (i := 6) (v := ?v6_7) rfl (by kernel_rfl) (by kernel_rfl) (by kernel_rfl) (fun _ _ _ h => h) (Or.inl ⟨by rfl, ?hy6_7⟩) (by assumption) ?rest6_7
      case hy6_7 => (intro w hSw; (try dsimp only at hSw); go_simp; (try with_reducible rfl))
      try simp only [Act.put, List.setIfInBounds_toArray, List.set_cons_zero, List.set_cons_succ]
      refine wpAnyH_take (i := 7) (v := ?v7_8) rfl (by kernel_rfl) (by kernel_rfl) (by kernel_rfl) (fun _ _ _ h => h) (Or.inl ⟨by rfl, ?hy7_8⟩) (by assumption) ?rest7_8
      case hy7_8 => (intro w hSw; (try dsimp only at hSw); go_simp; (try with_reducible rfl))
      try simp only [Act.put, List.setIfInBounds_toArray, List.set_cons_zero, List.set_cons_succ]
      refine wpAnyH_take (i := 9) (v := ?v9_9) rfl (by kernel_rfl) (by kernel_rfl) (by kernel_rfl) (fun _ _ _ h => h) (Or.inl ⟨by rfl, ?hy9_9⟩) (by assumption) ?rest9_9
      case hy9_9 => (intro w hSw; (try dsimp only at hSw); go_simp; (try with_reducible rfl))
      try simp only [Act.put, List.setIfInBounds_toArray, List.set_cons_zero, List.set_cons_succ]
      refine wpAnyH_take (i := 10) (v := ?v10_10) rfl (by kernel_rfl) (by kernel_rfl) (by kernel_rfl) (fun _ _ _ h => h) (Or.inl ⟨by rfl, ?hy10_10⟩) (by assumption) ?rest10_10
      case hy10_10 => (intro w hSw; (try dsimp only at hSw); go_simp; (try with_reducible rfl))
      try simp only [Act.put, List.setIfInBounds_toArray, List.set_cons_zero, List.set_cons_succ]
      refine wpAnyH_take (i := 11) (v := ?v11_11) rfl (by kernel_rfl) (by kernel_rfl) (by kernel_rfl) (fun _ _ _ h => h) (Or.inl ⟨by rfl, ?hy11_11⟩) (by assumption) ?rest11_11
      case hy11_11 => (intro w hSw; (try dsimp only at hSw); go_simp; (try with_reducible rfl))
      try simp only [Act.put, List.setIfInBounds_toArray, List.set_cons_zero, List.set_cons_succ]
      refine wpAnyH_take (i := 12) (v := ?v12_12) rfl (by kernel_rfl) (by kernel_rfl) (by kernel_rfl) (fun _ _ _ h => h) (Or.inl ⟨by rfl, ?hy12_12⟩) (by assumption) ?rest12_12
      case hy12_12 => (intro w hSw; (try dsimp only at hSw); go_simp; (try with_reducible rfl))
      try simp only [Act.put, List.setIfInBounds_toArray, List.set_cons_zero, List.set_cons_succ]
      refine wpAnyH_take (i := 13) (v := ?v13_13) rfl (by kernel_rfl) (by kernel_rfl) (by kernel_rfl) (fun _ _ _ h => h) (Or.inl ⟨by rfl, ?hy13_13⟩) (by assumption) ?rest13_13
      case hy13_13 => (intro w hSw; (try dsimp only at hSw); go_simp; (try with_reducible rfl))
      try simp only [Act.put, List.setIfInBounds_toArray, List.set_cons_zero, List.set_cons_succ]
      refine wpAnyH_take (i := 14) (v := ?v14_14) rfl (by kernel_rfl) (by kernel_rfl) (by kernel_rfl) (fun _ _ _ h => h) (Or.inl ⟨by rfl, ?hy14_14⟩) (by assumption) ?rest14_14
      case hy14_14 => (intro w hSw; (try dsimp only at hSw); go_simp; (try with_reducible rfl))
      try simp only [Act.put, List.setIfInBounds_toArray, List.set_cons_zero, List.set_cons_succ]
      refine wpAnyH_take (i := 15) (v := ?v15_15) rfl (by kernel_rfl) (by kernel_rfl) (by kernel_rfl) (fun _ _ _ h => h) (Or.inl ⟨by rfl, ?hy15_15⟩) (by assumption) ?rest15_15
      case hy15_15 => (intro w hSw; (try dsimp only at hSw); go_simp; (try with_reducible rfl))
      try simp only [Act.put, List.setIfInBounds_toArray, List.set_cons_zero, List.set_cons_succ]
      refine wpAnyH_ready (rs := [8]) (by kernel_rfl) (by simp) ?_
      refine AllReadyH.cons rfl (fun K hK => ?_) AllReadyH.nil
      go_simp
      refine (wrap_any _ _ (by omega) (by omega)).mono ?_; rintro e' _ ⟨rfl, rfl⟩
      refine hK.out _ _ hHeld (fun hHeld => ?_)
      clear hK K
      try simp only [Act.put, List.setIfInBounds_toArray, List.set_cons_zero, List.set_cons_succ]
      refine wpAnyH_ready (rs := [16]) (by kernel_rfl) (by simp) ?_
      refine AllReadyH.cons rfl (fun K hK => ?_) AllReadyH.nil
      go_simp
      refine (wrap_any _ _ (by omega) (by omega)).mono ?_; rintro e' _ ⟨rfl, rfl⟩
      refine hK.out _ _ hHeld (fun hHeld => ?_)
      clear hK K
      try simp only [Act.put, List.setIfInBounds_toArray, List.set_cons_zero, List.set_cons_succ]
      refine wpAnyH_take (i := 17) (v := ?v17_16) rfl (by kernel_rfl) (by kernel_rfl) (by kernel_rfl) (fun _ _ _ h => h) (Or.inl ⟨by rfl, ?hy17_16⟩) (by assumption) ?rest17_16
      case hy17_16 => (intro w hSw; (try dsimp only at hSw); go_simp; (try with_reducible rfl))
      try simp only [Act.put, List.setIfInBounds_toArray, List.set_cons_zero, List.set_cons_succ]
      refine wpAnyH_ready (rs := [18]) (by kernel_rfl) (by simp) ?_
      refine AllReadyH.cons rfl (fun K hK => ?_) AllReadyH.nil
      go_simp
      refine hK.out _ _ (⟨keepW (below_alloc _ _) hHeld.1, keepW (below_alloc _ _) hHeld.2.1, keepW (below_alloc _ _) hHeld.2.2.1, keepW (below_alloc _ _) hHeld.2.2.2.1, hHeld.2.2.2.2.trans ((below_alloc _ _).mono hHeld.2.2.2.2.size)⟩) (fun hHeld => ?_)
      clear hK K
      try simp only [Act.put, List.setIfInBounds_toArray, List.set_cons_zero, List.set_cons_succ]
      refine wpAnyH_done (by kernel_rfl) ?_ _
      change wpList _ _ _ _ _ _
      simp only [List.drop_succ_cons, List.drop_zero]
      clear hHeld
      go_wp2_with (at_builtin; refine wpList_append_own_at _ rfl _ _ 54 rfl V.heap.size 84 i0 (.agg #[.int .i64 0, .int .i64 0, .int .i64 0, .int .i64 0]) 4 32 Try.underlying54 hi hz0 hz1 hz2 rfl (by decide) _ _ _ rfl (HX0.out.s.r0.alloc _) ⟨A0.drew.heap.size, 0, none⟩ 1 1 [.int .i64 yh, .int .i64 ((yp + mo) % 65536), .int .i64 yv, .int .i64 ((yq + mo) % 65536)] rfl rfl (cell_four_new _ _ _ _ _ _) (by simp [Value.oneCell']) (by omega) (by omega) (by have := HX0.out.s.b.size; first | (simp only [World.size_alloc]; omega) | (simp at this ⊢; omega) | (simp; omega)) ?_; intro v0' w1 hown hgrow _ hat; have HX1 := Lib.hid (HX0.out.g0 hgrow (by obtain ⟨a1, a2, a3, a4⟩ := HYY.out; rw [a1, a2, a3, a4] at hown; exact hown) hat); clear hown hgrow hat)
      have HB1 := Lib.hid (HX1.out.keep (Below.refl _ _).drew)
      have HS23 := Lib.hid (show (fun w' : World => w'.cell? ⟨wr.heap.size, 0, none⟩ = some (.int .i64 yh) ∧ w'.cell? ⟨wr.heap.size, 1, none⟩ = some (.int .i64 yp) ∧ w'.cell? ⟨wr.heap.size, 2, none⟩ = some (.int .i64 yv) ∧ w'.cell? ⟨wr.heap.size, 3, none⟩ = some (.int .i64 yq) ∧ Below w1.drew.heap.size w1.drew w') w1.drew from ⟨HB1.out.c0, HB1.out.c1, HB1.out.c2, HB1.out.c3, Below.refl _ _⟩)
      refine wp_region_held_tail (S := (fun w' : World => w'.cell? ⟨wr.heap.size, 0, none⟩ = some (.int .i64 yh) ∧ w'.cell? ⟨wr.heap.size, 1, none⟩ = some (.int .i64 yp) ∧ w'.cell? ⟨wr.heap.size, 2, none⟩ = some (.int .i64 yv) ∧ w'.cell? ⟨wr.heap.size, 3, none⟩ = some (.int .i64 yq) ∧ Below w1.drew.heap.size w1.drew w')) 23 (by kernel_rfl) (by kernel_rfl) HS23.out (fun hHeld => ?_)
      refine wpAnyH_take (i := 0) (v := ?v0_17) rfl (by kernel_rfl) (by kernel_rfl) (by kernel_rfl) (fun _ _ _ h => h) (Or.inl ⟨by rfl, ?hy0_17⟩) (by assumption) ?rest0_17
      case hy0_17 => (intro w hSw; (try dsimp only at hSw); go_simp; (try with_reducible rfl))
      try simp only [Act.put, List.setIfInBounds_toArray, List.set_cons_zero, List.set_cons_succ]
      refine wpAnyH_take (i := 1) (v := ?v1_18) rfl (by kernel_rfl) (by kernel_rfl) (by kernel_rfl) (fun _ _ _ h => h) (Or.inl ⟨by rfl, ?hy1_18⟩) (by assumption) ?rest1_18
      case hy1_18 => (intro w hSw; (try dsimp only at hSw); go_simp; (try with_reducible rfl))
      try simp only [Act.put, List.setIfInBounds_toArray, List.set_cons_zero, List.set_cons_succ]
      refine wpAnyH_take (i := 2) (v := ?v2_19) rfl (by kernel_rfl) (by kernel_rfl) (by kernel_rfl) (fun _ _ _ h => h) (Or.inl ⟨by rfl, ?hy2_19⟩) (by assumption) ?rest2_19
      case hy2_19 => (intro w hSw; (try dsimp only at hSw); go_simp; (try with_reducible rfl))
      try simp only [Act.put, List.setIfInBounds_toArray, List.set_cons_zero, List.set_cons_succ]
      refine wpAnyH_take (i := 3) (v := ?v3_20) rfl (by kernel_rfl) (by kernel_rfl) (by kernel_rfl) (fun _ _ _ h => h) (Or.inl ⟨by rfl, ?hy3_20⟩) (by assumption) ?rest3_20
      case hy3_20 => (intro w hSw; (try dsimp only at hSw); go_simp; (try with_reducible rfl))
      try simp only [Act.put, List.setIfInBounds_toArray, List.set_cons_zero, List.set_cons_succ]
      refine wpAnyH_take (i := 4) (v := ?v4_21) rfl (by kernel_rfl) (by kernel_rfl) (by kernel_rfl) (fun _ _ _ h => h) (Or.inl ⟨by rfl, ?hy4_21⟩) (by assumption) ?rest4_21
      case hy4_21 => (intro w hSw; (try dsimp only at hSw); go_simp; (try with_reducible rfl))
      try simp only [Act.put, List.setIfInBounds_toArray, List.set_cons_zero, List.set_cons_succ]
      refine wpAnyH_take (i := 5) (v := ?v5_22) rfl (by kernel_rfl) (by kernel_rfl) (by kernel_rfl) (fun _ _ _ h => h) (Or.inl ⟨by rfl, ?hy5_22⟩) (by assumption) ?rest5_22
      case hy5_22 => (intro w hSw; (try dsimp only at hSw); go_simp; (try with_reducible rfl))
      try simp only [Act.put, List.setIfInBounds_toArray, List.set_cons_zero, List.set_cons_succ]
      refine wpAnyH_take (i := 6) (v := ?v6_23) rfl (by kernel_rfl) (by kernel_rfl) (by kernel_rfl) (fun _ _ _ h => h) (Or.inl ⟨by rfl, ?hy6_23⟩) (by assumption) ?rest6_23
      case hy6_23 => (intro w hSw; (try dsimp only at hSw); go_simp; (try with_reducible rfl))
      try simp only [Act.put, List.setIfInBounds_toArray, List.set_cons_zero, List.set_cons_succ]
      refine wpAnyH_take (i := 7) (v := ?v7_24) rfl (by kernel_rfl) (by kernel_rfl) (by kernel_rfl) (fun _ _ _ h => h) (Or.inl ⟨by rfl, ?hy7_24⟩) (by assumption) ?rest7_24
      case hy7_24 => (intro w hSw; (try dsimp only at hSw); go_simp; (try with_reducible rfl))
      try simp only [Act.put, List.setIfInBounds_toArray, List.set_cons_zero, List.set_cons_succ]
      refine wpAnyH_take (i := 8) (v := ?v8_25) rfl (by kernel_rfl) (by kernel_rfl) (by kernel_rfl) (fun _ _ _ h => h) (Or.inl ⟨by rfl, ?hy8_25⟩) (by assumption) ?rest8_25
      case hy8_25 => (intro w hSw; (try dsimp only at hSw); go_simp; (try with_reducible rfl))
      try simp only [Act.put, List.setIfInBounds_toArray, List.set_cons_zero, List.set_cons_succ]
      refine wpAnyH_take (i := 9) (v := ?v9_26) rfl (by kernel_rfl) (by kernel_rfl) (by kernel_rfl) (fun _ _ _ h => h) (Or.inl ⟨by rfl, ?hy9_26⟩) (by assumption) ?rest9_26
      case hy9_26 => (intro w hSw; (try dsimp only at hSw); go_simp; (try with_reducible rfl))
      try simp only [Act.put, List.setIfInBounds_toArray, List.set_cons_zero, List.set_cons_succ]
      refine wpAnyH_take (i := 11) (v := ?v11_27) rfl (by kernel_rfl) (by kernel_rfl) (by kernel_rfl) (fun _ _ _ h => h) (Or.inl ⟨by rfl, ?hy11_27⟩) (by assumption) ?rest11_27
      case hy11_27 => (intro w hSw; (try dsimp only at hSw); go_simp; (try with_reducible rfl))
      try simp only [Act.put, List.setIfInBounds_toArray, List.set_cons_zero, List.set_cons_succ]
      refine wpAnyH_take (i := 12) (v := ?v12_28) rfl (by kernel_rfl) (by kernel_rfl) (by kernel_rfl) (fun _ _ _ h => h) (Or.inl ⟨by rfl, ?hy12_28⟩) (by assumption) ?rest12_28
      case hy12_28 => (intro w hSw; (try dsimp only at hSw); go_simp; (try with_reducible rfl))
      try simp only [Act.put, List.setIfInBounds_toArray, List.set_cons_zero, List.set_cons_succ]
      refine wpAnyH_take (i := 13) (v := ?v13_29) rfl (by kernel_rfl) (by kernel_rfl) (by kernel_rfl) (fun _ _ _ h => h) (Or.inl ⟨by rfl, ?hy13_29⟩) (by assumption) ?rest13_29
      case hy13_29 => (intro w hSw; (try dsimp only at hSw); go_simp; (try with_reducible rfl))
      try simp only [Act.put, List.setIfInBounds_toArray, List.set_cons_zero, List.set_cons_succ]
      refine wpAnyH_take (i := 14) (v := ?v14_30) rfl (by kernel_rfl) (by kernel_rfl) (by kernel_rfl) (fun _ _ _ h => h) (Or.inl ⟨by rfl, ?hy14_30⟩) (by assumption) ?rest14_30
      case hy14_30 => (intro w hSw; (try dsimp only at hSw); go_simp; (try with_reducible rfl))
      try simp only [Act.put, List.setIfInBounds_toArray, List.set_cons_zero, List.set_cons_succ]
      refine wpAnyH_take (i := 15) (v := ?v15_31) rfl (by kernel_rfl) (by kernel_rfl) (by kernel_rfl) (fun _ _ _ h => h) (Or.inl ⟨by rfl, ?hy15_31⟩) (by assumption) ?rest15_31
      case hy15_31 => (intro w hSw; (try dsimp only at hSw); go_simp; (try with_reducible rfl))
      try simp only [Act.put, List.setIfInBounds_toArray, List.set_cons_zero, List.set_cons_succ]
      refine wpAnyH_take (i := 16) (v := ?v16_32) rfl (by kernel_rfl) (by kernel_rfl) (by kernel_rfl) (fun _ _ _ h => h) (Or.inl ⟨by rfl, ?hy16_32⟩) (by assumption) ?rest16_32
      case hy16_32 => (intro w hSw; (try dsimp only at hSw); go_simp; (try with_reducible rfl))
      try simp only [Act.put, List.setIfInBounds_toArray, List.set_cons_zero, List.set_cons_succ]
      refine wpAnyH_take (i := 17) (v := ?v17_33) rfl (by kernel_rfl) (by kernel_rfl) (by kernel_rfl) (fun _ _ _ h => h) (Or.inl ⟨by rfl, ?hy17_33⟩) (by assumption) ?rest17_33
      case hy17_33 => (intro w hSw; (try dsimp only at hSw); go_simp; (try with_reducible rfl))
      try simp only [Act.put, List.setIfInBounds_toArray, List.set_cons_zero, List.set_cons_succ]
      refine wpAnyH_take (i := 18) (v := ?v18_34) rfl (by kernel_rfl) (by kernel_rfl) (by kernel_rfl) (fun _ _ _ h => h) (Or.inl ⟨by rfl, ?hy18_34⟩) (by assumption) ?rest18_34
      case hy18_34 => (intro w hSw; (try dsimp only at hSw); go_simp; (try with_reducible rfl))
      try simp only [Act.put, List.setIfInBounds_toArray, List.set_cons_zero, List.set_cons_succ]
      refine wpAnyH_take (i := 19) (v := ?v19_35) rfl (by kernel_rfl) (by kernel_rfl) (by kernel_rfl) (fun _ _ _ h => h) (Or.inl ⟨by rfl, ?hy19_35⟩) (by assumption) ?rest19_35
      case hy19_35 => (intro w hSw; (try dsimp only at hSw); go_simp; (try with_reducible rfl))
      try simp only [Act.put, List.setIfInBounds_toArray, List.set_cons_zero, List.set_cons_succ]
      refine wpAnyH_ready (rs := [10]) (by kernel_rfl) (by simp) ?_
      refine AllReadyH.cons rfl (fun K hK => ?_) AllReadyH.nil
      go_simp
      refine (wrap_any _ _ (by omega) (by omega)).mono ?_; rintro e' _ ⟨rfl, rfl⟩
      refine hK.out _ _ hHeld (fun hHeld => ?_)
      clear hK K
      try simp only [Act.put, List.setIfInBounds_toArray, List.set_cons_zero, List.set_cons_succ]
      refine wpAnyH_ready (rs := [20]) (by kernel_rfl) (by simp) ?_
      refine AllReadyH.cons rfl (fun K hK => ?_) AllReadyH.nil
      go_simp
      refine (wrap_any _ _ (by omega) (by omega)).mono ?_; rintro e' _ ⟨rfl, rfl⟩
      refine hK.out _ _ hHeld (fun hHeld => ?_)
      clear hK K
      try simp only [Act.put, List.setIfInBounds_toArray, List.set_cons_zero, List.set_cons_succ]
      refine wpAnyH_take (i := 21) (v := ?v21_36) rfl (by kernel_rfl) (by kernel_rfl) (by kernel_rfl) (fun _ _ _ h => h) (Or.inl ⟨by rfl, ?hy21_36⟩) (by assumption) ?rest21_36
      case hy21_36 => (intro w hSw; (try dsimp only at hSw); go_simp; (try with_reducible rfl))
      try simp only [Act.put, List.setIfInBounds_toArray, List.set_cons_zero, List.set_cons_succ]
      refine wpAnyH_ready (rs := [22]) (by kernel_rfl) (by simp) ?_
      refine AllReadyH.cons rfl (fun K hK => ?_) AllReadyH.nil
      go_simp
      refine hK.out _ _ (⟨keepW (below_alloc _ _) hHeld.1, keepW (below_alloc _ _) hHeld.2.1, keepW (below_alloc _ _) hHeld.2.2.1, keepW (below_alloc _ _) hHeld.2.2.2.1, hHeld.2.2.2.2.trans ((below_alloc _ _).mono hHeld.2.2.2.2.size)⟩) (fun hHeld => ?_)
      clear hK K
      try simp only [Act.put, List.setIfInBounds_toArray, List.set_cons_zero, List.set_cons_succ]
      refine wpAnyH_done (by kernel_rfl) ?_ _
      change wpList _ _ _ _ _ _
      simp only [List.drop_succ_cons, List.drop_zero]
      clear hHeld
      go_wp2_with (at_builtin; refine wpList_append_own_at _ rfl _ _ 54 rfl V.heap.size 84 i0 (.agg #[.int .i64 0, .int .i64 0, .int .i64 0, .int .i64 0]) 4 32 Try.underlying54 hi hz0 hz1 hz2 rfl (by decide) _ _ _ rfl (HB1.out.s.r1.alloc _) ⟨w1.drew.heap.size, 0, none⟩ 1 1 [.int .i64 yh, .int .i64 ((yp + (k : Int) * ru) % 65536), .int .i64 yv, .int .i64 ((yq + (k : Int) * ru) % 65536)] rfl rfl (cell_four_new _ _ _ _ _ _) (by simp [Value.oneCell']) (by omega) (by omega) (by have := HB1.out.s.b.size; first | (simp only [World.size_alloc]; omega) | (simp at this ⊢; omega) | (simp; omega)) ?_; intro v1' w2 hown hgrow _ hat; have HX2 := Lib.hid (HB1.out.g1 hgrow (by obtain ⟨a1, a2, a3, a4⟩ := HYY.out; rw [a1, a2, a3, a4] at hown; exact hown) hat); clear hown hgrow hat)
      have HB2 := Lib.hid (HX2.out.keep (Below.refl _ _).drew)
      have HS15 := Lib.hid (show (fun w' : World => w'.cell? ⟨wr.heap.size, 0, none⟩ = some (.int .i64 yh) ∧ w'.cell? ⟨wr.heap.size, 1, none⟩ = some (.int .i64 yp) ∧ w'.cell? ⟨wr.heap.size, 2, none⟩ = some (.int .i64 yv) ∧ w'.cell? ⟨wr.heap.size, 3, none⟩ = some (.int .i64 yq) ∧ Below w2.drew.heap.size w2.drew w') w2.drew from ⟨HB2.out.c0, HB2.out.c1, HB2.out.c2, HB2.out.c3, Below.refl _ _⟩)
      refine wp_region_held_tail (S := (fun w' : World => w'.cell? ⟨wr.heap.size, 0, none⟩ = some (.int .i64 yh) ∧ w'.cell? ⟨wr.heap.size, 1, none⟩ = some (.int .i64 yp) ∧ w'.cell? ⟨wr.heap.size, 2, none⟩ = some (.int .i64 yv) ∧ w'.cell? ⟨wr.heap.size, 3, none⟩ = some (.int .i64 yq) ∧ Below w2.drew.heap.size w2.drew w')) 15 (by kernel_rfl) (by kernel_rfl) HS15.out (fun hHeld => ?_)
      refine wpAnyH_take (i := 0) (v := ?v0_37) rfl (by kernel_rfl) (by kernel_rfl) (by kernel_rfl) (fun _ _ _ h => h) (Or.inl ⟨by rfl, ?hy0_37⟩) (by assumption) ?rest0_37
      case hy0_37 => (intro w hSw; (try dsimp only at hSw); go_simp; (try with_reducible rfl))
      try simp only [Act.put, List.setIfInBounds_toArray, List.set_cons_zero, List.set_cons_succ]
      refine wpAnyH_take (i := 1) (v := ?v1_38) rfl (by kernel_rfl) (by kernel_rfl) (by kernel_rfl) (fun _ _ _ h => h) (Or.inl ⟨by rfl, ?hy1_38⟩) (by assumption) ?rest1_38
      case hy1_38 => (intro w hSw; (try dsimp only at hSw); go_simp; (try with_reducible rfl))
      try simp only [Act.put, List.setIfInBounds_toArray, List.set_cons_zero, List.set_cons_succ]
      refine wpAnyH_take (i := 2) (v := ?v2_39) rfl (by kernel_rfl) (by kernel_rfl) (by kernel_rfl) (fun _ _ _ h => h) (Or.inl ⟨by rfl, ?hy2_39⟩) (by assumption) ?rest2_39
      case hy2_39 => (intro w hSw; (try dsimp only at hSw); go_simp; (try with_reducible rfl))
      try simp only [Act.put, List.setIfInBounds_toArray, List.set_cons_zero, List.set_cons_succ]
      refine wpAnyH_take (i := 3) (v := ?v3_40) rfl (by kernel_rfl) (by kernel_rfl) (by kernel_rfl) (fun _ _ _ h => h) (Or.inl ⟨by rfl, ?hy3_40⟩) (by assumption) ?rest3_40
      case hy3_40 => (intro w hSw; (try dsimp only at hSw); go_simp; (try with_reducible rfl))
      try simp only [Act.put, List.setIfInBounds_toArray, List.set_cons_zero, List.set_cons_succ]
      refine wpAnyH_take (i := 4) (v := ?v4_41) rfl (by kernel_rfl) (by kernel_rfl) (by kernel_rfl) (fun _ _ _ h => h) (Or.inl ⟨by rfl, ?hy4_41⟩) (by assumption) ?rest4_41
      case hy4_41 => (intro w hSw; (try dsimp only at hSw); go_simp; (try with_reducible rfl))
      try simp only [Act.put, List.setIfInBounds_toArray, List.set_cons_zero, List.set_cons_succ]
      refine wpAnyH_take (i := 5) (v := ?v5_42) rfl (by kernel_rfl) (by kernel_rfl) (by kernel_rfl) (fun _ _ _ h => h) (Or.inl ⟨by rfl, ?hy5_42⟩) (by assumption) ?rest5_42
      case hy5_42 => (intro w hSw; (try dsimp only at hSw); go_simp; (try with_reducible rfl))
      try simp only [Act.put, List.setIfInBounds_toArray, List.set_cons_zero, List.set_cons_succ]
      refine wpAnyH_take (i := 7) (v := ?v7_43) rfl (by kernel_rfl) (by kernel_rfl) (by kernel_rfl) (fun _ _ _ h => h) (Or.inl ⟨by rfl, ?hy7_43⟩) (by assumption) ?rest7_43
      case hy7_43 => (intro w hSw; (try dsimp only at hSw); go_simp; (try with_reducible rfl))
      try simp only [Act.put, List.setIfInBounds_toArray, List.set_cons_zero, List.set_cons_succ]
      refine wpAnyH_take (i := 8) (v := ?v8_44) rfl (by kernel_rfl) (by kernel_rfl) (by kernel_rfl) (fun _ _ _ h => h) (Or.inl ⟨by rfl, ?hy8_44⟩) (by assumption) ?rest8_44
      case hy8_44 => (intro w hSw; (try dsimp only at hSw); go_simp; (try with_reducible rfl))
      try simp only [Act.put, List.setIfInBounds_toArray, List.set_cons_zero, List.set_cons_succ]
      refine wpAnyH_take (i := 9) (v := ?v9_45) rfl (by kernel_rfl) (by kernel_rfl) (by kernel_rfl) (fun _ _ _ h => h) (Or.inl ⟨by rfl, ?hy9_45⟩) (by assumption) ?rest9_45
      case hy9_45 => (intro w hSw; (try dsimp only at hSw); go_simp; (try with_reducible rfl))
      try simp only [Act.put, List.setIfInBounds_toArray, List.set_cons_zero, List.set_cons_succ]
      refine wpAnyH_take (i := 10) (v := ?v10_46) rfl (by kernel_rfl) (by kernel_rfl) (by kernel_rfl) (fun _ _ _ h => h) (Or.inl ⟨by rfl, ?hy10_46⟩) (by assumption) ?rest10_46
      case hy10_46 => (intro w hSw; (try dsimp only at hSw); go_simp; (try with_reducible rfl))
      try simp only [Act.put, List.setIfInBounds_toArray, List.set_cons_zero, List.set_cons_succ]
      refine wpAnyH_take (i := 11) (v := ?v11_47) rfl (by kernel_rfl) (by kernel_rfl) (by kernel_rfl) (fun _ _ _ h => h) (Or.inl ⟨by rfl, ?hy11_47⟩) (by assumption) ?rest11_47
      case hy11_47 => (intro w hSw; (try dsimp only at hSw); go_simp; (try with_reducible rfl))
      try simp only [Act.put, List.setIfInBounds_toArray, List.set_cons_zero, List.set_cons_succ]
      refine wpAnyH_ready (rs := [6]) (by kernel_rfl) (by simp) ?_
      refine AllReadyH.cons rfl (fun K hK => ?_) AllReadyH.nil
      go_simp
      refine (wrap_any _ _ (by omega) (by omega)).mono ?_; rintro e' _ ⟨rfl, rfl⟩
      refine hK.out _ _ hHeld (fun hHeld => ?_)
      clear hK K
      try simp only [Act.put, List.setIfInBounds_toArray, List.set_cons_zero, List.set_cons_succ]
      refine wpAnyH_ready (rs := [12]) (by kernel_rfl) (by simp) ?_
      refine AllReadyH.cons rfl (fun K hK => ?_) AllReadyH.nil
      go_simp
      refine (wrap_any _ _ (by omega) (by omega)).mono ?_; rintro e' _ ⟨rfl, rfl⟩
      refine hK.out _ _ hHeld (fun hHeld => ?_)
      clear hK K
      try simp only [Act.put, List.setIfInBounds_toArray, List.set_cons_zero, List.set_cons_succ]
      refine wpAnyH_take (i := 13) (v := ?v13_48) rfl (by kernel_rfl) (by kernel_rfl) (by kernel_rfl) (fun _ _ _ h => h) (Or.inl ⟨by rfl, ?hy13_48⟩) (by assumption) ?rest13_48
      case hy13_48 => (intro w hSw; (try dsimp only at hSw); go_simp; (try with_reducible rfl))
      try simp only [Act.put, List.setIfInBounds_toArray, List.set_cons_zero, List.set_cons_succ]
      refine wpAnyH_ready (rs := [14]) (by kernel_rfl) (by simp) ?_
      refine AllReadyH.cons rfl (fun K hK => ?_) AllReadyH.nil
      go_simp
      refine hK.out _ _ (⟨keepW (below_alloc _ _) hHeld.1, keepW (below_alloc _ _) hHeld.2.1, keepW (below_alloc _ _) hHeld.2.2.1, keepW (below_alloc _ _) hHeld.2.2.2.1, hHeld.2.2.2.2.trans ((below_alloc _ _).mono hHeld.2.2.2.2.size)⟩) (fun hHeld => ?_)
      clear hK K
      try simp only [Act.put, List.setIfInBounds_toArray, List.set_cons_zero, List.set_cons_succ]
      refine wpAnyH_done (by kernel_rfl) ?_ _
      change wpList _ _ _ _ _ _
      simp only [List.drop_succ_cons, List.drop_zero]
      clear hHeld
      go_wp2_with (at_builtin; refine wpList_append_own_at _ rfl _ _ 54 rfl V.heap.size 84 i0 (.agg #[.int .i64 0, .int .i64 0, .int .i64 0, .int .i64 0]) 4 32 Try.underlying54 hi hz0 hz1 hz2 rfl (by decide) _ _ _ rfl (HB2.out.s.r2.alloc _) ⟨w2.drew.heap.size, 0, none⟩ 1 1 [.int .i64 yh, .int .i64 ((-yp) % 65536), .int .i64 yv, .int .i64 ((-yq) % 65536)] rfl rfl (cell_four_new _ _ _ _ _ _) (by simp [Value.oneCell']) (by omega) (by omega) (by have := HB2.out.s.b.size; first | (simp only [World.size_alloc]; omega) | (simp at this ⊢; omega) | (simp; omega)) ?_; intro v2' w3 hown hgrow _ hat; have HX3 := Lib.hid (HB2.out.g2 hgrow (by obtain ⟨a1, a2, a3, a4⟩ := HYY.out; rw [a1, a2, a3, a4] at hown; exact hown) hat); clear hown hgrow hat)
      go_roundw
      case rel => exact ⟨k + 1, by omega, by go_num, HX3.out.s⟩
      case measure => simp [intOf]; omega
    · obtain rfl : n = k := by omega
      have hbw := hI.b
      obtain ⟨b0, q0, hv0, _, hl0, hs0⟩ := row_smps hI.r0 (by omega)
      obtain ⟨b1, q1, hv1, _, hl1, hs1⟩ := row_smps hI.r1 (by omega)
      obtain ⟨b2, q2, hv2, _, hl2, hs2⟩ := row_smps hI.r2 (by omega)
      subst hv0
      subst hv1
      subst hv2
      obtain ⟨hgE, k1, k2, k3, k4⟩ := HG.out
      have TT := tur_e (zs := zs) (lv := lv) (n0 := n0) (n1 := n1) k1 k3 r2 hru
      rw [← hgE] at TT
      obtain ⟨gq, hgq⟩ : ∃ x, x = hearOf l kd c lv ph n0 n1 n (runP ru zs) := ⟨_, rfl⟩
      obtain ⟨go, hgo⟩ : ∃ x, x = hearOf l kd c lv ph n0 n1 n (oppP zs) := ⟨_, rfl⟩
      rw [← hgq, ← hgo] at TT
      have HT := Lib.hid TT
      have HB3 : Hid (g 0 = 3 → (Tame (g 3) ∧ Tame (g 4)) ∧ (Tame (g 5) ∧ Tame (g 6)) ∧ (Tame (g 12) ∧ Tame (g 13))) := Lib.hid (by
        have h := hear_echo k1 k2 k3 k4
        rw [← hgE] at h
        exact fun h3 => clear_tame h h3)
      have hgA : g = hearOf l kd c lv ph n0 n1 n (addP mo zs) := by rw [hear_add]; exact hgE
      have HA : Hid (∀ W : World, Below wr.heap.size wr W → Calls Try.prog 27 #[.agg #[.int .i64 l, .int .i64 kd, .int .i64 f, .int .i64 s, .int .i64 c], .agg #[.int .i64 lv, .int .i64 ph, .int .i64 n0, .int .i64 n1], .slice (some ⟨b0, 0, none⟩) n q0] W fun e w' => e = .returned (.tuple #[.agg #[.int .i64 (g 0), .int .i64 (g 1), .int .i64 (g 2), .int .i64 (g 3), .int .i64 (g 4), .int .i64 (g 5), .int .i64 (g 6), .int .i64 (g 7), .int .i64 (g 8), .int .i64 (g 9), .int .i64 (g 10), .int .i64 (g 11), .int .i64 (g 12), .int .i64 (g 13)], .int .i64 0]) ∧ Below W.heap.size W w') := Lib.hid fun W hW => by rw [hgA]; exact Hear_ok l kd f s c lv ph n0 n1 b0 0 n q0 (addP mo zs) W k1 k2 k3 (allS_add k4) (hs0.keep hW hl0) (Nat.lt_of_lt_of_le hl0 hW.size)
      have HQ : Hid (∀ W : World, Below wr.heap.size wr W → Calls Try.prog 27 #[.agg #[.int .i64 l, .int .i64 kd, .int .i64 f, .int .i64 s, .int .i64 c], .agg #[.int .i64 lv, .int .i64 ph, .int .i64 n0, .int .i64 n1], .slice (some ⟨b1, 0, none⟩) n q1] W fun e w' => e = .returned (.tuple #[.agg #[.int .i64 (gq 0), .int .i64 (gq 1), .int .i64 (gq 2), .int .i64 (gq 3), .int .i64 (gq 4), .int .i64 (gq 5), .int .i64 (gq 6), .int .i64 (gq 7), .int .i64 (gq 8), .int .i64 (gq 9), .int .i64 (gq 10), .int .i64 (gq 11), .int .i64 (gq 12), .int .i64 (gq 13)], .int .i64 0]) ∧ Below W.heap.size W w') := Lib.hid fun W hW => by rw [hgq]; exact Hear_ok l kd f s c lv ph n0 n1 b1 0 n q1 (runP ru zs) W k1 k2 k3 (allS_run k4) (hs1.keep hW hl1) (Nat.lt_of_lt_of_le hl1 hW.size)
      have HO : Hid (∀ W : World, Below wr.heap.size wr W → Calls Try.prog 27 #[.agg #[.int .i64 l, .int .i64 kd, .int .i64 f, .int .i64 s, .int .i64 c], .agg #[.int .i64 lv, .int .i64 ph, .int .i64 n0, .int .i64 n1], .slice (some ⟨b2, 0, none⟩) n q2] W fun e w' => e = .returned (.tuple #[.agg #[.int .i64 (go 0), .int .i64 (go 1), .int .i64 (go 2), .int .i64 (go 3), .int .i64 (go 4), .int .i64 (go 5), .int .i64 (go 6), .int .i64 (go 7), .int .i64 (go 8), .int .i64 (go 9), .int .i64 (go 10), .int .i64 (go 11), .int .i64 (go 12), .int .i64 (go 13)], .int .i64 0]) ∧ Below W.heap.size W w') := Lib.hid fun W hW => by rw [hgo]; exact Hear_ok l kd f s c lv ph n0 n1 b2 0 n q2 (oppP zs) W k1 k2 k3 (allS_opp k4) (hs2.keep hW hl2) (Nat.lt_of_lt_of_le hl2 hW.size)
      have PR := Lib.hid (PV.out.keep hbw)
      have GR := Lib.hid (GV.out.keep hbw)
      have bq1 : Below wr.heap.size wr wr := Below.refl _ _
      clear TT hgA hgE hgq hgo hs0 hs1 hs2 k1 k2 k3 k4 hI HG
      obtain ⟨c0, c1, c2, c3, c4, c5, c6, c7, c8, _, _⟩ := PR.out
      go_wp2_with fail
      refine (HA.out _ bq1).mono ?_; rintro e' Y1 ⟨rfl, hy1⟩
      obtain ⟨Z1, hZ1⟩ : ∃ V, V = Y1.alloc (.cells #[.int .i64 (g 0), .int .i64 (g 1), .int .i64 (g 2), .int .i64 (g 3), .int .i64 (g 4), .int .i64 (g 5), .int .i64 (g 6), .int .i64 (g 7), .int .i64 (g 8), .int .i64 (g 9), .int .i64 (g 10), .int .i64 (g 11), .int .i64 (g 12), .int .i64 (g 13)] 30) := ⟨_, rfl⟩
      have bz1 : Below Y1.heap.size Y1 Z1 := by (rw [hZ1]; exact below_alloc _ _)
      have bYZ1 := hy1.trans (bz1.mono hy1.size)
      have E1 := Lib.hid (show EchB Z1 Y1.heap.size g by (rw [hZ1]; exact EchB.new Y1 g))
      have K1 := Lib.hid (show EchoG Z1 Y1.heap.size g by (rw [hZ1]; exact EchoG.new Y1 g 30))
      have l1 : Y1.heap.size < Z1.heap.size := by (rw [hZ1, World.size_alloc]; omega)
      have bw1 := bq1.trans (hy1.mono bq1.size)
      have bq2 := bq1.trans (bYZ1.mono bq1.size)
      clear c0 c1 c2 c3 c4 c5 c6 c7 c8
      obtain ⟨c0, c1, c2, c3, c4, c5, c6, c7, c8, tz1, _⟩ := PR.out.keep bw1
      have ty1 : w.heap.size < Y1.heap.size := by omega
      have tx1 : w.heap.size + 1 < Y1.heap.size := by omega
      go_wp2_with fail
      rw [← hZ1]
      clear hZ1 bz1
      refine (HQ.out _ bq2).mono ?_; rintro e' Y2 ⟨rfl, hy2⟩
      obtain ⟨Z2, hZ2⟩ : ∃ V, V = Y2.alloc (.cells #[.int .i64 (gq 0), .int .i64 (gq 1), .int .i64 (gq 2), .int .i64 (gq 3), .int .i64 (gq 4), .int .i64 (gq 5), .int .i64 (gq 6), .int .i64 (gq 7), .int .i64 (gq 8), .int .i64 (gq 9), .int .i64 (gq 10), .int .i64 (gq 11), .int .i64 (gq 12), .int .i64 (gq 13)] 30) := ⟨_, rfl⟩
      have bz2 : Below Y2.heap.size Y2 Z2 := by (rw [hZ2]; exact below_alloc _ _)
      have bYZ2 := hy2.trans (bz2.mono hy2.size)
      have E2 := Lib.hid (show EchB Z2 Y2.heap.size gq by (rw [hZ2]; exact EchB.new Y2 gq))
      have K2 := Lib.hid (show EchoG Z2 Y2.heap.size gq by (rw [hZ2]; exact EchoG.new Y2 gq 30))
      have l2 : Y2.heap.size < Z2.heap.size := by (rw [hZ2, World.size_alloc]; omega)
      have bw2 := bq2.trans (hy2.mono bq2.size)
      have bq3 := bq2.trans (bYZ2.mono bq2.size)
      clear c0 c1 c2 c3 c4 c5 c6 c7 c8
      obtain ⟨c0, c1, c2, c3, c4, c5, c6, c7, c8, tz2, _⟩ := PR.out.keep bw2
      have ty2 : w.heap.size < Y2.heap.size := by omega
      have tx2 : w.heap.size + 1 < Y2.heap.size := by omega
      go_wp2_with fail
      rw [← hZ2]
      clear hZ2 bz2
      refine (HO.out _ bq3).mono ?_; rintro e' Y3 ⟨rfl, hy3⟩
      obtain ⟨Z3, hZ3⟩ : ∃ V, V = Y3.alloc (.cells #[.int .i64 (go 0), .int .i64 (go 1), .int .i64 (go 2), .int .i64 (go 3), .int .i64 (go 4), .int .i64 (go 5), .int .i64 (go 6), .int .i64 (go 7), .int .i64 (go 8), .int .i64 (go 9), .int .i64 (go 10), .int .i64 (go 11), .int .i64 (go 12), .int .i64 (go 13)] 30) := ⟨_, rfl⟩
      have bz3 : Below Y3.heap.size Y3 Z3 := by (rw [hZ3]; exact below_alloc _ _)
      have bYZ3 := hy3.trans (bz3.mono hy3.size)
      have E3 := Lib.hid (show EchB Z3 Y3.heap.size go by (rw [hZ3]; exact EchB.new Y3 go))
      have K3 := Lib.hid (show EchoG Z3 Y3.heap.size go by (rw [hZ3]; exact EchoG.new Y3 go 30))
      have l3 : Y3.heap.size < Z3.heap.size := by (rw [hZ3, World.size_alloc]; omega)
      have bw3 := bq3.trans (hy3.mono bq3.size)
      have bq4 := bq3.trans (bYZ3.mono bq3.size)
      clear c0 c1 c2 c3 c4 c5 c6 c7 c8
      obtain ⟨c0, c1, c2, c3, c4, c5, c6, c7, c8, tz3, _⟩ := PR.out.keep bw3
      have ty3 : w.heap.size < Y3.heap.size := by omega
      have tx3 : w.heap.size + 1 < Y3.heap.size := by omega
      obtain ⟨de0, de1, de2, de3, de4, de5, de6, de7, de8, de9, de10, de11, de12, de13⟩ := GR.out.keep bw3
      obtain ⟨pe0, pe1, pe2, pe3, pe4, pe5, pe6, pe7, pe8, pe9, pe10, pe11, pe12, pe13⟩ := E1.out.keep (bYZ2.trans (hy3.mono bYZ2.size))
      obtain ⟨qe0, qe1, qe2, qe3, qe4, qe5, qe6, qe7, qe8, qe9, qe10, qe11, qe12, qe13⟩ := E2.out.keep hy3
      have q00 := HT.out.qs 0 (by decide) (by decide) (by decide) (by decide)
      have q12 := HT.out.qs 12 (by decide) (by decide) (by decide) (by decide)
      have q13 := HT.out.qs 13 (by decide) (by decide) (by decide) (by decide)
      have o00 := HT.out.os 0 (by decide) (by decide) (by decide) (by decide) (by decide) (by decide)
      rw [q00] at qe0
      rw [q12] at qe12
      rw [q13] at qe13
      have o01 : (go 0 != g 0) = false := by (rw [o00]; simp)
      have o02 : (go 0 == g 0) = true := by (rw [o00]; simp)
      have e28 : ∀ w : World, (Op.equalIn 9999 28 (.agg #[.int .i64 (g 3), .int .i64 (g 4), .int .i64 (g 5), .int .i64 (g 6)]) (.agg #[.int .i64 (g 3), .int .i64 (g 4), .int .i64 (g 5), .int .i64 (g 6)])).run Try.prog w = .ok true w := fun w => by (rw [eq28]; simp)
      have O00 := Lib.hid o00
      clear o00 q00 q12 q13
      have ly1 : X1.heap.size < Y3.heap.size := by (have := l1; have := l2; have := bYZ2.size; have := hy3.size; have := bw3.size; have := hbw.size; have := YY.out.2.2; omega)
      have ly2 : Y1.heap.size < Y3.heap.size := by (have := l1; have := bYZ2.size; have := hy3.size; omega)
      have ly3 : Y2.heap.size < Y3.heap.size := by (have := l2; have := hy3.size; omega)
      go_wp2_with fail
      rw [← hZ3]
      clear hZ3 bz3
      have TZ := Lib.hid (PR.out.keep bq4)
      have lxr : X1.heap.size < wr.heap.size := Nat.lt_of_lt_of_le YY.out.2.2 hbw.size
      have KX := Lib.hid ((KV.out.keep hbw YY.out.2.2).keep bq4 lxr)
      have KQ := Lib.hid (K2.out.keep bYZ3 l2)
      have lx3 : X1.heap.size < Z3.heap.size := by (have := l3; omega)
      have lq3 : Y2.heap.size < Z3.heap.size := by omega
      have lxq : X1.heap.size < Y2.heap.size := by (have := l1; have := bYZ2.size; have := hy2.size; have := hy1.size; have := bYZ1.size; omega)
      have nxq : X1.heap.size ≠ Y2.heap.size := by omega
      have nqx : Y2.heap.size ≠ X1.heap.size := by omega
      have nxo : X1.heap.size ≠ Y3.heap.size := by omega
      have nox : Y3.heap.size ≠ X1.heap.size := by omega
      have nqo : Y2.heap.size ≠ Y3.heap.size := by omega
      have noq : Y3.heap.size ≠ Y2.heap.size := by omega
      have n0x : w.heap.size ≤ X1.heap.size := Nat.le_of_lt YY.out.1
      have n0q : w.heap.size ≤ Y2.heap.size := by omega
      have n0o : w.heap.size ≤ Y3.heap.size := by omega
      have bZ := Lib.hid TZ.out.b
      have sameq := Lib.hid HT.out.qs
      have sameo := Lib.hid HT.out.os
      clear c0 c1 c2 c3 c4 c5 c6 c7 c8 de0 pe0 qe0 de1 pe1 qe1 de2 pe2 qe2 de3 pe3 qe3 de4 pe4 qe4 de5 pe5 qe5 de6 pe6 qe6 de7 pe7 qe7 de8 pe8 qe8 de9 pe9 qe9 de10 pe10 qe10 de11 pe11 qe11 de12 pe12 qe12 de13 pe13 qe13 e28 o01 o02 O00
      clear PR GR E1 E2 E3 K1 K2 HA HQ HO hbw bq1 bq2 bq3 bq4 bYZ1 bYZ2 bYZ3 hy1 hy2 hy3 bw1 bw2 bw3 l1 l2 ly1 ly2 ly3 lxr lxq tx1 tx2 tx3 ty1 ty2 ty3 tz1 tz2 tz3
      have e28z : ∀ w : World, (Op.equalIn 9999 28 (.agg #[.int .i64 0, .int .i64 0, .int .i64 0, .int .i64 0]) (.agg #[.int .i64 0, .int .i64 0, .int .i64 0, .int .i64 0])).run Try.prog w = .ok true w := fun w => by rw [eq28]; simp
      by_cases g3 : g 0 = 3
      · have e3 : (g 0 == 3) = true := beq_iff_eq.2 g3
        obtain ⟨⟨h3, h4⟩, ⟨h5, h6⟩, ⟨h12, h13⟩⟩ := HB3.out g3
        unfold Tame at h3 h4 h5 h6 h12 h13
        have ir : IntKind.i64.wrap ru = ru := IntWalk.i64_in _ (by omega)
        have w3 : IntKind.i64.wrap (g 3 + ru) = g 3 + ru := IntWalk.i64_in _ (by omega)
        have w4 : IntKind.i64.wrap (g 4 + ru) = g 4 + ru := IntWalk.i64_in _ (by omega)
        have w5 : IntKind.i64.wrap (g 5 + ru) = g 5 + ru := IntWalk.i64_in _ (by omega)
        have w6 : IntKind.i64.wrap (g 6 + ru) = g 6 + ru := IntWalk.i64_in _ (by omega)
        have v3 : IntKind.i64.wrap (-(g 3)) = -(g 3) := IntWalk.i64_in _ (by omega)
        have v4 : IntKind.i64.wrap (-(g 4)) = -(g 4) := IntWalk.i64_in _ (by omega)
        have v5 : IntKind.i64.wrap (-(g 5)) = -(g 5) := IntWalk.i64_in _ (by omega)
        have v6 : IntKind.i64.wrap (-(g 6)) = -(g 6) := IntWalk.i64_in _ (by omega)
        have v12 : IntKind.i64.wrap (-(g 12)) = -(g 12) := IntWalk.i64_in _ (by omega)
        have v13 : IntKind.i64.wrap (-(g 13)) = -(g 13) := IntWalk.i64_in _ (by omega)
        have EQ0 : Hid (∀ W : World, Calls Try.prog 42 #[.agg #[.int .i64 (gq 3), .int .i64 (gq 4)], .agg #[.int .i64 (g 3 + ru), .int .i64 (g 4 + ru)]] W fun e w' => e = .returned (.bool true) ∧ Below W.heap.size W w') := Lib.hid fun W => by (have h := HT.out.q0 g3; have hb := eq_tame h (by omega) (by omega); exact equal_true _ _ _ _ W hb.1 hb.2 h)
        have EO0 : Hid (∀ W : World, Calls Try.prog 42 #[.agg #[.int .i64 (go 3), .int .i64 (go 4)], .agg #[.int .i64 (-(g 4)), .int .i64 (-(g 3))]] W fun e w' => e = .returned (.bool true) ∧ Below W.heap.size W w') := Lib.hid fun W => by (have h := HT.out.o0 g3; have hb := eq_tame h (by omega) (by omega); exact equal_true _ _ _ _ W hb.1 hb.2 h)
        have EOT : Hid (∀ W : World, Calls Try.prog 42 #[.agg #[.int .i64 (go 12), .int .i64 (go 13)], .agg #[.int .i64 (-(g 13)), .int .i64 (-(g 12))]] W fun e w' => e = .returned (.bool true) ∧ Below W.heap.size W w') := Lib.hid fun W => by (have h := HT.out.ot g3; have hb := eq_tame h (by omega) (by omega); exact equal_true _ _ _ _ W hb.1 hb.2 h)
        clear h3 h4 h12 h13 g3
        go_loopw [23] (fun v23 wr => ∃ i : Int, 0 ≤ i ∧ i ≤ 2 ∧ v23 = .int .i64 i ∧ Below Z3.heap.size Z3 wr) (fun v23 _ => (2 - intOf v23).toNat)
        case atStart => exact ⟨0, by decide, by decide, rfl, Below.refl _ _⟩
        case round =>
          obtain ⟨i, hi0, hi2, rfl, hB⟩ := hrel
          have AX := Lib.hid (KX.out.keep hB lx3)
          have AQ := Lib.hid (KQ.out.keep hB lq3)
          have AO := Lib.hid (K3.out.keep hB l3)
          have kx0 := AX.out.c 0 (by decide)
          obtain rfl | rfl | rfl : i = 0 ∨ i = 1 ∨ i = 2 := by omega
          · skip
            have kx3 := AX.out.c 3 (by decide)
            have kx4 := AX.out.c 4 (by decide)
            obtain ⟨A, hA⟩ : ∃ A, A = wr.alloc (.cells #[.int .i64 (g 3), .int .i64 (g 4)] 25) := ⟨_, rfl⟩
            have bA : Below wr.heap.size wr A := by (rw [hA]; exact below_alloc _ _)
            have HS26 := Lib.hid (show (fun w' : World => w'.cell? ⟨Y2.heap.size, 3, none⟩ = some (.int .i64 (gq 3)) ∧ w'.cell? ⟨Y2.heap.size, 4, none⟩ = some (.int .i64 (gq 4)) ∧ w'.cell? ⟨Y3.heap.size, 3, none⟩ = some (.int .i64 (go 3)) ∧ w'.cell? ⟨Y3.heap.size, 4, none⟩ = some (.int .i64 (go 4)) ∧ w'.cell? ⟨wr.heap.size, 0, none⟩ = some (.int .i64 (g 3)) ∧ w'.cell? ⟨wr.heap.size, 1, none⟩ = some (.int .i64 (g 4)) ∧ Below A.drew.heap.size A.drew w') A.drew from ⟨(show A.cell? _ = _ from keepW bA (AQ.out.c 3 (by decide))), (show A.cell? _ = _ from keepW bA (AQ.out.c 4 (by decide))), (show A.cell? _ = _ from keepW bA (AO.out.c 3 (by decide))), (show A.cell? _ = _ from keepW bA (AO.out.c 4 (by decide))), (show A.cell? _ = _ by rw [hA]; exact alloc_new rfl rfl), (show A.cell? _ = _ by rw [hA]; exact alloc_new rfl rfl), Below.refl _ _⟩)
            have hBA := Lib.hid (hB.trans (bA.drew.mono hB.size))
            clear bA hB
            go_wp2_with fail
            rw [← hA]
            clear hA
            refine wp_region_held_tail (S := (fun w' : World => w'.cell? ⟨Y2.heap.size, 3, none⟩ = some (.int .i64 (gq 3)) ∧ w'.cell? ⟨Y2.heap.size, 4, none⟩ = some (.int .i64 (gq 4)) ∧ w'.cell? ⟨Y3.heap.size, 3, none⟩ = some (.int .i64 (go 3)) ∧ w'.cell? ⟨Y3.heap.size, 4, none⟩ = some (.int .i64 (go 4)) ∧ w'.cell? ⟨wr.heap.size, 0, none⟩ = some (.int .i64 (g 3)) ∧ w'.cell? ⟨wr.heap.size, 1, none⟩ = some (.int .i64 (g 4)) ∧ Below A.drew.heap.size A.drew w')) 31 (by kernel_rfl) (by kernel_rfl) HS26.out (fun hHeld => ?_)
            clear HS26
            refine wpAnyH_take (i := 0) (v := ?v0_49) rfl (by kernel_rfl) (by kernel_rfl) (by kernel_rfl) (fun _ _ _ h => h) (Or.inl ⟨by rfl, ?hy0_49⟩) (by assumption) ?rest0_49
            case hy0_49 => (intro w hSw; (try dsimp only at hSw); go_simp; (try with_reducible rfl))
            try simp only [Act.put, List.getElem_toArray, List.getElem_cons_zero, List.getElem_cons_succ, List.setIfInBounds_toArray, List.set_cons_zero, List.set_cons_succ]
            refine wpAnyH_take (i := 1) (v := ?v1_50) rfl (by kernel_rfl) (by kernel_rfl) (by kernel_rfl) (fun _ _ _ h => h) (Or.inl ⟨by rfl, ?hy1_50⟩) (by assumption) ?rest1_50
            case hy1_50 => (intro w hSw; (try dsimp only at hSw); go_simp; (try with_reducible rfl))
            try simp only [Act.put, List.getElem_toArray, List.getElem_cons_zero, List.getElem_cons_succ, List.setIfInBounds_toArray, List.set_cons_zero, List.set_cons_succ]
            refine wpAnyH_take (i := 2) (v := ?v2_51) rfl (by kernel_rfl) (by kernel_rfl) (by kernel_rfl) (fun _ _ _ h => h) (Or.inl ⟨by rfl, ?hy2_51⟩) (by assumption) ?rest2_51
            case hy2_51 => (intro w hSw; (try dsimp only at hSw); go_simp; (try with_reducible rfl))
            try simp only [Act.put, List.getElem_toArray, List.getElem_cons_zero, List.getElem_cons_succ, List.setIfInBounds_toArray, List.set_cons_zero, List.set_cons_succ]
            refine wpAnyH_take (i := 3) (v := ?v3_52) rfl (by kernel_rfl) (by kernel_rfl) (by kernel_rfl) (fun _ _ _ h => h) (Or.inl ⟨by rfl, ?hy3_52⟩) (by assumption) ?rest3_52
            case hy3_52 => (intro w hSw; (try dsimp only at hSw); go_simp; (try with_reducible rfl))
            try simp only [Act.put, List.getElem_toArray, List.getElem_cons_zero, List.getElem_cons_succ, List.setIfInBounds_toArray, List.set_cons_zero, List.set_cons_succ]
            refine wpAnyH_take (i := 4) (v := ?v4_53) rfl (by kernel_rfl) (by kernel_rfl) (by kernel_rfl) (fun _ _ _ h => h) (Or.inl ⟨by rfl, ?hy4_53⟩) (by assumption) ?rest4_53
            case hy4_53 => (intro w hSw; (try dsimp only at hSw); go_simp; (try with_reducible rfl))
            try simp only [Act.put, List.getElem_toArray, List.getElem_cons_zero, List.getElem_cons_succ, List.setIfInBounds_toArray, List.set_cons_zero, List.set_cons_succ]
            refine wpAnyH_take (i := 5) (v := ?v5_54) rfl (by kernel_rfl) (by kernel_rfl) (by kernel_rfl) (fun _ _ _ h => h) (Or.inl ⟨by rfl, ?hy5_54⟩) (by assumption) ?rest5_54
            case hy5_54 => (intro w hSw; (try dsimp only at hSw); go_simp; (try with_reducible rfl))
            try simp only [Act.put, List.getElem_toArray, List.getElem_cons_zero, List.getElem_cons_succ, List.setIfInBounds_toArray, List.set_cons_zero, List.set_cons_succ]
            refine wpAnyH_take (i := 6) (v := ?v6_55) rfl (by kernel_rfl) (by kernel_rfl) (by kernel_rfl) (fun _ _ _ h => h) (Or.inl ⟨by rfl, ?hy6_55⟩) (by assumption) ?rest6_55
            case hy6_55 => (intro w hSw; (try dsimp only at hSw); go_simp; (try with_reducible rfl))
            try simp only [Act.put, List.getElem_toArray, List.getElem_cons_zero, List.getElem_cons_succ, List.setIfInBounds_toArray, List.set_cons_zero, List.set_cons_succ]
            refine wpAnyH_take (i := 7) (v := ?v7_56) rfl (by kernel_rfl) (by kernel_rfl) (by kernel_rfl) (fun _ _ _ h => h) (Or.inl ⟨by rfl, ?hy7_56⟩) (by assumption) ?rest7_56
            case hy7_56 => (intro w hSw; (try dsimp only at hSw); go_simp; (try with_reducible rfl))
            try simp only [Act.put, List.getElem_toArray, List.getElem_cons_zero, List.getElem_cons_succ, List.setIfInBounds_toArray, List.set_cons_zero, List.set_cons_succ]
            refine wpAnyH_take (i := 8) (v := ?v8_57) rfl (by kernel_rfl) (by kernel_rfl) (by kernel_rfl) (fun _ _ _ h => h) (Or.inl ⟨by rfl, ?hy8_57⟩) (by assumption) ?rest8_57
            case hy8_57 => (intro w hSw; (try dsimp only at hSw); go_simp; (try with_reducible rfl))
            try simp only [Act.put, List.getElem_toArray, List.getElem_cons_zero, List.getElem_cons_succ, List.setIfInBounds_toArray, List.set_cons_zero, List.set_cons_succ]
            refine wpAnyH_take (i := 9) (v := ?v9_58) rfl (by kernel_rfl) (by kernel_rfl) (by kernel_rfl) (fun _ _ _ h => h) (Or.inl ⟨by rfl, ?hy9_58⟩) (by assumption) ?rest9_58
            case hy9_58 => (intro w hSw; (try dsimp only at hSw); go_simp; (try with_reducible rfl))
            try simp only [Act.put, List.getElem_toArray, List.getElem_cons_zero, List.getElem_cons_succ, List.setIfInBounds_toArray, List.set_cons_zero, List.set_cons_succ]
            refine wpAnyH_take (i := 10) (v := ?v10_59) rfl (by kernel_rfl) (by kernel_rfl) (by kernel_rfl) (fun _ _ _ h => h) (Or.inl ⟨by rfl, ?hy10_59⟩) (by assumption) ?rest10_59
            case hy10_59 => (intro w hSw; (try dsimp only at hSw); go_simp; (try with_reducible rfl))
            try simp only [Act.put, List.getElem_toArray, List.getElem_cons_zero, List.getElem_cons_succ, List.setIfInBounds_toArray, List.set_cons_zero, List.set_cons_succ]
            refine wpAnyH_take (i := 11) (v := ?v11_60) rfl (by kernel_rfl) (by kernel_rfl) (by kernel_rfl) (fun _ _ _ h => h) (Or.inl ⟨by rfl, ?hy11_60⟩) (by assumption) ?rest11_60
            case hy11_60 => (intro w hSw; (try dsimp only at hSw); go_simp; (try with_reducible rfl))
            try simp only [Act.put, List.getElem_toArray, List.getElem_cons_zero, List.getElem_cons_succ, List.setIfInBounds_toArray, List.set_cons_zero, List.set_cons_succ]
            refine wpAnyH_take (i := 12) (v := ?v12_61) rfl (by kernel_rfl) (by kernel_rfl) (by kernel_rfl) (fun _ _ _ h => h) (Or.inl ⟨by rfl, ?hy12_61⟩) (by assumption) ?rest12_61
            case hy12_61 => (intro w hSw; (try dsimp only at hSw); go_simp; (try with_reducible rfl))
            try simp only [Act.put, List.getElem_toArray, List.getElem_cons_zero, List.getElem_cons_succ, List.setIfInBounds_toArray, List.set_cons_zero, List.set_cons_succ]
            refine wpAnyH_take (i := 13) (v := ?v13_62) rfl (by kernel_rfl) (by kernel_rfl) (by kernel_rfl) (fun _ _ _ h => h) (Or.inl ⟨by rfl, ?hy13_62⟩) (by assumption) ?rest13_62
            case hy13_62 => (intro w hSw; (try dsimp only at hSw); go_simp; (try with_reducible rfl))
            try simp only [Act.put, List.getElem_toArray, List.getElem_cons_zero, List.getElem_cons_succ, List.setIfInBounds_toArray, List.set_cons_zero, List.set_cons_succ]
            refine wpAnyH_take (i := 14) (v := ?v14_63) rfl (by kernel_rfl) (by kernel_rfl) (by kernel_rfl) (fun _ _ _ h => h) (Or.inl ⟨by rfl, ?hy14_63⟩) (by assumption) ?rest14_63
            case hy14_63 => (intro w hSw; (try dsimp only at hSw); go_simp; (try with_reducible rfl))
            try simp only [Act.put, List.getElem_toArray, List.getElem_cons_zero, List.getElem_cons_succ, List.setIfInBounds_toArray, List.set_cons_zero, List.set_cons_succ]
            refine wpAnyH_ready (rs := [15]) (by kernel_rfl) (by simp) ?_
            refine AllReadyH.cons rfl (fun K hK => ?_) AllReadyH.nil
            go_simp
            refine (EQ0.out _).mono ?_; rintro e' w1 ⟨rfl, hb_w1⟩
            refine hK.out _ _ (⟨keepW hb_w1 hHeld.1, keepW hb_w1 hHeld.2.1, keepW hb_w1 hHeld.2.2.1, keepW hb_w1 hHeld.2.2.2.1, keepW hb_w1 hHeld.2.2.2.2.1, keepW hb_w1 hHeld.2.2.2.2.2.1, hHeld.2.2.2.2.2.2.trans (hb_w1.mono hHeld.2.2.2.2.2.2.size)⟩) (fun hHeld => ?_)
            clear hK K
            try simp only [Act.put, List.getElem_toArray, List.getElem_cons_zero, List.getElem_cons_succ, List.setIfInBounds_toArray, List.set_cons_zero, List.set_cons_succ]
            refine wpAnyH_take (i := 16) (v := ?v16_64) rfl (by kernel_rfl) (by kernel_rfl) (by kernel_rfl) (fun _ _ _ h => h) (Or.inl ⟨by rfl, ?hy16_64⟩) (by assumption) ?rest16_64
            case hy16_64 => (intro w hSw; (try dsimp only at hSw); go_simp; (try with_reducible rfl))
            try simp only [Act.put, List.getElem_toArray, List.getElem_cons_zero, List.getElem_cons_succ, List.setIfInBounds_toArray, List.set_cons_zero, List.set_cons_succ]
            refine wpAnyH_take (i := 17) (v := ?v17_65) rfl (by kernel_rfl) (by kernel_rfl) (by kernel_rfl) (fun _ _ _ h => h) (Or.inl ⟨by rfl, ?hy17_65⟩) (by assumption) ?rest17_65
            case hy17_65 => (intro w hSw; (try dsimp only at hSw); go_simp; (try with_reducible rfl))
            try simp only [Act.put, List.getElem_toArray, List.getElem_cons_zero, List.getElem_cons_succ, List.setIfInBounds_toArray, List.set_cons_zero, List.set_cons_succ]
            refine wpAnyH_take (i := 18) (v := ?v18_66) rfl (by kernel_rfl) (by kernel_rfl) (by kernel_rfl) (fun _ _ _ h => h) (Or.inl ⟨by rfl, ?hy18_66⟩) (by assumption) ?rest18_66
            case hy18_66 => (intro w hSw; (try dsimp only at hSw); go_simp; (try with_reducible rfl))
            try simp only [Act.put, List.getElem_toArray, List.getElem_cons_zero, List.getElem_cons_succ, List.setIfInBounds_toArray, List.set_cons_zero, List.set_cons_succ]
            refine wpAnyH_take (i := 19) (v := ?v19_67) rfl (by kernel_rfl) (by kernel_rfl) (by kernel_rfl) (fun _ _ _ h => h) (Or.inl ⟨by rfl, ?hy19_67⟩) (by assumption) ?rest19_67
            case hy19_67 => (intro w hSw; (try dsimp only at hSw); go_simp; (try with_reducible rfl))
            try simp only [Act.put, List.getElem_toArray, List.getElem_cons_zero, List.getElem_cons_succ, List.setIfInBounds_toArray, List.set_cons_zero, List.set_cons_succ]
            refine wpAnyH_take (i := 20) (v := ?v20_68) rfl (by kernel_rfl) (by kernel_rfl) (by kernel_rfl) (fun _ _ _ h => h) (Or.inl ⟨by rfl, ?hy20_68⟩) (by assumption) ?rest20_68
            case hy20_68 => (intro w hSw; (try dsimp only at hSw); go_simp; (try with_reducible rfl))
            try simp only [Act.put, List.getElem_toArray, List.getElem_cons_zero, List.getElem_cons_succ, List.setIfInBounds_toArray, List.set_cons_zero, List.set_cons_succ]
            refine wpAnyH_take (i := 21) (v := ?v21_69) rfl (by kernel_rfl) (by kernel_rfl) (by kernel_rfl) (fun _ _ _ h => h) (Or.inl ⟨by rfl, ?hy21_69⟩) (by assumption) ?rest21_69
            case hy21_69 => (intro w hSw; (try dsimp only at hSw); go_simp; (try with_reducible rfl))
            try simp only [Act.put, List.getElem_toArray, List.getElem_cons_zero, List.getElem_cons_succ, List.setIfInBounds_toArray, List.set_cons_zero, List.set_cons_succ]
            refine wpAnyH_take (i := 22) (v := ?v22_70) rfl (by kernel_rfl) (by kernel_rfl) (by kernel_rfl) (fun _ _ _ h => h) (Or.inl ⟨by rfl, ?hy22_70⟩) (by assumption) ?rest22_70
            case hy22_70 => (intro w hSw; (try dsimp only at hSw); go_simp; (try with_reducible rfl))
            try simp only [Act.put, List.getElem_toArray, List.getElem_cons_zero, List.getElem_cons_succ, List.setIfInBounds_toArray, List.set_cons_zero, List.set_cons_succ]
            refine wpAnyH_take (i := 23) (v := ?v23_71) rfl (by kernel_rfl) (by kernel_rfl) (by kernel_rfl) (fun _ _ _ h => h) (Or.inl ⟨by rfl, ?hy23_71⟩) (by assumption) ?rest23_71
            case hy23_71 => (intro w hSw; (try dsimp only at hSw); go_simp; (try with_reducible rfl))
            try simp only [Act.put, List.getElem_toArray, List.getElem_cons_zero, List.getElem_cons_succ, List.setIfInBounds_toArray, List.set_cons_zero, List.set_cons_succ]
            refine wpAnyH_take (i := 24) (v := ?v24_72) rfl (by kernel_rfl) (by kernel_rfl) (by kernel_rfl) (fun _ _ _ h => h) (Or.inl ⟨by rfl, ?hy24_72⟩) (by assumption) ?rest24_72
            case hy24_72 => (intro w hSw; (try dsimp only at hSw); go_simp; (try with_reducible rfl))
            try simp only [Act.put, List.getElem_toArray, List.getElem_cons_zero, List.getElem_cons_succ, List.setIfInBounds_toArray, List.set_cons_zero, List.set_cons_succ]
            refine wpAnyH_take (i := 25) (v := ?v25_73) rfl (by kernel_rfl) (by kernel_rfl) (by kernel_rfl) (fun _ _ _ h => h) (Or.inl ⟨by rfl, ?hy25_73⟩) (by assumption) ?rest25_73
            case hy25_73 => (intro w hSw; (try dsimp only at hSw); go_simp; (try with_reducible rfl))
            try simp only [Act.put, List.getElem_toArray, List.getElem_cons_zero, List.getElem_cons_succ, List.setIfInBounds_toArray, List.set_cons_zero, List.set_cons_succ]
            refine wpAnyH_take (i := 26) (v := ?v26_74) rfl (by kernel_rfl) (by kernel_rfl) (by kernel_rfl) (fun _ _ _ h => h) (Or.inl ⟨by rfl, ?hy26_74⟩) (by assumption) ?rest26_74
            case hy26_74 => (intro w hSw; (try dsimp only at hSw); go_simp; (try with_reducible rfl))
            try simp only [Act.put, List.getElem_toArray, List.getElem_cons_zero, List.getElem_cons_succ, List.setIfInBounds_toArray, List.set_cons_zero, List.set_cons_succ]
            refine wpAnyH_take (i := 27) (v := ?v27_75) rfl (by kernel_rfl) (by kernel_rfl) (by kernel_rfl) (fun _ _ _ h => h) (Or.inl ⟨by rfl, ?hy27_75⟩) (by assumption) ?rest27_75
            case hy27_75 => (intro w hSw; (try dsimp only at hSw); go_simp; (try with_reducible rfl))
            try simp only [Act.put, List.getElem_toArray, List.getElem_cons_zero, List.getElem_cons_succ, List.setIfInBounds_toArray, List.set_cons_zero, List.set_cons_succ]
            refine wpAnyH_take (i := 28) (v := ?v28_76) rfl (by kernel_rfl) (by kernel_rfl) (by kernel_rfl) (fun _ _ _ h => h) (Or.inl ⟨by rfl, ?hy28_76⟩) (by assumption) ?rest28_76
            case hy28_76 => (intro w hSw; (try dsimp only at hSw); go_simp; (try with_reducible rfl))
            try simp only [Act.put, List.getElem_toArray, List.getElem_cons_zero, List.getElem_cons_succ, List.setIfInBounds_toArray, List.set_cons_zero, List.set_cons_succ]
            refine wpAnyH_ready (rs := [29]) (by kernel_rfl) (by simp) ?_
            refine AllReadyH.cons rfl (fun K hK => ?_) AllReadyH.nil
            go_simp
            refine (EO0.out _).mono ?_; rintro e' w2 ⟨rfl, hb_w2⟩
            refine hK.out _ _ (⟨keepW hb_w2 hHeld.1, keepW hb_w2 hHeld.2.1, keepW hb_w2 hHeld.2.2.1, keepW hb_w2 hHeld.2.2.2.1, keepW hb_w2 hHeld.2.2.2.2.1, keepW hb_w2 hHeld.2.2.2.2.2.1, hHeld.2.2.2.2.2.2.trans (hb_w2.mono hHeld.2.2.2.2.2.2.size)⟩) (fun hHeld => ?_)
            clear hK K
            try simp only [Act.put, List.getElem_toArray, List.getElem_cons_zero, List.getElem_cons_succ, List.setIfInBounds_toArray, List.set_cons_zero, List.set_cons_succ]
            refine wpAnyH_take (i := 30) (v := ?v30_77) rfl (by kernel_rfl) (by kernel_rfl) (by kernel_rfl) (fun _ _ _ h => h) (Or.inl ⟨by rfl, ?hy30_77⟩) (by assumption) ?rest30_77
            case hy30_77 => (intro w hSw; (try dsimp only at hSw); go_simp; (try with_reducible rfl))
            try simp only [Act.put, List.getElem_toArray, List.getElem_cons_zero, List.getElem_cons_succ, List.setIfInBounds_toArray, List.set_cons_zero, List.set_cons_succ]
            refine wpAnyH_done (by kernel_rfl) ?_ _
            change wpList _ _ _ _ _ _
            simp only [List.drop_succ_cons, List.drop_zero]
            have bR := Lib.hid (hBA.out.trans (hHeld.2.2.2.2.2.2.mono hBA.out.size))
            clear hHeld hBA
            go_wp2_with fail
            go_roundw
            case rel => exact ⟨1, by omega, by omega, by go_num, bR.out⟩
            case measure => simp [intOf]
          · have lr := hB.size
            have yx : X1.heap.size < wr.heap.size := by omega
            have yq : Y2.heap.size < wr.heap.size := by omega
            have yo : Y3.heap.size < wr.heap.size := by omega
            have yw : w.heap.size < wr.heap.size := by omega
            have k5 := AX.out.c 5 (by decide)
            have k6 := AX.out.c 6 (by decide)
            obtain ⟨t0, t1, t2, t3, t4, _⟩ := TZ.out.keep hB
            by_cases hk1 : kd = 1
            · have ek : (kd == 1) = true := beq_iff_eq.2 hk1
              obtain ⟨a5, a6⟩ := HT.out.q1 G3.out hk1
              obtain ⟨b5, b6⟩ := HT.out.o1 G3.out hk1
              have q5 := AQ.out.c 5 (by decide)
              have q6 := AQ.out.c 6 (by decide)
              have o5 := AO.out.c 5 (by decide)
              have o6 := AO.out.c 6 (by decide)
              rw [a5] at q5
              rw [a6] at q6
              rw [b5] at o5
              rw [b6] at o6
              have hBA := Lib.hid (hB.trans ((below_alloc wr (.cells #[.int .i64 (g 5), .int .i64 (g 6)] 25)).mono hB.size))
              clear a5 a6 b5 b6 hk1 hB
              go_wp2_with fail
              go_roundw
              case rel => exact ⟨2, by omega, by omega, by go_num, hBA.out⟩
              case measure => simp [intOf]
            · exact absurd HKV.out hk1
          · skip
            have o12 := AO.out.c 12 (by decide)
            have o13 := AO.out.c 13 (by decide)
            have x12 := AX.out.c 12 (by decide)
            have x13 := AX.out.c 13 (by decide)
            have AX0 := AX
            have AQ0 := AQ
            have AO0 := AO
            go_wp2_with fail
            clear kx0 o12 o13 x12 x13 AX AQ AO
            refine (EOT.out _).mono ?_; rintro e' X4 ⟨rfl, hb4⟩
            have lr := hB.size
            have AX := Lib.hid (AX0.out.keep hb4 (by omega))
            have AQ := Lib.hid (AQ0.out.keep hb4 (by omega))
            have AO := Lib.hid (AO0.out.keep hb4 (by omega))
            have bW := (bZ.out.trans (hB.mono bZ.out.size)).trans (hb4.mono (Nat.le_trans bZ.out.size lr))
            clear AX0 AQ0 AO0 hB lr hb4
            have Tx := Lib.hid ((((((((((((((((((AX.out.far (d := Y2.heap.size) (k := 3) (u := .int .i64 0) nqx).far (d := Y2.heap.size) (k := 4) (u := .int .i64 0) nqx).far (d := Y2.heap.size) (k := 5) (u := .int .i64 0) nqx).far (d := Y2.heap.size) (k := 6) (u := .int .i64 0) nqx).far (d := Y3.heap.size) (k := 3) (u := .int .i64 0) nox).far (d := Y3.heap.size) (k := 4) (u := .int .i64 0) nox).far (d := Y3.heap.size) (k := 5) (u := .int .i64 0) nox).far (d := Y3.heap.size) (k := 6) (u := .int .i64 0) nox).set (k := 3) (v := 0)).set (k := 4) (v := 0)).set (k := 5) (v := 0)).set (k := 6) (v := 0)).far (d := Y3.heap.size) (k := 12) (u := .int .i64 0) nox).far (d := Y3.heap.size) (k := 13) (u := .int .i64 0) nox).far (d := Y2.heap.size) (k := 12) (u := .int .i64 0) nqx).far (d := Y2.heap.size) (k := 13) (u := .int .i64 0) nqx).set (k := 12) (v := 0)).set (k := 13) (v := 0))
            have Tq := Lib.hid ((((((((((((((((((AQ.out.set (k := 3) (v := 0)).set (k := 4) (v := 0)).set (k := 5) (v := 0)).set (k := 6) (v := 0)).far (d := Y3.heap.size) (k := 3) (u := .int .i64 0) noq).far (d := Y3.heap.size) (k := 4) (u := .int .i64 0) noq).far (d := Y3.heap.size) (k := 5) (u := .int .i64 0) noq).far (d := Y3.heap.size) (k := 6) (u := .int .i64 0) noq).far (d := X1.heap.size) (k := 3) (u := .int .i64 0) nxq).far (d := X1.heap.size) (k := 4) (u := .int .i64 0) nxq).far (d := X1.heap.size) (k := 5) (u := .int .i64 0) nxq).far (d := X1.heap.size) (k := 6) (u := .int .i64 0) nxq).far (d := Y3.heap.size) (k := 12) (u := .int .i64 0) noq).far (d := Y3.heap.size) (k := 13) (u := .int .i64 0) noq).set (k := 12) (v := 0)).set (k := 13) (v := 0)).far (d := X1.heap.size) (k := 12) (u := .int .i64 0) nxq).far (d := X1.heap.size) (k := 13) (u := .int .i64 0) nxq)
            have To := Lib.hid ((((((((((((((((((AO.out.far (d := Y2.heap.size) (k := 3) (u := .int .i64 0) nqo).far (d := Y2.heap.size) (k := 4) (u := .int .i64 0) nqo).far (d := Y2.heap.size) (k := 5) (u := .int .i64 0) nqo).far (d := Y2.heap.size) (k := 6) (u := .int .i64 0) nqo).set (k := 3) (v := 0)).set (k := 4) (v := 0)).set (k := 5) (v := 0)).set (k := 6) (v := 0)).far (d := X1.heap.size) (k := 3) (u := .int .i64 0) nxo).far (d := X1.heap.size) (k := 4) (u := .int .i64 0) nxo).far (d := X1.heap.size) (k := 5) (u := .int .i64 0) nxo).far (d := X1.heap.size) (k := 6) (u := .int .i64 0) nxo).set (k := 12) (v := 0)).set (k := 13) (v := 0)).far (d := Y2.heap.size) (k := 12) (u := .int .i64 0) nqo).far (d := Y2.heap.size) (k := 13) (u := .int .i64 0) nqo).far (d := X1.heap.size) (k := 12) (u := .int .i64 0) nxo).far (d := X1.heap.size) (k := 13) (u := .int .i64 0) nxo)
            have bT := Lib.hid ((((((((((((((((((bW.setCell (p := ⟨Y2.heap.size, 3, none⟩) n0q (.int .i64 0)).setCell (p := ⟨Y2.heap.size, 4, none⟩) n0q (.int .i64 0)).setCell (p := ⟨Y2.heap.size, 5, none⟩) n0q (.int .i64 0)).setCell (p := ⟨Y2.heap.size, 6, none⟩) n0q (.int .i64 0)).setCell (p := ⟨Y3.heap.size, 3, none⟩) n0o (.int .i64 0)).setCell (p := ⟨Y3.heap.size, 4, none⟩) n0o (.int .i64 0)).setCell (p := ⟨Y3.heap.size, 5, none⟩) n0o (.int .i64 0)).setCell (p := ⟨Y3.heap.size, 6, none⟩) n0o (.int .i64 0)).setCell (p := ⟨X1.heap.size, 3, none⟩) n0x (.int .i64 0)).setCell (p := ⟨X1.heap.size, 4, none⟩) n0x (.int .i64 0)).setCell (p := ⟨X1.heap.size, 5, none⟩) n0x (.int .i64 0)).setCell (p := ⟨X1.heap.size, 6, none⟩) n0x (.int .i64 0)).setCell (p := ⟨Y3.heap.size, 12, none⟩) n0o (.int .i64 0)).setCell (p := ⟨Y3.heap.size, 13, none⟩) n0o (.int .i64 0)).setCell (p := ⟨Y2.heap.size, 12, none⟩) n0q (.int .i64 0)).setCell (p := ⟨Y2.heap.size, 13, none⟩) n0q (.int .i64 0)).setCell (p := ⟨X1.heap.size, 12, none⟩) n0x (.int .i64 0)).setCell (p := ⟨X1.heap.size, 13, none⟩) n0x (.int .i64 0))
            have aq3 := AQ.out.c 3 (by decide)
            have fq3 := AQ.out.f 3 (by decide)
            have aq4 := AQ.out.c 4 (by decide)
            have fq4 := AQ.out.f 4 (by decide)
            have aq5 := AQ.out.c 5 (by decide)
            have fq5 := AQ.out.f 5 (by decide)
            have aq6 := AQ.out.c 6 (by decide)
            have fq6 := AQ.out.f 6 (by decide)
            have aq12 := AQ.out.c 12 (by decide)
            have fq12 := AQ.out.f 12 (by decide)
            have aq13 := AQ.out.c 13 (by decide)
            have fq13 := AQ.out.f 13 (by decide)
            have ao3 := AO.out.c 3 (by decide)
            have fo3 := AO.out.f 3 (by decide)
            have ao4 := AO.out.c 4 (by decide)
            have fo4 := AO.out.f 4 (by decide)
            have ao5 := AO.out.c 5 (by decide)
            have fo5 := AO.out.f 5 (by decide)
            have ao6 := AO.out.c 6 (by decide)
            have fo6 := AO.out.f 6 (by decide)
            have ao12 := AO.out.c 12 (by decide)
            have fo12 := AO.out.f 12 (by decide)
            have ao13 := AO.out.c 13 (by decide)
            have fo13 := AO.out.f 13 (by decide)
            have ax3 := AX.out.c 3 (by decide)
            have fx3 := AX.out.f 3 (by decide)
            have ax4 := AX.out.c 4 (by decide)
            have fx4 := AX.out.f 4 (by decide)
            have ax5 := AX.out.c 5 (by decide)
            have fx5 := AX.out.f 5 (by decide)
            have ax6 := AX.out.c 6 (by decide)
            have fx6 := AX.out.f 6 (by decide)
            have ax12 := AX.out.c 12 (by decide)
            have fx12 := AX.out.f 12 (by decide)
            have ax13 := AX.out.c 13 (by decide)
            have fx13 := AX.out.f 13 (by decide)
            have tq0 : World.cell? _ ⟨Y2.heap.size, 0, none⟩ = some (.int .i64 (g 0)) := (Tq.out.c 0 (by decide)).trans (by rw [← sameq.out 0 (by decide) (by decide) (by decide) (by decide)]; rfl)
            have tq1 : World.cell? _ ⟨Y2.heap.size, 1, none⟩ = some (.int .i64 (g 1)) := (Tq.out.c 1 (by decide)).trans (by rw [← sameq.out 1 (by decide) (by decide) (by decide) (by decide)]; rfl)
            have tq2 : World.cell? _ ⟨Y2.heap.size, 2, none⟩ = some (.int .i64 (g 2)) := (Tq.out.c 2 (by decide)).trans (by rw [← sameq.out 2 (by decide) (by decide) (by decide) (by decide)]; rfl)
            have tq3 : World.cell? _ ⟨Y2.heap.size, 3, none⟩ = some (.int .i64 0) := Tq.out.c 3 (by decide)
            have tq4 : World.cell? _ ⟨Y2.heap.size, 4, none⟩ = some (.int .i64 0) := Tq.out.c 4 (by decide)
            have tq5 : World.cell? _ ⟨Y2.heap.size, 5, none⟩ = some (.int .i64 0) := Tq.out.c 5 (by decide)
            have tq6 : World.cell? _ ⟨Y2.heap.size, 6, none⟩ = some (.int .i64 0) := Tq.out.c 6 (by decide)
            have tq7 : World.cell? _ ⟨Y2.heap.size, 7, none⟩ = some (.int .i64 (g 7)) := (Tq.out.c 7 (by decide)).trans (by rw [← sameq.out 7 (by decide) (by decide) (by decide) (by decide)]; rfl)
            have tq8 : World.cell? _ ⟨Y2.heap.size, 8, none⟩ = some (.int .i64 (g 8)) := (Tq.out.c 8 (by decide)).trans (by rw [← sameq.out 8 (by decide) (by decide) (by decide) (by decide)]; rfl)
            have tq9 : World.cell? _ ⟨Y2.heap.size, 9, none⟩ = some (.int .i64 (g 9)) := (Tq.out.c 9 (by decide)).trans (by rw [← sameq.out 9 (by decide) (by decide) (by decide) (by decide)]; rfl)
            have tq10 : World.cell? _ ⟨Y2.heap.size, 10, none⟩ = some (.int .i64 (g 10)) := (Tq.out.c 10 (by decide)).trans (by rw [← sameq.out 10 (by decide) (by decide) (by decide) (by decide)]; rfl)
            have tq11 : World.cell? _ ⟨Y2.heap.size, 11, none⟩ = some (.int .i64 (g 11)) := (Tq.out.c 11 (by decide)).trans (by rw [← sameq.out 11 (by decide) (by decide) (by decide) (by decide)]; rfl)
            have tq12 : World.cell? _ ⟨Y2.heap.size, 12, none⟩ = some (.int .i64 0) := Tq.out.c 12 (by decide)
            have tq13 : World.cell? _ ⟨Y2.heap.size, 13, none⟩ = some (.int .i64 0) := Tq.out.c 13 (by decide)
            have to0 : World.cell? _ ⟨Y3.heap.size, 0, none⟩ = some (.int .i64 (g 0)) := (To.out.c 0 (by decide)).trans (by rw [← sameo.out 0 (by decide) (by decide) (by decide) (by decide) (by decide) (by decide)]; rfl)
            have to1 : World.cell? _ ⟨Y3.heap.size, 1, none⟩ = some (.int .i64 (g 1)) := (To.out.c 1 (by decide)).trans (by rw [← sameo.out 1 (by decide) (by decide) (by decide) (by decide) (by decide) (by decide)]; rfl)
            have to2 : World.cell? _ ⟨Y3.heap.size, 2, none⟩ = some (.int .i64 (g 2)) := (To.out.c 2 (by decide)).trans (by rw [← sameo.out 2 (by decide) (by decide) (by decide) (by decide) (by decide) (by decide)]; rfl)
            have to3 : World.cell? _ ⟨Y3.heap.size, 3, none⟩ = some (.int .i64 0) := To.out.c 3 (by decide)
            have to4 : World.cell? _ ⟨Y3.heap.size, 4, none⟩ = some (.int .i64 0) := To.out.c 4 (by decide)
            have to5 : World.cell? _ ⟨Y3.heap.size, 5, none⟩ = some (.int .i64 0) := To.out.c 5 (by decide)
            have to6 : World.cell? _ ⟨Y3.heap.size, 6, none⟩ = some (.int .i64 0) := To.out.c 6 (by decide)
            have to7 : World.cell? _ ⟨Y3.heap.size, 7, none⟩ = some (.int .i64 (g 7)) := (To.out.c 7 (by decide)).trans (by rw [← sameo.out 7 (by decide) (by decide) (by decide) (by decide) (by decide) (by decide)]; rfl)
            have to8 : World.cell? _ ⟨Y3.heap.size, 8, none⟩ = some (.int .i64 (g 8)) := (To.out.c 8 (by decide)).trans (by rw [← sameo.out 8 (by decide) (by decide) (by decide) (by decide) (by decide) (by decide)]; rfl)
            have to9 : World.cell? _ ⟨Y3.heap.size, 9, none⟩ = some (.int .i64 (g 9)) := (To.out.c 9 (by decide)).trans (by rw [← sameo.out 9 (by decide) (by decide) (by decide) (by decide) (by decide) (by decide)]; rfl)
            have to10 : World.cell? _ ⟨Y3.heap.size, 10, none⟩ = some (.int .i64 (g 10)) := (To.out.c 10 (by decide)).trans (by rw [← sameo.out 10 (by decide) (by decide) (by decide) (by decide) (by decide) (by decide)]; rfl)
            have to11 : World.cell? _ ⟨Y3.heap.size, 11, none⟩ = some (.int .i64 (g 11)) := (To.out.c 11 (by decide)).trans (by rw [← sameo.out 11 (by decide) (by decide) (by decide) (by decide) (by decide) (by decide)]; rfl)
            have to12 : World.cell? _ ⟨Y3.heap.size, 12, none⟩ = some (.int .i64 0) := To.out.c 12 (by decide)
            have to13 : World.cell? _ ⟨Y3.heap.size, 13, none⟩ = some (.int .i64 0) := To.out.c 13 (by decide)
            have tx0 : World.cell? _ ⟨X1.heap.size, 0, none⟩ = some (.int .i64 (g 0)) := Tx.out.c 0 (by decide)
            have tx1 : World.cell? _ ⟨X1.heap.size, 1, none⟩ = some (.int .i64 (g 1)) := Tx.out.c 1 (by decide)
            have tx2 : World.cell? _ ⟨X1.heap.size, 2, none⟩ = some (.int .i64 (g 2)) := Tx.out.c 2 (by decide)
            have tx3 : World.cell? _ ⟨X1.heap.size, 3, none⟩ = some (.int .i64 0) := Tx.out.c 3 (by decide)
            have tx4 : World.cell? _ ⟨X1.heap.size, 4, none⟩ = some (.int .i64 0) := Tx.out.c 4 (by decide)
            have tx5 : World.cell? _ ⟨X1.heap.size, 5, none⟩ = some (.int .i64 0) := Tx.out.c 5 (by decide)
            have tx6 : World.cell? _ ⟨X1.heap.size, 6, none⟩ = some (.int .i64 0) := Tx.out.c 6 (by decide)
            have tx7 : World.cell? _ ⟨X1.heap.size, 7, none⟩ = some (.int .i64 (g 7)) := Tx.out.c 7 (by decide)
            have tx8 : World.cell? _ ⟨X1.heap.size, 8, none⟩ = some (.int .i64 (g 8)) := Tx.out.c 8 (by decide)
            have tx9 : World.cell? _ ⟨X1.heap.size, 9, none⟩ = some (.int .i64 (g 9)) := Tx.out.c 9 (by decide)
            have tx10 : World.cell? _ ⟨X1.heap.size, 10, none⟩ = some (.int .i64 (g 10)) := Tx.out.c 10 (by decide)
            have tx11 : World.cell? _ ⟨X1.heap.size, 11, none⟩ = some (.int .i64 (g 11)) := Tx.out.c 11 (by decide)
            have tx12 : World.cell? _ ⟨X1.heap.size, 12, none⟩ = some (.int .i64 0) := Tx.out.c 12 (by decide)
            have tx13 : World.cell? _ ⟨X1.heap.size, 13, none⟩ = some (.int .i64 0) := Tx.out.c 13 (by decide)
            go_wp2_with fail
            refine (works_any _).mono ?_; rintro e' X ⟨rfl, hb⟩
            go_wp2
            go_ret
            exact ⟨rfl, bT.out.trans (hb.mono bT.out.size)⟩
      · exact absurd G3.out g3

end Go.Proofs.Ytmojnopgpgnfeaa
