/-
  The reference's Hear, walked: one more case.
-/
import Derived.Test.Ytmojnopgpgnfeaamh5
namespace Go.Proofs.Ytmojnopgpgnfeaa
open Go.RowKit
set_option linter.unusedVariables false
set_option linter.unusedSimpArgs false

set_option maxRecDepth 100000 in
set_option maxHeartbeats 16000000 in
theorem refHear_D (l kd f s c lv ph n0 n1 : Int) (b off n cap : Nat) (zs : Nat → Smp) (w : World) (k1 : trainC l kd f s c = 0) (k2 : recvC lv ph n0 n1 = 0) (hnc : (n : Int) = c) (hb : b < w.heap.size) (hS : SmpsAt w b off n zs) (E : Int) (g : Nat → Int) (hE : E = if allS zs n = true then 0 else 3) (hg : g = if allS zs n = true then hearOf l kd c lv ph n0 n1 n zs else fun _ => 0) (hA0 : allS zs n = true) (hv : g 0 = 3) (hk3 : ¬ kd = 3) :
    Calls Try.prog 28 #[.agg #[.int .i64 l, .int .i64 kd, .int .i64 f, .int .i64 s, .int .i64 c], .agg #[.int .i64 lv, .int .i64 ph, .int .i64 n0, .int .i64 n1], .slice (some ⟨b, off, none⟩) n cap] w fun e w' => e = .returned (.tuple #[.agg #[.int .i64 (g 0), .int .i64 (g 1), .int .i64 (g 2), .int .i64 (g 3), .int .i64 (g 4), .int .i64 (g 5), .int .i64 (g 6), .int .i64 (g 7), .int .i64 (g 8), .int .i64 (g 9), .int .i64 (g 10), .int .i64 (g 11), .int .i64 (g 12), .int .i64 (g 13)], .int .i64 E]) ∧ Below w.heap.size w w' := by
  have hmaxl : maxLen = 9223372036854775807 := rfl
  have HA0 := Lib.hid hA0
  clear hA0
  have HV := Lib.hid hv
  clear hv
  have HK3 := Lib.hid hk3
  clear hk3
  obtain ⟨tc1, tc2⟩ := train_ok k1
  obtain ⟨rr1, rr2, rr3⟩ := recv_ok k2
  have HKD := Lib.hid (train_kd k1)
  have TR0 : Hid (trainC l kd f s (n : Int) = 0) := Lib.hid (by rw [hnc]; exact k1)
  have HS := Lib.hid hS
  have HG3 : Hid ((allS zs n = false → E = 3) ∧ (allS zs n = false → g = fun _ => 0)) := Lib.hid ⟨fun h => by rw [hE, h]; rfl, fun h => by rw [hg, h]; rfl⟩
  have HG0 : Hid (allS zs n = true → E = 0 ∧ g = hearOf l kd c lv ph n0 n1 n zs) := Lib.hid fun h => by rw [hE, hg, h]; exact ⟨rfl, rfl⟩
  have HB0 : Hid (∀ W : World, Calls Try.prog 64 #[.agg #[.int .i64 l, .int .i64 kd, .int .i64 f, .int .i64 s, .int .i64 c], .agg #[.int .i64 lv, .int .i64 ph, .int .i64 n0, .int .i64 n1]] W fun e w' => e = .returned (.int .i64 0) ∧ Below W.heap.size W w') := Lib.hid fun W => by
    have h := both_any l kd f s c lv ph n0 n1 W
    unfold ckC at h
    rw [if_pos k1, k2] at h
    exact h
  subst hnc
  clear hS hE hg k1 k2
  obtain ⟨i0, hi, hz0, hz1, hz2⟩ := info_parts info3
  have P0 := Lib.hid (HrP.newR w l kd f s n lv ph n0 n1)
  obtain ⟨U, hU⟩ : ∃ U, U = (((w.alloc (.cells #[.int .i64 l, .int .i64 kd, .int .i64 f, .int .i64 s, .int .i64 (n : Int)] 34)).alloc (.cells #[.int .i64 lv, .int .i64 ph, .int .i64 n0, .int .i64 n1] 37)).alloc (.cells #[.int .i64 0, .int .i64 0, .int .i64 0, .int .i64 0, .int .i64 0, .int .i64 0, .int .i64 0, .int .i64 0, .int .i64 0, .int .i64 0, .int .i64 0, .int .i64 0, .int .i64 0, .int .i64 0] 30)) := ⟨_, rfl⟩
  rw [← hU] at P0
  go_enter Try.func28, Try.ntmps28
  go_wp2_with fail
  rw [← hU]
  clear hU
  obtain ⟨t0, t1, t2, t3, t4, r0, r1, r2, r3, ho, hzz, hbw⟩ := P0.out
  clear ho
  refine (HB0.out _).mono ?_; rintro e' V ⟨rfl, hbV⟩
  have PV := Lib.hid (P0.out.keep hbV P0.out.z)
  clear t0 t1 t2 t3 t4 r0 r1 r2 r3 hzz hbw P0 hbV HB0
  obtain ⟨t0, t1, t2, t3, t4, r0, r1, r2, r3, ho, hzz, hbw⟩ := PV.out
  clear ho
  have BV := Lib.hid hbw
  clear hbw
  go_wp2_with fail
  clear t0 t1 t2 t3 t4 r0 r1 r2 r3
  go_loopw [9, 10, 11, 12] (fun v9 v10 v11 v12 wr => ∃ k : Nat, k ≤ n ∧ v12 = .int .i64 k ∧ allS zs k = true ∧ Rw V wr v9 v10 v11 (allTo (fun i => (zs i).h) k) (allTo (fun i => (zs i).v) k) (trnTo zs k)) (fun _ _ _ v12 _ => n - (intOf v12).toNat)
  case atStart => exact ⟨0, Nat.zero_le _, rfl, rfl, Rw.new V⟩
  case round =>
    obtain ⟨k, hk, rfl, hA, hR⟩ := hrel
    by_cases hlt : k < n
    · have hbw := hR.b
      have hbV : b < V.heap.size := Nat.lt_of_lt_of_le hb BV.out.size
      have z0 := keepB hbw hbV (keepB BV.out hb (HS.out.c0 k hlt))
      have z1 := keepB hbw hbV (keepB BV.out hb (HS.out.c1 k hlt))
      have z2 := keepB hbw hbV (keepB BV.out hb (HS.out.c2 k hlt))
      have z3 := keepB hbw hbV (keepB BV.out hb (HS.out.c3 k hlt))
      have hbr : b < wr.heap.size := Nat.lt_of_lt_of_le hbV hbw.size
      obtain ⟨yh, hyh⟩ : ∃ x, x = (zs k).h := ⟨_, rfl⟩
      obtain ⟨yp, hyp⟩ : ∃ x, x = (zs k).p := ⟨_, rfl⟩
      obtain ⟨yv, hyv⟩ : ∃ x, x = (zs k).v := ⟨_, rfl⟩
      obtain ⟨yq, hyq⟩ : ∃ x, x = (zs k).q := ⟨_, rfl⟩
      obtain ⟨st, hst⟩ : ∃ x, x = (yq - yp) % 65536 := ⟨_, rfl⟩
      have hsm : smpB (zs k) = (inB yh 0 1023 && inB yv 0 1023 && inB yp 0 65535 && inB yq 0 65535) := by unfold smpB; rw [← hyh, ← hyp, ← hyv, ← hyq]
      have HSM := Lib.hid hsm
      have HNA : Hid (smpB (zs k) = false → allS zs n = false) := Lib.hid fun h => by
        cases e : allS zs n with
        | false => rfl
        | true => rw [allS_at e hlt] at h; cases h
      have HAN0 : Hid (smpB (zs k) = true → allS zs (k + 1) = true) := Lib.hid fun h => by unfold allS; rw [hA, h]; rfl
      rw [← hyh] at z0
      rw [← hyp] at z1
      rw [← hyv] at z2
      rw [← hyq] at z3
      obtain ⟨X0, hX0⟩ : ∃ x, x = allTo (fun i => (zs i).h) k := ⟨_, rfl⟩
      obtain ⟨X1, hX1⟩ : ∃ x, x = allTo (fun i => (zs i).v) k := ⟨_, rfl⟩
      obtain ⟨X2, hX2⟩ : ∃ x, x = trnTo zs k := ⟨_, rfl⟩
      have HL : Hid (X0.length = k ∧ X1.length = k ∧ X2.length = k ∧ k < 64) := Lib.hid (by rw [hX0, hX1, hX2, allTo_len, allTo_len, trnTo_len]; omega)
      rw [← hX0, ← hX1, ← hX2] at hR
      have HEQ := Lib.hid (And.intro hX0 (And.intro hX1 (And.intro hX2 trivial)))
      have HYY := Lib.hid (And.intro hyh (And.intro hyv (show st = ((zs k).q - (zs k).p) % 65536 by rw [hst, hyp, hyq])))
      have hR0 := Rg.new yh yp yv yq 113 hR
      obtain ⟨A0, hA0⟩ : ∃ A, A = wr.alloc (.cells #[.int .i64 yh, .int .i64 yp, .int .i64 yv, .int .i64 yq] 113) := ⟨_, rfl⟩
      rw [← hA0] at hR0
      have d0 := hR0.c0
      have d1 := hR0.c1
      have d2 := hR0.c2
      have d3 := hR0.c3
      have R0 := Lib.hid (hR0.keep (Below.refl _ _).drew)
      have HS13 := Lib.hid (show (fun w' : World => w'.cell? ⟨wr.heap.size, 0, none⟩ = some (.int .i64 yh) ∧ w'.cell? ⟨wr.heap.size, 1, none⟩ = some (.int .i64 yp) ∧ w'.cell? ⟨wr.heap.size, 2, none⟩ = some (.int .i64 yv) ∧ w'.cell? ⟨wr.heap.size, 3, none⟩ = some (.int .i64 yq) ∧ Below V.heap.size V w') A0.drew from ⟨R0.out.c0, R0.out.c1, R0.out.c2, R0.out.c3, R0.out.s.b⟩)
      have PW := Lib.hid (PV.out.keep hR0.s.b PV.out.z)
      clear hR0 hR hyh hyp hyv hyq hX0 hX1 hX2 hsm hA hbw
      go_wp2_with fail
      rw [← hA0]
      clear hA0 z0 z1 z2 z3
      refine (refIn_any _ _ _ _).mono ?_; rintro e' w' ⟨rfl, rfl⟩
      rcases Bool.eq_false_or_eq_true (inB yh 0 1023) with b1 | b1
      case inr =>
        have hno := HNA.out (by rw [HSM.out, b1]; rfl)
        exact absurd hno (by rw [HA0.out]; decide)
      rcases Bool.eq_false_or_eq_true (inB yv 0 1023) with b2 | b2
      case inr =>
        have hno := HNA.out (by rw [HSM.out, b1, b2]; rfl)
        exact absurd hno (by rw [HA0.out]; decide)
      rcases Bool.eq_false_or_eq_true (inB yp 0 65535) with b3 | b3
      case inr =>
        have hno := HNA.out (by rw [HSM.out, b1, b2, b3]; rfl)
        exact absurd hno (by rw [HA0.out]; decide)
      rcases Bool.eq_false_or_eq_true (inB yq 0 65535) with b4 | b4
      case inr =>
        have hno := HNA.out (by rw [HSM.out, b1, b2, b3, b4]; rfl)
        exact absurd hno (by rw [HA0.out]; decide)
      have HAN := Lib.hid (HAN0.out (by rw [HSM.out, b1, b2, b3, b4]; rfl))
      have q3 := inB_true.1 b3
      have q4 := inB_true.1 b4
      have iw : IntKind.i64.wrap (yq - yp) = yq - yp := IntWalk.i64_in _ (by omega)
      have HW : Hid (∀ W : World, Calls Try.prog 60 #[.int .i64 (yq - yp)] W fun e w' => e = .returned (.int .i64 st) ∧ Below W.heap.size W w') := Lib.hid fun W => (Wrap_any (yq - yp) W (by omega) (by omega)).mono (by rintro e w' ⟨rfl, rfl⟩; exact ⟨by rw [hst], Below.refl _ _⟩)
      clear hst HSM HNA HAN0
      go_wp2_with (go_at_call 48; refine (refIn_any _ _ _ _).mono ?_; rintro e' w' ⟨rfl, rfl⟩)
      clear d0 d1 d2 d3 b1 b2 b3 b4
      refine wp_region_held_tail (S := (fun w' : World => w'.cell? ⟨wr.heap.size, 0, none⟩ = some (.int .i64 yh) ∧ w'.cell? ⟨wr.heap.size, 1, none⟩ = some (.int .i64 yp) ∧ w'.cell? ⟨wr.heap.size, 2, none⟩ = some (.int .i64 yv) ∧ w'.cell? ⟨wr.heap.size, 3, none⟩ = some (.int .i64 yq) ∧ Below V.heap.size V w')) 18 (by kernel_rfl) (by kernel_rfl) HS13.out (fun hHeld => ?_)
      clear HS13
      obtain ⟨D, hD⟩ : ∃ D, D = A0.drew := ⟨_, rfl⟩
      rw [← hD] at hHeld R0
      rw [← hD]
      clear hD
      refine wpAnyH_take (i := 0) (v := ?v0_1) rfl (by kernel_rfl) (by kernel_rfl) (by kernel_rfl) (fun _ _ _ h => h) (Or.inl ⟨by rfl, ?hy0_1⟩) (by assumption) ?rest0_1
      case hy0_1 => (intro w hSw; (try dsimp only at hSw); go_simp; (try with_reducible rfl))
      try simp only [Act.put, List.getElem_toArray, List.getElem_cons_zero, List.getElem_cons_succ, List.setIfInBounds_toArray, List.set_cons_zero, List.set_cons_succ]
      refine wpAnyH_take (i := 1) (v := ?v1_2) rfl (by kernel_rfl) (by kernel_rfl) (by kernel_rfl) (fun _ _ _ h => h) (Or.inl ⟨by rfl, ?hy1_2⟩) (by assumption) ?rest1_2
      case hy1_2 => (intro w hSw; (try dsimp only at hSw); go_simp; (try with_reducible rfl))
      try simp only [Act.put, List.getElem_toArray, List.getElem_cons_zero, List.getElem_cons_succ, List.setIfInBounds_toArray, List.set_cons_zero, List.set_cons_succ]
      refine wpAnyH_take (i := 2) (v := ?v2_3) rfl (by kernel_rfl) (by kernel_rfl) (by kernel_rfl) (fun _ _ _ h => h) (Or.inl ⟨by rfl, ?hy2_3⟩) (by assumption) ?rest2_3
      case hy2_3 => (intro w hSw; (try dsimp only at hSw); go_simp; (try with_reducible rfl))
      try simp only [Act.put, List.getElem_toArray, List.getElem_cons_zero, List.getElem_cons_succ, List.setIfInBounds_toArray, List.set_cons_zero, List.set_cons_succ]
      refine wpAnyH_take (i := 5) (v := ?v5_4) rfl (by kernel_rfl) (by kernel_rfl) (by kernel_rfl) (fun _ _ _ h => h) (Or.inl ⟨by rfl, ?hy5_4⟩) (by assumption) ?rest5_4
      case hy5_4 => (intro w hSw; (try dsimp only at hSw); go_simp; (try with_reducible rfl))
      try simp only [Act.put, List.getElem_toArray, List.getElem_cons_zero, List.getElem_cons_succ, List.setIfInBounds_toArray, List.set_cons_zero, List.set_cons_succ]
      refine wpAnyH_take (i := 6) (v := ?v6_5) rfl (by kernel_rfl) (by kernel_rfl) (by kernel_rfl) (fun _ _ _ h => h) (Or.inl ⟨by rfl, ?hy6_5⟩) (by assumption) ?rest6_5
      case hy6_5 => (intro w hSw; (try dsimp only at hSw); go_simp; (try with_reducible rfl))
      try simp only [Act.put, List.getElem_toArray, List.getElem_cons_zero, List.getElem_cons_succ, List.setIfInBounds_toArray, List.set_cons_zero, List.set_cons_succ]
      refine wpAnyH_take (i := 7) (v := ?v7_6) rfl (by kernel_rfl) (by kernel_rfl) (by kernel_rfl) (fun _ _ _ h => h) (Or.inl ⟨by rfl, ?hy7_6⟩) (by assumption) ?rest7_6
      case hy7_6 => (intro w hSw; (try dsimp only at hSw); go_simp; (try with_reducible rfl))
      try simp only [Act.put, List.getElem_toArray, List.getElem_cons_zero, List.getElem_cons_succ, List.setIfInBounds_toArray, List.set_cons_zero, List.set_cons_succ]
      refine wpAnyH_take (i := 10) (v := ?v10_7) rfl (by kernel_rfl) (by kernel_rfl) (by kernel_rfl) (fun _ _ _ h => h) (Or.inl ⟨by rfl, ?hy10_7⟩) (by assumption) ?rest10_7
      case hy10_7 => (intro w hSw; (try dsimp only at hSw); go_simp; (try with_reducible rfl))
      try simp only [Act.put, List.getElem_toArray, List.getElem_cons_zero, List.getElem_cons_succ, List.setIfInBounds_toArray, List.set_cons_zero, List.set_cons_succ]
      refine wpAnyH_take (i := 11) (v := ?v11_8) rfl (by kernel_rfl) (by kernel_rfl) (by kernel_rfl) (fun _ _ _ h => h) (Or.inl ⟨by rfl, ?hy11_8⟩) (by assumption) ?rest11_8
      case hy11_8 => (intro w hSw; (try dsimp only at hSw); go_simp; (try with_reducible rfl))
      try simp only [Act.put, List.getElem_toArray, List.getElem_cons_zero, List.getElem_cons_succ, List.setIfInBounds_toArray, List.set_cons_zero, List.set_cons_succ]
      refine wpAnyH_take (i := 12) (v := ?v12_9) rfl (by kernel_rfl) (by kernel_rfl) (by kernel_rfl) (fun _ _ _ h => h) (Or.inl ⟨by rfl, ?hy12_9⟩) (by assumption) ?rest12_9
      case hy12_9 => (intro w hSw; (try dsimp only at hSw); go_simp; (try with_reducible rfl))
      try simp only [Act.put, List.getElem_toArray, List.getElem_cons_zero, List.getElem_cons_succ, List.setIfInBounds_toArray, List.set_cons_zero, List.set_cons_succ]
      refine wpAnyH_take (i := 13) (v := ?v13_10) rfl (by kernel_rfl) (by kernel_rfl) (by kernel_rfl) (fun _ _ _ h => h) (Or.inl ⟨by rfl, ?hy13_10⟩) (by assumption) ?rest13_10
      case hy13_10 => (intro w hSw; (try dsimp only at hSw); go_simp; (try with_reducible rfl))
      try simp only [Act.put, List.getElem_toArray, List.getElem_cons_zero, List.getElem_cons_succ, List.setIfInBounds_toArray, List.set_cons_zero, List.set_cons_succ]
      refine wpAnyH_take (i := 14) (v := ?v14_11) rfl (by kernel_rfl) (by kernel_rfl) (by kernel_rfl) (fun _ _ _ h => h) (Or.inl ⟨by rfl, ?hy14_11⟩) (by assumption) ?rest14_11
      case hy14_11 => (intro w hSw; (try dsimp only at hSw); go_simp; (try with_reducible rfl))
      try simp only [Act.put, List.getElem_toArray, List.getElem_cons_zero, List.getElem_cons_succ, List.setIfInBounds_toArray, List.set_cons_zero, List.set_cons_succ]
      refine wpAnyH_take (i := 15) (v := ?v15_12) rfl (by kernel_rfl) (by kernel_rfl) (by kernel_rfl) (fun _ _ _ h => h) (Or.inl ⟨by rfl, ?hy15_12⟩) (by assumption) ?rest15_12
      case hy15_12 => (intro w hSw; (try dsimp only at hSw); go_simp; (try with_reducible rfl))
      try simp only [Act.put, List.getElem_toArray, List.getElem_cons_zero, List.getElem_cons_succ, List.setIfInBounds_toArray, List.set_cons_zero, List.set_cons_succ]
      refine wpAnyH_ready (rs := [3, 8]) (by kernel_rfl) (by simp) ?_
      refine AllReadyH.cons rfl (fun K hK => ?_) (AllReadyH.cons rfl (fun K hK => ?_) AllReadyH.nil)
      · skip
        go_simp
        have hb_1 : Below D.heap.size D (D.alloc (.cells #[.int .i64 yh] 3)) := below_alloc _ _
        have R1 := Lib.hid (R0.out.keep hb_1)
        have T1 := Lib.hid (Tb.new yh 3 R0.out.s)
        obtain ⟨W1, hW1⟩ : ∃ V, V = D.alloc (.cells #[.int .i64 yh] 3) := ⟨_, rfl⟩
        rw [← hW1] at R1 T1
        rw [← hW1]
        clear hb_1
        refine hK.out _ _ ⟨R1.out.c0, R1.out.c1, R1.out.c2, R1.out.c3, R1.out.s.b⟩ (fun hHeld => ?_)
        clear hK K hW1
        try simp only [Act.put, List.getElem_toArray, List.getElem_cons_zero, List.getElem_cons_succ, List.setIfInBounds_toArray, List.set_cons_zero, List.set_cons_succ]
        refine wpAnyH_ready (rs := [4, 8]) (by kernel_rfl) (by simp) ?_
        refine AllReadyH.cons rfl (fun K hK => ?_) (AllReadyH.cons rfl (fun K hK => ?_) AllReadyH.nil)
        · skip
          rw [if_pos (by rfl)]
          refine oper_append _ _ 50 rfl V.heap.size 3 i0 (.int .i64 0) 1 8 Try.underlying50 hi hz0 hz1 hz2 rfl (by decide) _ _ _ rfl R1.out.s.r0 ⟨D.heap.size, 0, none⟩ 1 1 [.int .i64 yh] rfl rfl (one_news T1.out.c) (by simp [Value.oneCell']) (by have := HL.out; omega) (by have := HL.out; omega) R1.out.s.b.size ?_
          intro v0' W2 hown hgrow hat
          have R2 := Lib.hid (R1.out.g0 hgrow hown hat)
          clear hown hgrow hat
          refine hK.out _ _ ⟨R2.out.c0, R2.out.c1, R2.out.c2, R2.out.c3, R2.out.s.b⟩ (fun hHeld => ?_)
          clear hK K
          try simp only [Act.put, List.getElem_toArray, List.getElem_cons_zero, List.getElem_cons_succ, List.setIfInBounds_toArray, List.set_cons_zero, List.set_cons_succ]
          refine wpAnyH_ready (rs := [8]) (by kernel_rfl) (by simp) ?_
          refine AllReadyH.cons rfl (fun K hK => ?_) AllReadyH.nil
          go_simp
          have hb_3 : Below W2.heap.size W2 (W2.alloc (.cells #[.int .i64 yv] 3)) := below_alloc _ _
          have R3 := Lib.hid (R2.out.keep hb_3)
          have T3 := Lib.hid (Tb.new yv 3 R2.out.s)
          obtain ⟨W3, hW3⟩ : ∃ V, V = W2.alloc (.cells #[.int .i64 yv] 3) := ⟨_, rfl⟩
          rw [← hW3] at R3 T3
          rw [← hW3]
          clear hb_3
          refine hK.out _ _ ⟨R3.out.c0, R3.out.c1, R3.out.c2, R3.out.c3, R3.out.s.b⟩ (fun hHeld => ?_)
          clear hK K hW3
          try simp only [Act.put, List.getElem_toArray, List.getElem_cons_zero, List.getElem_cons_succ, List.setIfInBounds_toArray, List.set_cons_zero, List.set_cons_succ]
          refine wpAnyH_ready (rs := [9]) (by kernel_rfl) (by simp) ?_
          refine AllReadyH.cons rfl (fun K hK => ?_) AllReadyH.nil
          rw [if_pos (by rfl)]
          refine oper_append _ _ 50 rfl V.heap.size 3 i0 (.int .i64 0) 1 8 Try.underlying50 hi hz0 hz1 hz2 rfl (by decide) _ _ _ rfl R3.out.s.r1 ⟨W2.heap.size, 0, none⟩ 1 1 [.int .i64 yv] rfl rfl (one_news T3.out.c) (by simp [Value.oneCell']) (by have := HL.out; omega) (by have := HL.out; omega) R3.out.s.b.size ?_
          intro v1' W4 hown hgrow hat
          have R4 := Lib.hid (R3.out.g1 hgrow hown hat)
          clear hown hgrow hat
          refine hK.out _ _ ⟨R4.out.c0, R4.out.c1, R4.out.c2, R4.out.c3, R4.out.s.b⟩ (fun hHeld => ?_)
          clear hK K
          try simp only [Act.put, List.getElem_toArray, List.getElem_cons_zero, List.getElem_cons_succ, List.setIfInBounds_toArray, List.set_cons_zero, List.set_cons_succ]
          refine wpAnyH_ready (rs := [16]) (by kernel_rfl) (by simp) ?_
          refine AllReadyH.cons rfl (fun K hK => ?_) AllReadyH.nil
          go_simp
          refine (HW.out _).mono ?_; rintro e' W5 ⟨rfl, hb_5⟩
          have R5 := Lib.hid (R4.out.keep hb_5)
          clear hb_5
          refine hK.out _ _ ⟨R5.out.c0, R5.out.c1, R5.out.c2, R5.out.c3, R5.out.s.b⟩ (fun hHeld => ?_)
          clear hK K
          try simp only [Act.put, List.getElem_toArray, List.getElem_cons_zero, List.getElem_cons_succ, List.setIfInBounds_toArray, List.set_cons_zero, List.set_cons_succ]
          refine wpAnyH_ready (rs := [17]) (by kernel_rfl) (by simp) ?_
          refine AllReadyH.cons rfl (fun K hK => ?_) AllReadyH.nil
          go_simp
          have hb_6 : Below W5.heap.size W5 (W5.alloc (.cells #[.int .i64 st] 3)) := below_alloc _ _
          have R6 := Lib.hid (R5.out.keep hb_6)
          have T6 := Lib.hid (Tb.new st 3 R5.out.s)
          obtain ⟨W6, hW6⟩ : ∃ V, V = W5.alloc (.cells #[.int .i64 st] 3) := ⟨_, rfl⟩
          rw [← hW6] at R6 T6
          rw [← hW6]
          clear hb_6
          refine hK.out _ _ ⟨R6.out.c0, R6.out.c1, R6.out.c2, R6.out.c3, R6.out.s.b⟩ (fun hHeld => ?_)
          clear hK K hW6
          try simp only [Act.put, List.getElem_toArray, List.getElem_cons_zero, List.getElem_cons_succ, List.setIfInBounds_toArray, List.set_cons_zero, List.set_cons_succ]
          refine wpAnyH_done (by kernel_rfl) ?_ _
          change wpList _ _ _ _ _ _
          simp only [List.drop_succ_cons, List.drop_zero]
          clear hHeld
          go_wp2_with (at_builtin; refine wpList_append_own_at _ rfl _ _ 50 rfl V.heap.size 3 i0 (.int .i64 0) 1 8 Try.underlying50 hi hz0 hz1 hz2 rfl (by decide) _ _ _ rfl R6.out.s.r2 ⟨W5.heap.size, 0, none⟩ 1 1 [.int .i64 st] rfl rfl (one_news T6.out.c) (by simp [Value.oneCell']) (by have := HL.out; omega) (by have := HL.out; omega) R6.out.s.b.size ?_; intro v2' W9 hown hgrow _ hat; have HX := Lib.hid (R6.out.s.g2 hgrow hown hat); clear hown hgrow hat)
          go_roundw
          case rel => exact ⟨k + 1, by omega, by go_num, HAN.out, by have h := HX.out; rw [HEQ.out.1, HEQ.out.2.1, HEQ.out.2.2.1, HYY.out.1, HYY.out.2.1, HYY.out.2.2] at h; exact h⟩
          case measure => simp [intOf]; omega
        · skip
          go_simp
          have hb_7 : Below W1.heap.size W1 (W1.alloc (.cells #[.int .i64 yv] 3)) := below_alloc _ _
          have R7 := Lib.hid (R1.out.keep hb_7)
          have T7 := Lib.hid (Tb.new yv 3 R1.out.s)
          have T1k := Lib.hid (T1.out.keep hb_7)
          obtain ⟨W7, hW7⟩ : ∃ V, V = W1.alloc (.cells #[.int .i64 yv] 3) := ⟨_, rfl⟩
          rw [← hW7] at R7 T7 T1k
          rw [← hW7]
          clear hb_7
          refine hK.out _ _ ⟨R7.out.c0, R7.out.c1, R7.out.c2, R7.out.c3, R7.out.s.b⟩ (fun hHeld => ?_)
          clear hK K hW7
          try simp only [Act.put, List.getElem_toArray, List.getElem_cons_zero, List.getElem_cons_succ, List.setIfInBounds_toArray, List.set_cons_zero, List.set_cons_succ]
          refine wpAnyH_ready (rs := [4]) (by kernel_rfl) (by simp) ?_
          refine AllReadyH.cons rfl (fun K hK => ?_) AllReadyH.nil
          rw [if_pos (by rfl)]
          refine oper_append _ _ 50 rfl V.heap.size 3 i0 (.int .i64 0) 1 8 Try.underlying50 hi hz0 hz1 hz2 rfl (by decide) _ _ _ rfl R7.out.s.r0 ⟨D.heap.size, 0, none⟩ 1 1 [.int .i64 yh] rfl rfl (one_news T1k.out.c) (by simp [Value.oneCell']) (by have := HL.out; omega) (by have := HL.out; omega) R7.out.s.b.size ?_
          intro v0' W8 hown hgrow hat
          have R8 := Lib.hid (R7.out.g0 hgrow hown hat)
          have T7g := Lib.hid (T7.out.g0 hgrow hat)
          clear hown hgrow hat
          refine hK.out _ _ ⟨R8.out.c0, R8.out.c1, R8.out.c2, R8.out.c3, R8.out.s.b⟩ (fun hHeld => ?_)
          clear hK K
          try simp only [Act.put, List.getElem_toArray, List.getElem_cons_zero, List.getElem_cons_succ, List.setIfInBounds_toArray, List.set_cons_zero, List.set_cons_succ]
          refine wpAnyH_ready (rs := [9]) (by kernel_rfl) (by simp) ?_
          refine AllReadyH.cons rfl (fun K hK => ?_) AllReadyH.nil
          rw [if_pos (by rfl)]
          refine oper_append _ _ 50 rfl V.heap.size 3 i0 (.int .i64 0) 1 8 Try.underlying50 hi hz0 hz1 hz2 rfl (by decide) _ _ _ rfl R8.out.s.r1 ⟨W1.heap.size, 0, none⟩ 1 1 [.int .i64 yv] rfl rfl (one_news T7g.out.c) (by simp [Value.oneCell']) (by have := HL.out; omega) (by have := HL.out; omega) R8.out.s.b.size ?_
          intro v1' W9 hown hgrow hat
          have R9 := Lib.hid (R8.out.g1 hgrow hown hat)
          clear hown hgrow hat
          refine hK.out _ _ ⟨R9.out.c0, R9.out.c1, R9.out.c2, R9.out.c3, R9.out.s.b⟩ (fun hHeld => ?_)
          clear hK K
          try simp only [Act.put, List.getElem_toArray, List.getElem_cons_zero, List.getElem_cons_succ, List.setIfInBounds_toArray, List.set_cons_zero, List.set_cons_succ]
          refine wpAnyH_ready (rs := [16]) (by kernel_rfl) (by simp) ?_
          refine AllReadyH.cons rfl (fun K hK => ?_) AllReadyH.nil
          go_simp
          refine (HW.out _).mono ?_; rintro e' W10 ⟨rfl, hb_10⟩
          have R10 := Lib.hid (R9.out.keep hb_10)
          clear hb_10
          refine hK.out _ _ ⟨R10.out.c0, R10.out.c1, R10.out.c2, R10.out.c3, R10.out.s.b⟩ (fun hHeld => ?_)
          clear hK K
          try simp only [Act.put, List.getElem_toArray, List.getElem_cons_zero, List.getElem_cons_succ, List.setIfInBounds_toArray, List.set_cons_zero, List.set_cons_succ]
          refine wpAnyH_ready (rs := [17]) (by kernel_rfl) (by simp) ?_
          refine AllReadyH.cons rfl (fun K hK => ?_) AllReadyH.nil
          go_simp
          have hb_11 : Below W10.heap.size W10 (W10.alloc (.cells #[.int .i64 st] 3)) := below_alloc _ _
          have R11 := Lib.hid (R10.out.keep hb_11)
          have T11 := Lib.hid (Tb.new st 3 R10.out.s)
          obtain ⟨W11, hW11⟩ : ∃ V, V = W10.alloc (.cells #[.int .i64 st] 3) := ⟨_, rfl⟩
          rw [← hW11] at R11 T11
          rw [← hW11]
          clear hb_11
          refine hK.out _ _ ⟨R11.out.c0, R11.out.c1, R11.out.c2, R11.out.c3, R11.out.s.b⟩ (fun hHeld => ?_)
          clear hK K hW11
          try simp only [Act.put, List.getElem_toArray, List.getElem_cons_zero, List.getElem_cons_succ, List.setIfInBounds_toArray, List.set_cons_zero, List.set_cons_succ]
          refine wpAnyH_done (by kernel_rfl) ?_ _
          change wpList _ _ _ _ _ _
          simp only [List.drop_succ_cons, List.drop_zero]
          clear hHeld
          go_wp2_with (at_builtin; refine wpList_append_own_at _ rfl _ _ 50 rfl V.heap.size 3 i0 (.int .i64 0) 1 8 Try.underlying50 hi hz0 hz1 hz2 rfl (by decide) _ _ _ rfl R11.out.s.r2 ⟨W10.heap.size, 0, none⟩ 1 1 [.int .i64 st] rfl rfl (one_news T11.out.c) (by simp [Value.oneCell']) (by have := HL.out; omega) (by have := HL.out; omega) R11.out.s.b.size ?_; intro v2' W9 hown hgrow _ hat; have HX := Lib.hid (R11.out.s.g2 hgrow hown hat); clear hown hgrow hat)
          go_roundw
          case rel => exact ⟨k + 1, by omega, by go_num, HAN.out, by have h := HX.out; rw [HEQ.out.1, HEQ.out.2.1, HEQ.out.2.2.1, HYY.out.1, HYY.out.2.1, HYY.out.2.2] at h; exact h⟩
          case measure => simp [intOf]; omega
      · skip
        go_simp
        have hb_12 : Below D.heap.size D (D.alloc (.cells #[.int .i64 yv] 3)) := below_alloc _ _
        have R12 := Lib.hid (R0.out.keep hb_12)
        have T12 := Lib.hid (Tb.new yv 3 R0.out.s)
        obtain ⟨W12, hW12⟩ : ∃ V, V = D.alloc (.cells #[.int .i64 yv] 3) := ⟨_, rfl⟩
        rw [← hW12] at R12 T12
        rw [← hW12]
        clear hb_12
        refine hK.out _ _ ⟨R12.out.c0, R12.out.c1, R12.out.c2, R12.out.c3, R12.out.s.b⟩ (fun hHeld => ?_)
        clear hK K hW12
        try simp only [Act.put, List.getElem_toArray, List.getElem_cons_zero, List.getElem_cons_succ, List.setIfInBounds_toArray, List.set_cons_zero, List.set_cons_succ]
        refine wpAnyH_ready (rs := [3]) (by kernel_rfl) (by simp) ?_
        refine AllReadyH.cons rfl (fun K hK => ?_) AllReadyH.nil
        go_simp
        have hb_13 : Below W12.heap.size W12 (W12.alloc (.cells #[.int .i64 yh] 3)) := below_alloc _ _
        have R13 := Lib.hid (R12.out.keep hb_13)
        have T13 := Lib.hid (Tb.new yh 3 R12.out.s)
        have T12k := Lib.hid (T12.out.keep hb_13)
        obtain ⟨W13, hW13⟩ : ∃ V, V = W12.alloc (.cells #[.int .i64 yh] 3) := ⟨_, rfl⟩
        rw [← hW13] at R13 T13 T12k
        rw [← hW13]
        clear hb_13
        refine hK.out _ _ ⟨R13.out.c0, R13.out.c1, R13.out.c2, R13.out.c3, R13.out.s.b⟩ (fun hHeld => ?_)
        clear hK K hW13
        try simp only [Act.put, List.getElem_toArray, List.getElem_cons_zero, List.getElem_cons_succ, List.setIfInBounds_toArray, List.set_cons_zero, List.set_cons_succ]
        refine wpAnyH_ready (rs := [4]) (by kernel_rfl) (by simp) ?_
        refine AllReadyH.cons rfl (fun K hK => ?_) AllReadyH.nil
        rw [if_pos (by rfl)]
        refine oper_append _ _ 50 rfl V.heap.size 3 i0 (.int .i64 0) 1 8 Try.underlying50 hi hz0 hz1 hz2 rfl (by decide) _ _ _ rfl R13.out.s.r0 ⟨W12.heap.size, 0, none⟩ 1 1 [.int .i64 yh] rfl rfl (one_news T13.out.c) (by simp [Value.oneCell']) (by have := HL.out; omega) (by have := HL.out; omega) R13.out.s.b.size ?_
        intro v0' W14 hown hgrow hat
        have R14 := Lib.hid (R13.out.g0 hgrow hown hat)
        have T12kg := Lib.hid (T12k.out.g0 hgrow hat)
        clear hown hgrow hat
        refine hK.out _ _ ⟨R14.out.c0, R14.out.c1, R14.out.c2, R14.out.c3, R14.out.s.b⟩ (fun hHeld => ?_)
        clear hK K
        try simp only [Act.put, List.getElem_toArray, List.getElem_cons_zero, List.getElem_cons_succ, List.setIfInBounds_toArray, List.set_cons_zero, List.set_cons_succ]
        refine wpAnyH_ready (rs := [9]) (by kernel_rfl) (by simp) ?_
        refine AllReadyH.cons rfl (fun K hK => ?_) AllReadyH.nil
        rw [if_pos (by rfl)]
        refine oper_append _ _ 50 rfl V.heap.size 3 i0 (.int .i64 0) 1 8 Try.underlying50 hi hz0 hz1 hz2 rfl (by decide) _ _ _ rfl R14.out.s.r1 ⟨D.heap.size, 0, none⟩ 1 1 [.int .i64 yv] rfl rfl (one_news T12kg.out.c) (by simp [Value.oneCell']) (by have := HL.out; omega) (by have := HL.out; omega) R14.out.s.b.size ?_
        intro v1' W15 hown hgrow hat
        have R15 := Lib.hid (R14.out.g1 hgrow hown hat)
        clear hown hgrow hat
        refine hK.out _ _ ⟨R15.out.c0, R15.out.c1, R15.out.c2, R15.out.c3, R15.out.s.b⟩ (fun hHeld => ?_)
        clear hK K
        try simp only [Act.put, List.getElem_toArray, List.getElem_cons_zero, List.getElem_cons_succ, List.setIfInBounds_toArray, List.set_cons_zero, List.set_cons_succ]
        refine wpAnyH_ready (rs := [16]) (by kernel_rfl) (by simp) ?_
        refine AllReadyH.cons rfl (fun K hK => ?_) AllReadyH.nil
        go_simp
        refine (HW.out _).mono ?_; rintro e' W16 ⟨rfl, hb_16⟩
        have R16 := Lib.hid (R15.out.keep hb_16)
        clear hb_16
        refine hK.out _ _ ⟨R16.out.c0, R16.out.c1, R16.out.c2, R16.out.c3, R16.out.s.b⟩ (fun hHeld => ?_)
        clear hK K
        try simp only [Act.put, List.getElem_toArray, List.getElem_cons_zero, List.getElem_cons_succ, List.setIfInBounds_toArray, List.set_cons_zero, List.set_cons_succ]
        refine wpAnyH_ready (rs := [17]) (by kernel_rfl) (by simp) ?_
        refine AllReadyH.cons rfl (fun K hK => ?_) AllReadyH.nil
        go_simp
        have hb_17 : Below W16.heap.size W16 (W16.alloc (.cells #[.int .i64 st] 3)) := below_alloc _ _
        have R17 := Lib.hid (R16.out.keep hb_17)
        have T17 := Lib.hid (Tb.new st 3 R16.out.s)
        obtain ⟨W17, hW17⟩ : ∃ V, V = W16.alloc (.cells #[.int .i64 st] 3) := ⟨_, rfl⟩
        rw [← hW17] at R17 T17
        rw [← hW17]
        clear hb_17
        refine hK.out _ _ ⟨R17.out.c0, R17.out.c1, R17.out.c2, R17.out.c3, R17.out.s.b⟩ (fun hHeld => ?_)
        clear hK K hW17
        try simp only [Act.put, List.getElem_toArray, List.getElem_cons_zero, List.getElem_cons_succ, List.setIfInBounds_toArray, List.set_cons_zero, List.set_cons_succ]
        refine wpAnyH_done (by kernel_rfl) ?_ _
        change wpList _ _ _ _ _ _
        simp only [List.drop_succ_cons, List.drop_zero]
        clear hHeld
        go_wp2_with (at_builtin; refine wpList_append_own_at _ rfl _ _ 50 rfl V.heap.size 3 i0 (.int .i64 0) 1 8 Try.underlying50 hi hz0 hz1 hz2 rfl (by decide) _ _ _ rfl R17.out.s.r2 ⟨W16.heap.size, 0, none⟩ 1 1 [.int .i64 st] rfl rfl (one_news T17.out.c) (by simp [Value.oneCell']) (by have := HL.out; omega) (by have := HL.out; omega) R17.out.s.b.size ?_; intro v2' W9 hown hgrow _ hat; have HX := Lib.hid (R17.out.s.g2 hgrow hown hat); clear hown hgrow hat)
        go_roundw
        case rel => exact ⟨k + 1, by omega, by go_num, HAN.out, by have h := HX.out; rw [HEQ.out.1, HEQ.out.2.1, HEQ.out.2.2.1, HYY.out.1, HYY.out.2.1, HYY.out.2.2] at h; exact h⟩
        case measure => simp [intOf]; omega
    · obtain rfl : n = k := by omega
      have hbw0 := hR.b
      obtain ⟨hE0, hgE⟩ := HG0.out hA
      subst hE0
      have HSM := Lib.hid (fun i (hi : i < n) => smpB_true (allS_at hA hi))
      obtain ⟨bh, oh, ch, hv9, _, lh, hch⟩ := allTo_row (RowL.of hR.r0) (by omega)
      obtain ⟨bv, ov, cv, hv10, _, lvv, hcv⟩ := allTo_row (RowL.of hR.r1) (by omega)
      have it0 := RowL.of hR.r2
      obtain ⟨at2, ct2, hv11⟩ := it0.ints.slice
      subst hv9
      subst hv10
      subst hv11
      have hPT : Prt (trnTo zs n) := ⟨by rw [trnTo_len]; omega, by rw [trnTo_len]; omega, trnTo_part n⟩
      rw [trnTo_len] at it0
      rw [trnTo_len]
      obtain ⟨wH, hwH⟩ : ∃ x, x = mx (sumF (sqH zs (-lv)) n / (n : Int) - n1) := ⟨_, rfl⟩
      obtain ⟨wV, hwV⟩ : ∃ x, x = mx (sumF (sqV zs (-lv)) n / (n : Int) - n1) := ⟨_, rfl⟩
      obtain ⟨sH, hsH⟩ : ∃ x, x = mx (-(-sumF (sqH zs lv) n / (n : Int)) - n0) := ⟨_, rfl⟩
      obtain ⟨sV, hsV⟩ : ∃ x, x = mx (-(-sumF (sqV zs lv) n / (n : Int)) - n0) := ⟨_, rfl⟩
      obtain ⟨ml, hml⟩ : ∃ x, x = matLo (sumF (prd zs (-lv)) n) (sumF (sqH zs lv) n) (sumF (sqV zs lv) n) := ⟨_, rfl⟩
      obtain ⟨mh, hmh⟩ : ∃ x, x = matHi (sumF (prd zs lv) n) (sumF (sqH zs (-lv)) n) (sumF (sqV zs (-lv)) n) := ⟨_, rfl⟩
      have bS : 0 ≤ sumF (sqV zs lv) n ∧ sumF (sqV zs lv) n ≤ 1181569 * n := sumF_bd fun i hi => sq_bd (mg_bd (by omega) (by have := HSM.out i hi; omega)) (mg_bd (by omega) (by have := HSM.out i hi; omega))
      have bV2 := (mx_div (c := (n : Int)) (n := n0) ⟨bS.1, by omega⟩ (by omega) (by omega)).2
      have bSH : 0 ≤ sumF (sqH zs lv) n ∧ sumF (sqH zs lv) n ≤ 1181569 * n := sumF_bd fun i hi => sq_bd (mg_bd (by omega) (by have := HSM.out i hi; omega)) (mg_bd (by omega) (by have := HSM.out i hi; omega))
      have bH2 := (mx_div (c := (n : Int)) (n := n0) ⟨bSH.1, by omega⟩ (by omega) (by omega)).2
      have bH : 0 ≤ wH ∧ wH ≤ sH ∧ sH ≤ 1073741824 := by rw [hwH, hsH]; exact ⟨mx_nn _, pow_le (by omega) (sumF_le fun i _ => sqH_le rr1.1 i) (by omega), by omega⟩
      have bV : 0 ≤ wV ∧ wV ≤ sV := by rw [hwV, hsV]; exact ⟨mx_nn _, pow_le (by omega) (sumF_le fun i _ => (by obtain ⟨a, b⟩ := mg_le (x := (zs i).v) rr1.1; exact Int.le_trans (Int.mul_le_mul_of_nonneg_right b a) (Int.mul_le_mul_of_nonneg_left b (by omega)))) (by omega)⟩
      rw [← hsV] at bV2
      clear bS bSH bH2
      have HGE : Hid (g = if wH = 0 then qE sH else phG (baseE wH sH (ratLo wV sH) (ratHi sV wH) ml mh) kd ph n (valsB (stpTo zs kd n (n - 1)) false) (valsB (stpTo zs kd n (n - 1)) true) (trnTo zs n)) := Lib.hid (by rw [hgE]; unfold hearOf; rw [← hwH, ← hwV, ← hsH, ← hsV, hearE_eq ⟨bH.1, bH.2.1⟩, ← hml, ← hmh])
      have hsr : SmpsAt wr b off n zs := (HS.out.keep BV.out hb).keep hbw0 (Nat.lt_of_lt_of_le hb BV.out.size)
      have lb : b < wr.heap.size := Nat.lt_of_lt_of_le (Nat.lt_of_lt_of_le hb BV.out.size) hbw0.size
      have HPH : Hid (∀ W : World, Below wr.heap.size wr W → Calls Try.prog 65 #[.agg #[.int .i64 lv, .int .i64 ph, .int .i64 n0, .int .i64 n1], .slice (some ⟨bh, oh, none⟩) n ch] W fun e w' => e = .returned (.agg #[.int .i64 (wH), .int .i64 (sH)]) ∧ Below W.heap.size W w') := Lib.hid fun W hW => by rw [hwH, hsH]; exact power_any lv ph n0 n1 bh oh n ch (fun i => (zs i).h) W (by omega) (by omega) rr1 (by omega) (Nat.lt_of_lt_of_le lh hW.size) (fun j hj => keepB hW lh (hch j hj)) (fun j hj => by have := HSM.out j hj; omega)
      have HPV : Hid (∀ W : World, Below wr.heap.size wr W → Calls Try.prog 65 #[.agg #[.int .i64 lv, .int .i64 ph, .int .i64 n0, .int .i64 n1], .slice (some ⟨bv, ov, none⟩) n cv] W fun e w' => e = .returned (.agg #[.int .i64 (wV), .int .i64 (sV)]) ∧ Below W.heap.size W w') := Lib.hid fun W hW => by rw [hwV, hsV]; exact power_any lv ph n0 n1 bv ov n cv (fun i => (zs i).v) W (by omega) (by omega) rr1 (by omega) (Nat.lt_of_lt_of_le lvv hW.size) (fun j hj => keepB hW lvv (hcv j hj)) (fun j hj => by have := HSM.out j hj; omega)
      have HM : Hid (∀ W : World, Below wr.heap.size wr W → Calls Try.prog 67 #[.agg #[.int .i64 lv, .int .i64 ph, .int .i64 n0, .int .i64 n1], .slice (some ⟨bh, oh, none⟩) n ch, .slice (some ⟨bv, ov, none⟩) n cv] W fun e w' => e = .returned (.agg #[.int .i64 (ml), .int .i64 (mh)]) ∧ Below W.heap.size W w') := Lib.hid fun W hW => by rw [hml, hmh]; exact refmatch_any lv ph n0 n1 bh oh n ch bv ov cv (fun i => (zs i).h) (fun i => (zs i).v) W (by omega) (by omega) rr1 (Nat.lt_of_lt_of_le lh hW.size) (fun j hj => keepB hW lh (hch j hj)) (fun j hj => by have := HSM.out j hj; omega) (Nat.lt_of_lt_of_le lvv hW.size) (fun j hj => keepB hW lvv (hcv j hj)) (fun j hj => by have := HSM.out j hj; omega)
      have HST : Hid (∀ W : World, Below wr.heap.size wr W → Calls Try.prog 68 #[.agg #[.int .i64 l, .int .i64 kd, .int .i64 f, .int .i64 s, .int .i64 (n : Int)], .slice (some ⟨b, off, none⟩) n cap] W (StRet W zs kd n n)) := Lib.hid fun W hW => Steps_any l kd f s n b off n cap zs W HKD.out (by omega) (by omega) rfl tc2 (Nat.lt_of_lt_of_le lb hW.size) (hsr.keep hW lb) (fun i hi => (HSM.out i hi).2.1)
      obtain ⟨x2, hx2⟩ : ∃ x, x = trnTo zs n := ⟨_, rfl⟩
      rw [← hx2] at it0 hPT
      have HTT : Hid (∀ W : World, Below wr.heap.size wr W → Calls Try.prog 69 #[.slice at2 n ct2, .int .i64 ph] W fun e w' => e = .returned (.bool (decide (arcW x2 + 4 * ph < 32768))) ∧ Below W.heap.size W w') := Lib.hid fun W hW => by exact (it0.keep hW).tog hPT ph rr2
      obtain ⟨sl2, hsl2⟩ : ∃ x, x = 2 * ph * (n : Int) := ⟨_, rfl⟩
      have ps2 := Int.mul_nonneg (show 0 ≤ 2 * ph by omega) (show 0 ≤ (n : Int) by omega)
      have ps3 := Int.mul_le_mul_of_nonneg_left (show (n : Int) ≤ 64 by omega) (show 0 ≤ 2 * ph by omega)
      have bsl2 : 0 ≤ sl2 ∧ sl2 ≤ 1000000 := by rw [hsl2]; omega
      have hsl3 : 2 * (n : Int) * ph = sl2 := by rw [hsl2, Int.mul_right_comm]
      obtain ⟨lo2, hlo2⟩ : ∃ x, x = meanLo (arcB x2) x2 sl2 := ⟨_, rfl⟩
      obtain ⟨hi2, hhi2⟩ : ∃ x, x = meanHi (arcB x2) x2 sl2 := ⟨_, rfl⟩
      have HMT : Hid (∀ W : World, Below wr.heap.size wr W → Calls Try.prog 70 #[.slice at2 n ct2, .int .i64 sl2] W fun e w' => e = .returned (.agg #[.int .i64 (lo2), .int .i64 (hi2)]) ∧ Below W.heap.size W w') := Lib.hid fun W hW => by rw [hlo2, hhi2]; exact (it0.keep hW).mean hPT sl2 bsl2
      have HN2 := Lib.hid (And.intro hx2 (And.intro hsl2 (And.intro hlo2 hhi2)))
      have HS3 := Lib.hid hsl3
      clear hwH hwV hsH hsV hml hmh hgE hsr hch hcv it0 hPT hx2 hsl2 hlo2 hhi2 ps2 ps3 hR hA HG0 HG3 hlt hk hsl3 lh lvv lb
      obtain ⟨t0, t1, t2, t3, t4, r0, r1, r2, r3, ho, hzz, hbw⟩ := (PV.out.keep hbw0 PV.out.z)
      clear ho
      go_wp2_with fail
      refine (HPH.out _ (Below.refl _ _)).mono ?_; rintro e' Y1 ⟨rfl, hb1⟩
      have P1 := Lib.hid ((PV.out.keep hbw0 PV.out.z).keep hb1 hzz)
      have HBY : Hid (∀ W : World, Below Y1.heap.size Y1 W → Below wr.heap.size wr W) := Lib.hid fun W h => hb1.trans (h.mono hb1.size)
      clear t0 t1 t2 t3 t4 r0 r1 r2 r3 hzz hbw hbw0 PV HPH hb1 BV HS
      have BZ := Lib.hid (below_alloc Y1 (.cells #[.int .i64 1, .int .i64 wH, .int .i64 sH, .int .i64 0, .int .i64 0, .int .i64 0, .int .i64 0, .int .i64 0, .int .i64 0, .int .i64 0, .int .i64 0, .int .i64 0, .int .i64 0, .int .i64 0] 30))
      have KZ := Lib.hid (show EchoG (Y1.alloc (.cells #[.int .i64 1, .int .i64 wH, .int .i64 sH, .int .i64 0, .int .i64 0, .int .i64 0, .int .i64 0, .int .i64 0, .int .i64 0, .int .i64 0, .int .i64 0, .int .i64 0, .int .i64 0, .int .i64 0] 30)) Y1.heap.size (b0E wH sH) from EchoG.new Y1 (b0E wH sH) 30)
      by_cases hw0 : wH = 0
      · exact absurd HV.out (by rw [HGE.out, if_pos hw0]; exact (show ¬ (1 : Int) = 3 by decide))
      · have ew : (wH == 0) = false := beq_eq_false_iff_ne.2 hw0
        have HQ : Hid (g = phG (baseE wH sH (ratLo wV sH) (ratHi sV wH) ml mh) kd ph n (valsB (stpTo zs kd n (n - 1)) false) (valsB (stpTo zs kd n (n - 1)) true) x2) := Lib.hid (by rw [HGE.out, if_neg hw0, HN2.out.1])
        obtain ⟨x0, hx0⟩ : ∃ x, x = valsB (stpTo zs kd n (n - 1)) false := ⟨_, rfl⟩
        obtain ⟨x1, hx1⟩ : ∃ x, x = valsB (stpTo zs kd n (n - 1)) true := ⟨_, rfl⟩
        rw [← hx0, ← hx1] at HQ
        have len0 := valsB_len (stpTo zs kd n (n - 1)) false
        have len1 := valsB_len (stpTo zs kd n (n - 1)) true
        have len2 := stpTo_len zs kd n (n - 1)
        have ne0 := stp_false (zs := zs) (m := n - 1) (TR0.out) (by omega)
        have q0 := valsB_part (zs := zs) (kd := kd) (c := (n : Int)) (t := false) (n - 1)
        have q1 := valsB_part (zs := zs) (kd := kd) (c := (n : Int)) (t := true) (n - 1)
        rw [← hx0] at len0 ne0 q0
        rw [← hx1] at len1 q1
        have HP0 : Hid (Prt x0) := Lib.hid ⟨List.length_pos_iff.2 ne0, by omega, q0⟩
        have HP1 : Hid (x1 = [] ∨ Prt x1) := Lib.hid (by by_cases h : 1 ≤ x1.length; exact .inr ⟨h, by omega, q1⟩; exact .inl (len_none h))
        have HX01 := Lib.hid (And.intro hx0 hx1)
        clear len0 len1 len2 ne0 q0 q1 hx0 hx1
        clear HGE
        obtain ⟨t0, t1, t2, t3, t4, r0, r1, r2, r3, ho, hzz, hbw⟩ := (P1.out.keep BZ.out P1.out.z)
        clear ho
        obtain ⟨Z1, hZ1⟩ : ∃ A, A = Y1.alloc (.cells #[.int .i64 1, .int .i64 wH, .int .i64 sH, .int .i64 0, .int .i64 0, .int .i64 0, .int .i64 0, .int .i64 0, .int .i64 0, .int .i64 0, .int .i64 0, .int .i64 0, .int .i64 0, .int .i64 0] 30) := ⟨_, rfl⟩
        rw [← hZ1] at BZ KZ t0 t1 t2 t3 t4 r0 r1 r2 r3 hzz hbw
        rw [hZ1] at t0 t1 t2 t3 t4 r0 r1 r2 r3 hzz hbw
        have lq : Y1.heap.size < Z1.heap.size := by rw [hZ1, World.size_alloc]; omega
        go_wp2_with fail
        rw [← hZ1]
        clear hZ1 t0 t1 t2 t3 t4 r0 r1 r2 r3 hzz hbw
        refine (HPV.out _ (HBY.out _ BZ.out)).mono ?_; rintro e' Y2 ⟨rfl, hb2⟩
        have BY2 := Lib.hid (BZ.out.trans (hb2.mono BZ.out.size))
        have KY2 := Lib.hid (KZ.out.keep hb2 lq)
        have lq2 : Y1.heap.size < Y2.heap.size := Nat.lt_of_lt_of_le lq hb2.size
        clear HPV hb2 BZ KZ lq
        obtain ⟨Z2, hZ2⟩ : ∃ A, A = Y2.alloc (.cells #[.int .i64 wV, .int .i64 sV] 25) := ⟨_, rfl⟩
        have bz2 : Below Y2.heap.size Y2 Z2 := by rw [hZ2]; exact below_alloc _ _
        have k2 := KY2.out.keep bz2 lq2
        have KZ2 := Lib.hid k2
        have BZ2 := Lib.hid (BY2.out.trans (bz2.mono BY2.out.size))
        have HS18 := Lib.hid (show (fun w' : World => w'.cell? ⟨Y2.heap.size, 0, none⟩ = some (.int .i64 wV) ∧ w'.cell? ⟨Y2.heap.size, 1, none⟩ = some (.int .i64 sV) ∧ w'.cell? ⟨Y1.heap.size, 1, none⟩ = some (.int .i64 wH) ∧ w'.cell? ⟨Y1.heap.size, 2, none⟩ = some (.int .i64 sH) ∧ Below Z2.drew.heap.size Z2.drew w') Z2.drew from ⟨(show Z2.cell? _ = _ by rw [hZ2]; exact alloc_new rfl rfl), (show Z2.cell? _ = _ by rw [hZ2]; exact alloc_new rfl rfl), k2.c 1 (by decide), k2.c 2 (by decide), Below.refl _ _⟩)
        have lz2 : Y1.heap.size < Z2.heap.size := Nat.lt_of_lt_of_le lq2 bz2.size
        clear k2 bz2 KY2 BY2
        obtain ⟨rl, hrl⟩ : ∃ x, x = ratLo wV sH := ⟨_, rfl⟩
        obtain ⟨rh, hrh⟩ : ∃ x, x = ratHi sV wH := ⟨_, rfl⟩
        rw [← hrl, ← hrh] at HQ
        obtain ⟨qa, hqa⟩ : ∃ x, x = 1000 * wV / sH := ⟨_, rfl⟩
        obtain ⟨qb, hqb⟩ : ∃ x, x = -(-(1000 * sV) / wH) := ⟨_, rfl⟩
        have m1 : min 1000000 qa = rl := by rw [hrl]; unfold ratLo mn; rw [← hqa]; split <;> omega
        have m2 : (if qa < 1000000 then qa else 1000000) = rl := by rw [hrl]; unfold ratLo mn; rw [← hqa]
        have m3 : min 1000000 qb = rh := by rw [hrh]; unfold ratHi mn; rw [← hqb]; split <;> omega
        have m4 : (if qb < 1000000 then qb else 1000000) = rh := by rw [hrh]; unfold ratHi mn; rw [← hqb]
        have s1 : (sH == 0) = false := beq_eq_false_iff_ne.2 (by omega)
        have s2 : ¬ sH = 0 := by omega
        have i1 : IntKind.i64.wrap (1000 * wV) = 1000 * wV := IntWalk.i64_in _ (by omega)
        have i2 : IntKind.i64.wrap (1000 * sV) = 1000 * sV := IntWalk.i64_in _ (by omega)
        have i3 : (1000 * wV).tdiv sH = qa := by rw [hqa]; exact Int.tdiv_eq_ediv_of_nonneg (by omega)
        have bqa : 0 ≤ qa ∧ qa ≤ 1000 * wV := by rw [hqa]; exact ⟨Int.ediv_nonneg (by omega) (by omega), Int.ediv_le_self _ (by omega)⟩
        have i4 : IntKind.i64.wrap qa = qa := IntWalk.i64_in _ (by omega)
        have HU : Hid (∀ W : World, Calls Try.prog 66 #[.int .i64 (1000 * sV), .int .i64 wH] W fun e w' => e = .returned (.int .i64 qb) ∧ W = w') := Lib.hid fun W => by rw [hqb]; exact Up_any (1000 * sV) wH W (by omega) (by omega) (by omega)
        clear hrl hrh hqa hqb bqa
        go_wp2_with fail
        rw [← hZ2]
        clear hZ2
        refine wp_region_held_tail (S := (fun w' : World => w'.cell? ⟨Y2.heap.size, 0, none⟩ = some (.int .i64 wV) ∧ w'.cell? ⟨Y2.heap.size, 1, none⟩ = some (.int .i64 sV) ∧ w'.cell? ⟨Y1.heap.size, 1, none⟩ = some (.int .i64 wH) ∧ w'.cell? ⟨Y1.heap.size, 2, none⟩ = some (.int .i64 sH) ∧ Below Z2.drew.heap.size Z2.drew w')) 18 (by kernel_rfl) (by kernel_rfl) HS18.out (fun hHeld => ?_)
        obtain ⟨D2, hD2⟩ : ∃ D, D = Z2.drew := ⟨_, rfl⟩
        have lD : Y1.heap.size < Z2.drew.heap.size := lz2
        have KD := Lib.hid (KZ2.out.keep (Below.refl Z2.heap.size Z2).drew lz2)
        have BD := Lib.hid BZ2.out.drew
        rw [← hD2] at hHeld KD BD lD
        rw [← hD2]
        clear hD2 HS18 KZ2 BZ2 lz2
        refine wpAnyH_take (i := 0) (v := ?v0_13) rfl (by kernel_rfl) (by kernel_rfl) (by kernel_rfl) (fun _ _ _ h => h) (Or.inl ⟨by rfl, ?hy0_13⟩) (by assumption) ?rest0_13
        case hy0_13 => (intro w hSw; (try dsimp only at hSw); go_simp; (try with_reducible rfl))
        try simp only [Act.put, List.getElem_toArray, List.getElem_cons_zero, List.getElem_cons_succ, List.setIfInBounds_toArray, List.set_cons_zero, List.set_cons_succ]
        refine wpAnyH_take (i := 1) (v := ?v1_14) rfl (by kernel_rfl) (by kernel_rfl) (by kernel_rfl) (fun _ _ _ h => h) (Or.inl ⟨by rfl, ?hy1_14⟩) (by assumption) ?rest1_14
        case hy1_14 => (intro w hSw; (try dsimp only at hSw); go_simp; (try with_reducible rfl))
        try simp only [Act.put, List.getElem_toArray, List.getElem_cons_zero, List.getElem_cons_succ, List.setIfInBounds_toArray, List.set_cons_zero, List.set_cons_succ]
        refine wpAnyH_take (i := 2) (v := ?v2_15) rfl (by kernel_rfl) (by kernel_rfl) (by kernel_rfl) (fun _ _ _ h => h) (Or.inl ⟨by rfl, ?hy2_15⟩) (by assumption) ?rest2_15
        case hy2_15 => (intro w hSw; (try dsimp only at hSw); go_simp; (try with_reducible rfl))
        try simp only [Act.put, List.getElem_toArray, List.getElem_cons_zero, List.getElem_cons_succ, List.setIfInBounds_toArray, List.set_cons_zero, List.set_cons_succ]
        refine wpAnyH_take (i := 3) (v := ?v3_16) rfl (by kernel_rfl) (by kernel_rfl) (by kernel_rfl) (fun _ _ _ h => h) (Or.inl ⟨by rfl, ?hy3_16⟩) (by assumption) ?rest3_16
        case hy3_16 => (intro w hSw; (try dsimp only at hSw); go_simp; (try with_reducible rfl))
        try simp only [Act.put, List.getElem_toArray, List.getElem_cons_zero, List.getElem_cons_succ, List.setIfInBounds_toArray, List.set_cons_zero, List.set_cons_succ]
        refine wpAnyH_take (i := 4) (v := ?v4_17) rfl (by kernel_rfl) (by kernel_rfl) (by kernel_rfl) (fun _ _ _ h => h) (Or.inl ⟨by rfl, ?hy4_17⟩) (by assumption) ?rest4_17
        case hy4_17 => (intro w hSw; (try dsimp only at hSw); go_simp; (try with_reducible rfl))
        try simp only [Act.put, List.getElem_toArray, List.getElem_cons_zero, List.getElem_cons_succ, List.setIfInBounds_toArray, List.set_cons_zero, List.set_cons_succ]
        refine wpAnyH_take (i := 5) (v := ?v5_18) rfl (by kernel_rfl) (by kernel_rfl) (by kernel_rfl) (fun _ _ _ h => h) (Or.inl ⟨by rfl, ?hy5_18⟩) (by assumption) ?rest5_18
        case hy5_18 => (intro w hSw; (try dsimp only at hSw); go_simp; (try with_reducible rfl))
        try simp only [Act.put, List.getElem_toArray, List.getElem_cons_zero, List.getElem_cons_succ, List.setIfInBounds_toArray, List.set_cons_zero, List.set_cons_succ]
        refine wpAnyH_take (i := 6) (v := ?v6_19) rfl (by kernel_rfl) (by kernel_rfl) (by kernel_rfl) (fun _ _ _ h => h) (Or.inl ⟨by rfl, ?hy6_19⟩) (by assumption) ?rest6_19
        case hy6_19 => (intro w hSw; (try dsimp only at hSw); go_simp; (try with_reducible rfl))
        try simp only [Act.put, List.getElem_toArray, List.getElem_cons_zero, List.getElem_cons_succ, List.setIfInBounds_toArray, List.set_cons_zero, List.set_cons_succ]
        refine wpAnyH_take (i := 7) (v := ?v7_20) rfl (by kernel_rfl) (by kernel_rfl) (by kernel_rfl) (fun _ _ _ h => h) (Or.inl ⟨by rfl, ?hy7_20⟩) (by assumption) ?rest7_20
        case hy7_20 => (intro w hSw; (try dsimp only at hSw); go_simp; (try with_reducible rfl))
        try simp only [Act.put, List.getElem_toArray, List.getElem_cons_zero, List.getElem_cons_succ, List.setIfInBounds_toArray, List.set_cons_zero, List.set_cons_succ]
        refine wpAnyH_take (i := 8) (v := ?v8_21) rfl (by kernel_rfl) (by kernel_rfl) (by kernel_rfl) (fun _ _ _ h => h) (Or.inl ⟨by rfl, ?hy8_21⟩) (by assumption) ?rest8_21
        case hy8_21 => (intro w hSw; (try dsimp only at hSw); go_simp; (try with_reducible rfl))
        try simp only [Act.put, List.getElem_toArray, List.getElem_cons_zero, List.getElem_cons_succ, List.setIfInBounds_toArray, List.set_cons_zero, List.set_cons_succ]
        refine wpAnyH_take (i := 9) (v := ?v9_22) rfl (by kernel_rfl) (by kernel_rfl) (by kernel_rfl) (fun _ _ _ h => h) (Or.inl ⟨by rfl, ?hy9_22⟩) (by assumption) ?rest9_22
        case hy9_22 => (intro w hSw; (try dsimp only at hSw); go_simp; (try with_reducible rfl))
        try simp only [Act.put, List.getElem_toArray, List.getElem_cons_zero, List.getElem_cons_succ, List.setIfInBounds_toArray, List.set_cons_zero, List.set_cons_succ]
        refine wpAnyH_take (i := 10) (v := ?v10_23) rfl (by kernel_rfl) (by kernel_rfl) (by kernel_rfl) (fun _ _ _ h => h) (Or.inl ⟨by rfl, ?hy10_23⟩) (by assumption) ?rest10_23
        case hy10_23 => (intro w hSw; (try dsimp only at hSw); go_simp; (try with_reducible rfl))
        try simp only [Act.put, List.getElem_toArray, List.getElem_cons_zero, List.getElem_cons_succ, List.setIfInBounds_toArray, List.set_cons_zero, List.set_cons_succ]
        refine wpAnyH_take (i := 11) (v := ?v11_24) rfl (by kernel_rfl) (by kernel_rfl) (by kernel_rfl) (fun _ _ _ h => h) (Or.inl ⟨by rfl, ?hy11_24⟩) (by assumption) ?rest11_24
        case hy11_24 => (intro w hSw; (try dsimp only at hSw); go_simp; (try with_reducible rfl))
        try simp only [Act.put, List.getElem_toArray, List.getElem_cons_zero, List.getElem_cons_succ, List.setIfInBounds_toArray, List.set_cons_zero, List.set_cons_succ]
        refine wpAnyH_take (i := 12) (v := ?v12_25) rfl (by kernel_rfl) (by kernel_rfl) (by kernel_rfl) (fun _ _ _ h => h) (Or.inl ⟨by rfl, ?hy12_25⟩) (by assumption) ?rest12_25
        case hy12_25 => (intro w hSw; (try dsimp only at hSw); go_simp; (try with_reducible rfl))
        try simp only [Act.put, List.getElem_toArray, List.getElem_cons_zero, List.getElem_cons_succ, List.setIfInBounds_toArray, List.set_cons_zero, List.set_cons_succ]
        refine wpAnyH_take (i := 13) (v := ?v13_26) rfl (by kernel_rfl) (by kernel_rfl) (by kernel_rfl) (fun _ _ _ h => h) (Or.inl ⟨by rfl, ?hy13_26⟩) (by assumption) ?rest13_26
        case hy13_26 => (intro w hSw; (try dsimp only at hSw); go_simp; (try with_reducible rfl))
        try simp only [Act.put, List.getElem_toArray, List.getElem_cons_zero, List.getElem_cons_succ, List.setIfInBounds_toArray, List.set_cons_zero, List.set_cons_succ]
        refine wpAnyH_ready (rs := [14]) (by kernel_rfl) (by simp) ?_
        refine AllReadyH.cons rfl (fun K hK => ?_) AllReadyH.nil
        go_simp
        refine (HU.out _).mono ?_; rintro e' w' ⟨rfl, rfl⟩
        refine hK.out _ _ hHeld (fun hHeld => ?_)
        clear hK K
        try simp only [Act.put, List.getElem_toArray, List.getElem_cons_zero, List.getElem_cons_succ, List.setIfInBounds_toArray, List.set_cons_zero, List.set_cons_succ]
        refine wpAnyH_take (i := 15) (v := ?v15_27) rfl (by kernel_rfl) (by kernel_rfl) (by kernel_rfl) (fun _ _ _ h => h) (Or.inl ⟨by rfl, ?hy15_27⟩) (by assumption) ?rest15_27
        case hy15_27 => (intro w hSw; (try dsimp only at hSw); go_simp; (try with_reducible rfl))
        try simp only [Act.put, List.getElem_toArray, List.getElem_cons_zero, List.getElem_cons_succ, List.setIfInBounds_toArray, List.set_cons_zero, List.set_cons_succ]
        refine wpAnyH_take (i := 16) (v := ?v16_28) rfl (by kernel_rfl) (by kernel_rfl) (by kernel_rfl) (fun _ _ _ h => h) (Or.inl ⟨by rfl, ?hy16_28⟩) (by assumption) ?rest16_28
        case hy16_28 => (intro w hSw; (try dsimp only at hSw); go_simp; (try with_reducible rfl))
        try simp only [Act.put, List.getElem_toArray, List.getElem_cons_zero, List.getElem_cons_succ, List.setIfInBounds_toArray, List.set_cons_zero, List.set_cons_succ]
        refine wpAnyH_take (i := 17) (v := ?v17_29) rfl (by kernel_rfl) (by kernel_rfl) (by kernel_rfl) (fun _ _ _ h => h) (Or.inl ⟨by rfl, ?hy17_29⟩) (by assumption) ?rest17_29
        case hy17_29 => (intro w hSw; (try dsimp only at hSw); go_simp; (try with_reducible rfl))
        try simp only [Act.put, List.getElem_toArray, List.getElem_cons_zero, List.getElem_cons_succ, List.setIfInBounds_toArray, List.set_cons_zero, List.set_cons_succ]
        refine wpAnyH_done (by kernel_rfl) ?_ _
        change wpList _ _ _ _ _ _
        simp only [List.drop_succ_cons, List.drop_zero]
        clear hHeld HU m1 m2 m3 m4 s1 s2 i1 i2 i3 i4
        have ec8 := KD.out.c 8 (by decide)
        have ef8 := KD.out.f 8 (by decide)
        have ec9 := KD.out.c 9 (by decide)
        have ef9 := KD.out.f 9 (by decide)
        have B3 := Lib.hid ((BD.out.setCell (p := ⟨Y1.heap.size, 8, none⟩) (Nat.le_refl _) (.int .i64 rl)).setCell (p := ⟨Y1.heap.size, 9, none⟩) (Nat.le_refl _) (.int .i64 rh))
        have E3 := Lib.hid ((KD.out.set (k := 8) (v := rl)).set (k := 9) (v := rh))
        obtain ⟨t0, t1, t2, t3, t4, r0, r1, r2, r3, ho, hzz, hbw⟩ := (P1.out.keep B3.out P1.out.z)
        clear ho
        go_wp2_with fail
        refine (HM.out _ (HBY.out _ B3.out)).mono ?_; rintro e' Y3 ⟨rfl, hb3⟩
        have KY3 := Lib.hid (E3.out.keep hb3 (by simpa using lD))
        have lq3 : Y1.heap.size < Y3.heap.size := Nat.lt_of_lt_of_le (by simpa using lD) hb3.size
        have BY3 := Lib.hid (B3.out.trans (hb3.mono B3.out.size))
        clear B3 E3 hb3 HM KD BD lD lq2 ec8 ef8 ec9 ef9 t0 t1 t2 t3 t4 r0 r1 r2 r3 hzz hbw
        have ec10 := KY3.out.c 10 (by decide)
        have ef10 := KY3.out.f 10 (by decide)
        have ec11 := KY3.out.c 11 (by decide)
        have ef11 := KY3.out.f 11 (by decide)
        have B4 := Lib.hid ((BY3.out.setCell (p := ⟨Y1.heap.size, 10, none⟩) (Nat.le_refl _) (.int .i64 ml)).setCell (p := ⟨Y1.heap.size, 11, none⟩) (Nat.le_refl _) (.int .i64 mh))
        have E4 := Lib.hid ((KY3.out.set (k := 10) (v := ml)).set (k := 11) (v := mh))
        obtain ⟨t0, t1, t2, t3, t4, r0, r1, r2, r3, ho, hzz, hbw⟩ := (P1.out.keep B4.out P1.out.z)
        clear ho
        go_wp2_with fail
        refine (HST.out _ (HBY.out _ B4.out)).mono ?_; rintro e' Y4 ⟨v0, v1, rfl, j0, j1, hb4⟩
        rw [← HX01.out.1] at j0
        rw [← HX01.out.2] at j1
        have i0' := j0.mono (n1 := Y1.heap.size + 1) (by have := B4.out.size; omega)
        have i1' := j1.mono (n1 := Y1.heap.size + 1) (by have := B4.out.size; omega)
        obtain ⟨a0, q0, hv0⟩ := j0.ints.slice
        obtain ⟨a1, q1, hv1⟩ := j1.ints.slice
        subst hv0
        subst hv1
        have lY4 : Y1.heap.size < Y4.heap.size := Nat.lt_of_lt_of_le (by simpa using lq3) hb4.size
        obtain ⟨be, hbe⟩ : ∃ e, e = baseE wH sH rl rh ml mh := ⟨_, rfl⟩
        obtain ⟨Ys, hYs⟩ : ∃ Z, Z = Y4.setCell ⟨Y1.heap.size, 0, none⟩ (.int .i64 3) := ⟨_, rfl⟩
        have zYs : Ys.heap.size = Y4.heap.size := by rw [hYs]; simp
        obtain ⟨L0, hL0⟩ : ∃ A, A = Ys.alloc (.cells #[.slice a0 x0.length q0, .slice a1 x1.length q1] 117) := ⟨_, rfl⟩
        have bz4 : Below Ys.heap.size Ys L0 := by rw [hL0]; exact below_alloc _ _
        have lz4 : Y4.heap.size < L0.heap.size := by rw [hL0, World.size_alloc, zYs]; omega
        have h5 := E4.out.keep hb4 (by simpa using lq3)
        have b5 := B4.out.trans (hb4.mono B4.out.size)
        have ec0 := h5.c 0 (by decide)
        have ef0 := h5.f 0 (by decide)
        have hp4 : Ph Y1 L0 (upd be 0 3) Y4.heap.size (Y1.heap.size + 1) (.slice a0 x0.length q0) (.slice a1 x1.length q1) x0 x1 := by
          have h1 := h5.set (k := 0) (v := 3)
          have h2 := b5.setCell (p := ⟨Y1.heap.size, 0, none⟩) (Nat.le_refl _) (.int .i64 3)
          have h3 := i0'.set (B := Y1.heap.size) (i := 0) (x := .int .i64 3) (by omega)
          have h4 := i1'.set (B := Y1.heap.size) (i := 0) (x := .int .i64 3) (by omega)
          rw [← hYs] at h1 h2 h3 h4
          rw [hbe]
          exact ⟨h1.keep bz4 (by omega), h2.trans (bz4.mono (by omega)), by rw [hL0, ← zYs]; exact alloc_new rfl rfl, by rw [hL0, ← zYs]; exact alloc_new rfl rfl, h3.keep bz4, h4.keep bz4, lY4, lz4, by omega⟩
        have be7 : be 7 = 0 ∧ be 5 = 0 ∧ be 6 = 0 := by rw [hbe]; exact ⟨rfl, rfl, rfl⟩
        rw [← hbe] at HQ
        have PL := Lib.hid hp4
        clear B4 E4 hb4 HST lq3 BY3 KY3 ec10 ef10 ec11 ef11 t0 t1 t2 t3 t4 r0 r1 r2 r3 hzz hbw j0 j1 i0' i1' bz4 hp4 hbe h5 b5 zYs
        have HBE := Lib.hid be7
        clear be7
        go_wp2_with fail
        rw [← hYs, ← hL0]
        clear hL0 hYs ec0 ef0 lz4 HX01
        obtain ⟨T0, hT0⟩ : ∃ t, t = decide (arcW x0 + 4 * ph < 32768) := ⟨_, rfl⟩
        obtain ⟨T1, hT1⟩ : ∃ t, t = decide (arcW x1 + 4 * ph < 32768) := ⟨_, rfl⟩
        obtain ⟨T2, hT2⟩ : ∃ t, t = decide (arcW x2 + 4 * ph < 32768) := ⟨_, rfl⟩
        rw [← hT2] at HTT
        obtain ⟨W0, hW0⟩ : ∃ x, x = arcW x0 := ⟨_, rfl⟩
        obtain ⟨A1, hA1⟩ : ∃ x, x = arcW x1 := ⟨_, rfl⟩
        have bW0 := arcW_bd x0
        have bA1 := arcW_bd x1
        rw [← hW0] at bW0
        rw [← hA1] at bA1
        obtain ⟨S2, hS2⟩ : ∃ x, x = mxx W0 A1 := ⟨_, rfl⟩
        obtain ⟨K1, hK1⟩ : ∃ x, x = if T0 = true then (3 : Int) else 2 := ⟨_, rfl⟩
        obtain ⟨K2, hK2⟩ : ∃ x, x = if T1 = true then K1 else 2 := ⟨_, rfl⟩
        obtain ⟨e1, he1⟩ : ∃ e, e = upd (upd be 7 W0) 0 K1 := ⟨_, rfl⟩
        obtain ⟨e2, he2⟩ : ∃ e, e = upd (upd be 7 S2) 0 K2 := ⟨_, rfl⟩
        obtain ⟨sl0, hsl0⟩ : ∃ x, x = slk kd ph x0 := ⟨_, rfl⟩
        obtain ⟨lo0, hlo0⟩ : ∃ x, x = meanLo (arcB x0) x0 sl0 := ⟨_, rfl⟩
        obtain ⟨hi0, hhi0⟩ : ∃ x, x = meanHi (arcB x0) x0 sl0 := ⟨_, rfl⟩
        obtain ⟨sl1, hsl1⟩ : ∃ x, x = slk kd ph x1 := ⟨_, rfl⟩
        obtain ⟨lo1, hlo1⟩ : ∃ x, x = meanLo (arcB x1) x1 sl1 := ⟨_, rfl⟩
        obtain ⟨hi1, hhi1⟩ : ∃ x, x = meanHi (arcB x1) x1 sl1 := ⟨_, rfl⟩
        obtain ⟨f1, hf1⟩ : ∃ e, e = upd (upd e2 3 lo0) 4 hi0 := ⟨_, rfl⟩
        obtain ⟨f2, hf2⟩ : ∃ e, e = upd (upd f1 5 lo1) 6 hi1 := ⟨_, rfl⟩
        have HQM : Hid ((T0 && T1 && T2) = false → g = upd (upd be 7 S2) 0 2) := Lib.hid fun h => by rw [HQ.out, phG_no (by rw [← hT0, ← hT1, ← hT2]; exact h), ← hW0, ← hA1, ← hS2]
        have HQC : Hid ((T0 && T1 && T2) = true → g = upd (upd f2 12 lo2) 13 hi2) := Lib.hid fun h => by rw [HQ.out, phG_yes (by rw [← hT0, ← hT1, ← hT2]; exact h), ← hW0, ← hA1, ← hS2, ← hsl0, ← hsl1, ← hlo0, ← hhi0, ← hlo1, ← hhi1, ← HN2.out.2.1, ← HN2.out.2.2.1, ← HN2.out.2.2.2, hf2, hf1, he2, (kind_3 hK1 hK2 h).2.2.2]
        have Hsl0 := Lib.hid hsl0
        have Hsl1 := Lib.hid hsl1
        have Hlo0 := Lib.hid hlo0
        have Hhi0 := Lib.hid hhi0
        have Hlo1 := Lib.hid hlo1
        have Hhi1 := Lib.hid hhi1
        have Hf1 := Lib.hid hf1
        have Hf2 := Lib.hid hf2
        clear hsl0 hsl1 hlo0 hhi0 hlo1 hhi1 hf1 hf2
        have HT0 := Lib.hid hT0
        have HT1 := Lib.hid hT1
        have HT2 := Lib.hid hT2
        have HW0 := Lib.hid hW0
        have HA1 := Lib.hid hA1
        have HS2 := Lib.hid hS2
        have HK1 := Lib.hid hK1
        have HK2 := Lib.hid hK2
        have He1 := Lib.hid he1
        have He2 := Lib.hid he2
        clear hT0 hT1 hT2 hW0 hA1 hS2 hK1 hK2 he1 he2
        go_loopw [17] (fun v17 wr => ∃ i : Int, v17 = .int .i64 i ∧ ((i = 0 ∧ Ph Y1 wr (upd be 0 3) Y4.heap.size (Y1.heap.size + 1) (.slice a0 x0.length q0) (.slice a1 x1.length q1) x0 x1) ∨ (i = 1 ∧ Ph Y1 wr (e1) Y4.heap.size (Y1.heap.size + 1) (.slice a0 x0.length q0) (.slice a1 x1.length q1) x0 x1) ∨ (i = 2 ∧ Ph Y1 wr (e2) Y4.heap.size (Y1.heap.size + 1) (.slice a0 x0.length q0) (.slice a1 x1.length q1) x0 x1))) (fun v17 _ => (2 - intOf v17).toNat)
        case atStart => exact ⟨0, rfl, .inl ⟨rfl, PL.out⟩⟩
        case round =>
          obtain ⟨i, rfl, hI⟩ := hrel
          rcases hI with ⟨rfl, hI⟩ | ⟨rfl, hI⟩ | ⟨rfl, hI⟩
          · skip
            have HI := Lib.hid hI
            obtain ⟨t0, t1, t2, t3, t4, r0, r1, r2, r3, ho, hzz, hbw⟩ := (P1.out.keep hI.b P1.out.z)
            clear ho
            have s0 := hI.s0
            have s1 := hI.s1
            have zq := hI.z.2.1
            have z14 : Y1.heap.size < wr.heap.size := by have := hI.z; omega
            have l0 : ((x0.length : Int) == 0) = false := beq_eq_false_iff_ne.2 (by have := HP0.out.1; omega)
            have RA := Lib.hid (hI.i0.arc HP0.out)
            rw [← HW0.out] at RA
            clear hI
            have mm1 : max 0 W0 = W0 := by omega
            have mm2 : (if 0 < W0 then W0 else 0) = W0 := by split <;> omega
            have mm3 : max W0 0 = W0 := by omega
            go_wp2_with fail
            refine RA.out.mono ?_; rintro e' X ⟨rfl, hbX⟩
            have HX := Lib.hid (HI.out.keep hbX)
            clear t0 t1 t2 t3 t4 r0 r1 r2 r3 hzz hbw s0 s1 zq z14 RA HI hbX
            obtain ⟨t0, t1, t2, t3, t4, r0, r1, r2, r3, ho, hzz, hbw⟩ := (P1.out.keep HX.out.b P1.out.z)
            clear ho
            have s0 := HX.out.s0
            have s1 := HX.out.s1
            have zq := HX.out.z.2.1
            have z14 : Y1.heap.size < X.heap.size := by have := HX.out.z; omega
            have ec7 : X.cell? ⟨Y1.heap.size, 7, none⟩ = some (.int .i64 0) := (HX.out.e.c 7 (by decide)).trans (by rw [show upd be 0 3 7 = be 7 from rfl, HBE.out.1])
            have ef7 := HX.out.e.f 7 (by decide)
            go_wp2_with fail
            obtain ⟨G, hG⟩ : ∃ Z, Z = X.setCell ⟨Y1.heap.size, 7, none⟩ (.int .i64 W0) := ⟨_, rfl⟩
            have PG := Lib.hid (HX.out.set 7 W0)
            rw [← hG] at PG
            rw [← hG]
            clear t0 t1 t2 t3 t4 r0 r1 r2 r3 hzz hbw s0 s1 zq z14 ec7 ef7 HX hG
            have PD := Lib.hid (PG.out.keep (Below.refl G.heap.size G).drew)
            have HS28 := Lib.hid (show (fun w' : World => w'.cell? ⟨Y4.heap.size, 0, none⟩ = some (.slice a0 x0.length q0) ∧ w'.cell? ⟨w.heap.size + 1, 1, none⟩ = some (.int .i64 ph) ∧ Below G.drew.heap.size G.drew w') G.drew from ⟨PD.out.s0, (P1.out.keep PD.out.b P1.out.z).r1, Below.refl _ _⟩)
            have HTG : Hid (∀ W : World, Below G.drew.heap.size G.drew W → Calls Try.prog 69 #[.slice a0 x0.length q0, .int .i64 ph] W fun e w' => e = .returned (.bool T0) ∧ Below W.heap.size W w') := Lib.hid fun W hW => by rw [HT0.out]; exact (PD.out.i0.keep hW).tog HP0.out ph rr2
            refine wp_region_held_tail (S := (fun w' : World => w'.cell? ⟨Y4.heap.size, 0, none⟩ = some (.slice a0 x0.length q0) ∧ w'.cell? ⟨w.heap.size + 1, 1, none⟩ = some (.int .i64 ph) ∧ Below G.drew.heap.size G.drew w')) 6 (by kernel_rfl) (by kernel_rfl) HS28.out (fun hHeld => ?_)
            refine wpAnyH_take (i := 0) (v := ?v0_30) rfl (by kernel_rfl) (by kernel_rfl) (by kernel_rfl) (fun _ _ _ h => h) (Or.inl ⟨by rfl, ?hy0_30⟩) (by assumption) ?rest0_30
            case hy0_30 => (intro w hSw; (try dsimp only at hSw); go_simp; (try with_reducible rfl))
            try simp only [Act.put, List.getElem_toArray, List.getElem_cons_zero, List.getElem_cons_succ, List.setIfInBounds_toArray, List.set_cons_zero, List.set_cons_succ]
            refine wpAnyH_take (i := 1) (v := ?v1_31) rfl (by kernel_rfl) (by kernel_rfl) (by kernel_rfl) (fun _ _ _ h => h) (Or.inl ⟨by rfl, ?hy1_31⟩) (by assumption) ?rest1_31
            case hy1_31 => (intro w hSw; (try dsimp only at hSw); go_simp; (try with_reducible rfl))
            try simp only [Act.put, List.getElem_toArray, List.getElem_cons_zero, List.getElem_cons_succ, List.setIfInBounds_toArray, List.set_cons_zero, List.set_cons_succ]
            refine wpAnyH_take (i := 2) (v := ?v2_32) rfl (by kernel_rfl) (by kernel_rfl) (by kernel_rfl) (fun _ _ _ h => h) (Or.inl ⟨by rfl, ?hy2_32⟩) (by assumption) ?rest2_32
            case hy2_32 => (intro w hSw; (try dsimp only at hSw); go_simp; (try with_reducible rfl))
            try simp only [Act.put, List.getElem_toArray, List.getElem_cons_zero, List.getElem_cons_succ, List.setIfInBounds_toArray, List.set_cons_zero, List.set_cons_succ]
            refine wpAnyH_take (i := 3) (v := ?v3_33) rfl (by kernel_rfl) (by kernel_rfl) (by kernel_rfl) (fun _ _ _ h => h) (Or.inl ⟨by rfl, ?hy3_33⟩) (by assumption) ?rest3_33
            case hy3_33 => (intro w hSw; (try dsimp only at hSw); go_simp; (try with_reducible rfl))
            try simp only [Act.put, List.getElem_toArray, List.getElem_cons_zero, List.getElem_cons_succ, List.setIfInBounds_toArray, List.set_cons_zero, List.set_cons_succ]
            refine wpAnyH_take (i := 4) (v := ?v4_34) rfl (by kernel_rfl) (by kernel_rfl) (by kernel_rfl) (fun _ _ _ h => h) (Or.inl ⟨by rfl, ?hy4_34⟩) (by assumption) ?rest4_34
            case hy4_34 => (intro w hSw; (try dsimp only at hSw); go_simp; (try with_reducible rfl))
            try simp only [Act.put, List.getElem_toArray, List.getElem_cons_zero, List.getElem_cons_succ, List.setIfInBounds_toArray, List.set_cons_zero, List.set_cons_succ]
            refine wpAnyH_ready (rs := [5]) (by kernel_rfl) (by simp) ?_
            refine AllReadyH.cons rfl (fun K hK => ?_) AllReadyH.nil
            go_simp
            refine (HTG.out _ hHeld.2.2).mono ?_; rintro e' w1 ⟨rfl, hb_w1⟩
            refine hK.out _ _ (⟨keepW hb_w1 hHeld.1, keepW hb_w1 hHeld.2.1, hHeld.2.2.trans (hb_w1.mono hHeld.2.2.size)⟩) (fun hHeld => ?_)
            clear hK K
            try simp only [Act.put, List.getElem_toArray, List.getElem_cons_zero, List.getElem_cons_succ, List.setIfInBounds_toArray, List.set_cons_zero, List.set_cons_succ]
            refine wpAnyH_done (by kernel_rfl) ?_ _
            change wpList _ _ _ _ _ _
            simp only [List.drop_succ_cons, List.drop_zero]
            have PE := Lib.hid (PD.out.keep hHeld.2.2)
            clear hHeld HS28 HTG PD
            cases T0
            case false =>
              have ec0 := PE.out.e.c 0 (by decide)
              have ef0 := PE.out.e.f 0 (by decide)
              have z14 : Y1.heap.size < w1.heap.size := by have := PE.out.z; omega
              have PF := Lib.hid (PE.out.set 0 2)
              clear PG PE
              go_wp2_with fail
              go_roundw
              case rel => exact ⟨1, by go_num, .inr (.inl ⟨rfl, by have h := PF.out; rw [He1.out, HK1.out, if_neg (by decide)]; rw [upd_comm (i := 0) (j := 7) (by decide), upd_upd] at h; exact h⟩)⟩
              case measure => simp [intOf]
            case true =>
              go_wp2_with fail
              go_roundw
              case rel => exact ⟨1, by go_num, .inr (.inl ⟨rfl, by have h := PE.out; rw [He1.out, HK1.out, if_pos rfl]; rw [upd_comm (by decide)] at h; exact h⟩)⟩
              case measure => simp [intOf]
          · skip
            have HI := Lib.hid hI
            obtain ⟨t0, t1, t2, t3, t4, r0, r1, r2, r3, ho, hzz, hbw⟩ := (P1.out.keep hI.b P1.out.z)
            clear ho
            have s0 := hI.s0
            have s1 := hI.s1
            have zq := hI.z.2.1
            have z14 : Y1.heap.size < wr.heap.size := by have := hI.z; omega
            rcases HP1.out with hx | hpx
            · have l1 : ((x1.length : Int) == 0) = true := by rw [hx]; rfl
              have HE12 := Lib.hid (show e2 = e1 by rw [He2.out, He1.out, HK2.out, HS2.out, HT1.out, HA1.out, hx, arcW_none, decide_eq_true (by omega), if_pos rfl]; rw [show mxx W0 0 = W0 by unfold mxx; omega])
              clear hx hI
              go_wp2_with fail
              go_roundw
              case rel => exact ⟨2, by go_num, .inr (.inr ⟨rfl, by rw [HE12.out]; exact HI.out⟩)⟩
              case measure => simp [intOf]
            · have l1 : ((x1.length : Int) == 0) = false := beq_eq_false_iff_ne.2 (by have := hpx.1; omega)
              have HPx := Lib.hid hpx
              clear hpx
              have RA := Lib.hid (hI.i1.arc HPx.out)
              rw [← HA1.out] at RA
              clear hI
              have mm1 : max W0 A1 = S2 := by rw [HS2.out]; rfl
              have mm2 : (if W0 < A1 then A1 else W0) = S2 := by rw [HS2.out]; unfold mxx; split <;> omega
              go_wp2_with fail
              refine RA.out.mono ?_; rintro e' X ⟨rfl, hbX⟩
              have HX := Lib.hid (HI.out.keep hbX)
              clear t0 t1 t2 t3 t4 r0 r1 r2 r3 hzz hbw s0 s1 zq z14 RA HI hbX
              obtain ⟨t0, t1, t2, t3, t4, r0, r1, r2, r3, ho, hzz, hbw⟩ := (P1.out.keep HX.out.b P1.out.z)
              clear ho
              have s0 := HX.out.s0
              have s1 := HX.out.s1
              have zq := HX.out.z.2.1
              have z14 : Y1.heap.size < X.heap.size := by have := HX.out.z; omega
              have ec7 : X.cell? ⟨Y1.heap.size, 7, none⟩ = some (.int .i64 W0) := (HX.out.e.c 7 (by decide)).trans (by rw [He1.out, upd_no (by decide), upd_at])
              have ef7 := HX.out.e.f 7 (by decide)
              go_wp2_with fail
              obtain ⟨G, hG⟩ : ∃ Z, Z = X.setCell ⟨Y1.heap.size, 7, none⟩ (.int .i64 S2) := ⟨_, rfl⟩
              have PG := Lib.hid (HX.out.set 7 S2)
              rw [← hG] at PG
              rw [← hG]
              clear t0 t1 t2 t3 t4 r0 r1 r2 r3 hzz hbw s0 s1 zq z14 ec7 ef7 HX hG
              have PD := Lib.hid (PG.out.keep (Below.refl G.heap.size G).drew)
              have HS28 := Lib.hid (show (fun w' : World => w'.cell? ⟨Y4.heap.size, 1, none⟩ = some (.slice a1 x1.length q1) ∧ w'.cell? ⟨w.heap.size + 1, 1, none⟩ = some (.int .i64 ph) ∧ Below G.drew.heap.size G.drew w') G.drew from ⟨PD.out.s1, (P1.out.keep PD.out.b P1.out.z).r1, Below.refl _ _⟩)
              have HTG : Hid (∀ W : World, Below G.drew.heap.size G.drew W → Calls Try.prog 69 #[.slice a1 x1.length q1, .int .i64 ph] W fun e w' => e = .returned (.bool T1) ∧ Below W.heap.size W w') := Lib.hid fun W hW => by rw [HT1.out]; exact (PD.out.i1.keep hW).tog HPx.out ph rr2
              refine wp_region_held_tail (S := (fun w' : World => w'.cell? ⟨Y4.heap.size, 1, none⟩ = some (.slice a1 x1.length q1) ∧ w'.cell? ⟨w.heap.size + 1, 1, none⟩ = some (.int .i64 ph) ∧ Below G.drew.heap.size G.drew w')) 6 (by kernel_rfl) (by kernel_rfl) HS28.out (fun hHeld => ?_)
              refine wpAnyH_take (i := 0) (v := ?v0_35) rfl (by kernel_rfl) (by kernel_rfl) (by kernel_rfl) (fun _ _ _ h => h) (Or.inl ⟨by rfl, ?hy0_35⟩) (by assumption) ?rest0_35
              case hy0_35 => (intro w hSw; (try dsimp only at hSw); go_simp; (try with_reducible rfl))
              try simp only [Act.put, List.getElem_toArray, List.getElem_cons_zero, List.getElem_cons_succ, List.setIfInBounds_toArray, List.set_cons_zero, List.set_cons_succ]
              refine wpAnyH_take (i := 1) (v := ?v1_36) rfl (by kernel_rfl) (by kernel_rfl) (by kernel_rfl) (fun _ _ _ h => h) (Or.inl ⟨by rfl, ?hy1_36⟩) (by assumption) ?rest1_36
              case hy1_36 => (intro w hSw; (try dsimp only at hSw); go_simp; (try with_reducible rfl))
              try simp only [Act.put, List.getElem_toArray, List.getElem_cons_zero, List.getElem_cons_succ, List.setIfInBounds_toArray, List.set_cons_zero, List.set_cons_succ]
              refine wpAnyH_take (i := 2) (v := ?v2_37) rfl (by kernel_rfl) (by kernel_rfl) (by kernel_rfl) (fun _ _ _ h => h) (Or.inl ⟨by rfl, ?hy2_37⟩) (by assumption) ?rest2_37
              case hy2_37 => (intro w hSw; (try dsimp only at hSw); go_simp; (try with_reducible rfl))
              try simp only [Act.put, List.getElem_toArray, List.getElem_cons_zero, List.getElem_cons_succ, List.setIfInBounds_toArray, List.set_cons_zero, List.set_cons_succ]
              refine wpAnyH_take (i := 3) (v := ?v3_38) rfl (by kernel_rfl) (by kernel_rfl) (by kernel_rfl) (fun _ _ _ h => h) (Or.inl ⟨by rfl, ?hy3_38⟩) (by assumption) ?rest3_38
              case hy3_38 => (intro w hSw; (try dsimp only at hSw); go_simp; (try with_reducible rfl))
              try simp only [Act.put, List.getElem_toArray, List.getElem_cons_zero, List.getElem_cons_succ, List.setIfInBounds_toArray, List.set_cons_zero, List.set_cons_succ]
              refine wpAnyH_take (i := 4) (v := ?v4_39) rfl (by kernel_rfl) (by kernel_rfl) (by kernel_rfl) (fun _ _ _ h => h) (Or.inl ⟨by rfl, ?hy4_39⟩) (by assumption) ?rest4_39
              case hy4_39 => (intro w hSw; (try dsimp only at hSw); go_simp; (try with_reducible rfl))
              try simp only [Act.put, List.getElem_toArray, List.getElem_cons_zero, List.getElem_cons_succ, List.setIfInBounds_toArray, List.set_cons_zero, List.set_cons_succ]
              refine wpAnyH_ready (rs := [5]) (by kernel_rfl) (by simp) ?_
              refine AllReadyH.cons rfl (fun K hK => ?_) AllReadyH.nil
              go_simp
              refine (HTG.out _ hHeld.2.2).mono ?_; rintro e' w1 ⟨rfl, hb_w1⟩
              refine hK.out _ _ (⟨keepW hb_w1 hHeld.1, keepW hb_w1 hHeld.2.1, hHeld.2.2.trans (hb_w1.mono hHeld.2.2.size)⟩) (fun hHeld => ?_)
              clear hK K
              try simp only [Act.put, List.getElem_toArray, List.getElem_cons_zero, List.getElem_cons_succ, List.setIfInBounds_toArray, List.set_cons_zero, List.set_cons_succ]
              refine wpAnyH_done (by kernel_rfl) ?_ _
              change wpList _ _ _ _ _ _
              simp only [List.drop_succ_cons, List.drop_zero]
              have PE := Lib.hid (PD.out.keep hHeld.2.2)
              clear hHeld HS28 HTG PD
              cases T1
              case false =>
                have ec0 := PE.out.e.c 0 (by decide)
                have ef0 := PE.out.e.f 0 (by decide)
                have z14 : Y1.heap.size < w1.heap.size := by have := PE.out.z; omega
                have PF := Lib.hid (PE.out.set 0 2)
                clear PG PE
                go_wp2_with fail
                go_roundw
                case rel => exact ⟨2, by go_num, .inr (.inr ⟨rfl, by have h := PF.out; rw [He2.out, HK2.out, if_neg (by decide)]; rw [He1.out, upd_comm (i := 0) (j := 7) (by decide), upd_upd, upd_upd] at h; exact h⟩)⟩
                case measure => simp [intOf]
              case true =>
                go_wp2_with fail
                go_roundw
                case rel => exact ⟨2, by go_num, .inr (.inr ⟨rfl, by have h := PE.out; rw [He2.out, HK2.out, if_pos rfl]; rw [He1.out, upd_comm (i := 0) (j := 7) (by decide), upd_upd] at h; exact h⟩)⟩
                case measure => simp [intOf]
          · skip
            have HI := Lib.hid hI
            obtain ⟨t0, t1, t2, t3, t4, r0, r1, r2, r3, ho, hzz, hbw⟩ := (P1.out.keep hI.b P1.out.z)
            clear ho
            have s0 := hI.s0
            have s1 := hI.s1
            have zq := hI.z.2.1
            have z14 : Y1.heap.size < wr.heap.size := by have := hI.z; omega
            clear hI
            go_wp2_with fail
            refine (HTT.out _ (HBY.out _ HI.out.b)).mono ?_; rintro e' X ⟨rfl, hbX⟩
            have HX := Lib.hid (HI.out.keep hbX)
            clear t0 t1 t2 t3 t4 r0 r1 r2 r3 hzz hbw s0 s1 zq z14 HI hbX HTT PL
            by_cases hT : (T0 && T1 && T2) = true
            · have hg := HQC.out hT
              obtain ⟨h0, h1, h2, hk⟩ := kind_3 HK1.out HK2.out hT
              have HGC := Lib.hid hg
              rw [h2]
              clear hg h0 h1 h2 hT HQC HQM
              obtain ⟨t0, t1, t2, t3, t4, r0, r1, r2, r3, ho, hzz, hbw⟩ := (P1.out.keep HX.out.b P1.out.z)
              clear ho
              have s0 := HX.out.s0
              have s1 := HX.out.s1
              have zq := HX.out.z.2.1
              have z14 : Y1.heap.size < X.heap.size := by have := HX.out.z; omega
              have ec0 : X.cell? ⟨Y1.heap.size, 0, none⟩ = some (.int .i64 3) := (HX.out.e.c 0 (by decide)).trans (by rw [He2.out, upd_at, hk])
              go_wp2_with fail
              clear t0 t1 t2 t3 t4 r0 r1 r2 r3 hzz hbw s0 s1 zq z14 ec0 hk
              go_loopw [21] (fun v21 wr => ∃ i : Int, v21 = .int .i64 i ∧ ((i = 0 ∧ Ph Y1 wr (e2) Y4.heap.size (Y1.heap.size + 1) (.slice a0 x0.length q0) (.slice a1 x1.length q1) x0 x1) ∨ (i = 1 ∧ Ph Y1 wr (f1) Y4.heap.size (Y1.heap.size + 1) (.slice a0 x0.length q0) (.slice a1 x1.length q1) x0 x1) ∨ (i = 2 ∧ Ph Y1 wr (f2) Y4.heap.size (Y1.heap.size + 1) (.slice a0 x0.length q0) (.slice a1 x1.length q1) x0 x1))) (fun v21 _ => (2 - intOf v21).toNat)
              case atStart => exact ⟨0, rfl, .inl ⟨rfl, HX.out⟩⟩
              case round =>
                obtain ⟨i, rfl, hI⟩ := hrel
                rcases hI with ⟨rfl, hI⟩ | ⟨rfl, hI⟩ | ⟨rfl, hI⟩
                · skip
                  have HI := Lib.hid hI
                  obtain ⟨t0, t1, t2, t3, t4, r0, r1, r2, r3, ho, hzz, hbw⟩ := (P1.out.keep hI.b P1.out.z)
                  clear ho
                  have s0 := hI.s0
                  have s1 := hI.s1
                  have zq := hI.z.2.1
                  have z14 : Y1.heap.size < wr.heap.size := by have := hI.z; omega
                  clear hI
                  have l0 : ((x0.length : Int) == 0) = false := beq_eq_false_iff_ne.2 (by have := HP0.out.1; omega)
                  have bl : 1 ≤ x0.length ∧ x0.length ≤ 64 := ⟨HP0.out.1, HP0.out.2.1⟩
                  have bsl : 0 ≤ sl0 ∧ sl0 ≤ 1000000 := by rw [Hsl0.out]; exact slk_bd rr2 bl.2
                  by_cases hk3 : kd = 3
                  · exact absurd hk3 HK3.out
                  · have ek : (kd == 3) = false := beq_eq_false_iff_ne.2 hk3
                    have iw1 : IntKind.i64.wrap 2 = 2 := by decide
                    have e2s : 2 * ph = sl0 := by rw [Hsl0.out]; unfold slk; rw [if_neg hk3]
                    have iw2 : IntKind.i64.wrap sl0 = sl0 := IntWalk.i64_in _ (by omega)
                    have PD := Lib.hid (HI.out.keep (Below.refl wr.heap.size wr).drew)
                    have HS41 := Lib.hid (show (fun w' : World => w'.cell? ⟨Y4.heap.size, 0, none⟩ = some (.slice a0 x0.length q0) ∧ w'.cell? ⟨w.heap.size + 1, 1, none⟩ = some (.int .i64 ph) ∧ Below wr.drew.heap.size wr.drew w') wr.drew from ⟨PD.out.s0, (P1.out.keep PD.out.b P1.out.z).r1, Below.refl _ _⟩)
                    have HMG : Hid (∀ W : World, Below wr.drew.heap.size wr.drew W → Calls Try.prog 70 #[.slice a0 x0.length q0, .int .i64 sl0] W fun e w' => e = .returned (.agg #[.int .i64 (lo0), .int .i64 (hi0)]) ∧ Below W.heap.size W w') := Lib.hid fun W hW => by rw [Hlo0.out, Hhi0.out]; exact (PD.out.i0.keep hW).mean HP0.out sl0 bsl
                    clear hk3 bsl
                    go_wp2_with fail
                    clear t0 t1 t2 t3 t4 r0 r1 r2 r3 hzz hbw s0 s1 zq z14 HI
                    refine wp_region_held_tail (S := (fun w' : World => w'.cell? ⟨Y4.heap.size, 0, none⟩ = some (.slice a0 x0.length q0) ∧ w'.cell? ⟨w.heap.size + 1, 1, none⟩ = some (.int .i64 ph) ∧ Below wr.drew.heap.size wr.drew w')) 12 (by kernel_rfl) (by kernel_rfl) HS41.out (fun hHeld => ?_)
                    refine wpAnyH_take (i := 0) (v := ?v0_40) rfl (by kernel_rfl) (by kernel_rfl) (by kernel_rfl) (fun _ _ _ h => h) (Or.inl ⟨by rfl, ?hy0_40⟩) (by assumption) ?rest0_40
                    case hy0_40 => (intro w hSw; (try dsimp only at hSw); go_simp; (try with_reducible rfl))
                    try simp only [Act.put, List.getElem_toArray, List.getElem_cons_zero, List.getElem_cons_succ, List.setIfInBounds_toArray, List.set_cons_zero, List.set_cons_succ]
                    refine wpAnyH_take (i := 1) (v := ?v1_41) rfl (by kernel_rfl) (by kernel_rfl) (by kernel_rfl) (fun _ _ _ h => h) (Or.inl ⟨by rfl, ?hy1_41⟩) (by assumption) ?rest1_41
                    case hy1_41 => (intro w hSw; (try dsimp only at hSw); go_simp; (try with_reducible rfl))
                    try simp only [Act.put, List.getElem_toArray, List.getElem_cons_zero, List.getElem_cons_succ, List.setIfInBounds_toArray, List.set_cons_zero, List.set_cons_succ]
                    refine wpAnyH_take (i := 2) (v := ?v2_42) rfl (by kernel_rfl) (by kernel_rfl) (by kernel_rfl) (fun _ _ _ h => h) (Or.inl ⟨by rfl, ?hy2_42⟩) (by assumption) ?rest2_42
                    case hy2_42 => (intro w hSw; (try dsimp only at hSw); go_simp; (try with_reducible rfl))
                    try simp only [Act.put, List.getElem_toArray, List.getElem_cons_zero, List.getElem_cons_succ, List.setIfInBounds_toArray, List.set_cons_zero, List.set_cons_succ]
                    refine wpAnyH_take (i := 3) (v := ?v3_43) rfl (by kernel_rfl) (by kernel_rfl) (by kernel_rfl) (fun _ _ _ h => h) (Or.inl ⟨by rfl, ?hy3_43⟩) (by assumption) ?rest3_43
                    case hy3_43 => (intro w hSw; (try dsimp only at hSw); go_simp; (try with_reducible rfl))
                    try simp only [Act.put, List.getElem_toArray, List.getElem_cons_zero, List.getElem_cons_succ, List.setIfInBounds_toArray, List.set_cons_zero, List.set_cons_succ]
                    refine wpAnyH_take (i := 4) (v := ?v4_44) rfl (by kernel_rfl) (by kernel_rfl) (by kernel_rfl) (fun _ _ _ h => h) (Or.inl ⟨by rfl, ?hy4_44⟩) (by assumption) ?rest4_44
                    case hy4_44 => (intro w hSw; (try dsimp only at hSw); go_simp; (try with_reducible rfl))
                    try simp only [Act.put, List.getElem_toArray, List.getElem_cons_zero, List.getElem_cons_succ, List.setIfInBounds_toArray, List.set_cons_zero, List.set_cons_succ]
                    refine wpAnyH_take (i := 5) (v := ?v5_45) rfl (by kernel_rfl) (by kernel_rfl) (by kernel_rfl) (fun _ _ _ h => h) (Or.inl ⟨by rfl, ?hy5_45⟩) (by assumption) ?rest5_45
                    case hy5_45 => (intro w hSw; (try dsimp only at hSw); go_simp; (try with_reducible rfl))
                    try simp only [Act.put, List.getElem_toArray, List.getElem_cons_zero, List.getElem_cons_succ, List.setIfInBounds_toArray, List.set_cons_zero, List.set_cons_succ]
                    refine wpAnyH_take (i := 6) (v := ?v6_46) rfl (by kernel_rfl) (by kernel_rfl) (by kernel_rfl) (fun _ _ _ h => h) (Or.inl ⟨by rfl, ?hy6_46⟩) (by assumption) ?rest6_46
                    case hy6_46 => (intro w hSw; (try dsimp only at hSw); go_simp; (try with_reducible rfl))
                    try simp only [Act.put, List.getElem_toArray, List.getElem_cons_zero, List.getElem_cons_succ, List.setIfInBounds_toArray, List.set_cons_zero, List.set_cons_succ]
                    refine wpAnyH_take (i := 7) (v := ?v7_47) rfl (by kernel_rfl) (by kernel_rfl) (by kernel_rfl) (fun _ _ _ h => h) (Or.inl ⟨by rfl, ?hy7_47⟩) (by assumption) ?rest7_47
                    case hy7_47 => (intro w hSw; (try dsimp only at hSw); go_simp; (try with_reducible rfl))
                    try simp only [Act.put, List.getElem_toArray, List.getElem_cons_zero, List.getElem_cons_succ, List.setIfInBounds_toArray, List.set_cons_zero, List.set_cons_succ]
                    refine wpAnyH_take (i := 8) (v := ?v8_48) rfl (by kernel_rfl) (by kernel_rfl) (by kernel_rfl) (fun _ _ _ h => h) (Or.inl ⟨by rfl, ?hy8_48⟩) (by assumption) ?rest8_48
                    case hy8_48 => (intro w hSw; (try dsimp only at hSw); go_simp; (try with_reducible rfl))
                    try simp only [Act.put, List.getElem_toArray, List.getElem_cons_zero, List.getElem_cons_succ, List.setIfInBounds_toArray, List.set_cons_zero, List.set_cons_succ]
                    refine wpAnyH_take (i := 10) (v := ?v10_49) rfl (by kernel_rfl) (by kernel_rfl) (by kernel_rfl) (fun _ _ _ h => h) (Or.inl ⟨by rfl, ?hy10_49⟩) (by assumption) ?rest10_49
                    case hy10_49 => (intro w hSw; (try dsimp only at hSw); go_simp; (try with_reducible rfl))
                    try simp only [Act.put, List.getElem_toArray, List.getElem_cons_zero, List.getElem_cons_succ, List.setIfInBounds_toArray, List.set_cons_zero, List.set_cons_succ]
                    refine wpAnyH_ready (rs := [9]) (by kernel_rfl) (by simp) ?_
                    refine AllReadyH.cons rfl (fun K hK => ?_) AllReadyH.nil
                    go_simp
                    refine (HMG.out _ hHeld.2.2).mono ?_; rintro e' w1 ⟨rfl, hb_w1⟩
                    refine hK.out _ _ (⟨keepW hb_w1 hHeld.1, keepW hb_w1 hHeld.2.1, hHeld.2.2.trans (hb_w1.mono hHeld.2.2.size)⟩) (fun hHeld => ?_)
                    clear hK K
                    try simp only [Act.put, List.getElem_toArray, List.getElem_cons_zero, List.getElem_cons_succ, List.setIfInBounds_toArray, List.set_cons_zero, List.set_cons_succ]
                    refine wpAnyH_take (i := 11) (v := ?v11_50) rfl (by kernel_rfl) (by kernel_rfl) (by kernel_rfl) (fun _ _ _ h => h) (Or.inl ⟨by rfl, ?hy11_50⟩) (by assumption) ?rest11_50
                    case hy11_50 => (intro w hSw; (try dsimp only at hSw); go_simp; (try with_reducible rfl))
                    try simp only [Act.put, List.getElem_toArray, List.getElem_cons_zero, List.getElem_cons_succ, List.setIfInBounds_toArray, List.set_cons_zero, List.set_cons_succ]
                    refine wpAnyH_done (by kernel_rfl) ?_ _
                    change wpList _ _ _ _ _ _
                    simp only [List.drop_succ_cons, List.drop_zero]
                    have PE := Lib.hid (PD.out.keep hHeld.2.2)
                    clear hHeld HS41 HMG PD e2s iw2 bl ek l0 iw1
                    have ec3 := PE.out.e.c 3 (by decide)
                    have ef3 := PE.out.e.f 3 (by decide)
                    have ec4 := PE.out.e.c 4 (by decide)
                    have ef4 := PE.out.e.f 4 (by decide)
                    have PF := Lib.hid ((PE.out.set 3 lo0).set 4 hi0)
                    have z14 : Y1.heap.size < w1.heap.size := by have := PE.out.z; omega
                    clear PE
                    go_wp2_with fail
                    go_roundw
                    case rel => exact ⟨1, by go_num, .inr (.inl ⟨rfl, by rw [Hf1.out]; exact PF.out⟩)⟩
                    case measure => simp [intOf]
                · skip
                  rcases HP1.out with hx | hpx
                  · have HI := Lib.hid hI
                    obtain ⟨t0, t1, t2, t3, t4, r0, r1, r2, r3, ho, hzz, hbw⟩ := (P1.out.keep hI.b P1.out.z)
                    clear ho
                    have s0 := hI.s0
                    have s1 := hI.s1
                    have zq := hI.z.2.1
                    have z14 : Y1.heap.size < wr.heap.size := by have := hI.z; omega
                    have l1 : ((x1.length : Int) == 0) = true := by rw [hx]; rfl
                    have HF12 := Lib.hid (show f2 = f1 by rw [Hf2.out, Hlo1.out, Hhi1.out, hx, show meanLo (arcB []) [] sl1 = 0 from rfl, show meanHi (arcB []) [] sl1 = 0 from rfl]; (have h5 : f1 5 = 0 := by rw [Hf1.out, He2.out]; exact HBE.out.2.1); (have h6 : f1 6 = 0 := by rw [Hf1.out, He2.out]; exact HBE.out.2.2); funext i; unfold upd; split; (rename_i h; rw [h, h6]); split; (rename_i h; rw [h, h5]); rfl)
                    clear hx hI
                    go_wp2_with fail
                    go_roundw
                    case rel => exact ⟨2, by go_num, .inr (.inr ⟨rfl, by rw [HF12.out]; exact HI.out⟩)⟩
                    case measure => simp [intOf]
                  · have HPx := Lib.hid hpx
                    clear hpx
                    have HI := Lib.hid hI
                    obtain ⟨t0, t1, t2, t3, t4, r0, r1, r2, r3, ho, hzz, hbw⟩ := (P1.out.keep hI.b P1.out.z)
                    clear ho
                    have s0 := hI.s0
                    have s1 := hI.s1
                    have zq := hI.z.2.1
                    have z14 : Y1.heap.size < wr.heap.size := by have := hI.z; omega
                    clear hI
                    have l1 : ((x1.length : Int) == 0) = false := beq_eq_false_iff_ne.2 (by have := HPx.out.1; omega)
                    have bl : 1 ≤ x1.length ∧ x1.length ≤ 64 := ⟨HPx.out.1, HPx.out.2.1⟩
                    have bsl : 0 ≤ sl1 ∧ sl1 ≤ 1000000 := by rw [Hsl1.out]; exact slk_bd rr2 bl.2
                    by_cases hk3 : kd = 3
                    · exact absurd hk3 HK3.out
                    · have ek : (kd == 3) = false := beq_eq_false_iff_ne.2 hk3
                      have iw1 : IntKind.i64.wrap 2 = 2 := by decide
                      have e2s : 2 * ph = sl1 := by rw [Hsl1.out]; unfold slk; rw [if_neg hk3]
                      have iw2 : IntKind.i64.wrap sl1 = sl1 := IntWalk.i64_in _ (by omega)
                      have PD := Lib.hid (HI.out.keep (Below.refl wr.heap.size wr).drew)
                      have HS41 := Lib.hid (show (fun w' : World => w'.cell? ⟨Y4.heap.size, 1, none⟩ = some (.slice a1 x1.length q1) ∧ w'.cell? ⟨w.heap.size + 1, 1, none⟩ = some (.int .i64 ph) ∧ Below wr.drew.heap.size wr.drew w') wr.drew from ⟨PD.out.s1, (P1.out.keep PD.out.b P1.out.z).r1, Below.refl _ _⟩)
                      have HMG : Hid (∀ W : World, Below wr.drew.heap.size wr.drew W → Calls Try.prog 70 #[.slice a1 x1.length q1, .int .i64 sl1] W fun e w' => e = .returned (.agg #[.int .i64 (lo1), .int .i64 (hi1)]) ∧ Below W.heap.size W w') := Lib.hid fun W hW => by rw [Hlo1.out, Hhi1.out]; exact (PD.out.i1.keep hW).mean HPx.out sl1 bsl
                      clear hk3 bsl
                      go_wp2_with fail
                      clear t0 t1 t2 t3 t4 r0 r1 r2 r3 hzz hbw s0 s1 zq z14 HI
                      refine wp_region_held_tail (S := (fun w' : World => w'.cell? ⟨Y4.heap.size, 1, none⟩ = some (.slice a1 x1.length q1) ∧ w'.cell? ⟨w.heap.size + 1, 1, none⟩ = some (.int .i64 ph) ∧ Below wr.drew.heap.size wr.drew w')) 12 (by kernel_rfl) (by kernel_rfl) HS41.out (fun hHeld => ?_)
                      refine wpAnyH_take (i := 0) (v := ?v0_51) rfl (by kernel_rfl) (by kernel_rfl) (by kernel_rfl) (fun _ _ _ h => h) (Or.inl ⟨by rfl, ?hy0_51⟩) (by assumption) ?rest0_51
                      case hy0_51 => (intro w hSw; (try dsimp only at hSw); go_simp; (try with_reducible rfl))
                      try simp only [Act.put, List.getElem_toArray, List.getElem_cons_zero, List.getElem_cons_succ, List.setIfInBounds_toArray, List.set_cons_zero, List.set_cons_succ]
                      refine wpAnyH_take (i := 1) (v := ?v1_52) rfl (by kernel_rfl) (by kernel_rfl) (by kernel_rfl) (fun _ _ _ h => h) (Or.inl ⟨by rfl, ?hy1_52⟩) (by assumption) ?rest1_52
                      case hy1_52 => (intro w hSw; (try dsimp only at hSw); go_simp; (try with_reducible rfl))
                      try simp only [Act.put, List.getElem_toArray, List.getElem_cons_zero, List.getElem_cons_succ, List.setIfInBounds_toArray, List.set_cons_zero, List.set_cons_succ]
                      refine wpAnyH_take (i := 2) (v := ?v2_53) rfl (by kernel_rfl) (by kernel_rfl) (by kernel_rfl) (fun _ _ _ h => h) (Or.inl ⟨by rfl, ?hy2_53⟩) (by assumption) ?rest2_53
                      case hy2_53 => (intro w hSw; (try dsimp only at hSw); go_simp; (try with_reducible rfl))
                      try simp only [Act.put, List.getElem_toArray, List.getElem_cons_zero, List.getElem_cons_succ, List.setIfInBounds_toArray, List.set_cons_zero, List.set_cons_succ]
                      refine wpAnyH_take (i := 3) (v := ?v3_54) rfl (by kernel_rfl) (by kernel_rfl) (by kernel_rfl) (fun _ _ _ h => h) (Or.inl ⟨by rfl, ?hy3_54⟩) (by assumption) ?rest3_54
                      case hy3_54 => (intro w hSw; (try dsimp only at hSw); go_simp; (try with_reducible rfl))
                      try simp only [Act.put, List.getElem_toArray, List.getElem_cons_zero, List.getElem_cons_succ, List.setIfInBounds_toArray, List.set_cons_zero, List.set_cons_succ]
                      refine wpAnyH_take (i := 4) (v := ?v4_55) rfl (by kernel_rfl) (by kernel_rfl) (by kernel_rfl) (fun _ _ _ h => h) (Or.inl ⟨by rfl, ?hy4_55⟩) (by assumption) ?rest4_55
                      case hy4_55 => (intro w hSw; (try dsimp only at hSw); go_simp; (try with_reducible rfl))
                      try simp only [Act.put, List.getElem_toArray, List.getElem_cons_zero, List.getElem_cons_succ, List.setIfInBounds_toArray, List.set_cons_zero, List.set_cons_succ]
                      refine wpAnyH_take (i := 5) (v := ?v5_56) rfl (by kernel_rfl) (by kernel_rfl) (by kernel_rfl) (fun _ _ _ h => h) (Or.inl ⟨by rfl, ?hy5_56⟩) (by assumption) ?rest5_56
                      case hy5_56 => (intro w hSw; (try dsimp only at hSw); go_simp; (try with_reducible rfl))
                      try simp only [Act.put, List.getElem_toArray, List.getElem_cons_zero, List.getElem_cons_succ, List.setIfInBounds_toArray, List.set_cons_zero, List.set_cons_succ]
                      refine wpAnyH_take (i := 6) (v := ?v6_57) rfl (by kernel_rfl) (by kernel_rfl) (by kernel_rfl) (fun _ _ _ h => h) (Or.inl ⟨by rfl, ?hy6_57⟩) (by assumption) ?rest6_57
                      case hy6_57 => (intro w hSw; (try dsimp only at hSw); go_simp; (try with_reducible rfl))
                      try simp only [Act.put, List.getElem_toArray, List.getElem_cons_zero, List.getElem_cons_succ, List.setIfInBounds_toArray, List.set_cons_zero, List.set_cons_succ]
                      refine wpAnyH_take (i := 7) (v := ?v7_58) rfl (by kernel_rfl) (by kernel_rfl) (by kernel_rfl) (fun _ _ _ h => h) (Or.inl ⟨by rfl, ?hy7_58⟩) (by assumption) ?rest7_58
                      case hy7_58 => (intro w hSw; (try dsimp only at hSw); go_simp; (try with_reducible rfl))
                      try simp only [Act.put, List.getElem_toArray, List.getElem_cons_zero, List.getElem_cons_succ, List.setIfInBounds_toArray, List.set_cons_zero, List.set_cons_succ]
                      refine wpAnyH_take (i := 8) (v := ?v8_59) rfl (by kernel_rfl) (by kernel_rfl) (by kernel_rfl) (fun _ _ _ h => h) (Or.inl ⟨by rfl, ?hy8_59⟩) (by assumption) ?rest8_59
                      case hy8_59 => (intro w hSw; (try dsimp only at hSw); go_simp; (try with_reducible rfl))
                      try simp only [Act.put, List.getElem_toArray, List.getElem_cons_zero, List.getElem_cons_succ, List.setIfInBounds_toArray, List.set_cons_zero, List.set_cons_succ]
                      refine wpAnyH_take (i := 10) (v := ?v10_60) rfl (by kernel_rfl) (by kernel_rfl) (by kernel_rfl) (fun _ _ _ h => h) (Or.inl ⟨by rfl, ?hy10_60⟩) (by assumption) ?rest10_60
                      case hy10_60 => (intro w hSw; (try dsimp only at hSw); go_simp; (try with_reducible rfl))
                      try simp only [Act.put, List.getElem_toArray, List.getElem_cons_zero, List.getElem_cons_succ, List.setIfInBounds_toArray, List.set_cons_zero, List.set_cons_succ]
                      refine wpAnyH_ready (rs := [9]) (by kernel_rfl) (by simp) ?_
                      refine AllReadyH.cons rfl (fun K hK => ?_) AllReadyH.nil
                      go_simp
                      refine (HMG.out _ hHeld.2.2).mono ?_; rintro e' w1 ⟨rfl, hb_w1⟩
                      refine hK.out _ _ (⟨keepW hb_w1 hHeld.1, keepW hb_w1 hHeld.2.1, hHeld.2.2.trans (hb_w1.mono hHeld.2.2.size)⟩) (fun hHeld => ?_)
                      clear hK K
                      try simp only [Act.put, List.getElem_toArray, List.getElem_cons_zero, List.getElem_cons_succ, List.setIfInBounds_toArray, List.set_cons_zero, List.set_cons_succ]
                      refine wpAnyH_take (i := 11) (v := ?v11_61) rfl (by kernel_rfl) (by kernel_rfl) (by kernel_rfl) (fun _ _ _ h => h) (Or.inl ⟨by rfl, ?hy11_61⟩) (by assumption) ?rest11_61
                      case hy11_61 => (intro w hSw; (try dsimp only at hSw); go_simp; (try with_reducible rfl))
                      try simp only [Act.put, List.getElem_toArray, List.getElem_cons_zero, List.getElem_cons_succ, List.setIfInBounds_toArray, List.set_cons_zero, List.set_cons_succ]
                      refine wpAnyH_done (by kernel_rfl) ?_ _
                      change wpList _ _ _ _ _ _
                      simp only [List.drop_succ_cons, List.drop_zero]
                      have PE := Lib.hid (PD.out.keep hHeld.2.2)
                      clear hHeld HS41 HMG PD e2s iw2 bl ek l1 iw1
                      have ec5 := PE.out.e.c 5 (by decide)
                      have ef5 := PE.out.e.f 5 (by decide)
                      have ec6 := PE.out.e.c 6 (by decide)
                      have ef6 := PE.out.e.f 6 (by decide)
                      have PF := Lib.hid ((PE.out.set 5 lo1).set 6 hi1)
                      have z14 : Y1.heap.size < w1.heap.size := by have := PE.out.z; omega
                      clear PE
                      go_wp2_with fail
                      go_roundw
                      case rel => exact ⟨2, by go_num, .inr (.inr ⟨rfl, by rw [Hf2.out]; exact PF.out⟩)⟩
                      case measure => simp [intOf]
                · skip
                  have HI := Lib.hid hI
                  obtain ⟨t0, t1, t2, t3, t4, r0, r1, r2, r3, ho, hzz, hbw⟩ := (P1.out.keep hI.b P1.out.z)
                  clear ho
                  have s0 := hI.s0
                  have s1 := hI.s1
                  have zq := hI.z.2.1
                  have z14 : Y1.heap.size < wr.heap.size := by have := hI.z; omega
                  clear hI
                  have e2s := HS3.out
                  have iw1 : IntKind.i64.wrap (2 * (n : Int)) = 2 * (n : Int) := IntWalk.i64_in _ (by omega)
                  have iw2 : IntKind.i64.wrap sl2 = sl2 := IntWalk.i64_in _ (by omega)
                  go_wp2_with fail
                  refine (HMT.out _ (HBY.out _ HI.out.b)).mono ?_; rintro e' Yw ⟨rfl, hbX⟩
                  have HY := Lib.hid (HI.out.keep hbX)
                  clear t0 t1 t2 t3 t4 r0 r1 r2 r3 hzz hbw s0 s1 zq z14 HI hbX HX e2s iw1 iw2
                  have ec12 := HY.out.e.c 12 (by decide)
                  have ef12 := HY.out.e.f 12 (by decide)
                  have ec13 := HY.out.e.c 13 (by decide)
                  have ef13 := HY.out.e.f 13 (by decide)
                  have PF := Lib.hid ((HY.out.set 12 lo2).set 13 hi2)
                  have z14 : Y1.heap.size < Yw.heap.size := by have := HY.out.z; omega
                  obtain ⟨t0, t1, t2, t3, t4, r0, r1, r2, r3, ho, hzz, hbw⟩ := (P1.out.keep PF.out.b P1.out.z)
                  have HO := Lib.hid ho
                  have oc0 := HO.out.c 0 (by decide)
                  have of0 := HO.out.f 0 (by decide)
                  have oc1 := HO.out.c 1 (by decide)
                  have of1 := HO.out.f 1 (by decide)
                  have oc2 := HO.out.c 2 (by decide)
                  have of2 := HO.out.f 2 (by decide)
                  have oc3 := HO.out.c 3 (by decide)
                  have of3 := HO.out.f 3 (by decide)
                  have oc4 := HO.out.c 4 (by decide)
                  have of4 := HO.out.f 4 (by decide)
                  have oc5 := HO.out.c 5 (by decide)
                  have of5 := HO.out.f 5 (by decide)
                  have oc6 := HO.out.c 6 (by decide)
                  have of6 := HO.out.f 6 (by decide)
                  have oc7 := HO.out.c 7 (by decide)
                  have of7 := HO.out.f 7 (by decide)
                  have oc8 := HO.out.c 8 (by decide)
                  have of8 := HO.out.f 8 (by decide)
                  have oc9 := HO.out.c 9 (by decide)
                  have of9 := HO.out.f 9 (by decide)
                  have oc10 := HO.out.c 10 (by decide)
                  have of10 := HO.out.f 10 (by decide)
                  have oc11 := HO.out.c 11 (by decide)
                  have of11 := HO.out.f 11 (by decide)
                  have oc12 := HO.out.c 12 (by decide)
                  have of12 := HO.out.f 12 (by decide)
                  have oc13 := HO.out.c 13 (by decide)
                  have of13 := HO.out.f 13 (by decide)
                  have EG := (show EchoG _ _ g by (rw [HGC.out]; exact PF.out.e))
                  have gc0 := EG.c 0 (by decide)
                  have gc1 := EG.c 1 (by decide)
                  have gc2 := EG.c 2 (by decide)
                  have gc3 := EG.c 3 (by decide)
                  have gc4 := EG.c 4 (by decide)
                  have gc5 := EG.c 5 (by decide)
                  have gc6 := EG.c 6 (by decide)
                  have gc7 := EG.c 7 (by decide)
                  have gc8 := EG.c 8 (by decide)
                  have gc9 := EG.c 9 (by decide)
                  have gc10 := EG.c 10 (by decide)
                  have gc11 := EG.c 11 (by decide)
                  have gc12 := EG.c 12 (by decide)
                  have gc13 := EG.c 13 (by decide)
                  clear EG
                  go_wp2
                  obtain ⟨Z, hZ⟩ : ∃ Z, Z = ((((((((((((((((Yw.setCell ⟨Y1.heap.size, 12, none⟩ (.int .i64 lo2)).setCell ⟨Y1.heap.size, 13, none⟩ (.int .i64 hi2)).setCell ⟨w.heap.size + 1 + 1, 0, none⟩ (.int .i64 (g 0))).setCell ⟨w.heap.size + 1 + 1, 1, none⟩ (.int .i64 (g 1))).setCell ⟨w.heap.size + 1 + 1, 2, none⟩ (.int .i64 (g 2))).setCell ⟨w.heap.size + 1 + 1, 3, none⟩ (.int .i64 (g 3))).setCell ⟨w.heap.size + 1 + 1, 4, none⟩ (.int .i64 (g 4))).setCell ⟨w.heap.size + 1 + 1, 5, none⟩ (.int .i64 (g 5))).setCell ⟨w.heap.size + 1 + 1, 6, none⟩ (.int .i64 (g 6))).setCell ⟨w.heap.size + 1 + 1, 7, none⟩ (.int .i64 (g 7))).setCell ⟨w.heap.size + 1 + 1, 8, none⟩ (.int .i64 (g 8))).setCell ⟨w.heap.size + 1 + 1, 9, none⟩ (.int .i64 (g 9))).setCell ⟨w.heap.size + 1 + 1, 10, none⟩ (.int .i64 (g 10))).setCell ⟨w.heap.size + 1 + 1, 11, none⟩ (.int .i64 (g 11))).setCell ⟨w.heap.size + 1 + 1, 12, none⟩ (.int .i64 (g 12))).setCell ⟨w.heap.size + 1 + 1, 13, none⟩ (.int .i64 (g 13))) := ⟨_, rfl⟩
                  rw [← hZ]
                  have EZ := ((((((((((((((HO.out.set (k := 0) (v := g 0)).set (k := 1) (v := g 1)).set (k := 2) (v := g 2)).set (k := 3) (v := g 3)).set (k := 4) (v := g 4)).set (k := 5) (v := g 5)).set (k := 6) (v := g 6)).set (k := 7) (v := g 7)).set (k := 8) (v := g 8)).set (k := 9) (v := g 9)).set (k := 10) (v := g 10)).set (k := 11) (v := g 11)).set (k := 12) (v := g 12)).set (k := 13) (v := g 13))
                  rw [← hZ] at EZ
                  have bZ : Below w.heap.size w Z := by rw [hZ]; exact ((((((((((((((hbw.setCell (p := ⟨w.heap.size + 1 + 1, 0, none⟩) (by dsimp only; omega) _).setCell (p := ⟨w.heap.size + 1 + 1, 1, none⟩) (by dsimp only; omega) _).setCell (p := ⟨w.heap.size + 1 + 1, 2, none⟩) (by dsimp only; omega) _).setCell (p := ⟨w.heap.size + 1 + 1, 3, none⟩) (by dsimp only; omega) _).setCell (p := ⟨w.heap.size + 1 + 1, 4, none⟩) (by dsimp only; omega) _).setCell (p := ⟨w.heap.size + 1 + 1, 5, none⟩) (by dsimp only; omega) _).setCell (p := ⟨w.heap.size + 1 + 1, 6, none⟩) (by dsimp only; omega) _).setCell (p := ⟨w.heap.size + 1 + 1, 7, none⟩) (by dsimp only; omega) _).setCell (p := ⟨w.heap.size + 1 + 1, 8, none⟩) (by dsimp only; omega) _).setCell (p := ⟨w.heap.size + 1 + 1, 9, none⟩) (by dsimp only; omega) _).setCell (p := ⟨w.heap.size + 1 + 1, 10, none⟩) (by dsimp only; omega) _).setCell (p := ⟨w.heap.size + 1 + 1, 11, none⟩) (by dsimp only; omega) _).setCell (p := ⟨w.heap.size + 1 + 1, 12, none⟩) (by dsimp only; omega) _).setCell (p := ⟨w.heap.size + 1 + 1, 13, none⟩) (by dsimp only; omega) _)
                  clear hZ
                  have h0 : Z.cell? ⟨w.heap.size + 1 + 1, 0, none⟩ = some (.int .i64 (g 0)) := EZ.c 0 (by decide)
                  have h1 : Z.cell? ⟨w.heap.size + 1 + 1, 1, none⟩ = some (.int .i64 (g 1)) := EZ.c 1 (by decide)
                  have h2 : Z.cell? ⟨w.heap.size + 1 + 1, 2, none⟩ = some (.int .i64 (g 2)) := EZ.c 2 (by decide)
                  have h3 : Z.cell? ⟨w.heap.size + 1 + 1, 3, none⟩ = some (.int .i64 (g 3)) := EZ.c 3 (by decide)
                  have h4 : Z.cell? ⟨w.heap.size + 1 + 1, 4, none⟩ = some (.int .i64 (g 4)) := EZ.c 4 (by decide)
                  have h5 : Z.cell? ⟨w.heap.size + 1 + 1, 5, none⟩ = some (.int .i64 (g 5)) := EZ.c 5 (by decide)
                  have h6 : Z.cell? ⟨w.heap.size + 1 + 1, 6, none⟩ = some (.int .i64 (g 6)) := EZ.c 6 (by decide)
                  have h7 : Z.cell? ⟨w.heap.size + 1 + 1, 7, none⟩ = some (.int .i64 (g 7)) := EZ.c 7 (by decide)
                  have h8 : Z.cell? ⟨w.heap.size + 1 + 1, 8, none⟩ = some (.int .i64 (g 8)) := EZ.c 8 (by decide)
                  have h9 : Z.cell? ⟨w.heap.size + 1 + 1, 9, none⟩ = some (.int .i64 (g 9)) := EZ.c 9 (by decide)
                  have h10 : Z.cell? ⟨w.heap.size + 1 + 1, 10, none⟩ = some (.int .i64 (g 10)) := EZ.c 10 (by decide)
                  have h11 : Z.cell? ⟨w.heap.size + 1 + 1, 11, none⟩ = some (.int .i64 (g 11)) := EZ.c 11 (by decide)
                  have h12 : Z.cell? ⟨w.heap.size + 1 + 1, 12, none⟩ = some (.int .i64 (g 12)) := EZ.c 12 (by decide)
                  have h13 : Z.cell? ⟨w.heap.size + 1 + 1, 13, none⟩ = some (.int .i64 (g 13)) := EZ.c 13 (by decide)
                  clear EZ
                  exact bodyPost_ret (v := .tuple #[.agg #[.int .i64 (g 0), .int .i64 (g 1), .int .i64 (g 2), .int .i64 (g 3), .int .i64 (g 4), .int .i64 (g 5), .int .i64 (g 6), .int .i64 (g 7), .int .i64 (g 8), .int .i64 (g 9), .int .i64 (g 10), .int .i64 (g 11), .int .i64 (g 12), .int .i64 (g 13)], .int .i64 0]) (by simp [results, Try.results28, go_sem, h0, h1, h2, h3, h4, h5, h6, h7, h8, h9, h10, h11, h12, h13]) rfl ⟨rfl, bZ⟩
            · exact absurd HV.out (by rw [HQM.out (Bool.eq_false_iff.2 hT), upd_at]; decide)

end Go.Proofs.Ytmojnopgpgnfeaa
