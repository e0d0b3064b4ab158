/-
  The reference's Hear, walked.
-/
import Derived.Test.Ytmojnopgpgnfeaamh4
namespace Go.Proofs.Ytmojnopgpgnfeaa
open Go.RowKit
set_option linter.unusedVariables false
set_option linter.unusedSimpArgs false

theorem HrP.newR (w : World) (l kd f s c lv ph n0 n1 : Int) : HrP w (((w.alloc (.cells #[.int .i64 l, .int .i64 kd, .int .i64 f, .int .i64 s, .int .i64 c] 34)).alloc (.cells #[.int .i64 lv, .int .i64 ph, .int .i64 n0, .int .i64 n1] 37)).alloc (.cells #[.int .i64 0, .int .i64 0, .int .i64 0, .int .i64 0, .int .i64 0, .int .i64 0, .int .i64 0, .int .i64 0, .int .i64 0, .int .i64 0, .int .i64 0, .int .i64 0, .int .i64 0, .int .i64 0] 30)) l kd f s c lv ph n0 n1 := by
  obtain ⟨A1, e1⟩ : ∃ A, A = w.alloc (.cells #[.int .i64 l, .int .i64 kd, .int .i64 f, .int .i64 s, .int .i64 c] 34) := ⟨_, rfl⟩
  obtain ⟨A2, e2⟩ : ∃ A, A = A1.alloc (.cells #[.int .i64 lv, .int .i64 ph, .int .i64 n0, .int .i64 n1] 37) := ⟨_, rfl⟩
  obtain ⟨A3, e3⟩ : ∃ A, A = A2.alloc (.cells #[.int .i64 0, .int .i64 0, .int .i64 0, .int .i64 0, .int .i64 0, .int .i64 0, .int .i64 0, .int .i64 0, .int .i64 0, .int .i64 0, .int .i64 0, .int .i64 0, .int .i64 0, .int .i64 0] 30) := ⟨_, rfl⟩
  have s1 : A1.heap.size = w.heap.size + 1 := by rw [e1]; exact World.size_alloc _ _
  have s2 : A2.heap.size = w.heap.size + 1 + 1 := by rw [e2, World.size_alloc, s1]
  have s3 : A3.heap.size = w.heap.size + 3 := by rw [e3, World.size_alloc, s2]
  rw [← e1, ← e2, ← e3]
  have b1 : Below w.heap.size w A1 := by rw [e1]; exact below_alloc _ _
  have b2 : Below A1.heap.size A1 A2 := by rw [e2]; exact below_alloc _ _
  have b3 : Below A2.heap.size A2 A3 := by rw [e3]; exact below_alloc _ _
  have c13 : Below A1.heap.size A1 A3 := b2.trans (b3.mono (by omega))
  exact ⟨keepB c13 (by omega) (by rw [e1]; exact alloc_new rfl rfl), keepB c13 (by omega) (by rw [e1]; exact alloc_new rfl rfl), keepB c13 (by omega) (by rw [e1]; exact alloc_new rfl rfl), keepB c13 (by omega) (by rw [e1]; exact alloc_new rfl rfl), keepB c13 (by omega) (by rw [e1]; exact alloc_new rfl rfl), keepB b3 (by omega) (by rw [e2, ← s1]; exact alloc_new rfl rfl), keepB b3 (by omega) (by rw [e2, ← s1]; exact alloc_new rfl rfl), keepB b3 (by omega) (by rw [e2, ← s1]; exact alloc_new rfl rfl), keepB b3 (by omega) (by rw [e2, ← s1]; exact alloc_new rfl rfl), by rw [e3, ← s2]; exact EchoG.new _ (fun _ => 0) _, by omega, b1.trans (c13.mono (by omega))⟩
theorem train_kd {l kd f s c : Int} (h : trainC l kd f s c = 0) : kd = 1 ∨ kd = 2 ∨ kd = 3 := by
  unfold trainC at h
  by_cases h1 : kd = 1
  · exact .inl h1
  · by_cases h2 : kd = 2
    · exact .inr (.inl h2)
    · by_cases h3 : kd = 3
      · exact .inr (.inr h3)
      · exfalso
        rw [if_neg h1, if_neg h2, if_neg h3] at h
        omega

set_option maxRecDepth 100000 in
set_option maxHeartbeats 16000000 in
theorem refHear_E (l kd f s c lv ph n0 n1 : Int) (b off n cap : Nat) (zs : Nat → Smp) (w : World) (k1 : trainC l kd f s c = 0) (k2 : recvC lv ph n0 n1 = 0) (hnc : (n : Int) = c) (hb : b < w.heap.size) (hS : SmpsAt w b off n zs) (E : Int) (g : Nat → Int) (hE : E = if allS zs n = true then 0 else 3) (hg : g = if allS zs n = true then hearOf l kd c lv ph n0 n1 n zs else fun _ => 0) (hA0 : allS zs n = false) :
    Calls Try.prog 28 #[.agg #[.int .i64 l, .int .i64 kd, .int .i64 f, .int .i64 s, .int .i64 c], .agg #[.int .i64 lv, .int .i64 ph, .int .i64 n0, .int .i64 n1], .slice (some ⟨b, off, none⟩) n cap] w fun e w' => e = .returned (.tuple #[.agg #[.int .i64 (g 0), .int .i64 (g 1), .int .i64 (g 2), .int .i64 (g 3), .int .i64 (g 4), .int .i64 (g 5), .int .i64 (g 6), .int .i64 (g 7), .int .i64 (g 8), .int .i64 (g 9), .int .i64 (g 10), .int .i64 (g 11), .int .i64 (g 12), .int .i64 (g 13)], .int .i64 E]) ∧ Below w.heap.size w w' := by
  have hmaxl : maxLen = 9223372036854775807 := rfl
  have HA0 := Lib.hid hA0
  clear hA0
  obtain ⟨tc1, tc2⟩ := train_ok k1
  obtain ⟨rr1, rr2, rr3⟩ := recv_ok k2
  have HKD := Lib.hid (train_kd k1)
  have TR0 : Hid (trainC l kd f s (n : Int) = 0) := Lib.hid (by rw [hnc]; exact k1)
  have HS := Lib.hid hS
  have HG3 : Hid ((allS zs n = false → E = 3) ∧ (allS zs n = false → g = fun _ => 0)) := Lib.hid ⟨fun h => by rw [hE, h]; rfl, fun h => by rw [hg, h]; rfl⟩
  have HG0 : Hid (allS zs n = true → E = 0 ∧ g = hearOf l kd c lv ph n0 n1 n zs) := Lib.hid fun h => by rw [hE, hg, h]; exact ⟨rfl, rfl⟩
  have HB0 : Hid (∀ W : World, Calls Try.prog 64 #[.agg #[.int .i64 l, .int .i64 kd, .int .i64 f, .int .i64 s, .int .i64 c], .agg #[.int .i64 lv, .int .i64 ph, .int .i64 n0, .int .i64 n1]] W fun e w' => e = .returned (.int .i64 0) ∧ Below W.heap.size W w') := Lib.hid fun W => by
    have h := both_any l kd f s c lv ph n0 n1 W
    unfold ckC at h
    rw [if_pos k1, k2] at h
    exact h
  subst hnc
  clear hS hE hg k1 k2
  obtain ⟨i0, hi, hz0, hz1, hz2⟩ := info_parts info3
  have P0 := Lib.hid (HrP.newR w l kd f s n lv ph n0 n1)
  obtain ⟨U, hU⟩ : ∃ U, U = (((w.alloc (.cells #[.int .i64 l, .int .i64 kd, .int .i64 f, .int .i64 s, .int .i64 (n : Int)] 34)).alloc (.cells #[.int .i64 lv, .int .i64 ph, .int .i64 n0, .int .i64 n1] 37)).alloc (.cells #[.int .i64 0, .int .i64 0, .int .i64 0, .int .i64 0, .int .i64 0, .int .i64 0, .int .i64 0, .int .i64 0, .int .i64 0, .int .i64 0, .int .i64 0, .int .i64 0, .int .i64 0, .int .i64 0] 30)) := ⟨_, rfl⟩
  rw [← hU] at P0
  go_enter Try.func28, Try.ntmps28
  go_wp2_with fail
  rw [← hU]
  clear hU
  obtain ⟨t0, t1, t2, t3, t4, r0, r1, r2, r3, ho, hzz, hbw⟩ := P0.out
  clear ho
  refine (HB0.out _).mono ?_; rintro e' V ⟨rfl, hbV⟩
  have PV := Lib.hid (P0.out.keep hbV P0.out.z)
  clear t0 t1 t2 t3 t4 r0 r1 r2 r3 hzz hbw P0 hbV HB0
  obtain ⟨t0, t1, t2, t3, t4, r0, r1, r2, r3, ho, hzz, hbw⟩ := PV.out
  clear ho
  have BV := Lib.hid hbw
  clear hbw
  go_wp2_with fail
  clear t0 t1 t2 t3 t4 r0 r1 r2 r3
  go_loopw [9, 10, 11, 12] (fun v9 v10 v11 v12 wr => ∃ k : Nat, k ≤ n ∧ v12 = .int .i64 k ∧ allS zs k = true ∧ Rw V wr v9 v10 v11 (allTo (fun i => (zs i).h) k) (allTo (fun i => (zs i).v) k) (trnTo zs k)) (fun _ _ _ v12 _ => n - (intOf v12).toNat)
  case atStart => exact ⟨0, Nat.zero_le _, rfl, rfl, Rw.new V⟩
  case round =>
    obtain ⟨k, hk, rfl, hA, hR⟩ := hrel
    by_cases hlt : k < n
    · have hbw := hR.b
      have hbV : b < V.heap.size := Nat.lt_of_lt_of_le hb BV.out.size
      have z0 := keepB hbw hbV (keepB BV.out hb (HS.out.c0 k hlt))
      have z1 := keepB hbw hbV (keepB BV.out hb (HS.out.c1 k hlt))
      have z2 := keepB hbw hbV (keepB BV.out hb (HS.out.c2 k hlt))
      have z3 := keepB hbw hbV (keepB BV.out hb (HS.out.c3 k hlt))
      have hbr : b < wr.heap.size := Nat.lt_of_lt_of_le hbV hbw.size
      obtain ⟨yh, hyh⟩ : ∃ x, x = (zs k).h := ⟨_, rfl⟩
      obtain ⟨yp, hyp⟩ : ∃ x, x = (zs k).p := ⟨_, rfl⟩
      obtain ⟨yv, hyv⟩ : ∃ x, x = (zs k).v := ⟨_, rfl⟩
      obtain ⟨yq, hyq⟩ : ∃ x, x = (zs k).q := ⟨_, rfl⟩
      obtain ⟨st, hst⟩ : ∃ x, x = (yq - yp) % 65536 := ⟨_, rfl⟩
      have hsm : smpB (zs k) = (inB yh 0 1023 && inB yv 0 1023 && inB yp 0 65535 && inB yq 0 65535) := by unfold smpB; rw [← hyh, ← hyp, ← hyv, ← hyq]
      have HSM := Lib.hid hsm
      have HNA : Hid (smpB (zs k) = false → allS zs n = false) := Lib.hid fun h => by
        cases e : allS zs n with
        | false => rfl
        | true => rw [allS_at e hlt] at h; cases h
      have HAN0 : Hid (smpB (zs k) = true → allS zs (k + 1) = true) := Lib.hid fun h => by unfold allS; rw [hA, h]; rfl
      rw [← hyh] at z0
      rw [← hyp] at z1
      rw [← hyv] at z2
      rw [← hyq] at z3
      obtain ⟨X0, hX0⟩ : ∃ x, x = allTo (fun i => (zs i).h) k := ⟨_, rfl⟩
      obtain ⟨X1, hX1⟩ : ∃ x, x = allTo (fun i => (zs i).v) k := ⟨_, rfl⟩
      obtain ⟨X2, hX2⟩ : ∃ x, x = trnTo zs k := ⟨_, rfl⟩
      have HL : Hid (X0.length = k ∧ X1.length = k ∧ X2.length = k ∧ k < 64) := Lib.hid (by rw [hX0, hX1, hX2, allTo_len, allTo_len, trnTo_len]; omega)
      rw [← hX0, ← hX1, ← hX2] at hR
      have HEQ := Lib.hid (And.intro hX0 (And.intro hX1 (And.intro hX2 trivial)))
      have HYY := Lib.hid (And.intro hyh (And.intro hyv (show st = ((zs k).q - (zs k).p) % 65536 by rw [hst, hyp, hyq])))
      have hR0 := Rg.new yh yp yv yq 113 hR
      obtain ⟨A0, hA0⟩ : ∃ A, A = wr.alloc (.cells #[.int .i64 yh, .int .i64 yp, .int .i64 yv, .int .i64 yq] 113) := ⟨_, rfl⟩
      rw [← hA0] at hR0
      have d0 := hR0.c0
      have d1 := hR0.c1
      have d2 := hR0.c2
      have d3 := hR0.c3
      have R0 := Lib.hid (hR0.keep (Below.refl _ _).drew)
      have HS13 := Lib.hid (show (fun w' : World => w'.cell? ⟨wr.heap.size, 0, none⟩ = some (.int .i64 yh) ∧ w'.cell? ⟨wr.heap.size, 1, none⟩ = some (.int .i64 yp) ∧ w'.cell? ⟨wr.heap.size, 2, none⟩ = some (.int .i64 yv) ∧ w'.cell? ⟨wr.heap.size, 3, none⟩ = some (.int .i64 yq) ∧ Below V.heap.size V w') A0.drew from ⟨R0.out.c0, R0.out.c1, R0.out.c2, R0.out.c3, R0.out.s.b⟩)
      have PW := Lib.hid (PV.out.keep hR0.s.b PV.out.z)
      clear hR0 hR hyh hyp hyv hyq hX0 hX1 hX2 hsm hA hbw
      go_wp2_with fail
      rw [← hA0]
      clear hA0 z0 z1 z2 z3
      refine (refIn_any _ _ _ _).mono ?_; rintro e' w' ⟨rfl, rfl⟩
      rcases Bool.eq_false_or_eq_true (inB yh 0 1023) with b1 | b1
      case inr =>
        have hno := HNA.out (by rw [HSM.out, b1]; rfl)
        have HNO := Lib.hid hno
        clear hno
        obtain ⟨t0, t1, t2, t3, t4, r0, r1, r2, r3, ho, hzz, hbw⟩ := PW.out
        have HO := Lib.hid ho
        have oc0 := HO.out.c 0 (by decide)
        have of0 := HO.out.f 0 (by decide)
        have oc1 := HO.out.c 1 (by decide)
        have of1 := HO.out.f 1 (by decide)
        have oc2 := HO.out.c 2 (by decide)
        have of2 := HO.out.f 2 (by decide)
        have oc3 := HO.out.c 3 (by decide)
        have of3 := HO.out.f 3 (by decide)
        have oc4 := HO.out.c 4 (by decide)
        have of4 := HO.out.f 4 (by decide)
        have oc5 := HO.out.c 5 (by decide)
        have of5 := HO.out.f 5 (by decide)
        have oc6 := HO.out.c 6 (by decide)
        have of6 := HO.out.f 6 (by decide)
        have oc7 := HO.out.c 7 (by decide)
        have of7 := HO.out.f 7 (by decide)
        have oc8 := HO.out.c 8 (by decide)
        have of8 := HO.out.f 8 (by decide)
        have oc9 := HO.out.c 9 (by decide)
        have of9 := HO.out.f 9 (by decide)
        have oc10 := HO.out.c 10 (by decide)
        have of10 := HO.out.f 10 (by decide)
        have oc11 := HO.out.c 11 (by decide)
        have of11 := HO.out.f 11 (by decide)
        have oc12 := HO.out.c 12 (by decide)
        have of12 := HO.out.f 12 (by decide)
        have oc13 := HO.out.c 13 (by decide)
        have of13 := HO.out.f 13 (by decide)
        go_wp2_with (go_at_call 48; refine (refIn_any _ _ _ _).mono ?_; rintro e' w' ⟨rfl, rfl⟩)
        obtain ⟨Z, hZ⟩ : ∃ Z, Z = ((((((((((((((A0.setCell ⟨w.heap.size + 1 + 1, 0, none⟩ (.int .i64 (0))).setCell ⟨w.heap.size + 1 + 1, 1, none⟩ (.int .i64 (0))).setCell ⟨w.heap.size + 1 + 1, 2, none⟩ (.int .i64 (0))).setCell ⟨w.heap.size + 1 + 1, 3, none⟩ (.int .i64 (0))).setCell ⟨w.heap.size + 1 + 1, 4, none⟩ (.int .i64 (0))).setCell ⟨w.heap.size + 1 + 1, 5, none⟩ (.int .i64 (0))).setCell ⟨w.heap.size + 1 + 1, 6, none⟩ (.int .i64 (0))).setCell ⟨w.heap.size + 1 + 1, 7, none⟩ (.int .i64 (0))).setCell ⟨w.heap.size + 1 + 1, 8, none⟩ (.int .i64 (0))).setCell ⟨w.heap.size + 1 + 1, 9, none⟩ (.int .i64 (0))).setCell ⟨w.heap.size + 1 + 1, 10, none⟩ (.int .i64 (0))).setCell ⟨w.heap.size + 1 + 1, 11, none⟩ (.int .i64 (0))).setCell ⟨w.heap.size + 1 + 1, 12, none⟩ (.int .i64 (0))).setCell ⟨w.heap.size + 1 + 1, 13, none⟩ (.int .i64 (0))) := ⟨_, rfl⟩
        rw [← hZ]
        have EZ := ((((((((((((((HO.out.set (k := 0) (v := 0)).set (k := 1) (v := 0)).set (k := 2) (v := 0)).set (k := 3) (v := 0)).set (k := 4) (v := 0)).set (k := 5) (v := 0)).set (k := 6) (v := 0)).set (k := 7) (v := 0)).set (k := 8) (v := 0)).set (k := 9) (v := 0)).set (k := 10) (v := 0)).set (k := 11) (v := 0)).set (k := 12) (v := 0)).set (k := 13) (v := 0))
        rw [← hZ] at EZ
        have bZ : Below w.heap.size w Z := by rw [hZ]; exact ((((((((((((((hbw.setCell (p := ⟨w.heap.size + 1 + 1, 0, none⟩) (by dsimp only; omega) _).setCell (p := ⟨w.heap.size + 1 + 1, 1, none⟩) (by dsimp only; omega) _).setCell (p := ⟨w.heap.size + 1 + 1, 2, none⟩) (by dsimp only; omega) _).setCell (p := ⟨w.heap.size + 1 + 1, 3, none⟩) (by dsimp only; omega) _).setCell (p := ⟨w.heap.size + 1 + 1, 4, none⟩) (by dsimp only; omega) _).setCell (p := ⟨w.heap.size + 1 + 1, 5, none⟩) (by dsimp only; omega) _).setCell (p := ⟨w.heap.size + 1 + 1, 6, none⟩) (by dsimp only; omega) _).setCell (p := ⟨w.heap.size + 1 + 1, 7, none⟩) (by dsimp only; omega) _).setCell (p := ⟨w.heap.size + 1 + 1, 8, none⟩) (by dsimp only; omega) _).setCell (p := ⟨w.heap.size + 1 + 1, 9, none⟩) (by dsimp only; omega) _).setCell (p := ⟨w.heap.size + 1 + 1, 10, none⟩) (by dsimp only; omega) _).setCell (p := ⟨w.heap.size + 1 + 1, 11, none⟩) (by dsimp only; omega) _).setCell (p := ⟨w.heap.size + 1 + 1, 12, none⟩) (by dsimp only; omega) _).setCell (p := ⟨w.heap.size + 1 + 1, 13, none⟩) (by dsimp only; omega) _)
        clear hZ
        have h0 : Z.cell? ⟨w.heap.size + 1 + 1, 0, none⟩ = some (.int .i64 (0)) := EZ.c 0 (by decide)
        have h1 : Z.cell? ⟨w.heap.size + 1 + 1, 1, none⟩ = some (.int .i64 (0)) := EZ.c 1 (by decide)
        have h2 : Z.cell? ⟨w.heap.size + 1 + 1, 2, none⟩ = some (.int .i64 (0)) := EZ.c 2 (by decide)
        have h3 : Z.cell? ⟨w.heap.size + 1 + 1, 3, none⟩ = some (.int .i64 (0)) := EZ.c 3 (by decide)
        have h4 : Z.cell? ⟨w.heap.size + 1 + 1, 4, none⟩ = some (.int .i64 (0)) := EZ.c 4 (by decide)
        have h5 : Z.cell? ⟨w.heap.size + 1 + 1, 5, none⟩ = some (.int .i64 (0)) := EZ.c 5 (by decide)
        have h6 : Z.cell? ⟨w.heap.size + 1 + 1, 6, none⟩ = some (.int .i64 (0)) := EZ.c 6 (by decide)
        have h7 : Z.cell? ⟨w.heap.size + 1 + 1, 7, none⟩ = some (.int .i64 (0)) := EZ.c 7 (by decide)
        have h8 : Z.cell? ⟨w.heap.size + 1 + 1, 8, none⟩ = some (.int .i64 (0)) := EZ.c 8 (by decide)
        have h9 : Z.cell? ⟨w.heap.size + 1 + 1, 9, none⟩ = some (.int .i64 (0)) := EZ.c 9 (by decide)
        have h10 : Z.cell? ⟨w.heap.size + 1 + 1, 10, none⟩ = some (.int .i64 (0)) := EZ.c 10 (by decide)
        have h11 : Z.cell? ⟨w.heap.size + 1 + 1, 11, none⟩ = some (.int .i64 (0)) := EZ.c 11 (by decide)
        have h12 : Z.cell? ⟨w.heap.size + 1 + 1, 12, none⟩ = some (.int .i64 (0)) := EZ.c 12 (by decide)
        have h13 : Z.cell? ⟨w.heap.size + 1 + 1, 13, none⟩ = some (.int .i64 (0)) := EZ.c 13 (by decide)
        clear EZ
        exact bodyPost_ret (v := .tuple #[.agg #[.int .i64 (0), .int .i64 (0), .int .i64 (0), .int .i64 (0), .int .i64 (0), .int .i64 (0), .int .i64 (0), .int .i64 (0), .int .i64 (0), .int .i64 (0), .int .i64 (0), .int .i64 (0), .int .i64 (0), .int .i64 (0)], .int .i64 3]) (by simp [results, Try.results28, go_sem, h0, h1, h2, h3, h4, h5, h6, h7, h8, h9, h10, h11, h12, h13]) rfl ⟨by rw [HG3.out.1 HNO.out, HG3.out.2 HNO.out], bZ⟩
      rcases Bool.eq_false_or_eq_true (inB yv 0 1023) with b2 | b2
      case inr =>
        have hno := HNA.out (by rw [HSM.out, b1, b2]; rfl)
        have HNO := Lib.hid hno
        clear hno
        obtain ⟨t0, t1, t2, t3, t4, r0, r1, r2, r3, ho, hzz, hbw⟩ := PW.out
        have HO := Lib.hid ho
        have oc0 := HO.out.c 0 (by decide)
        have of0 := HO.out.f 0 (by decide)
        have oc1 := HO.out.c 1 (by decide)
        have of1 := HO.out.f 1 (by decide)
        have oc2 := HO.out.c 2 (by decide)
        have of2 := HO.out.f 2 (by decide)
        have oc3 := HO.out.c 3 (by decide)
        have of3 := HO.out.f 3 (by decide)
        have oc4 := HO.out.c 4 (by decide)
        have of4 := HO.out.f 4 (by decide)
        have oc5 := HO.out.c 5 (by decide)
        have of5 := HO.out.f 5 (by decide)
        have oc6 := HO.out.c 6 (by decide)
        have of6 := HO.out.f 6 (by decide)
        have oc7 := HO.out.c 7 (by decide)
        have of7 := HO.out.f 7 (by decide)
        have oc8 := HO.out.c 8 (by decide)
        have of8 := HO.out.f 8 (by decide)
        have oc9 := HO.out.c 9 (by decide)
        have of9 := HO.out.f 9 (by decide)
        have oc10 := HO.out.c 10 (by decide)
        have of10 := HO.out.f 10 (by decide)
        have oc11 := HO.out.c 11 (by decide)
        have of11 := HO.out.f 11 (by decide)
        have oc12 := HO.out.c 12 (by decide)
        have of12 := HO.out.f 12 (by decide)
        have oc13 := HO.out.c 13 (by decide)
        have of13 := HO.out.f 13 (by decide)
        go_wp2_with (go_at_call 48; refine (refIn_any _ _ _ _).mono ?_; rintro e' w' ⟨rfl, rfl⟩)
        obtain ⟨Z, hZ⟩ : ∃ Z, Z = ((((((((((((((A0.setCell ⟨w.heap.size + 1 + 1, 0, none⟩ (.int .i64 (0))).setCell ⟨w.heap.size + 1 + 1, 1, none⟩ (.int .i64 (0))).setCell ⟨w.heap.size + 1 + 1, 2, none⟩ (.int .i64 (0))).setCell ⟨w.heap.size + 1 + 1, 3, none⟩ (.int .i64 (0))).setCell ⟨w.heap.size + 1 + 1, 4, none⟩ (.int .i64 (0))).setCell ⟨w.heap.size + 1 + 1, 5, none⟩ (.int .i64 (0))).setCell ⟨w.heap.size + 1 + 1, 6, none⟩ (.int .i64 (0))).setCell ⟨w.heap.size + 1 + 1, 7, none⟩ (.int .i64 (0))).setCell ⟨w.heap.size + 1 + 1, 8, none⟩ (.int .i64 (0))).setCell ⟨w.heap.size + 1 + 1, 9, none⟩ (.int .i64 (0))).setCell ⟨w.heap.size + 1 + 1, 10, none⟩ (.int .i64 (0))).setCell ⟨w.heap.size + 1 + 1, 11, none⟩ (.int .i64 (0))).setCell ⟨w.heap.size + 1 + 1, 12, none⟩ (.int .i64 (0))).setCell ⟨w.heap.size + 1 + 1, 13, none⟩ (.int .i64 (0))) := ⟨_, rfl⟩
        rw [← hZ]
        have EZ := ((((((((((((((HO.out.set (k := 0) (v := 0)).set (k := 1) (v := 0)).set (k := 2) (v := 0)).set (k := 3) (v := 0)).set (k := 4) (v := 0)).set (k := 5) (v := 0)).set (k := 6) (v := 0)).set (k := 7) (v := 0)).set (k := 8) (v := 0)).set (k := 9) (v := 0)).set (k := 10) (v := 0)).set (k := 11) (v := 0)).set (k := 12) (v := 0)).set (k := 13) (v := 0))
        rw [← hZ] at EZ
        have bZ : Below w.heap.size w Z := by rw [hZ]; exact ((((((((((((((hbw.setCell (p := ⟨w.heap.size + 1 + 1, 0, none⟩) (by dsimp only; omega) _).setCell (p := ⟨w.heap.size + 1 + 1, 1, none⟩) (by dsimp only; omega) _).setCell (p := ⟨w.heap.size + 1 + 1, 2, none⟩) (by dsimp only; omega) _).setCell (p := ⟨w.heap.size + 1 + 1, 3, none⟩) (by dsimp only; omega) _).setCell (p := ⟨w.heap.size + 1 + 1, 4, none⟩) (by dsimp only; omega) _).setCell (p := ⟨w.heap.size + 1 + 1, 5, none⟩) (by dsimp only; omega) _).setCell (p := ⟨w.heap.size + 1 + 1, 6, none⟩) (by dsimp only; omega) _).setCell (p := ⟨w.heap.size + 1 + 1, 7, none⟩) (by dsimp only; omega) _).setCell (p := ⟨w.heap.size + 1 + 1, 8, none⟩) (by dsimp only; omega) _).setCell (p := ⟨w.heap.size + 1 + 1, 9, none⟩) (by dsimp only; omega) _).setCell (p := ⟨w.heap.size + 1 + 1, 10, none⟩) (by dsimp only; omega) _).setCell (p := ⟨w.heap.size + 1 + 1, 11, none⟩) (by dsimp only; omega) _).setCell (p := ⟨w.heap.size + 1 + 1, 12, none⟩) (by dsimp only; omega) _).setCell (p := ⟨w.heap.size + 1 + 1, 13, none⟩) (by dsimp only; omega) _)
        clear hZ
        have h0 : Z.cell? ⟨w.heap.size + 1 + 1, 0, none⟩ = some (.int .i64 (0)) := EZ.c 0 (by decide)
        have h1 : Z.cell? ⟨w.heap.size + 1 + 1, 1, none⟩ = some (.int .i64 (0)) := EZ.c 1 (by decide)
        have h2 : Z.cell? ⟨w.heap.size + 1 + 1, 2, none⟩ = some (.int .i64 (0)) := EZ.c 2 (by decide)
        have h3 : Z.cell? ⟨w.heap.size + 1 + 1, 3, none⟩ = some (.int .i64 (0)) := EZ.c 3 (by decide)
        have h4 : Z.cell? ⟨w.heap.size + 1 + 1, 4, none⟩ = some (.int .i64 (0)) := EZ.c 4 (by decide)
        have h5 : Z.cell? ⟨w.heap.size + 1 + 1, 5, none⟩ = some (.int .i64 (0)) := EZ.c 5 (by decide)
        have h6 : Z.cell? ⟨w.heap.size + 1 + 1, 6, none⟩ = some (.int .i64 (0)) := EZ.c 6 (by decide)
        have h7 : Z.cell? ⟨w.heap.size + 1 + 1, 7, none⟩ = some (.int .i64 (0)) := EZ.c 7 (by decide)
        have h8 : Z.cell? ⟨w.heap.size + 1 + 1, 8, none⟩ = some (.int .i64 (0)) := EZ.c 8 (by decide)
        have h9 : Z.cell? ⟨w.heap.size + 1 + 1, 9, none⟩ = some (.int .i64 (0)) := EZ.c 9 (by decide)
        have h10 : Z.cell? ⟨w.heap.size + 1 + 1, 10, none⟩ = some (.int .i64 (0)) := EZ.c 10 (by decide)
        have h11 : Z.cell? ⟨w.heap.size + 1 + 1, 11, none⟩ = some (.int .i64 (0)) := EZ.c 11 (by decide)
        have h12 : Z.cell? ⟨w.heap.size + 1 + 1, 12, none⟩ = some (.int .i64 (0)) := EZ.c 12 (by decide)
        have h13 : Z.cell? ⟨w.heap.size + 1 + 1, 13, none⟩ = some (.int .i64 (0)) := EZ.c 13 (by decide)
        clear EZ
        exact bodyPost_ret (v := .tuple #[.agg #[.int .i64 (0), .int .i64 (0), .int .i64 (0), .int .i64 (0), .int .i64 (0), .int .i64 (0), .int .i64 (0), .int .i64 (0), .int .i64 (0), .int .i64 (0), .int .i64 (0), .int .i64 (0), .int .i64 (0), .int .i64 (0)], .int .i64 3]) (by simp [results, Try.results28, go_sem, h0, h1, h2, h3, h4, h5, h6, h7, h8, h9, h10, h11, h12, h13]) rfl ⟨by rw [HG3.out.1 HNO.out, HG3.out.2 HNO.out], bZ⟩
      rcases Bool.eq_false_or_eq_true (inB yp 0 65535) with b3 | b3
      case inr =>
        have hno := HNA.out (by rw [HSM.out, b1, b2, b3]; rfl)
        have HNO := Lib.hid hno
        clear hno
        obtain ⟨t0, t1, t2, t3, t4, r0, r1, r2, r3, ho, hzz, hbw⟩ := PW.out
        have HO := Lib.hid ho
        have oc0 := HO.out.c 0 (by decide)
        have of0 := HO.out.f 0 (by decide)
        have oc1 := HO.out.c 1 (by decide)
        have of1 := HO.out.f 1 (by decide)
        have oc2 := HO.out.c 2 (by decide)
        have of2 := HO.out.f 2 (by decide)
        have oc3 := HO.out.c 3 (by decide)
        have of3 := HO.out.f 3 (by decide)
        have oc4 := HO.out.c 4 (by decide)
        have of4 := HO.out.f 4 (by decide)
        have oc5 := HO.out.c 5 (by decide)
        have of5 := HO.out.f 5 (by decide)
        have oc6 := HO.out.c 6 (by decide)
        have of6 := HO.out.f 6 (by decide)
        have oc7 := HO.out.c 7 (by decide)
        have of7 := HO.out.f 7 (by decide)
        have oc8 := HO.out.c 8 (by decide)
        have of8 := HO.out.f 8 (by decide)
        have oc9 := HO.out.c 9 (by decide)
        have of9 := HO.out.f 9 (by decide)
        have oc10 := HO.out.c 10 (by decide)
        have of10 := HO.out.f 10 (by decide)
        have oc11 := HO.out.c 11 (by decide)
        have of11 := HO.out.f 11 (by decide)
        have oc12 := HO.out.c 12 (by decide)
        have of12 := HO.out.f 12 (by decide)
        have oc13 := HO.out.c 13 (by decide)
        have of13 := HO.out.f 13 (by decide)
        go_wp2_with (go_at_call 48; refine (refIn_any _ _ _ _).mono ?_; rintro e' w' ⟨rfl, rfl⟩)
        obtain ⟨Z, hZ⟩ : ∃ Z, Z = ((((((((((((((A0.setCell ⟨w.heap.size + 1 + 1, 0, none⟩ (.int .i64 (0))).setCell ⟨w.heap.size + 1 + 1, 1, none⟩ (.int .i64 (0))).setCell ⟨w.heap.size + 1 + 1, 2, none⟩ (.int .i64 (0))).setCell ⟨w.heap.size + 1 + 1, 3, none⟩ (.int .i64 (0))).setCell ⟨w.heap.size + 1 + 1, 4, none⟩ (.int .i64 (0))).setCell ⟨w.heap.size + 1 + 1, 5, none⟩ (.int .i64 (0))).setCell ⟨w.heap.size + 1 + 1, 6, none⟩ (.int .i64 (0))).setCell ⟨w.heap.size + 1 + 1, 7, none⟩ (.int .i64 (0))).setCell ⟨w.heap.size + 1 + 1, 8, none⟩ (.int .i64 (0))).setCell ⟨w.heap.size + 1 + 1, 9, none⟩ (.int .i64 (0))).setCell ⟨w.heap.size + 1 + 1, 10, none⟩ (.int .i64 (0))).setCell ⟨w.heap.size + 1 + 1, 11, none⟩ (.int .i64 (0))).setCell ⟨w.heap.size + 1 + 1, 12, none⟩ (.int .i64 (0))).setCell ⟨w.heap.size + 1 + 1, 13, none⟩ (.int .i64 (0))) := ⟨_, rfl⟩
        rw [← hZ]
        have EZ := ((((((((((((((HO.out.set (k := 0) (v := 0)).set (k := 1) (v := 0)).set (k := 2) (v := 0)).set (k := 3) (v := 0)).set (k := 4) (v := 0)).set (k := 5) (v := 0)).set (k := 6) (v := 0)).set (k := 7) (v := 0)).set (k := 8) (v := 0)).set (k := 9) (v := 0)).set (k := 10) (v := 0)).set (k := 11) (v := 0)).set (k := 12) (v := 0)).set (k := 13) (v := 0))
        rw [← hZ] at EZ
        have bZ : Below w.heap.size w Z := by rw [hZ]; exact ((((((((((((((hbw.setCell (p := ⟨w.heap.size + 1 + 1, 0, none⟩) (by dsimp only; omega) _).setCell (p := ⟨w.heap.size + 1 + 1, 1, none⟩) (by dsimp only; omega) _).setCell (p := ⟨w.heap.size + 1 + 1, 2, none⟩) (by dsimp only; omega) _).setCell (p := ⟨w.heap.size + 1 + 1, 3, none⟩) (by dsimp only; omega) _).setCell (p := ⟨w.heap.size + 1 + 1, 4, none⟩) (by dsimp only; omega) _).setCell (p := ⟨w.heap.size + 1 + 1, 5, none⟩) (by dsimp only; omega) _).setCell (p := ⟨w.heap.size + 1 + 1, 6, none⟩) (by dsimp only; omega) _).setCell (p := ⟨w.heap.size + 1 + 1, 7, none⟩) (by dsimp only; omega) _).setCell (p := ⟨w.heap.size + 1 + 1, 8, none⟩) (by dsimp only; omega) _).setCell (p := ⟨w.heap.size + 1 + 1, 9, none⟩) (by dsimp only; omega) _).setCell (p := ⟨w.heap.size + 1 + 1, 10, none⟩) (by dsimp only; omega) _).setCell (p := ⟨w.heap.size + 1 + 1, 11, none⟩) (by dsimp only; omega) _).setCell (p := ⟨w.heap.size + 1 + 1, 12, none⟩) (by dsimp only; omega) _).setCell (p := ⟨w.heap.size + 1 + 1, 13, none⟩) (by dsimp only; omega) _)
        clear hZ
        have h0 : Z.cell? ⟨w.heap.size + 1 + 1, 0, none⟩ = some (.int .i64 (0)) := EZ.c 0 (by decide)
        have h1 : Z.cell? ⟨w.heap.size + 1 + 1, 1, none⟩ = some (.int .i64 (0)) := EZ.c 1 (by decide)
        have h2 : Z.cell? ⟨w.heap.size + 1 + 1, 2, none⟩ = some (.int .i64 (0)) := EZ.c 2 (by decide)
        have h3 : Z.cell? ⟨w.heap.size + 1 + 1, 3, none⟩ = some (.int .i64 (0)) := EZ.c 3 (by decide)
        have h4 : Z.cell? ⟨w.heap.size + 1 + 1, 4, none⟩ = some (.int .i64 (0)) := EZ.c 4 (by decide)
        have h5 : Z.cell? ⟨w.heap.size + 1 + 1, 5, none⟩ = some (.int .i64 (0)) := EZ.c 5 (by decide)
        have h6 : Z.cell? ⟨w.heap.size + 1 + 1, 6, none⟩ = some (.int .i64 (0)) := EZ.c 6 (by decide)
        have h7 : Z.cell? ⟨w.heap.size + 1 + 1, 7, none⟩ = some (.int .i64 (0)) := EZ.c 7 (by decide)
        have h8 : Z.cell? ⟨w.heap.size + 1 + 1, 8, none⟩ = some (.int .i64 (0)) := EZ.c 8 (by decide)
        have h9 : Z.cell? ⟨w.heap.size + 1 + 1, 9, none⟩ = some (.int .i64 (0)) := EZ.c 9 (by decide)
        have h10 : Z.cell? ⟨w.heap.size + 1 + 1, 10, none⟩ = some (.int .i64 (0)) := EZ.c 10 (by decide)
        have h11 : Z.cell? ⟨w.heap.size + 1 + 1, 11, none⟩ = some (.int .i64 (0)) := EZ.c 11 (by decide)
        have h12 : Z.cell? ⟨w.heap.size + 1 + 1, 12, none⟩ = some (.int .i64 (0)) := EZ.c 12 (by decide)
        have h13 : Z.cell? ⟨w.heap.size + 1 + 1, 13, none⟩ = some (.int .i64 (0)) := EZ.c 13 (by decide)
        clear EZ
        exact bodyPost_ret (v := .tuple #[.agg #[.int .i64 (0), .int .i64 (0), .int .i64 (0), .int .i64 (0), .int .i64 (0), .int .i64 (0), .int .i64 (0), .int .i64 (0), .int .i64 (0), .int .i64 (0), .int .i64 (0), .int .i64 (0), .int .i64 (0), .int .i64 (0)], .int .i64 3]) (by simp [results, Try.results28, go_sem, h0, h1, h2, h3, h4, h5, h6, h7, h8, h9, h10, h11, h12, h13]) rfl ⟨by rw [HG3.out.1 HNO.out, HG3.out.2 HNO.out], bZ⟩
      rcases Bool.eq_false_or_eq_true (inB yq 0 65535) with b4 | b4
      case inr =>
        have hno := HNA.out (by rw [HSM.out, b1, b2, b3, b4]; rfl)
        have HNO := Lib.hid hno
        clear hno
        obtain ⟨t0, t1, t2, t3, t4, r0, r1, r2, r3, ho, hzz, hbw⟩ := PW.out
        have HO := Lib.hid ho
        have oc0 := HO.out.c 0 (by decide)
        have of0 := HO.out.f 0 (by decide)
        have oc1 := HO.out.c 1 (by decide)
        have of1 := HO.out.f 1 (by decide)
        have oc2 := HO.out.c 2 (by decide)
        have of2 := HO.out.f 2 (by decide)
        have oc3 := HO.out.c 3 (by decide)
        have of3 := HO.out.f 3 (by decide)
        have oc4 := HO.out.c 4 (by decide)
        have of4 := HO.out.f 4 (by decide)
        have oc5 := HO.out.c 5 (by decide)
        have of5 := HO.out.f 5 (by decide)
        have oc6 := HO.out.c 6 (by decide)
        have of6 := HO.out.f 6 (by decide)
        have oc7 := HO.out.c 7 (by decide)
        have of7 := HO.out.f 7 (by decide)
        have oc8 := HO.out.c 8 (by decide)
        have of8 := HO.out.f 8 (by decide)
        have oc9 := HO.out.c 9 (by decide)
        have of9 := HO.out.f 9 (by decide)
        have oc10 := HO.out.c 10 (by decide)
        have of10 := HO.out.f 10 (by decide)
        have oc11 := HO.out.c 11 (by decide)
        have of11 := HO.out.f 11 (by decide)
        have oc12 := HO.out.c 12 (by decide)
        have of12 := HO.out.f 12 (by decide)
        have oc13 := HO.out.c 13 (by decide)
        have of13 := HO.out.f 13 (by decide)
        go_wp2_with (go_at_call 48; refine (refIn_any _ _ _ _).mono ?_; rintro e' w' ⟨rfl, rfl⟩)
        obtain ⟨Z, hZ⟩ : ∃ Z, Z = ((((((((((((((A0.setCell ⟨w.heap.size + 1 + 1, 0, none⟩ (.int .i64 (0))).setCell ⟨w.heap.size + 1 + 1, 1, none⟩ (.int .i64 (0))).setCell ⟨w.heap.size + 1 + 1, 2, none⟩ (.int .i64 (0))).setCell ⟨w.heap.size + 1 + 1, 3, none⟩ (.int .i64 (0))).setCell ⟨w.heap.size + 1 + 1, 4, none⟩ (.int .i64 (0))).setCell ⟨w.heap.size + 1 + 1, 5, none⟩ (.int .i64 (0))).setCell ⟨w.heap.size + 1 + 1, 6, none⟩ (.int .i64 (0))).setCell ⟨w.heap.size + 1 + 1, 7, none⟩ (.int .i64 (0))).setCell ⟨w.heap.size + 1 + 1, 8, none⟩ (.int .i64 (0))).setCell ⟨w.heap.size + 1 + 1, 9, none⟩ (.int .i64 (0))).setCell ⟨w.heap.size + 1 + 1, 10, none⟩ (.int .i64 (0))).setCell ⟨w.heap.size + 1 + 1, 11, none⟩ (.int .i64 (0))).setCell ⟨w.heap.size + 1 + 1, 12, none⟩ (.int .i64 (0))).setCell ⟨w.heap.size + 1 + 1, 13, none⟩ (.int .i64 (0))) := ⟨_, rfl⟩
        rw [← hZ]
        have EZ := ((((((((((((((HO.out.set (k := 0) (v := 0)).set (k := 1) (v := 0)).set (k := 2) (v := 0)).set (k := 3) (v := 0)).set (k := 4) (v := 0)).set (k := 5) (v := 0)).set (k := 6) (v := 0)).set (k := 7) (v := 0)).set (k := 8) (v := 0)).set (k := 9) (v := 0)).set (k := 10) (v := 0)).set (k := 11) (v := 0)).set (k := 12) (v := 0)).set (k := 13) (v := 0))
        rw [← hZ] at EZ
        have bZ : Below w.heap.size w Z := by rw [hZ]; exact ((((((((((((((hbw.setCell (p := ⟨w.heap.size + 1 + 1, 0, none⟩) (by dsimp only; omega) _).setCell (p := ⟨w.heap.size + 1 + 1, 1, none⟩) (by dsimp only; omega) _).setCell (p := ⟨w.heap.size + 1 + 1, 2, none⟩) (by dsimp only; omega) _).setCell (p := ⟨w.heap.size + 1 + 1, 3, none⟩) (by dsimp only; omega) _).setCell (p := ⟨w.heap.size + 1 + 1, 4, none⟩) (by dsimp only; omega) _).setCell (p := ⟨w.heap.size + 1 + 1, 5, none⟩) (by dsimp only; omega) _).setCell (p := ⟨w.heap.size + 1 + 1, 6, none⟩) (by dsimp only; omega) _).setCell (p := ⟨w.heap.size + 1 + 1, 7, none⟩) (by dsimp only; omega) _).setCell (p := ⟨w.heap.size + 1 + 1, 8, none⟩) (by dsimp only; omega) _).setCell (p := ⟨w.heap.size + 1 + 1, 9, none⟩) (by dsimp only; omega) _).setCell (p := ⟨w.heap.size + 1 + 1, 10, none⟩) (by dsimp only; omega) _).setCell (p := ⟨w.heap.size + 1 + 1, 11, none⟩) (by dsimp only; omega) _).setCell (p := ⟨w.heap.size + 1 + 1, 12, none⟩) (by dsimp only; omega) _).setCell (p := ⟨w.heap.size + 1 + 1, 13, none⟩) (by dsimp only; omega) _)
        clear hZ
        have h0 : Z.cell? ⟨w.heap.size + 1 + 1, 0, none⟩ = some (.int .i64 (0)) := EZ.c 0 (by decide)
        have h1 : Z.cell? ⟨w.heap.size + 1 + 1, 1, none⟩ = some (.int .i64 (0)) := EZ.c 1 (by decide)
        have h2 : Z.cell? ⟨w.heap.size + 1 + 1, 2, none⟩ = some (.int .i64 (0)) := EZ.c 2 (by decide)
        have h3 : Z.cell? ⟨w.heap.size + 1 + 1, 3, none⟩ = some (.int .i64 (0)) := EZ.c 3 (by decide)
        have h4 : Z.cell? ⟨w.heap.size + 1 + 1, 4, none⟩ = some (.int .i64 (0)) := EZ.c 4 (by decide)
        have h5 : Z.cell? ⟨w.heap.size + 1 + 1, 5, none⟩ = some (.int .i64 (0)) := EZ.c 5 (by decide)
        have h6 : Z.cell? ⟨w.heap.size + 1 + 1, 6, none⟩ = some (.int .i64 (0)) := EZ.c 6 (by decide)
        have h7 : Z.cell? ⟨w.heap.size + 1 + 1, 7, none⟩ = some (.int .i64 (0)) := EZ.c 7 (by decide)
        have h8 : Z.cell? ⟨w.heap.size + 1 + 1, 8, none⟩ = some (.int .i64 (0)) := EZ.c 8 (by decide)
        have h9 : Z.cell? ⟨w.heap.size + 1 + 1, 9, none⟩ = some (.int .i64 (0)) := EZ.c 9 (by decide)
        have h10 : Z.cell? ⟨w.heap.size + 1 + 1, 10, none⟩ = some (.int .i64 (0)) := EZ.c 10 (by decide)
        have h11 : Z.cell? ⟨w.heap.size + 1 + 1, 11, none⟩ = some (.int .i64 (0)) := EZ.c 11 (by decide)
        have h12 : Z.cell? ⟨w.heap.size + 1 + 1, 12, none⟩ = some (.int .i64 (0)) := EZ.c 12 (by decide)
        have h13 : Z.cell? ⟨w.heap.size + 1 + 1, 13, none⟩ = some (.int .i64 (0)) := EZ.c 13 (by decide)
        clear EZ
        exact bodyPost_ret (v := .tuple #[.agg #[.int .i64 (0), .int .i64 (0), .int .i64 (0), .int .i64 (0), .int .i64 (0), .int .i64 (0), .int .i64 (0), .int .i64 (0), .int .i64 (0), .int .i64 (0), .int .i64 (0), .int .i64 (0), .int .i64 (0), .int .i64 (0)], .int .i64 3]) (by simp [results, Try.results28, go_sem, h0, h1, h2, h3, h4, h5, h6, h7, h8, h9, h10, h11, h12, h13]) rfl ⟨by rw [HG3.out.1 HNO.out, HG3.out.2 HNO.out], bZ⟩
      have HAN := Lib.hid (HAN0.out (by rw [HSM.out, b1, b2, b3, b4]; rfl))
      have q3 := inB_true.1 b3
      have q4 := inB_true.1 b4
      have iw : IntKind.i64.wrap (yq - yp) = yq - yp := IntWalk.i64_in _ (by omega)
      have HW : Hid (∀ W : World, Calls Try.prog 60 #[.int .i64 (yq - yp)] W fun e w' => e = .returned (.int .i64 st) ∧ Below W.heap.size W w') := Lib.hid fun W => (Wrap_any (yq - yp) W (by omega) (by omega)).mono (by rintro e w' ⟨rfl, rfl⟩; exact ⟨by rw [hst], Below.refl _ _⟩)
      clear hst HSM HNA HAN0
      go_wp2_with (go_at_call 48; refine (refIn_any _ _ _ _).mono ?_; rintro e' w' ⟨rfl, rfl⟩)
      clear d0 d1 d2 d3 b1 b2 b3 b4
      refine wp_region_held_tail (S := (fun w' : World => w'.cell? ⟨wr.heap.size, 0, none⟩ = some (.int .i64 yh) ∧ w'.cell? ⟨wr.heap.size, 1, none⟩ = some (.int .i64 yp) ∧ w'.cell? ⟨wr.heap.size, 2, none⟩ = some (.int .i64 yv) ∧ w'.cell? ⟨wr.heap.size, 3, none⟩ = some (.int .i64 yq) ∧ Below V.heap.size V w')) 18 (by kernel_rfl) (by kernel_rfl) HS13.out (fun hHeld => ?_)
      clear HS13
      obtain ⟨D, hD⟩ : ∃ D, D = A0.drew := ⟨_, rfl⟩
      rw [← hD] at hHeld R0
      rw [← hD]
      clear hD
      refine wpAnyH_take (i := 0) (v := ?v0_1) rfl (by kernel_rfl) (by kernel_rfl) (by kernel_rfl) (fun _ _ _ h => h) (Or.inl ⟨by rfl, ?hy0_1⟩) (by assumption) ?rest0_1
      case hy0_1 => (intro w hSw; (try dsimp only at hSw); go_simp; (try with_reducible rfl))
      try simp only [Act.put, List.getElem_toArray, List.getElem_cons_zero, List.getElem_cons_succ, List.setIfInBounds_toArray, List.set_cons_zero, List.set_cons_succ]
      refine wpAnyH_take (i := 1) (v := ?v1_2) rfl (by kernel_rfl) (by kernel_rfl) (by kernel_rfl) (fun _ _ _ h => h) (Or.inl ⟨by rfl, ?hy1_2⟩) (by assumption) ?rest1_2
      case hy1_2 => (intro w hSw; (try dsimp only at hSw); go_simp; (try with_reducible rfl))
      try simp only [Act.put, List.getElem_toArray, List.getElem_cons_zero, List.getElem_cons_succ, List.setIfInBounds_toArray, List.set_cons_zero, List.set_cons_succ]
      refine wpAnyH_take (i := 2) (v := ?v2_3) rfl (by kernel_rfl) (by kernel_rfl) (by kernel_rfl) (fun _ _ _ h => h) (Or.inl ⟨by rfl, ?hy2_3⟩) (by assumption) ?rest2_3
      case hy2_3 => (intro w hSw; (try dsimp only at hSw); go_simp; (try with_reducible rfl))
      try simp only [Act.put, List.getElem_toArray, List.getElem_cons_zero, List.getElem_cons_succ, List.setIfInBounds_toArray, List.set_cons_zero, List.set_cons_succ]
      refine wpAnyH_take (i := 5) (v := ?v5_4) rfl (by kernel_rfl) (by kernel_rfl) (by kernel_rfl) (fun _ _ _ h => h) (Or.inl ⟨by rfl, ?hy5_4⟩) (by assumption) ?rest5_4
      case hy5_4 => (intro w hSw; (try dsimp only at hSw); go_simp; (try with_reducible rfl))
      try simp only [Act.put, List.getElem_toArray, List.getElem_cons_zero, List.getElem_cons_succ, List.setIfInBounds_toArray, List.set_cons_zero, List.set_cons_succ]
      refine wpAnyH_take (i := 6) (v := ?v6_5) rfl (by kernel_rfl) (by kernel_rfl) (by kernel_rfl) (fun _ _ _ h => h) (Or.inl ⟨by rfl, ?hy6_5⟩) (by assumption) ?rest6_5
      case hy6_5 => (intro w hSw; (try dsimp only at hSw); go_simp; (try with_reducible rfl))
      try simp only [Act.put, List.getElem_toArray, List.getElem_cons_zero, List.getElem_cons_succ, List.setIfInBounds_toArray, List.set_cons_zero, List.set_cons_succ]
      refine wpAnyH_take (i := 7) (v := ?v7_6) rfl (by kernel_rfl) (by kernel_rfl) (by kernel_rfl) (fun _ _ _ h => h) (Or.inl ⟨by rfl, ?hy7_6⟩) (by assumption) ?rest7_6
      case hy7_6 => (intro w hSw; (try dsimp only at hSw); go_simp; (try with_reducible rfl))
      try simp only [Act.put, List.getElem_toArray, List.getElem_cons_zero, List.getElem_cons_succ, List.setIfInBounds_toArray, List.set_cons_zero, List.set_cons_succ]
      refine wpAnyH_take (i := 10) (v := ?v10_7) rfl (by kernel_rfl) (by kernel_rfl) (by kernel_rfl) (fun _ _ _ h => h) (Or.inl ⟨by rfl, ?hy10_7⟩) (by assumption) ?rest10_7
      case hy10_7 => (intro w hSw; (try dsimp only at hSw); go_simp; (try with_reducible rfl))
      try simp only [Act.put, List.getElem_toArray, List.getElem_cons_zero, List.getElem_cons_succ, List.setIfInBounds_toArray, List.set_cons_zero, List.set_cons_succ]
      refine wpAnyH_take (i := 11) (v := ?v11_8) rfl (by kernel_rfl) (by kernel_rfl) (by kernel_rfl) (fun _ _ _ h => h) (Or.inl ⟨by rfl, ?hy11_8⟩) (by assumption) ?rest11_8
      case hy11_8 => (intro w hSw; (try dsimp only at hSw); go_simp; (try with_reducible rfl))
      try simp only [Act.put, List.getElem_toArray, List.getElem_cons_zero, List.getElem_cons_succ, List.setIfInBounds_toArray, List.set_cons_zero, List.set_cons_succ]
      refine wpAnyH_take (i := 12) (v := ?v12_9) rfl (by kernel_rfl) (by kernel_rfl) (by kernel_rfl) (fun _ _ _ h => h) (Or.inl ⟨by rfl, ?hy12_9⟩) (by assumption) ?rest12_9
      case hy12_9 => (intro w hSw; (try dsimp only at hSw); go_simp; (try with_reducible rfl))
      try simp only [Act.put, List.getElem_toArray, List.getElem_cons_zero, List.getElem_cons_succ, List.setIfInBounds_toArray, List.set_cons_zero, List.set_cons_succ]
      refine wpAnyH_take (i := 13) (v := ?v13_10) rfl (by kernel_rfl) (by kernel_rfl) (by kernel_rfl) (fun _ _ _ h => h) (Or.inl ⟨by rfl, ?hy13_10⟩) (by assumption) ?rest13_10
      case hy13_10 => (intro w hSw; (try dsimp only at hSw); go_simp; (try with_reducible rfl))
      try simp only [Act.put, List.getElem_toArray, List.getElem_cons_zero, List.getElem_cons_succ, List.setIfInBounds_toArray, List.set_cons_zero, List.set_cons_succ]
      refine wpAnyH_take (i := 14) (v := ?v14_11) rfl (by kernel_rfl) (by kernel_rfl) (by kernel_rfl) (fun _ _ _ h => h) (Or.inl ⟨by rfl, ?hy14_11⟩) (by assumption) ?rest14_11
      case hy14_11 => (intro w hSw; (try dsimp only at hSw); go_simp; (try with_reducible rfl))
      try simp only [Act.put, List.getElem_toArray, List.getElem_cons_zero, List.getElem_cons_succ, List.setIfInBounds_toArray, List.set_cons_zero, List.set_cons_succ]
      refine wpAnyH_take (i := 15) (v := ?v15_12) rfl (by kernel_rfl) (by kernel_rfl) (by kernel_rfl) (fun _ _ _ h => h) (Or.inl ⟨by rfl, ?hy15_12⟩) (by assumption) ?rest15_12
      case hy15_12 => (intro w hSw; (try dsimp only at hSw); go_simp; (try with_reducible rfl))
      try simp only [Act.put, List.getElem_toArray, List.getElem_cons_zero, List.getElem_cons_succ, List.setIfInBounds_toArray, List.set_cons_zero, List.set_cons_succ]
      refine wpAnyH_ready (rs := [3, 8]) (by kernel_rfl) (by simp) ?_
      refine AllReadyH.cons rfl (fun K hK => ?_) (AllReadyH.cons rfl (fun K hK => ?_) AllReadyH.nil)
      · skip
        go_simp
        have hb_1 : Below D.heap.size D (D.alloc (.cells #[.int .i64 yh] 3)) := below_alloc _ _
        have R1 := Lib.hid (R0.out.keep hb_1)
        have T1 := Lib.hid (Tb.new yh 3 R0.out.s)
        obtain ⟨W1, hW1⟩ : ∃ V, V = D.alloc (.cells #[.int .i64 yh] 3) := ⟨_, rfl⟩
        rw [← hW1] at R1 T1
        rw [← hW1]
        clear hb_1
        refine hK.out _ _ ⟨R1.out.c0, R1.out.c1, R1.out.c2, R1.out.c3, R1.out.s.b⟩ (fun hHeld => ?_)
        clear hK K hW1
        try simp only [Act.put, List.getElem_toArray, List.getElem_cons_zero, List.getElem_cons_succ, List.setIfInBounds_toArray, List.set_cons_zero, List.set_cons_succ]
        refine wpAnyH_ready (rs := [4, 8]) (by kernel_rfl) (by simp) ?_
        refine AllReadyH.cons rfl (fun K hK => ?_) (AllReadyH.cons rfl (fun K hK => ?_) AllReadyH.nil)
        · skip
          rw [if_pos (by rfl)]
          refine oper_append _ _ 50 rfl V.heap.size 3 i0 (.int .i64 0) 1 8 Try.underlying50 hi hz0 hz1 hz2 rfl (by decide) _ _ _ rfl R1.out.s.r0 ⟨D.heap.size, 0, none⟩ 1 1 [.int .i64 yh] rfl rfl (one_news T1.out.c) (by simp [Value.oneCell']) (by have := HL.out; omega) (by have := HL.out; omega) R1.out.s.b.size ?_
          intro v0' W2 hown hgrow hat
          have R2 := Lib.hid (R1.out.g0 hgrow hown hat)
          clear hown hgrow hat
          refine hK.out _ _ ⟨R2.out.c0, R2.out.c1, R2.out.c2, R2.out.c3, R2.out.s.b⟩ (fun hHeld => ?_)
          clear hK K
          try simp only [Act.put, List.getElem_toArray, List.getElem_cons_zero, List.getElem_cons_succ, List.setIfInBounds_toArray, List.set_cons_zero, List.set_cons_succ]
          refine wpAnyH_ready (rs := [8]) (by kernel_rfl) (by simp) ?_
          refine AllReadyH.cons rfl (fun K hK => ?_) AllReadyH.nil
          go_simp
          have hb_3 : Below W2.heap.size W2 (W2.alloc (.cells #[.int .i64 yv] 3)) := below_alloc _ _
          have R3 := Lib.hid (R2.out.keep hb_3)
          have T3 := Lib.hid (Tb.new yv 3 R2.out.s)
          obtain ⟨W3, hW3⟩ : ∃ V, V = W2.alloc (.cells #[.int .i64 yv] 3) := ⟨_, rfl⟩
          rw [← hW3] at R3 T3
          rw [← hW3]
          clear hb_3
          refine hK.out _ _ ⟨R3.out.c0, R3.out.c1, R3.out.c2, R3.out.c3, R3.out.s.b⟩ (fun hHeld => ?_)
          clear hK K hW3
          try simp only [Act.put, List.getElem_toArray, List.getElem_cons_zero, List.getElem_cons_succ, List.setIfInBounds_toArray, List.set_cons_zero, List.set_cons_succ]
          refine wpAnyH_ready (rs := [9]) (by kernel_rfl) (by simp) ?_
          refine AllReadyH.cons rfl (fun K hK => ?_) AllReadyH.nil
          rw [if_pos (by rfl)]
          refine oper_append _ _ 50 rfl V.heap.size 3 i0 (.int .i64 0) 1 8 Try.underlying50 hi hz0 hz1 hz2 rfl (by decide) _ _ _ rfl R3.out.s.r1 ⟨W2.heap.size, 0, none⟩ 1 1 [.int .i64 yv] rfl rfl (one_news T3.out.c) (by simp [Value.oneCell']) (by have := HL.out; omega) (by have := HL.out; omega) R3.out.s.b.size ?_
          intro v1' W4 hown hgrow hat
          have R4 := Lib.hid (R3.out.g1 hgrow hown hat)
          clear hown hgrow hat
          refine hK.out _ _ ⟨R4.out.c0, R4.out.c1, R4.out.c2, R4.out.c3, R4.out.s.b⟩ (fun hHeld => ?_)
          clear hK K
          try simp only [Act.put, List.getElem_toArray, List.getElem_cons_zero, List.getElem_cons_succ, List.setIfInBounds_toArray, List.set_cons_zero, List.set_cons_succ]
          refine wpAnyH_ready (rs := [16]) (by kernel_rfl) (by simp) ?_
          refine AllReadyH.cons rfl (fun K hK => ?_) AllReadyH.nil
          go_simp
          refine (HW.out _).mono ?_; rintro e' W5 ⟨rfl, hb_5⟩
          have R5 := Lib.hid (R4.out.keep hb_5)
          clear hb_5
          refine hK.out _ _ ⟨R5.out.c0, R5.out.c1, R5.out.c2, R5.out.c3, R5.out.s.b⟩ (fun hHeld => ?_)
          clear hK K
          try simp only [Act.put, List.getElem_toArray, List.getElem_cons_zero, List.getElem_cons_succ, List.setIfInBounds_toArray, List.set_cons_zero, List.set_cons_succ]
          refine wpAnyH_ready (rs := [17]) (by kernel_rfl) (by simp) ?_
          refine AllReadyH.cons rfl (fun K hK => ?_) AllReadyH.nil
          go_simp
          have hb_6 : Below W5.heap.size W5 (W5.alloc (.cells #[.int .i64 st] 3)) := below_alloc _ _
          have R6 := Lib.hid (R5.out.keep hb_6)
          have T6 := Lib.hid (Tb.new st 3 R5.out.s)
          obtain ⟨W6, hW6⟩ : ∃ V, V = W5.alloc (.cells #[.int .i64 st] 3) := ⟨_, rfl⟩
          rw [← hW6] at R6 T6
          rw [← hW6]
          clear hb_6
          refine hK.out _ _ ⟨R6.out.c0, R6.out.c1, R6.out.c2, R6.out.c3, R6.out.s.b⟩ (fun hHeld => ?_)
          clear hK K hW6
          try simp only [Act.put, List.getElem_toArray, List.getElem_cons_zero, List.getElem_cons_succ, List.setIfInBounds_toArray, List.set_cons_zero, List.set_cons_succ]
          refine wpAnyH_done (by kernel_rfl) ?_ _
          change wpList _ _ _ _ _ _
          simp only [List.drop_succ_cons, List.drop_zero]
          clear hHeld
          go_wp2_with (at_builtin; refine wpList_append_own_at _ rfl _ _ 50 rfl V.heap.size 3 i0 (.int .i64 0) 1 8 Try.underlying50 hi hz0 hz1 hz2 rfl (by decide) _ _ _ rfl R6.out.s.r2 ⟨W5.heap.size, 0, none⟩ 1 1 [.int .i64 st] rfl rfl (one_news T6.out.c) (by simp [Value.oneCell']) (by have := HL.out; omega) (by have := HL.out; omega) R6.out.s.b.size ?_; intro v2' W9 hown hgrow _ hat; have HX := Lib.hid (R6.out.s.g2 hgrow hown hat); clear hown hgrow hat)
          go_roundw
          case rel => exact ⟨k + 1, by omega, by go_num, HAN.out, by have h := HX.out; rw [HEQ.out.1, HEQ.out.2.1, HEQ.out.2.2.1, HYY.out.1, HYY.out.2.1, HYY.out.2.2] at h; exact h⟩
          case measure => simp [intOf]; omega
        · skip
          go_simp
          have hb_7 : Below W1.heap.size W1 (W1.alloc (.cells #[.int .i64 yv] 3)) := below_alloc _ _
          have R7 := Lib.hid (R1.out.keep hb_7)
          have T7 := Lib.hid (Tb.new yv 3 R1.out.s)
          have T1k := Lib.hid (T1.out.keep hb_7)
          obtain ⟨W7, hW7⟩ : ∃ V, V = W1.alloc (.cells #[.int .i64 yv] 3) := ⟨_, rfl⟩
          rw [← hW7] at R7 T7 T1k
          rw [← hW7]
          clear hb_7
          refine hK.out _ _ ⟨R7.out.c0, R7.out.c1, R7.out.c2, R7.out.c3, R7.out.s.b⟩ (fun hHeld => ?_)
          clear hK K hW7
          try simp only [Act.put, List.getElem_toArray, List.getElem_cons_zero, List.getElem_cons_succ, List.setIfInBounds_toArray, List.set_cons_zero, List.set_cons_succ]
          refine wpAnyH_ready (rs := [4]) (by kernel_rfl) (by simp) ?_
          refine AllReadyH.cons rfl (fun K hK => ?_) AllReadyH.nil
          rw [if_pos (by rfl)]
          refine oper_append _ _ 50 rfl V.heap.size 3 i0 (.int .i64 0) 1 8 Try.underlying50 hi hz0 hz1 hz2 rfl (by decide) _ _ _ rfl R7.out.s.r0 ⟨D.heap.size, 0, none⟩ 1 1 [.int .i64 yh] rfl rfl (one_news T1k.out.c) (by simp [Value.oneCell']) (by have := HL.out; omega) (by have := HL.out; omega) R7.out.s.b.size ?_
          intro v0' W8 hown hgrow hat
          have R8 := Lib.hid (R7.out.g0 hgrow hown hat)
          have T7g := Lib.hid (T7.out.g0 hgrow hat)
          clear hown hgrow hat
          refine hK.out _ _ ⟨R8.out.c0, R8.out.c1, R8.out.c2, R8.out.c3, R8.out.s.b⟩ (fun hHeld => ?_)
          clear hK K
          try simp only [Act.put, List.getElem_toArray, List.getElem_cons_zero, List.getElem_cons_succ, List.setIfInBounds_toArray, List.set_cons_zero, List.set_cons_succ]
          refine wpAnyH_ready (rs := [9]) (by kernel_rfl) (by simp) ?_
          refine AllReadyH.cons rfl (fun K hK => ?_) AllReadyH.nil
          rw [if_pos (by rfl)]
          refine oper_append _ _ 50 rfl V.heap.size 3 i0 (.int .i64 0) 1 8 Try.underlying50 hi hz0 hz1 hz2 rfl (by decide) _ _ _ rfl R8.out.s.r1 ⟨W1.heap.size, 0, none⟩ 1 1 [.int .i64 yv] rfl rfl (one_news T7g.out.c) (by simp [Value.oneCell']) (by have := HL.out; omega) (by have := HL.out; omega) R8.out.s.b.size ?_
          intro v1' W9 hown hgrow hat
          have R9 := Lib.hid (R8.out.g1 hgrow hown hat)
          clear hown hgrow hat
          refine hK.out _ _ ⟨R9.out.c0, R9.out.c1, R9.out.c2, R9.out.c3, R9.out.s.b⟩ (fun hHeld => ?_)
          clear hK K
          try simp only [Act.put, List.getElem_toArray, List.getElem_cons_zero, List.getElem_cons_succ, List.setIfInBounds_toArray, List.set_cons_zero, List.set_cons_succ]
          refine wpAnyH_ready (rs := [16]) (by kernel_rfl) (by simp) ?_
          refine AllReadyH.cons rfl (fun K hK => ?_) AllReadyH.nil
          go_simp
          refine (HW.out _).mono ?_; rintro e' W10 ⟨rfl, hb_10⟩
          have R10 := Lib.hid (R9.out.keep hb_10)
          clear hb_10
          refine hK.out _ _ ⟨R10.out.c0, R10.out.c1, R10.out.c2, R10.out.c3, R10.out.s.b⟩ (fun hHeld => ?_)
          clear hK K
          try simp only [Act.put, List.getElem_toArray, List.getElem_cons_zero, List.getElem_cons_succ, List.setIfInBounds_toArray, List.set_cons_zero, List.set_cons_succ]
          refine wpAnyH_ready (rs := [17]) (by kernel_rfl) (by simp) ?_
          refine AllReadyH.cons rfl (fun K hK => ?_) AllReadyH.nil
          go_simp
          have hb_11 : Below W10.heap.size W10 (W10.alloc (.cells #[.int .i64 st] 3)) := below_alloc _ _
          have R11 := Lib.hid (R10.out.keep hb_11)
          have T11 := Lib.hid (Tb.new st 3 R10.out.s)
          obtain ⟨W11, hW11⟩ : ∃ V, V = W10.alloc (.cells #[.int .i64 st] 3) := ⟨_, rfl⟩
          rw [← hW11] at R11 T11
          rw [← hW11]
          clear hb_11
          refine hK.out _ _ ⟨R11.out.c0, R11.out.c1, R11.out.c2, R11.out.c3, R11.out.s.b⟩ (fun hHeld => ?_)
          clear hK K hW11
          try simp only [Act.put, List.getElem_toArray, List.getElem_cons_zero, List.getElem_cons_succ, List.setIfInBounds_toArray, List.set_cons_zero, List.set_cons_succ]
          refine wpAnyH_done (by kernel_rfl) ?_ _
          change wpList _ _ _ _ _ _
          simp only [List.drop_succ_cons, List.drop_zero]
          clear hHeld
          go_wp2_with (at_builtin; refine wpList_append_own_at _ rfl _ _ 50 rfl V.heap.size 3 i0 (.int .i64 0) 1 8 Try.underlying50 hi hz0 hz1 hz2 rfl (by decide) _ _ _ rfl R11.out.s.r2 ⟨W10.heap.size, 0, none⟩ 1 1 [.int .i64 st] rfl rfl (one_news T11.out.c) (by simp [Value.oneCell']) (by have := HL.out; omega) (by have := HL.out; omega) R11.out.s.b.size ?_; intro v2' W9 hown hgrow _ hat; have HX := Lib.hid (R11.out.s.g2 hgrow hown hat); clear hown hgrow hat)
          go_roundw
          case rel => exact ⟨k + 1, by omega, by go_num, HAN.out, by have h := HX.out; rw [HEQ.out.1, HEQ.out.2.1, HEQ.out.2.2.1, HYY.out.1, HYY.out.2.1, HYY.out.2.2] at h; exact h⟩
          case measure => simp [intOf]; omega
      · skip
        go_simp
        have hb_12 : Below D.heap.size D (D.alloc (.cells #[.int .i64 yv] 3)) := below_alloc _ _
        have R12 := Lib.hid (R0.out.keep hb_12)
        have T12 := Lib.hid (Tb.new yv 3 R0.out.s)
        obtain ⟨W12, hW12⟩ : ∃ V, V = D.alloc (.cells #[.int .i64 yv] 3) := ⟨_, rfl⟩
        rw [← hW12] at R12 T12
        rw [← hW12]
        clear hb_12
        refine hK.out _ _ ⟨R12.out.c0, R12.out.c1, R12.out.c2, R12.out.c3, R12.out.s.b⟩ (fun hHeld => ?_)
        clear hK K hW12
        try simp only [Act.put, List.getElem_toArray, List.getElem_cons_zero, List.getElem_cons_succ, List.setIfInBounds_toArray, List.set_cons_zero, List.set_cons_succ]
        refine wpAnyH_ready (rs := [3]) (by kernel_rfl) (by simp) ?_
        refine AllReadyH.cons rfl (fun K hK => ?_) AllReadyH.nil
        go_simp
        have hb_13 : Below W12.heap.size W12 (W12.alloc (.cells #[.int .i64 yh] 3)) := below_alloc _ _
        have R13 := Lib.hid (R12.out.keep hb_13)
        have T13 := Lib.hid (Tb.new yh 3 R12.out.s)
        have T12k := Lib.hid (T12.out.keep hb_13)
        obtain ⟨W13, hW13⟩ : ∃ V, V = W12.alloc (.cells #[.int .i64 yh] 3) := ⟨_, rfl⟩
        rw [← hW13] at R13 T13 T12k
        rw [← hW13]
        clear hb_13
        refine hK.out _ _ ⟨R13.out.c0, R13.out.c1, R13.out.c2, R13.out.c3, R13.out.s.b⟩ (fun hHeld => ?_)
        clear hK K hW13
        try simp only [Act.put, List.getElem_toArray, List.getElem_cons_zero, List.getElem_cons_succ, List.setIfInBounds_toArray, List.set_cons_zero, List.set_cons_succ]
        refine wpAnyH_ready (rs := [4]) (by kernel_rfl) (by simp) ?_
        refine AllReadyH.cons rfl (fun K hK => ?_) AllReadyH.nil
        rw [if_pos (by rfl)]
        refine oper_append _ _ 50 rfl V.heap.size 3 i0 (.int .i64 0) 1 8 Try.underlying50 hi hz0 hz1 hz2 rfl (by decide) _ _ _ rfl R13.out.s.r0 ⟨W12.heap.size, 0, none⟩ 1 1 [.int .i64 yh] rfl rfl (one_news T13.out.c) (by simp [Value.oneCell']) (by have := HL.out; omega) (by have := HL.out; omega) R13.out.s.b.size ?_
        intro v0' W14 hown hgrow hat
        have R14 := Lib.hid (R13.out.g0 hgrow hown hat)
        have T12kg := Lib.hid (T12k.out.g0 hgrow hat)
        clear hown hgrow hat
        refine hK.out _ _ ⟨R14.out.c0, R14.out.c1, R14.out.c2, R14.out.c3, R14.out.s.b⟩ (fun hHeld => ?_)
        clear hK K
        try simp only [Act.put, List.getElem_toArray, List.getElem_cons_zero, List.getElem_cons_succ, List.setIfInBounds_toArray, List.set_cons_zero, List.set_cons_succ]
        refine wpAnyH_ready (rs := [9]) (by kernel_rfl) (by simp) ?_
        refine AllReadyH.cons rfl (fun K hK => ?_) AllReadyH.nil
        rw [if_pos (by rfl)]
        refine oper_append _ _ 50 rfl V.heap.size 3 i0 (.int .i64 0) 1 8 Try.underlying50 hi hz0 hz1 hz2 rfl (by decide) _ _ _ rfl R14.out.s.r1 ⟨D.heap.size, 0, none⟩ 1 1 [.int .i64 yv] rfl rfl (one_news T12kg.out.c) (by simp [Value.oneCell']) (by have := HL.out; omega) (by have := HL.out; omega) R14.out.s.b.size ?_
        intro v1' W15 hown hgrow hat
        have R15 := Lib.hid (R14.out.g1 hgrow hown hat)
        clear hown hgrow hat
        refine hK.out _ _ ⟨R15.out.c0, R15.out.c1, R15.out.c2, R15.out.c3, R15.out.s.b⟩ (fun hHeld => ?_)
        clear hK K
        try simp only [Act.put, List.getElem_toArray, List.getElem_cons_zero, List.getElem_cons_succ, List.setIfInBounds_toArray, List.set_cons_zero, List.set_cons_succ]
        refine wpAnyH_ready (rs := [16]) (by kernel_rfl) (by simp) ?_
        refine AllReadyH.cons rfl (fun K hK => ?_) AllReadyH.nil
        go_simp
        refine (HW.out _).mono ?_; rintro e' W16 ⟨rfl, hb_16⟩
        have R16 := Lib.hid (R15.out.keep hb_16)
        clear hb_16
        refine hK.out _ _ ⟨R16.out.c0, R16.out.c1, R16.out.c2, R16.out.c3, R16.out.s.b⟩ (fun hHeld => ?_)
        clear hK K
        try simp only [Act.put, List.getElem_toArray, List.getElem_cons_zero, List.getElem_cons_succ, List.setIfInBounds_toArray, List.set_cons_zero, List.set_cons_succ]
        refine wpAnyH_ready (rs := [17]) (by kernel_rfl) (by simp) ?_
        refine AllReadyH.cons rfl (fun K hK => ?_) AllReadyH.nil
        go_simp
        have hb_17 : Below W16.heap.size W16 (W16.alloc (.cells #[.int .i64 st] 3)) := below_alloc _ _
        have R17 := Lib.hid (R16.out.keep hb_17)
        have T17 := Lib.hid (Tb.new st 3 R16.out.s)
        obtain ⟨W17, hW17⟩ : ∃ V, V = W16.alloc (.cells #[.int .i64 st] 3) := ⟨_, rfl⟩
        rw [← hW17] at R17 T17
        rw [← hW17]
        clear hb_17
        refine hK.out _ _ ⟨R17.out.c0, R17.out.c1, R17.out.c2, R17.out.c3, R17.out.s.b⟩ (fun hHeld => ?_)
        clear hK K hW17
        try simp only [Act.put, List.getElem_toArray, List.getElem_cons_zero, List.getElem_cons_succ, List.setIfInBounds_toArray, List.set_cons_zero, List.set_cons_succ]
        refine wpAnyH_done (by kernel_rfl) ?_ _
        change wpList _ _ _ _ _ _
        simp only [List.drop_succ_cons, List.drop_zero]
        clear hHeld
        go_wp2_with (at_builtin; refine wpList_append_own_at _ rfl _ _ 50 rfl V.heap.size 3 i0 (.int .i64 0) 1 8 Try.underlying50 hi hz0 hz1 hz2 rfl (by decide) _ _ _ rfl R17.out.s.r2 ⟨W16.heap.size, 0, none⟩ 1 1 [.int .i64 st] rfl rfl (one_news T17.out.c) (by simp [Value.oneCell']) (by have := HL.out; omega) (by have := HL.out; omega) R17.out.s.b.size ?_; intro v2' W9 hown hgrow _ hat; have HX := Lib.hid (R17.out.s.g2 hgrow hown hat); clear hown hgrow hat)
        go_roundw
        case rel => exact ⟨k + 1, by omega, by go_num, HAN.out, by have h := HX.out; rw [HEQ.out.1, HEQ.out.2.1, HEQ.out.2.2.1, HYY.out.1, HYY.out.2.1, HYY.out.2.2] at h; exact h⟩
        case measure => simp [intOf]; omega
    · obtain rfl : n = k := by omega
      rw [HA0.out] at hA
      exact absurd hA (by decide)

end Go.Proofs.Ytmojnopgpgnfeaa
