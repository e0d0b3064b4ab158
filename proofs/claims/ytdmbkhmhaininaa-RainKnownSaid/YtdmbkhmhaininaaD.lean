/-
  The value of a table, by the reference.
-/
import Derived.Test.YtdmbkhmhaininaaC
import Derived.Deep.Cut
import Derived.Deep.CutRange
import Derived.Deep.DeepCutAuto
import Derived.BigRegion
namespace Go.Proofs.Ytdmbkhmhaininaa
open Go.RowKit
set_option linter.unusedVariables false
set_option linter.unusedSimpArgs false

/-- the state of the loop -/
structure ValRel (w wr : World) (zs : Nat → Int × Int) (z : Int) (k : Nat) : Prop where
  b : Below w.heap.size w wr
  r0 : wr.cell? ⟨w.heap.size, 0, none⟩ = some (.int .i64 0)
  r1 : wr.cell? ⟨w.heap.size, 1, none⟩ = some (.int .i64 0)
  f0 : wr.frozen? ⟨w.heap.size, 0, none⟩ = false
  f1 : wr.frozen? ⟨w.heap.size, 1, none⟩ = false
  sz : w.heap.size < wr.heap.size
  lo : ∀ j, j < k → (zs (j + 1)).1 ≤ z
theorem ValRel.keep {w wr w1 : World} {zs : Nat → Int × Int} {z : Int} {k : Nat} (R : ValRel w wr zs z k) (hb : Below wr.heap.size wr w1) : ValRel w w1 zs z k :=
  ⟨R.b.trans (hb.mono R.b.size), keepB hb R.sz R.r0, keepB hb R.sz R.r1, keepF hb R.sz R.f0, keepF hb R.sz R.f1, Nat.lt_of_lt_of_le R.sz hb.size, R.lo⟩
theorem ValRel.start (w : World) (zs : Nat → Int × Int) (z : Int) : ValRel w (w.alloc (.cells #[.int .i64 0, .int .i64 0] 24)) zs z 0 :=
  ⟨below_alloc _ _, alloc_new rfl rfl, alloc_new rfl rfl, alloc_newF rfl, alloc_newF rfl, by rw [World.size_alloc]; omega, fun j hj => by omega⟩
/-- two boxes of points, in either order -/
theorem two_points {w W : World} {zs : Nat → Int × Int} {z : Int} {k : Nat} (R : ValRel w W zs z k) (v0 v1 u0 u1 : Value) :
    ∃ X, X = (W.alloc (.cells #[v0, v1] 115)).alloc (.cells #[u0, u1] 115) ∧ ValRel w X zs z k ∧ X.cell? ⟨W.heap.size, 0, none⟩ = some v0 ∧ X.cell? ⟨W.heap.size, 1, none⟩ = some v1 ∧ X.cell? ⟨W.heap.size + 1, 0, none⟩ = some u0 ∧ X.cell? ⟨W.heap.size + 1, 1, none⟩ = some u1 ∧ W.heap.size + 1 < X.heap.size := by
  obtain ⟨A, hA⟩ : ∃ A, A = W.alloc (.cells #[v0, v1] 115) := ⟨_, rfl⟩
  have sA : A.heap.size = W.heap.size + 1 := by rw [hA]; exact World.size_alloc _ _
  have RA := R.keep (show Below W.heap.size W A by rw [hA]; exact below_alloc _ _)
  have a0 : A.cell? ⟨W.heap.size, 0, none⟩ = some v0 := by rw [hA]; exact alloc_new rfl rfl
  have a1 : A.cell? ⟨W.heap.size, 1, none⟩ = some v1 := by rw [hA]; exact alloc_new rfl rfl
  rw [← hA]
  exact ⟨_, rfl, RA.keep (below_alloc _ _), alloc_keep (by omega) a0, alloc_keep (by omega) a1, alloc_new sA.symm rfl, alloc_new sA.symm rfl, by rw [World.size_alloc]; omega⟩

def ValCut (w wx : World) (zs : Nat → Int × Int) (z : Int) (k : Nat) (a b : Value) : Prop :=
  ∃ s1 s2 : Nat, a = .pointer (some ⟨s1, 0, none⟩) ∧ b = .pointer (some ⟨s2, 0, none⟩) ∧ s1 < wx.heap.size ∧ s2 < wx.heap.size ∧ ValRel w wx zs z k ∧ wx.cell? ⟨s1, 0, none⟩ = some (.int .i64 (zs k).1) ∧ wx.cell? ⟨s1, 1, none⟩ = some (.int .i64 (zs k).2) ∧ wx.cell? ⟨s2, 0, none⟩ = some (.int .i64 (zs (k + 1)).1) ∧ wx.cell? ⟨s2, 1, none⟩ = some (.int .i64 (zs (k + 1)).2)
theorem cut_a {w wr : World} {zs : Nat → Int × Int} {z : Int} {k : Nat} (R : ValRel w wr zs z k) : ValCut w ((wr.alloc (.cells #[.int .i64 (zs k).1, .int .i64 (zs k).2] 115)).alloc (.cells #[.int .i64 (zs (k + 1)).1, .int .i64 (zs (k + 1)).2] 115)).drew zs z k (.pointer (some ⟨wr.heap.size, 0, none⟩)) (.pointer (some ⟨wr.heap.size + 1, 0, none⟩)) := by
  obtain ⟨X, hX, RX, a0, a1, b0, b1, zX⟩ := two_points R (.int .i64 (zs k).1) (.int .i64 (zs k).2) (.int .i64 (zs (k + 1)).1) (.int .i64 (zs (k + 1)).2)
  rw [← hX]
  exact ⟨_, _, rfl, rfl, Nat.lt_of_succ_lt zX, zX, RX.keep (Below.refl _ _).drew, a0, a1, b0, b1⟩
theorem cut_b {w wr : World} {zs : Nat → Int × Int} {z : Int} {k : Nat} (R : ValRel w wr zs z k) : ValCut w ((wr.alloc (.cells #[.int .i64 (zs (k + 1)).1, .int .i64 (zs (k + 1)).2] 115)).alloc (.cells #[.int .i64 (zs k).1, .int .i64 (zs k).2] 115)).drew zs z k (.pointer (some ⟨wr.heap.size + 1, 0, none⟩)) (.pointer (some ⟨wr.heap.size, 0, none⟩)) := by
  obtain ⟨X, hX, RX, a0, a1, b0, b1, zX⟩ := two_points R (.int .i64 (zs (k + 1)).1) (.int .i64 (zs (k + 1)).2) (.int .i64 (zs k).1) (.int .i64 (zs k).2)
  rw [← hX]
  exact ⟨_, _, rfl, rfl, zX, Nat.lt_of_succ_lt zX, RX.keep (Below.refl _ _).drew, b0, b1, a0, a1⟩
set_option maxRecDepth 100000 in
set_option maxHeartbeats 6400000 in
theorem refvalue_some (b off n cap : Nat) (zs : Nat → Int × Int) (most z : Int) (w : World) (hT : TabOk n zs most) (hm : most ≤ 1073741824) (z0 : 0 ≤ z) (z1 : z ≤ 1073741824) (hs : SpansAt w b off n zs) (hb : b < w.heap.size) :
    Calls Try.prog 55 #[.slice (some ⟨b, off, none⟩) n cap, .int .i64 z] w fun e w' => e = .returned (.agg #[.int .i64 (valLo n zs z), .int .i64 (valHi n zs z)]) ∧ Below w.heap.size w w' := by
  have HS0 := Lib.hid hs
  clear hs
  have hn2 := hT.n2
  have hn := hT.n32
  go_enter Try.func55, Try.ntmps55
  go_wp2
  go_loopw [5] (fun i wr => ∃ k : Nat, k + 1 ≤ n ∧ i = .int .i64 k ∧ ValRel w wr zs z k) (fun i _ => n - (intOf i).toNat)
  case atStart => exact ⟨0, by omega, rfl, ValRel.start w zs z⟩
  case round =>
    obtain ⟨k, hk, rfl, hR⟩ := hrel
    have HR := Lib.hid hR
    have hbw := hR.b
    have zr := hR.sz
    clear hR
    have i1 : IntKind.i64.wrap ((k : Int) + 1) = (k : Int) + 1 := IntWalk.i64_in _ (by omega)
    by_cases hlt : k + 1 < n
    · have c0 := keepB hbw hb (HS0.out k (by omega)).1
      have c1 := keepB hbw hb (HS0.out k (by omega)).2
      have d0 := keepB hbw hb (HS0.out (k + 1) hlt).1
      have d1 := keepB hbw hb (HS0.out (k + 1) hlt).2
      have q0 : (0 : Int) ≤ (k : Int) := by omega
      have q1 : (k : Int) < (n : Int) := by omega
      have q2 : (0 : Int) ≤ (k : Int) + 1 := by omega
      have q3 : (k : Int) + 1 < (n : Int) := by omega
      have t1 : ((k : Int) + 1).toNat = k + 1 := by omega
      have lb : b < wr.heap.size := Nat.lt_of_lt_of_le hb hbw.size
      go_upto_region 4 with fail
      go_cut [6, 7] from 11 to 58 (fun x y wx => ValCut w wx zs z k x y)
      case first =>
        go_region
        all_goals (go_wp2_with fail; go_meet)
        all_goals (first | exact cut_a HR.out | exact cut_b HR.out)
      case rest =>
      obtain ⟨s1, s2, rfl, rfl, l1, l2, hV, p0, p1, p2, p3⟩ := hcut
      have HR := Lib.hid hV
      have zc := hV.sz
      have bc := hV.b
      have r0 := hV.r0
      have r1 := hV.r1
      have f0 := hV.f0
      have f1 := hV.f1
      have hlo := hV.lo
      have HLO := Lib.hid hlo
      clear hV hlo hbw zr c0 c1 d0 d1 lb
      by_cases hz : z < (zs (k + 1)).1
      · have hi : SegIs n zs z k := ⟨by omega, HLO.out, fun _ => hz⟩
        have HV := Lib.hid (val_in hi hlt)
        obtain ⟨dn1, dn2, nm1, _, nm2, dr1, dr2, dz1, dz2⟩ := hT.num hm z0 hi hlt
        have HVb := hT.val hm z0
        have rb1 := hT.rb k (by omega)
        have rb2 := hT.rb (k + 1) hlt
        have zb1 := hT.zb k (by omega)
        have zb2 := hT.zb (k + 1) hlt
        obtain ⟨N1, hN1⟩ : ∃ x, x = numP zs z k := ⟨_, rfl⟩
        obtain ⟨D1, hD1⟩ : ∃ x, x = denP zs k := ⟨_, rfl⟩
        rw [← hN1] at HV nm1 nm2
        rw [← hD1] at HV dn1 dn2
        have HN := Lib.hid (show ((zs (k + 1)).2 - (zs k).2) * (z - (zs k).1) = N1 from hN1.symm)
        have HD := Lib.hid (show (zs (k + 1)).1 - (zs k).1 = D1 from hD1.symm)
        rw [HV.out.1, HV.out.2] at HVb
        clear hN1 hD1 hi HR HLO HS0
        generalize (zs k).1 = za at *
        generalize (zs k).2 = ra at *
        generalize (zs (k + 1)).1 = zb at *
        generalize (zs (k + 1)).2 = rb at *
        have hd : decide (z < zb) = true := decide_eq_true hz
        have i2 : IntKind.i64.wrap ((rb - ra) * (z - za)) = N1 := by rw [HN.out]; exact IntWalk.i64_in _ (by omega)
        have i3 : IntKind.i64.wrap (zb - za) = D1 := by rw [HD.out]; exact IntWalk.i64_in _ (by omega)
        have i4 : zb - za = D1 := HD.out
        have i5 : (rb - ra) * (z - za) = N1 := HN.out
        have i6 : IntKind.i64.wrap (rb - ra) = rb - ra := IntWalk.i64_in _ (by omega)
        have i7 : IntKind.i64.wrap (z - za) = z - za := IntWalk.i64_in _ (by omega)
        go_wp2_with fail
        go_quiet (fail)
        have bY : Below wc.heap.size wc (wc.drewN nq) := drewN_below (Below.refl _ _) nq
        obtain ⟨Y, hY⟩ : ∃ Y, Y = wc.drewN nq := ⟨_, rfl⟩
        rw [← hY] at bY ⊢
        have y3 := keepB bY l1 p1
        have y4 := keepB bY zc r0
        have y5 := keepB bY zc r1
        have yf0 := keepF bY zc f0
        have yf1 := keepF bY zc f1
        have bW : Below w.heap.size w Y := bc.trans (bY.mono bc.size)
        have y6 : w.heap.size < Y.heap.size := Nat.lt_of_lt_of_le zc bY.size
        clear hY i1 i2 i3 i4 i5 i6 i7 r0 r1 f0 f1 p0 p1 p2 p3 bY t1 hd bc
        obtain ⟨Q1, hQ1⟩ : ∃ x, x = N1 / D1 := ⟨_, rfl⟩
        obtain ⟨C1, hC1⟩ : ∃ x, x = cdiv N1 D1 := ⟨_, rfl⟩
        have HU := Lib.hid (fun W => show Calls Try.prog 61 #[.int .i64 N1, .int .i64 D1] W fun e w' => e = .returned (.int .i64 C1) ∧ W = w' from by rw [hC1]; exact Up_any N1 D1 W dn1 (by omega) (by omega))
        have HDn := Lib.hid (fun W => show Calls Try.prog 60 #[.int .i64 N1, .int .i64 D1] W fun e w' => e = .returned (.int .i64 Q1) ∧ W = w' from by rw [hQ1]; exact Down_any N1 D1 W dn1 (by omega) (by omega))
        rw [← hQ1, ← hC1] at HV HVb
        have i8 : IntKind.i64.wrap (ra + Q1) = ra + Q1 := IntWalk.i64_in _ (by omega)
        have i9 : IntKind.i64.wrap (ra + C1) = ra + C1 := IntWalk.i64_in _ (by omega)
        clear hQ1 hC1
        have HS := Lib.hid (show (fun w' : World => w'.cell? ⟨s1, 1, none⟩ = some (.int .i64 ra) ∧ w'.cell? ⟨w.heap.size, 0, none⟩ = some (.int .i64 0) ∧ w'.cell? ⟨w.heap.size, 1, none⟩ = some (.int .i64 0) ∧ Below Y.drew.heap.size Y.drew w') Y.drew from ⟨y3, y4, y5, Below.refl _ _⟩)
        clear y3 y4 y5
        go_wp2_with fail
        refine wp_region_held_tail (S := (fun w' : World => w'.cell? ⟨s1, 1, none⟩ = some (.int .i64 ra) ∧ w'.cell? ⟨w.heap.size, 0, none⟩ = some (.int .i64 0) ∧ w'.cell? ⟨w.heap.size, 1, none⟩ = some (.int .i64 0) ∧ Below Y.drew.heap.size Y.drew w')) 13 (by kernel_rfl) (by kernel_rfl) HS.out (fun hHeld => ?_)
        refine wpAnyH_take (i := 0) (v := ?v0_1) rfl (by kernel_rfl) (by kernel_rfl) (by kernel_rfl) (fun _ _ _ h => h) (Or.inl ⟨by rfl, ?hy0_1⟩) (by assumption) ?rest0_1
        case hy0_1 => (intro w hSw; (try dsimp only at hSw); go_simp; (try with_reducible rfl))
        try simp only [Act.put, List.setIfInBounds_toArray, List.set_cons_zero, List.set_cons_succ]
        refine wpAnyH_take (i := 1) (v := ?v1_2) rfl (by kernel_rfl) (by kernel_rfl) (by kernel_rfl) (fun _ _ _ h => h) (Or.inl ⟨by rfl, ?hy1_2⟩) (by assumption) ?rest1_2
        case hy1_2 => (intro w hSw; (try dsimp only at hSw); go_simp; (try with_reducible rfl))
        try simp only [Act.put, List.setIfInBounds_toArray, List.set_cons_zero, List.set_cons_succ]
        refine wpAnyH_take (i := 2) (v := ?v2_3) rfl (by kernel_rfl) (by kernel_rfl) (by kernel_rfl) (fun _ _ _ h => h) (Or.inl ⟨by rfl, ?hy2_3⟩) (by assumption) ?rest2_3
        case hy2_3 => (intro w hSw; (try dsimp only at hSw); go_simp; (try with_reducible rfl))
        try simp only [Act.put, List.setIfInBounds_toArray, List.set_cons_zero, List.set_cons_succ]
        refine wpAnyH_take (i := 3) (v := ?v3_4) rfl (by kernel_rfl) (by kernel_rfl) (by kernel_rfl) (fun _ _ _ h => h) (Or.inl ⟨by rfl, ?hy3_4⟩) (by assumption) ?rest3_4
        case hy3_4 => (intro w hSw; (try dsimp only at hSw); go_simp; (try with_reducible rfl))
        try simp only [Act.put, List.setIfInBounds_toArray, List.set_cons_zero, List.set_cons_succ]
        refine wpAnyH_take (i := 6) (v := ?v6_5) rfl (by kernel_rfl) (by kernel_rfl) (by kernel_rfl) (fun _ _ _ h => h) (Or.inl ⟨by rfl, ?hy6_5⟩) (by assumption) ?rest6_5
        case hy6_5 => (intro w hSw; (try dsimp only at hSw); go_simp; (try with_reducible rfl))
        try simp only [Act.put, List.setIfInBounds_toArray, List.set_cons_zero, List.set_cons_succ]
        refine wpAnyH_take (i := 7) (v := ?v7_6) rfl (by kernel_rfl) (by kernel_rfl) (by kernel_rfl) (fun _ _ _ h => h) (Or.inl ⟨by rfl, ?hy7_6⟩) (by assumption) ?rest7_6
        case hy7_6 => (intro w hSw; (try dsimp only at hSw); go_simp; (try with_reducible rfl))
        try simp only [Act.put, List.setIfInBounds_toArray, List.set_cons_zero, List.set_cons_succ]
        refine wpAnyH_take (i := 8) (v := ?v8_7) rfl (by kernel_rfl) (by kernel_rfl) (by kernel_rfl) (fun _ _ _ h => h) (Or.inl ⟨by rfl, ?hy8_7⟩) (by assumption) ?rest8_7
        case hy8_7 => (intro w hSw; (try dsimp only at hSw); go_simp; (try with_reducible rfl))
        try simp only [Act.put, List.setIfInBounds_toArray, List.set_cons_zero, List.set_cons_succ]
        refine wpAnyH_take (i := 9) (v := ?v9_8) rfl (by kernel_rfl) (by kernel_rfl) (by kernel_rfl) (fun _ _ _ h => h) (Or.inl ⟨by rfl, ?hy9_8⟩) (by assumption) ?rest9_8
        case hy9_8 => (intro w hSw; (try dsimp only at hSw); go_simp; (try with_reducible rfl))
        try simp only [Act.put, List.setIfInBounds_toArray, List.set_cons_zero, List.set_cons_succ]
        refine wpAnyH_ready (rs := [4]) (by kernel_rfl) (by simp) ?_
        refine AllReadyH.cons rfl (fun K hK => ?_) AllReadyH.nil
        go_simp; go_at_call 60; refine (HDn.out _).mono ?_; rintro e' w' ⟨rfl, rfl⟩
        refine hK.out _ _ hHeld (fun hHeld => ?_)
        clear hK K
        try simp only [Act.put, List.setIfInBounds_toArray, List.set_cons_zero, List.set_cons_succ]
        refine wpAnyH_take (i := 5) (v := ?v5_9) rfl (by kernel_rfl) (by kernel_rfl) (by kernel_rfl) (fun _ _ _ h => h) (Or.inl ⟨by rfl, ?hy5_9⟩) (by assumption) ?rest5_9
        case hy5_9 => (intro w hSw; (try dsimp only at hSw); go_simp; (try with_reducible rfl))
        try simp only [Act.put, List.setIfInBounds_toArray, List.set_cons_zero, List.set_cons_succ]
        refine wpAnyH_ready (rs := [10]) (by kernel_rfl) (by simp) ?_
        refine AllReadyH.cons rfl (fun K hK => ?_) AllReadyH.nil
        go_simp; go_at_call 61; refine (HU.out _).mono ?_; rintro e' w' ⟨rfl, rfl⟩
        refine hK.out _ _ hHeld (fun hHeld => ?_)
        clear hK K
        try simp only [Act.put, List.setIfInBounds_toArray, List.set_cons_zero, List.set_cons_succ]
        refine wpAnyH_take (i := 11) (v := ?v11_10) rfl (by kernel_rfl) (by kernel_rfl) (by kernel_rfl) (fun _ _ _ h => h) (Or.inl ⟨by rfl, ?hy11_10⟩) (by assumption) ?rest11_10
        case hy11_10 => (intro w hSw; (try dsimp only at hSw); go_simp; (try with_reducible rfl))
        try simp only [Act.put, List.setIfInBounds_toArray, List.set_cons_zero, List.set_cons_succ]
        refine wpAnyH_take (i := 12) (v := ?v12_11) rfl (by kernel_rfl) (by kernel_rfl) (by kernel_rfl) (fun _ _ _ h => h) (Or.inl ⟨by rfl, ?hy12_11⟩) (by assumption) ?rest12_11
        case hy12_11 => (intro w hSw; (try dsimp only at hSw); go_simp; (try with_reducible rfl))
        try simp only [Act.put, List.setIfInBounds_toArray, List.set_cons_zero, List.set_cons_succ]
        refine wpAnyH_done (by kernel_rfl) ?_ _
        change wpList _ _ _ _ _ _
        simp only [List.drop_succ_cons, List.drop_zero]
        obtain ⟨g0, g1, g2, gb⟩ := hHeld
        have k0 : Y.drew.frozen? ⟨w.heap.size, 0, none⟩ = false := yf0
        have k1 : Y.drew.frozen? ⟨w.heap.size, 1, none⟩ = false := yf1
        have bV : Below w.heap.size w Y.drew := bW.drew
        obtain ⟨V, hV⟩ : ∃ V, V = Y.drew := ⟨_, rfl⟩
        rw [← hV] at g0 g1 g2 k0 k1 bV ⊢
        clear hV gb yf0 yf1 HS HU HN HD HDn
        go_wp2
        exact bodyPost_ret (v := .agg #[.int .i64 (ra + Q1), .int .i64 (ra + C1)]) (by simp [results, Try.results55, go_sem, set_same (i := 0) (v := .int .i64 (ra + Q1)) g1, set_other (i := 1) (j := 0) (v := .int .i64 (ra + C1)) (by decide) (set_same (i := 0) (v := .int .i64 (ra + Q1)) g1), set_same (i := 1) (v := .int .i64 (ra + C1)) (set_other (i := 0) (j := 1) (v := .int .i64 (ra + Q1)) (by decide) g2)]) rfl ⟨by rw [HV.out.1, HV.out.2], ((bV.setCell (p := ⟨w.heap.size, 0, none⟩) (by dsimp only; omega) _).setCell (p := ⟨w.heap.size, 1, none⟩) (by dsimp only; omega) _)⟩
      · have hd : decide (z < (zs (k + 1)).1) = false := decide_eq_false hz
        have HR2 := Lib.hid (show ValRel w wc zs z (k + 1) from ⟨HR.out.b, HR.out.r0, HR.out.r1, HR.out.f0, HR.out.f1, HR.out.sz, fun j hj => by
          by_cases e : j = k
          · subst e; omega
          · exact HLO.out j (by omega)⟩)
        clear HR HLO r0 r1 f0 f1 bc
        go_wp2
        go_roundw
        case rel => exact ⟨k + 1, by omega, by go_num, HR2.out⟩
        case measure => simp [intOf]; omega
    · have hkn : k + 1 = n := by omega
      have hi : SegIs n zs z k := ⟨by omega, HR.out.lo, fun h => absurd h hlt⟩
      have HV := Lib.hid (val_last hi hkn)
      have c1 := keepB hbw hb (HS0.out k (by omega)).2
      have r0 := HR.out.r0
      have r1 := HR.out.r1
      have f0 := HR.out.f0
      have f1 := HR.out.f1
      generalize (zs k).2 = ra at *
      have i2 : IntKind.i64.wrap ((n : Int) - 1) = (k : Int) := by rw [show (n : Int) - 1 = k by omega]; exact IntWalk.i64_in _ (by omega)
      have i3 : (n : Int) - 1 = (k : Int) := by omega
      have q0 : (0 : Int) ≤ (k : Int) := by omega
      have q1 : (k : Int) < (n : Int) := by omega
      have hd : decide ((k : Int) + 1 < (n : Int)) = false := decide_eq_false (by omega)
      have Hkn := Lib.hid hkn
      clear hkn HR HS0 hi
      go_wp2
      exact bodyPost_ret (v := .agg #[.int .i64 ra, .int .i64 ra]) (by simp [results, Try.results55, go_sem, set_same (i := 0) (v := .int .i64 ra) r0, set_other (i := 1) (j := 0) (v := .int .i64 ra) (by decide) (set_same (i := 0) (v := .int .i64 ra) r0), set_same (i := 1) (v := .int .i64 ra) (set_other (i := 0) (j := 1) (v := .int .i64 ra) (by decide) r1)]) rfl ⟨by rw [HV.out.1, HV.out.2], ((hbw.setCell (p := ⟨w.heap.size, 0, none⟩) (by dsimp only; omega) _).setCell (p := ⟨w.heap.size, 1, none⟩) (by dsimp only; omega) _)⟩

end Go.Proofs.Ytdmbkhmhaininaa
