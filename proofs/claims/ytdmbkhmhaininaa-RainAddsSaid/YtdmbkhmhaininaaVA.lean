/-
  RainAdds, walked.
-/
import Derived.Test.YtdmbkhmhaininaaAY
import Derived.Test.YtdmbkhmhaininaaSM
import Derived.Test.YtdmbkhmhaininaaWK
import Derived.Test.YtdmbkhmhaininaaRUx
import Derived.Deep.Cut
import Derived.Deep.CutRange
import Derived.BigRegion
namespace Go.Proofs.Ytdmbkhmhaininaa
open Go.RowKit
set_option linter.unusedVariables false
set_option linter.unusedSimpArgs false

set_option maxRecDepth 100000 in
set_option maxHeartbeats 12800000 in
theorem RainAdds_ok (b off n cap : Nat) (rs : Nat → Rc) (en sl : Int) (ak m0 m1 m2 lo : Int) (w : World) (hn : n ≤ 40) (hc1 : n ≤ cap) (hc2 : cap ≤ maxLen) (hs : RecsAt w b off n rs) (hb : b < w.heap.size) (ha : 0 ≤ ak ∧ ak < 256) (hm0 : 0 ≤ m0 ∧ m0 < 4294967296) (hm1 : 0 ≤ m1 ∧ m1 < 4294967296) (hm2 : 0 ≤ m2 ∧ m2 < 4294967296) (hlo : 0 ≤ lo ∧ lo < 65536) (h : smE n rs en sl = 0) :
    Calls Try.prog 10 #[.slice (some ⟨b, off, none⟩) n cap, .int .i64 en, .int .i64 sl, .int .u8 ak, .agg #[.int .u32 m0, .int .u32 m1, .int .u32 m2], .int .u16 lo] w fun e w' => e = .returned (.bool true) ∧ Below w.heap.size w w' := by
  obtain ⟨hok, hen, hsl, hlast⟩ := sm_ok h
  have hn1 := hok.n1
  obtain ⟨k, hkd⟩ : ∃ k : Nat, k = ak.toNat % n := ⟨_, rfl⟩
  have hk : k < n := by rw [hkd]; exact Nat.mod_lt _ (by omega)
  have hkm2 : ak % (n : Int) = (k : Int) := by rw [hkd, Int.natCast_emod, Int.toNat_of_nonneg ha.1]
  have hkm : ak.tmod (n : Int) = (k : Int) := by rw [Int.tmod_eq_emod_of_nonneg ha.1, hkm2]
  have sv := sum_valid h
  have sp := sum_parts h hk
  have sv2 := sum_valid sp.1
  have sv3 := sum_valid sp.2.1
  have HS0 := Lib.hid hs
  have HS1 := Lib.hid (fun W (hW : Below w.heap.size w W) => Sum_any (some ⟨b, off, none⟩) n cap rs en sl W (by omega) (.inr ⟨b, off, rfl, Nat.lt_of_lt_of_le hb hW.size, hs.keep hW hb⟩))
  have HS2 := Lib.hid (fun W (hW : Below w.heap.size w W) => Sum_any (some ⟨b, off, none⟩) (k + 1) cap rs (rs k).t sl W (by omega) (.inr ⟨b, off, rfl, Nat.lt_of_lt_of_le hb hW.size, (hs.keep hW hb).head (by omega)⟩))
  have HS3 := Lib.hid (fun W (hW : Below w.heap.size w W) => Sum_any (some ⟨b, off + k * 3, none⟩) (n - k) (cap - k) (fun j => rs (k + j)) en sl W (by omega) (.inr ⟨b, _, rfl, Nat.lt_of_lt_of_le hb hW.size, (hs.keep hW hb).shift (by omega)⟩))
  have hsk : sl ≤ min 1000 (sl + lo) ∧ min 1000 (sl + lo) ≤ 1000 := by omega
  have ss := sum_slack h hsk.1 hsk.2
  obtain ⟨sl2, hsl2⟩ : ∃ x, x = min 1000 (sl + lo) := ⟨_, rfl⟩
  rw [← hsl2] at ss
  have HS4 := Lib.hid (fun W (hW : Below w.heap.size w W) => Sum_any (some ⟨b, off, none⟩) n cap rs en sl2 W (by omega) (.inr ⟨b, off, rfl, Nat.lt_of_lt_of_le hb hW.size, hs.keep hW hb⟩))
  rw [ss.1] at HS4
  have e11 : min 1000 (sl + lo) = sl2 := hsl2.symm
  have e12 : (if sl + lo < 1000 then sl + lo else 1000) = sl2 := by rw [hsl2]; split <;> omega
  have e13 : IntKind.i64.wrap (sl + lo) = sl + lo := IntWalk.i64_in _ (by omega)
  have e14 : IntKind.i64.wrap lo = lo := IntWalk.i64_in _ (by omega)
  clear hsk hsl2
  rw [h] at HS1
  rw [sp.1] at HS2
  rw [sp.2.1] at HS3
  have HX := Lib.hid (And.intro h hok)
  generalize smL (k + 1) rs (rs k).t sl = yl at *
  generalize smH (k + 1) rs (rs k).t sl = yh at *
  generalize smL (n - k) (fun j => rs (k + j)) en sl = zl at *
  generalize smH (n - k) (fun j => rs (k + j)) en sl = zh at *
  obtain ⟨xl, hxl⟩ : ∃ x, x = smL n rs en sl := ⟨_, rfl⟩
  obtain ⟨xh, hxh⟩ : ∃ x, x = smH n rs en sl := ⟨_, rfl⟩
  rw [← hxl, ← hxh] at sv sp HS1
  have HXL := Lib.hid (And.intro hxl hxh)
  have spb := sp.2.2
  have hv := ss.2
  rw [← hxl, ← hxh] at hv
  generalize smL n rs en sl2 = vl at *
  generalize smH n rs en sl2 = vh at *
  clear hs hxl hxh hkd sp h
  have d1 : decide (40 < (n : Int)) = false := decide_eq_false (by omega)
  have d2 : ¬ (n : Int) = 0 := by omega
  have d3 : ((n : Int) == 0) = false := beq_eq_false_iff_ne.2 d2
  have i0 : IntKind.i64.wrap ak = ak := IntWalk.i64_in _ (by omega)
  have i1 : IntKind.i64.wrap (k : Int) = (k : Int) := IntWalk.i64_in _ (by omega)
  have i2 : IntKind.i64.wrap ((k : Int) + 1) = (k : Int) + 1 := IntWalk.i64_in _ (by omega)
  have t1 : ((k : Int) + 1).toNat = k + 1 := by omega
  have q0 : (0 : Int) ≤ (k : Int) := by omega
  have q1 : (k : Int) < (n : Int) := by omega
  have q2 : (0 : Int) ≤ (k : Int) + 1 := by omega
  have q3 : (k : Int) + 1 ≤ (cap : Int) := by omega
  have q4 : (k : Int) ≤ (n : Int) := by omega
  obtain ⟨A, hA⟩ : ∃ A, A = w.alloc (.cells #[.int .u32 m0, .int .u32 m1, .int .u32 m2] 106) := ⟨_, rfl⟩
  have bA : Below w.heap.size w A := by rw [hA]; exact below_alloc _ _
  have a0 : A.cell? ⟨w.heap.size, 0, none⟩ = some (.int .u32 m0) := by rw [hA]; exact alloc_new rfl rfl
  have a1 : A.cell? ⟨w.heap.size, 1, none⟩ = some (.int .u32 m1) := by rw [hA]; exact alloc_new rfl rfl
  have a2 : A.cell? ⟨w.heap.size, 2, none⟩ = some (.int .u32 m2) := by rw [hA]; exact alloc_new rfl rfl
  have lA : w.heap.size < A.heap.size := by rw [hA, World.size_alloc]; omega
  go_enter Try.func10, Try.ntmps10
  go_wp2_with fail
  rw [← hA]
  clear hA
  refine (HS1.out A bA).mono ?_; rintro e C ⟨rfl, hb1⟩
  have a0 := keepB hb1 lA a0
  have a1 := keepB hb1 lA a1
  have a2 := keepB hb1 lA a2
  have lA := Nat.lt_of_lt_of_le lA hb1.size
  have bw := bA.trans (hb1.mono bA.size)
  clear hb1 bA HS1
  have bb := below_alloc C (.cells #[.int .i64 xl, .int .i64 xh] 24)
  have a0 := keepB bb lA a0
  have a1 := keepB bb lA a1
  have a2 := keepB bb lA a2
  have lA := Nat.lt_of_lt_of_le lA bb.size
  have x0 : (C.alloc (.cells #[.int .i64 xl, .int .i64 xh] 24)).cell? ⟨C.heap.size, 0, none⟩ = some (.int .i64 xl) := alloc_new rfl rfl
  have x1 : (C.alloc (.cells #[.int .i64 xl, .int .i64 xh] 24)).cell? ⟨C.heap.size, 1, none⟩ = some (.int .i64 xh) := alloc_new rfl rfl
  have lx : C.heap.size < (C.alloc (.cells #[.int .i64 xl, .int .i64 xh] 24)).heap.size := by rw [World.size_alloc]; omega
  have bw' := bw.trans (bb.mono bw.size)
  obtain ⟨qx, hq⟩ : ∃ q, q = C.heap.size := ⟨_, rfl⟩
  obtain ⟨Da, hD⟩ : ∃ D, D = C.alloc (.cells #[.int .i64 xl, .int .i64 xh] 24) := ⟨_, rfl⟩
  rw [← hD, ← hq] at x0 x1 lx
  rw [← hD] at bw' a0 a1 a2 lA
  clear bb bw
  have bw := bw'
  clear bw'
  go_upto_region 7 with fail
  rw [← hD]
  try rw [← hq]
  clear hD hq
  have ck := keepB bw hb (HS0.out k hk).1
  have lbD : b < Da.heap.size := Nat.lt_of_lt_of_le hb bw.size
  go_upto_region 7 with fail
  have HS := Lib.hid (show (fun w' : World => w'.cell? ⟨b, off + k * 3, none⟩ = some (.int .i64 (rs k).t) ∧ Below Da.heap.size Da w') Da.drew from ⟨ck, (Below.refl _ _).drew⟩)
  go_cut [16, 14] from 44 to 57 (fun a b wQ => ∃ q : Nat, a = .pointer (some ⟨q, 0, none⟩) ∧ b = .int .i64 0 ∧ NS Da wQ q yl yh)
  case first =>
    refine wp_region_held_tail (S := (fun w' : World => w'.cell? ⟨b, off + k * 3, none⟩ = some (.int .i64 (rs k).t) ∧ Below Da.heap.size Da w')) 16 (by kernel_rfl) (by kernel_rfl) HS.out (fun hHeld => ?_)
    obtain ⟨D, hD⟩ : ∃ D, D = Da.drew := ⟨_, rfl⟩
    rw [← hD] at hHeld ⊢
    clear hD
    refine wpAnyH_take (i := 0) (v := ?v0_1) rfl (by kernel_rfl) (by kernel_rfl) (by kernel_rfl) (fun _ _ _ h => h) (Or.inl ⟨by rfl, ?hy0_1⟩) (by assumption) ?rest0_1
    case hy0_1 => (intro w hSw; (try dsimp only at hSw); go_simp; (try with_reducible rfl))
    try simp only [Act.put, List.getElem_toArray, List.getElem_cons_zero, List.getElem_cons_succ, List.setIfInBounds_toArray, List.set_cons_zero, List.set_cons_succ]
    refine wpAnyH_take (i := 1) (v := ?v1_2) rfl (by kernel_rfl) (by kernel_rfl) (by kernel_rfl) (fun _ _ _ h => h) (Or.inl ⟨by rfl, ?hy1_2⟩) (by assumption) ?rest1_2
    case hy1_2 => (intro w hSw; (try dsimp only at hSw); go_simp; (try with_reducible rfl))
    try simp only [Act.put, List.getElem_toArray, List.getElem_cons_zero, List.getElem_cons_succ, List.setIfInBounds_toArray, List.set_cons_zero, List.set_cons_succ]
    refine wpAnyH_take (i := 2) (v := ?v2_3) rfl (by kernel_rfl) (by kernel_rfl) (by kernel_rfl) (fun _ _ _ h => h) (Or.inl ⟨by rfl, ?hy2_3⟩) (by assumption) ?rest2_3
    case hy2_3 => (intro w hSw; (try dsimp only at hSw); go_simp; (try with_reducible rfl))
    try simp only [Act.put, List.getElem_toArray, List.getElem_cons_zero, List.getElem_cons_succ, List.setIfInBounds_toArray, List.set_cons_zero, List.set_cons_succ]
    refine wpAnyH_take (i := 3) (v := ?v3_4) rfl (by kernel_rfl) (by kernel_rfl) (by kernel_rfl) (fun _ _ _ h => h) (Or.inl ⟨by rfl, ?hy3_4⟩) (by assumption) ?rest3_4
    case hy3_4 => (intro w hSw; (try dsimp only at hSw); go_simp; (try with_reducible rfl))
    try simp only [Act.put, List.getElem_toArray, List.getElem_cons_zero, List.getElem_cons_succ, List.setIfInBounds_toArray, List.set_cons_zero, List.set_cons_succ]
    refine wpAnyH_take (i := 4) (v := ?v4_5) rfl (by kernel_rfl) (by kernel_rfl) (by kernel_rfl) (fun _ _ _ h => h) (Or.inl ⟨by rfl, ?hy4_5⟩) (by assumption) ?rest4_5
    case hy4_5 => (intro w hSw; (try dsimp only at hSw); go_simp; (try with_reducible rfl))
    try simp only [Act.put, List.getElem_toArray, List.getElem_cons_zero, List.getElem_cons_succ, List.setIfInBounds_toArray, List.set_cons_zero, List.set_cons_succ]
    refine wpAnyH_take (i := 5) (v := ?v5_6) rfl (by kernel_rfl) (by kernel_rfl) (by kernel_rfl) (fun _ _ _ h => h) (Or.inl ⟨by rfl, ?hy5_6⟩) (by assumption) ?rest5_6
    case hy5_6 => (intro w hSw; (try dsimp only at hSw); go_simp; (try with_reducible rfl))
    try simp only [Act.put, List.getElem_toArray, List.getElem_cons_zero, List.getElem_cons_succ, List.setIfInBounds_toArray, List.set_cons_zero, List.set_cons_succ]
    refine wpAnyH_take (i := 6) (v := ?v6_7) rfl (by kernel_rfl) (by kernel_rfl) (by kernel_rfl) (fun _ _ _ h => h) (Or.inl ⟨by rfl, ?hy6_7⟩) (by assumption) ?rest6_7
    case hy6_7 => (intro w hSw; (try dsimp only at hSw); go_simp; (try with_reducible rfl))
    try simp only [Act.put, List.getElem_toArray, List.getElem_cons_zero, List.getElem_cons_succ, List.setIfInBounds_toArray, List.set_cons_zero, List.set_cons_succ]
    refine wpAnyH_take (i := 7) (v := ?v7_8) rfl (by kernel_rfl) (by kernel_rfl) (by kernel_rfl) (fun _ _ _ h => h) (Or.inl ⟨by rfl, ?hy7_8⟩) (by assumption) ?rest7_8
    case hy7_8 => (intro w hSw; (try dsimp only at hSw); go_simp; (try with_reducible rfl))
    try simp only [Act.put, List.getElem_toArray, List.getElem_cons_zero, List.getElem_cons_succ, List.setIfInBounds_toArray, List.set_cons_zero, List.set_cons_succ]
    refine wpAnyH_take (i := 8) (v := ?v8_9) rfl (by kernel_rfl) (by kernel_rfl) (by kernel_rfl) (fun _ _ _ h => h) (Or.inl ⟨by rfl, ?hy8_9⟩) (by assumption) ?rest8_9
    case hy8_9 => (intro w hSw; (try dsimp only at hSw); go_simp; (try with_reducible rfl))
    try simp only [Act.put, List.getElem_toArray, List.getElem_cons_zero, List.getElem_cons_succ, List.setIfInBounds_toArray, List.set_cons_zero, List.set_cons_succ]
    refine wpAnyH_take (i := 9) (v := ?v9_10) rfl (by kernel_rfl) (by kernel_rfl) (by kernel_rfl) (fun _ _ _ h => h) (Or.inl ⟨by rfl, ?hy9_10⟩) (by assumption) ?rest9_10
    case hy9_10 => (intro w hSw; (try dsimp only at hSw); go_simp; (try with_reducible rfl))
    try simp only [Act.put, List.getElem_toArray, List.getElem_cons_zero, List.getElem_cons_succ, List.setIfInBounds_toArray, List.set_cons_zero, List.set_cons_succ]
    refine wpAnyH_ready (rs := [10, 14]) (by kernel_rfl) (by simp) ?_
    refine AllReadyH.cons rfl (fun K hK => ?_) (AllReadyH.cons rfl (fun K hK => ?_) AllReadyH.nil)
    · skip
      go_simp
      go_at_call 32; refine (HS2.out _ (bw.trans (hHeld.2.mono bw.size))).mono ?_; rintro e' W1 ⟨rfl, hb'⟩
      refine hK.out _ _ (⟨keepW hb' hHeld.1, hHeld.2.trans (hb'.mono hHeld.2.size)⟩) (fun hHeld2 => ?_)
      clear hK K hHeld hb'
      have hHeld := hHeld2
      clear hHeld2
      try simp only [Act.put, List.getElem_toArray, List.getElem_cons_zero, List.getElem_cons_succ, List.setIfInBounds_toArray, List.set_cons_zero, List.set_cons_succ]
      refine wpAnyH_take (i := 11) (v := ?v11_11) rfl (by kernel_rfl) (by kernel_rfl) (by kernel_rfl) (fun _ _ _ h => h) (Or.inl ⟨by rfl, ?hy11_11⟩) (by assumption) ?rest11_11
      case hy11_11 => (intro w hSw; (try dsimp only at hSw); go_simp; (try with_reducible rfl))
      try simp only [Act.put, List.getElem_toArray, List.getElem_cons_zero, List.getElem_cons_succ, List.setIfInBounds_toArray, List.set_cons_zero, List.set_cons_succ]
      refine wpAnyH_take (i := 12) (v := ?v12_12) rfl (by kernel_rfl) (by kernel_rfl) (by kernel_rfl) (fun _ _ _ h => h) (Or.inl ⟨by rfl, ?hy12_12⟩) (by assumption) ?rest12_12
      case hy12_12 => (intro w hSw; (try dsimp only at hSw); go_simp; (try with_reducible rfl))
      try simp only [Act.put, List.getElem_toArray, List.getElem_cons_zero, List.getElem_cons_succ, List.setIfInBounds_toArray, List.set_cons_zero, List.set_cons_succ]
      refine wpAnyH_take (i := 13) (v := ?v13_13) rfl (by kernel_rfl) (by kernel_rfl) (by kernel_rfl) (fun _ _ _ h => h) (Or.inl ⟨by rfl, ?hy13_13⟩) (by assumption) ?rest13_13
      case hy13_13 => (intro w hSw; (try dsimp only at hSw); go_simp; (try with_reducible rfl))
      try simp only [Act.put, List.getElem_toArray, List.getElem_cons_zero, List.getElem_cons_succ, List.setIfInBounds_toArray, List.set_cons_zero, List.set_cons_succ]
      refine wpAnyH_ready (rs := [14]) (by kernel_rfl) (by simp) ?_
      refine AllReadyH.cons rfl (fun K hK => ?_) AllReadyH.nil
      go_simp
      have pq := SpB.new W1
      have zq : W1.heap.size < (W1.alloc (.cells #[.int .i64 0, .int .i64 0] 24)).heap.size := by rw [World.size_alloc]; omega
      have lq : Da.heap.size ≤ W1.heap.size := hHeld.2.size
      have hb' : Below W1.heap.size W1 (W1.alloc (.cells #[.int .i64 0, .int .i64 0] 24)) := below_alloc _ _
      obtain ⟨q, hq⟩ : ∃ q, q = W1.heap.size := ⟨_, rfl⟩
      obtain ⟨W2, hF⟩ : ∃ F, F = W1.alloc (.cells #[.int .i64 0, .int .i64 0] 24) := ⟨_, rfl⟩
      rw [← hF, ← hq] at pq zq
      rw [← hq] at lq
      rw [← hF] at hb' ⊢
      rw [← hq]
      refine hK.out _ _ (⟨keepW hb' hHeld.1, hHeld.2.trans (hb'.mono hHeld.2.size)⟩) (fun hHeld2 => ?_)
      clear hK K hHeld hb' hF hq
      have hHeld := hHeld2
      clear hHeld2
      try simp only [Act.put, List.getElem_toArray, List.getElem_cons_zero, List.getElem_cons_succ, List.setIfInBounds_toArray, List.set_cons_zero, List.set_cons_succ]
      refine wpAnyH_ready (rs := [15]) (by kernel_rfl) (by simp) ?_
      refine AllReadyH.cons rfl (fun K hK => ?_) AllReadyH.nil
      obtain ⟨oc0, oc1, of0, of1⟩ := pq
      go_simp
      have bZ : Below Da.heap.size Da ((W2.setCell ⟨q, 0, none⟩ (.int .i64 yl)).setCell ⟨q, 1, none⟩ (.int .i64 yh)) := ((hHeld.2.setCell (p := ⟨q, 0, none⟩) (by dsimp only; omega) _).setCell (p := ⟨q, 1, none⟩) (by dsimp only; omega) _)
      have bS : Below q W2 ((W2.setCell ⟨q, 0, none⟩ (.int .i64 yl)).setCell ⟨q, 1, none⟩ (.int .i64 yh)) := (((Below.refl q W2).setCell (p := ⟨q, 0, none⟩) (Nat.le_refl _) _).setCell (p := ⟨q, 1, none⟩) (Nat.le_refl _) _)
      have pq := SpB.put (u := yl) (v := yh) (⟨oc0, oc1, of0, of1⟩)
      have zz : q < ((W2.setCell ⟨q, 0, none⟩ (.int .i64 yl)).setCell ⟨q, 1, none⟩ (.int .i64 yh)).heap.size := by simp; exact zq
      obtain ⟨W3, hG⟩ : ∃ G, G = ((W2.setCell ⟨q, 0, none⟩ (.int .i64 yl)).setCell ⟨q, 1, none⟩ (.int .i64 yh)) := ⟨_, rfl⟩
      rw [← hG] at bZ bS pq zz ⊢
      refine hK.out _ _ (⟨keepB bS (by omega) hHeld.1, bZ⟩) (fun hHeld2 => ?_)
      clear hK K hHeld hG bS zq oc0 of0 oc1 of1
      have hHeld := hHeld2
      clear hHeld2
      try simp only [Act.put, List.getElem_toArray, List.getElem_cons_zero, List.getElem_cons_succ, List.setIfInBounds_toArray, List.set_cons_zero, List.set_cons_succ]
      refine wpAnyH_done (by kernel_rfl) ?_ _
      change wpList _ _ _ _ _ _
      simp only [List.drop_succ_cons, List.drop_zero]
      go_wp2_with fail
      go_meet
      exact ⟨q, rfl, rfl, pq.c0, pq.c1, pq.f0, pq.f1, lq, zz, bZ⟩
    · skip
      go_simp
      have pq := SpB.new D
      have zq : D.heap.size < (D.alloc (.cells #[.int .i64 0, .int .i64 0] 24)).heap.size := by rw [World.size_alloc]; omega
      have lq : Da.heap.size ≤ D.heap.size := hHeld.2.size
      have hb' : Below D.heap.size D (D.alloc (.cells #[.int .i64 0, .int .i64 0] 24)) := below_alloc _ _
      obtain ⟨q, hq⟩ : ∃ q, q = D.heap.size := ⟨_, rfl⟩
      obtain ⟨W4, hF⟩ : ∃ F, F = D.alloc (.cells #[.int .i64 0, .int .i64 0] 24) := ⟨_, rfl⟩
      rw [← hF, ← hq] at pq zq
      rw [← hq] at lq
      rw [← hF] at hb' ⊢
      rw [← hq]
      refine hK.out _ _ (⟨keepW hb' hHeld.1, hHeld.2.trans (hb'.mono hHeld.2.size)⟩) (fun hHeld2 => ?_)
      clear hK K hHeld hb' hF hq
      have hHeld := hHeld2
      clear hHeld2
      try simp only [Act.put, List.getElem_toArray, List.getElem_cons_zero, List.getElem_cons_succ, List.setIfInBounds_toArray, List.set_cons_zero, List.set_cons_succ]
      refine wpAnyH_ready (rs := [10]) (by kernel_rfl) (by simp) ?_
      refine AllReadyH.cons rfl (fun K hK => ?_) AllReadyH.nil
      go_simp
      go_at_call 32; refine (HS2.out _ (bw.trans (hHeld.2.mono bw.size))).mono ?_; rintro e' W5 ⟨rfl, hb'⟩
      have pq := pq.keep hb' zq
      have zq := Nat.lt_of_lt_of_le zq hb'.size
      refine hK.out _ _ (⟨keepW hb' hHeld.1, hHeld.2.trans (hb'.mono hHeld.2.size)⟩) (fun hHeld2 => ?_)
      clear hK K hHeld hb'
      have hHeld := hHeld2
      clear hHeld2
      try simp only [Act.put, List.getElem_toArray, List.getElem_cons_zero, List.getElem_cons_succ, List.setIfInBounds_toArray, List.set_cons_zero, List.set_cons_succ]
      refine wpAnyH_take (i := 11) (v := ?v11_14) rfl (by kernel_rfl) (by kernel_rfl) (by kernel_rfl) (fun _ _ _ h => h) (Or.inl ⟨by rfl, ?hy11_14⟩) (by assumption) ?rest11_14
      case hy11_14 => (intro w hSw; (try dsimp only at hSw); go_simp; (try with_reducible rfl))
      try simp only [Act.put, List.getElem_toArray, List.getElem_cons_zero, List.getElem_cons_succ, List.setIfInBounds_toArray, List.set_cons_zero, List.set_cons_succ]
      refine wpAnyH_take (i := 12) (v := ?v12_15) rfl (by kernel_rfl) (by kernel_rfl) (by kernel_rfl) (fun _ _ _ h => h) (Or.inl ⟨by rfl, ?hy12_15⟩) (by assumption) ?rest12_15
      case hy12_15 => (intro w hSw; (try dsimp only at hSw); go_simp; (try with_reducible rfl))
      try simp only [Act.put, List.getElem_toArray, List.getElem_cons_zero, List.getElem_cons_succ, List.setIfInBounds_toArray, List.set_cons_zero, List.set_cons_succ]
      refine wpAnyH_take (i := 13) (v := ?v13_16) rfl (by kernel_rfl) (by kernel_rfl) (by kernel_rfl) (fun _ _ _ h => h) (Or.inl ⟨by rfl, ?hy13_16⟩) (by assumption) ?rest13_16
      case hy13_16 => (intro w hSw; (try dsimp only at hSw); go_simp; (try with_reducible rfl))
      try simp only [Act.put, List.getElem_toArray, List.getElem_cons_zero, List.getElem_cons_succ, List.setIfInBounds_toArray, List.set_cons_zero, List.set_cons_succ]
      refine wpAnyH_ready (rs := [15]) (by kernel_rfl) (by simp) ?_
      refine AllReadyH.cons rfl (fun K hK => ?_) AllReadyH.nil
      obtain ⟨oc0, oc1, of0, of1⟩ := pq
      go_simp
      have bZ : Below Da.heap.size Da ((W5.setCell ⟨q, 0, none⟩ (.int .i64 yl)).setCell ⟨q, 1, none⟩ (.int .i64 yh)) := ((hHeld.2.setCell (p := ⟨q, 0, none⟩) (by dsimp only; omega) _).setCell (p := ⟨q, 1, none⟩) (by dsimp only; omega) _)
      have bS : Below q W5 ((W5.setCell ⟨q, 0, none⟩ (.int .i64 yl)).setCell ⟨q, 1, none⟩ (.int .i64 yh)) := (((Below.refl q W5).setCell (p := ⟨q, 0, none⟩) (Nat.le_refl _) _).setCell (p := ⟨q, 1, none⟩) (Nat.le_refl _) _)
      have pq := SpB.put (u := yl) (v := yh) (⟨oc0, oc1, of0, of1⟩)
      have zz : q < ((W5.setCell ⟨q, 0, none⟩ (.int .i64 yl)).setCell ⟨q, 1, none⟩ (.int .i64 yh)).heap.size := by simp; exact zq
      obtain ⟨W6, hG⟩ : ∃ G, G = ((W5.setCell ⟨q, 0, none⟩ (.int .i64 yl)).setCell ⟨q, 1, none⟩ (.int .i64 yh)) := ⟨_, rfl⟩
      rw [← hG] at bZ bS pq zz ⊢
      refine hK.out _ _ (⟨keepB bS (by omega) hHeld.1, bZ⟩) (fun hHeld2 => ?_)
      clear hK K hHeld hG bS zq oc0 of0 oc1 of1
      have hHeld := hHeld2
      clear hHeld2
      try simp only [Act.put, List.getElem_toArray, List.getElem_cons_zero, List.getElem_cons_succ, List.setIfInBounds_toArray, List.set_cons_zero, List.set_cons_succ]
      refine wpAnyH_done (by kernel_rfl) ?_ _
      change wpList _ _ _ _ _ _
      simp only [List.drop_succ_cons, List.drop_zero]
      go_wp2_with fail
      go_meet
      exact ⟨q, rfl, rfl, pq.c0, pq.c1, pq.f0, pq.f1, lq, zz, bZ⟩
  case rest =>
  clear HS
  obtain ⟨q, rfl, rfl, hNS⟩ := hcut
  obtain ⟨E, hE⟩ : ∃ x, x = wc := ⟨_, rfl⟩
  rw [← hE] at hNS ⊢
  clear hE wc HS2
  have a0 := keepB hNS.b lA a0
  have a1 := keepB hNS.b lA a1
  have a2 := keepB hNS.b lA a2
  have x0 := keepB hNS.b lx x0
  have x1 := keepB hNS.b lx x1
  have lA := Nat.lt_of_lt_of_le lA hNS.b.size
  have lx := Nat.lt_of_lt_of_le lx hNS.b.size
  have bw2 := bw.trans (hNS.b.mono bw.size)
  have y0 := hNS.c0
  have y1 := hNS.c1
  have ly := hNS.z
  obtain ⟨qy, hqy⟩ : ∃ p, p = q := ⟨_, rfl⟩
  rw [← hqy] at y0 y1 ly ⊢
  clear hNS hqy q bw ck lbD
  go_wp2_with fail
  refine (HS3.out _ bw2).mono ?_; rintro e F ⟨rfl, hb1⟩
  have a0 := keepB hb1 lA a0
  have a1 := keepB hb1 lA a1
  have a2 := keepB hb1 lA a2
  have x0 := keepB hb1 lx x0
  have x1 := keepB hb1 lx x1
  have y0 := keepB hb1 ly y0
  have y1 := keepB hb1 ly y1
  have lA := Nat.lt_of_lt_of_le lA hb1.size
  have lx := Nat.lt_of_lt_of_le lx hb1.size
  have ly := Nat.lt_of_lt_of_le ly hb1.size
  have bw := bw2.trans (hb1.mono bw2.size)
  clear hb1 bw2 HS3
  have bb := below_alloc F (.cells #[.int .i64 zl, .int .i64 zh] 24)
  have a0 := keepB bb lA a0
  have a1 := keepB bb lA a1
  have a2 := keepB bb lA a2
  have x0 := keepB bb lx x0
  have x1 := keepB bb lx x1
  have y0 := keepB bb ly y0
  have y1 := keepB bb ly y1
  have lA := Nat.lt_of_lt_of_le lA bb.size
  have lx := Nat.lt_of_lt_of_le lx bb.size
  have ly := Nat.lt_of_lt_of_le ly bb.size
  have z0 : (F.alloc (.cells #[.int .i64 zl, .int .i64 zh] 24)).cell? ⟨F.heap.size, 0, none⟩ = some (.int .i64 zl) := alloc_new rfl rfl
  have z1 : (F.alloc (.cells #[.int .i64 zl, .int .i64 zh] 24)).cell? ⟨F.heap.size, 1, none⟩ = some (.int .i64 zh) := alloc_new rfl rfl
  have lz : F.heap.size < (F.alloc (.cells #[.int .i64 zl, .int .i64 zh] 24)).heap.size := by rw [World.size_alloc]; omega
  have bw' := bw.trans (bb.mono bw.size)
  obtain ⟨qz, hq⟩ : ∃ q, q = F.heap.size := ⟨_, rfl⟩
  obtain ⟨G, hG⟩ : ∃ D, D = F.alloc (.cells #[.int .i64 zl, .int .i64 zh] 24) := ⟨_, rfl⟩
  rw [← hG, ← hq] at z0 z1 lz
  rw [← hG] at bw' a0 a1 a2 lA x0 x1 lx y0 y1 ly
  clear bb bw
  have bw := bw'
  clear bw'
  go_upto_region 9 with fail
  rw [← hG]
  try rw [← hq]
  clear hG hq
  obtain ⟨p1, p2⟩ := spb
  obtain ⟨p3, p4⟩ := p1
  obtain ⟨p5, p6⟩ := p2
  have w1 : IntKind.i64.wrap (yl + zl) = yl + zl := IntWalk.i64_in _ (by omega)
  have w2 : IntKind.i64.wrap (yh + zh) = yh + zh := IntWalk.i64_in _ (by omega)
  have w3 : IntKind.i64.wrap (xl - yl) = xl - yl := IntWalk.i64_in _ (by omega)
  have w4 : IntKind.i64.wrap (xl - yl - zl) = xl - yl - zl := IntWalk.i64_in _ (by omega)
  have w5 : IntKind.i64.wrap (yh + zh - xh) = yh + zh - xh := IntWalk.i64_in _ (by omega)
  have d4 : decide (2 < xl - yl - zl) = false := decide_eq_false (by omega)
  have d5 : decide (2 < yh + zh - xh) = false := decide_eq_false (by omega)
  have HL1 := Lib.hid (fun W => lies_true xl xh (yl + zl) (yh + zh) W sv.2.1 p3 p5)
  clear p3 p4 p5 p6
  go_wp2_with fail
  refine (HL1.out _).mono ?_; rintro e H ⟨rfl, hb1⟩
  have a0 := keepB hb1 lA a0
  have a1 := keepB hb1 lA a1
  have a2 := keepB hb1 lA a2
  have x0 := keepB hb1 lx x0
  have x1 := keepB hb1 lx x1
  have y0 := keepB hb1 ly y0
  have y1 := keepB hb1 ly y1
  have z0 := keepB hb1 lz z0
  have z1 := keepB hb1 lz z1
  have lA := Nat.lt_of_lt_of_le lA hb1.size
  have lx := Nat.lt_of_lt_of_le lx hb1.size
  have ly := Nat.lt_of_lt_of_le ly hb1.size
  have lz := Nat.lt_of_lt_of_le lz hb1.size
  have bw2 := bw.trans (hb1.mono bw.size)
  clear hb1 bw HL1 w1 w2 w3 w4 w5
  have HS4 := Lib.hid (HS4.out H bw2)
  go_wp2_with fail
  refine (HS4.out).mono ?_; rintro e J ⟨rfl, hb1⟩
  have a0 := keepB hb1 lA a0
  have a1 := keepB hb1 lA a1
  have a2 := keepB hb1 lA a2
  have x0 := keepB hb1 lx x0
  have x1 := keepB hb1 lx x1
  have y0 := keepB hb1 ly y0
  have y1 := keepB hb1 ly y1
  have z0 := keepB hb1 lz z0
  have z1 := keepB hb1 lz z1
  have lA := Nat.lt_of_lt_of_le lA hb1.size
  have lx := Nat.lt_of_lt_of_le lx hb1.size
  have ly := Nat.lt_of_lt_of_le ly hb1.size
  have lz := Nat.lt_of_lt_of_le lz hb1.size
  have bw := bw2.trans (hb1.mono bw2.size)
  clear hb1 bw2 HS4 d4 d5 y0 y1 z0 z1
  have bb := below_alloc J (.cells #[.int .i64 vl, .int .i64 vh] 24)
  have a0 := keepB bb lA a0
  have a1 := keepB bb lA a1
  have a2 := keepB bb lA a2
  have x0 := keepB bb lx x0
  have x1 := keepB bb lx x1
  have lA := Nat.lt_of_lt_of_le lA bb.size
  have lx := Nat.lt_of_lt_of_le lx bb.size
  have v0 : (J.alloc (.cells #[.int .i64 vl, .int .i64 vh] 24)).cell? ⟨J.heap.size, 0, none⟩ = some (.int .i64 vl) := alloc_new rfl rfl
  have v1 : (J.alloc (.cells #[.int .i64 vl, .int .i64 vh] 24)).cell? ⟨J.heap.size, 1, none⟩ = some (.int .i64 vh) := alloc_new rfl rfl
  have lv : J.heap.size < (J.alloc (.cells #[.int .i64 vl, .int .i64 vh] 24)).heap.size := by rw [World.size_alloc]; omega
  have bw' := bw.trans (bb.mono bw.size)
  obtain ⟨qv, hq⟩ : ∃ q, q = J.heap.size := ⟨_, rfl⟩
  obtain ⟨Ka, hG⟩ : ∃ D, D = J.alloc (.cells #[.int .i64 vl, .int .i64 vh] 24) := ⟨_, rfl⟩
  rw [← hG, ← hq] at v0 v1 lv
  rw [← hG] at bw' a0 a1 a2 lA x0 x1 lx
  clear bb bw
  have bw := bw'
  clear bw'
  go_upto_region 12 with fail
  rw [← hG]
  try rw [← hq]
  clear hG hq
  have HL2 := Lib.hid (fun W => lies_true xl xh vl vh W sv.2.1 hv.1 hv.2)
  go_wp2_with fail
  refine (HL2.out _).mono ?_; rintro e M ⟨rfl, hb1⟩
  have a0 := keepB hb1 lA a0
  have a1 := keepB hb1 lA a1
  have a2 := keepB hb1 lA a2
  have x0 := keepB hb1 lx x0
  have x1 := keepB hb1 lx x1
  have v0 := keepB hb1 lv v0
  have v1 := keepB hb1 lv v1
  have lA := Nat.lt_of_lt_of_le lA hb1.size
  have lx := Nat.lt_of_lt_of_le lx hb1.size
  have lv := Nat.lt_of_lt_of_le lv hb1.size
  have bw2 := bw.trans (hb1.mono bw.size)
  clear hb1 bw HL2 v0 v1
  have c1 := keepB bw2 hb (HS0.out k hk).1
  have lbM : b < M.heap.size := Nat.lt_of_lt_of_le hb bw2.size
  have HW := Lib.hid (show ∀ W, Below w.heap.size w W → Calls Try.prog 13 #[] W fun e w' => e = .returned (.bool true) ∧ Below W.heap.size W w' from fun W _ => works_any W)
  by_cases hk1 : n ≤ k + 1
  · have d6 : decide ((n : Int) ≤ (k : Int) + 1) = true := decide_eq_true (by omega)
    go_wp2
    go_quiet (fail)
    have bD := drewN_below bw2 nq
    generalize M.drewN nq = N0 at *
    go_wp2_with fail
    refine (works_any _).mono ?_; rintro e X ⟨rfl, hbX⟩
    have bX := bD.trans (hbX.mono bD.size)
    go_wp2
    go_ret
    exact ⟨rfl, bX⟩
  have d6 : decide ((n : Int) ≤ (k : Int) + 1) = false := decide_eq_false (by omega)
  have q5 : (k : Int) + 1 < (n : Int) := by omega
  have c2 := keepB bw2 hb (HS0.out (k + 1) (by omega)).1
  have HRc := Lib.hid (And.intro (HX.out.2.tb k (by omega)) (And.intro (HX.out.2.tb (k + 1) (by omega)) (And.intro (HX.out.2.rb k (by omega)) (HX.out.2.rb (k + 1) (by omega)))))
  have hasc := HX.out.2.asc k (by omega)
  have htb := HRc.out.1
  have htb2 := HRc.out.2.1
  by_cases hdt : (rs (k + 1)).t - (rs k).t < 2
  · have d7 : decide ((rs (k + 1)).t - (rs k).t < 2) = true := decide_eq_true hdt
    have w1 : IntKind.i64.wrap ((rs (k + 1)).t - (rs k).t) = (rs (k + 1)).t - (rs k).t := IntWalk.i64_in _ (by omega)
    clear hdt
    generalize (rs (k + 1)).t = tb at *
    go_wp2
    go_quiet (fail)
    have bD := drewN_below bw2 nq
    generalize M.drewN nq = N0 at *
    go_wp2_with fail
    refine (works_any _).mono ?_; rintro e X ⟨rfl, hbX⟩
    have bX := bD.trans (hbX.mono bD.size)
    go_wp2
    go_ret
    exact ⟨rfl, bX⟩
  have d7 : decide ((rs (k + 1)).t - (rs k).t < 2) = false := decide_eq_false hdt
  obtain ⟨hr1, hr2, hr3⟩ := HRc.out.2.2.1
  obtain ⟨hr4, hr5, hr6⟩ := HRc.out.2.2.2
  have e0 := keepB bw2 hb (HS0.out k hk).2.1
  have e1 := keepB bw2 hb (HS0.out k hk).2.2
  have f0 := keepB bw2 hb (HS0.out (k + 1) (by omega)).2.1
  have f1 := keepB bw2 hb (HS0.out (k + 1) (by omega)).2.2
  have w1 : IntKind.i64.wrap ((rs (k + 1)).t - (rs k).t) = (rs (k + 1)).t - (rs k).t := IntWalk.i64_in _ (by omega)
  have HHL := Lib.hid (fun (r : Rc) (h : InsOk n rs k r) => sum_ins HX.out.1 h)
  have HTi := Lib.hid (And.intro htb htb2)
  -- the reading
  obtain ⟨mn, hmn⟩ : ∃ x, x = min (rs k).lo (rs (k + 1)).lo := ⟨_, rfl⟩
  obtain ⟨mx, hmx⟩ : ∃ x, x = max (rs k).hi (rs (k + 1)).hi := ⟨_, rfl⟩
  have hmm : mn ≤ mx := by omega
  have bin := in_bd (c := m1) (d := m2) hmm
  have HI := Lib.hid (fun W => inner_any mn mx m1 m2 W hmm (by omega) (by omega) hm1.1 hm1.2 hm2.1 hm2.2)
  obtain ⟨r1, hr1'⟩ : ∃ x, x = inL mn mx m1 := ⟨_, rfl⟩
  obtain ⟨r2, hr2'⟩ : ∃ x, x = inH mn mx m1 m2 := ⟨_, rfl⟩
  rw [← hr1', ← hr2'] at HI bin
  obtain ⟨R, hR⟩ : ∃ x, x = m0 % ((rs (k + 1)).t - (rs k).t - 1) := ⟨_, rfl⟩
  have hR0 := Int.emod_nonneg m0 (b := (rs (k + 1)).t - (rs k).t - 1) (by omega)
  have hR1 := Int.emod_lt_of_pos m0 (b := (rs (k + 1)).t - (rs k).t - 1) (by omega)
  rw [← hR] at hR0 hR1
  obtain ⟨rt, hrt⟩ : ∃ x, x = (rs k).t + 1 + R := ⟨_, rfl⟩
  have HIns := Lib.hid (HHL.out ⟨rt, r1, r2⟩ ⟨by omega, by show (rs k).t < rt; omega, by show rt < (rs (k + 1)).t; omega, by show min (rs k).lo (rs (k + 1)).lo ≤ r1; rw [← hmn]; exact bin.1, bin.2.1, by show r2 ≤ max (rs k).hi (rs (k + 1)).hi; rw [← hmx]; exact bin.2.2⟩)
  have m1' : min (rs k).lo (rs (k + 1)).lo = mn := hmn.symm
  have m2' : max (rs k).hi (rs (k + 1)).hi = mx := hmx.symm
  have m3' : (if (rs k).lo < (rs (k + 1)).lo then (rs k).lo else (rs (k + 1)).lo) = mn := by rw [hmn]; split <;> omega
  have m4' : (if (rs (k + 1)).lo < (rs k).lo then (rs (k + 1)).lo else (rs k).lo) = mn := by rw [hmn]; split <;> omega
  have m5' : (if (rs k).hi < (rs (k + 1)).hi then (rs (k + 1)).hi else (rs k).hi) = mx := by rw [hmx]; split <;> omega
  have m6' : (if (rs (k + 1)).hi < (rs k).hi then (rs k).hi else (rs (k + 1)).hi) = mx := by rw [hmx]; split <;> omega
  have HC := Lib.hid (show ∀ W, Below w.heap.size w W → RecsAt W b off n rs from fun W hW => HS0.out.keep hW hb)
  have wr1 : IntKind.i64.wrap ((rs k).t + 1) = (rs k).t + 1 := IntWalk.i64_in _ (by omega)
  have wr2 : IntKind.i64.wrap m0 = m0 := IntWalk.i64_in _ (by omega)
  have wr3 : IntKind.i64.wrap ((rs (k + 1)).t - (rs k).t - 1) = (rs (k + 1)).t - (rs k).t - 1 := IntWalk.i64_in _ (by omega)
  have wr4 : IntKind.i64.wrap R = R := IntWalk.i64_in _ (by omega)
  have wr5 : IntKind.i64.wrap ((rs k).t + 1 + R) = rt := by rw [← hrt]; exact IntWalk.i64_in _ (by omega)
  have wr6 : (rs k).t + 1 + R = rt := hrt.symm
  have wr7 : m0 % ((rs (k + 1)).t - (rs k).t - 1) = R := hR.symm
  have wr8 : m0.tmod ((rs (k + 1)).t - (rs k).t - 1) = R := by rw [Int.tmod_eq_emod_of_nonneg hm0.1]; exact wr7
  have wr9 : ¬ (rs (k + 1)).t - (rs k).t - 1 = 0 := by omega
  have wra : ((rs (k + 1)).t - (rs k).t - 1 == 0) = false := beq_eq_false_iff_ne.2 wr9
  have hrb1 : 0 ≤ rt := by omega
  have hrb2 : rt ≤ 4294967296 := by omega
  clear hmn hmx hr1' hr2' hR hrt HHL HRc HX HS0 htb htb2 hr1 hr2 hr3 hr4 hr5 hr6 hasc hdt bin HW
  generalize (rs k).t = tk at *
  generalize (rs (k + 1)).t = tb at *
  generalize (rs k).lo = l1 at *
  generalize (rs k).hi = h1 at *
  generalize (rs (k + 1)).lo = l2 at *
  generalize (rs (k + 1)).hi = h2 at *
  go_wp2
  go_quiet (fail)
  have bq : Below M.heap.size M (M.drewN nq) := drewN_below (Below.refl _ _) nq
  have c1 := keepB bq lbM c1
  have c2 := keepB bq lbM c2
  have e0 := keepB bq lbM e0
  have e1 := keepB bq lbM e1
  have f0 := keepB bq lbM f0
  have f1 := keepB bq lbM f1
  have a0 := keepB bq lA a0
  have a1 := keepB bq lA a1
  have a2 := keepB bq lA a2
  have x0 := keepB bq lx x0
  have x1 := keepB bq lx x1
  have lA := Nat.lt_of_lt_of_le lA bq.size
  have lx := Nat.lt_of_lt_of_le lx bq.size
  have lbM := Nat.lt_of_lt_of_le lbM bq.size
  have bw := bw2.trans (bq.mono bw2.size)
  clear bq bw2
  generalize M.drewN nq = Na at *
  go_upto_region 16 with fail
  have HT1 := Lib.hid (TwoB.fst Na l1 h1 l2 h2)
  have HT2 := Lib.hid (TwoB.snd Na l1 h1 l2 h2)
  go_cut [20, 21] from 151 to 161 (fun a b wQ => ∃ qa qb : Nat, a = .pointer (some ⟨qa, 0, none⟩) ∧ b = .pointer (some ⟨qb, 0, none⟩) ∧ TwoB Na wQ qa qb l1 h1 l2 h2)
  case first =>
    go_region
    all_goals (go_wp2_with fail; go_meet)
    all_goals (first | exact ⟨_, _, rfl, rfl, HT1.out⟩ | exact ⟨_, _, rfl, rfl, HT2.out⟩)
  case rest =>
  obtain ⟨qa, qb, rfl, rfl, hTB⟩ := hcut
  obtain ⟨Ea, hEa⟩ : ∃ x, x = wc := ⟨_, rfl⟩
  rw [← hEa] at hTB ⊢
  clear hEa wc HT1 HT2
  have c1 := keepB hTB.b lbM c1
  have c2 := keepB hTB.b lbM c2
  have a0 := keepB hTB.b lA a0
  have a1 := keepB hTB.b lA a1
  have a2 := keepB hTB.b lA a2
  have x0 := keepB hTB.b lx x0
  have x1 := keepB hTB.b lx x1
  have lA := Nat.lt_of_lt_of_le lA hTB.b.size
  have lx := Nat.lt_of_lt_of_le lx hTB.b.size
  have lbE := Nat.lt_of_lt_of_le lbM hTB.b.size
  have bw2 := bw.trans (hTB.b.mono bw.size)
  obtain ⟨g0, g1, k0, k1, za, zb, _⟩ := hTB
  clear bw e0 e1 f0 f1 lbM
  go_upto_region 17 with fail
  have HS17 := Lib.hid (show (fun w' : World => w'.cell? ⟨b, off + k * 3, none⟩ = some (.int .i64 tk) ∧ w'.cell? ⟨b, off + (k + 1) * 3, none⟩ = some (.int .i64 tb) ∧ w'.cell? ⟨w.heap.size, 0, none⟩ = some (.int .u32 m0) ∧ w'.cell? ⟨w.heap.size, 1, none⟩ = some (.int .u32 m1) ∧ w'.cell? ⟨w.heap.size, 2, none⟩ = some (.int .u32 m2) ∧ w'.cell? ⟨qa, 0, none⟩ = some (.int .i64 l1) ∧ w'.cell? ⟨qa, 1, none⟩ = some (.int .i64 h1) ∧ w'.cell? ⟨qb, 0, none⟩ = some (.int .i64 l2) ∧ w'.cell? ⟨qb, 1, none⟩ = some (.int .i64 h2) ∧ Below Ea.heap.size Ea w') Ea.drew from ⟨c1, c2, a0, a1, a2, g0, g1, k0, k1, (Below.refl _ _).drew⟩)
  go_cut [22] from 162 to 202 (fun a wQ => ∃ q : Nat, a = .pointer (some ⟨q, 0, none⟩) ∧ RcV wQ q rt r1 r2 ∧ q < wQ.heap.size ∧ Below Ea.heap.size Ea wQ)
  case first =>
    refine wp_region_held_tail (S := (fun w' : World => w'.cell? ⟨b, off + k * 3, none⟩ = some (.int .i64 tk) ∧ w'.cell? ⟨b, off + (k + 1) * 3, none⟩ = some (.int .i64 tb) ∧ w'.cell? ⟨w.heap.size, 0, none⟩ = some (.int .u32 m0) ∧ w'.cell? ⟨w.heap.size, 1, none⟩ = some (.int .u32 m1) ∧ w'.cell? ⟨w.heap.size, 2, none⟩ = some (.int .u32 m2) ∧ w'.cell? ⟨qa, 0, none⟩ = some (.int .i64 l1) ∧ w'.cell? ⟨qa, 1, none⟩ = some (.int .i64 h1) ∧ w'.cell? ⟨qb, 0, none⟩ = some (.int .i64 l2) ∧ w'.cell? ⟨qb, 1, none⟩ = some (.int .i64 h2) ∧ Below Ea.heap.size Ea w')) 42 (by kernel_rfl) (by kernel_rfl) HS17.out (fun hHeld => ?_)
    obtain ⟨D, hD⟩ : ∃ D, D = Ea.drew := ⟨_, rfl⟩
    rw [← hD] at hHeld ⊢
    clear hD
    refine wpAnyH_take (i := 0) (v := ?v0_17) rfl (by kernel_rfl) (by kernel_rfl) (by kernel_rfl) (fun _ _ _ h => h) (Or.inl ⟨by rfl, ?hy0_17⟩) (by assumption) ?rest0_17
    case hy0_17 => (intro w hSw; (try dsimp only at hSw); go_simp; (try with_reducible rfl))
    try simp only [Act.put, List.getElem_toArray, List.getElem_cons_zero, List.getElem_cons_succ, List.setIfInBounds_toArray, List.set_cons_zero, List.set_cons_succ]
    refine wpAnyH_take (i := 1) (v := ?v1_18) rfl (by kernel_rfl) (by kernel_rfl) (by kernel_rfl) (fun _ _ _ h => h) (Or.inl ⟨by rfl, ?hy1_18⟩) (by assumption) ?rest1_18
    case hy1_18 => (intro w hSw; (try dsimp only at hSw); go_simp; (try with_reducible rfl))
    try simp only [Act.put, List.getElem_toArray, List.getElem_cons_zero, List.getElem_cons_succ, List.setIfInBounds_toArray, List.set_cons_zero, List.set_cons_succ]
    refine wpAnyH_take (i := 2) (v := ?v2_19) rfl (by kernel_rfl) (by kernel_rfl) (by kernel_rfl) (fun _ _ _ h => h) (Or.inl ⟨by rfl, ?hy2_19⟩) (by assumption) ?rest2_19
    case hy2_19 => (intro w hSw; (try dsimp only at hSw); go_simp; (try with_reducible rfl))
    try simp only [Act.put, List.getElem_toArray, List.getElem_cons_zero, List.getElem_cons_succ, List.setIfInBounds_toArray, List.set_cons_zero, List.set_cons_succ]
    refine wpAnyH_take (i := 3) (v := ?v3_20) rfl (by kernel_rfl) (by kernel_rfl) (by kernel_rfl) (fun _ _ _ h => h) (Or.inl ⟨by rfl, ?hy3_20⟩) (by assumption) ?rest3_20
    case hy3_20 => (intro w hSw; (try dsimp only at hSw); go_simp; (try with_reducible rfl))
    try simp only [Act.put, List.getElem_toArray, List.getElem_cons_zero, List.getElem_cons_succ, List.setIfInBounds_toArray, List.set_cons_zero, List.set_cons_succ]
    refine wpAnyH_take (i := 4) (v := ?v4_21) rfl (by kernel_rfl) (by kernel_rfl) (by kernel_rfl) (fun _ _ _ h => h) (Or.inl ⟨by rfl, ?hy4_21⟩) (by assumption) ?rest4_21
    case hy4_21 => (intro w hSw; (try dsimp only at hSw); go_simp; (try with_reducible rfl))
    try simp only [Act.put, List.getElem_toArray, List.getElem_cons_zero, List.getElem_cons_succ, List.setIfInBounds_toArray, List.set_cons_zero, List.set_cons_succ]
    refine wpAnyH_take (i := 5) (v := ?v5_22) rfl (by kernel_rfl) (by kernel_rfl) (by kernel_rfl) (fun _ _ _ h => h) (Or.inl ⟨by rfl, ?hy5_22⟩) (by assumption) ?rest5_22
    case hy5_22 => (intro w hSw; (try dsimp only at hSw); go_simp; (try with_reducible rfl))
    try simp only [Act.put, List.getElem_toArray, List.getElem_cons_zero, List.getElem_cons_succ, List.setIfInBounds_toArray, List.set_cons_zero, List.set_cons_succ]
    refine wpAnyH_take (i := 6) (v := ?v6_23) rfl (by kernel_rfl) (by kernel_rfl) (by kernel_rfl) (fun _ _ _ h => h) (Or.inl ⟨by rfl, ?hy6_23⟩) (by assumption) ?rest6_23
    case hy6_23 => (intro w hSw; (try dsimp only at hSw); go_simp; (try with_reducible rfl))
    try simp only [Act.put, List.getElem_toArray, List.getElem_cons_zero, List.getElem_cons_succ, List.setIfInBounds_toArray, List.set_cons_zero, List.set_cons_succ]
    refine wpAnyH_take (i := 7) (v := ?v7_24) rfl (by kernel_rfl) (by kernel_rfl) (by kernel_rfl) (fun _ _ _ h => h) (Or.inl ⟨by rfl, ?hy7_24⟩) (by assumption) ?rest7_24
    case hy7_24 => (intro w hSw; (try dsimp only at hSw); go_simp; (try with_reducible rfl))
    try simp only [Act.put, List.getElem_toArray, List.getElem_cons_zero, List.getElem_cons_succ, List.setIfInBounds_toArray, List.set_cons_zero, List.set_cons_succ]
    refine wpAnyH_take (i := 8) (v := ?v8_25) rfl (by kernel_rfl) (by kernel_rfl) (by kernel_rfl) (fun _ _ _ h => h) (Or.inl ⟨by rfl, ?hy8_25⟩) (by assumption) ?rest8_25
    case hy8_25 => (intro w hSw; (try dsimp only at hSw); go_simp; (try with_reducible rfl))
    try simp only [Act.put, List.getElem_toArray, List.getElem_cons_zero, List.getElem_cons_succ, List.setIfInBounds_toArray, List.set_cons_zero, List.set_cons_succ]
    refine wpAnyH_take (i := 9) (v := ?v9_26) rfl (by kernel_rfl) (by kernel_rfl) (by kernel_rfl) (fun _ _ _ h => h) (Or.inl ⟨by rfl, ?hy9_26⟩) (by assumption) ?rest9_26
    case hy9_26 => (intro w hSw; (try dsimp only at hSw); go_simp; (try with_reducible rfl))
    try simp only [Act.put, List.getElem_toArray, List.getElem_cons_zero, List.getElem_cons_succ, List.setIfInBounds_toArray, List.set_cons_zero, List.set_cons_succ]
    refine wpAnyH_take (i := 10) (v := ?v10_27) rfl (by kernel_rfl) (by kernel_rfl) (by kernel_rfl) (fun _ _ _ h => h) (Or.inl ⟨by rfl, ?hy10_27⟩) (by assumption) ?rest10_27
    case hy10_27 => (intro w hSw; (try dsimp only at hSw); go_simp; (try with_reducible rfl))
    try simp only [Act.put, List.getElem_toArray, List.getElem_cons_zero, List.getElem_cons_succ, List.setIfInBounds_toArray, List.set_cons_zero, List.set_cons_succ]
    refine wpAnyH_take (i := 11) (v := ?v11_28) rfl (by kernel_rfl) (by kernel_rfl) (by kernel_rfl) (fun _ _ _ h => h) (Or.inl ⟨by rfl, ?hy11_28⟩) (by assumption) ?rest11_28
    case hy11_28 => (intro w hSw; (try dsimp only at hSw); go_simp; (try with_reducible rfl))
    try simp only [Act.put, List.getElem_toArray, List.getElem_cons_zero, List.getElem_cons_succ, List.setIfInBounds_toArray, List.set_cons_zero, List.set_cons_succ]
    refine wpAnyH_take (i := 12) (v := ?v12_29) rfl (by kernel_rfl) (by kernel_rfl) (by kernel_rfl) (fun _ _ _ h => h) (Or.inl ⟨by rfl, ?hy12_29⟩) (by assumption) ?rest12_29
    case hy12_29 => (intro w hSw; (try dsimp only at hSw); go_simp; (try with_reducible rfl))
    try simp only [Act.put, List.getElem_toArray, List.getElem_cons_zero, List.getElem_cons_succ, List.setIfInBounds_toArray, List.set_cons_zero, List.set_cons_succ]
    refine wpAnyH_take (i := 13) (v := ?v13_30) rfl (by kernel_rfl) (by kernel_rfl) (by kernel_rfl) (fun _ _ _ h => h) (Or.inl ⟨by rfl, ?hy13_30⟩) (by assumption) ?rest13_30
    case hy13_30 => (intro w hSw; (try dsimp only at hSw); go_simp; (try with_reducible rfl))
    try simp only [Act.put, List.getElem_toArray, List.getElem_cons_zero, List.getElem_cons_succ, List.setIfInBounds_toArray, List.set_cons_zero, List.set_cons_succ]
    refine wpAnyH_take (i := 14) (v := ?v14_31) rfl (by kernel_rfl) (by kernel_rfl) (by kernel_rfl) (fun _ _ _ h => h) (Or.inl ⟨by rfl, ?hy14_31⟩) (by assumption) ?rest14_31
    case hy14_31 => (intro w hSw; (try dsimp only at hSw); go_simp; (try with_reducible rfl))
    try simp only [Act.put, List.getElem_toArray, List.getElem_cons_zero, List.getElem_cons_succ, List.setIfInBounds_toArray, List.set_cons_zero, List.set_cons_succ]
    refine wpAnyH_take (i := 15) (v := ?v15_32) rfl (by kernel_rfl) (by kernel_rfl) (by kernel_rfl) (fun _ _ _ h => h) (Or.inl ⟨by rfl, ?hy15_32⟩) (by assumption) ?rest15_32
    case hy15_32 => (intro w hSw; (try dsimp only at hSw); go_simp; (try with_reducible rfl))
    try simp only [Act.put, List.getElem_toArray, List.getElem_cons_zero, List.getElem_cons_succ, List.setIfInBounds_toArray, List.set_cons_zero, List.set_cons_succ]
    refine wpAnyH_take (i := 16) (v := ?v16_33) rfl (by kernel_rfl) (by kernel_rfl) (by kernel_rfl) (fun _ _ _ h => h) (Or.inl ⟨by rfl, ?hy16_33⟩) (by assumption) ?rest16_33
    case hy16_33 => (intro w hSw; (try dsimp only at hSw); go_simp; (try with_reducible rfl))
    try simp only [Act.put, List.getElem_toArray, List.getElem_cons_zero, List.getElem_cons_succ, List.setIfInBounds_toArray, List.set_cons_zero, List.set_cons_succ]
    refine wpAnyH_take (i := 17) (v := ?v17_34) rfl (by kernel_rfl) (by kernel_rfl) (by kernel_rfl) (fun _ _ _ h => h) (Or.inl ⟨by rfl, ?hy17_34⟩) (by assumption) ?rest17_34
    case hy17_34 => (intro w hSw; (try dsimp only at hSw); go_simp; (try with_reducible rfl))
    try simp only [Act.put, List.getElem_toArray, List.getElem_cons_zero, List.getElem_cons_succ, List.setIfInBounds_toArray, List.set_cons_zero, List.set_cons_succ]
    refine wpAnyH_take (i := 18) (v := ?v18_35) rfl (by kernel_rfl) (by kernel_rfl) (by kernel_rfl) (fun _ _ _ h => h) (Or.inl ⟨by rfl, ?hy18_35⟩) (by assumption) ?rest18_35
    case hy18_35 => (intro w hSw; (try dsimp only at hSw); go_simp; (try with_reducible rfl))
    try simp only [Act.put, List.getElem_toArray, List.getElem_cons_zero, List.getElem_cons_succ, List.setIfInBounds_toArray, List.set_cons_zero, List.set_cons_succ]
    refine wpAnyH_take (i := 19) (v := ?v19_36) rfl (by kernel_rfl) (by kernel_rfl) (by kernel_rfl) (fun _ _ _ h => h) (Or.inl ⟨by rfl, ?hy19_36⟩) (by assumption) ?rest19_36
    case hy19_36 => (intro w hSw; (try dsimp only at hSw); go_simp; (try with_reducible rfl))
    try simp only [Act.put, List.getElem_toArray, List.getElem_cons_zero, List.getElem_cons_succ, List.setIfInBounds_toArray, List.set_cons_zero, List.set_cons_succ]
    refine wpAnyH_take (i := 20) (v := ?v20_37) rfl (by kernel_rfl) (by kernel_rfl) (by kernel_rfl) (fun _ _ _ h => h) (Or.inl ⟨by rfl, ?hy20_37⟩) (by assumption) ?rest20_37
    case hy20_37 => (intro w hSw; (try dsimp only at hSw); go_simp; (try with_reducible rfl))
    try simp only [Act.put, List.getElem_toArray, List.getElem_cons_zero, List.getElem_cons_succ, List.setIfInBounds_toArray, List.set_cons_zero, List.set_cons_succ]
    refine wpAnyH_take (i := 21) (v := ?v21_38) rfl (by kernel_rfl) (by kernel_rfl) (by kernel_rfl) (fun _ _ _ h => h) (Or.inl ⟨by rfl, ?hy21_38⟩) (by assumption) ?rest21_38
    case hy21_38 => (intro w hSw; (try dsimp only at hSw); go_simp; (try with_reducible rfl))
    try simp only [Act.put, List.getElem_toArray, List.getElem_cons_zero, List.getElem_cons_succ, List.setIfInBounds_toArray, List.set_cons_zero, List.set_cons_succ]
    refine wpAnyH_take (i := 22) (v := ?v22_39) rfl (by kernel_rfl) (by kernel_rfl) (by kernel_rfl) (fun _ _ _ h => h) (Or.inl ⟨by rfl, ?hy22_39⟩) (by assumption) ?rest22_39
    case hy22_39 => (intro w hSw; (try dsimp only at hSw); go_simp; (try with_reducible rfl))
    try simp only [Act.put, List.getElem_toArray, List.getElem_cons_zero, List.getElem_cons_succ, List.setIfInBounds_toArray, List.set_cons_zero, List.set_cons_succ]
    refine wpAnyH_take (i := 23) (v := ?v23_40) rfl (by kernel_rfl) (by kernel_rfl) (by kernel_rfl) (fun _ _ _ h => h) (Or.inl ⟨by rfl, ?hy23_40⟩) (by assumption) ?rest23_40
    case hy23_40 => (intro w hSw; (try dsimp only at hSw); go_simp; (try with_reducible rfl))
    try simp only [Act.put, List.getElem_toArray, List.getElem_cons_zero, List.getElem_cons_succ, List.setIfInBounds_toArray, List.set_cons_zero, List.set_cons_succ]
    refine wpAnyH_take (i := 24) (v := ?v24_41) rfl (by kernel_rfl) (by kernel_rfl) (by kernel_rfl) (fun _ _ _ h => h) (Or.inl ⟨by rfl, ?hy24_41⟩) (by assumption) ?rest24_41
    case hy24_41 => (intro w hSw; (try dsimp only at hSw); go_simp; (try with_reducible rfl))
    try simp only [Act.put, List.getElem_toArray, List.getElem_cons_zero, List.getElem_cons_succ, List.setIfInBounds_toArray, List.set_cons_zero, List.set_cons_succ]
    refine wpAnyH_take (i := 25) (v := ?v25_42) rfl (by kernel_rfl) (by kernel_rfl) (by kernel_rfl) (fun _ _ _ h => h) (Or.inl ⟨by rfl, ?hy25_42⟩) (by assumption) ?rest25_42
    case hy25_42 => (intro w hSw; (try dsimp only at hSw); go_simp; (try with_reducible rfl))
    try simp only [Act.put, List.getElem_toArray, List.getElem_cons_zero, List.getElem_cons_succ, List.setIfInBounds_toArray, List.set_cons_zero, List.set_cons_succ]
    refine wpAnyH_take (i := 26) (v := ?v26_43) rfl (by kernel_rfl) (by kernel_rfl) (by kernel_rfl) (fun _ _ _ h => h) (Or.inl ⟨by rfl, ?hy26_43⟩) (by assumption) ?rest26_43
    case hy26_43 => (intro w hSw; (try dsimp only at hSw); go_simp; (try with_reducible rfl))
    try simp only [Act.put, List.getElem_toArray, List.getElem_cons_zero, List.getElem_cons_succ, List.setIfInBounds_toArray, List.set_cons_zero, List.set_cons_succ]
    refine wpAnyH_take (i := 27) (v := ?v27_44) rfl (by kernel_rfl) (by kernel_rfl) (by kernel_rfl) (fun _ _ _ h => h) (Or.inl ⟨by rfl, ?hy27_44⟩) (by assumption) ?rest27_44
    case hy27_44 => (intro w hSw; (try dsimp only at hSw); go_simp; (try with_reducible rfl))
    try simp only [Act.put, List.getElem_toArray, List.getElem_cons_zero, List.getElem_cons_succ, List.setIfInBounds_toArray, List.set_cons_zero, List.set_cons_succ]
    refine wpAnyH_take (i := 28) (v := ?v28_45) rfl (by kernel_rfl) (by kernel_rfl) (by kernel_rfl) (fun _ _ _ h => h) (Or.inl ⟨by rfl, ?hy28_45⟩) (by assumption) ?rest28_45
    case hy28_45 => (intro w hSw; (try dsimp only at hSw); go_simp; (try with_reducible rfl))
    try simp only [Act.put, List.getElem_toArray, List.getElem_cons_zero, List.getElem_cons_succ, List.setIfInBounds_toArray, List.set_cons_zero, List.set_cons_succ]
    refine wpAnyH_take (i := 29) (v := ?v29_46) rfl (by kernel_rfl) (by kernel_rfl) (by kernel_rfl) (fun _ _ _ h => h) (Or.inl ⟨by rfl, ?hy29_46⟩) (by assumption) ?rest29_46
    case hy29_46 => (intro w hSw; (try dsimp only at hSw); go_simp; (try with_reducible rfl))
    try simp only [Act.put, List.getElem_toArray, List.getElem_cons_zero, List.getElem_cons_succ, List.setIfInBounds_toArray, List.set_cons_zero, List.set_cons_succ]
    refine wpAnyH_take (i := 30) (v := ?v30_47) rfl (by kernel_rfl) (by kernel_rfl) (by kernel_rfl) (fun _ _ _ h => h) (Or.inl ⟨by rfl, ?hy30_47⟩) (by assumption) ?rest30_47
    case hy30_47 => (intro w hSw; (try dsimp only at hSw); go_simp; (try with_reducible rfl))
    try simp only [Act.put, List.getElem_toArray, List.getElem_cons_zero, List.getElem_cons_succ, List.setIfInBounds_toArray, List.set_cons_zero, List.set_cons_succ]
    refine wpAnyH_take (i := 31) (v := ?v31_48) rfl (by kernel_rfl) (by kernel_rfl) (by kernel_rfl) (fun _ _ _ h => h) (Or.inl ⟨by rfl, ?hy31_48⟩) (by assumption) ?rest31_48
    case hy31_48 => (intro w hSw; (try dsimp only at hSw); go_simp; (try with_reducible rfl))
    try simp only [Act.put, List.getElem_toArray, List.getElem_cons_zero, List.getElem_cons_succ, List.setIfInBounds_toArray, List.set_cons_zero, List.set_cons_succ]
    refine wpAnyH_take (i := 32) (v := ?v32_49) rfl (by kernel_rfl) (by kernel_rfl) (by kernel_rfl) (fun _ _ _ h => h) (Or.inl ⟨by rfl, ?hy32_49⟩) (by assumption) ?rest32_49
    case hy32_49 => (intro w hSw; (try dsimp only at hSw); go_simp; (try with_reducible rfl))
    try simp only [Act.put, List.getElem_toArray, List.getElem_cons_zero, List.getElem_cons_succ, List.setIfInBounds_toArray, List.set_cons_zero, List.set_cons_succ]
    refine wpAnyH_take (i := 33) (v := ?v33_50) rfl (by kernel_rfl) (by kernel_rfl) (by kernel_rfl) (fun _ _ _ h => h) (Or.inl ⟨by rfl, ?hy33_50⟩) (by assumption) ?rest33_50
    case hy33_50 => (intro w hSw; (try dsimp only at hSw); go_simp; (try with_reducible rfl))
    try simp only [Act.put, List.getElem_toArray, List.getElem_cons_zero, List.getElem_cons_succ, List.setIfInBounds_toArray, List.set_cons_zero, List.set_cons_succ]
    refine wpAnyH_take (i := 34) (v := ?v34_51) rfl (by kernel_rfl) (by kernel_rfl) (by kernel_rfl) (fun _ _ _ h => h) (Or.inl ⟨by rfl, ?hy34_51⟩) (by assumption) ?rest34_51
    case hy34_51 => (intro w hSw; (try dsimp only at hSw); go_simp; (try with_reducible rfl))
    try simp only [Act.put, List.getElem_toArray, List.getElem_cons_zero, List.getElem_cons_succ, List.setIfInBounds_toArray, List.set_cons_zero, List.set_cons_succ]
    refine wpAnyH_take (i := 35) (v := ?v35_52) rfl (by kernel_rfl) (by kernel_rfl) (by kernel_rfl) (fun _ _ _ h => h) (Or.inl ⟨by rfl, ?hy35_52⟩) (by assumption) ?rest35_52
    case hy35_52 => (intro w hSw; (try dsimp only at hSw); go_simp; (try with_reducible rfl))
    try simp only [Act.put, List.getElem_toArray, List.getElem_cons_zero, List.getElem_cons_succ, List.setIfInBounds_toArray, List.set_cons_zero, List.set_cons_succ]
    refine wpAnyH_take (i := 36) (v := ?v36_53) rfl (by kernel_rfl) (by kernel_rfl) (by kernel_rfl) (fun _ _ _ h => h) (Or.inl ⟨by rfl, ?hy36_53⟩) (by assumption) ?rest36_53
    case hy36_53 => (intro w hSw; (try dsimp only at hSw); go_simp; (try with_reducible rfl))
    try simp only [Act.put, List.getElem_toArray, List.getElem_cons_zero, List.getElem_cons_succ, List.setIfInBounds_toArray, List.set_cons_zero, List.set_cons_succ]
    refine wpAnyH_take (i := 37) (v := ?v37_54) rfl (by kernel_rfl) (by kernel_rfl) (by kernel_rfl) (fun _ _ _ h => h) (Or.inl ⟨by rfl, ?hy37_54⟩) (by assumption) ?rest37_54
    case hy37_54 => (intro w hSw; (try dsimp only at hSw); go_simp; (try with_reducible rfl))
    try simp only [Act.put, List.getElem_toArray, List.getElem_cons_zero, List.getElem_cons_succ, List.setIfInBounds_toArray, List.set_cons_zero, List.set_cons_succ]
    refine wpAnyH_take (i := 38) (v := ?v38_55) rfl (by kernel_rfl) (by kernel_rfl) (by kernel_rfl) (fun _ _ _ h => h) (Or.inl ⟨by rfl, ?hy38_55⟩) (by assumption) ?rest38_55
    case hy38_55 => (intro w hSw; (try dsimp only at hSw); go_simp; (try with_reducible rfl))
    try simp only [Act.put, List.getElem_toArray, List.getElem_cons_zero, List.getElem_cons_succ, List.setIfInBounds_toArray, List.set_cons_zero, List.set_cons_succ]
    refine wpAnyH_ready (rs := [39, 41]) (by kernel_rfl) (by simp) ?_
    refine AllReadyH.cons rfl (fun K hK => ?_) (AllReadyH.cons rfl (fun K hK => ?_) AllReadyH.nil)
    · skip
      go_simp
      go_at_call 46; refine (HI.out _).mono ?_; rintro e' W1 ⟨rfl, hb'⟩
      refine hK.out _ _ (⟨keepW hb' hHeld.1, keepW hb' hHeld.2.1, keepW hb' hHeld.2.2.1, keepW hb' hHeld.2.2.2.1, keepW hb' hHeld.2.2.2.2.1, keepW hb' hHeld.2.2.2.2.2.1, keepW hb' hHeld.2.2.2.2.2.2.1, keepW hb' hHeld.2.2.2.2.2.2.2.1, keepW hb' hHeld.2.2.2.2.2.2.2.2.1, hHeld.2.2.2.2.2.2.2.2.2.trans (hb'.mono hHeld.2.2.2.2.2.2.2.2.2.size)⟩) (fun hHeld2 => ?_)
      clear hK K hHeld hb'
      have hHeld := hHeld2
      clear hHeld2
      try simp only [Act.put, List.getElem_toArray, List.getElem_cons_zero, List.getElem_cons_succ, List.setIfInBounds_toArray, List.set_cons_zero, List.set_cons_succ]
      refine wpAnyH_take (i := 40) (v := ?v40_56) rfl (by kernel_rfl) (by kernel_rfl) (by kernel_rfl) (fun _ _ _ h => h) (Or.inl ⟨by rfl, ?hy40_56⟩) (by assumption) ?rest40_56
      case hy40_56 => (intro w hSw; (try dsimp only at hSw); go_simp; (try with_reducible rfl))
      try simp only [Act.put, List.getElem_toArray, List.getElem_cons_zero, List.getElem_cons_succ, List.setIfInBounds_toArray, List.set_cons_zero, List.set_cons_succ]
      refine wpAnyH_ready (rs := [41]) (by kernel_rfl) (by simp) ?_
      refine AllReadyH.cons rfl (fun K hK => ?_) AllReadyH.nil
      go_simp
      have pq := RcB.new W1
      have zq : W1.heap.size < (W1.alloc (.cells #[.int .i64 0, .int .i64 0, .int .i64 0] 60)).heap.size := by rw [World.size_alloc]; omega
      have lq : Ea.heap.size ≤ W1.heap.size := hHeld.2.2.2.2.2.2.2.2.2.size
      have hb' : Below W1.heap.size W1 (W1.alloc (.cells #[.int .i64 0, .int .i64 0, .int .i64 0] 60)) := below_alloc _ _
      obtain ⟨q, hq⟩ : ∃ q, q = W1.heap.size := ⟨_, rfl⟩
      obtain ⟨W2, hF⟩ : ∃ F, F = W1.alloc (.cells #[.int .i64 0, .int .i64 0, .int .i64 0] 60) := ⟨_, rfl⟩
      rw [← hF, ← hq] at pq zq
      rw [← hq] at lq
      rw [← hF] at hb' ⊢
      rw [← hq]
      refine hK.out _ _ (⟨keepW hb' hHeld.1, keepW hb' hHeld.2.1, keepW hb' hHeld.2.2.1, keepW hb' hHeld.2.2.2.1, keepW hb' hHeld.2.2.2.2.1, keepW hb' hHeld.2.2.2.2.2.1, keepW hb' hHeld.2.2.2.2.2.2.1, keepW hb' hHeld.2.2.2.2.2.2.2.1, keepW hb' hHeld.2.2.2.2.2.2.2.2.1, hHeld.2.2.2.2.2.2.2.2.2.trans (hb'.mono hHeld.2.2.2.2.2.2.2.2.2.size)⟩) (fun hHeld2 => ?_)
      clear hK K hHeld hb' hF hq
      have hHeld := hHeld2
      clear hHeld2
      try simp only [Act.put, List.getElem_toArray, List.getElem_cons_zero, List.getElem_cons_succ, List.setIfInBounds_toArray, List.set_cons_zero, List.set_cons_succ]
      refine wpAnyH_done (by kernel_rfl) ?_ _
      change wpList _ _ _ _ _ _
      simp only [List.drop_succ_cons, List.drop_zero]
      have HP := Lib.hid (RcV.put (t2 := rt) (x2 := r1) (y2 := r2) pq)
      have zz := zq
      obtain ⟨oc0, oc1, oc2, of0, of1, of2⟩ := pq
      have bZ := Lib.hid ((((hHeld.2.2.2.2.2.2.2.2.2).setCell (p := ⟨q, 0, none⟩) (by dsimp only; omega) (.int .i64 rt)).setCell (p := ⟨q, 1, none⟩) (by dsimp only; omega) (.int .i64 r1)).setCell (p := ⟨q, 2, none⟩) (by dsimp only; omega) (.int .i64 r2))
      go_wp2_with fail
      go_meet
      exact ⟨q, rfl, HP.out, by simp; exact zz, bZ.out⟩
    · skip
      go_simp
      have pq := RcB.new D
      have zq : D.heap.size < (D.alloc (.cells #[.int .i64 0, .int .i64 0, .int .i64 0] 60)).heap.size := by rw [World.size_alloc]; omega
      have lq : Ea.heap.size ≤ D.heap.size := hHeld.2.2.2.2.2.2.2.2.2.size
      have hb' : Below D.heap.size D (D.alloc (.cells #[.int .i64 0, .int .i64 0, .int .i64 0] 60)) := below_alloc _ _
      obtain ⟨q, hq⟩ : ∃ q, q = D.heap.size := ⟨_, rfl⟩
      obtain ⟨W3, hF⟩ : ∃ F, F = D.alloc (.cells #[.int .i64 0, .int .i64 0, .int .i64 0] 60) := ⟨_, rfl⟩
      rw [← hF, ← hq] at pq zq
      rw [← hq] at lq
      rw [← hF] at hb' ⊢
      rw [← hq]
      refine hK.out _ _ (⟨keepW hb' hHeld.1, keepW hb' hHeld.2.1, keepW hb' hHeld.2.2.1, keepW hb' hHeld.2.2.2.1, keepW hb' hHeld.2.2.2.2.1, keepW hb' hHeld.2.2.2.2.2.1, keepW hb' hHeld.2.2.2.2.2.2.1, keepW hb' hHeld.2.2.2.2.2.2.2.1, keepW hb' hHeld.2.2.2.2.2.2.2.2.1, hHeld.2.2.2.2.2.2.2.2.2.trans (hb'.mono hHeld.2.2.2.2.2.2.2.2.2.size)⟩) (fun hHeld2 => ?_)
      clear hK K hHeld hb' hF hq
      have hHeld := hHeld2
      clear hHeld2
      try simp only [Act.put, List.getElem_toArray, List.getElem_cons_zero, List.getElem_cons_succ, List.setIfInBounds_toArray, List.set_cons_zero, List.set_cons_succ]
      refine wpAnyH_ready (rs := [39]) (by kernel_rfl) (by simp) ?_
      refine AllReadyH.cons rfl (fun K hK => ?_) AllReadyH.nil
      go_simp
      go_at_call 46; refine (HI.out _).mono ?_; rintro e' W4 ⟨rfl, hb'⟩
      have pq := pq.keep hb' zq
      have zq := Nat.lt_of_lt_of_le zq hb'.size
      refine hK.out _ _ (⟨keepW hb' hHeld.1, keepW hb' hHeld.2.1, keepW hb' hHeld.2.2.1, keepW hb' hHeld.2.2.2.1, keepW hb' hHeld.2.2.2.2.1, keepW hb' hHeld.2.2.2.2.2.1, keepW hb' hHeld.2.2.2.2.2.2.1, keepW hb' hHeld.2.2.2.2.2.2.2.1, keepW hb' hHeld.2.2.2.2.2.2.2.2.1, hHeld.2.2.2.2.2.2.2.2.2.trans (hb'.mono hHeld.2.2.2.2.2.2.2.2.2.size)⟩) (fun hHeld2 => ?_)
      clear hK K hHeld hb'
      have hHeld := hHeld2
      clear hHeld2
      try simp only [Act.put, List.getElem_toArray, List.getElem_cons_zero, List.getElem_cons_succ, List.setIfInBounds_toArray, List.set_cons_zero, List.set_cons_succ]
      refine wpAnyH_take (i := 40) (v := ?v40_57) rfl (by kernel_rfl) (by kernel_rfl) (by kernel_rfl) (fun _ _ _ h => h) (Or.inl ⟨by rfl, ?hy40_57⟩) (by assumption) ?rest40_57
      case hy40_57 => (intro w hSw; (try dsimp only at hSw); go_simp; (try with_reducible rfl))
      try simp only [Act.put, List.getElem_toArray, List.getElem_cons_zero, List.getElem_cons_succ, List.setIfInBounds_toArray, List.set_cons_zero, List.set_cons_succ]
      refine wpAnyH_done (by kernel_rfl) ?_ _
      change wpList _ _ _ _ _ _
      simp only [List.drop_succ_cons, List.drop_zero]
      have HP := Lib.hid (RcV.put (t2 := rt) (x2 := r1) (y2 := r2) pq)
      have zz := zq
      obtain ⟨oc0, oc1, oc2, of0, of1, of2⟩ := pq
      have bZ := Lib.hid ((((hHeld.2.2.2.2.2.2.2.2.2).setCell (p := ⟨q, 0, none⟩) (by dsimp only; omega) (.int .i64 rt)).setCell (p := ⟨q, 1, none⟩) (by dsimp only; omega) (.int .i64 r1)).setCell (p := ⟨q, 2, none⟩) (by dsimp only; omega) (.int .i64 r2))
      go_wp2_with fail
      go_meet
      exact ⟨q, rfl, HP.out, by simp; exact zz, bZ.out⟩
  case rest => as_aux_lemma =>
  obtain ⟨q, rfl, hRV, hzq, hbx⟩ := hcut
  obtain ⟨Fa, hFa⟩ : ∃ x, x = wc := ⟨_, rfl⟩
  rw [← hFa] at hRV hzq hbx ⊢
  obtain ⟨qr, hqr⟩ : ∃ x, x = q := ⟨_, rfl⟩
  rw [← hqr] at hRV hzq ⊢
  clear hFa wc HS17 hqr q
  have x0 := keepB hbx lx x0
  have x1 := keepB hbx lx x1
  have lx := Nat.lt_of_lt_of_le lx hbx.size
  have bw := bw2.trans (hbx.mono bw2.size)
  obtain ⟨v0, v1, v2, _, _, _⟩ := hRV
  have lbF : b < Fa.heap.size := Nat.lt_of_lt_of_le lbE hbx.size
  have lxF := lx
  clear hbx bw2 c1 c2 a0 a1 a2 g0 g1 k0 k1 za zb HI
  obtain ⟨i0', hi0, hz0, hz1, hz2⟩ := info_parts info60
  go_upto_region 18 with fail
  have HS18 := Lib.hid (show (fun w' : World => w'.cell? ⟨qr, 0, none⟩ = some (.int .i64 rt) ∧ w'.cell? ⟨qr, 1, none⟩ = some (.int .i64 r1) ∧ w'.cell? ⟨qr, 2, none⟩ = some (.int .i64 r2) ∧ Below Fa.heap.size Fa w') Fa.drew from ⟨v0, v1, v2, (Below.refl _ _).drew⟩)
  go_cut [23] from 203 to 211 (fun a wQ => wQ.ownsRow Fa.heap.size 60 3 a (k + 2) (rcv (insR rs k ⟨rt, r1, r2⟩) (k + 2)) ∧ Below Fa.heap.size Fa wQ)
  case first =>
    refine wp_region_held_tail (S := (fun w' : World => w'.cell? ⟨qr, 0, none⟩ = some (.int .i64 rt) ∧ w'.cell? ⟨qr, 1, none⟩ = some (.int .i64 r1) ∧ w'.cell? ⟨qr, 2, none⟩ = some (.int .i64 r2) ∧ Below Fa.heap.size Fa w')) 8 (by kernel_rfl) (by kernel_rfl) HS18.out (fun hHeld => ?_)
    obtain ⟨D, hD⟩ : ∃ D, D = Fa.drew := ⟨_, rfl⟩
    rw [← hD] at hHeld ⊢
    clear hD
    refine wpAnyH_take (i := 1) (v := ?v1_58) rfl (by kernel_rfl) (by kernel_rfl) (by kernel_rfl) (fun _ _ _ h => h) (Or.inl ⟨by rfl, ?hy1_58⟩) (by assumption) ?rest1_58
    case hy1_58 => (intro w hSw; (try dsimp only at hSw); go_simp; (try with_reducible rfl))
    try simp only [Act.put, List.getElem_toArray, List.getElem_cons_zero, List.getElem_cons_succ, List.setIfInBounds_toArray, List.set_cons_zero, List.set_cons_succ]
    refine wpAnyH_take (i := 2) (v := ?v2_59) rfl (by kernel_rfl) (by kernel_rfl) (by kernel_rfl) (fun _ _ _ h => h) (Or.inl ⟨by rfl, ?hy2_59⟩) (by assumption) ?rest2_59
    case hy2_59 => (intro w hSw; (try dsimp only at hSw); go_simp; (try with_reducible rfl))
    try simp only [Act.put, List.getElem_toArray, List.getElem_cons_zero, List.getElem_cons_succ, List.setIfInBounds_toArray, List.set_cons_zero, List.set_cons_succ]
    refine wpAnyH_take (i := 3) (v := ?v3_60) rfl (by kernel_rfl) (by kernel_rfl) (by kernel_rfl) (fun _ _ _ h => h) (Or.inl ⟨by rfl, ?hy3_60⟩) (by assumption) ?rest3_60
    case hy3_60 => (intro w hSw; (try dsimp only at hSw); go_simp; (try with_reducible rfl))
    try simp only [Act.put, List.getElem_toArray, List.getElem_cons_zero, List.getElem_cons_succ, List.setIfInBounds_toArray, List.set_cons_zero, List.set_cons_succ]
    refine wpAnyH_take (i := 4) (v := ?v4_61) rfl (by kernel_rfl) (by kernel_rfl) (by kernel_rfl) (fun _ _ _ h => h) (Or.inl ⟨by rfl, ?hy4_61⟩) (by assumption) ?rest4_61
    case hy4_61 => (intro w hSw; (try dsimp only at hSw); go_simp; (try with_reducible rfl))
    try simp only [Act.put, List.getElem_toArray, List.getElem_cons_zero, List.getElem_cons_succ, List.setIfInBounds_toArray, List.set_cons_zero, List.set_cons_succ]
    refine wpAnyH_take (i := 6) (v := ?v6_62) rfl (by kernel_rfl) (by kernel_rfl) (by kernel_rfl) (fun _ _ _ h => h) (Or.inl ⟨by rfl, ?hy6_62⟩) (by assumption) ?rest6_62
    case hy6_62 => (intro w hSw; (try dsimp only at hSw); go_simp; (try with_reducible rfl))
    try simp only [Act.put, List.getElem_toArray, List.getElem_cons_zero, List.getElem_cons_succ, List.setIfInBounds_toArray, List.set_cons_zero, List.set_cons_succ]
    refine wpAnyH_ready (rs := [0, 7]) (by kernel_rfl) (by simp) ?_
    refine AllReadyH.cons rfl (fun K hK => ?_) (AllReadyH.cons rfl (fun K hK => ?_) AllReadyH.nil)
    · skip
      go_simp
      have hb' : Below D.heap.size D (D.alloc (.cells #[] 60)) := below_alloc _ _
      have RW := RwA.new hHeld.2.2.2
      obtain ⟨s0, hs0⟩ : ∃ s, s = D.heap.size := ⟨_, rfl⟩
      obtain ⟨X1, hF⟩ : ∃ F, F = D.alloc (.cells #[] 60) := ⟨_, rfl⟩
      rw [← hF, ← hs0] at RW
      rw [← hF] at hb' ⊢
      rw [← hs0]
      refine hK.out _ _ (⟨keepW hb' hHeld.1, keepW hb' hHeld.2.1, keepW hb' hHeld.2.2.1, hHeld.2.2.2.trans (hb'.mono hHeld.2.2.2.size)⟩) (fun hHeld2 => ?_)
      clear hK K hHeld hb' hF hs0
      have hHeld := hHeld2
      clear hHeld2
      try simp only [Act.put, List.getElem_toArray, List.getElem_cons_zero, List.getElem_cons_succ, List.setIfInBounds_toArray, List.set_cons_zero, List.set_cons_succ]
      refine wpAnyH_ready (rs := [5, 7]) (by kernel_rfl) (by simp) ?_
      refine AllReadyH.cons rfl (fun K hK => ?_) (AllReadyH.cons rfl (fun K hK => ?_) AllReadyH.nil)
      · skip
        rw [if_pos (by rfl)]
        refine oper_append _ _ 56 rfl Fa.heap.size 60 i0' (.agg #[.int .i64 0, .int .i64 0, .int .i64 0]) 3 24 Try.underlying56 hi0 hz0 hz1 hz2 rfl (by decide) _ 0 [] rfl RW.own ⟨b, off, none⟩ (k + 1) cap (rcv rs (k + 1)) rfl (rcv_len _ _) (recs_news (HC.out X1 (bw.trans (RW.b.mono bw.size))) (by omega)) (rcv_one _ _) (by unfold maxLen; omega) (by omega) RW.b.size ?_
        intro vv X2 hown hgrow hat
        have hb2 : Below Fa.heap.size X1 X2 := Below.grown (Below.refl Fa.heap.size X1) hgrow RW.b.size (fun k hk => (RW.own.lt k hk).1)
        have RW := RW.grown hgrow hown
        clear hown hgrow hat
        refine hK.out _ _ (⟨keepB hb2 hzq hHeld.1, keepB hb2 hzq hHeld.2.1, keepB hb2 hzq hHeld.2.2.1, RW.b⟩) (fun hHeld2 => ?_)
        clear hK K hHeld hb2
        have hHeld := hHeld2
        clear hHeld2
        try simp only [Act.put, List.getElem_toArray, List.getElem_cons_zero, List.getElem_cons_succ, List.setIfInBounds_toArray, List.set_cons_zero, List.set_cons_succ]
        refine wpAnyH_ready (rs := [7]) (by kernel_rfl) (by simp) ?_
        refine AllReadyH.cons rfl (fun K hK => ?_) AllReadyH.nil
        go_simp
        have hb' : Below X2.heap.size X2 (X2.alloc (.cells #[.int .i64 rt, .int .i64 r1, .int .i64 r2] 60)) := below_alloc _ _
        have TB := TbA.new rt r1 r2 (fun k hk => (RW.own.lt k hk).2)
        have RW := RW.keep hb'
        obtain ⟨s1, hs1⟩ : ∃ s, s = X2.heap.size := ⟨_, rfl⟩
        obtain ⟨X3, hF⟩ : ∃ F, F = X2.alloc (.cells #[.int .i64 rt, .int .i64 r1, .int .i64 r2] 60) := ⟨_, rfl⟩
        rw [← hF, ← hs1] at TB
        rw [← hF] at RW
        rw [← hF] at hb' ⊢
        rw [← hs1]
        refine hK.out _ _ (⟨keepW hb' hHeld.1, keepW hb' hHeld.2.1, keepW hb' hHeld.2.2.1, hHeld.2.2.2.trans (hb'.mono hHeld.2.2.2.size)⟩) (fun hHeld2 => ?_)
        clear hK K hHeld hb' hF hs1
        have hHeld := hHeld2
        clear hHeld2
        try simp only [Act.put, List.getElem_toArray, List.getElem_cons_zero, List.getElem_cons_succ, List.setIfInBounds_toArray, List.set_cons_zero, List.set_cons_succ]
        refine wpAnyH_done (by kernel_rfl) ?_ _
        change wpList _ _ _ _ _ _
        simp only [List.drop_succ_cons, List.drop_zero]
        clear hHeld
        go_wp2_with (first | (at_builtin; refine wpList_append_own _ rfl _ _ 56 rfl Fa.heap.size 60 i0' (.agg #[.int .i64 0, .int .i64 0, .int .i64 0]) 3 24 Try.underlying56 hi0 hz0 hz1 hz2 rfl (by decide) _ _ _ rfl RW.own ⟨s1, 0, none⟩ 1 1 [.int .i64 rt, .int .i64 r1, .int .i64 r2] rfl rfl TB.c ?c2 ?c3 ?c4 ?c5 ?_) | go_in)
        case c2 => first | (simp [Value.oneCell']; done) | (intro u hu; simp at hu; rcases hu with rfl | rfl | rfl <;> rfl)
        case c3 => unfold maxLen; omega
        case c4 => omega
        case c5 => exact RW.b.size
        intro v9 w9 hown9 hgrow9 _
        have RR := RW.grown hgrow9 hown9
        go_wp2_with fail
        go_meet
        have e9 := rcv_ins rs k ⟨rt, r1, r2⟩
        exact ⟨by rw [← e9]; exact RR.own, RR.b⟩
      · skip
        go_simp
        have hb' : Below X1.heap.size X1 (X1.alloc (.cells #[.int .i64 rt, .int .i64 r1, .int .i64 r2] 60)) := below_alloc _ _
        have TB := TbA.new rt r1 r2 (fun k hk => (RW.own.lt k hk).2)
        have RW := RW.keep hb'
        obtain ⟨s1, hs1⟩ : ∃ s, s = X1.heap.size := ⟨_, rfl⟩
        obtain ⟨X4, hF⟩ : ∃ F, F = X1.alloc (.cells #[.int .i64 rt, .int .i64 r1, .int .i64 r2] 60) := ⟨_, rfl⟩
        rw [← hF, ← hs1] at TB
        rw [← hF] at RW
        rw [← hF] at hb' ⊢
        rw [← hs1]
        refine hK.out _ _ (⟨keepW hb' hHeld.1, keepW hb' hHeld.2.1, keepW hb' hHeld.2.2.1, hHeld.2.2.2.trans (hb'.mono hHeld.2.2.2.size)⟩) (fun hHeld2 => ?_)
        clear hK K hHeld hb' hF hs1
        have hHeld := hHeld2
        clear hHeld2
        try simp only [Act.put, List.getElem_toArray, List.getElem_cons_zero, List.getElem_cons_succ, List.setIfInBounds_toArray, List.set_cons_zero, List.set_cons_succ]
        refine wpAnyH_ready (rs := [5]) (by kernel_rfl) (by simp) ?_
        refine AllReadyH.cons rfl (fun K hK => ?_) AllReadyH.nil
        rw [if_pos (by rfl)]
        refine oper_append _ _ 56 rfl Fa.heap.size 60 i0' (.agg #[.int .i64 0, .int .i64 0, .int .i64 0]) 3 24 Try.underlying56 hi0 hz0 hz1 hz2 rfl (by decide) _ 0 [] rfl RW.own ⟨b, off, none⟩ (k + 1) cap (rcv rs (k + 1)) rfl (rcv_len _ _) (recs_news (HC.out X4 (bw.trans (RW.b.mono bw.size))) (by omega)) (rcv_one _ _) (by unfold maxLen; omega) (by omega) RW.b.size ?_
        intro vv X5 hown hgrow hat
        have hb2 : Below Fa.heap.size X4 X5 := Below.grown (Below.refl Fa.heap.size X4) hgrow RW.b.size (fun k hk => (RW.own.lt k hk).1)
        have TB := TB.grown hgrow hat
        have RW := RW.grown hgrow hown
        clear hown hgrow hat
        refine hK.out _ _ (⟨keepB hb2 hzq hHeld.1, keepB hb2 hzq hHeld.2.1, keepB hb2 hzq hHeld.2.2.1, RW.b⟩) (fun hHeld2 => ?_)
        clear hK K hHeld hb2
        have hHeld := hHeld2
        clear hHeld2
        try simp only [Act.put, List.getElem_toArray, List.getElem_cons_zero, List.getElem_cons_succ, List.setIfInBounds_toArray, List.set_cons_zero, List.set_cons_succ]
        refine wpAnyH_done (by kernel_rfl) ?_ _
        change wpList _ _ _ _ _ _
        simp only [List.drop_succ_cons, List.drop_zero]
        clear hHeld
        go_wp2_with (first | (at_builtin; refine wpList_append_own _ rfl _ _ 56 rfl Fa.heap.size 60 i0' (.agg #[.int .i64 0, .int .i64 0, .int .i64 0]) 3 24 Try.underlying56 hi0 hz0 hz1 hz2 rfl (by decide) _ _ _ rfl RW.own ⟨s1, 0, none⟩ 1 1 [.int .i64 rt, .int .i64 r1, .int .i64 r2] rfl rfl TB.c ?c2 ?c3 ?c4 ?c5 ?_) | go_in)
        case c2 => first | (simp [Value.oneCell']; done) | (intro u hu; simp at hu; rcases hu with rfl | rfl | rfl <;> rfl)
        case c3 => unfold maxLen; omega
        case c4 => omega
        case c5 => exact RW.b.size
        intro v9 w9 hown9 hgrow9 _
        have RR := RW.grown hgrow9 hown9
        go_wp2_with fail
        go_meet
        have e9 := rcv_ins rs k ⟨rt, r1, r2⟩
        exact ⟨by rw [← e9]; exact RR.own, RR.b⟩
    · skip
      go_simp
      have hb' : Below D.heap.size D (D.alloc (.cells #[.int .i64 rt, .int .i64 r1, .int .i64 r2] 60)) := below_alloc _ _
      have TB := TbA.new (W := D) (v := .slice none 0 0) rt r1 r2 (fun k hk => by simp [Value.ownBlock] at hk)
      obtain ⟨s1, hs1⟩ : ∃ s, s = D.heap.size := ⟨_, rfl⟩
      obtain ⟨X6, hF⟩ : ∃ F, F = D.alloc (.cells #[.int .i64 rt, .int .i64 r1, .int .i64 r2] 60) := ⟨_, rfl⟩
      rw [← hF, ← hs1] at TB
      rw [← hF] at hb' ⊢
      rw [← hs1]
      refine hK.out _ _ (⟨keepW hb' hHeld.1, keepW hb' hHeld.2.1, keepW hb' hHeld.2.2.1, hHeld.2.2.2.trans (hb'.mono hHeld.2.2.2.size)⟩) (fun hHeld2 => ?_)
      clear hK K hHeld hb' hF hs1
      have hHeld := hHeld2
      clear hHeld2
      try simp only [Act.put, List.getElem_toArray, List.getElem_cons_zero, List.getElem_cons_succ, List.setIfInBounds_toArray, List.set_cons_zero, List.set_cons_succ]
      refine wpAnyH_ready (rs := [0]) (by kernel_rfl) (by simp) ?_
      refine AllReadyH.cons rfl (fun K hK => ?_) AllReadyH.nil
      go_simp
      have hb' : Below X6.heap.size X6 (X6.alloc (.cells #[] 60)) := below_alloc _ _
      have RW := RwA.new hHeld.2.2.2
      have TB := (TB.keep hb').other (v' := .slice (some ⟨X6.heap.size, 0, none⟩) 0 0) (by have := TB.z; simp [Value.ownBlock]; omega)
      obtain ⟨s0, hs0⟩ : ∃ s, s = X6.heap.size := ⟨_, rfl⟩
      obtain ⟨X7, hF⟩ : ∃ F, F = X6.alloc (.cells #[] 60) := ⟨_, rfl⟩
      rw [← hF, ← hs0] at RW TB
      rw [← hF] at hb' ⊢
      rw [← hs0]
      refine hK.out _ _ (⟨keepW hb' hHeld.1, keepW hb' hHeld.2.1, keepW hb' hHeld.2.2.1, hHeld.2.2.2.trans (hb'.mono hHeld.2.2.2.size)⟩) (fun hHeld2 => ?_)
      clear hK K hHeld hb' hF hs0
      have hHeld := hHeld2
      clear hHeld2
      try simp only [Act.put, List.getElem_toArray, List.getElem_cons_zero, List.getElem_cons_succ, List.setIfInBounds_toArray, List.set_cons_zero, List.set_cons_succ]
      refine wpAnyH_ready (rs := [5]) (by kernel_rfl) (by simp) ?_
      refine AllReadyH.cons rfl (fun K hK => ?_) AllReadyH.nil
      rw [if_pos (by rfl)]
      refine oper_append _ _ 56 rfl Fa.heap.size 60 i0' (.agg #[.int .i64 0, .int .i64 0, .int .i64 0]) 3 24 Try.underlying56 hi0 hz0 hz1 hz2 rfl (by decide) _ 0 [] rfl RW.own ⟨b, off, none⟩ (k + 1) cap (rcv rs (k + 1)) rfl (rcv_len _ _) (recs_news (HC.out X7 (bw.trans (RW.b.mono bw.size))) (by omega)) (rcv_one _ _) (by unfold maxLen; omega) (by omega) RW.b.size ?_
      intro vv X8 hown hgrow hat
      have hb2 : Below Fa.heap.size X7 X8 := Below.grown (Below.refl Fa.heap.size X7) hgrow RW.b.size (fun k hk => (RW.own.lt k hk).1)
      have TB := TB.grown hgrow hat
      have RW := RW.grown hgrow hown
      clear hown hgrow hat
      refine hK.out _ _ (⟨keepB hb2 hzq hHeld.1, keepB hb2 hzq hHeld.2.1, keepB hb2 hzq hHeld.2.2.1, RW.b⟩) (fun hHeld2 => ?_)
      clear hK K hHeld hb2
      have hHeld := hHeld2
      clear hHeld2
      try simp only [Act.put, List.getElem_toArray, List.getElem_cons_zero, List.getElem_cons_succ, List.setIfInBounds_toArray, List.set_cons_zero, List.set_cons_succ]
      refine wpAnyH_done (by kernel_rfl) ?_ _
      change wpList _ _ _ _ _ _
      simp only [List.drop_succ_cons, List.drop_zero]
      clear hHeld
      go_wp2_with (first | (at_builtin; refine wpList_append_own _ rfl _ _ 56 rfl Fa.heap.size 60 i0' (.agg #[.int .i64 0, .int .i64 0, .int .i64 0]) 3 24 Try.underlying56 hi0 hz0 hz1 hz2 rfl (by decide) _ _ _ rfl RW.own ⟨s1, 0, none⟩ 1 1 [.int .i64 rt, .int .i64 r1, .int .i64 r2] rfl rfl TB.c ?c2 ?c3 ?c4 ?c5 ?_) | go_in)
      case c2 => first | (simp [Value.oneCell']; done) | (intro u hu; simp at hu; rcases hu with rfl | rfl | rfl <;> rfl)
      case c3 => unfold maxLen; omega
      case c4 => omega
      case c5 => exact RW.b.size
      intro v9 w9 hown9 hgrow9 _
      have RR := RW.grown hgrow9 hown9
      go_wp2_with fail
      go_meet
      have e9 := rcv_ins rs k ⟨rt, r1, r2⟩
      exact ⟨by rw [← e9]; exact RR.own, RR.b⟩
  case rest =>
  obtain ⟨hown, hbx⟩ := hcut
  obtain ⟨Ga, hGa⟩ : ∃ x, x = wc := ⟨_, rfl⟩
  rw [← hGa] at hown hbx ⊢
  clear hGa wc HS18 v0 v1 v2 hzq
  have x0 := keepB hbx lx x0
  have x1 := keepB hbx lx x1
  have lx := Nat.lt_of_lt_of_le lx hbx.size
  have bw2 := bw.trans (hbx.mono bw.size)
  have RW : RwA Fa Ga u23 (k + 2) (rcv (insR rs k ⟨rt, r1, r2⟩) (k + 2)) := ⟨hown, hbx⟩
  have bwF := bw.size
  clear hown hbx bw
  have tt : ((k : Int) + 1).toNat = k + 1 := t1
  go_wp2_with (first | (at_builtin; refine wpList_append_own _ rfl _ _ 56 rfl Fa.heap.size 60 i0' (.agg #[.int .i64 0, .int .i64 0, .int .i64 0]) 3 24 Try.underlying56 hi0 hz0 hz1 hz2 rfl (by decide) _ _ _ rfl RW.own ⟨b, off + (k + 1) * 3, none⟩ (n - (k + 1)) (cap - (k + 1)) (rcv (fun j => rs (k + 1 + j)) (n - (k + 1))) rfl (rcv_len _ _) (recs_news ((HC.out Ga bw2).shift (by omega)) (Nat.le_refl _)) (rcv_one _ _) ?c3 ?c4 ?c5 ?_) | go_in)
  case c3 => unfold maxLen; omega
  case c4 => omega
  case c5 => exact RW.b.size
  intro v9 w9 hown9 hgrow9 _
  have RR := RW.grown hgrow9 hown9
  have b9 : Below Fa.heap.size Ga w9 := Below.grown (Below.refl Fa.heap.size Ga) hgrow9 RW.b.size (fun k hk => (RW.own.lt k hk).1)
  have x0 := keepB b9 lxF x0
  have x1 := keepB b9 lxF x1
  have lx := Nat.lt_of_lt_of_le lx b9.size
  have bw := bw2.trans (b9.mono bwF)
  have ho : w9.ownsRow Fa.heap.size 60 3 v9 (k + 2 + (n - (k + 1))) (rcv (insR rs k ⟨rt, r1, r2⟩) (k + 2 + (n - (k + 1)))) := by rw [← rcv_rest]; exact RR.own
  obtain ⟨a4, c4, rfl, h4⟩ := own_recs60 ho (by omega)
  have HS5 := Lib.hid (Sum_any a4 (k + 2 + (n - (k + 1))) c4 (insR rs k ⟨rt, r1, r2⟩) en sl w9 (by omega) h4)
  have hIn : smE (k + 2 + (n - (k + 1))) (insR rs k ⟨rt, r1, r2⟩) en sl = 0 ∧ xl ≤ smL (k + 2 + (n - (k + 1))) (insR rs k ⟨rt, r1, r2⟩) en sl ∧ smH (k + 2 + (n - (k + 1))) (insR rs k ⟨rt, r1, r2⟩) en sl ≤ xh := by
    have h9 := HIns.out
    rw [show n + 1 = k + 2 + (n - (k + 1)) by omega, ← HXL.out.1, ← HXL.out.2] at h9
    exact h9
  have hv9 := (sum_valid hIn.1).2.1
  rw [hIn.1] at HS5
  have hIn2 := hIn.2
  clear hIn h4 ho RR hown9 hgrow9 b9 RW HIns bw2 HC
  generalize smL (k + 2 + (n - (k + 1))) (insR rs k ⟨rt, r1, r2⟩) en sl = dl at *
  generalize smH (k + 2 + (n - (k + 1))) (insR rs k ⟨rt, r1, r2⟩) en sl = dh at *
  have HL3 := Lib.hid (fun W => lies_true dl dh xl xh W hv9 hIn2.1 hIn2.2)
  clear hIn2 hv9
  generalize k + 2 + (n - (k + 1)) = mm at *
  go_wp2_with fail
  refine (HS5.out).mono ?_; rintro e Ha ⟨rfl, hb1⟩
  have x0 := keepB hb1 lx x0
  have x1 := keepB hb1 lx x1
  have lx := Nat.lt_of_lt_of_le lx hb1.size
  have bw2 := bw.trans (hb1.mono bw.size)
  clear hb1 bw HS5
  have bb := below_alloc Ha (.cells #[.int .i64 dl, .int .i64 dh] 24)
  have x0 := keepB bb lx x0
  have x1 := keepB bb lx x1
  have lx := Nat.lt_of_lt_of_le lx bb.size
  have u0 : (Ha.alloc (.cells #[.int .i64 dl, .int .i64 dh] 24)).cell? ⟨Ha.heap.size, 0, none⟩ = some (.int .i64 dl) := alloc_new rfl rfl
  have u1 : (Ha.alloc (.cells #[.int .i64 dl, .int .i64 dh] 24)).cell? ⟨Ha.heap.size, 1, none⟩ = some (.int .i64 dh) := alloc_new rfl rfl
  have ld : Ha.heap.size < (Ha.alloc (.cells #[.int .i64 dl, .int .i64 dh] 24)).heap.size := by rw [World.size_alloc]; omega
  have bw2' := bw2.trans (bb.mono bw2.size)
  obtain ⟨qd, hq⟩ : ∃ q, q = Ha.heap.size := ⟨_, rfl⟩
  obtain ⟨Ia, hG⟩ : ∃ D, D = Ha.alloc (.cells #[.int .i64 dl, .int .i64 dh] 24) := ⟨_, rfl⟩
  rw [← hG, ← hq] at u0 u1 ld
  rw [← hG] at bw2' x0 x1 lx
  clear bb bw2
  have bw2 := bw2'
  clear bw2'
  go_upto_region 20 with fail
  rw [← hG]
  try rw [← hq]
  clear hG hq
  go_wp2_with fail
  refine (HL3.out _).mono ?_; rintro e Ja ⟨rfl, hb1⟩
  have bw := bw2.trans (hb1.mono bw2.size)
  clear hb1 bw2 u0 u1 x0 x1 HL3
  go_wp2_with fail
  refine (works_any _).mono ?_; rintro e X ⟨rfl, hbX⟩
  have bX := bw.trans (hbX.mono bw.size)
  go_wp2
  go_ret
  exact ⟨rfl, bX⟩

set_option maxRecDepth 100000 in
set_option maxHeartbeats 3200000 in
theorem RainAdds_big (a : Option Addr) (n cap : Nat) (en sl : Int) (ak m0 m1 m2 lo : Int) (w : World) (hn : 40 < n) (hm : n ≤ maxLen) :
    Calls Try.prog 10 #[.slice a n cap, .int .i64 en, .int .i64 sl, .int .u8 ak, .agg #[.int .u32 m0, .int .u32 m1, .int .u32 m2], .int .u16 lo] w fun e w' => e = .returned (.bool true) ∧ Below w.heap.size w w' := by
  unfold maxLen at hm
  have d1 : decide (40 < (n : Int)) = true := decide_eq_true (by omega)
  obtain ⟨A, hA⟩ : ∃ A, A = w.alloc (.cells #[.int .u32 m0, .int .u32 m1, .int .u32 m2] 106) := ⟨_, rfl⟩
  have bA : Below w.heap.size w A := by rw [hA]; exact below_alloc _ _
  go_enter Try.func10, Try.ntmps10
  go_wp2_with fail
  rw [← hA]
  clear hA
  refine (works_any _).mono ?_; rintro e X ⟨rfl, hbX⟩
  have bX := bA.trans (hbX.mono bA.size)
  go_wp2
  go_ret
  exact ⟨rfl, bX⟩
set_option maxRecDepth 100000 in
set_option maxHeartbeats 3200000 in
theorem RainAdds_err (a : Option Addr) (n cap : Nat) (rs : Nat → Rc) (en sl : Int) (ak m0 m1 m2 lo : Int) (w : World) (hn : n ≤ 40) (hr : RecsIs w a n rs) (h : smE n rs en sl ≠ 0) :
    Calls Try.prog 10 #[.slice a n cap, .int .i64 en, .int .i64 sl, .int .u8 ak, .agg #[.int .u32 m0, .int .u32 m1, .int .u32 m2], .int .u16 lo] w fun e w' => e = .returned (.bool true) ∧ Below w.heap.size w w' := by
  have d1 : decide (40 < (n : Int)) = false := decide_eq_false (by omega)
  have HS1 := Lib.hid (fun W (hW : Below w.heap.size w W) => Sum_any a n cap rs en sl W (by omega) (hr.keep hW))
  have hne : (smE n rs en sl != 0) = true := bne_iff_ne.2 h
  have hne2 : (smE n rs en sl == 0) = false := beq_eq_false_iff_ne.2 h
  clear hr h
  generalize smE n rs en sl = e0 at *
  generalize smL n rs en sl = xl at *
  generalize smH n rs en sl = xh at *
  obtain ⟨A, hA⟩ : ∃ A, A = w.alloc (.cells #[.int .u32 m0, .int .u32 m1, .int .u32 m2] 106) := ⟨_, rfl⟩
  have bA : Below w.heap.size w A := by rw [hA]; exact below_alloc _ _
  go_enter Try.func10, Try.ntmps10
  go_wp2_with fail
  rw [← hA]
  clear hA
  refine (HS1.out A bA).mono ?_; rintro e C ⟨rfl, hb1⟩
  have bC := bA.trans (hb1.mono bA.size)
  have bD := bC.trans ((below_alloc C (.cells #[.int .i64 xl, .int .i64 xh] 24)).mono bC.size)
  obtain ⟨D, hD⟩ : ∃ D, D = C.alloc (.cells #[.int .i64 xl, .int .i64 xh] 24) := ⟨_, rfl⟩
  rw [← hD] at bD
  clear hb1 bC bA HS1
  go_wp2_with fail
  rw [← hD]
  clear hD
  refine (works_any _).mono ?_; rintro e X ⟨rfl, hbX⟩
  have bX := bD.trans (hbX.mono bD.size)
  go_wp2
  go_ret
  exact ⟨rfl, bX⟩
theorem RainAdds_walk (a : Option Addr) (n cap : Nat) (rs : Nat → Rc) (en sl ak m0 m1 m2 lo : Int) (w : World) (hc : n ≤ cap ∧ cap ≤ maxLen) (hr : RecsIs w a n rs) (we : (Lit.int .i64 en).wf = true) (ws : (Lit.int .i64 sl).wf = true) (wa : (Lit.int .u8 ak).wf = true) (hm0 : 0 ≤ m0 ∧ m0 < 4294967296) (hm1 : 0 ≤ m1 ∧ m1 < 4294967296) (hm2 : 0 ≤ m2 ∧ m2 < 4294967296) (wl : (Lit.int .u16 lo).wf = true) :
    Calls Try.prog 10 #[.slice a n cap, .int .i64 en, .int .i64 sl, .int .u8 ak, .agg #[.int .u32 m0, .int .u32 m1, .int .u32 m2], .int .u16 lo] w fun e w' => e = .returned (.bool true) ∧ Below w.heap.size w w' := by
  by_cases h : 40 < n
  · exact RainAdds_big a n cap en sl ak m0 m1 m2 lo w h (Nat.le_trans hc.1 hc.2)
  by_cases he : smE n rs en sl = 0
  · have hn := (sm_ok he).1.n1
    have ha : 0 ≤ ak ∧ ak < 256 := by
      have h1 : (decide (IntKind.u8.min ≤ ak) && decide (ak ≤ IntKind.u8.max)) = true := wa
      rw [Bool.and_eq_true, decide_eq_true_eq, decide_eq_true_eq, show IntKind.u8.min = 0 by decide, show IntKind.u8.max = 255 by decide] at h1
      omega
    have hl : 0 ≤ lo ∧ lo < 65536 := by
      have h1 : (decide (IntKind.u16.min ≤ lo) && decide (lo ≤ IntKind.u16.max)) = true := wl
      rw [Bool.and_eq_true, decide_eq_true_eq, decide_eq_true_eq, show IntKind.u16.min = 0 by decide, show IntKind.u16.max = 65535 by decide] at h1
      omega
    rcases hr with h0 | ⟨b, off, rfl, hb, hs⟩
    · omega
    exact RainAdds_ok b off n cap rs en sl ak m0 m1 m2 lo w (by omega) hc.1 hc.2 hs hb ha hm0 hm1 hm2 hl he
  · exact RainAdds_err a n cap rs en sl ak m0 m1 m2 lo w (by omega) hr he

end Go.Proofs.Ytdmbkhmhaininaa
