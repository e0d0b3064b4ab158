/-
  RainPasses, walked.
-/
import Derived.Test.YtdmbkhmhaininaaWK
import Derived.Test.YtdmbkhmhaininaaDI
import Derived.Test.YtdmbkhmhaininaaDS
import Derived.Test.YtdmbkhmhaininaaSF
import Derived.Test.YtdmbkhmhaininaaY0
import Derived.Deep.Cut
import Derived.Deep.CutRange
namespace Go.Proofs.Ytdmbkhmhaininaa
open Go.RowKit
set_option linter.unusedVariables false
set_option linter.unusedSimpArgs false

set_option maxRecDepth 100000 in
set_option maxHeartbeats 6400000 in
theorem RainPasses_big (pa : Option Addr) (pn pc : Nat) (na : Option Addr) (nn nc : Nat) (sa : Option Addr) (sn sc : Nat) (th lo hi : Int) (w : World) (hb : pn ≤ maxLen ∧ nn ≤ maxLen ∧ sn ≤ maxLen) (h : 100 < pn ∨ 300 < nn ∨ 300 < sn) :
    Calls Try.prog 4 #[.slice pa pn pc, .slice na nn nc, .slice sa sn sc, .int .i64 th, .agg #[.int .i64 lo, .int .i64 hi]] w fun e w' => e = .returned (.bool true) ∧ Below w.heap.size w w' := by
  unfold maxLen at hb
  obtain ⟨A, hA⟩ : ∃ A, A = w.alloc (.cells #[.int .i64 lo, .int .i64 hi] 24) := ⟨_, rfl⟩
  have bA : Below w.heap.size w A := by rw [hA]; exact below_alloc _ _
  by_cases h1 : 100 < pn
  · have d1 : decide (100 < (pn : Int)) = true := decide_eq_true (by omega)
    clear h
    go_enter Try.func4, Try.ntmps4
    go_wp2_with fail
    rw [← hA]
    clear hA
    refine (works_any _).mono ?_; rintro e X ⟨rfl, hbX⟩
    have bX := bA.trans (hbX.mono bA.size)
    go_wp2
    go_ret
    exact ⟨rfl, bX⟩
  have d1 : decide (100 < (pn : Int)) = false := decide_eq_false (by omega)
  by_cases h2 : 300 < nn
  · have d2 : decide (300 < (nn : Int)) = true := decide_eq_true (by omega)
    clear h
    go_enter Try.func4, Try.ntmps4
    go_wp2_with fail
    rw [← hA]
    clear hA
    refine (works_any _).mono ?_; rintro e X ⟨rfl, hbX⟩
    have bX := bA.trans (hbX.mono bA.size)
    go_wp2
    go_ret
    exact ⟨rfl, bX⟩
  · have d2 : decide (300 < (nn : Int)) = false := decide_eq_false (by omega)
    have d3 : decide (300 < (sn : Int)) = true := decide_eq_true (by omega)
    clear h
    go_enter Try.func4, Try.ntmps4
    go_wp2_with fail
    rw [← hA]
    clear hA
    refine (works_any _).mono ?_; rintro e X ⟨rfl, hbX⟩
    have bX := bA.trans (hbX.mono bA.size)
    go_wp2
    go_ret
    exact ⟨rfl, bX⟩

set_option maxRecDepth 100000 in
set_option maxHeartbeats 12800000 in
theorem RainPasses_few (pa : Option Addr) (pn pc : Nat) (na : Option Addr) (nn nc : Nat) (sa : Option Addr) (sn sc : Nat) (th lo hi : Int) (pz : Nat → Int × Int) (nz : Nat → Int) (sz : Nat → Int × Int) (w : World) (h1 : pn ≤ 100) (h2 : nn ≤ 300) (h3 : sn ≤ 300) (hp : SliceIs w pa pn pc pz) (hn : PowIs w na nn nz) (hs : SliceIs w sa sn sc sz) :
    Calls Try.prog 4 #[.slice pa pn pc, .slice na nn nc, .slice sa sn sc, .int .i64 th, .agg #[.int .i64 lo, .int .i64 hi]] w fun e w' => e = .returned (.bool true) ∧ Below w.heap.size w w' := by
  have d1 : decide (100 < (pn : Int)) = false := decide_eq_false (by omega)
  have d2 : decide (300 < (nn : Int)) = false := decide_eq_false (by omega)
  have d3 : decide (300 < (sn : Int)) = false := decide_eq_false (by omega)
  have hmx : (300 : Nat) ≤ maxLen := by decide
  have HP := Lib.hid (fun W (hW : Below w.heap.size w W) => Pass_any pa pn pc pz na nn nc nz W (by omega) (hp.keep hW) (hn.keep hW))
  have HQ := Lib.hid (fun (a : Option Addr) (c : Nat) W (hW : Below w.heap.size w W) (h : SliceIs W a pn c pz) => refPass_any a pn c pz na nn nc nz W h (hn.keep hW))
  have HR := Lib.hid (fun W (hW : Below w.heap.size w W) => Restore_any pa pn pc pz sa sn sc sz W (by omega) (hp.keep hW) (hs.keep hW))
  have HT := Lib.hid (fun (a : Option Addr) (c : Nat) W (hW : Below w.heap.size w W) (h : SliceIs W a pn c pz) => refRestore_any a pn c pz sa sn sc sz W h (hs.keep hW))
  have HO := Lib.hid (fun W (hW : Below w.heap.size w W) => points_any pa pn pc pz W (by omega) (hp.keep hW))
  have HSz := Lib.hid hs
  have o1 : outN (passC pn pz nn nz) nn ≤ 100000 := by unfold outN; split <;> omega
  have o2 : outN (rstC pn pz sn sz) sn ≤ 100000 := by unfold outN; split <;> omega
  have HS1 := Lib.hid (fun (a b : Option Addr) (c1 c2 : Nat) W (h1 : SliceIs W a _ c1 _) (h2 : SliceIs W b _ c2 _) => same_any a b (outN (passC pn pz nn nz) nn) c1 c2 (mesOf pn pz nz) W o1 h1 h2)
  have HS2 := Lib.hid (fun (a b : Option Addr) (c1 c2 : Nat) W (h1 : SliceIs W a _ c1 _) (h2 : SliceIs W b _ c2 _) => same_any a b (outN (rstC pn pz sn sz) sn) c1 c2 (rstOf pn pz sz) W o2 h1 h2)
  unfold SpTup at HP HQ HR HT
  generalize outN (passC pn pz nn nz) nn = on at *
  generalize outN (rstC pn pz sn sz) sn = om at *
  generalize passC pn pz nn nz = pe at *
  generalize rstC pn pz sn sz = re at *
  generalize mesOf pn pz nz = ys at *
  generalize rstOf pn pz sz = xs at *
  clear hp hn hs o1 o2 h1 h2
  obtain ⟨A, hA⟩ : ∃ A, A = w.alloc (.cells #[.int .i64 lo, .int .i64 hi] 24) := ⟨_, rfl⟩
  have bA : Below w.heap.size w A := by rw [hA]; exact below_alloc _ _
  have c2 : A.cell? ⟨w.heap.size, 0, none⟩ = some (.int .i64 lo) := by rw [hA]; exact alloc_new rfl rfl
  have c3 : A.cell? ⟨w.heap.size, 1, none⟩ = some (.int .i64 hi) := by rw [hA]; exact alloc_new rfl rfl
  have lA : w.heap.size < A.heap.size := by rw [hA, World.size_alloc]; omega
  go_enter Try.func4, Try.ntmps4
  go_wp2_with fail
  rw [← hA]
  clear hA d1 d2 d3
  refine (HP.out _ bA).mono ?_; rintro e B ⟨a1, k1, rfl, s1, b1⟩
  have T1 := Lib.hid s1
  have bB := Lib.hid b1
  clear s1 b1 HP
  go_wp2_with fail
  refine (HO.out _ (bA.trans (bB.out.mono bA.size))).mono ?_; rintro e C ⟨a2, k2, rfl, s2, b2⟩
  have T1 := Lib.hid (T1.out.keep b2)
  have T2 := Lib.hid s2
  have bC := Lib.hid (bB.out.trans (b2.mono bB.out.size))
  clear s2 b2 bB
  go_wp2_with fail
  refine (HQ.out _ _ _ (bA.trans (bC.out.mono bA.size)) T2.out).mono ?_; rintro e D ⟨a3, k3, rfl, s3, b3⟩
  have T1 := Lib.hid (T1.out.keep b3)
  have T3 := Lib.hid s3
  have bD := Lib.hid (bC.out.trans (b3.mono bC.out.size))
  clear s3 b3 bC T2 HQ
  go_wp2_with fail
  refine (HR.out _ (bA.trans (bD.out.mono bA.size))).mono ?_; rintro e E ⟨a4, k4, rfl, s4, b4⟩
  have T1 := Lib.hid (T1.out.keep b4)
  have T3 := Lib.hid (T3.out.keep b4)
  have T4 := Lib.hid s4
  have bE := Lib.hid (bD.out.trans (b4.mono bD.out.size))
  clear s4 b4 bD HR
  go_wp2_with fail
  refine (HO.out _ (bA.trans (bE.out.mono bA.size))).mono ?_; rintro e F ⟨a5, k5, rfl, s5, b5⟩
  have T1 := Lib.hid (T1.out.keep b5)
  have T3 := Lib.hid (T3.out.keep b5)
  have T4 := Lib.hid (T4.out.keep b5)
  have T5 := Lib.hid s5
  have bF := Lib.hid (bE.out.trans (b5.mono bE.out.size))
  clear s5 b5 bE HO
  go_wp2_with fail
  refine (HT.out _ _ _ (bA.trans (bF.out.mono bA.size)) T5.out).mono ?_; rintro e G ⟨a6, k6, rfl, s6, b6⟩
  have T1 := Lib.hid (T1.out.keep b6)
  have T3 := Lib.hid (T3.out.keep b6)
  have T4 := Lib.hid (T4.out.keep b6)
  have T6 := Lib.hid s6
  have bG := Lib.hid (bF.out.trans (b6.mono bF.out.size))
  clear s6 b6 bF T5 HT
  go_wp2_with fail
  refine (HS1.out _ _ _ _ _ T1.out T3.out).mono ?_; rintro e J ⟨rfl, b7⟩
  have T4 := Lib.hid (T4.out.keep b7)
  have T6 := Lib.hid (T6.out.keep b7)
  have bJ := Lib.hid (bG.out.trans (b7.mono bG.out.size))
  clear b7 bG T1 T3 HS1
  go_wp2_with fail
  refine (HS2.out _ _ _ _ _ T4.out T6.out).mono ?_; rintro e L ⟨rfl, b8⟩
  have bL := Lib.hid (bJ.out.trans (b8.mono bJ.out.size))
  clear b8 bJ T4 T6 HS2
  have HA := Lib.hid (And.intro c2 (And.intro c3 lA))
  clear c2 c3 lA
  go_wp2
  go_loopw [19] (fun i wr => ∃ k : Nat, k ≤ sn ∧ k ≤ 5 ∧ i = .int .i64 k ∧ Below A.heap.size A wr) (fun i _ => 5 - (intOf i).toNat)
  case atStart => exact ⟨0, Nat.zero_le _, by omega, rfl, bL.out⟩
  case round =>
    clear bL
    obtain ⟨k, hk, hk5, rfl, hbw⟩ := hrel
    by_cases hlt : k < sn ∧ k < 5
    · obtain ⟨hl1, hl2⟩ := hlt
      rcases HSz.out with h9 | ⟨sb, soff, rfl, lsb, hss⟩
      · omega
      have bw := bA.trans (hbw.mono bA.size)
      have c0 := keepB bw lsb (hss k hl1).1
      have c1 := keepB bw lsb (hss k hl1).2
      have c2 := keepB hbw HA.out.2.2 HA.out.1
      have c3 := keepB hbw HA.out.2.2 HA.out.2.1
      have lA := HA.out.2.2
      have lAr := hbw.size
      have lsr : sb < wr.heap.size := Nat.lt_of_lt_of_le lsb bw.size
      have lwr : w.heap.size < wr.heap.size := by omega
      have q0 : (0 : Int) ≤ (k : Int) := by omega
      have q1 : (k : Int) < (sn : Int) := by omega
      have q2 : (k : Int) < 5 := by omega
      have dd1 : decide ((k : Int) < (sn : Int)) = true := decide_eq_true q1
      have dd2 : decide ((k : Int) < 5) = true := decide_eq_true q2
      have HF := Lib.hid (fun W => Fill_any (sz k).1 (sz k).2 th lo hi W)
      have HG := Lib.hid (fun W => refFill_any (sz k).1 (sz k).2 th lo hi W)
      have HW := Lib.hid hbw
      clear hss bw hbw
      generalize fiLo (sz k).1 (sz k).2 th lo hi = fl at *
      generalize fiHi (sz k).1 (sz k).2 th lo hi = fh at *
      generalize fiE (sz k).1 (sz k).2 th lo hi = fe at *
      generalize (sz k).1 = z1 at *
      generalize (sz k).2 = z2 at *
      go_upto_region 12 with fail
      have HS := Lib.hid (show (fun w' : World => w'.cell? ⟨sb, soff + k * 2, none⟩ = some (.int .i64 z1) ∧ w'.cell? ⟨sb, soff + k * 2 + 1, none⟩ = some (.int .i64 z2) ∧ w'.cell? ⟨w.heap.size, 0, none⟩ = some (.int .i64 lo) ∧ w'.cell? ⟨w.heap.size, 1, none⟩ = some (.int .i64 hi) ∧ Below wr.heap.size wr w') wr.drew from ⟨c0, c1, c2, c3, (Below.refl _ _).drew⟩)
      go_cut [20, 21] from 84 to 121 (fun a b wQ => ∃ q : Nat, a = .pointer (some ⟨q, 0, none⟩) ∧ b = .int .i64 fe ∧ NS wr wQ q fl fh)
      case first =>
        refine wp_region_held_tail (S := (fun w' : World => w'.cell? ⟨sb, soff + k * 2, none⟩ = some (.int .i64 z1) ∧ w'.cell? ⟨sb, soff + k * 2 + 1, none⟩ = some (.int .i64 z2) ∧ w'.cell? ⟨w.heap.size, 0, none⟩ = some (.int .i64 lo) ∧ w'.cell? ⟨w.heap.size, 1, none⟩ = some (.int .i64 hi) ∧ Below wr.heap.size wr w')) 12 (by kernel_rfl) (by kernel_rfl) HS.out (fun hHeld => ?_)
        obtain ⟨D, hD⟩ : ∃ D, D = wr.drew := ⟨_, rfl⟩
        rw [← hD] at hHeld ⊢
        clear hD
        refine wpAnyH_take (i := 0) (v := ?v0_1) rfl (by kernel_rfl) (by kernel_rfl) (by kernel_rfl) (fun _ _ _ h => h) (Or.inl ⟨by rfl, ?hy0_1⟩) (by assumption) ?rest0_1
        case hy0_1 => (intro w hSw; (try dsimp only at hSw); go_simp; (try with_reducible rfl))
        try simp only [Act.put, List.getElem_toArray, List.getElem_cons_zero, List.getElem_cons_succ, List.setIfInBounds_toArray, List.set_cons_zero, List.set_cons_succ]
        refine wpAnyH_take (i := 1) (v := ?v1_2) rfl (by kernel_rfl) (by kernel_rfl) (by kernel_rfl) (fun _ _ _ h => h) (Or.inl ⟨by rfl, ?hy1_2⟩) (by assumption) ?rest1_2
        case hy1_2 => (intro w hSw; (try dsimp only at hSw); go_simp; (try with_reducible rfl))
        try simp only [Act.put, List.getElem_toArray, List.getElem_cons_zero, List.getElem_cons_succ, List.setIfInBounds_toArray, List.set_cons_zero, List.set_cons_succ]
        refine wpAnyH_take (i := 2) (v := ?v2_3) rfl (by kernel_rfl) (by kernel_rfl) (by kernel_rfl) (fun _ _ _ h => h) (Or.inl ⟨by rfl, ?hy2_3⟩) (by assumption) ?rest2_3
        case hy2_3 => (intro w hSw; (try dsimp only at hSw); go_simp; (try with_reducible rfl))
        try simp only [Act.put, List.getElem_toArray, List.getElem_cons_zero, List.getElem_cons_succ, List.setIfInBounds_toArray, List.set_cons_zero, List.set_cons_succ]
        refine wpAnyH_take (i := 3) (v := ?v3_4) rfl (by kernel_rfl) (by kernel_rfl) (by kernel_rfl) (fun _ _ _ h => h) (Or.inl ⟨by rfl, ?hy3_4⟩) (by assumption) ?rest3_4
        case hy3_4 => (intro w hSw; (try dsimp only at hSw); go_simp; (try with_reducible rfl))
        try simp only [Act.put, List.getElem_toArray, List.getElem_cons_zero, List.getElem_cons_succ, List.setIfInBounds_toArray, List.set_cons_zero, List.set_cons_succ]
        refine wpAnyH_take (i := 4) (v := ?v4_5) rfl (by kernel_rfl) (by kernel_rfl) (by kernel_rfl) (fun _ _ _ h => h) (Or.inl ⟨by rfl, ?hy4_5⟩) (by assumption) ?rest4_5
        case hy4_5 => (intro w hSw; (try dsimp only at hSw); go_simp; (try with_reducible rfl))
        try simp only [Act.put, List.getElem_toArray, List.getElem_cons_zero, List.getElem_cons_succ, List.setIfInBounds_toArray, List.set_cons_zero, List.set_cons_succ]
        refine wpAnyH_take (i := 5) (v := ?v5_6) rfl (by kernel_rfl) (by kernel_rfl) (by kernel_rfl) (fun _ _ _ h => h) (Or.inl ⟨by rfl, ?hy5_6⟩) (by assumption) ?rest5_6
        case hy5_6 => (intro w hSw; (try dsimp only at hSw); go_simp; (try with_reducible rfl))
        try simp only [Act.put, List.getElem_toArray, List.getElem_cons_zero, List.getElem_cons_succ, List.setIfInBounds_toArray, List.set_cons_zero, List.set_cons_succ]
        refine wpAnyH_ready (rs := [6, 10]) (by kernel_rfl) (by simp) ?_
        refine AllReadyH.cons rfl (fun K hK => ?_) (AllReadyH.cons rfl (fun K hK => ?_) AllReadyH.nil)
        · skip
          go_simp
          go_at_call 28; refine (HF.out _).mono ?_; rintro e' W1 ⟨rfl, hb'⟩
          refine hK.out _ _ (⟨keepW hb' hHeld.1, keepW hb' hHeld.2.1, keepW hb' hHeld.2.2.1, keepW hb' hHeld.2.2.2.1, hHeld.2.2.2.2.trans (hb'.mono hHeld.2.2.2.2.size)⟩) (fun hHeld2 => ?_)
          clear hK K hHeld hb'
          have hHeld := hHeld2
          clear hHeld2
          try simp only [Act.put, List.getElem_toArray, List.getElem_cons_zero, List.getElem_cons_succ, List.setIfInBounds_toArray, List.set_cons_zero, List.set_cons_succ]
          refine wpAnyH_take (i := 7) (v := ?v7_7) rfl (by kernel_rfl) (by kernel_rfl) (by kernel_rfl) (fun _ _ _ h => h) (Or.inl ⟨by rfl, ?hy7_7⟩) (by assumption) ?rest7_7
          case hy7_7 => (intro w hSw; (try dsimp only at hSw); go_simp; (try with_reducible rfl))
          try simp only [Act.put, List.getElem_toArray, List.getElem_cons_zero, List.getElem_cons_succ, List.setIfInBounds_toArray, List.set_cons_zero, List.set_cons_succ]
          refine wpAnyH_take (i := 8) (v := ?v8_8) rfl (by kernel_rfl) (by kernel_rfl) (by kernel_rfl) (fun _ _ _ h => h) (Or.inl ⟨by rfl, ?hy8_8⟩) (by assumption) ?rest8_8
          case hy8_8 => (intro w hSw; (try dsimp only at hSw); go_simp; (try with_reducible rfl))
          try simp only [Act.put, List.getElem_toArray, List.getElem_cons_zero, List.getElem_cons_succ, List.setIfInBounds_toArray, List.set_cons_zero, List.set_cons_succ]
          refine wpAnyH_take (i := 9) (v := ?v9_9) rfl (by kernel_rfl) (by kernel_rfl) (by kernel_rfl) (fun _ _ _ h => h) (Or.inl ⟨by rfl, ?hy9_9⟩) (by assumption) ?rest9_9
          case hy9_9 => (intro w hSw; (try dsimp only at hSw); go_simp; (try with_reducible rfl))
          try simp only [Act.put, List.getElem_toArray, List.getElem_cons_zero, List.getElem_cons_succ, List.setIfInBounds_toArray, List.set_cons_zero, List.set_cons_succ]
          refine wpAnyH_ready (rs := [10]) (by kernel_rfl) (by simp) ?_
          refine AllReadyH.cons rfl (fun K hK => ?_) AllReadyH.nil
          go_simp
          have pq := SpB.new W1
          have zq : W1.heap.size < (W1.alloc (.cells #[.int .i64 0, .int .i64 0] 24)).heap.size := by rw [World.size_alloc]; omega
          have lq : wr.heap.size ≤ W1.heap.size := hHeld.2.2.2.2.size
          have hb' : Below W1.heap.size W1 (W1.alloc (.cells #[.int .i64 0, .int .i64 0] 24)) := below_alloc _ _
          obtain ⟨q, hq⟩ : ∃ q, q = W1.heap.size := ⟨_, rfl⟩
          obtain ⟨W2, hF⟩ : ∃ F, F = W1.alloc (.cells #[.int .i64 0, .int .i64 0] 24) := ⟨_, rfl⟩
          rw [← hF, ← hq] at pq zq
          rw [← hq] at lq
          rw [← hF] at hb' ⊢
          rw [← hq]
          refine hK.out _ _ (⟨keepW hb' hHeld.1, keepW hb' hHeld.2.1, keepW hb' hHeld.2.2.1, keepW hb' hHeld.2.2.2.1, hHeld.2.2.2.2.trans (hb'.mono hHeld.2.2.2.2.size)⟩) (fun hHeld2 => ?_)
          clear hK K hHeld hb' hF hq
          have hHeld := hHeld2
          clear hHeld2
          try simp only [Act.put, List.getElem_toArray, List.getElem_cons_zero, List.getElem_cons_succ, List.setIfInBounds_toArray, List.set_cons_zero, List.set_cons_succ]
          refine wpAnyH_ready (rs := [11]) (by kernel_rfl) (by simp) ?_
          refine AllReadyH.cons rfl (fun K hK => ?_) AllReadyH.nil
          obtain ⟨oc0, oc1, of0, of1⟩ := pq
          go_simp
          have bZ : Below wr.heap.size wr ((W2.setCell ⟨q, 0, none⟩ (.int .i64 fl)).setCell ⟨q, 1, none⟩ (.int .i64 fh)) := ((hHeld.2.2.2.2.setCell (p := ⟨q, 0, none⟩) (by dsimp only; omega) _).setCell (p := ⟨q, 1, none⟩) (by dsimp only; omega) _)
          have bS : Below q W2 ((W2.setCell ⟨q, 0, none⟩ (.int .i64 fl)).setCell ⟨q, 1, none⟩ (.int .i64 fh)) := (((Below.refl q W2).setCell (p := ⟨q, 0, none⟩) (Nat.le_refl _) _).setCell (p := ⟨q, 1, none⟩) (Nat.le_refl _) _)
          have pq := SpB.put (u := fl) (v := fh) (⟨oc0, oc1, of0, of1⟩)
          have zz : q < ((W2.setCell ⟨q, 0, none⟩ (.int .i64 fl)).setCell ⟨q, 1, none⟩ (.int .i64 fh)).heap.size := by simp; exact zq
          obtain ⟨W3, hG⟩ : ∃ G, G = ((W2.setCell ⟨q, 0, none⟩ (.int .i64 fl)).setCell ⟨q, 1, none⟩ (.int .i64 fh)) := ⟨_, rfl⟩
          rw [← hG] at bZ bS pq zz ⊢
          refine hK.out _ _ (⟨keepB bS (by omega) hHeld.1, keepB bS (by omega) hHeld.2.1, keepB bS (by omega) hHeld.2.2.1, keepB bS (by omega) hHeld.2.2.2.1, bZ⟩) (fun hHeld2 => ?_)
          clear hK K hHeld hG bS zq oc0 of0 oc1 of1
          have hHeld := hHeld2
          clear hHeld2
          try simp only [Act.put, List.getElem_toArray, List.getElem_cons_zero, List.getElem_cons_succ, List.setIfInBounds_toArray, List.set_cons_zero, List.set_cons_succ]
          refine wpAnyH_done (by kernel_rfl) ?_ _
          change wpList _ _ _ _ _ _
          simp only [List.drop_succ_cons, List.drop_zero]
          go_wp2_with fail
          go_meet
          exact ⟨q, rfl, rfl, pq.c0, pq.c1, pq.f0, pq.f1, lq, zz, bZ⟩
        · skip
          go_simp
          have pq := SpB.new D
          have zq : D.heap.size < (D.alloc (.cells #[.int .i64 0, .int .i64 0] 24)).heap.size := by rw [World.size_alloc]; omega
          have lq : wr.heap.size ≤ D.heap.size := hHeld.2.2.2.2.size
          have hb' : Below D.heap.size D (D.alloc (.cells #[.int .i64 0, .int .i64 0] 24)) := below_alloc _ _
          obtain ⟨q, hq⟩ : ∃ q, q = D.heap.size := ⟨_, rfl⟩
          obtain ⟨W4, hF⟩ : ∃ F, F = D.alloc (.cells #[.int .i64 0, .int .i64 0] 24) := ⟨_, rfl⟩
          rw [← hF, ← hq] at pq zq
          rw [← hq] at lq
          rw [← hF] at hb' ⊢
          rw [← hq]
          refine hK.out _ _ (⟨keepW hb' hHeld.1, keepW hb' hHeld.2.1, keepW hb' hHeld.2.2.1, keepW hb' hHeld.2.2.2.1, hHeld.2.2.2.2.trans (hb'.mono hHeld.2.2.2.2.size)⟩) (fun hHeld2 => ?_)
          clear hK K hHeld hb' hF hq
          have hHeld := hHeld2
          clear hHeld2
          try simp only [Act.put, List.getElem_toArray, List.getElem_cons_zero, List.getElem_cons_succ, List.setIfInBounds_toArray, List.set_cons_zero, List.set_cons_succ]
          refine wpAnyH_ready (rs := [6]) (by kernel_rfl) (by simp) ?_
          refine AllReadyH.cons rfl (fun K hK => ?_) AllReadyH.nil
          go_simp
          go_at_call 28; refine (HF.out _).mono ?_; rintro e' W5 ⟨rfl, hb'⟩
          have pq := pq.keep hb' zq
          have zq := Nat.lt_of_lt_of_le zq hb'.size
          refine hK.out _ _ (⟨keepW hb' hHeld.1, keepW hb' hHeld.2.1, keepW hb' hHeld.2.2.1, keepW hb' hHeld.2.2.2.1, hHeld.2.2.2.2.trans (hb'.mono hHeld.2.2.2.2.size)⟩) (fun hHeld2 => ?_)
          clear hK K hHeld hb'
          have hHeld := hHeld2
          clear hHeld2
          try simp only [Act.put, List.getElem_toArray, List.getElem_cons_zero, List.getElem_cons_succ, List.setIfInBounds_toArray, List.set_cons_zero, List.set_cons_succ]
          refine wpAnyH_take (i := 7) (v := ?v7_10) rfl (by kernel_rfl) (by kernel_rfl) (by kernel_rfl) (fun _ _ _ h => h) (Or.inl ⟨by rfl, ?hy7_10⟩) (by assumption) ?rest7_10
          case hy7_10 => (intro w hSw; (try dsimp only at hSw); go_simp; (try with_reducible rfl))
          try simp only [Act.put, List.getElem_toArray, List.getElem_cons_zero, List.getElem_cons_succ, List.setIfInBounds_toArray, List.set_cons_zero, List.set_cons_succ]
          refine wpAnyH_take (i := 8) (v := ?v8_11) rfl (by kernel_rfl) (by kernel_rfl) (by kernel_rfl) (fun _ _ _ h => h) (Or.inl ⟨by rfl, ?hy8_11⟩) (by assumption) ?rest8_11
          case hy8_11 => (intro w hSw; (try dsimp only at hSw); go_simp; (try with_reducible rfl))
          try simp only [Act.put, List.getElem_toArray, List.getElem_cons_zero, List.getElem_cons_succ, List.setIfInBounds_toArray, List.set_cons_zero, List.set_cons_succ]
          refine wpAnyH_take (i := 9) (v := ?v9_12) rfl (by kernel_rfl) (by kernel_rfl) (by kernel_rfl) (fun _ _ _ h => h) (Or.inl ⟨by rfl, ?hy9_12⟩) (by assumption) ?rest9_12
          case hy9_12 => (intro w hSw; (try dsimp only at hSw); go_simp; (try with_reducible rfl))
          try simp only [Act.put, List.getElem_toArray, List.getElem_cons_zero, List.getElem_cons_succ, List.setIfInBounds_toArray, List.set_cons_zero, List.set_cons_succ]
          refine wpAnyH_ready (rs := [11]) (by kernel_rfl) (by simp) ?_
          refine AllReadyH.cons rfl (fun K hK => ?_) AllReadyH.nil
          obtain ⟨oc0, oc1, of0, of1⟩ := pq
          go_simp
          have bZ : Below wr.heap.size wr ((W5.setCell ⟨q, 0, none⟩ (.int .i64 fl)).setCell ⟨q, 1, none⟩ (.int .i64 fh)) := ((hHeld.2.2.2.2.setCell (p := ⟨q, 0, none⟩) (by dsimp only; omega) _).setCell (p := ⟨q, 1, none⟩) (by dsimp only; omega) _)
          have bS : Below q W5 ((W5.setCell ⟨q, 0, none⟩ (.int .i64 fl)).setCell ⟨q, 1, none⟩ (.int .i64 fh)) := (((Below.refl q W5).setCell (p := ⟨q, 0, none⟩) (Nat.le_refl _) _).setCell (p := ⟨q, 1, none⟩) (Nat.le_refl _) _)
          have pq := SpB.put (u := fl) (v := fh) (⟨oc0, oc1, of0, of1⟩)
          have zz : q < ((W5.setCell ⟨q, 0, none⟩ (.int .i64 fl)).setCell ⟨q, 1, none⟩ (.int .i64 fh)).heap.size := by simp; exact zq
          obtain ⟨W6, hG⟩ : ∃ G, G = ((W5.setCell ⟨q, 0, none⟩ (.int .i64 fl)).setCell ⟨q, 1, none⟩ (.int .i64 fh)) := ⟨_, rfl⟩
          rw [← hG] at bZ bS pq zz ⊢
          refine hK.out _ _ (⟨keepB bS (by omega) hHeld.1, keepB bS (by omega) hHeld.2.1, keepB bS (by omega) hHeld.2.2.1, keepB bS (by omega) hHeld.2.2.2.1, bZ⟩) (fun hHeld2 => ?_)
          clear hK K hHeld hG bS zq oc0 of0 oc1 of1
          have hHeld := hHeld2
          clear hHeld2
          try simp only [Act.put, List.getElem_toArray, List.getElem_cons_zero, List.getElem_cons_succ, List.setIfInBounds_toArray, List.set_cons_zero, List.set_cons_succ]
          refine wpAnyH_done (by kernel_rfl) ?_ _
          change wpList _ _ _ _ _ _
          simp only [List.drop_succ_cons, List.drop_zero]
          go_wp2_with fail
          go_meet
          exact ⟨q, rfl, rfl, pq.c0, pq.c1, pq.f0, pq.f1, lq, zz, bZ⟩
      case rest =>
      clear HS
      obtain ⟨q, rfl, rfl, hNS⟩ := hcut
      obtain ⟨wx, hwx⟩ : ∃ x, x = wc := ⟨_, rfl⟩
      rw [← hwx] at hNS ⊢
      clear hwx wc
      have c0 := keepB hNS.b lsr c0
      have c1 := keepB hNS.b lsr c1
      have c2 := keepB hNS.b lwr c2
      have c3 := keepB hNS.b lwr c3
      have lsr := Nat.lt_of_lt_of_le lsr hNS.b.size
      have lwr := Nat.lt_of_lt_of_le lwr hNS.b.size
      have HN := Lib.hid hNS
      obtain ⟨p, hp⟩ : ∃ p, p = q := ⟨_, rfl⟩
      rw [← hp] at HN ⊢
      clear hNS hp q
      go_upto_region 13 with fail
      have HS := Lib.hid (show (fun w' : World => w'.cell? ⟨sb, soff + k * 2, none⟩ = some (.int .i64 z1) ∧ w'.cell? ⟨sb, soff + k * 2 + 1, none⟩ = some (.int .i64 z2) ∧ w'.cell? ⟨w.heap.size, 0, none⟩ = some (.int .i64 lo) ∧ w'.cell? ⟨w.heap.size, 1, none⟩ = some (.int .i64 hi) ∧ Below wx.heap.size wx w') wx.drew from ⟨c0, c1, c2, c3, (Below.refl _ _).drew⟩)
      go_cut [22, 23] from 84 to 121 (fun a b wQ => ∃ q : Nat, a = .pointer (some ⟨q, 0, none⟩) ∧ b = .int .i64 fe ∧ NS wx wQ q fl fh)
      case first =>
        refine wp_region_held_tail (S := (fun w' : World => w'.cell? ⟨sb, soff + k * 2, none⟩ = some (.int .i64 z1) ∧ w'.cell? ⟨sb, soff + k * 2 + 1, none⟩ = some (.int .i64 z2) ∧ w'.cell? ⟨w.heap.size, 0, none⟩ = some (.int .i64 lo) ∧ w'.cell? ⟨w.heap.size, 1, none⟩ = some (.int .i64 hi) ∧ Below wx.heap.size wx w')) 12 (by kernel_rfl) (by kernel_rfl) HS.out (fun hHeld => ?_)
        obtain ⟨D, hD⟩ : ∃ D, D = wx.drew := ⟨_, rfl⟩
        rw [← hD] at hHeld ⊢
        clear hD
        refine wpAnyH_take (i := 0) (v := ?v0_13) rfl (by kernel_rfl) (by kernel_rfl) (by kernel_rfl) (fun _ _ _ h => h) (Or.inl ⟨by rfl, ?hy0_13⟩) (by assumption) ?rest0_13
        case hy0_13 => (intro w hSw; (try dsimp only at hSw); go_simp; (try with_reducible rfl))
        try simp only [Act.put, List.getElem_toArray, List.getElem_cons_zero, List.getElem_cons_succ, List.setIfInBounds_toArray, List.set_cons_zero, List.set_cons_succ]
        refine wpAnyH_take (i := 1) (v := ?v1_14) rfl (by kernel_rfl) (by kernel_rfl) (by kernel_rfl) (fun _ _ _ h => h) (Or.inl ⟨by rfl, ?hy1_14⟩) (by assumption) ?rest1_14
        case hy1_14 => (intro w hSw; (try dsimp only at hSw); go_simp; (try with_reducible rfl))
        try simp only [Act.put, List.getElem_toArray, List.getElem_cons_zero, List.getElem_cons_succ, List.setIfInBounds_toArray, List.set_cons_zero, List.set_cons_succ]
        refine wpAnyH_take (i := 2) (v := ?v2_15) rfl (by kernel_rfl) (by kernel_rfl) (by kernel_rfl) (fun _ _ _ h => h) (Or.inl ⟨by rfl, ?hy2_15⟩) (by assumption) ?rest2_15
        case hy2_15 => (intro w hSw; (try dsimp only at hSw); go_simp; (try with_reducible rfl))
        try simp only [Act.put, List.getElem_toArray, List.getElem_cons_zero, List.getElem_cons_succ, List.setIfInBounds_toArray, List.set_cons_zero, List.set_cons_succ]
        refine wpAnyH_take (i := 3) (v := ?v3_16) rfl (by kernel_rfl) (by kernel_rfl) (by kernel_rfl) (fun _ _ _ h => h) (Or.inl ⟨by rfl, ?hy3_16⟩) (by assumption) ?rest3_16
        case hy3_16 => (intro w hSw; (try dsimp only at hSw); go_simp; (try with_reducible rfl))
        try simp only [Act.put, List.getElem_toArray, List.getElem_cons_zero, List.getElem_cons_succ, List.setIfInBounds_toArray, List.set_cons_zero, List.set_cons_succ]
        refine wpAnyH_take (i := 4) (v := ?v4_17) rfl (by kernel_rfl) (by kernel_rfl) (by kernel_rfl) (fun _ _ _ h => h) (Or.inl ⟨by rfl, ?hy4_17⟩) (by assumption) ?rest4_17
        case hy4_17 => (intro w hSw; (try dsimp only at hSw); go_simp; (try with_reducible rfl))
        try simp only [Act.put, List.getElem_toArray, List.getElem_cons_zero, List.getElem_cons_succ, List.setIfInBounds_toArray, List.set_cons_zero, List.set_cons_succ]
        refine wpAnyH_take (i := 5) (v := ?v5_18) rfl (by kernel_rfl) (by kernel_rfl) (by kernel_rfl) (fun _ _ _ h => h) (Or.inl ⟨by rfl, ?hy5_18⟩) (by assumption) ?rest5_18
        case hy5_18 => (intro w hSw; (try dsimp only at hSw); go_simp; (try with_reducible rfl))
        try simp only [Act.put, List.getElem_toArray, List.getElem_cons_zero, List.getElem_cons_succ, List.setIfInBounds_toArray, List.set_cons_zero, List.set_cons_succ]
        refine wpAnyH_ready (rs := [6, 10]) (by kernel_rfl) (by simp) ?_
        refine AllReadyH.cons rfl (fun K hK => ?_) (AllReadyH.cons rfl (fun K hK => ?_) AllReadyH.nil)
        · skip
          go_simp
          go_at_call 29; refine (HG.out _).mono ?_; rintro e' W1 ⟨rfl, hb'⟩
          refine hK.out _ _ (⟨keepW hb' hHeld.1, keepW hb' hHeld.2.1, keepW hb' hHeld.2.2.1, keepW hb' hHeld.2.2.2.1, hHeld.2.2.2.2.trans (hb'.mono hHeld.2.2.2.2.size)⟩) (fun hHeld2 => ?_)
          clear hK K hHeld hb'
          have hHeld := hHeld2
          clear hHeld2
          try simp only [Act.put, List.getElem_toArray, List.getElem_cons_zero, List.getElem_cons_succ, List.setIfInBounds_toArray, List.set_cons_zero, List.set_cons_succ]
          refine wpAnyH_take (i := 7) (v := ?v7_19) rfl (by kernel_rfl) (by kernel_rfl) (by kernel_rfl) (fun _ _ _ h => h) (Or.inl ⟨by rfl, ?hy7_19⟩) (by assumption) ?rest7_19
          case hy7_19 => (intro w hSw; (try dsimp only at hSw); go_simp; (try with_reducible rfl))
          try simp only [Act.put, List.getElem_toArray, List.getElem_cons_zero, List.getElem_cons_succ, List.setIfInBounds_toArray, List.set_cons_zero, List.set_cons_succ]
          refine wpAnyH_take (i := 8) (v := ?v8_20) rfl (by kernel_rfl) (by kernel_rfl) (by kernel_rfl) (fun _ _ _ h => h) (Or.inl ⟨by rfl, ?hy8_20⟩) (by assumption) ?rest8_20
          case hy8_20 => (intro w hSw; (try dsimp only at hSw); go_simp; (try with_reducible rfl))
          try simp only [Act.put, List.getElem_toArray, List.getElem_cons_zero, List.getElem_cons_succ, List.setIfInBounds_toArray, List.set_cons_zero, List.set_cons_succ]
          refine wpAnyH_take (i := 9) (v := ?v9_21) rfl (by kernel_rfl) (by kernel_rfl) (by kernel_rfl) (fun _ _ _ h => h) (Or.inl ⟨by rfl, ?hy9_21⟩) (by assumption) ?rest9_21
          case hy9_21 => (intro w hSw; (try dsimp only at hSw); go_simp; (try with_reducible rfl))
          try simp only [Act.put, List.getElem_toArray, List.getElem_cons_zero, List.getElem_cons_succ, List.setIfInBounds_toArray, List.set_cons_zero, List.set_cons_succ]
          refine wpAnyH_ready (rs := [10]) (by kernel_rfl) (by simp) ?_
          refine AllReadyH.cons rfl (fun K hK => ?_) AllReadyH.nil
          go_simp
          have pq := SpB.new W1
          have zq : W1.heap.size < (W1.alloc (.cells #[.int .i64 0, .int .i64 0] 24)).heap.size := by rw [World.size_alloc]; omega
          have lq : wx.heap.size ≤ W1.heap.size := hHeld.2.2.2.2.size
          have hb' : Below W1.heap.size W1 (W1.alloc (.cells #[.int .i64 0, .int .i64 0] 24)) := below_alloc _ _
          obtain ⟨q, hq⟩ : ∃ q, q = W1.heap.size := ⟨_, rfl⟩
          obtain ⟨W2, hF⟩ : ∃ F, F = W1.alloc (.cells #[.int .i64 0, .int .i64 0] 24) := ⟨_, rfl⟩
          rw [← hF, ← hq] at pq zq
          rw [← hq] at lq
          rw [← hF] at hb' ⊢
          rw [← hq]
          refine hK.out _ _ (⟨keepW hb' hHeld.1, keepW hb' hHeld.2.1, keepW hb' hHeld.2.2.1, keepW hb' hHeld.2.2.2.1, hHeld.2.2.2.2.trans (hb'.mono hHeld.2.2.2.2.size)⟩) (fun hHeld2 => ?_)
          clear hK K hHeld hb' hF hq
          have hHeld := hHeld2
          clear hHeld2
          try simp only [Act.put, List.getElem_toArray, List.getElem_cons_zero, List.getElem_cons_succ, List.setIfInBounds_toArray, List.set_cons_zero, List.set_cons_succ]
          refine wpAnyH_ready (rs := [11]) (by kernel_rfl) (by simp) ?_
          refine AllReadyH.cons rfl (fun K hK => ?_) AllReadyH.nil
          obtain ⟨oc0, oc1, of0, of1⟩ := pq
          go_simp
          have bZ : Below wx.heap.size wx ((W2.setCell ⟨q, 0, none⟩ (.int .i64 fl)).setCell ⟨q, 1, none⟩ (.int .i64 fh)) := ((hHeld.2.2.2.2.setCell (p := ⟨q, 0, none⟩) (by dsimp only; omega) _).setCell (p := ⟨q, 1, none⟩) (by dsimp only; omega) _)
          have bS : Below q W2 ((W2.setCell ⟨q, 0, none⟩ (.int .i64 fl)).setCell ⟨q, 1, none⟩ (.int .i64 fh)) := (((Below.refl q W2).setCell (p := ⟨q, 0, none⟩) (Nat.le_refl _) _).setCell (p := ⟨q, 1, none⟩) (Nat.le_refl _) _)
          have pq := SpB.put (u := fl) (v := fh) (⟨oc0, oc1, of0, of1⟩)
          have zz : q < ((W2.setCell ⟨q, 0, none⟩ (.int .i64 fl)).setCell ⟨q, 1, none⟩ (.int .i64 fh)).heap.size := by simp; exact zq
          obtain ⟨W3, hG⟩ : ∃ G, G = ((W2.setCell ⟨q, 0, none⟩ (.int .i64 fl)).setCell ⟨q, 1, none⟩ (.int .i64 fh)) := ⟨_, rfl⟩
          rw [← hG] at bZ bS pq zz ⊢
          refine hK.out _ _ (⟨keepB bS (by omega) hHeld.1, keepB bS (by omega) hHeld.2.1, keepB bS (by omega) hHeld.2.2.1, keepB bS (by omega) hHeld.2.2.2.1, bZ⟩) (fun hHeld2 => ?_)
          clear hK K hHeld hG bS zq oc0 of0 oc1 of1
          have hHeld := hHeld2
          clear hHeld2
          try simp only [Act.put, List.getElem_toArray, List.getElem_cons_zero, List.getElem_cons_succ, List.setIfInBounds_toArray, List.set_cons_zero, List.set_cons_succ]
          refine wpAnyH_done (by kernel_rfl) ?_ _
          change wpList _ _ _ _ _ _
          simp only [List.drop_succ_cons, List.drop_zero]
          go_wp2_with fail
          go_meet
          exact ⟨q, rfl, rfl, pq.c0, pq.c1, pq.f0, pq.f1, lq, zz, bZ⟩
        · skip
          go_simp
          have pq := SpB.new D
          have zq : D.heap.size < (D.alloc (.cells #[.int .i64 0, .int .i64 0] 24)).heap.size := by rw [World.size_alloc]; omega
          have lq : wx.heap.size ≤ D.heap.size := hHeld.2.2.2.2.size
          have hb' : Below D.heap.size D (D.alloc (.cells #[.int .i64 0, .int .i64 0] 24)) := below_alloc _ _
          obtain ⟨q, hq⟩ : ∃ q, q = D.heap.size := ⟨_, rfl⟩
          obtain ⟨W4, hF⟩ : ∃ F, F = D.alloc (.cells #[.int .i64 0, .int .i64 0] 24) := ⟨_, rfl⟩
          rw [← hF, ← hq] at pq zq
          rw [← hq] at lq
          rw [← hF] at hb' ⊢
          rw [← hq]
          refine hK.out _ _ (⟨keepW hb' hHeld.1, keepW hb' hHeld.2.1, keepW hb' hHeld.2.2.1, keepW hb' hHeld.2.2.2.1, hHeld.2.2.2.2.trans (hb'.mono hHeld.2.2.2.2.size)⟩) (fun hHeld2 => ?_)
          clear hK K hHeld hb' hF hq
          have hHeld := hHeld2
          clear hHeld2
          try simp only [Act.put, List.getElem_toArray, List.getElem_cons_zero, List.getElem_cons_succ, List.setIfInBounds_toArray, List.set_cons_zero, List.set_cons_succ]
          refine wpAnyH_ready (rs := [6]) (by kernel_rfl) (by simp) ?_
          refine AllReadyH.cons rfl (fun K hK => ?_) AllReadyH.nil
          go_simp
          go_at_call 29; refine (HG.out _).mono ?_; rintro e' W5 ⟨rfl, hb'⟩
          have pq := pq.keep hb' zq
          have zq := Nat.lt_of_lt_of_le zq hb'.size
          refine hK.out _ _ (⟨keepW hb' hHeld.1, keepW hb' hHeld.2.1, keepW hb' hHeld.2.2.1, keepW hb' hHeld.2.2.2.1, hHeld.2.2.2.2.trans (hb'.mono hHeld.2.2.2.2.size)⟩) (fun hHeld2 => ?_)
          clear hK K hHeld hb'
          have hHeld := hHeld2
          clear hHeld2
          try simp only [Act.put, List.getElem_toArray, List.getElem_cons_zero, List.getElem_cons_succ, List.setIfInBounds_toArray, List.set_cons_zero, List.set_cons_succ]
          refine wpAnyH_take (i := 7) (v := ?v7_22) rfl (by kernel_rfl) (by kernel_rfl) (by kernel_rfl) (fun _ _ _ h => h) (Or.inl ⟨by rfl, ?hy7_22⟩) (by assumption) ?rest7_22
          case hy7_22 => (intro w hSw; (try dsimp only at hSw); go_simp; (try with_reducible rfl))
          try simp only [Act.put, List.getElem_toArray, List.getElem_cons_zero, List.getElem_cons_succ, List.setIfInBounds_toArray, List.set_cons_zero, List.set_cons_succ]
          refine wpAnyH_take (i := 8) (v := ?v8_23) rfl (by kernel_rfl) (by kernel_rfl) (by kernel_rfl) (fun _ _ _ h => h) (Or.inl ⟨by rfl, ?hy8_23⟩) (by assumption) ?rest8_23
          case hy8_23 => (intro w hSw; (try dsimp only at hSw); go_simp; (try with_reducible rfl))
          try simp only [Act.put, List.getElem_toArray, List.getElem_cons_zero, List.getElem_cons_succ, List.setIfInBounds_toArray, List.set_cons_zero, List.set_cons_succ]
          refine wpAnyH_take (i := 9) (v := ?v9_24) rfl (by kernel_rfl) (by kernel_rfl) (by kernel_rfl) (fun _ _ _ h => h) (Or.inl ⟨by rfl, ?hy9_24⟩) (by assumption) ?rest9_24
          case hy9_24 => (intro w hSw; (try dsimp only at hSw); go_simp; (try with_reducible rfl))
          try simp only [Act.put, List.getElem_toArray, List.getElem_cons_zero, List.getElem_cons_succ, List.setIfInBounds_toArray, List.set_cons_zero, List.set_cons_succ]
          refine wpAnyH_ready (rs := [11]) (by kernel_rfl) (by simp) ?_
          refine AllReadyH.cons rfl (fun K hK => ?_) AllReadyH.nil
          obtain ⟨oc0, oc1, of0, of1⟩ := pq
          go_simp
          have bZ : Below wx.heap.size wx ((W5.setCell ⟨q, 0, none⟩ (.int .i64 fl)).setCell ⟨q, 1, none⟩ (.int .i64 fh)) := ((hHeld.2.2.2.2.setCell (p := ⟨q, 0, none⟩) (by dsimp only; omega) _).setCell (p := ⟨q, 1, none⟩) (by dsimp only; omega) _)
          have bS : Below q W5 ((W5.setCell ⟨q, 0, none⟩ (.int .i64 fl)).setCell ⟨q, 1, none⟩ (.int .i64 fh)) := (((Below.refl q W5).setCell (p := ⟨q, 0, none⟩) (Nat.le_refl _) _).setCell (p := ⟨q, 1, none⟩) (Nat.le_refl _) _)
          have pq := SpB.put (u := fl) (v := fh) (⟨oc0, oc1, of0, of1⟩)
          have zz : q < ((W5.setCell ⟨q, 0, none⟩ (.int .i64 fl)).setCell ⟨q, 1, none⟩ (.int .i64 fh)).heap.size := by simp; exact zq
          obtain ⟨W6, hG⟩ : ∃ G, G = ((W5.setCell ⟨q, 0, none⟩ (.int .i64 fl)).setCell ⟨q, 1, none⟩ (.int .i64 fh)) := ⟨_, rfl⟩
          rw [← hG] at bZ bS pq zz ⊢
          refine hK.out _ _ (⟨keepB bS (by omega) hHeld.1, keepB bS (by omega) hHeld.2.1, keepB bS (by omega) hHeld.2.2.1, keepB bS (by omega) hHeld.2.2.2.1, bZ⟩) (fun hHeld2 => ?_)
          clear hK K hHeld hG bS zq oc0 of0 oc1 of1
          have hHeld := hHeld2
          clear hHeld2
          try simp only [Act.put, List.getElem_toArray, List.getElem_cons_zero, List.getElem_cons_succ, List.setIfInBounds_toArray, List.set_cons_zero, List.set_cons_succ]
          refine wpAnyH_done (by kernel_rfl) ?_ _
          change wpList _ _ _ _ _ _
          simp only [List.drop_succ_cons, List.drop_zero]
          go_wp2_with fail
          go_meet
          exact ⟨q, rfl, rfl, pq.c0, pq.c1, pq.f0, pq.f1, lq, zz, bZ⟩
      case rest =>
      clear HS
      obtain ⟨q, rfl, rfl, hNS⟩ := hcut
      obtain ⟨wy, hwy⟩ : ∃ x, x = wc := ⟨_, rfl⟩
      rw [← hwy] at hNS ⊢
      clear hwy wc
      have HN2 := HN.out.keep hNS.b
      have x0 := HN2.c0
      have x1 := HN2.c1
      have y0 := hNS.c0
      have y1 := hNS.c1
      have bY := Lib.hid (HW.out.trans (HN2.b.mono HW.out.size))
      clear HN HN2 hNS c0 c1 c2 c3
      go_wp2
      go_roundw
      case rel => exact ⟨k + 1, by omega, by omega, by go_num, bY.out⟩
      case measure => simp [intOf]; omega
    · have bw := Lib.hid (bA.trans (hbw.mono bA.size))
      clear hbw HSz HA bA
      by_cases hl1 : k < sn
      · have dd1 : decide ((k : Int) < (sn : Int)) = true := decide_eq_true (by omega)
        have dd2 : decide ((k : Int) < 5) = false := decide_eq_false (by omega)
        go_wp2_with fail
        refine (works_any _).mono ?_; rintro e X ⟨rfl, hbX⟩
        have bX := bw.out.trans (hbX.mono bw.out.size)
        clear hbX
        go_wp2
        go_ret
        exact ⟨rfl, bX⟩
      · have dd1 : decide ((k : Int) < (sn : Int)) = false := decide_eq_false (by omega)
        go_wp2_with fail
        refine (works_any _).mono ?_; rintro e X ⟨rfl, hbX⟩
        have bX := bw.out.trans (hbX.mono bw.out.size)
        clear hbX
        go_wp2
        go_ret
        exact ⟨rfl, bX⟩
theorem RainPasses_walk (pa : Option Addr) (pn pc : Nat) (pz : Nat → Int × Int) (na : Option Addr) (nn nc : Nat) (nz : Nat → Int) (sa : Option Addr) (sn sc : Nat) (sz : Nat → Int × Int) (th lo hi : Int) (w : World) (hl1 : pn ≤ maxLen) (hp : SliceIs w pa pn pc pz) (hl2 : nn ≤ maxLen) (hn : PowIs w na nn nz) (hl3 : sn ≤ maxLen) (hs : SliceIs w sa sn sc sz) :
    Calls Try.prog 4 #[.slice pa pn pc, .slice na nn nc, .slice sa sn sc, .int .i64 th, .agg #[.int .i64 lo, .int .i64 hi]] w fun e w' => e = .returned (.bool true) ∧ Below w.heap.size w w' := by
  by_cases h : 100 < pn ∨ 300 < nn ∨ 300 < sn
  · exact RainPasses_big pa pn pc na nn nc sa sn sc th lo hi w ⟨hl1, hl2, hl3⟩ h
  · exact RainPasses_few pa pn pc na nn nc sa sn sc th lo hi pz nz sz w (by omega) (by omega) (by omega) hp hn hs

end Go.Proofs.Ytdmbkhmhaininaa
