/-
  What pairs have in common.
-/
import Derived.Test.YtdmbkhmhaininaaGP
import Derived.Deep.Cut
namespace Go.Proofs.Ytdmbkhmhaininaa
open Go.RowKit
set_option linter.unusedVariables false
set_option linter.unusedSimpArgs false

/-- what the loop over the pairs keeps: the result's box, and the box of what all have in common -/
structure CmR (w wr : World) (ps : Nat → Pr) (k : Nat) : Prop where
  r0 : wr.cell? ⟨w.heap.size, 0, none⟩ = some (.int .i64 0)
  r1 : wr.cell? ⟨w.heap.size, 1, none⟩ = some (.int .i64 0)
  g0 : wr.frozen? ⟨w.heap.size, 0, none⟩ = false
  g1 : wr.frozen? ⟨w.heap.size, 1, none⟩ = false
  t0 : wr.cell? ⟨w.heap.size + 1, 0, none⟩ = some (.int .i64 (cF ps k).1)
  t1 : wr.cell? ⟨w.heap.size + 1, 1, none⟩ = some (.int .i64 (cF ps k).2)
  u0 : wr.frozen? ⟨w.heap.size + 1, 0, none⟩ = false
  u1 : wr.frozen? ⟨w.heap.size + 1, 1, none⟩ = false
  z : w.heap.size + 1 < wr.heap.size
  b : Below w.heap.size w wr
theorem CmR.keep {w W w1 : World} {ps : Nat → Pr} {k : Nat} (R : CmR w W ps k) (hb : Below W.heap.size W w1) : CmR w w1 ps k := by
  have z := R.z
  exact ⟨keepB hb (by omega) R.r0, keepB hb (by omega) R.r1, keepF hb (by omega) R.g0, keepF hb (by omega) R.g1, keepB hb z R.t0, keepB hb z R.t1, keepF hb z R.u0, keepF hb z R.u1, Nat.lt_of_lt_of_le z hb.size, R.b.trans (hb.mono R.b.size)⟩
theorem CmR.next {w W : World} {ps : Nat → Pr} {k : Nat} (R : CmR w W ps k) (x y : Int) (hx : max (cF ps k).1 (cLo (ps k)) = x) (hy : min (cF ps k).2 (rHi (ps k)) = y) :
    CmR w ((W.setCell ⟨w.heap.size + 1, 0, none⟩ (.int .i64 x)).setCell ⟨w.heap.size + 1, 1, none⟩ (.int .i64 y)) ps (k + 1) := by
  have z := R.z
  have hB : Below (w.heap.size + 1) W ((W.setCell ⟨w.heap.size + 1, 0, none⟩ (.int .i64 x)).setCell ⟨w.heap.size + 1, 1, none⟩ (.int .i64 y)) := ((Below.refl (w.heap.size + 1) W).setCell (p := ⟨w.heap.size + 1, 0, none⟩) (Nat.le_refl _) _).setCell (p := ⟨w.heap.size + 1, 1, none⟩) (Nat.le_refl _) _
  refine ⟨keepB hB (by omega) R.r0, keepB hB (by omega) R.r1, keepF hB (by omega) R.g0, keepF hB (by omega) R.g1, ?_, ?_, by simp; exact R.u0, by simp; exact R.u1, by simp; exact z, R.b.trans (hB.mono (by omega))⟩
  · show _ = some (Value.int .i64 (max (cF ps k).1 (cLo (ps k))))
    rw [hx]; exact set_other (by decide) (set_same R.t0)
  · show _ = some (Value.int .i64 (min (cF ps k).2 (rHi (ps k))))
    rw [hy]; exact set_same (set_other (by decide) R.t1)
theorem common_boxes (w : World)  : ∃ A, A = (w.alloc (.cells #[.int .i64 0, .int .i64 0] 24)).alloc (.cells #[.int .i64 1, .int .i64 100000] 24) ∧ Below w.heap.size w A ∧ A.heap.size = w.heap.size + 2 ∧ A.cell? ⟨w.heap.size, 0, none⟩ = some (.int .i64 0) ∧ A.cell? ⟨w.heap.size, 1, none⟩ = some (.int .i64 0) ∧ A.cell? ⟨w.heap.size + 1, 0, none⟩ = some (.int .i64 1) ∧ A.cell? ⟨w.heap.size + 1, 1, none⟩ = some (.int .i64 100000) ∧ A.frozen? ⟨w.heap.size, 0, none⟩ = false ∧ A.frozen? ⟨w.heap.size, 1, none⟩ = false ∧ A.frozen? ⟨w.heap.size + 1, 0, none⟩ = false ∧ A.frozen? ⟨w.heap.size + 1, 1, none⟩ = false := by
  obtain ⟨A0, e0⟩ : ∃ A, A = w.alloc (.cells #[.int .i64 0, .int .i64 0] 24) := ⟨_, rfl⟩
  have s0 : A0.heap.size = w.heap.size + 1 := by rw [e0, World.size_alloc]
  have b0 : Below w.heap.size w A0 := by rw [e0]; exact below_alloc _ _
  have c0_0_0 : A0.cell? ⟨w.heap.size, 0, none⟩ = some (.int .i64 0) := by rw [e0]; exact alloc_new rfl rfl
  have c0_1_0 : A0.cell? ⟨w.heap.size, 1, none⟩ = some (.int .i64 0) := by rw [e0]; exact alloc_new rfl rfl
  have f0_0_0 : A0.frozen? ⟨w.heap.size, 0, none⟩ = false := by rw [e0]; exact alloc_newF rfl
  have f0_1_0 : A0.frozen? ⟨w.heap.size, 1, none⟩ = false := by rw [e0]; exact alloc_newF rfl
  rw [← e0]
  exact ⟨_, rfl, b0.trans ((below_alloc _ _).mono (by omega)), by rw [World.size_alloc]; omega, alloc_keep (by omega) c0_0_0, alloc_keep (by omega) c0_1_0, alloc_new s0.symm rfl, alloc_new s0.symm rfl, alloc_keepF (by omega) f0_0_0, alloc_keepF (by omega) f0_1_0, alloc_newF s0.symm, alloc_newF s0.symm⟩

/-- what common answers -/
def cmS (ps : Nat → Pr) (n : Nat) : Bool := decide ((cF ps n).1 ≤ (cF ps n).2)
def cmL (ps : Nat → Pr) (n : Nat) : Int := if (cF ps n).1 ≤ (cF ps n).2 then (cF ps n).1 else 0
def cmH (ps : Nat → Pr) (n : Nat) : Int := if (cF ps n).1 ≤ (cF ps n).2 then (cF ps n).2 else 0
set_option maxRecDepth 100000 in
set_option maxHeartbeats 3200000 in
theorem common_some (b off n cap : Nat) (ps : Nat → Pr) (w : World) (hn : n ≤ 1000000) (hok : ∀ j, j < n → PrOk (ps j)) (hs : PrsAt w b off n ps) (hb : b < w.heap.size) :
    Calls Try.prog 74 #[.slice (some ⟨b, off, none⟩) n cap, .func (Fn.func 75) #[] #[]] w fun e w' => e = .returned (.tuple #[.agg #[.int .i64 (cmL ps n), .int .i64 (cmH ps n)], .bool (cmS ps n)]) ∧ Below w.heap.size w w' := by
  have HS := Lib.hid hs
  have HO := Lib.hid hok
  obtain ⟨A, hA, bA, zA, r0, r1, t0, t1, g0, g1, u0, u1⟩ := common_boxes w
  have HR := Lib.hid (show CmR w A ps 0 from ⟨r0, r1, g0, g1, t0, t1, u0, u1, by omega, bA⟩)
  clear hs hok r0 r1 t0 t1 g0 g1 u0 u1 zA bA
  go_enter Try.func74, Try.ntmps74
  go_wp2_with fail
  rw [← hA]
  clear hA
  go_loopw [13] (fun i wr => ∃ k : Nat, k ≤ n ∧ i = .int .i64 k ∧ CmR w wr ps k) (fun i _ => n - (intOf i).toNat)
  case atStart => exact ⟨0, Nat.zero_le _, rfl, HR.out⟩
  case round =>
    clear HR A
    obtain ⟨k, hk, rfl, hR⟩ := hrel
    have HR := Lib.hid hR
    have hbw := hR.b
    have hz := hR.z
    by_cases hlt : k < n
    · have c0 := keepB hbw hb (HS.out k hlt).1
      have c1 := keepB hbw hb (HS.out k hlt).2.1
      have c2 := keepB hbw hb (HS.out k hlt).2.2.1
      have c3 := keepB hbw hb (HS.out k hlt).2.2.2
      have q0 : (0 : Int) ≤ (k : Int) := by omega
      have q1 : (k : Int) < (n : Int) := by omega
      have HC := Lib.hid (fun W => scales_any (ps k) W (HO.out k hlt))
      have lbr : b < wr.heap.size := Nat.lt_of_lt_of_le hb hbw.size
      clear hR hbw
      obtain ⟨P4, hP4⟩ : ∃ P4, P4 = wr.alloc (.cells #[.int .i64 (ps k).s1, .int .i64 (ps k).s2, .int .i64 (ps k).ti, .int .i64 (ps k).sz] 70) := ⟨_, rfl⟩
      have RP := Lib.hid (HR.out.keep (show Below wr.heap.size wr P4 by rw [hP4]; exact below_alloc _ _))
      go_wp2_with fail
      refine (HC.out _).mono ?_; rintro e X ⟨rfl, hbX⟩
      rw [← hP4] at hbX
      have RX := Lib.hid (RP.out.keep hbX)
      have RE := Lib.hid (RX.out.keep (below_alloc X (.cells #[.int .i64 (cLo (ps k)), .int .i64 (rHi (ps k))] 24)))
      have x0 : (X.alloc (.cells #[.int .i64 (cLo (ps k)), .int .i64 (rHi (ps k))] 24)).cell? ⟨X.heap.size, 0, none⟩ = some (.int .i64 (cLo (ps k))) := alloc_new rfl rfl
      have x1 : (X.alloc (.cells #[.int .i64 (cLo (ps k)), .int .i64 (rHi (ps k))] 24)).cell? ⟨X.heap.size, 1, none⟩ = some (.int .i64 (rHi (ps k))) := alloc_new rfl rfl
      obtain ⟨q, hq⟩ : ∃ q, q = X.heap.size := ⟨_, rfl⟩
      obtain ⟨E, hE⟩ : ∃ E, E = X.alloc (.cells #[.int .i64 (cLo (ps k)), .int .i64 (rHi (ps k))] 24) := ⟨_, rfl⟩
      rw [← hE, ← hq] at x0 x1
      rw [← hE] at RE
      clear hP4 RP RX hbX c0 c1 c2 c3 HC HR
      go_upto_region 6 with fail
      rw [← hE]
      try rw [← hq]
      clear hE hq
      have t0 := RE.out.t0
      have t1 := RE.out.t1
      have u0 := RE.out.u0
      have u1 := RE.out.u1
      have HN := Lib.hid (fun x y hx hy => RE.out.next x y hx hy)
      clear RE
      generalize (cF ps k).1 = F1 at *
      generalize (cF ps k).2 = F2 at *
      generalize cLo (ps k) = L1 at *
      generalize rHi (ps k) = L2 at *
      obtain ⟨M1, hM1⟩ : ∃ M1, M1 = max F1 L1 := ⟨_, rfl⟩
      obtain ⟨M2, hM2⟩ : ∃ M2, M2 = min F2 L2 := ⟨_, rfl⟩
      have HNn := Lib.hid (HN.out M1 M2 hM1.symm hM2.symm)
      have e1 : max F1 L1 = M1 := hM1.symm
      have e2 : min F2 L2 = M2 := hM2.symm
      have e3 : (if F1 < L1 then L1 else F1) = M1 := by rw [hM1]; split <;> omega
      have e4 : (if L1 < F1 then F1 else L1) = M1 := by rw [hM1]; split <;> omega
      have e5 : (if F2 < L2 then F2 else L2) = M2 := by rw [hM2]; split <;> omega
      have e6 : (if L2 < F2 then L2 else F2) = M2 := by rw [hM2]; split <;> omega
      clear HN hM1 hM2
      go_wp2
      go_roundw
      case rel => exact ⟨k + 1, by omega, by go_num, HNn.out⟩
      case measure => simp [intOf]; omega
    · obtain rfl : n = k := by omega
      obtain ⟨r0, r1, g0, g1, t0, t1, u0, u1, hz, hbw⟩ := hR
      clear HR HS HO hlt
      by_cases h : (cF ps n).1 ≤ (cF ps n).2
      · have d : decide ((cF ps n).2 < (cF ps n).1) = false := decide_eq_false (by omega)
        have HX := Lib.hid (show cmL ps n = (cF ps n).1 ∧ cmH ps n = (cF ps n).2 ∧ cmS ps n = true from ⟨by unfold cmL; rw [if_pos h], by unfold cmH; rw [if_pos h], decide_eq_true h⟩)
        clear h
        generalize (cF ps n).1 = F1 at *
        generalize (cF ps n).2 = F2 at *
        go_wp2
        exact bodyPost_ret (v := .tuple #[.agg #[.int .i64 F1, .int .i64 F2], .bool true]) (by simp [results, Try.results74, go_sem, set_same (i := 0) (v := .int .i64 F1) r0, set_other (i := 1) (j := 0) (v := .int .i64 F2) (by decide) (set_same (i := 0) (v := .int .i64 F1) r0), set_same (i := 1) (v := .int .i64 F2) (set_other (i := 0) (j := 1) (v := .int .i64 F1) (by decide) r1)]) rfl ⟨by rw [HX.out.1, HX.out.2.1, HX.out.2.2], ((hbw.setCell (p := ⟨w.heap.size, 0, none⟩) (by dsimp only; omega) _).setCell (p := ⟨w.heap.size, 1, none⟩) (by dsimp only; omega) _)⟩
      · have d : decide ((cF ps n).2 < (cF ps n).1) = true := decide_eq_true (by omega)
        have HX := Lib.hid (show cmL ps n = 0 ∧ cmH ps n = 0 ∧ cmS ps n = false from ⟨by unfold cmL; rw [if_neg h], by unfold cmH; rw [if_neg h], decide_eq_false h⟩)
        clear h
        generalize (cF ps n).1 = F1 at *
        generalize (cF ps n).2 = F2 at *
        go_wp2
        exact bodyPost_ret (v := .tuple #[.agg #[.int .i64 0, .int .i64 0], .bool false]) (by simp [results, Try.results74, go_sem, set_same (i := 0) (v := .int .i64 0) r0, set_other (i := 1) (j := 0) (v := .int .i64 0) (by decide) (set_same (i := 0) (v := .int .i64 0) r0), set_same (i := 1) (v := .int .i64 0) (set_other (i := 0) (j := 1) (v := .int .i64 0) (by decide) r1)]) rfl ⟨by rw [HX.out.1, HX.out.2.1, HX.out.2.2], ((hbw.setCell (p := ⟨w.heap.size, 0, none⟩) (by dsimp only; omega) _).setCell (p := ⟨w.heap.size, 1, none⟩) (by dsimp only; omega) _)⟩

end Go.Proofs.Ytdmbkhmhaininaa
