/-
  Samples: what is valid.
-/
import Derived.Deep.CutRange
import Derived.Deep.DeepCutAuto
import Derived.Test.Ytmojnopgpgnfeaamg1
import Derived.Test.Ytmojnopgpgnfeaamg3
import Derived.Test.Ytmojnopgpgnfeaamg11
import Derived.Test.Ytmojnopgpgnfeaamg12
import Derived.Test.Ytmojnopgpgnfeaamg13
namespace Go.Proofs.Ytmojnopgpgnfeaa
open Go.RowKit
set_option linter.unusedVariables false
set_option linter.unusedSimpArgs false

/-- a sample is as it may be -/
def smpB (z : Smp) : Bool := inB z.h 0 1023 && inB z.v 0 1023 && inB z.p 0 65535 && inB z.q 0 65535
def allS (zs : Nat → Smp) : Nat → Bool
  | 0 => true
  | k + 1 => allS zs k && smpB (zs k)
theorem allS_no {zs : Nat → Smp} {k : Nat} (h : smpB (zs k) = false) : ∀ {n}, k < n → allS zs n = false
  | 0, hk => by omega
  | n + 1, hk => by
    unfold allS
    by_cases e : k = n
    · subst e; rw [h, Bool.and_false]
    · rw [allS_no h (n := n) (by omega), Bool.false_and]
theorem allS_at {zs : Nat → Smp} {n : Nat} (h : allS zs n = true) {k : Nat} (hk : k < n) : smpB (zs k) = true := by
  cases e : smpB (zs k) with
  | true => rfl
  | false => rw [allS_no e hk] at h; cases h
theorem smpB_true {z : Smp} (h : smpB z = true) : (0 ≤ z.h ∧ z.h ≤ 1023 ∧ 0 ≤ z.v ∧ z.v ≤ 1023) ∧ (0 ≤ z.p ∧ z.p < 65536) ∧ (0 ≤ z.q ∧ z.q < 65536) := by
  unfold smpB at h
  simp only [Bool.and_eq_true, inB_true] at h
  omega
/-- the error of samples -/
def samC (zs : Nat → Smp) (n : Nat) (c : Int) : Int := if (n : Int) = c then (if allS zs n = true then 0 else 3) else 11

set_option maxHeartbeats 400000 in
theorem checkSamples_shape (l kd f s c : Int) (a : Option Addr) (n cap : Nat) (w : World) (h : ¬ (n : Int) = c) :
    Calls Try.prog 62 #[.agg #[.int .i64 l, .int .i64 kd, .int .i64 f, .int .i64 s, .int .i64 c], .slice a n cap] w fun e w' => e = .returned (.int .i64 11) ∧ Below w.heap.size w w' := by
  have hne : ((n : Int) != c) = true := bne_iff_ne.2 h
  go_enter Try.func62, Try.ntmps62
  go_wp2
  go_ret
  exact ⟨rfl, below_alloc _ _⟩

set_option maxRecDepth 100000 in
set_option maxHeartbeats 6400000 in
theorem checkSamples_all (l kd f s c : Int) (b off n cap : Nat) (zs : Nat → Smp) (w : World) (h : (n : Int) = c) (hl : n ≤ 64) (hs : SmpsAt w b off n zs) (hb : b < w.heap.size) :
    Calls Try.prog 62 #[.agg #[.int .i64 l, .int .i64 kd, .int .i64 f, .int .i64 s, .int .i64 c], .slice (some ⟨b, off, none⟩) n cap] w fun e w' => e = .returned (.int .i64 (if allS zs n = true then 0 else 3)) ∧ Below w.heap.size w w' := by
  have hne : ((n : Int) != c) = false := by simpa using h
  obtain ⟨r, hr⟩ : ∃ x : Int, x = if allS zs n = true then 0 else 3 := ⟨_, rfl⟩
  rw [← hr]
  have HR := Lib.hid hr
  clear hr
  have HS := Lib.hid hs
  clear hs h
  have hT : Below w.heap.size w (w.alloc (.cells #[.int .i64 l, .int .i64 kd, .int .i64 f, .int .i64 s, .int .i64 c] 23)) := below_alloc _ _
  have hTz : (w.alloc (.cells #[.int .i64 l, .int .i64 kd, .int .i64 f, .int .i64 s, .int .i64 c] 23)).heap.size = w.heap.size + 1 := World.size_alloc _ _
  go_enter Try.func62, Try.ntmps62
  go_wp2
  go_loopw [14] (fun i wr => ∃ k : Nat, k ≤ n ∧ i = .int .i64 k ∧ Below w.heap.size w wr ∧ w.heap.size + 1 ≤ wr.heap.size ∧ allS zs k = true) (fun i _ => n - (intOf i).toNat)
  case atStart => exact ⟨0, Nat.zero_le _, rfl, hT, by omega, rfl⟩
  case round =>
    obtain ⟨k, hk, rfl, hbw, hz, hall⟩ := hrel
    have HA := Lib.hid hall
    have HI := Lib.hid hbw
    clear hall
    by_cases hlt : k < n
    · have hbr : b < wr.heap.size := Nat.lt_of_lt_of_le hb hbw.size
      have z0 := keepB hbw hb (HS.out.c0 k hlt)
      have z1 := keepB hbw hb (HS.out.c1 k hlt)
      have z2 := keepB hbw hb (HS.out.c2 k hlt)
      have z3 := keepB hbw hb (HS.out.c3 k hlt)
      rcases (Bool.eq_false_or_eq_true (inB (zs k).h 0 1023)).symm with eh | eh
      · have HB := Lib.hid (show r = 3 by rw [HR.out, allS_no (zs := zs) (k := k) (n := n) (by unfold smpB; rw [eh]; simp) hlt]; rfl)
        go_wp2_with fail
        refine (isIn_any _ _ _ _).mono ?_; rintro e w' ⟨rfl, rfl⟩
        go_wp2
        go_ret
        rw [HB.out]
        exact ⟨rfl, (HI.out.alloc (Nat.le_trans (by omega) HI.out.size) _)⟩
      · rcases (Bool.eq_false_or_eq_true (inB (zs k).v 0 1023)).symm with ev | ev
        · have HB := Lib.hid (show r = 3 by rw [HR.out, allS_no (zs := zs) (k := k) (n := n) (by unfold smpB; rw [eh, ev]; simp) hlt]; rfl)
          go_wp2_with fail
          refine (isIn_any _ _ _ _).mono ?_; rintro e w' ⟨rfl, rfl⟩
          go_wp2_with fail
          refine (isIn_any _ _ _ _).mono ?_; rintro e w' ⟨rfl, rfl⟩
          go_wp2
          go_ret
          rw [HB.out]
          exact ⟨rfl, (HI.out.alloc (Nat.le_trans (by omega) HI.out.size) _)⟩
        · rcases (Bool.eq_false_or_eq_true (inB (zs k).p 0 65535)).symm with ep | ep
          · have HB := Lib.hid (show r = 3 by rw [HR.out, allS_no (zs := zs) (k := k) (n := n) (by unfold smpB; rw [eh, ev, ep]; simp) hlt]; rfl)
            go_wp2_with fail
            refine (isIn_any _ _ _ _).mono ?_; rintro e w' ⟨rfl, rfl⟩
            go_wp2_with fail
            refine (isIn_any _ _ _ _).mono ?_; rintro e w' ⟨rfl, rfl⟩
            go_wp2_with fail
            refine (isPart_any _ _).mono ?_; rintro e w' ⟨rfl, rfl⟩
            go_wp2
            go_ret
            rw [HB.out]
            exact ⟨rfl, (HI.out.alloc (Nat.le_trans (by omega) HI.out.size) _)⟩
          · rcases (Bool.eq_false_or_eq_true (inB (zs k).q 0 65535)).symm with eq | eq
            · have HB := Lib.hid (show r = 3 by rw [HR.out, allS_no (zs := zs) (k := k) (n := n) (by unfold smpB; rw [eh, ev, ep, eq]; simp) hlt]; rfl)
              go_wp2_with fail
              refine (isIn_any _ _ _ _).mono ?_; rintro e w' ⟨rfl, rfl⟩
              go_wp2_with fail
              refine (isIn_any _ _ _ _).mono ?_; rintro e w' ⟨rfl, rfl⟩
              go_wp2_with fail
              refine (isPart_any _ _).mono ?_; rintro e w' ⟨rfl, rfl⟩
              go_wp2_with fail
              refine (isPart_any _ _).mono ?_; rintro e w' ⟨rfl, rfl⟩
              go_wp2
              go_ret
              rw [HB.out]
              exact ⟨rfl, (HI.out.alloc (Nat.le_trans (by omega) HI.out.size) _)⟩
            · have HB := Lib.hid (show allS zs (k + 1) = true by unfold allS smpB; rw [HA.out, eh, ev, ep, eq]; rfl)
              go_wp2_with fail
              refine (isIn_any _ _ _ _).mono ?_; rintro e w' ⟨rfl, rfl⟩
              go_wp2_with fail
              refine (isIn_any _ _ _ _).mono ?_; rintro e w' ⟨rfl, rfl⟩
              go_wp2_with fail
              refine (isPart_any _ _).mono ?_; rintro e w' ⟨rfl, rfl⟩
              go_wp2_with fail
              refine (isPart_any _ _).mono ?_; rintro e w' ⟨rfl, rfl⟩
              go_wp2
              go_roundw
              case rel => exact ⟨k + 1, by omega, by go_num, (HI.out.alloc (Nat.le_trans (by omega) HI.out.size) _), by simp; omega, HB.out⟩
              case measure => simp [intOf]; omega
    · have hkn : k = n := by omega
      subst hkn
      have HB := Lib.hid (show r = 0 by rw [HR.out, HA.out]; rfl)
      go_wp2
      go_ret
      rw [HB.out]
      exact ⟨rfl, hbw⟩

theorem chk_boxes (l kd f s c lv ph n0 n1 : Int) (w : World) : ∃ W, W = (w.alloc (.cells #[.int .i64 l, .int .i64 kd, .int .i64 f, .int .i64 s, .int .i64 c] 23)).alloc (.cells #[.int .i64 lv, .int .i64 ph, .int .i64 n0, .int .i64 n1] 27) ∧ Below w.heap.size w W ∧ W.heap.size = w.heap.size + 2 ∧ W.cell? ⟨w.heap.size + 1, 0, none⟩ = some (.int .i64 lv) ∧ W.cell? ⟨w.heap.size + 1, 1, none⟩ = some (.int .i64 ph) ∧ W.cell? ⟨w.heap.size + 1, 2, none⟩ = some (.int .i64 n0) ∧ W.cell? ⟨w.heap.size + 1, 3, none⟩ = some (.int .i64 n1) := by
  obtain ⟨A1, e1⟩ : ∃ A, A = w.alloc (.cells #[.int .i64 l, .int .i64 kd, .int .i64 f, .int .i64 s, .int .i64 c] 23) := ⟨_, rfl⟩
  have s1 : A1.heap.size = w.heap.size + 1 := by rw [e1]; exact World.size_alloc _ _
  have b1 : Below w.heap.size w A1 := by rw [e1]; exact below_alloc _ _
  rw [← e1]
  refine ⟨_, rfl, b1.trans ((below_alloc _ _).mono (by omega)), by rw [World.size_alloc]; omega, ?_, ?_, ?_, ?_⟩ <;> rw [← s1] <;> exact alloc_new rfl rfl

set_option maxHeartbeats 800000 in
theorem check_any (l kd f s c lv ph n0 n1 : Int) (w : World) :
    Calls Try.prog 61 #[.agg #[.int .i64 l, .int .i64 kd, .int .i64 f, .int .i64 s, .int .i64 c], .agg #[.int .i64 lv, .int .i64 ph, .int .i64 n0, .int .i64 n1]] w fun e w' => e = .returned (.int .i64 (if trainC l kd f s c = 0 then recvC lv ph n0 n1 else trainC l kd f s c)) ∧ Below w.heap.size w w' := by
  by_cases h : trainC l kd f s c = 0
  · rw [if_pos h]
    have HT := Lib.hid (show ∀ w : World, Calls Try.prog 15 #[.agg #[.int .i64 l, .int .i64 kd, .int .i64 f, .int .i64 s, .int .i64 c]] w fun e w' => e = .returned (.int .i64 0) ∧ Below w.heap.size w w' from fun w => by rw [← h]; exact CheckTrain_any l kd f s c w)
    clear h
    obtain ⟨W, hW, hb, hz, c0, c1, c2, c3⟩ := chk_boxes l kd f s c lv ph n0 n1 w
    go_enter Try.func61, Try.ntmps61
    go_wp2_with fail
    rw [← hW]
    refine (HT.out _).mono ?_; rintro e X ⟨rfl, hbX⟩
    have d0 := keepB hbX (by omega) c0
    have d1 := keepB hbX (by omega) c1
    have d2 := keepB hbX (by omega) c2
    have d3 := keepB hbX (by omega) c3
    have bX := hb.trans (hbX.mono (by omega))
    clear hbX c0 c1 c2 c3 hW
    go_wp2_with fail
    refine (CheckReceiver_any _ _ _ _ _).mono ?_; rintro e Y ⟨rfl, hbY⟩
    go_wp2
    go_ret
    exact ⟨rfl, bX.trans (hbY.mono bX.size)⟩
  · rw [if_neg h]
    have hne : (trainC l kd f s c != 0) = true := bne_iff_ne.2 h
    obtain ⟨e0, he⟩ : ∃ x, x = trainC l kd f s c := ⟨_, rfl⟩
    have HT := Lib.hid (show ∀ w : World, Calls Try.prog 15 #[.agg #[.int .i64 l, .int .i64 kd, .int .i64 f, .int .i64 s, .int .i64 c]] w fun e w' => e = .returned (.int .i64 e0) ∧ Below w.heap.size w w' from fun w => by rw [he]; exact CheckTrain_any l kd f s c w)
    rw [← he] at hne ⊢
    clear h he
    obtain ⟨W, hW, hb, hz, c0, c1, c2, c3⟩ := chk_boxes l kd f s c lv ph n0 n1 w
    go_enter Try.func61, Try.ntmps61
    go_wp2_with fail
    rw [← hW]
    refine (HT.out _).mono ?_; rintro e X ⟨rfl, hbX⟩
    go_wp2
    go_ret
    exact ⟨rfl, hb.trans (hbX.mono (by omega))⟩

end Go.Proofs.Ytmojnopgpgnfeaa

namespace Go.Proofs.Ytmojnopgpgnfeaa
open Go.RowKit
set_option linter.unusedVariables false
set_option linter.unusedSimpArgs false

theorem sumF_le {f h : Nat → Int} : ∀ {k : Nat}, (∀ i, i < k → f i ≤ h i) → sumF f k ≤ sumF h k
  | 0, _ => Int.le_refl _
  | k + 1, hh => by
    have h1 := sumF_le (k := k) (fun i hi => hh i (by omega))
    have h2 := hh k (by omega)
    rw [sumF, sumF]; omega
theorem mg_le {lv x : Int} (h : 0 ≤ lv) : 0 ≤ mg (-lv) x ∧ mg (-lv) x ≤ mg lv x := by unfold mg mx; split <;> split <;> omega
theorem sqH_le {zs : Nat → Smp} {lv : Int} (h : 0 ≤ lv) (i : Nat) : sqH zs (-lv) i ≤ sqH zs lv i := by
  obtain ⟨a, b⟩ := mg_le (x := (zs i).h) h
  unfold sqH
  exact Int.le_trans (Int.mul_le_mul_of_nonneg_right b a) (Int.mul_le_mul_of_nonneg_left b (by omega))
theorem pow_le {a b c n0 n1 : Int} (hc : 1 ≤ c) (h : a ≤ b) (hn : n0 ≤ n1) : mx (a / c - n1) ≤ mx (-(-b / c) - n0) := by
  have e1 := Int.mul_ediv_add_emod a c
  have e2 := Int.mul_ediv_add_emod (-b) c
  have r1 := Int.emod_nonneg a (show c ≠ 0 by omega)
  have r2 := Int.emod_nonneg (-b) (show c ≠ 0 by omega)
  have h3 : a / c + -b / c ≤ 0 := by
    rcases Int.lt_or_le 0 (a / c + -b / c) with h4 | h4
    · have h5 := Int.mul_le_mul_of_nonneg_left (show 1 ≤ a / c + -b / c by omega) (show 0 ≤ c by omega)
      rw [Int.mul_add] at h5
      omega
    · exact h4
  unfold mx
  split <;> split <;> omega
theorem mx_div {a c n : Int} (ha : 0 ≤ a ∧ a ≤ 80000000) (hc : 1 ≤ c) (hn : 0 ≤ n) : (0 ≤ mx (a / c - n) ∧ mx (a / c - n) ≤ 1000000000) ∧ (0 ≤ mx (-(-a / c) - n) ∧ mx (-(-a / c) - n) ≤ 1000000000) := by
  have h := div_bd ha.1 (by omega) hc
  exact ⟨mx_bd (by omega) (by omega), mx_bd (by omega) (by omega)⟩
def qE (p1 : Int) : Nat → Int := fun i => if i = 0 then 1 else if i = 2 then p1 else 0
def b0E (p0 p1 : Int) : Nat → Int := fun i => if i = 0 then 1 else if i = 1 then p0 else if i = 2 then p1 else 0
def baseE (p0 p1 r0 r1 m0 m1 : Int) : Nat → Int := upd (upd (upd (upd (b0E p0 p1) 8 r0) 9 r1) 10 m0) 11 m1
def hearE (wH wV sH sV A1 B1 C1 A2 B2 C2 kd ph c : Int) (x0 x1 x2 : List Int) : Nat → Int :=
  if sH = 0 ∧ sV = 0 then qE 0 else if wH = 0 then qE sH else phG (baseE wH sH (ratLo wV sH) (ratHi sV wH) (matLo C1 A2 B2) (matHi C2 A1 B1)) kd ph c x0 x1 x2
/-- the echo of valid samples -/
def hearOf (l kd c lv ph n0 n1 : Int) (n : Nat) (zs : Nat → Smp) : Nat → Int :=
  hearE (mx (sumF (sqH zs (-lv)) n / c - n1)) (mx (sumF (sqV zs (-lv)) n / c - n1)) (mx (-(-sumF (sqH zs lv) n / c) - n0)) (mx (-(-sumF (sqV zs lv) n / c) - n0)) (sumF (sqH zs (-lv)) n) (sumF (sqV zs (-lv)) n) (sumF (prd zs (-lv)) n) (sumF (sqH zs lv) n) (sumF (sqV zs lv) n) (sumF (prd zs lv) n) kd ph c (valsB (stpTo zs kd c (n - 1)) false) (valsB (stpTo zs kd c (n - 1)) true) (trnTo zs n)
/-- sums that are still open -/
structure HdAt (W : World) (s : Nat) : Prop where
  c0 : W.cell? ⟨s, 0, none⟩ = some (.int .i64 0)
  c1 : W.cell? ⟨s, 1, none⟩ = some (.int .i64 0)
  c2 : W.cell? ⟨s, 2, none⟩ = some (.int .i64 0)
  f0 : W.frozen? ⟨s, 0, none⟩ = false
  f1 : W.frozen? ⟨s, 1, none⟩ = false
  f2 : W.frozen? ⟨s, 2, none⟩ = false
theorem HdAt.new (W : World) : HdAt (W.alloc (.cells #[.int .i64 0, .int .i64 0, .int .i64 0] 131)) W.heap.size := ⟨alloc_new rfl rfl, alloc_new rfl rfl, alloc_new rfl rfl, alloc_newF rfl, alloc_newF rfl, alloc_newF rfl⟩
theorem HdAt.keep {W w1 : World} {B s : Nat} (h : HdAt W s) (hb : Below B W w1) (hs : s < B) : HdAt w1 s := ⟨keepB hb hs h.c0, keepB hb hs h.c1, keepB hb hs h.c2, keepF hb hs h.f0, keepF hb hs h.f1, keepF hb hs h.f2⟩
theorem far3 {W : World} {s b : Nat} {u v x : Value} (h : s ≠ b) (k : HdAt W b) : HdAt (((W.setCell ⟨s, 0, none⟩ u).setCell ⟨s, 1, none⟩ v).setCell ⟨s, 2, none⟩ x) b :=
  ⟨cell_far h (cell_far h (cell_far h k.c0)), cell_far h (cell_far h (cell_far h k.c1)), cell_far h (cell_far h (cell_far h k.c2)), frz (frz (frz k.f0)), frz (frz (frz k.f1)), frz (frz (frz k.f2))⟩
/-- the boxes of hear -/
structure HrP (w W : World) (l kd f s c lv ph n0 n1 : Int) : Prop where
  t0 : W.cell? ⟨w.heap.size, 0, none⟩ = some (.int .i64 l)
  t1 : W.cell? ⟨w.heap.size, 1, none⟩ = some (.int .i64 kd)
  t2 : W.cell? ⟨w.heap.size, 2, none⟩ = some (.int .i64 f)
  t3 : W.cell? ⟨w.heap.size, 3, none⟩ = some (.int .i64 s)
  t4 : W.cell? ⟨w.heap.size, 4, none⟩ = some (.int .i64 c)
  r0 : W.cell? ⟨w.heap.size + 1, 0, none⟩ = some (.int .i64 lv)
  r1 : W.cell? ⟨w.heap.size + 1, 1, none⟩ = some (.int .i64 ph)
  r2 : W.cell? ⟨w.heap.size + 1, 2, none⟩ = some (.int .i64 n0)
  r3 : W.cell? ⟨w.heap.size + 1, 3, none⟩ = some (.int .i64 n1)
  o : EchoG W (w.heap.size + 1 + 1) (fun _ => 0)
  z : w.heap.size + 3 ≤ W.heap.size
  b : Below w.heap.size w W
theorem HrP.keep {B : Nat} {w W w1 : World} {l kd f s c lv ph n0 n1 : Int} (x : HrP w W l kd f s c lv ph n0 n1) (hb : Below B W w1) (h : w.heap.size + 3 ≤ B) : HrP w w1 l kd f s c lv ph n0 n1 :=
  ⟨keepB hb (by omega) x.t0, keepB hb (by omega) x.t1, keepB hb (by omega) x.t2, keepB hb (by omega) x.t3, keepB hb (by omega) x.t4, keepB hb (by omega) x.r0, keepB hb (by omega) x.r1, keepB hb (by omega) x.r2, keepB hb (by omega) x.r3, x.o.keep hb (by omega), Nat.le_trans x.z hb.size, x.b.trans (hb.mono (by omega))⟩
theorem HrP.set {w W : World} {l kd f s c lv ph n0 n1 : Int} {d k : Nat} {u : Value} (x : HrP w W l kd f s c lv ph n0 n1) (hd : w.heap.size + 3 ≤ d) : HrP w (W.setCell ⟨d, k, none⟩ u) l kd f s c lv ph n0 n1 :=
  ⟨cell_far (by omega) x.t0, cell_far (by omega) x.t1, cell_far (by omega) x.t2, cell_far (by omega) x.t3, cell_far (by omega) x.t4, cell_far (by omega) x.r0, cell_far (by omega) x.r1, cell_far (by omega) x.r2, cell_far (by omega) x.r3, x.o.far (by omega), by have := x.z; simpa using this, x.b.setCell (p := ⟨d, k, none⟩) (by dsimp only; omega) _⟩
theorem HrP.new (w : World) (l kd f s c lv ph n0 n1 : Int) : HrP w (((w.alloc (.cells #[.int .i64 l, .int .i64 kd, .int .i64 f, .int .i64 s, .int .i64 c] 23)).alloc (.cells #[.int .i64 lv, .int .i64 ph, .int .i64 n0, .int .i64 n1] 27)).alloc (.cells #[.int .i64 0, .int .i64 0, .int .i64 0, .int .i64 0, .int .i64 0, .int .i64 0, .int .i64 0, .int .i64 0, .int .i64 0, .int .i64 0, .int .i64 0, .int .i64 0, .int .i64 0, .int .i64 0] 30)) l kd f s c lv ph n0 n1 := by
  obtain ⟨A1, e1⟩ : ∃ A, A = w.alloc (.cells #[.int .i64 l, .int .i64 kd, .int .i64 f, .int .i64 s, .int .i64 c] 23) := ⟨_, rfl⟩
  obtain ⟨A2, e2⟩ : ∃ A, A = A1.alloc (.cells #[.int .i64 lv, .int .i64 ph, .int .i64 n0, .int .i64 n1] 27) := ⟨_, rfl⟩
  obtain ⟨A3, e3⟩ : ∃ A, A = A2.alloc (.cells #[.int .i64 0, .int .i64 0, .int .i64 0, .int .i64 0, .int .i64 0, .int .i64 0, .int .i64 0, .int .i64 0, .int .i64 0, .int .i64 0, .int .i64 0, .int .i64 0, .int .i64 0, .int .i64 0] 30) := ⟨_, rfl⟩
  have s1 : A1.heap.size = w.heap.size + 1 := by rw [e1]; exact World.size_alloc _ _
  have s2 : A2.heap.size = w.heap.size + 1 + 1 := by rw [e2, World.size_alloc, s1]
  have s3 : A3.heap.size = w.heap.size + 3 := by rw [e3, World.size_alloc, s2]
  rw [← e1, ← e2, ← e3]
  have b1 : Below w.heap.size w A1 := by rw [e1]; exact below_alloc _ _
  have b2 : Below A1.heap.size A1 A2 := by rw [e2]; exact below_alloc _ _
  have b3 : Below A2.heap.size A2 A3 := by rw [e3]; exact below_alloc _ _
  have c13 : Below A1.heap.size A1 A3 := b2.trans (b3.mono (by omega))
  exact ⟨keepB c13 (by omega) (by rw [e1]; exact alloc_new rfl rfl), keepB c13 (by omega) (by rw [e1]; exact alloc_new rfl rfl), keepB c13 (by omega) (by rw [e1]; exact alloc_new rfl rfl), keepB c13 (by omega) (by rw [e1]; exact alloc_new rfl rfl), keepB c13 (by omega) (by rw [e1]; exact alloc_new rfl rfl), keepB b3 (by omega) (by rw [e2, ← s1]; exact alloc_new rfl rfl), keepB b3 (by omega) (by rw [e2, ← s1]; exact alloc_new rfl rfl), keepB b3 (by omega) (by rw [e2, ← s1]; exact alloc_new rfl rfl), keepB b3 (by omega) (by rw [e2, ← s1]; exact alloc_new rfl rfl), by rw [e3, ← s2]; exact EchoG.new _ (fun _ => 0) _, by omega, b1.trans (c13.mono (by omega))⟩
/-- sums in a box -/
structure HdV (W : World) (s : Nat) (a b c : Int) : Prop where
  c0 : W.cell? ⟨s, 0, none⟩ = some (.int .i64 a)
  c1 : W.cell? ⟨s, 1, none⟩ = some (.int .i64 b)
  c2 : W.cell? ⟨s, 2, none⟩ = some (.int .i64 c)
theorem HdV.keep {W w1 : World} {s : Nat} {a b c : Int} (h : HdV W s a b c) (hb : Below W.heap.size W w1) : HdV w1 s a b c := ⟨keepW hb h.c0, keepW hb h.c1, keepW hb h.c2⟩
/-- both sums are there -/
structure HrI (w W : World) (s7 s8 : Nat) (A1 B1 C1 A2 B2 C2 l kd f s c lv ph n0 n1 : Int) : Prop where
  p : HrP w W l kd f s c lv ph n0 n1
  h7 : HdV W s7 A1 B1 C1
  h8 : HdV W s8 A2 B2 C2
theorem HrI.keep {w W w1 : World} {s7 s8 : Nat} {A1 B1 C1 A2 B2 C2 l kd f s c lv ph n0 n1 : Int} (x : HrI w W s7 s8 A1 B1 C1 A2 B2 C2 l kd f s c lv ph n0 n1) (hb : Below W.heap.size W w1) : HrI w w1 s7 s8 A1 B1 C1 A2 B2 C2 l kd f s c lv ph n0 n1 :=
  ⟨x.p.keep hb x.p.z, x.h7.keep hb, x.h8.keep hb⟩
theorem hr_end {w W : World} {s7 s8 : Nat} {l kd f s c lv ph n0 n1 : Int} (x : HrP w W l kd f s c lv ph n0 n1) (h7 : HdAt W s7) (h8 : HdAt W s8) (A1 B1 C1 A2 B2 C2 : Int) (hh : s7 ≠ s8 ∧ w.heap.size + 3 ≤ s7 ∧ w.heap.size + 3 ≤ s8) :
    HrI w ((((((W.setCell ⟨s7, 0, none⟩ (.int .i64 A1)).setCell ⟨s7, 1, none⟩ (.int .i64 B1)).setCell ⟨s7, 2, none⟩ (.int .i64 C1)).setCell ⟨s8, 0, none⟩ (.int .i64 A2)).setCell ⟨s8, 1, none⟩ (.int .i64 B2)).setCell ⟨s8, 2, none⟩ (.int .i64 C2)) s7 s8 A1 B1 C1 A2 B2 C2 l kd f s c lv ph n0 n1 := by
  obtain ⟨hne, q7, q8⟩ := hh
  have k := far3 (s := s7) (u := .int .i64 A1) (v := .int .i64 B1) (x := .int .i64 C1) hne h8
  have hne2 : s8 ≠ s7 := fun e => hne e.symm
  refine ⟨(((((x.set q7).set q7).set q7).set q8).set q8).set q8, ⟨?_, ?_, ?_⟩, ⟨?_, ?_, ?_⟩⟩
  · exact cell_far hne2 (cell_far hne2 (cell_far hne2 (set_other (by decide) (set_other (by decide) (set_same h7.c0)))))
  · exact cell_far hne2 (cell_far hne2 (cell_far hne2 (set_other (by decide) (set_same (set_other (by decide) h7.c1)))))
  · exact cell_far hne2 (cell_far hne2 (cell_far hne2 (set_same (set_other (by decide) (set_other (by decide) h7.c2)))))
  · exact set_other (by decide) (set_other (by decide) (set_same k.c0))
  · exact set_other (by decide) (set_same (set_other (by decide) k.c1))
  · exact set_same (set_other (by decide) (set_other (by decide) k.c2))

set_option maxRecDepth 100000 in
set_option maxHeartbeats 16000000 in
theorem hear_any (l kd f s c lv ph n0 n1 : Int) (b off n cap : Nat) (zs : Nat → Smp) (w : World) (hn : 1 ≤ n) (hn2 : n ≤ 64) (hc : kd = 2 → 4 ≤ c ∧ c ≤ 64 ∧ c % 2 = 0) (hcn : (n : Int) = c) (hz : ∀ i, i < n → (0 ≤ (zs i).h ∧ (zs i).h ≤ 1023 ∧ 0 ≤ (zs i).v ∧ (zs i).v ≤ 1023) ∧ (0 ≤ (zs i).p ∧ (zs i).p < 65536) ∧ (0 ≤ (zs i).q ∧ (zs i).q < 65536)) (hlv : 0 ≤ lv ∧ lv ≤ 64) (hph : 0 ≤ ph ∧ ph ≤ 4096) (hno : 0 ≤ n0 ∧ n0 ≤ n1 ∧ n1 ≤ 1048576) (hS : SmpsAt w b off n zs) (hb : b < w.heap.size) :
    Calls Try.prog 63 #[.agg #[.int .i64 l, .int .i64 kd, .int .i64 f, .int .i64 s, .int .i64 c], .agg #[.int .i64 lv, .int .i64 ph, .int .i64 n0, .int .i64 n1], .slice (some ⟨b, off, none⟩) n cap] w fun e' w' => e' = .returned (.agg #[.int .i64 ((hearOf l kd c lv ph n0 n1 n zs) 0), .int .i64 ((hearOf l kd c lv ph n0 n1 n zs) 1), .int .i64 ((hearOf l kd c lv ph n0 n1 n zs) 2), .int .i64 ((hearOf l kd c lv ph n0 n1 n zs) 3), .int .i64 ((hearOf l kd c lv ph n0 n1 n zs) 4), .int .i64 ((hearOf l kd c lv ph n0 n1 n zs) 5), .int .i64 ((hearOf l kd c lv ph n0 n1 n zs) 6), .int .i64 ((hearOf l kd c lv ph n0 n1 n zs) 7), .int .i64 ((hearOf l kd c lv ph n0 n1 n zs) 8), .int .i64 ((hearOf l kd c lv ph n0 n1 n zs) 9), .int .i64 ((hearOf l kd c lv ph n0 n1 n zs) 10), .int .i64 ((hearOf l kd c lv ph n0 n1 n zs) 11), .int .i64 ((hearOf l kd c lv ph n0 n1 n zs) 12), .int .i64 ((hearOf l kd c lv ph n0 n1 n zs) 13)]) ∧ Below w.heap.size w w' := by
  have HZL := Lib.hid (show LevOk n zs from fun i hi => (hz i hi).1)
  obtain ⟨g, hg⟩ : ∃ g, g = hearOf l kd c lv ph n0 n1 n zs := ⟨_, rfl⟩
  rw [← hg]
  unfold hearOf at hg
  obtain ⟨x0, hx0⟩ : ∃ x, x = (valsB (stpTo zs kd c (n - 1)) false) := ⟨_, rfl⟩
  obtain ⟨x1, hx1⟩ : ∃ x, x = (valsB (stpTo zs kd c (n - 1)) true) := ⟨_, rfl⟩
  obtain ⟨x2, hx2⟩ : ∃ x, x = (trnTo zs n) := ⟨_, rfl⟩
  have HWP := Lib.hid (fun (e : Nat → Int) (W : World) (hW : Below w.heap.size w W) => wp_any e l kd f s c lv ph n0 n1 b off n cap zs W hn hn2 hc hcn (fun i hi => (hz i hi).2) hph (hS.keep hW hb) (Nat.lt_of_lt_of_le hb hW.size) x0 x1 x2 hx0 hx1 hx2)
  obtain ⟨A1, hA1⟩ : ∃ x, x = sumF (sqH zs (-lv)) n := ⟨_, rfl⟩
  obtain ⟨B1, hB1⟩ : ∃ x, x = sumF (sqV zs (-lv)) n := ⟨_, rfl⟩
  obtain ⟨C1, hC1⟩ : ∃ x, x = sumF (prd zs (-lv)) n := ⟨_, rfl⟩
  obtain ⟨A2, hA2⟩ : ∃ x, x = sumF (sqH zs lv) n := ⟨_, rfl⟩
  obtain ⟨B2, hB2⟩ : ∃ x, x = sumF (sqV zs lv) n := ⟨_, rfl⟩
  obtain ⟨C2, hC2⟩ : ∃ x, x = sumF (prd zs lv) n := ⟨_, rfl⟩
  have HA1 : Hid (∀ W : World, Below w.heap.size w W → Calls Try.prog 88 #[.slice (some ⟨b, off, none⟩) n cap, .int .i64 (-lv)] W fun e' w' => e' = .returned (.agg #[.int .i64 A1, .int .i64 B1, .int .i64 C1]) ∧ Below W.heap.size W w') := Lib.hid fun W hW => by rw [hA1, hB1, hC1]; exact add_any b off n cap zs (-lv) W hn2 (by omega) HZL.out (hS.keep hW hb) (Nat.lt_of_lt_of_le hb hW.size)
  have HA2 : Hid (∀ W : World, Below w.heap.size w W → Calls Try.prog 88 #[.slice (some ⟨b, off, none⟩) n cap, .int .i64 lv] W fun e' w' => e' = .returned (.agg #[.int .i64 A2, .int .i64 B2, .int .i64 C2]) ∧ Below W.heap.size W w') := Lib.hid fun W hW => by rw [hA2, hB2, hC2]; exact add_any b off n cap zs lv W hn2 (by omega) HZL.out (hS.keep hW hb) (Nat.lt_of_lt_of_le hb hW.size)
  have i1 : IntKind.i64.wrap (-lv) = -lv := IntWalk.i64_in _ (by omega)
  have bd1 := add_bd (e := -lv) HZL.out (by omega) hn2 (Nat.le_refl n)
  have bd2 := add_bd (e := lv) HZL.out (by omega) hn2 (Nat.le_refl n)
  rw [← hA1, ← hB1, ← hC1] at bd1
  rw [← hA2, ← hB2, ← hC2] at bd2
  obtain ⟨wH, hwH⟩ : ∃ x, mx (A1 / c - n1) = x := ⟨_, rfl⟩
  obtain ⟨wV, hwV⟩ : ∃ x, mx (B1 / c - n1) = x := ⟨_, rfl⟩
  obtain ⟨sH, hsH⟩ : ∃ x, mx (-(-A2 / c) - n0) = x := ⟨_, rfl⟩
  obtain ⟨sV, hsV⟩ : ∃ x, mx (-(-B2 / c) - n0) = x := ⟨_, rfl⟩
  rw [← hA1, ← hB1, ← hC1, ← hA2, ← hB2, ← hC2, ← hx0, ← hx1, ← hx2, hwH, hwV, hsH, hsV] at hg
  have hle : wH ≤ sH := by rw [← hwH, ← hsH]; exact pow_le (by omega) (by rw [hA1, hA2]; exact sumF_le fun i _ => sqH_le hlv.1 i) (by omega)
  have bwH : 0 ≤ wH ∧ wH ≤ 1000000000 := by rw [← hwH]; exact (mx_div bd1.1 (by omega) (by omega)).1
  have bwV : 0 ≤ wV ∧ wV ≤ 1000000000 := by rw [← hwV]; exact (mx_div bd1.2.1 (by omega) (by omega)).1
  have bsH : 0 ≤ sH ∧ sH ≤ 1000000000 := by rw [← hsH]; exact (mx_div bd2.1 (by omega) (by omega)).2
  have bsV : 0 ≤ sV ∧ sV ≤ 1000000000 := by rw [← hsV]; exact (mx_div bd2.2.1 (by omega) (by omega)).2
  have HGG := Lib.hid hg
  clear hg hx0 hx1 hx2
  clear hA1 hB1 hC1 hA2 hB2 hC2 hS hz hc
  go_enter Try.func63, Try.ntmps63
  go_wp2_with fail
  obtain ⟨U, hU⟩ : ∃ U, U = ((w.alloc (.cells #[.int .i64 l, .int .i64 kd, .int .i64 f, .int .i64 s, .int .i64 c] 23)).alloc (.cells #[.int .i64 lv, .int .i64 ph, .int .i64 n0, .int .i64 n1] 27)).alloc (.cells #[.int .i64 0, .int .i64 0, .int .i64 0, .int .i64 0, .int .i64 0, .int .i64 0, .int .i64 0, .int .i64 0, .int .i64 0, .int .i64 0, .int .i64 0, .int .i64 0, .int .i64 0, .int .i64 0] 30) := ⟨_, rfl⟩
  have P0 := HrP.new w l kd f s c lv ph n0 n1
  rw [← hU] at P0 ⊢
  clear hU
  have PU := Lib.hid (P0.keep ((Below.refl U.heap.size U).drew) P0.z)
  have qU : w.heap.size + 3 ≤ U.drew.heap.size := P0.z
  have HSS := Lib.hid (show (fun w' : World => w'.cell? ⟨w.heap.size + 1, 0, none⟩ = some (.int .i64 lv) ∧ Below U.drew.heap.size U.drew w') U.drew from ⟨P0.r0, Below.refl _ _⟩)
  clear P0
  go_cut [7, 8] from 12 to 20 (fun a b wx => ∃ s7 s8 : Nat, a = .pointer (some ⟨s7, 0, none⟩) ∧ b = .pointer (some ⟨s8, 0, none⟩) ∧ HrI w wx s7 s8 A1 B1 C1 A2 B2 C2 l kd f s c lv ph n0 n1)
  case first =>
    refine wp_region_held_tail (S := (fun w' : World => w'.cell? ⟨w.heap.size + 1, 0, none⟩ = some (.int .i64 lv) ∧ Below U.drew.heap.size U.drew w')) 11 (by kernel_rfl) (by kernel_rfl) HSS.out (fun hHeld => ?_)
    obtain ⟨D, hD⟩ : ∃ D, D = U.drew := ⟨_, rfl⟩
    rw [← hD] at hHeld PU qU ⊢
    clear hD HSS
    refine wpAnyH_take (i := 0) (v := ?v0_1) rfl (by kernel_rfl) (by kernel_rfl) (by kernel_rfl) (fun _ _ _ h => h) (Or.inl ⟨by rfl, ?hy0_1⟩) (by assumption) ?rest0_1
    case hy0_1 => (intro w hSw; (try dsimp only at hSw); go_simp; (try with_reducible rfl))
    try simp only [Act.put, List.setIfInBounds_toArray, List.set_cons_zero, List.set_cons_succ]
    refine wpAnyH_take (i := 1) (v := ?v1_2) rfl (by kernel_rfl) (by kernel_rfl) (by kernel_rfl) (fun _ _ _ h => h) (Or.inl ⟨by rfl, ?hy1_2⟩) (by assumption) ?rest1_2
    case hy1_2 => (intro w hSw; (try dsimp only at hSw); go_simp; (try with_reducible rfl))
    try simp only [Act.put, List.setIfInBounds_toArray, List.set_cons_zero, List.set_cons_succ]
    refine wpAnyH_take (i := 2) (v := ?v2_3) rfl (by kernel_rfl) (by kernel_rfl) (by kernel_rfl) (fun _ _ _ h => h) (Or.inl ⟨by rfl, ?hy2_3⟩) (by assumption) ?rest2_3
    case hy2_3 => (intro w hSw; (try dsimp only at hSw); go_simp; (try with_reducible rfl))
    try simp only [Act.put, List.setIfInBounds_toArray, List.set_cons_zero, List.set_cons_succ]
    refine wpAnyH_take (i := 3) (v := ?v3_4) rfl (by kernel_rfl) (by kernel_rfl) (by kernel_rfl) (fun _ _ _ h => h) (Or.inl ⟨by rfl, ?hy3_4⟩) (by assumption) ?rest3_4
    case hy3_4 => (intro w hSw; (try dsimp only at hSw); go_simp; (try with_reducible rfl))
    try simp only [Act.put, List.setIfInBounds_toArray, List.set_cons_zero, List.set_cons_succ]
    refine wpAnyH_take (i := 5) (v := ?v5_5) rfl (by kernel_rfl) (by kernel_rfl) (by kernel_rfl) (fun _ _ _ h => h) (Or.inl ⟨by rfl, ?hy5_5⟩) (by assumption) ?rest5_5
    case hy5_5 => (intro w hSw; (try dsimp only at hSw); go_simp; (try with_reducible rfl))
    try simp only [Act.put, List.setIfInBounds_toArray, List.set_cons_zero, List.set_cons_succ]
    refine wpAnyH_take (i := 6) (v := ?v6_6) rfl (by kernel_rfl) (by kernel_rfl) (by kernel_rfl) (fun _ _ _ h => h) (Or.inl ⟨by rfl, ?hy6_6⟩) (by assumption) ?rest6_6
    case hy6_6 => (intro w hSw; (try dsimp only at hSw); go_simp; (try with_reducible rfl))
    try simp only [Act.put, List.setIfInBounds_toArray, List.set_cons_zero, List.set_cons_succ]
    refine wpAnyH_take (i := 7) (v := ?v7_7) rfl (by kernel_rfl) (by kernel_rfl) (by kernel_rfl) (fun _ _ _ h => h) (Or.inl ⟨by rfl, ?hy7_7⟩) (by assumption) ?rest7_7
    case hy7_7 => (intro w hSw; (try dsimp only at hSw); go_simp; (try with_reducible rfl))
    try simp only [Act.put, List.setIfInBounds_toArray, List.set_cons_zero, List.set_cons_succ]
    refine wpAnyH_ready (rs := [4, 9, 10]) (by kernel_rfl) (by simp) ?_
    refine (AllReadyH.cons rfl (fun K hK => ?_) (AllReadyH.cons rfl (fun K hK => ?_) (AllReadyH.cons rfl (fun K hK => ?_) AllReadyH.nil)))
    · go_simp
      go_at_call 88
      refine (HA1.out _ PU.out.b).mono ?_
      rintro e' W1 ⟨rfl, hb1⟩
      refine hK.out _ _ ⟨keepW hb1 hHeld.1, hHeld.2.trans (hb1.mono hHeld.2.size)⟩ (fun hHeld => ?_)
      clear hK K
      try simp only [Act.put, List.setIfInBounds_toArray, List.set_cons_zero, List.set_cons_succ]
      have P1 := Lib.hid (PU.out.keep hb1 PU.out.z)
      have q1 := hb1.size
      refine wpAnyH_ready (rs := [8, 9, 10]) (by kernel_rfl) (by simp) ?_
      refine (AllReadyH.cons rfl (fun K hK => ?_) (AllReadyH.cons rfl (fun K hK => ?_) (AllReadyH.cons rfl (fun K hK => ?_) AllReadyH.nil)))
      · go_simp
        go_at_call 88
        refine (HA2.out _ P1.out.b).mono ?_
        rintro e' W2 ⟨rfl, hb2⟩
        refine hK.out _ _ ⟨keepW hb2 hHeld.1, hHeld.2.trans (hb2.mono hHeld.2.size)⟩ (fun hHeld => ?_)
        clear hK K
        try simp only [Act.put, List.setIfInBounds_toArray, List.set_cons_zero, List.set_cons_succ]
        have P2 := Lib.hid (P1.out.keep hb2 P1.out.z)
        have q2 := hb2.size
        refine wpAnyH_ready (rs := [9, 10]) (by kernel_rfl) (by simp) ?_
        refine (AllReadyH.cons rfl (fun K hK => ?_) (AllReadyH.cons rfl (fun K hK => ?_) AllReadyH.nil))
        · go_simp
          have hb3 : Below W2.heap.size W2 (W2.alloc (.cells #[.int .i64 0, .int .i64 0, .int .i64 0] 131)) := below_alloc _ _
          refine hK.out _ _ ⟨keepW hb3 hHeld.1, hHeld.2.trans (hb3.mono hHeld.2.size)⟩ (fun hHeld => ?_)
          clear hK K
          try simp only [Act.put, List.setIfInBounds_toArray, List.set_cons_zero, List.set_cons_succ]
          have N3 : HdAt (W2.alloc (.cells #[.int .i64 0, .int .i64 0, .int .i64 0] 131)) W2.heap.size := HdAt.new _
          obtain ⟨W3, hW3⟩ : ∃ W, W = W2.alloc (.cells #[.int .i64 0, .int .i64 0, .int .i64 0] 131) := ⟨_, rfl⟩
          rw [← hW3] at hHeld hb3 N3 ⊢
          have z3 : W2.heap.size < W3.heap.size := by rw [hW3, World.size_alloc]; omega
          have P3 := Lib.hid (P2.out.keep hb3 P2.out.z)
          have q3 := hb3.size
          have M3 := Lib.hid N3
          clear N3
          clear hW3
          refine wpAnyH_ready (rs := [10]) (by kernel_rfl) (by simp) ?_
          refine (AllReadyH.cons rfl (fun K hK => ?_) AllReadyH.nil)
          · go_simp
            have hb4 : Below W3.heap.size W3 (W3.alloc (.cells #[.int .i64 0, .int .i64 0, .int .i64 0] 131)) := below_alloc _ _
            refine hK.out _ _ ⟨keepW hb4 hHeld.1, hHeld.2.trans (hb4.mono hHeld.2.size)⟩ (fun hHeld => ?_)
            clear hK K
            try simp only [Act.put, List.setIfInBounds_toArray, List.set_cons_zero, List.set_cons_succ]
            have N4 : HdAt (W3.alloc (.cells #[.int .i64 0, .int .i64 0, .int .i64 0] 131)) W3.heap.size := HdAt.new _
            obtain ⟨W4, hW4⟩ : ∃ W, W = W3.alloc (.cells #[.int .i64 0, .int .i64 0, .int .i64 0] 131) := ⟨_, rfl⟩
            rw [← hW4] at hHeld hb4 N4 ⊢
            have z4 : W3.heap.size < W4.heap.size := by rw [hW4, World.size_alloc]; omega
            have P4 := Lib.hid (P3.out.keep hb4 P3.out.z)
            have q4 := hb4.size
            have H9_4 := Lib.hid (M3.out.keep hb4 (World.block_lt_of_cell? _ _ M3.out.c0))
            have M4 := Lib.hid N4
            clear N4
            clear hW4
            refine wpAnyH_done (by kernel_rfl) ?_ _
            change wpList _ _ _ _ _ _
            simp only [List.drop_succ_cons, List.drop_zero]
            have HF := Lib.hid (hr_end P4.out H9_4.out M4.out A1 B1 C1 A2 B2 C2 (by omega))
            obtain ⟨a0, a1, a2, af0, af1, af2⟩ := H9_4.out
            obtain ⟨b0, b1, b2, bf0, bf1, bf2⟩ := M4.out
            have y7 : W2.heap.size < W4.heap.size := World.block_lt_of_cell? _ _ a0
            have y8 : W3.heap.size < W4.heap.size := World.block_lt_of_cell? _ _ b0
            have HBB := Lib.hid (far3 (s := W2.heap.size) (b := W3.heap.size) (W := W4) (u := .int .i64 A1) (v := .int .i64 B1) (x := .int .i64 C1) (by omega) ⟨b0, b1, b2, bf0, bf1, bf2⟩)
            obtain ⟨d0, d1, d2, df0, df1, df2⟩ := HBB.out
            go_wp2_with fail
            go_meet
            exact ⟨W2.heap.size, W3.heap.size, rfl, rfl, HF.out⟩
        · go_simp
          have hb5 : Below W2.heap.size W2 (W2.alloc (.cells #[.int .i64 0, .int .i64 0, .int .i64 0] 131)) := below_alloc _ _
          refine hK.out _ _ ⟨keepW hb5 hHeld.1, hHeld.2.trans (hb5.mono hHeld.2.size)⟩ (fun hHeld => ?_)
          clear hK K
          try simp only [Act.put, List.setIfInBounds_toArray, List.set_cons_zero, List.set_cons_succ]
          have N5 : HdAt (W2.alloc (.cells #[.int .i64 0, .int .i64 0, .int .i64 0] 131)) W2.heap.size := HdAt.new _
          obtain ⟨W5, hW5⟩ : ∃ W, W = W2.alloc (.cells #[.int .i64 0, .int .i64 0, .int .i64 0] 131) := ⟨_, rfl⟩
          rw [← hW5] at hHeld hb5 N5 ⊢
          have z5 : W2.heap.size < W5.heap.size := by rw [hW5, World.size_alloc]; omega
          have P5 := Lib.hid (P2.out.keep hb5 P2.out.z)
          have q5 := hb5.size
          have M5 := Lib.hid N5
          clear N5
          clear hW5
          refine wpAnyH_ready (rs := [9]) (by kernel_rfl) (by simp) ?_
          refine (AllReadyH.cons rfl (fun K hK => ?_) AllReadyH.nil)
          · go_simp
            have hb6 : Below W5.heap.size W5 (W5.alloc (.cells #[.int .i64 0, .int .i64 0, .int .i64 0] 131)) := below_alloc _ _
            refine hK.out _ _ ⟨keepW hb6 hHeld.1, hHeld.2.trans (hb6.mono hHeld.2.size)⟩ (fun hHeld => ?_)
            clear hK K
            try simp only [Act.put, List.setIfInBounds_toArray, List.set_cons_zero, List.set_cons_succ]
            have N6 : HdAt (W5.alloc (.cells #[.int .i64 0, .int .i64 0, .int .i64 0] 131)) W5.heap.size := HdAt.new _
            obtain ⟨W6, hW6⟩ : ∃ W, W = W5.alloc (.cells #[.int .i64 0, .int .i64 0, .int .i64 0] 131) := ⟨_, rfl⟩
            rw [← hW6] at hHeld hb6 N6 ⊢
            have z6 : W5.heap.size < W6.heap.size := by rw [hW6, World.size_alloc]; omega
            have P6 := Lib.hid (P5.out.keep hb6 P5.out.z)
            have q6 := hb6.size
            have H10_6 := Lib.hid (M5.out.keep hb6 (World.block_lt_of_cell? _ _ M5.out.c0))
            have M6 := Lib.hid N6
            clear N6
            clear hW6
            refine wpAnyH_done (by kernel_rfl) ?_ _
            change wpList _ _ _ _ _ _
            simp only [List.drop_succ_cons, List.drop_zero]
            have HF := Lib.hid (hr_end P6.out M6.out H10_6.out A1 B1 C1 A2 B2 C2 (by omega))
            obtain ⟨a0, a1, a2, af0, af1, af2⟩ := M6.out
            obtain ⟨b0, b1, b2, bf0, bf1, bf2⟩ := H10_6.out
            have y7 : W5.heap.size < W6.heap.size := World.block_lt_of_cell? _ _ a0
            have y8 : W2.heap.size < W6.heap.size := World.block_lt_of_cell? _ _ b0
            have HBB := Lib.hid (far3 (s := W5.heap.size) (b := W2.heap.size) (W := W6) (u := .int .i64 A1) (v := .int .i64 B1) (x := .int .i64 C1) (by omega) ⟨b0, b1, b2, bf0, bf1, bf2⟩)
            obtain ⟨d0, d1, d2, df0, df1, df2⟩ := HBB.out
            go_wp2_with fail
            go_meet
            exact ⟨W5.heap.size, W2.heap.size, rfl, rfl, HF.out⟩
      · go_simp
        have hb7 : Below W1.heap.size W1 (W1.alloc (.cells #[.int .i64 0, .int .i64 0, .int .i64 0] 131)) := below_alloc _ _
        refine hK.out _ _ ⟨keepW hb7 hHeld.1, hHeld.2.trans (hb7.mono hHeld.2.size)⟩ (fun hHeld => ?_)
        clear hK K
        try simp only [Act.put, List.setIfInBounds_toArray, List.set_cons_zero, List.set_cons_succ]
        have N7 : HdAt (W1.alloc (.cells #[.int .i64 0, .int .i64 0, .int .i64 0] 131)) W1.heap.size := HdAt.new _
        obtain ⟨W7, hW7⟩ : ∃ W, W = W1.alloc (.cells #[.int .i64 0, .int .i64 0, .int .i64 0] 131) := ⟨_, rfl⟩
        rw [← hW7] at hHeld hb7 N7 ⊢
        have z7 : W1.heap.size < W7.heap.size := by rw [hW7, World.size_alloc]; omega
        have P7 := Lib.hid (P1.out.keep hb7 P1.out.z)
        have q7 := hb7.size
        have M7 := Lib.hid N7
        clear N7
        clear hW7
        refine wpAnyH_ready (rs := [8, 10]) (by kernel_rfl) (by simp) ?_
        refine (AllReadyH.cons rfl (fun K hK => ?_) (AllReadyH.cons rfl (fun K hK => ?_) AllReadyH.nil))
        · go_simp
          go_at_call 88
          refine (HA2.out _ P7.out.b).mono ?_
          rintro e' W8 ⟨rfl, hb8⟩
          refine hK.out _ _ ⟨keepW hb8 hHeld.1, hHeld.2.trans (hb8.mono hHeld.2.size)⟩ (fun hHeld => ?_)
          clear hK K
          try simp only [Act.put, List.setIfInBounds_toArray, List.set_cons_zero, List.set_cons_succ]
          have P8 := Lib.hid (P7.out.keep hb8 P7.out.z)
          have q8 := hb8.size
          have H9_8 := Lib.hid (M7.out.keep hb8 (World.block_lt_of_cell? _ _ M7.out.c0))
          refine wpAnyH_ready (rs := [10]) (by kernel_rfl) (by simp) ?_
          refine (AllReadyH.cons rfl (fun K hK => ?_) AllReadyH.nil)
          · go_simp
            have hb9 : Below W8.heap.size W8 (W8.alloc (.cells #[.int .i64 0, .int .i64 0, .int .i64 0] 131)) := below_alloc _ _
            refine hK.out _ _ ⟨keepW hb9 hHeld.1, hHeld.2.trans (hb9.mono hHeld.2.size)⟩ (fun hHeld => ?_)
            clear hK K
            try simp only [Act.put, List.setIfInBounds_toArray, List.set_cons_zero, List.set_cons_succ]
            have N9 : HdAt (W8.alloc (.cells #[.int .i64 0, .int .i64 0, .int .i64 0] 131)) W8.heap.size := HdAt.new _
            obtain ⟨W9, hW9⟩ : ∃ W, W = W8.alloc (.cells #[.int .i64 0, .int .i64 0, .int .i64 0] 131) := ⟨_, rfl⟩
            rw [← hW9] at hHeld hb9 N9 ⊢
            have z9 : W8.heap.size < W9.heap.size := by rw [hW9, World.size_alloc]; omega
            have P9 := Lib.hid (P8.out.keep hb9 P8.out.z)
            have q9 := hb9.size
            have H9_9 := Lib.hid (H9_8.out.keep hb9 (World.block_lt_of_cell? _ _ H9_8.out.c0))
            have M9 := Lib.hid N9
            clear N9
            clear hW9
            refine wpAnyH_done (by kernel_rfl) ?_ _
            change wpList _ _ _ _ _ _
            simp only [List.drop_succ_cons, List.drop_zero]
            have HF := Lib.hid (hr_end P9.out H9_9.out M9.out A1 B1 C1 A2 B2 C2 (by omega))
            obtain ⟨a0, a1, a2, af0, af1, af2⟩ := H9_9.out
            obtain ⟨b0, b1, b2, bf0, bf1, bf2⟩ := M9.out
            have y7 : W1.heap.size < W9.heap.size := World.block_lt_of_cell? _ _ a0
            have y8 : W8.heap.size < W9.heap.size := World.block_lt_of_cell? _ _ b0
            have HBB := Lib.hid (far3 (s := W1.heap.size) (b := W8.heap.size) (W := W9) (u := .int .i64 A1) (v := .int .i64 B1) (x := .int .i64 C1) (by omega) ⟨b0, b1, b2, bf0, bf1, bf2⟩)
            obtain ⟨d0, d1, d2, df0, df1, df2⟩ := HBB.out
            go_wp2_with fail
            go_meet
            exact ⟨W1.heap.size, W8.heap.size, rfl, rfl, HF.out⟩
        · go_simp
          have hb10 : Below W7.heap.size W7 (W7.alloc (.cells #[.int .i64 0, .int .i64 0, .int .i64 0] 131)) := below_alloc _ _
          refine hK.out _ _ ⟨keepW hb10 hHeld.1, hHeld.2.trans (hb10.mono hHeld.2.size)⟩ (fun hHeld => ?_)
          clear hK K
          try simp only [Act.put, List.setIfInBounds_toArray, List.set_cons_zero, List.set_cons_succ]
          have N10 : HdAt (W7.alloc (.cells #[.int .i64 0, .int .i64 0, .int .i64 0] 131)) W7.heap.size := HdAt.new _
          obtain ⟨W10, hW10⟩ : ∃ W, W = W7.alloc (.cells #[.int .i64 0, .int .i64 0, .int .i64 0] 131) := ⟨_, rfl⟩
          rw [← hW10] at hHeld hb10 N10 ⊢
          have z10 : W7.heap.size < W10.heap.size := by rw [hW10, World.size_alloc]; omega
          have P10 := Lib.hid (P7.out.keep hb10 P7.out.z)
          have q10 := hb10.size
          have H9_10 := Lib.hid (M7.out.keep hb10 (World.block_lt_of_cell? _ _ M7.out.c0))
          have M10 := Lib.hid N10
          clear N10
          clear hW10
          refine wpAnyH_ready (rs := [8]) (by kernel_rfl) (by simp) ?_
          refine (AllReadyH.cons rfl (fun K hK => ?_) AllReadyH.nil)
          · go_simp
            go_at_call 88
            refine (HA2.out _ P10.out.b).mono ?_
            rintro e' W11 ⟨rfl, hb11⟩
            refine hK.out _ _ ⟨keepW hb11 hHeld.1, hHeld.2.trans (hb11.mono hHeld.2.size)⟩ (fun hHeld => ?_)
            clear hK K
            try simp only [Act.put, List.setIfInBounds_toArray, List.set_cons_zero, List.set_cons_succ]
            have P11 := Lib.hid (P10.out.keep hb11 P10.out.z)
            have q11 := hb11.size
            have H9_11 := Lib.hid (H9_10.out.keep hb11 (World.block_lt_of_cell? _ _ H9_10.out.c0))
            have H10_11 := Lib.hid (M10.out.keep hb11 (World.block_lt_of_cell? _ _ M10.out.c0))
            refine wpAnyH_done (by kernel_rfl) ?_ _
            change wpList _ _ _ _ _ _
            simp only [List.drop_succ_cons, List.drop_zero]
            have HF := Lib.hid (hr_end P11.out H9_11.out H10_11.out A1 B1 C1 A2 B2 C2 (by omega))
            obtain ⟨a0, a1, a2, af0, af1, af2⟩ := H9_11.out
            obtain ⟨b0, b1, b2, bf0, bf1, bf2⟩ := H10_11.out
            have y7 : W1.heap.size < W11.heap.size := World.block_lt_of_cell? _ _ a0
            have y8 : W7.heap.size < W11.heap.size := World.block_lt_of_cell? _ _ b0
            have HBB := Lib.hid (far3 (s := W1.heap.size) (b := W7.heap.size) (W := W11) (u := .int .i64 A1) (v := .int .i64 B1) (x := .int .i64 C1) (by omega) ⟨b0, b1, b2, bf0, bf1, bf2⟩)
            obtain ⟨d0, d1, d2, df0, df1, df2⟩ := HBB.out
            go_wp2_with fail
            go_meet
            exact ⟨W1.heap.size, W7.heap.size, rfl, rfl, HF.out⟩
      · go_simp
        have hb12 : Below W1.heap.size W1 (W1.alloc (.cells #[.int .i64 0, .int .i64 0, .int .i64 0] 131)) := below_alloc _ _
        refine hK.out _ _ ⟨keepW hb12 hHeld.1, hHeld.2.trans (hb12.mono hHeld.2.size)⟩ (fun hHeld => ?_)
        clear hK K
        try simp only [Act.put, List.setIfInBounds_toArray, List.set_cons_zero, List.set_cons_succ]
        have N12 : HdAt (W1.alloc (.cells #[.int .i64 0, .int .i64 0, .int .i64 0] 131)) W1.heap.size := HdAt.new _
        obtain ⟨W12, hW12⟩ : ∃ W, W = W1.alloc (.cells #[.int .i64 0, .int .i64 0, .int .i64 0] 131) := ⟨_, rfl⟩
        rw [← hW12] at hHeld hb12 N12 ⊢
        have z12 : W1.heap.size < W12.heap.size := by rw [hW12, World.size_alloc]; omega
        have P12 := Lib.hid (P1.out.keep hb12 P1.out.z)
        have q12 := hb12.size
        have M12 := Lib.hid N12
        clear N12
        clear hW12
        refine wpAnyH_ready (rs := [8, 9]) (by kernel_rfl) (by simp) ?_
        refine (AllReadyH.cons rfl (fun K hK => ?_) (AllReadyH.cons rfl (fun K hK => ?_) AllReadyH.nil))
        · go_simp
          go_at_call 88
          refine (HA2.out _ P12.out.b).mono ?_
          rintro e' W13 ⟨rfl, hb13⟩
          refine hK.out _ _ ⟨keepW hb13 hHeld.1, hHeld.2.trans (hb13.mono hHeld.2.size)⟩ (fun hHeld => ?_)
          clear hK K
          try simp only [Act.put, List.setIfInBounds_toArray, List.set_cons_zero, List.set_cons_succ]
          have P13 := Lib.hid (P12.out.keep hb13 P12.out.z)
          have q13 := hb13.size
          have H10_13 := Lib.hid (M12.out.keep hb13 (World.block_lt_of_cell? _ _ M12.out.c0))
          refine wpAnyH_ready (rs := [9]) (by kernel_rfl) (by simp) ?_
          refine (AllReadyH.cons rfl (fun K hK => ?_) AllReadyH.nil)
          · go_simp
            have hb14 : Below W13.heap.size W13 (W13.alloc (.cells #[.int .i64 0, .int .i64 0, .int .i64 0] 131)) := below_alloc _ _
            refine hK.out _ _ ⟨keepW hb14 hHeld.1, hHeld.2.trans (hb14.mono hHeld.2.size)⟩ (fun hHeld => ?_)
            clear hK K
            try simp only [Act.put, List.setIfInBounds_toArray, List.set_cons_zero, List.set_cons_succ]
            have N14 : HdAt (W13.alloc (.cells #[.int .i64 0, .int .i64 0, .int .i64 0] 131)) W13.heap.size := HdAt.new _
            obtain ⟨W14, hW14⟩ : ∃ W, W = W13.alloc (.cells #[.int .i64 0, .int .i64 0, .int .i64 0] 131) := ⟨_, rfl⟩
            rw [← hW14] at hHeld hb14 N14 ⊢
            have z14 : W13.heap.size < W14.heap.size := by rw [hW14, World.size_alloc]; omega
            have P14 := Lib.hid (P13.out.keep hb14 P13.out.z)
            have q14 := hb14.size
            have H10_14 := Lib.hid (H10_13.out.keep hb14 (World.block_lt_of_cell? _ _ H10_13.out.c0))
            have M14 := Lib.hid N14
            clear N14
            clear hW14
            refine wpAnyH_done (by kernel_rfl) ?_ _
            change wpList _ _ _ _ _ _
            simp only [List.drop_succ_cons, List.drop_zero]
            have HF := Lib.hid (hr_end P14.out M14.out H10_14.out A1 B1 C1 A2 B2 C2 (by omega))
            obtain ⟨a0, a1, a2, af0, af1, af2⟩ := M14.out
            obtain ⟨b0, b1, b2, bf0, bf1, bf2⟩ := H10_14.out
            have y7 : W13.heap.size < W14.heap.size := World.block_lt_of_cell? _ _ a0
            have y8 : W1.heap.size < W14.heap.size := World.block_lt_of_cell? _ _ b0
            have HBB := Lib.hid (far3 (s := W13.heap.size) (b := W1.heap.size) (W := W14) (u := .int .i64 A1) (v := .int .i64 B1) (x := .int .i64 C1) (by omega) ⟨b0, b1, b2, bf0, bf1, bf2⟩)
            obtain ⟨d0, d1, d2, df0, df1, df2⟩ := HBB.out
            go_wp2_with fail
            go_meet
            exact ⟨W13.heap.size, W1.heap.size, rfl, rfl, HF.out⟩
        · go_simp
          have hb15 : Below W12.heap.size W12 (W12.alloc (.cells #[.int .i64 0, .int .i64 0, .int .i64 0] 131)) := below_alloc _ _
          refine hK.out _ _ ⟨keepW hb15 hHeld.1, hHeld.2.trans (hb15.mono hHeld.2.size)⟩ (fun hHeld => ?_)
          clear hK K
          try simp only [Act.put, List.setIfInBounds_toArray, List.set_cons_zero, List.set_cons_succ]
          have N15 : HdAt (W12.alloc (.cells #[.int .i64 0, .int .i64 0, .int .i64 0] 131)) W12.heap.size := HdAt.new _
          obtain ⟨W15, hW15⟩ : ∃ W, W = W12.alloc (.cells #[.int .i64 0, .int .i64 0, .int .i64 0] 131) := ⟨_, rfl⟩
          rw [← hW15] at hHeld hb15 N15 ⊢
          have z15 : W12.heap.size < W15.heap.size := by rw [hW15, World.size_alloc]; omega
          have P15 := Lib.hid (P12.out.keep hb15 P12.out.z)
          have q15 := hb15.size
          have H10_15 := Lib.hid (M12.out.keep hb15 (World.block_lt_of_cell? _ _ M12.out.c0))
          have M15 := Lib.hid N15
          clear N15
          clear hW15
          refine wpAnyH_ready (rs := [8]) (by kernel_rfl) (by simp) ?_
          refine (AllReadyH.cons rfl (fun K hK => ?_) AllReadyH.nil)
          · go_simp
            go_at_call 88
            refine (HA2.out _ P15.out.b).mono ?_
            rintro e' W16 ⟨rfl, hb16⟩
            refine hK.out _ _ ⟨keepW hb16 hHeld.1, hHeld.2.trans (hb16.mono hHeld.2.size)⟩ (fun hHeld => ?_)
            clear hK K
            try simp only [Act.put, List.setIfInBounds_toArray, List.set_cons_zero, List.set_cons_succ]
            have P16 := Lib.hid (P15.out.keep hb16 P15.out.z)
            have q16 := hb16.size
            have H9_16 := Lib.hid (M15.out.keep hb16 (World.block_lt_of_cell? _ _ M15.out.c0))
            have H10_16 := Lib.hid (H10_15.out.keep hb16 (World.block_lt_of_cell? _ _ H10_15.out.c0))
            refine wpAnyH_done (by kernel_rfl) ?_ _
            change wpList _ _ _ _ _ _
            simp only [List.drop_succ_cons, List.drop_zero]
            have HF := Lib.hid (hr_end P16.out H9_16.out H10_16.out A1 B1 C1 A2 B2 C2 (by omega))
            obtain ⟨a0, a1, a2, af0, af1, af2⟩ := H9_16.out
            obtain ⟨b0, b1, b2, bf0, bf1, bf2⟩ := H10_16.out
            have y7 : W12.heap.size < W16.heap.size := World.block_lt_of_cell? _ _ a0
            have y8 : W1.heap.size < W16.heap.size := World.block_lt_of_cell? _ _ b0
            have HBB := Lib.hid (far3 (s := W12.heap.size) (b := W1.heap.size) (W := W16) (u := .int .i64 A1) (v := .int .i64 B1) (x := .int .i64 C1) (by omega) ⟨b0, b1, b2, bf0, bf1, bf2⟩)
            obtain ⟨d0, d1, d2, df0, df1, df2⟩ := HBB.out
            go_wp2_with fail
            go_meet
            exact ⟨W12.heap.size, W1.heap.size, rfl, rfl, HF.out⟩
    · go_simp
      have hb17 : Below D.heap.size D (D.alloc (.cells #[.int .i64 0, .int .i64 0, .int .i64 0] 131)) := below_alloc _ _
      refine hK.out _ _ ⟨keepW hb17 hHeld.1, hHeld.2.trans (hb17.mono hHeld.2.size)⟩ (fun hHeld => ?_)
      clear hK K
      try simp only [Act.put, List.setIfInBounds_toArray, List.set_cons_zero, List.set_cons_succ]
      have N17 : HdAt (D.alloc (.cells #[.int .i64 0, .int .i64 0, .int .i64 0] 131)) D.heap.size := HdAt.new _
      obtain ⟨W17, hW17⟩ : ∃ W, W = D.alloc (.cells #[.int .i64 0, .int .i64 0, .int .i64 0] 131) := ⟨_, rfl⟩
      rw [← hW17] at hHeld hb17 N17 ⊢
      have z17 : D.heap.size < W17.heap.size := by rw [hW17, World.size_alloc]; omega
      have P17 := Lib.hid (PU.out.keep hb17 PU.out.z)
      have q17 := hb17.size
      have M17 := Lib.hid N17
      clear N17
      clear hW17
      refine wpAnyH_ready (rs := [4, 10]) (by kernel_rfl) (by simp) ?_
      refine (AllReadyH.cons rfl (fun K hK => ?_) (AllReadyH.cons rfl (fun K hK => ?_) AllReadyH.nil))
      · go_simp
        go_at_call 88
        refine (HA1.out _ P17.out.b).mono ?_
        rintro e' W18 ⟨rfl, hb18⟩
        refine hK.out _ _ ⟨keepW hb18 hHeld.1, hHeld.2.trans (hb18.mono hHeld.2.size)⟩ (fun hHeld => ?_)
        clear hK K
        try simp only [Act.put, List.setIfInBounds_toArray, List.set_cons_zero, List.set_cons_succ]
        have P18 := Lib.hid (P17.out.keep hb18 P17.out.z)
        have q18 := hb18.size
        have H9_18 := Lib.hid (M17.out.keep hb18 (World.block_lt_of_cell? _ _ M17.out.c0))
        refine wpAnyH_ready (rs := [8, 10]) (by kernel_rfl) (by simp) ?_
        refine (AllReadyH.cons rfl (fun K hK => ?_) (AllReadyH.cons rfl (fun K hK => ?_) AllReadyH.nil))
        · go_simp
          go_at_call 88
          refine (HA2.out _ P18.out.b).mono ?_
          rintro e' W19 ⟨rfl, hb19⟩
          refine hK.out _ _ ⟨keepW hb19 hHeld.1, hHeld.2.trans (hb19.mono hHeld.2.size)⟩ (fun hHeld => ?_)
          clear hK K
          try simp only [Act.put, List.setIfInBounds_toArray, List.set_cons_zero, List.set_cons_succ]
          have P19 := Lib.hid (P18.out.keep hb19 P18.out.z)
          have q19 := hb19.size
          have H9_19 := Lib.hid (H9_18.out.keep hb19 (World.block_lt_of_cell? _ _ H9_18.out.c0))
          refine wpAnyH_ready (rs := [10]) (by kernel_rfl) (by simp) ?_
          refine (AllReadyH.cons rfl (fun K hK => ?_) AllReadyH.nil)
          · go_simp
            have hb20 : Below W19.heap.size W19 (W19.alloc (.cells #[.int .i64 0, .int .i64 0, .int .i64 0] 131)) := below_alloc _ _
            refine hK.out _ _ ⟨keepW hb20 hHeld.1, hHeld.2.trans (hb20.mono hHeld.2.size)⟩ (fun hHeld => ?_)
            clear hK K
            try simp only [Act.put, List.setIfInBounds_toArray, List.set_cons_zero, List.set_cons_succ]
            have N20 : HdAt (W19.alloc (.cells #[.int .i64 0, .int .i64 0, .int .i64 0] 131)) W19.heap.size := HdAt.new _
            obtain ⟨W20, hW20⟩ : ∃ W, W = W19.alloc (.cells #[.int .i64 0, .int .i64 0, .int .i64 0] 131) := ⟨_, rfl⟩
            rw [← hW20] at hHeld hb20 N20 ⊢
            have z20 : W19.heap.size < W20.heap.size := by rw [hW20, World.size_alloc]; omega
            have P20 := Lib.hid (P19.out.keep hb20 P19.out.z)
            have q20 := hb20.size
            have H9_20 := Lib.hid (H9_19.out.keep hb20 (World.block_lt_of_cell? _ _ H9_19.out.c0))
            have M20 := Lib.hid N20
            clear N20
            clear hW20
            refine wpAnyH_done (by kernel_rfl) ?_ _
            change wpList _ _ _ _ _ _
            simp only [List.drop_succ_cons, List.drop_zero]
            have HF := Lib.hid (hr_end P20.out H9_20.out M20.out A1 B1 C1 A2 B2 C2 (by omega))
            obtain ⟨a0, a1, a2, af0, af1, af2⟩ := H9_20.out
            obtain ⟨b0, b1, b2, bf0, bf1, bf2⟩ := M20.out
            have y7 : D.heap.size < W20.heap.size := World.block_lt_of_cell? _ _ a0
            have y8 : W19.heap.size < W20.heap.size := World.block_lt_of_cell? _ _ b0
            have HBB := Lib.hid (far3 (s := D.heap.size) (b := W19.heap.size) (W := W20) (u := .int .i64 A1) (v := .int .i64 B1) (x := .int .i64 C1) (by omega) ⟨b0, b1, b2, bf0, bf1, bf2⟩)
            obtain ⟨d0, d1, d2, df0, df1, df2⟩ := HBB.out
            go_wp2_with fail
            go_meet
            exact ⟨D.heap.size, W19.heap.size, rfl, rfl, HF.out⟩
        · go_simp
          have hb21 : Below W18.heap.size W18 (W18.alloc (.cells #[.int .i64 0, .int .i64 0, .int .i64 0] 131)) := below_alloc _ _
          refine hK.out _ _ ⟨keepW hb21 hHeld.1, hHeld.2.trans (hb21.mono hHeld.2.size)⟩ (fun hHeld => ?_)
          clear hK K
          try simp only [Act.put, List.setIfInBounds_toArray, List.set_cons_zero, List.set_cons_succ]
          have N21 : HdAt (W18.alloc (.cells #[.int .i64 0, .int .i64 0, .int .i64 0] 131)) W18.heap.size := HdAt.new _
          obtain ⟨W21, hW21⟩ : ∃ W, W = W18.alloc (.cells #[.int .i64 0, .int .i64 0, .int .i64 0] 131) := ⟨_, rfl⟩
          rw [← hW21] at hHeld hb21 N21 ⊢
          have z21 : W18.heap.size < W21.heap.size := by rw [hW21, World.size_alloc]; omega
          have P21 := Lib.hid (P18.out.keep hb21 P18.out.z)
          have q21 := hb21.size
          have H9_21 := Lib.hid (H9_18.out.keep hb21 (World.block_lt_of_cell? _ _ H9_18.out.c0))
          have M21 := Lib.hid N21
          clear N21
          clear hW21
          refine wpAnyH_ready (rs := [8]) (by kernel_rfl) (by simp) ?_
          refine (AllReadyH.cons rfl (fun K hK => ?_) AllReadyH.nil)
          · go_simp
            go_at_call 88
            refine (HA2.out _ P21.out.b).mono ?_
            rintro e' W22 ⟨rfl, hb22⟩
            refine hK.out _ _ ⟨keepW hb22 hHeld.1, hHeld.2.trans (hb22.mono hHeld.2.size)⟩ (fun hHeld => ?_)
            clear hK K
            try simp only [Act.put, List.setIfInBounds_toArray, List.set_cons_zero, List.set_cons_succ]
            have P22 := Lib.hid (P21.out.keep hb22 P21.out.z)
            have q22 := hb22.size
            have H9_22 := Lib.hid (H9_21.out.keep hb22 (World.block_lt_of_cell? _ _ H9_21.out.c0))
            have H10_22 := Lib.hid (M21.out.keep hb22 (World.block_lt_of_cell? _ _ M21.out.c0))
            refine wpAnyH_done (by kernel_rfl) ?_ _
            change wpList _ _ _ _ _ _
            simp only [List.drop_succ_cons, List.drop_zero]
            have HF := Lib.hid (hr_end P22.out H9_22.out H10_22.out A1 B1 C1 A2 B2 C2 (by omega))
            obtain ⟨a0, a1, a2, af0, af1, af2⟩ := H9_22.out
            obtain ⟨b0, b1, b2, bf0, bf1, bf2⟩ := H10_22.out
            have y7 : D.heap.size < W22.heap.size := World.block_lt_of_cell? _ _ a0
            have y8 : W18.heap.size < W22.heap.size := World.block_lt_of_cell? _ _ b0
            have HBB := Lib.hid (far3 (s := D.heap.size) (b := W18.heap.size) (W := W22) (u := .int .i64 A1) (v := .int .i64 B1) (x := .int .i64 C1) (by omega) ⟨b0, b1, b2, bf0, bf1, bf2⟩)
            obtain ⟨d0, d1, d2, df0, df1, df2⟩ := HBB.out
            go_wp2_with fail
            go_meet
            exact ⟨D.heap.size, W18.heap.size, rfl, rfl, HF.out⟩
      · go_simp
        have hb23 : Below W17.heap.size W17 (W17.alloc (.cells #[.int .i64 0, .int .i64 0, .int .i64 0] 131)) := below_alloc _ _
        refine hK.out _ _ ⟨keepW hb23 hHeld.1, hHeld.2.trans (hb23.mono hHeld.2.size)⟩ (fun hHeld => ?_)
        clear hK K
        try simp only [Act.put, List.setIfInBounds_toArray, List.set_cons_zero, List.set_cons_succ]
        have N23 : HdAt (W17.alloc (.cells #[.int .i64 0, .int .i64 0, .int .i64 0] 131)) W17.heap.size := HdAt.new _
        obtain ⟨W23, hW23⟩ : ∃ W, W = W17.alloc (.cells #[.int .i64 0, .int .i64 0, .int .i64 0] 131) := ⟨_, rfl⟩
        rw [← hW23] at hHeld hb23 N23 ⊢
        have z23 : W17.heap.size < W23.heap.size := by rw [hW23, World.size_alloc]; omega
        have P23 := Lib.hid (P17.out.keep hb23 P17.out.z)
        have q23 := hb23.size
        have H9_23 := Lib.hid (M17.out.keep hb23 (World.block_lt_of_cell? _ _ M17.out.c0))
        have M23 := Lib.hid N23
        clear N23
        clear hW23
        refine wpAnyH_ready (rs := [4]) (by kernel_rfl) (by simp) ?_
        refine (AllReadyH.cons rfl (fun K hK => ?_) AllReadyH.nil)
        · go_simp
          go_at_call 88
          refine (HA1.out _ P23.out.b).mono ?_
          rintro e' W24 ⟨rfl, hb24⟩
          refine hK.out _ _ ⟨keepW hb24 hHeld.1, hHeld.2.trans (hb24.mono hHeld.2.size)⟩ (fun hHeld => ?_)
          clear hK K
          try simp only [Act.put, List.setIfInBounds_toArray, List.set_cons_zero, List.set_cons_succ]
          have P24 := Lib.hid (P23.out.keep hb24 P23.out.z)
          have q24 := hb24.size
          have H9_24 := Lib.hid (H9_23.out.keep hb24 (World.block_lt_of_cell? _ _ H9_23.out.c0))
          have H10_24 := Lib.hid (M23.out.keep hb24 (World.block_lt_of_cell? _ _ M23.out.c0))
          refine wpAnyH_ready (rs := [8]) (by kernel_rfl) (by simp) ?_
          refine (AllReadyH.cons rfl (fun K hK => ?_) AllReadyH.nil)
          · go_simp
            go_at_call 88
            refine (HA2.out _ P24.out.b).mono ?_
            rintro e' W25 ⟨rfl, hb25⟩
            refine hK.out _ _ ⟨keepW hb25 hHeld.1, hHeld.2.trans (hb25.mono hHeld.2.size)⟩ (fun hHeld => ?_)
            clear hK K
            try simp only [Act.put, List.setIfInBounds_toArray, List.set_cons_zero, List.set_cons_succ]
            have P25 := Lib.hid (P24.out.keep hb25 P24.out.z)
            have q25 := hb25.size
            have H9_25 := Lib.hid (H9_24.out.keep hb25 (World.block_lt_of_cell? _ _ H9_24.out.c0))
            have H10_25 := Lib.hid (H10_24.out.keep hb25 (World.block_lt_of_cell? _ _ H10_24.out.c0))
            refine wpAnyH_done (by kernel_rfl) ?_ _
            change wpList _ _ _ _ _ _
            simp only [List.drop_succ_cons, List.drop_zero]
            have HF := Lib.hid (hr_end P25.out H9_25.out H10_25.out A1 B1 C1 A2 B2 C2 (by omega))
            obtain ⟨a0, a1, a2, af0, af1, af2⟩ := H9_25.out
            obtain ⟨b0, b1, b2, bf0, bf1, bf2⟩ := H10_25.out
            have y7 : D.heap.size < W25.heap.size := World.block_lt_of_cell? _ _ a0
            have y8 : W17.heap.size < W25.heap.size := World.block_lt_of_cell? _ _ b0
            have HBB := Lib.hid (far3 (s := D.heap.size) (b := W17.heap.size) (W := W25) (u := .int .i64 A1) (v := .int .i64 B1) (x := .int .i64 C1) (by omega) ⟨b0, b1, b2, bf0, bf1, bf2⟩)
            obtain ⟨d0, d1, d2, df0, df1, df2⟩ := HBB.out
            go_wp2_with fail
            go_meet
            exact ⟨D.heap.size, W17.heap.size, rfl, rfl, HF.out⟩
    · go_simp
      have hb26 : Below D.heap.size D (D.alloc (.cells #[.int .i64 0, .int .i64 0, .int .i64 0] 131)) := below_alloc _ _
      refine hK.out _ _ ⟨keepW hb26 hHeld.1, hHeld.2.trans (hb26.mono hHeld.2.size)⟩ (fun hHeld => ?_)
      clear hK K
      try simp only [Act.put, List.setIfInBounds_toArray, List.set_cons_zero, List.set_cons_succ]
      have N26 : HdAt (D.alloc (.cells #[.int .i64 0, .int .i64 0, .int .i64 0] 131)) D.heap.size := HdAt.new _
      obtain ⟨W26, hW26⟩ : ∃ W, W = D.alloc (.cells #[.int .i64 0, .int .i64 0, .int .i64 0] 131) := ⟨_, rfl⟩
      rw [← hW26] at hHeld hb26 N26 ⊢
      have z26 : D.heap.size < W26.heap.size := by rw [hW26, World.size_alloc]; omega
      have P26 := Lib.hid (PU.out.keep hb26 PU.out.z)
      have q26 := hb26.size
      have M26 := Lib.hid N26
      clear N26
      clear hW26
      refine wpAnyH_ready (rs := [4, 9]) (by kernel_rfl) (by simp) ?_
      refine (AllReadyH.cons rfl (fun K hK => ?_) (AllReadyH.cons rfl (fun K hK => ?_) AllReadyH.nil))
      · go_simp
        go_at_call 88
        refine (HA1.out _ P26.out.b).mono ?_
        rintro e' W27 ⟨rfl, hb27⟩
        refine hK.out _ _ ⟨keepW hb27 hHeld.1, hHeld.2.trans (hb27.mono hHeld.2.size)⟩ (fun hHeld => ?_)
        clear hK K
        try simp only [Act.put, List.setIfInBounds_toArray, List.set_cons_zero, List.set_cons_succ]
        have P27 := Lib.hid (P26.out.keep hb27 P26.out.z)
        have q27 := hb27.size
        have H10_27 := Lib.hid (M26.out.keep hb27 (World.block_lt_of_cell? _ _ M26.out.c0))
        refine wpAnyH_ready (rs := [8, 9]) (by kernel_rfl) (by simp) ?_
        refine (AllReadyH.cons rfl (fun K hK => ?_) (AllReadyH.cons rfl (fun K hK => ?_) AllReadyH.nil))
        · go_simp
          go_at_call 88
          refine (HA2.out _ P27.out.b).mono ?_
          rintro e' W28 ⟨rfl, hb28⟩
          refine hK.out _ _ ⟨keepW hb28 hHeld.1, hHeld.2.trans (hb28.mono hHeld.2.size)⟩ (fun hHeld => ?_)
          clear hK K
          try simp only [Act.put, List.setIfInBounds_toArray, List.set_cons_zero, List.set_cons_succ]
          have P28 := Lib.hid (P27.out.keep hb28 P27.out.z)
          have q28 := hb28.size
          have H10_28 := Lib.hid (H10_27.out.keep hb28 (World.block_lt_of_cell? _ _ H10_27.out.c0))
          refine wpAnyH_ready (rs := [9]) (by kernel_rfl) (by simp) ?_
          refine (AllReadyH.cons rfl (fun K hK => ?_) AllReadyH.nil)
          · go_simp
            have hb29 : Below W28.heap.size W28 (W28.alloc (.cells #[.int .i64 0, .int .i64 0, .int .i64 0] 131)) := below_alloc _ _
            refine hK.out _ _ ⟨keepW hb29 hHeld.1, hHeld.2.trans (hb29.mono hHeld.2.size)⟩ (fun hHeld => ?_)
            clear hK K
            try simp only [Act.put, List.setIfInBounds_toArray, List.set_cons_zero, List.set_cons_succ]
            have N29 : HdAt (W28.alloc (.cells #[.int .i64 0, .int .i64 0, .int .i64 0] 131)) W28.heap.size := HdAt.new _
            obtain ⟨W29, hW29⟩ : ∃ W, W = W28.alloc (.cells #[.int .i64 0, .int .i64 0, .int .i64 0] 131) := ⟨_, rfl⟩
            rw [← hW29] at hHeld hb29 N29 ⊢
            have z29 : W28.heap.size < W29.heap.size := by rw [hW29, World.size_alloc]; omega
            have P29 := Lib.hid (P28.out.keep hb29 P28.out.z)
            have q29 := hb29.size
            have H10_29 := Lib.hid (H10_28.out.keep hb29 (World.block_lt_of_cell? _ _ H10_28.out.c0))
            have M29 := Lib.hid N29
            clear N29
            clear hW29
            refine wpAnyH_done (by kernel_rfl) ?_ _
            change wpList _ _ _ _ _ _
            simp only [List.drop_succ_cons, List.drop_zero]
            have HF := Lib.hid (hr_end P29.out M29.out H10_29.out A1 B1 C1 A2 B2 C2 (by omega))
            obtain ⟨a0, a1, a2, af0, af1, af2⟩ := M29.out
            obtain ⟨b0, b1, b2, bf0, bf1, bf2⟩ := H10_29.out
            have y7 : W28.heap.size < W29.heap.size := World.block_lt_of_cell? _ _ a0
            have y8 : D.heap.size < W29.heap.size := World.block_lt_of_cell? _ _ b0
            have HBB := Lib.hid (far3 (s := W28.heap.size) (b := D.heap.size) (W := W29) (u := .int .i64 A1) (v := .int .i64 B1) (x := .int .i64 C1) (by omega) ⟨b0, b1, b2, bf0, bf1, bf2⟩)
            obtain ⟨d0, d1, d2, df0, df1, df2⟩ := HBB.out
            go_wp2_with fail
            go_meet
            exact ⟨W28.heap.size, D.heap.size, rfl, rfl, HF.out⟩
        · go_simp
          have hb30 : Below W27.heap.size W27 (W27.alloc (.cells #[.int .i64 0, .int .i64 0, .int .i64 0] 131)) := below_alloc _ _
          refine hK.out _ _ ⟨keepW hb30 hHeld.1, hHeld.2.trans (hb30.mono hHeld.2.size)⟩ (fun hHeld => ?_)
          clear hK K
          try simp only [Act.put, List.setIfInBounds_toArray, List.set_cons_zero, List.set_cons_succ]
          have N30 : HdAt (W27.alloc (.cells #[.int .i64 0, .int .i64 0, .int .i64 0] 131)) W27.heap.size := HdAt.new _
          obtain ⟨W30, hW30⟩ : ∃ W, W = W27.alloc (.cells #[.int .i64 0, .int .i64 0, .int .i64 0] 131) := ⟨_, rfl⟩
          rw [← hW30] at hHeld hb30 N30 ⊢
          have z30 : W27.heap.size < W30.heap.size := by rw [hW30, World.size_alloc]; omega
          have P30 := Lib.hid (P27.out.keep hb30 P27.out.z)
          have q30 := hb30.size
          have H10_30 := Lib.hid (H10_27.out.keep hb30 (World.block_lt_of_cell? _ _ H10_27.out.c0))
          have M30 := Lib.hid N30
          clear N30
          clear hW30
          refine wpAnyH_ready (rs := [8]) (by kernel_rfl) (by simp) ?_
          refine (AllReadyH.cons rfl (fun K hK => ?_) AllReadyH.nil)
          · go_simp
            go_at_call 88
            refine (HA2.out _ P30.out.b).mono ?_
            rintro e' W31 ⟨rfl, hb31⟩
            refine hK.out _ _ ⟨keepW hb31 hHeld.1, hHeld.2.trans (hb31.mono hHeld.2.size)⟩ (fun hHeld => ?_)
            clear hK K
            try simp only [Act.put, List.setIfInBounds_toArray, List.set_cons_zero, List.set_cons_succ]
            have P31 := Lib.hid (P30.out.keep hb31 P30.out.z)
            have q31 := hb31.size
            have H9_31 := Lib.hid (M30.out.keep hb31 (World.block_lt_of_cell? _ _ M30.out.c0))
            have H10_31 := Lib.hid (H10_30.out.keep hb31 (World.block_lt_of_cell? _ _ H10_30.out.c0))
            refine wpAnyH_done (by kernel_rfl) ?_ _
            change wpList _ _ _ _ _ _
            simp only [List.drop_succ_cons, List.drop_zero]
            have HF := Lib.hid (hr_end P31.out H9_31.out H10_31.out A1 B1 C1 A2 B2 C2 (by omega))
            obtain ⟨a0, a1, a2, af0, af1, af2⟩ := H9_31.out
            obtain ⟨b0, b1, b2, bf0, bf1, bf2⟩ := H10_31.out
            have y7 : W27.heap.size < W31.heap.size := World.block_lt_of_cell? _ _ a0
            have y8 : D.heap.size < W31.heap.size := World.block_lt_of_cell? _ _ b0
            have HBB := Lib.hid (far3 (s := W27.heap.size) (b := D.heap.size) (W := W31) (u := .int .i64 A1) (v := .int .i64 B1) (x := .int .i64 C1) (by omega) ⟨b0, b1, b2, bf0, bf1, bf2⟩)
            obtain ⟨d0, d1, d2, df0, df1, df2⟩ := HBB.out
            go_wp2_with fail
            go_meet
            exact ⟨W27.heap.size, D.heap.size, rfl, rfl, HF.out⟩
      · go_simp
        have hb32 : Below W26.heap.size W26 (W26.alloc (.cells #[.int .i64 0, .int .i64 0, .int .i64 0] 131)) := below_alloc _ _
        refine hK.out _ _ ⟨keepW hb32 hHeld.1, hHeld.2.trans (hb32.mono hHeld.2.size)⟩ (fun hHeld => ?_)
        clear hK K
        try simp only [Act.put, List.setIfInBounds_toArray, List.set_cons_zero, List.set_cons_succ]
        have N32 : HdAt (W26.alloc (.cells #[.int .i64 0, .int .i64 0, .int .i64 0] 131)) W26.heap.size := HdAt.new _
        obtain ⟨W32, hW32⟩ : ∃ W, W = W26.alloc (.cells #[.int .i64 0, .int .i64 0, .int .i64 0] 131) := ⟨_, rfl⟩
        rw [← hW32] at hHeld hb32 N32 ⊢
        have z32 : W26.heap.size < W32.heap.size := by rw [hW32, World.size_alloc]; omega
        have P32 := Lib.hid (P26.out.keep hb32 P26.out.z)
        have q32 := hb32.size
        have H10_32 := Lib.hid (M26.out.keep hb32 (World.block_lt_of_cell? _ _ M26.out.c0))
        have M32 := Lib.hid N32
        clear N32
        clear hW32
        refine wpAnyH_ready (rs := [4]) (by kernel_rfl) (by simp) ?_
        refine (AllReadyH.cons rfl (fun K hK => ?_) AllReadyH.nil)
        · go_simp
          go_at_call 88
          refine (HA1.out _ P32.out.b).mono ?_
          rintro e' W33 ⟨rfl, hb33⟩
          refine hK.out _ _ ⟨keepW hb33 hHeld.1, hHeld.2.trans (hb33.mono hHeld.2.size)⟩ (fun hHeld => ?_)
          clear hK K
          try simp only [Act.put, List.setIfInBounds_toArray, List.set_cons_zero, List.set_cons_succ]
          have P33 := Lib.hid (P32.out.keep hb33 P32.out.z)
          have q33 := hb33.size
          have H9_33 := Lib.hid (M32.out.keep hb33 (World.block_lt_of_cell? _ _ M32.out.c0))
          have H10_33 := Lib.hid (H10_32.out.keep hb33 (World.block_lt_of_cell? _ _ H10_32.out.c0))
          refine wpAnyH_ready (rs := [8]) (by kernel_rfl) (by simp) ?_
          refine (AllReadyH.cons rfl (fun K hK => ?_) AllReadyH.nil)
          · go_simp
            go_at_call 88
            refine (HA2.out _ P33.out.b).mono ?_
            rintro e' W34 ⟨rfl, hb34⟩
            refine hK.out _ _ ⟨keepW hb34 hHeld.1, hHeld.2.trans (hb34.mono hHeld.2.size)⟩ (fun hHeld => ?_)
            clear hK K
            try simp only [Act.put, List.setIfInBounds_toArray, List.set_cons_zero, List.set_cons_succ]
            have P34 := Lib.hid (P33.out.keep hb34 P33.out.z)
            have q34 := hb34.size
            have H9_34 := Lib.hid (H9_33.out.keep hb34 (World.block_lt_of_cell? _ _ H9_33.out.c0))
            have H10_34 := Lib.hid (H10_33.out.keep hb34 (World.block_lt_of_cell? _ _ H10_33.out.c0))
            refine wpAnyH_done (by kernel_rfl) ?_ _
            change wpList _ _ _ _ _ _
            simp only [List.drop_succ_cons, List.drop_zero]
            have HF := Lib.hid (hr_end P34.out H9_34.out H10_34.out A1 B1 C1 A2 B2 C2 (by omega))
            obtain ⟨a0, a1, a2, af0, af1, af2⟩ := H9_34.out
            obtain ⟨b0, b1, b2, bf0, bf1, bf2⟩ := H10_34.out
            have y7 : W26.heap.size < W34.heap.size := World.block_lt_of_cell? _ _ a0
            have y8 : D.heap.size < W34.heap.size := World.block_lt_of_cell? _ _ b0
            have HBB := Lib.hid (far3 (s := W26.heap.size) (b := D.heap.size) (W := W34) (u := .int .i64 A1) (v := .int .i64 B1) (x := .int .i64 C1) (by omega) ⟨b0, b1, b2, bf0, bf1, bf2⟩)
            obtain ⟨d0, d1, d2, df0, df1, df2⟩ := HBB.out
            go_wp2_with fail
            go_meet
            exact ⟨W26.heap.size, D.heap.size, rfl, rfl, HF.out⟩
  case rest =>
  obtain ⟨s7, s8, rfl, rfl, hI⟩ := hcut
  clear PU qU HSS
  have HI := Lib.hid hI
  obtain ⟨⟨t0, t1, t2, t3, t4, r0, r1, r2, r3, o, hzz, hbw⟩, ⟨a0, a1, a2⟩, ⟨b0, b1, b2⟩⟩ := hI
  have HO := Lib.hid o
  clear o
  go_wp2_with fail
  refine (powersD_any A1 B1 c n1 _ (by omega) (by omega) (by omega) (by omega)).mono ?_; rintro e' X1 ⟨rfl, hb1⟩
  rw [hwH, hwV]
  have I1 := HI.out.keep hb1
  clear HI HO t0 t1 t2 t3 t4 r0 r1 r2 r3 hzz hbw a0 a1 a2 b0 b1 b2
  have HI := Lib.hid (I1.keep (below_alloc X1 (.cells #[.int .i64 wH, .int .i64 wV] 129)))
  have hX : (X1.alloc (.cells #[.int .i64 wH, .int .i64 wV] 129)).cell? ⟨X1.heap.size, 0, none⟩ = some (.int .i64 wH) ∧ (X1.alloc (.cells #[.int .i64 wH, .int .i64 wV] 129)).cell? ⟨X1.heap.size, 1, none⟩ = some (.int .i64 wV) := ⟨alloc_new rfl rfl, alloc_new rfl rfl⟩
  have HX := Lib.hid hX
  obtain ⟨⟨t0, t1, t2, t3, t4, r0, r1, r2, r3, o, hzz, hbw⟩, ⟨a0, a1, a2⟩, ⟨b0, b1, b2⟩⟩ := HI.out
  clear o hX I1
  go_wp2_with fail
  refine (powersU_any A2 B2 c n0 _ (by omega) (by omega) (by omega) (by omega)).mono ?_; rintro e' X2 ⟨rfl, hb2⟩
  rw [hsH, hsV]
  have HI2 := Lib.hid ((HI.out.keep hb2).keep (below_alloc X2 (.cells #[.int .i64 sH, .int .i64 sV] 129)))
  have HX2 := Lib.hid (And.intro (keepW (below_alloc X2 (.cells #[.int .i64 sH, .int .i64 sV] 129)) (keepW hb2 HX.out.1)) (keepW (below_alloc X2 (.cells #[.int .i64 sH, .int .i64 sV] 129)) (keepW hb2 HX.out.2)))
  have HY2 : Hid ((X2.alloc (.cells #[.int .i64 sH, .int .i64 sV] 129)).cell? ⟨X2.heap.size, 0, none⟩ = some (.int .i64 sH) ∧ (X2.alloc (.cells #[.int .i64 sH, .int .i64 sV] 129)).cell? ⟨X2.heap.size, 1, none⟩ = some (.int .i64 sV)) := Lib.hid ⟨alloc_new rfl rfl, alloc_new rfl rfl⟩
  clear HI HX t0 t1 t2 t3 t4 r0 r1 r2 r3 hzz hbw a0 a1 a2 b0 b1 b2 hb1 hb2
  obtain ⟨⟨t0, t1, t2, t3, t4, r0, r1, r2, r3, o, hzz, hbw⟩, ⟨a0, a1, a2⟩, ⟨b0, b1, b2⟩⟩ := HI2.out
  obtain ⟨c0, c1⟩ := HX2.out
  obtain ⟨d0, d1⟩ := HY2.out
  have HO := Lib.hid o
  have y2 : w.heap.size + 1 + 1 < (X2.alloc (.cells #[.int .i64 sH, .int .i64 sV] 129)).heap.size := by omega
  have hzS : X2.heap.size < (X2.alloc (.cells #[.int .i64 sH, .int .i64 sV] 129)).heap.size := by rw [World.size_alloc]; omega
  clear o
  by_cases ha : sH = 0 ∧ sV = 0
  · have EQ : ∀ w : World, (Op.equalIn 10000 129 (.agg #[.int .i64 sH, .int .i64 sV]) (.agg #[.int .i64 0, .int .i64 0])).run Try.prog w = .ok true w := fun w => by rw [eq129]; simp [ha.1, ha.2]
    have HE := Lib.hid (show g = qE 0 by rw [HGG.out]; unfold hearE; rw [if_pos ha])
    clear ha
    have oc0 := HO.out.c 0 (by decide)
    have of0 := HO.out.f 0 (by decide)
    have oc1 := HO.out.c 1 (by decide)
    have of1 := HO.out.f 1 (by decide)
    have oc2 := HO.out.c 2 (by decide)
    have of2 := HO.out.f 2 (by decide)
    have oc3 := HO.out.c 3 (by decide)
    have of3 := HO.out.f 3 (by decide)
    have oc4 := HO.out.c 4 (by decide)
    have of4 := HO.out.f 4 (by decide)
    have oc5 := HO.out.c 5 (by decide)
    have of5 := HO.out.f 5 (by decide)
    have oc6 := HO.out.c 6 (by decide)
    have of6 := HO.out.f 6 (by decide)
    have oc7 := HO.out.c 7 (by decide)
    have of7 := HO.out.f 7 (by decide)
    have oc8 := HO.out.c 8 (by decide)
    have of8 := HO.out.f 8 (by decide)
    have oc9 := HO.out.c 9 (by decide)
    have of9 := HO.out.f 9 (by decide)
    have oc10 := HO.out.c 10 (by decide)
    have of10 := HO.out.f 10 (by decide)
    have oc11 := HO.out.c 11 (by decide)
    have of11 := HO.out.f 11 (by decide)
    have oc12 := HO.out.c 12 (by decide)
    have of12 := HO.out.f 12 (by decide)
    have oc13 := HO.out.c 13 (by decide)
    have of13 := HO.out.f 13 (by decide)
    go_wp2
    obtain ⟨Z, hZ⟩ : ∃ Z, Z = (((((((((((((((X2.alloc (.cells #[.int .i64 sH, .int .i64 sV] 129)).setCell ⟨w.heap.size + 1 + 1, 0, none⟩ (.int .i64 (1))).setCell ⟨w.heap.size + 1 + 1, 1, none⟩ (.int .i64 (0))).setCell ⟨w.heap.size + 1 + 1, 2, none⟩ (.int .i64 (0))).setCell ⟨w.heap.size + 1 + 1, 3, none⟩ (.int .i64 (0))).setCell ⟨w.heap.size + 1 + 1, 4, none⟩ (.int .i64 (0))).setCell ⟨w.heap.size + 1 + 1, 5, none⟩ (.int .i64 (0))).setCell ⟨w.heap.size + 1 + 1, 6, none⟩ (.int .i64 (0))).setCell ⟨w.heap.size + 1 + 1, 7, none⟩ (.int .i64 (0))).setCell ⟨w.heap.size + 1 + 1, 8, none⟩ (.int .i64 (0))).setCell ⟨w.heap.size + 1 + 1, 9, none⟩ (.int .i64 (0))).setCell ⟨w.heap.size + 1 + 1, 10, none⟩ (.int .i64 (0))).setCell ⟨w.heap.size + 1 + 1, 11, none⟩ (.int .i64 (0))).setCell ⟨w.heap.size + 1 + 1, 12, none⟩ (.int .i64 (0))).setCell ⟨w.heap.size + 1 + 1, 13, none⟩ (.int .i64 (0))) := ⟨_, rfl⟩
    rw [← hZ]
    have EZ := ((((((((((((((HO.out.set (k := 0) (v := 1)).set (k := 1) (v := 0)).set (k := 2) (v := 0)).set (k := 3) (v := 0)).set (k := 4) (v := 0)).set (k := 5) (v := 0)).set (k := 6) (v := 0)).set (k := 7) (v := 0)).set (k := 8) (v := 0)).set (k := 9) (v := 0)).set (k := 10) (v := 0)).set (k := 11) (v := 0)).set (k := 12) (v := 0)).set (k := 13) (v := 0))
    rw [← hZ] at EZ
    have bZ : Below w.heap.size w Z := by rw [hZ]; exact ((((((((((((((hbw.setCell (p := ⟨w.heap.size + 1 + 1, 0, none⟩) (by dsimp only; omega) _).setCell (p := ⟨w.heap.size + 1 + 1, 1, none⟩) (by dsimp only; omega) _).setCell (p := ⟨w.heap.size + 1 + 1, 2, none⟩) (by dsimp only; omega) _).setCell (p := ⟨w.heap.size + 1 + 1, 3, none⟩) (by dsimp only; omega) _).setCell (p := ⟨w.heap.size + 1 + 1, 4, none⟩) (by dsimp only; omega) _).setCell (p := ⟨w.heap.size + 1 + 1, 5, none⟩) (by dsimp only; omega) _).setCell (p := ⟨w.heap.size + 1 + 1, 6, none⟩) (by dsimp only; omega) _).setCell (p := ⟨w.heap.size + 1 + 1, 7, none⟩) (by dsimp only; omega) _).setCell (p := ⟨w.heap.size + 1 + 1, 8, none⟩) (by dsimp only; omega) _).setCell (p := ⟨w.heap.size + 1 + 1, 9, none⟩) (by dsimp only; omega) _).setCell (p := ⟨w.heap.size + 1 + 1, 10, none⟩) (by dsimp only; omega) _).setCell (p := ⟨w.heap.size + 1 + 1, 11, none⟩) (by dsimp only; omega) _).setCell (p := ⟨w.heap.size + 1 + 1, 12, none⟩) (by dsimp only; omega) _).setCell (p := ⟨w.heap.size + 1 + 1, 13, none⟩) (by dsimp only; omega) _)
    clear hZ
    have h0 : Z.cell? ⟨w.heap.size + 1 + 1, 0, none⟩ = some (.int .i64 (1)) := EZ.c 0 (by decide)
    have h1 : Z.cell? ⟨w.heap.size + 1 + 1, 1, none⟩ = some (.int .i64 (0)) := EZ.c 1 (by decide)
    have h2 : Z.cell? ⟨w.heap.size + 1 + 1, 2, none⟩ = some (.int .i64 (0)) := EZ.c 2 (by decide)
    have h3 : Z.cell? ⟨w.heap.size + 1 + 1, 3, none⟩ = some (.int .i64 (0)) := EZ.c 3 (by decide)
    have h4 : Z.cell? ⟨w.heap.size + 1 + 1, 4, none⟩ = some (.int .i64 (0)) := EZ.c 4 (by decide)
    have h5 : Z.cell? ⟨w.heap.size + 1 + 1, 5, none⟩ = some (.int .i64 (0)) := EZ.c 5 (by decide)
    have h6 : Z.cell? ⟨w.heap.size + 1 + 1, 6, none⟩ = some (.int .i64 (0)) := EZ.c 6 (by decide)
    have h7 : Z.cell? ⟨w.heap.size + 1 + 1, 7, none⟩ = some (.int .i64 (0)) := EZ.c 7 (by decide)
    have h8 : Z.cell? ⟨w.heap.size + 1 + 1, 8, none⟩ = some (.int .i64 (0)) := EZ.c 8 (by decide)
    have h9 : Z.cell? ⟨w.heap.size + 1 + 1, 9, none⟩ = some (.int .i64 (0)) := EZ.c 9 (by decide)
    have h10 : Z.cell? ⟨w.heap.size + 1 + 1, 10, none⟩ = some (.int .i64 (0)) := EZ.c 10 (by decide)
    have h11 : Z.cell? ⟨w.heap.size + 1 + 1, 11, none⟩ = some (.int .i64 (0)) := EZ.c 11 (by decide)
    have h12 : Z.cell? ⟨w.heap.size + 1 + 1, 12, none⟩ = some (.int .i64 (0)) := EZ.c 12 (by decide)
    have h13 : Z.cell? ⟨w.heap.size + 1 + 1, 13, none⟩ = some (.int .i64 (0)) := EZ.c 13 (by decide)
    clear EZ
    exact bodyPost_ret (v := .agg #[.int .i64 (1), .int .i64 (0), .int .i64 (0), .int .i64 (0), .int .i64 (0), .int .i64 (0), .int .i64 (0), .int .i64 (0), .int .i64 (0), .int .i64 (0), .int .i64 (0), .int .i64 (0), .int .i64 (0), .int .i64 (0)]) (by simp [results, Try.results63, go_sem, h0, h1, h2, h3, h4, h5, h6, h7, h8, h9, h10, h11, h12, h13]) rfl ⟨by rw [HE.out]; rfl, bZ⟩
  · have EQ : ∀ w : World, (Op.equalIn 10000 129 (.agg #[.int .i64 sH, .int .i64 sV]) (.agg #[.int .i64 0, .int .i64 0])).run Try.prog w = .ok false w := fun w => by
      rw [eq129]
      by_cases h1 : sH = 0
      · by_cases h2 : sV = 0
        · exact absurd ⟨h1, h2⟩ ha
        · simp [h2]
      · simp [h1]
    have hx2 : (X2.alloc (.cells #[.int .i64 sH, .int .i64 sV] 129)).heap.size = X2.heap.size + 1 := World.size_alloc _ _
    by_cases hw : wH = 0
    · have HE := Lib.hid (show g = qE sH by rw [HGG.out]; unfold hearE; rw [if_neg ha, if_pos hw])
      subst hw
      have EB : EchoG ((X2.alloc (.cells #[.int .i64 sH, .int .i64 sV] 129)).alloc (.cells #[.int .i64 1, .int .i64 0, .int .i64 sH, .int .i64 0, .int .i64 0, .int .i64 0, .int .i64 0, .int .i64 0, .int .i64 0, .int .i64 0, .int .i64 0, .int .i64 0, .int .i64 0, .int .i64 0] 30)) (X2.alloc (.cells #[.int .i64 sH, .int .i64 sV] 129)).heap.size (qE sH) := EchoG.new (X2.alloc (.cells #[.int .i64 sH, .int .i64 sV] 129)) (qE sH) 30
      rw [hx2] at EB
      have HO3 := Lib.hid (HO.out.keep (below_alloc (X2.alloc (.cells #[.int .i64 sH, .int .i64 sV] 129)) (.cells #[.int .i64 1, .int .i64 0, .int .i64 sH, .int .i64 0, .int .i64 0, .int .i64 0, .int .i64 0, .int .i64 0, .int .i64 0, .int .i64 0, .int .i64 0, .int .i64 0, .int .i64 0, .int .i64 0] 30)) (by omega))
      have hbw3 := hbw.trans ((below_alloc (X2.alloc (.cells #[.int .i64 sH, .int .i64 sV] 129)) (.cells #[.int .i64 1, .int .i64 0, .int .i64 sH, .int .i64 0, .int .i64 0, .int .i64 0, .int .i64 0, .int .i64 0, .int .i64 0, .int .i64 0, .int .i64 0, .int .i64 0, .int .i64 0, .int .i64 0] 30)).mono (by omega))
      have y3 : w.heap.size + 1 + 1 < ((X2.alloc (.cells #[.int .i64 sH, .int .i64 sV] 129)).alloc (.cells #[.int .i64 1, .int .i64 0, .int .i64 sH, .int .i64 0, .int .i64 0, .int .i64 0, .int .i64 0, .int .i64 0, .int .i64 0, .int .i64 0, .int .i64 0, .int .i64 0, .int .i64 0, .int .i64 0] 30)).heap.size := by simp; omega
      clear ha HGG HWP HI2 HX2 HY2 HO
      have HO := HO3
      have oc0 := HO.out.c 0 (by decide)
      have of0 := HO.out.f 0 (by decide)
      have oc1 := HO.out.c 1 (by decide)
      have of1 := HO.out.f 1 (by decide)
      have oc2 := HO.out.c 2 (by decide)
      have of2 := HO.out.f 2 (by decide)
      have oc3 := HO.out.c 3 (by decide)
      have of3 := HO.out.f 3 (by decide)
      have oc4 := HO.out.c 4 (by decide)
      have of4 := HO.out.f 4 (by decide)
      have oc5 := HO.out.c 5 (by decide)
      have of5 := HO.out.f 5 (by decide)
      have oc6 := HO.out.c 6 (by decide)
      have of6 := HO.out.f 6 (by decide)
      have oc7 := HO.out.c 7 (by decide)
      have of7 := HO.out.f 7 (by decide)
      have oc8 := HO.out.c 8 (by decide)
      have of8 := HO.out.f 8 (by decide)
      have oc9 := HO.out.c 9 (by decide)
      have of9 := HO.out.f 9 (by decide)
      have oc10 := HO.out.c 10 (by decide)
      have of10 := HO.out.f 10 (by decide)
      have oc11 := HO.out.c 11 (by decide)
      have of11 := HO.out.f 11 (by decide)
      have oc12 := HO.out.c 12 (by decide)
      have of12 := HO.out.f 12 (by decide)
      have oc13 := HO.out.c 13 (by decide)
      have of13 := HO.out.f 13 (by decide)
      have ky0 : ((X2.alloc (.cells #[.int .i64 sH, .int .i64 sV] 129)).alloc (.cells #[.int .i64 1, .int .i64 0, .int .i64 sH, .int .i64 0, .int .i64 0, .int .i64 0, .int .i64 0, .int .i64 0, .int .i64 0, .int .i64 0, .int .i64 0, .int .i64 0, .int .i64 0, .int .i64 0] 30)).cell? ⟨X2.heap.size + 1, 0, none⟩ = some (.int .i64 1) := EB.c 0 (by decide)
      have ky1 : ((X2.alloc (.cells #[.int .i64 sH, .int .i64 sV] 129)).alloc (.cells #[.int .i64 1, .int .i64 0, .int .i64 sH, .int .i64 0, .int .i64 0, .int .i64 0, .int .i64 0, .int .i64 0, .int .i64 0, .int .i64 0, .int .i64 0, .int .i64 0, .int .i64 0, .int .i64 0] 30)).cell? ⟨X2.heap.size + 1, 1, none⟩ = some (.int .i64 0) := EB.c 1 (by decide)
      have ky2 : ((X2.alloc (.cells #[.int .i64 sH, .int .i64 sV] 129)).alloc (.cells #[.int .i64 1, .int .i64 0, .int .i64 sH, .int .i64 0, .int .i64 0, .int .i64 0, .int .i64 0, .int .i64 0, .int .i64 0, .int .i64 0, .int .i64 0, .int .i64 0, .int .i64 0, .int .i64 0] 30)).cell? ⟨X2.heap.size + 1, 2, none⟩ = some (.int .i64 sH) := EB.c 2 (by decide)
      have ky3 : ((X2.alloc (.cells #[.int .i64 sH, .int .i64 sV] 129)).alloc (.cells #[.int .i64 1, .int .i64 0, .int .i64 sH, .int .i64 0, .int .i64 0, .int .i64 0, .int .i64 0, .int .i64 0, .int .i64 0, .int .i64 0, .int .i64 0, .int .i64 0, .int .i64 0, .int .i64 0] 30)).cell? ⟨X2.heap.size + 1, 3, none⟩ = some (.int .i64 0) := EB.c 3 (by decide)
      have ky4 : ((X2.alloc (.cells #[.int .i64 sH, .int .i64 sV] 129)).alloc (.cells #[.int .i64 1, .int .i64 0, .int .i64 sH, .int .i64 0, .int .i64 0, .int .i64 0, .int .i64 0, .int .i64 0, .int .i64 0, .int .i64 0, .int .i64 0, .int .i64 0, .int .i64 0, .int .i64 0] 30)).cell? ⟨X2.heap.size + 1, 4, none⟩ = some (.int .i64 0) := EB.c 4 (by decide)
      have ky5 : ((X2.alloc (.cells #[.int .i64 sH, .int .i64 sV] 129)).alloc (.cells #[.int .i64 1, .int .i64 0, .int .i64 sH, .int .i64 0, .int .i64 0, .int .i64 0, .int .i64 0, .int .i64 0, .int .i64 0, .int .i64 0, .int .i64 0, .int .i64 0, .int .i64 0, .int .i64 0] 30)).cell? ⟨X2.heap.size + 1, 5, none⟩ = some (.int .i64 0) := EB.c 5 (by decide)
      have ky6 : ((X2.alloc (.cells #[.int .i64 sH, .int .i64 sV] 129)).alloc (.cells #[.int .i64 1, .int .i64 0, .int .i64 sH, .int .i64 0, .int .i64 0, .int .i64 0, .int .i64 0, .int .i64 0, .int .i64 0, .int .i64 0, .int .i64 0, .int .i64 0, .int .i64 0, .int .i64 0] 30)).cell? ⟨X2.heap.size + 1, 6, none⟩ = some (.int .i64 0) := EB.c 6 (by decide)
      have ky7 : ((X2.alloc (.cells #[.int .i64 sH, .int .i64 sV] 129)).alloc (.cells #[.int .i64 1, .int .i64 0, .int .i64 sH, .int .i64 0, .int .i64 0, .int .i64 0, .int .i64 0, .int .i64 0, .int .i64 0, .int .i64 0, .int .i64 0, .int .i64 0, .int .i64 0, .int .i64 0] 30)).cell? ⟨X2.heap.size + 1, 7, none⟩ = some (.int .i64 0) := EB.c 7 (by decide)
      have ky8 : ((X2.alloc (.cells #[.int .i64 sH, .int .i64 sV] 129)).alloc (.cells #[.int .i64 1, .int .i64 0, .int .i64 sH, .int .i64 0, .int .i64 0, .int .i64 0, .int .i64 0, .int .i64 0, .int .i64 0, .int .i64 0, .int .i64 0, .int .i64 0, .int .i64 0, .int .i64 0] 30)).cell? ⟨X2.heap.size + 1, 8, none⟩ = some (.int .i64 0) := EB.c 8 (by decide)
      have ky9 : ((X2.alloc (.cells #[.int .i64 sH, .int .i64 sV] 129)).alloc (.cells #[.int .i64 1, .int .i64 0, .int .i64 sH, .int .i64 0, .int .i64 0, .int .i64 0, .int .i64 0, .int .i64 0, .int .i64 0, .int .i64 0, .int .i64 0, .int .i64 0, .int .i64 0, .int .i64 0] 30)).cell? ⟨X2.heap.size + 1, 9, none⟩ = some (.int .i64 0) := EB.c 9 (by decide)
      have ky10 : ((X2.alloc (.cells #[.int .i64 sH, .int .i64 sV] 129)).alloc (.cells #[.int .i64 1, .int .i64 0, .int .i64 sH, .int .i64 0, .int .i64 0, .int .i64 0, .int .i64 0, .int .i64 0, .int .i64 0, .int .i64 0, .int .i64 0, .int .i64 0, .int .i64 0, .int .i64 0] 30)).cell? ⟨X2.heap.size + 1, 10, none⟩ = some (.int .i64 0) := EB.c 10 (by decide)
      have ky11 : ((X2.alloc (.cells #[.int .i64 sH, .int .i64 sV] 129)).alloc (.cells #[.int .i64 1, .int .i64 0, .int .i64 sH, .int .i64 0, .int .i64 0, .int .i64 0, .int .i64 0, .int .i64 0, .int .i64 0, .int .i64 0, .int .i64 0, .int .i64 0, .int .i64 0, .int .i64 0] 30)).cell? ⟨X2.heap.size + 1, 11, none⟩ = some (.int .i64 0) := EB.c 11 (by decide)
      have ky12 : ((X2.alloc (.cells #[.int .i64 sH, .int .i64 sV] 129)).alloc (.cells #[.int .i64 1, .int .i64 0, .int .i64 sH, .int .i64 0, .int .i64 0, .int .i64 0, .int .i64 0, .int .i64 0, .int .i64 0, .int .i64 0, .int .i64 0, .int .i64 0, .int .i64 0, .int .i64 0] 30)).cell? ⟨X2.heap.size + 1, 12, none⟩ = some (.int .i64 0) := EB.c 12 (by decide)
      have ky13 : ((X2.alloc (.cells #[.int .i64 sH, .int .i64 sV] 129)).alloc (.cells #[.int .i64 1, .int .i64 0, .int .i64 sH, .int .i64 0, .int .i64 0, .int .i64 0, .int .i64 0, .int .i64 0, .int .i64 0, .int .i64 0, .int .i64 0, .int .i64 0, .int .i64 0, .int .i64 0] 30)).cell? ⟨X2.heap.size + 1, 13, none⟩ = some (.int .i64 0) := EB.c 13 (by decide)
      clear EB
      go_wp2
      obtain ⟨Z, hZ⟩ : ∃ Z, Z = ((((((((((((((((X2.alloc (.cells #[.int .i64 sH, .int .i64 sV] 129)).alloc (.cells #[.int .i64 1, .int .i64 0, .int .i64 sH, .int .i64 0, .int .i64 0, .int .i64 0, .int .i64 0, .int .i64 0, .int .i64 0, .int .i64 0, .int .i64 0, .int .i64 0, .int .i64 0, .int .i64 0] 30)).setCell ⟨w.heap.size + 1 + 1, 0, none⟩ (.int .i64 (1))).setCell ⟨w.heap.size + 1 + 1, 1, none⟩ (.int .i64 (0))).setCell ⟨w.heap.size + 1 + 1, 2, none⟩ (.int .i64 (sH))).setCell ⟨w.heap.size + 1 + 1, 3, none⟩ (.int .i64 (0))).setCell ⟨w.heap.size + 1 + 1, 4, none⟩ (.int .i64 (0))).setCell ⟨w.heap.size + 1 + 1, 5, none⟩ (.int .i64 (0))).setCell ⟨w.heap.size + 1 + 1, 6, none⟩ (.int .i64 (0))).setCell ⟨w.heap.size + 1 + 1, 7, none⟩ (.int .i64 (0))).setCell ⟨w.heap.size + 1 + 1, 8, none⟩ (.int .i64 (0))).setCell ⟨w.heap.size + 1 + 1, 9, none⟩ (.int .i64 (0))).setCell ⟨w.heap.size + 1 + 1, 10, none⟩ (.int .i64 (0))).setCell ⟨w.heap.size + 1 + 1, 11, none⟩ (.int .i64 (0))).setCell ⟨w.heap.size + 1 + 1, 12, none⟩ (.int .i64 (0))).setCell ⟨w.heap.size + 1 + 1, 13, none⟩ (.int .i64 (0))) := ⟨_, rfl⟩
      rw [← hZ]
      have EZ := ((((((((((((((HO.out.set (k := 0) (v := 1)).set (k := 1) (v := 0)).set (k := 2) (v := sH)).set (k := 3) (v := 0)).set (k := 4) (v := 0)).set (k := 5) (v := 0)).set (k := 6) (v := 0)).set (k := 7) (v := 0)).set (k := 8) (v := 0)).set (k := 9) (v := 0)).set (k := 10) (v := 0)).set (k := 11) (v := 0)).set (k := 12) (v := 0)).set (k := 13) (v := 0))
      rw [← hZ] at EZ
      have bZ : Below w.heap.size w Z := by rw [hZ]; exact ((((((((((((((hbw3.setCell (p := ⟨w.heap.size + 1 + 1, 0, none⟩) (by dsimp only; omega) _).setCell (p := ⟨w.heap.size + 1 + 1, 1, none⟩) (by dsimp only; omega) _).setCell (p := ⟨w.heap.size + 1 + 1, 2, none⟩) (by dsimp only; omega) _).setCell (p := ⟨w.heap.size + 1 + 1, 3, none⟩) (by dsimp only; omega) _).setCell (p := ⟨w.heap.size + 1 + 1, 4, none⟩) (by dsimp only; omega) _).setCell (p := ⟨w.heap.size + 1 + 1, 5, none⟩) (by dsimp only; omega) _).setCell (p := ⟨w.heap.size + 1 + 1, 6, none⟩) (by dsimp only; omega) _).setCell (p := ⟨w.heap.size + 1 + 1, 7, none⟩) (by dsimp only; omega) _).setCell (p := ⟨w.heap.size + 1 + 1, 8, none⟩) (by dsimp only; omega) _).setCell (p := ⟨w.heap.size + 1 + 1, 9, none⟩) (by dsimp only; omega) _).setCell (p := ⟨w.heap.size + 1 + 1, 10, none⟩) (by dsimp only; omega) _).setCell (p := ⟨w.heap.size + 1 + 1, 11, none⟩) (by dsimp only; omega) _).setCell (p := ⟨w.heap.size + 1 + 1, 12, none⟩) (by dsimp only; omega) _).setCell (p := ⟨w.heap.size + 1 + 1, 13, none⟩) (by dsimp only; omega) _)
      clear hZ
      have h0 : Z.cell? ⟨w.heap.size + 1 + 1, 0, none⟩ = some (.int .i64 (1)) := EZ.c 0 (by decide)
      have h1 : Z.cell? ⟨w.heap.size + 1 + 1, 1, none⟩ = some (.int .i64 (0)) := EZ.c 1 (by decide)
      have h2 : Z.cell? ⟨w.heap.size + 1 + 1, 2, none⟩ = some (.int .i64 (sH)) := EZ.c 2 (by decide)
      have h3 : Z.cell? ⟨w.heap.size + 1 + 1, 3, none⟩ = some (.int .i64 (0)) := EZ.c 3 (by decide)
      have h4 : Z.cell? ⟨w.heap.size + 1 + 1, 4, none⟩ = some (.int .i64 (0)) := EZ.c 4 (by decide)
      have h5 : Z.cell? ⟨w.heap.size + 1 + 1, 5, none⟩ = some (.int .i64 (0)) := EZ.c 5 (by decide)
      have h6 : Z.cell? ⟨w.heap.size + 1 + 1, 6, none⟩ = some (.int .i64 (0)) := EZ.c 6 (by decide)
      have h7 : Z.cell? ⟨w.heap.size + 1 + 1, 7, none⟩ = some (.int .i64 (0)) := EZ.c 7 (by decide)
      have h8 : Z.cell? ⟨w.heap.size + 1 + 1, 8, none⟩ = some (.int .i64 (0)) := EZ.c 8 (by decide)
      have h9 : Z.cell? ⟨w.heap.size + 1 + 1, 9, none⟩ = some (.int .i64 (0)) := EZ.c 9 (by decide)
      have h10 : Z.cell? ⟨w.heap.size + 1 + 1, 10, none⟩ = some (.int .i64 (0)) := EZ.c 10 (by decide)
      have h11 : Z.cell? ⟨w.heap.size + 1 + 1, 11, none⟩ = some (.int .i64 (0)) := EZ.c 11 (by decide)
      have h12 : Z.cell? ⟨w.heap.size + 1 + 1, 12, none⟩ = some (.int .i64 (0)) := EZ.c 12 (by decide)
      have h13 : Z.cell? ⟨w.heap.size + 1 + 1, 13, none⟩ = some (.int .i64 (0)) := EZ.c 13 (by decide)
      clear EZ
      exact bodyPost_ret (v := .agg #[.int .i64 (1), .int .i64 (0), .int .i64 (sH), .int .i64 (0), .int .i64 (0), .int .i64 (0), .int .i64 (0), .int .i64 (0), .int .i64 (0), .int .i64 (0), .int .i64 (0), .int .i64 (0), .int .i64 (0), .int .i64 (0)]) (by simp [results, Try.results63, go_sem, h0, h1, h2, h3, h4, h5, h6, h7, h8, h9, h10, h11, h12, h13]) rfl ⟨by rw [HE.out]; rfl, bZ⟩
    · have hw1 : 1 ≤ wH := by omega
      obtain ⟨rl, hrl⟩ : ∃ x, ratLo wV sH = x := ⟨_, rfl⟩
      obtain ⟨rh, hrh⟩ : ∃ x, ratHi sV wH = x := ⟨_, rfl⟩
      obtain ⟨ml, hml⟩ : ∃ x, matLo C1 A2 B2 = x := ⟨_, rfl⟩
      obtain ⟨mh, hmh⟩ : ∃ x, matHi C2 A1 B1 = x := ⟨_, rfl⟩
      obtain ⟨e5, he5⟩ : ∃ e, e = upd (upd (upd (upd (b0E wH sH) 8 rl) 9 rh) 10 ml) 11 mh := ⟨_, rfl⟩
      have hge : g = phG e5 kd ph c x0 x1 x2 := by rw [HGG.out]; unfold hearE baseE; rw [if_neg ha, if_neg hw, hrl, hrh, hml, hmh, he5]
      have HW2 : Hid (∀ W : World, Below w.heap.size w W → Calls Try.prog 92 #[.agg #[.int .i64 (e5 0), .int .i64 (e5 1), .int .i64 (e5 2), .int .i64 (e5 3), .int .i64 (e5 4), .int .i64 (e5 5), .int .i64 (e5 6), .int .i64 (e5 7), .int .i64 (e5 8), .int .i64 (e5 9), .int .i64 (e5 10), .int .i64 (e5 11), .int .i64 (e5 12), .int .i64 (e5 13)], .agg #[.int .i64 l, .int .i64 kd, .int .i64 f, .int .i64 s, .int .i64 c], .agg #[.int .i64 lv, .int .i64 ph, .int .i64 n0, .int .i64 n1], .slice (some ⟨b, off, none⟩) n cap] W fun e' w' => e' = .returned (.agg #[.int .i64 (g 0), .int .i64 (g 1), .int .i64 (g 2), .int .i64 (g 3), .int .i64 (g 4), .int .i64 (g 5), .int .i64 (g 6), .int .i64 (g 7), .int .i64 (g 8), .int .i64 (g 9), .int .i64 (g 10), .int .i64 (g 11), .int .i64 (g 12), .int .i64 (g 13)]) ∧ Below W.heap.size W w') := Lib.hid fun W hW => by rw [hge]; exact HWP.out e5 W hW
      have HRT : Hid (∀ W : World, Calls Try.prog 90 #[.agg #[.int .i64 wH, .int .i64 wV], .agg #[.int .i64 sH, .int .i64 sV]] W fun e' w' => e' = .returned (.agg #[.int .i64 rl, .int .i64 rh]) ∧ Below W.heap.size W w') := Lib.hid fun W => by rw [← hrl, ← hrh]; exact ratio_any wH wV sH sV W ⟨hw1, bwH.2⟩ bwV ⟨by omega, bsH.2⟩ bsV
      have HMT : Hid (∀ W : World, Calls Try.prog 91 #[.agg #[.int .i64 A1, .int .i64 B1, .int .i64 C1], .agg #[.int .i64 A2, .int .i64 B2, .int .i64 C2]] W fun e' w' => e' = .returned (.agg #[.int .i64 ml, .int .i64 mh]) ∧ Below W.heap.size W w') := Lib.hid fun W => by rw [← hml, ← hmh]; exact match_any A1 B1 C1 A2 B2 C2 W bd1.1 bd1.2.1 bd1.2.2 bd2.1 bd2.2.1 bd2.2.2
      have hw2 : (wH == 0) = false := beq_eq_false_iff_ne.2 hw
      have hzz9 : w.heap.size + 3 ≤ X2.heap.size + 1 := by omega
      have H5 := Lib.hid he5
      have bA := below_alloc (X2.alloc (.cells #[.int .i64 sH, .int .i64 sV] 129)) (.cells #[.int .i64 1, .int .i64 wH, .int .i64 sH, .int .i64 0, .int .i64 0, .int .i64 0, .int .i64 0, .int .i64 0, .int .i64 0, .int .i64 0, .int .i64 0, .int .i64 0, .int .i64 0, .int .i64 0] 30)
      have EB : EchoG ((X2.alloc (.cells #[.int .i64 sH, .int .i64 sV] 129)).alloc (.cells #[.int .i64 1, .int .i64 wH, .int .i64 sH, .int .i64 0, .int .i64 0, .int .i64 0, .int .i64 0, .int .i64 0, .int .i64 0, .int .i64 0, .int .i64 0, .int .i64 0, .int .i64 0, .int .i64 0] 30)) (X2.alloc (.cells #[.int .i64 sH, .int .i64 sV] 129)).heap.size (b0E wH sH) := EchoG.new (X2.alloc (.cells #[.int .i64 sH, .int .i64 sV] 129)) (b0E wH sH) 30
      rw [hx2] at EB
      have HEB := Lib.hid EB
      have HI3 := Lib.hid (HI2.out.keep bA)
      have HX3 := Lib.hid (And.intro (keepW bA HX2.out.1) (keepW bA HX2.out.2))
      have HY3 := Lib.hid (And.intro (keepW bA HY2.out.1) (keepW bA HY2.out.2))
      have hz3 : X2.heap.size + 1 < ((X2.alloc (.cells #[.int .i64 sH, .int .i64 sV] 129)).alloc (.cells #[.int .i64 1, .int .i64 wH, .int .i64 sH, .int .i64 0, .int .i64 0, .int .i64 0, .int .i64 0, .int .i64 0, .int .i64 0, .int .i64 0, .int .i64 0, .int .i64 0, .int .i64 0, .int .i64 0] 30)).heap.size := by simp
      have ky0 : ((X2.alloc (.cells #[.int .i64 sH, .int .i64 sV] 129)).alloc (.cells #[.int .i64 1, .int .i64 wH, .int .i64 sH, .int .i64 0, .int .i64 0, .int .i64 0, .int .i64 0, .int .i64 0, .int .i64 0, .int .i64 0, .int .i64 0, .int .i64 0, .int .i64 0, .int .i64 0] 30)).cell? ⟨X2.heap.size + 1, 0, none⟩ = some (.int .i64 1) := EB.c 0 (by decide)
      have ky1 : ((X2.alloc (.cells #[.int .i64 sH, .int .i64 sV] 129)).alloc (.cells #[.int .i64 1, .int .i64 wH, .int .i64 sH, .int .i64 0, .int .i64 0, .int .i64 0, .int .i64 0, .int .i64 0, .int .i64 0, .int .i64 0, .int .i64 0, .int .i64 0, .int .i64 0, .int .i64 0] 30)).cell? ⟨X2.heap.size + 1, 1, none⟩ = some (.int .i64 wH) := EB.c 1 (by decide)
      have ky2 : ((X2.alloc (.cells #[.int .i64 sH, .int .i64 sV] 129)).alloc (.cells #[.int .i64 1, .int .i64 wH, .int .i64 sH, .int .i64 0, .int .i64 0, .int .i64 0, .int .i64 0, .int .i64 0, .int .i64 0, .int .i64 0, .int .i64 0, .int .i64 0, .int .i64 0, .int .i64 0] 30)).cell? ⟨X2.heap.size + 1, 2, none⟩ = some (.int .i64 sH) := EB.c 2 (by decide)
      have ky3 : ((X2.alloc (.cells #[.int .i64 sH, .int .i64 sV] 129)).alloc (.cells #[.int .i64 1, .int .i64 wH, .int .i64 sH, .int .i64 0, .int .i64 0, .int .i64 0, .int .i64 0, .int .i64 0, .int .i64 0, .int .i64 0, .int .i64 0, .int .i64 0, .int .i64 0, .int .i64 0] 30)).cell? ⟨X2.heap.size + 1, 3, none⟩ = some (.int .i64 0) := EB.c 3 (by decide)
      have ky4 : ((X2.alloc (.cells #[.int .i64 sH, .int .i64 sV] 129)).alloc (.cells #[.int .i64 1, .int .i64 wH, .int .i64 sH, .int .i64 0, .int .i64 0, .int .i64 0, .int .i64 0, .int .i64 0, .int .i64 0, .int .i64 0, .int .i64 0, .int .i64 0, .int .i64 0, .int .i64 0] 30)).cell? ⟨X2.heap.size + 1, 4, none⟩ = some (.int .i64 0) := EB.c 4 (by decide)
      have ky5 : ((X2.alloc (.cells #[.int .i64 sH, .int .i64 sV] 129)).alloc (.cells #[.int .i64 1, .int .i64 wH, .int .i64 sH, .int .i64 0, .int .i64 0, .int .i64 0, .int .i64 0, .int .i64 0, .int .i64 0, .int .i64 0, .int .i64 0, .int .i64 0, .int .i64 0, .int .i64 0] 30)).cell? ⟨X2.heap.size + 1, 5, none⟩ = some (.int .i64 0) := EB.c 5 (by decide)
      have ky6 : ((X2.alloc (.cells #[.int .i64 sH, .int .i64 sV] 129)).alloc (.cells #[.int .i64 1, .int .i64 wH, .int .i64 sH, .int .i64 0, .int .i64 0, .int .i64 0, .int .i64 0, .int .i64 0, .int .i64 0, .int .i64 0, .int .i64 0, .int .i64 0, .int .i64 0, .int .i64 0] 30)).cell? ⟨X2.heap.size + 1, 6, none⟩ = some (.int .i64 0) := EB.c 6 (by decide)
      have ky7 : ((X2.alloc (.cells #[.int .i64 sH, .int .i64 sV] 129)).alloc (.cells #[.int .i64 1, .int .i64 wH, .int .i64 sH, .int .i64 0, .int .i64 0, .int .i64 0, .int .i64 0, .int .i64 0, .int .i64 0, .int .i64 0, .int .i64 0, .int .i64 0, .int .i64 0, .int .i64 0] 30)).cell? ⟨X2.heap.size + 1, 7, none⟩ = some (.int .i64 0) := EB.c 7 (by decide)
      have ky8 : ((X2.alloc (.cells #[.int .i64 sH, .int .i64 sV] 129)).alloc (.cells #[.int .i64 1, .int .i64 wH, .int .i64 sH, .int .i64 0, .int .i64 0, .int .i64 0, .int .i64 0, .int .i64 0, .int .i64 0, .int .i64 0, .int .i64 0, .int .i64 0, .int .i64 0, .int .i64 0] 30)).cell? ⟨X2.heap.size + 1, 8, none⟩ = some (.int .i64 0) := EB.c 8 (by decide)
      have ky9 : ((X2.alloc (.cells #[.int .i64 sH, .int .i64 sV] 129)).alloc (.cells #[.int .i64 1, .int .i64 wH, .int .i64 sH, .int .i64 0, .int .i64 0, .int .i64 0, .int .i64 0, .int .i64 0, .int .i64 0, .int .i64 0, .int .i64 0, .int .i64 0, .int .i64 0, .int .i64 0] 30)).cell? ⟨X2.heap.size + 1, 9, none⟩ = some (.int .i64 0) := EB.c 9 (by decide)
      have ky10 : ((X2.alloc (.cells #[.int .i64 sH, .int .i64 sV] 129)).alloc (.cells #[.int .i64 1, .int .i64 wH, .int .i64 sH, .int .i64 0, .int .i64 0, .int .i64 0, .int .i64 0, .int .i64 0, .int .i64 0, .int .i64 0, .int .i64 0, .int .i64 0, .int .i64 0, .int .i64 0] 30)).cell? ⟨X2.heap.size + 1, 10, none⟩ = some (.int .i64 0) := EB.c 10 (by decide)
      have ky11 : ((X2.alloc (.cells #[.int .i64 sH, .int .i64 sV] 129)).alloc (.cells #[.int .i64 1, .int .i64 wH, .int .i64 sH, .int .i64 0, .int .i64 0, .int .i64 0, .int .i64 0, .int .i64 0, .int .i64 0, .int .i64 0, .int .i64 0, .int .i64 0, .int .i64 0, .int .i64 0] 30)).cell? ⟨X2.heap.size + 1, 11, none⟩ = some (.int .i64 0) := EB.c 11 (by decide)
      have ky12 : ((X2.alloc (.cells #[.int .i64 sH, .int .i64 sV] 129)).alloc (.cells #[.int .i64 1, .int .i64 wH, .int .i64 sH, .int .i64 0, .int .i64 0, .int .i64 0, .int .i64 0, .int .i64 0, .int .i64 0, .int .i64 0, .int .i64 0, .int .i64 0, .int .i64 0, .int .i64 0] 30)).cell? ⟨X2.heap.size + 1, 12, none⟩ = some (.int .i64 0) := EB.c 12 (by decide)
      have ky13 : ((X2.alloc (.cells #[.int .i64 sH, .int .i64 sV] 129)).alloc (.cells #[.int .i64 1, .int .i64 wH, .int .i64 sH, .int .i64 0, .int .i64 0, .int .i64 0, .int .i64 0, .int .i64 0, .int .i64 0, .int .i64 0, .int .i64 0, .int .i64 0, .int .i64 0, .int .i64 0] 30)).cell? ⟨X2.heap.size + 1, 13, none⟩ = some (.int .i64 0) := EB.c 13 (by decide)
      clear EB ha HGG HWP HI2 HX2 HY2 HO hge he5 hrl hrh hml hmh bA
      go_wp2_with fail
      clear ky0 ky1 ky2 ky3 ky4 ky5 ky6 ky7 ky8 ky9 ky10 ky11 ky12 ky13 t0 t1 t2 t3 t4 r0 r1 r2 r3 a0 a1 a2 b0 b1 b2 c0 c1 d0 d1 hbw hzz y2
      obtain ⟨S, hSS⟩ : ∃ S, S = (X2.alloc (.cells #[.int .i64 sH, .int .i64 sV] 129)).alloc (.cells #[.int .i64 1, .int .i64 wH, .int .i64 sH, .int .i64 0, .int .i64 0, .int .i64 0, .int .i64 0, .int .i64 0, .int .i64 0, .int .i64 0, .int .i64 0, .int .i64 0, .int .i64 0, .int .i64 0] 30) := ⟨_, rfl⟩
      rw [← hSS] at HEB HI3 HX3 HY3 hz3 ⊢
      clear hSS
      have HS9 := Lib.hid (show (fun w' : World => w'.cell? ⟨X1.heap.size, 0, none⟩ = some (.int .i64 wH) ∧ w'.cell? ⟨X1.heap.size, 1, none⟩ = some (.int .i64 wV) ∧ w'.cell? ⟨X2.heap.size, 0, none⟩ = some (.int .i64 sH) ∧ w'.cell? ⟨X2.heap.size, 1, none⟩ = some (.int .i64 sV) ∧ w'.cell? ⟨s7, 0, none⟩ = some (.int .i64 A1) ∧ w'.cell? ⟨s7, 1, none⟩ = some (.int .i64 B1) ∧ w'.cell? ⟨s7, 2, none⟩ = some (.int .i64 C1) ∧ w'.cell? ⟨s8, 0, none⟩ = some (.int .i64 A2) ∧ w'.cell? ⟨s8, 1, none⟩ = some (.int .i64 B2) ∧ w'.cell? ⟨s8, 2, none⟩ = some (.int .i64 C2) ∧ Below S.drew.heap.size S.drew w') S.drew from ⟨HX3.out.1, HX3.out.2, HY3.out.1, HY3.out.2, HI3.out.h7.c0, HI3.out.h7.c1, HI3.out.h7.c2, HI3.out.h8.c0, HI3.out.h8.c1, HI3.out.h8.c2, Below.refl _ _⟩)
      refine wp_region_held_tail (S := (fun w' : World => w'.cell? ⟨X1.heap.size, 0, none⟩ = some (.int .i64 wH) ∧ w'.cell? ⟨X1.heap.size, 1, none⟩ = some (.int .i64 wV) ∧ w'.cell? ⟨X2.heap.size, 0, none⟩ = some (.int .i64 sH) ∧ w'.cell? ⟨X2.heap.size, 1, none⟩ = some (.int .i64 sV) ∧ w'.cell? ⟨s7, 0, none⟩ = some (.int .i64 A1) ∧ w'.cell? ⟨s7, 1, none⟩ = some (.int .i64 B1) ∧ w'.cell? ⟨s7, 2, none⟩ = some (.int .i64 C1) ∧ w'.cell? ⟨s8, 0, none⟩ = some (.int .i64 A2) ∧ w'.cell? ⟨s8, 1, none⟩ = some (.int .i64 B2) ∧ w'.cell? ⟨s8, 2, none⟩ = some (.int .i64 C2) ∧ Below S.drew.heap.size S.drew w')) 7 (by kernel_rfl) (by kernel_rfl) HS9.out (fun hHeld => ?_)
      refine wpAnyH_take (i := 0) (v := ?v0_8) rfl (by kernel_rfl) (by kernel_rfl) (by kernel_rfl) (fun _ _ _ h => h) (Or.inl ⟨by rfl, ?hy0_8⟩) (by assumption) ?rest0_8
      case hy0_8 => (intro w hSw; (try dsimp only at hSw); go_simp; (try with_reducible rfl))
      try simp only [Act.put, List.setIfInBounds_toArray, List.set_cons_zero, List.set_cons_succ]
      refine wpAnyH_take (i := 1) (v := ?v1_9) rfl (by kernel_rfl) (by kernel_rfl) (by kernel_rfl) (fun _ _ _ h => h) (Or.inl ⟨by rfl, ?hy1_9⟩) (by assumption) ?rest1_9
      case hy1_9 => (intro w hSw; (try dsimp only at hSw); go_simp; (try with_reducible rfl))
      try simp only [Act.put, List.setIfInBounds_toArray, List.set_cons_zero, List.set_cons_succ]
      refine wpAnyH_take (i := 3) (v := ?v3_10) rfl (by kernel_rfl) (by kernel_rfl) (by kernel_rfl) (fun _ _ _ h => h) (Or.inl ⟨by rfl, ?hy3_10⟩) (by assumption) ?rest3_10
      case hy3_10 => (intro w hSw; (try dsimp only at hSw); go_simp; (try with_reducible rfl))
      try simp only [Act.put, List.setIfInBounds_toArray, List.set_cons_zero, List.set_cons_succ]
      refine wpAnyH_take (i := 4) (v := ?v4_11) rfl (by kernel_rfl) (by kernel_rfl) (by kernel_rfl) (fun _ _ _ h => h) (Or.inl ⟨by rfl, ?hy4_11⟩) (by assumption) ?rest4_11
      case hy4_11 => (intro w hSw; (try dsimp only at hSw); go_simp; (try with_reducible rfl))
      try simp only [Act.put, List.setIfInBounds_toArray, List.set_cons_zero, List.set_cons_succ]
      refine wpAnyH_ready (rs := [2]) (by kernel_rfl) (by simp) ?_
      refine AllReadyH.cons rfl (fun K hK => ?_) AllReadyH.nil
      go_simp; go_at_call 90; refine (HRT.out _).mono ?_; rintro e' w' ⟨rfl, hb'⟩
      refine hK.out _ _ (⟨keepW hb' hHeld.1, keepW hb' hHeld.2.1, keepW hb' hHeld.2.2.1, keepW hb' hHeld.2.2.2.1, keepW hb' hHeld.2.2.2.2.1, keepW hb' hHeld.2.2.2.2.2.1, keepW hb' hHeld.2.2.2.2.2.2.1, keepW hb' hHeld.2.2.2.2.2.2.2.1, keepW hb' hHeld.2.2.2.2.2.2.2.2.1, keepW hb' hHeld.2.2.2.2.2.2.2.2.2.1, hHeld.2.2.2.2.2.2.2.2.2.2.trans (hb'.mono hHeld.2.2.2.2.2.2.2.2.2.2.size)⟩) (fun hHeld => ?_)
      clear hK K
      try simp only [Act.put, List.setIfInBounds_toArray, List.set_cons_zero, List.set_cons_succ]
      refine wpAnyH_take (i := 6) (v := ?v6_12) rfl (by kernel_rfl) (by kernel_rfl) (by kernel_rfl) (fun _ _ _ h => h) (Or.inl ⟨by rfl, ?hy6_12⟩) (by assumption) ?rest6_12
      case hy6_12 => (intro w hSw; (try dsimp only at hSw); go_simp; (try with_reducible rfl))
      try simp only [Act.put, List.setIfInBounds_toArray, List.set_cons_zero, List.set_cons_succ]
      refine wpAnyH_ready (rs := [5]) (by kernel_rfl) (by simp) ?_
      refine AllReadyH.cons rfl (fun K hK => ?_) AllReadyH.nil
      go_simp; go_at_call 91; refine (HMT.out _).mono ?_; rintro e' w' ⟨rfl, hb'⟩
      refine hK.out _ _ (⟨keepW hb' hHeld.1, keepW hb' hHeld.2.1, keepW hb' hHeld.2.2.1, keepW hb' hHeld.2.2.2.1, keepW hb' hHeld.2.2.2.2.1, keepW hb' hHeld.2.2.2.2.2.1, keepW hb' hHeld.2.2.2.2.2.2.1, keepW hb' hHeld.2.2.2.2.2.2.2.1, keepW hb' hHeld.2.2.2.2.2.2.2.2.1, keepW hb' hHeld.2.2.2.2.2.2.2.2.2.1, hHeld.2.2.2.2.2.2.2.2.2.2.trans (hb'.mono hHeld.2.2.2.2.2.2.2.2.2.2.size)⟩) (fun hHeld => ?_)
      clear hK K
      try simp only [Act.put, List.setIfInBounds_toArray, List.set_cons_zero, List.set_cons_succ]
      refine wpAnyH_done (by kernel_rfl) ?_ _
      change wpList _ _ _ _ _ _
      simp only [List.drop_succ_cons, List.drop_zero]
      obtain ⟨V, hV⟩ : ∃ V, V = w' := ⟨_, rfl⟩
      rw [← hV] at hHeld ⊢
      clear hV
      have hbV : Below S.heap.size S V := (Below.refl _ _).drew.trans hHeld.2.2.2.2.2.2.2.2.2.2
      have HI4 := Lib.hid (HI3.out.keep hbV)
      have HE4 := Lib.hid (HEB.out.keep hbV hz3)
      have hzV := hbV.size
      clear hHeld HS9 hbV HI3 HEB HX3 HY3
      have hq3 : w.heap.size + 3 ≤ X2.heap.size + 1 := by have := hzz9; omega
      have HP5 := Lib.hid ((((HI4.out.p.set (k := 8) (u := .int .i64 rl) hq3).set (k := 9) (u := .int .i64 rh) hq3).set (k := 10) (u := .int .i64 ml) hq3).set (k := 11) (u := .int .i64 mh) hq3)
      have HE5 : Hid (EchoG ((((V.setCell ⟨X2.heap.size + 1, 8, none⟩ (.int .i64 rl)).setCell ⟨X2.heap.size + 1, 9, none⟩ (.int .i64 rh)).setCell ⟨X2.heap.size + 1, 10, none⟩ (.int .i64 ml)).setCell ⟨X2.heap.size + 1, 11, none⟩ (.int .i64 mh)) (X2.heap.size + 1) e5) := Lib.hid (by rw [H5.out]; exact (((HE4.out.set (k := 8) (v := rl)).set (k := 9) (v := rh)).set (k := 10) (v := ml)).set (k := 11) (v := mh))
      have vc8 := HE4.out.c 8 (by decide)
      have vf8 := HE4.out.f 8 (by decide)
      have vc9 := HE4.out.c 9 (by decide)
      have vf9 := HE4.out.f 9 (by decide)
      have vc10 := HE4.out.c 10 (by decide)
      have vf10 := HE4.out.f 10 (by decide)
      have vc11 := HE4.out.c 11 (by decide)
      have vf11 := HE4.out.f 11 (by decide)
      have EE := HE5.out
      have ec0 := EE.c 0 (by decide)
      have ec1 := EE.c 1 (by decide)
      have ec2 := EE.c 2 (by decide)
      have ec3 := EE.c 3 (by decide)
      have ec4 := EE.c 4 (by decide)
      have ec5 := EE.c 5 (by decide)
      have ec6 := EE.c 6 (by decide)
      have ec7 := EE.c 7 (by decide)
      have ec8 := EE.c 8 (by decide)
      have ec9 := EE.c 9 (by decide)
      have ec10 := EE.c 10 (by decide)
      have ec11 := EE.c 11 (by decide)
      have ec12 := EE.c 12 (by decide)
      have ec13 := EE.c 13 (by decide)
      obtain ⟨t0, t1, t2, t3, t4, r0, r1, r2, r3, _, hz5, hb5⟩ := HP5.out
      clear EE HE4 HI4 H5
      go_wp2_with fail
      obtain ⟨T, hT⟩ : ∃ T, T = (((V.setCell ⟨X2.heap.size + 1, 8, none⟩ (.int .i64 rl)).setCell ⟨X2.heap.size + 1, 9, none⟩ (.int .i64 rh)).setCell ⟨X2.heap.size + 1, 10, none⟩ (.int .i64 ml)).setCell ⟨X2.heap.size + 1, 11, none⟩ (.int .i64 mh) := ⟨_, rfl⟩
      rw [← hT] at HP5 hb5 hz5 ⊢
      refine (HW2.out _ hb5).mono ?_; rintro e' Y ⟨rfl, hbY⟩
      have HO := Lib.hid (HP5.out.o.keep hbY (by omega))
      have hbw := hb5.trans (hbY.mono hb5.size)
      have y3 : w.heap.size + 1 + 1 < Y.heap.size := by have := hbY.size; omega
      clear ec0 ec1 ec2 ec3 ec4 ec5 ec6 ec7 ec8 ec9 ec10 ec11 ec12 ec13 vc8 vf8 vc9 vf9 vc10 vf10 vc11 vf11 t0 t1 t2 t3 t4 r0 r1 r2 r3 hT HP5 HE5 hbY hb5
      have oc0 := HO.out.c 0 (by decide)
      have of0 := HO.out.f 0 (by decide)
      have oc1 := HO.out.c 1 (by decide)
      have of1 := HO.out.f 1 (by decide)
      have oc2 := HO.out.c 2 (by decide)
      have of2 := HO.out.f 2 (by decide)
      have oc3 := HO.out.c 3 (by decide)
      have of3 := HO.out.f 3 (by decide)
      have oc4 := HO.out.c 4 (by decide)
      have of4 := HO.out.f 4 (by decide)
      have oc5 := HO.out.c 5 (by decide)
      have of5 := HO.out.f 5 (by decide)
      have oc6 := HO.out.c 6 (by decide)
      have of6 := HO.out.f 6 (by decide)
      have oc7 := HO.out.c 7 (by decide)
      have of7 := HO.out.f 7 (by decide)
      have oc8 := HO.out.c 8 (by decide)
      have of8 := HO.out.f 8 (by decide)
      have oc9 := HO.out.c 9 (by decide)
      have of9 := HO.out.f 9 (by decide)
      have oc10 := HO.out.c 10 (by decide)
      have of10 := HO.out.f 10 (by decide)
      have oc11 := HO.out.c 11 (by decide)
      have of11 := HO.out.f 11 (by decide)
      have oc12 := HO.out.c 12 (by decide)
      have of12 := HO.out.f 12 (by decide)
      have oc13 := HO.out.c 13 (by decide)
      have of13 := HO.out.f 13 (by decide)
      go_wp2
      obtain ⟨Z, hZ⟩ : ∃ Z, Z = ((((((((((((((Y.setCell ⟨w.heap.size + 1 + 1, 0, none⟩ (.int .i64 (g 0))).setCell ⟨w.heap.size + 1 + 1, 1, none⟩ (.int .i64 (g 1))).setCell ⟨w.heap.size + 1 + 1, 2, none⟩ (.int .i64 (g 2))).setCell ⟨w.heap.size + 1 + 1, 3, none⟩ (.int .i64 (g 3))).setCell ⟨w.heap.size + 1 + 1, 4, none⟩ (.int .i64 (g 4))).setCell ⟨w.heap.size + 1 + 1, 5, none⟩ (.int .i64 (g 5))).setCell ⟨w.heap.size + 1 + 1, 6, none⟩ (.int .i64 (g 6))).setCell ⟨w.heap.size + 1 + 1, 7, none⟩ (.int .i64 (g 7))).setCell ⟨w.heap.size + 1 + 1, 8, none⟩ (.int .i64 (g 8))).setCell ⟨w.heap.size + 1 + 1, 9, none⟩ (.int .i64 (g 9))).setCell ⟨w.heap.size + 1 + 1, 10, none⟩ (.int .i64 (g 10))).setCell ⟨w.heap.size + 1 + 1, 11, none⟩ (.int .i64 (g 11))).setCell ⟨w.heap.size + 1 + 1, 12, none⟩ (.int .i64 (g 12))).setCell ⟨w.heap.size + 1 + 1, 13, none⟩ (.int .i64 (g 13))) := ⟨_, rfl⟩
      rw [← hZ]
      have EZ := ((((((((((((((HO.out.set (k := 0) (v := g 0)).set (k := 1) (v := g 1)).set (k := 2) (v := g 2)).set (k := 3) (v := g 3)).set (k := 4) (v := g 4)).set (k := 5) (v := g 5)).set (k := 6) (v := g 6)).set (k := 7) (v := g 7)).set (k := 8) (v := g 8)).set (k := 9) (v := g 9)).set (k := 10) (v := g 10)).set (k := 11) (v := g 11)).set (k := 12) (v := g 12)).set (k := 13) (v := g 13))
      rw [← hZ] at EZ
      have bZ : Below w.heap.size w Z := by rw [hZ]; exact ((((((((((((((hbw.setCell (p := ⟨w.heap.size + 1 + 1, 0, none⟩) (by dsimp only; omega) _).setCell (p := ⟨w.heap.size + 1 + 1, 1, none⟩) (by dsimp only; omega) _).setCell (p := ⟨w.heap.size + 1 + 1, 2, none⟩) (by dsimp only; omega) _).setCell (p := ⟨w.heap.size + 1 + 1, 3, none⟩) (by dsimp only; omega) _).setCell (p := ⟨w.heap.size + 1 + 1, 4, none⟩) (by dsimp only; omega) _).setCell (p := ⟨w.heap.size + 1 + 1, 5, none⟩) (by dsimp only; omega) _).setCell (p := ⟨w.heap.size + 1 + 1, 6, none⟩) (by dsimp only; omega) _).setCell (p := ⟨w.heap.size + 1 + 1, 7, none⟩) (by dsimp only; omega) _).setCell (p := ⟨w.heap.size + 1 + 1, 8, none⟩) (by dsimp only; omega) _).setCell (p := ⟨w.heap.size + 1 + 1, 9, none⟩) (by dsimp only; omega) _).setCell (p := ⟨w.heap.size + 1 + 1, 10, none⟩) (by dsimp only; omega) _).setCell (p := ⟨w.heap.size + 1 + 1, 11, none⟩) (by dsimp only; omega) _).setCell (p := ⟨w.heap.size + 1 + 1, 12, none⟩) (by dsimp only; omega) _).setCell (p := ⟨w.heap.size + 1 + 1, 13, none⟩) (by dsimp only; omega) _)
      clear hZ
      have h0 : Z.cell? ⟨w.heap.size + 1 + 1, 0, none⟩ = some (.int .i64 (g 0)) := EZ.c 0 (by decide)
      have h1 : Z.cell? ⟨w.heap.size + 1 + 1, 1, none⟩ = some (.int .i64 (g 1)) := EZ.c 1 (by decide)
      have h2 : Z.cell? ⟨w.heap.size + 1 + 1, 2, none⟩ = some (.int .i64 (g 2)) := EZ.c 2 (by decide)
      have h3 : Z.cell? ⟨w.heap.size + 1 + 1, 3, none⟩ = some (.int .i64 (g 3)) := EZ.c 3 (by decide)
      have h4 : Z.cell? ⟨w.heap.size + 1 + 1, 4, none⟩ = some (.int .i64 (g 4)) := EZ.c 4 (by decide)
      have h5 : Z.cell? ⟨w.heap.size + 1 + 1, 5, none⟩ = some (.int .i64 (g 5)) := EZ.c 5 (by decide)
      have h6 : Z.cell? ⟨w.heap.size + 1 + 1, 6, none⟩ = some (.int .i64 (g 6)) := EZ.c 6 (by decide)
      have h7 : Z.cell? ⟨w.heap.size + 1 + 1, 7, none⟩ = some (.int .i64 (g 7)) := EZ.c 7 (by decide)
      have h8 : Z.cell? ⟨w.heap.size + 1 + 1, 8, none⟩ = some (.int .i64 (g 8)) := EZ.c 8 (by decide)
      have h9 : Z.cell? ⟨w.heap.size + 1 + 1, 9, none⟩ = some (.int .i64 (g 9)) := EZ.c 9 (by decide)
      have h10 : Z.cell? ⟨w.heap.size + 1 + 1, 10, none⟩ = some (.int .i64 (g 10)) := EZ.c 10 (by decide)
      have h11 : Z.cell? ⟨w.heap.size + 1 + 1, 11, none⟩ = some (.int .i64 (g 11)) := EZ.c 11 (by decide)
      have h12 : Z.cell? ⟨w.heap.size + 1 + 1, 12, none⟩ = some (.int .i64 (g 12)) := EZ.c 12 (by decide)
      have h13 : Z.cell? ⟨w.heap.size + 1 + 1, 13, none⟩ = some (.int .i64 (g 13)) := EZ.c 13 (by decide)
      clear EZ
      exact bodyPost_ret (v := .agg #[.int .i64 (g 0), .int .i64 (g 1), .int .i64 (g 2), .int .i64 (g 3), .int .i64 (g 4), .int .i64 (g 5), .int .i64 (g 6), .int .i64 (g 7), .int .i64 (g 8), .int .i64 (g 9), .int .i64 (g 10), .int .i64 (g 11), .int .i64 (g 12), .int .i64 (g 13)]) (by simp [results, Try.results63, go_sem, h0, h1, h2, h3, h4, h5, h6, h7, h8, h9, h10, h11, h12, h13]) rfl ⟨rfl, bZ⟩

end Go.Proofs.Ytmojnopgpgnfeaa
