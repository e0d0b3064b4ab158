/-
  The walk over met: which threads meet the ground first, and where.
-/
import Derived.Deep.Cut
import Derived.Test.YthnjfnapjpdchaaKm6
import Derived.Test.YthnjfnapjpdchaaKm4
import Derived.Test.YthnjfnapjpdchaaKm3
namespace Go.Proofs.Ythnjfnapjpdchaa
open Go.RowKit
set_option linter.unusedVariables false

def hiAt (q : Nat → Nat → Bool) (k j i : Nat) : Int := (cnt (fun k' => fst q k' i) k : Int) + (if i < j ∧ fst q k i = true then 1 else 0)
theorem hiAt_zero (q : Nat → Nat → Bool) (k i : Nat) : hiAt q k 0 i = (cnt (fun k' => fst q k' i) k : Int) := by unfold hiAt; rw [if_neg (by omega)]; omega
theorem hiAt_same {q : Nat → Nat → Bool} {k j : Nat} (h : fst q k j = false) (i : Nat) : hiAt q k (j + 1) i = hiAt q k j i := by
  unfold hiAt
  by_cases e : i = j
  · subst e; rw [if_neg (by rw [h]; simp), if_neg (by omega)]
  · by_cases e2 : i < j ∧ fst q k i = true
    · rw [if_pos e2, if_pos ⟨by omega, e2.2⟩]
    · rw [if_neg e2, if_neg (fun h2 => e2 ⟨by omega, h2.2⟩)]
theorem hiAt_inc {q : Nat → Nat → Bool} {k j : Nat} (h : fst q k j = true) : hiAt q k (j + 1) j = hiAt q k j j + 1 := by
  unfold hiAt
  rw [if_pos ⟨by omega, h⟩, if_neg (by omega)]; omega
theorem hiAt_other {q : Nat → Nat → Bool} {k j i : Nat} (hi : i ≠ j) : hiAt q k (j + 1) i = hiAt q k j i := by
  unfold hiAt
  by_cases e2 : i < j ∧ fst q k i = true
  · rw [if_pos e2, if_pos ⟨by omega, e2.2⟩]
  · rw [if_neg e2, if_neg (fun h2 => e2 ⟨by omega, h2.2⟩)]
theorem hiAt_done {q : Nat → Nat → Bool} {k j i : Nat} (h : j ≤ i → fst q k i = false) : (cnt (fun k' => fst q k' i) (k + 1) : Int) = hiAt q k j i := by
  unfold hiAt
  by_cases e : fst q k i = true
  · by_cases e2 : i < j
    · rw [if_pos ⟨e2, e⟩, cnt_yes (q := fun k' => fst q k' i) e]; omega
    · rw [h (by omega)] at e; cases e
  · rw [if_neg (fun h2 => e h2.2), cnt_no (q := fun k' => fst q k' i) (by simpa using e)]; omega
theorem hiAt_bd (q : Nat → Nat → Bool) (k j i : Nat) : 0 ≤ hiAt q k j i ∧ hiAt q k j i ≤ k + 1 := by
  unfold hiAt
  have := cnt_le (fun k' => fst q k' i) k
  split <;> omega

structure MRel (w wr : World) (g : Nat) (lo hi : Int) (nm : ByteArray) (x y z rose gates step width : Int) (L H : Nat → Int) : Prop where
  s : SiteAt wr w.heap.size nm x y z rose gates step width
  p : PairAt wr (w.heap.size + 1) (.int .i64 lo) (.int .i64 hi)
  r : SpRow wr (w.heap.size + 1 + 1) g L H
  z : w.heap.size + 3 ≤ wr.heap.size
  b : Below w.heap.size w wr
theorem MRel.keep {w W w1 : World} {B g : Nat} {lo hi : Int} {nm : ByteArray} {x y z rose gates step width : Int} {L H : Nat → Int} (t : MRel w W g lo hi nm x y z rose gates step width L H) (hb : Below B W w1) (h : w.heap.size + 3 ≤ B) : MRel w w1 g lo hi nm x y z rose gates step width L H :=
  ⟨t.s.keep hb (by omega), t.p.keep hb (by omega), t.r.keep hb (by omega), Nat.le_trans t.z hb.size, t.b.trans (hb.mono (by omega))⟩

theorem MRel.new (w : World) (g : Nat) (lo hi : Int) (nm : ByteArray) (x y z rose gates step width : Int) : MRel w (((w.alloc (.cells #[.string nm, .int .i64 x, .int .i64 y, .int .i64 z, .int .i64 rose, .int .i64 gates, .int .i64 step, .int .i64 width] 23)).alloc (.cells #[.int .i64 lo, .int .i64 hi] 43)).alloc (.cells (madeCells #[.int .i64 0, .int .i64 0] (g * 2)) 43)) g lo hi nm x y z rose gates step width (fun _ => 0) (fun _ => 0) := by
  have a1 : (w.alloc (.cells #[.string nm, .int .i64 x, .int .i64 y, .int .i64 z, .int .i64 rose, .int .i64 gates, .int .i64 step, .int .i64 width] 23)).heap.size = w.heap.size + 1 := World.size_alloc _ _
  have a2 : ((w.alloc (.cells #[.string nm, .int .i64 x, .int .i64 y, .int .i64 z, .int .i64 rose, .int .i64 gates, .int .i64 step, .int .i64 width] 23)).alloc (.cells #[.int .i64 lo, .int .i64 hi] 43)).heap.size = w.heap.size + 1 + 1 := by rw [World.size_alloc, a1]
  have A := SiteAt.new w nm x y z rose gates step width
  have P := PairAt.new (w.alloc (.cells #[.string nm, .int .i64 x, .int .i64 y, .int .i64 z, .int .i64 rose, .int .i64 gates, .int .i64 step, .int .i64 width] 23)) (.int .i64 lo) (.int .i64 hi) 43
  rw [a1] at P
  have R := SpRow.made ((w.alloc (.cells #[.string nm, .int .i64 x, .int .i64 y, .int .i64 z, .int .i64 rose, .int .i64 gates, .int .i64 step, .int .i64 width] 23)).alloc (.cells #[.int .i64 lo, .int .i64 hi] 43)) g
  rw [a2] at R
  exact ⟨(A.keep (below_alloc _ _) (by omega)).keep (below_alloc _ _) (by omega), P.keep (below_alloc _ _) (by omega), R, by simp, Below.trans (Below.trans (below_alloc _ _) ((below_alloc _ _).mono (by omega))) ((below_alloc _ _).mono (by omega))⟩

/-- what met returns -/
def MetRet (g T : Nat) (p q : Nat → Nat → Bool) (w : World) (e : Ending) (w' : World) : Prop :=
  ∃ b : Nat, e = .returned (.slice (some ⟨b, 0, none⟩) g g) ∧ SpRow w' b g (fun i => (cnt (fun k => fst p k i) T : Int)) (fun i => (cnt (fun k => fst q k i) T : Int)) ∧ w.heap.size ≤ b ∧ b < w'.heap.size ∧ Below w.heap.size w w'

set_option maxRecDepth 100000 in
set_option maxHeartbeats 12800000 in
theorem met_any (nm : ByteArray) (x y z rose gates step width t lo hi : Int) (g gb T : Nat) (GL GH : Nat → Int) (p q : Nat → Nat → Bool) (w : World) (hT : (T : Int) = 2 * width + 1) (d1 : 0 ≤ width) (d2 : width ≤ 8) (t1 : 0 ≤ t) (t2 : t ≤ 256) (s1 : 50 ≤ step) (s2 : step ≤ 2000) (z1 : 0 ≤ z) (z2 : z ≤ 20000) (e1 : 1000000 ≤ lo) (e2 : lo ≤ 100000000) (e3 : 1000000 ≤ hi) (e4 : hi ≤ 100000000) (hg : g ≤ 200) (hs : SpRow w gb g GL GH) (hgb : gb < w.heap.size)
    (hp : ∀ k j, p k j = decide (climbHi z step (t - width + k) j lo ≤ GL j)) (hq : ∀ k j, q k j = decide (climbLo z step (t - width + k) j hi ≤ GH j)) (hpq : ∀ k j, k < T → j < g → p k j = true → q k j = true) :
    Calls Try.prog 87 #[.agg #[.string nm, .int .i64 x, .int .i64 y, .int .i64 z, .int .i64 rose, .int .i64 gates, .int .i64 step, .int .i64 width], .int .i64 t, .agg #[.int .i64 lo, .int .i64 hi], .slice (some ⟨gb, 0, none⟩) g g] w (MetRet g T p q w) := by
  have HS := Lib.hid hs
  have HP := Lib.hid hp
  have HQ := Lib.hid hq
  have HPQ := Lib.hid hpq
  have HT := Lib.hid hT
  have hmk := fun wx : World => make_spans g (by omega) wx
  have j1 : IntKind.i64.wrap (t - width) = t - width := IntWalk.i64_in _ (by omega)
  have j2 : IntKind.i64.wrap (t + width) = t + width := IntWalk.i64_in _ (by omega)
  clear hs hp hq hpq
  go_enter Try.func87, Try.ntmps87
  go_wp2
  go_step3
  go_wp2
  go_step3
  go_wp2
  go_loopw [10] (fun v wr => ∃ k : Nat, k ≤ T ∧ v = .int .i64 (t - width + k) ∧ MRel w wr g lo hi nm x y z rose gates step width (fun i => (cnt (fun k' => fst p k' i) k : Int)) (fun i => (cnt (fun k' => fst q k' i) k : Int))) (fun v _ => (t + width + 1 - intOf v).toNat)
  case atStart =>
    refine ⟨0, Nat.zero_le _, by go_num, ?_⟩
    have m := MRel.new w g lo hi nm x y z rose gates step width
    exact ⟨m.s, m.p, m.r.ext (fun k hk => by rfl) (fun k hk => by rfl), m.z, m.b⟩
  case round =>
    obtain ⟨k, hk, rfl, hmr⟩ := hrel
    have hTT := HT.out
    have j3 : IntKind.i64.wrap (t - width + (k : Int) + 1) = t - width + (k : Int) + 1 := IntWalk.i64_in _ (by omega)
    have HM := Lib.hid hmr
    obtain ⟨⟨k0, k1, k2, k3, k4, k5, k6, k7⟩, ⟨p0, p1⟩, hrow, hz, hbw⟩ := hmr
    have y0 : w.heap.size < wr.heap.size := by omega
    have y1 : w.heap.size + 1 < wr.heap.size := by omega
    by_cases hkT : k + 1 ≤ T
    · have hcc : decide (t - width + (k : Int) ≤ t + width) = true := decide_eq_true (by omega)
      clear hrow
      go_wp2
      clear k0 k1 k2 k3 k4 k5 k6 k7 p0 p1
      go_loopw [11, 32] (fun d i wr2 => ∃ j : Nat, j ≤ g ∧ i = .int .i64 j ∧ d = .bool (seen q k j) ∧ seen p k j = false ∧ MRel w wr2 g lo hi nm x y z rose gates step width (fun i => (cnt (fun k' => fst p k' i) k : Int)) (hiAt q k j)) (fun _ i _ => g - (intOf i).toNat)
      case atStart =>
        have m := HM.out
        exact ⟨0, Nat.zero_le _, rfl, rfl, rfl, m.s, m.p, m.r.ext (fun i hi => rfl) (fun i hi => hiAt_zero q k i), m.z, m.b⟩
      case round =>
        clear HM hz hbw y0 y1
        obtain ⟨j, hj, rfl, rfl, hsp, ⟨⟨k0, k1, k2, k3, k4, k5, k6, k7⟩, ⟨p0, p1⟩, hrow, hz, hbw⟩⟩ := hrel
        have HSP := Lib.hid hsp
        clear hsp
        have y0 : w.heap.size < wr.heap.size := by omega
        have y1 : w.heap.size + 1 < wr.heap.size := by omega
        by_cases hlt : j < g
        · have u0 := keepB hbw hgb (HS.out.c0 j hlt)
          have u1 := keepB hbw hgb (HS.out.c1 j hlt)
          have q0 : (0 : Int) ≤ (j : Int) := by omega
          have q1 : (j : Int) < (g : Int) := by omega
          have HR := Lib.hid hrow
          have hzr : w.heap.size + 3 ≤ wr.heap.size := hz
          clear hrow
          go_wp2_with fail
          refine (height_any _ _ _ _ _ _ _ _ _ _ _ _ _ (by omega) (by omega) s1 s2 q0 (by omega) z1 z2 e1 e2 e3 e4).mono ?_; rintro e w5 ⟨rfl, hb5⟩
          have hb6 : Below wr.heap.size wr w5 := Below.trans (below_alloc _ _) (hb5.mono (by simp))
          have l0 : w5.cell? ⟨wr.heap.size, 0, none⟩ = some (.int .i64 (GL j)) := keepB hb5 (by simp) (alloc_new rfl rfl)
          have l1 : w5.cell? ⟨wr.heap.size, 1, none⟩ = some (.int .i64 (GH j)) := keepB hb5 (by simp) (alloc_new rfl rfl)
          have lz : wr.heap.size < w5.heap.size := by have := hb5.size; simp at this; omega
          have m5 := (⟨⟨k0, k1, k2, k3, k4, k5, k6, k7⟩, ⟨p0, p1⟩, HR.out, hz, hbw⟩ : MRel w wr g lo hi nm x y z rose gates step width (fun i => (cnt (fun k' => fst p k' i) k : Int)) (hiAt q k j)).keep hb6 hz
          have m6 := m5.keep (below_alloc w5 (.cells #[.int .i64 (climbLo z step (t - width + k) j hi), .int .i64 (climbHi z step (t - width + k) j lo)] 43)) m5.z
          clear k0 k1 k2 k3 k4 k5 k6 k7 p0 p1 hz hbw y0 y1 u0 u1 hb5 hb6 HR
          have a0 := alloc_keep (o := .cells #[.int .i64 (climbLo z step (t - width + k) j hi), .int .i64 (climbHi z step (t - width + k) j lo)] 43) lz l0
          have a1 := alloc_keep (o := .cells #[.int .i64 (climbLo z step (t - width + k) j hi), .int .i64 (climbHi z step (t - width + k) j lo)] 43) lz l1
          have a2 : (w5.alloc (.cells #[.int .i64 (climbLo z step (t - width + k) j hi), .int .i64 (climbHi z step (t - width + k) j lo)] 43)).cell? ⟨w5.heap.size, 0, none⟩ = some (.int .i64 (climbLo z step (t - width + k) j hi)) := alloc_new rfl rfl
          have a3 : (w5.alloc (.cells #[.int .i64 (climbLo z step (t - width + k) j hi), .int .i64 (climbHi z step (t - width + k) j lo)] 43)).cell? ⟨w5.heap.size, 1, none⟩ = some (.int .i64 (climbHi z step (t - width + k) j lo)) := alloc_new rfl rfl
          have lz5 := m5.z
          clear m5 l0 l1
          go_upto_region 10 with fail
          generalize w5.alloc (.cells #[.int .i64 (climbLo z step (t - width + k) j hi), .int .i64 (climbHi z step (t - width + k) j lo)] 43) = W6 at *
          obtain ⟨⟨k0, k1, k2, k3, k4, k5, k6, k7⟩, ⟨p0, p1⟩, hrow, hz, hbw⟩ := m6
          cases hm : q k j with
          | false =>
            have hsu : p k j = false := by
              cases e : p k j
              · rfl
              · have := HPQ.out k j (by omega) hlt e; rw [hm] at this; cases this
            have c1 : decide (climbLo z step (t - width + k) j hi ≤ GH j) = false := by rw [← HQ.out]; exact hm
            have c2 : decide (climbHi z step (t - width + k) j lo ≤ GL j) = false := by rw [← HP.out]; exact hsu
            have hf : fst q k j = false := by unfold fst; rw [hm]; rfl
            have M6 := Lib.hid (show MRel w W6 g lo hi nm x y z rose gates step width (fun i => (cnt (fun k' => fst p k' i) k : Int)) (hiAt q k (j + 1)) from ⟨⟨k0, k1, k2, k3, k4, k5, k6, k7⟩, ⟨p0, p1⟩, hrow.ext (fun i hi => rfl) (fun i hi => hiAt_same hf i), hz, hbw⟩)
            clear hrow k0 k1 k2 k3 k4 k5 k6 k7 p0 p1
            have HS6 := Lib.hid (show seen q k (j + 1) = seen q k j by rw [seen_succ, hm, Bool.or_false])
            clear hf
            have HSP2 := Lib.hid (show seen p k (j + 1) = false by rw [seen_succ, HSP.out, hsu]; rfl)
            clear hm hsu
            go_wp2
            go_roundw
            case rel => exact ⟨j + 1, by omega, by go_num, by rw [HS6.out], HSP2.out, M6.out⟩
            case measure => simp [intOf]; omega
          | true =>
            cases hsn : seen q k j with
            | true =>
              cases hsu : p k j with
              | false =>
                have c1 : decide (climbLo z step (t - width + k) j hi ≤ GH j) = true := by rw [← HQ.out]; exact hm
                have c2 : decide (climbHi z step (t - width + k) j lo ≤ GL j) = false := by rw [← HP.out]; exact hsu
                have hf : fst q k j = false := fst_after hsn (Nat.le_refl _)
                have M6 := Lib.hid (show MRel w W6 g lo hi nm x y z rose gates step width (fun i => (cnt (fun k' => fst p k' i) k : Int)) (hiAt q k (j + 1)) from ⟨⟨k0, k1, k2, k3, k4, k5, k6, k7⟩, ⟨p0, p1⟩, hrow.ext (fun i hi => rfl) (fun i hi => hiAt_same hf i), hz, hbw⟩)
                clear hrow k0 k1 k2 k3 k4 k5 k6 k7 p0 p1
                have HS6 := Lib.hid (show seen q k (j + 1) = true by rw [seen_succ, hm, Bool.or_true])
                clear hf
                have HSP2 := Lib.hid (show seen p k (j + 1) = false by rw [seen_succ, HSP.out, hsu]; rfl)
                clear hm hsu
                go_wp2
                go_roundw
                case rel => exact ⟨j + 1, by omega, by go_num, by rw [HS6.out], HSP2.out, M6.out⟩
                case measure => simp [intOf]; omega
              | true =>
                have c1 : decide (climbLo z step (t - width + k) j hi ≤ GH j) = true := by rw [← HQ.out]; exact hm
                have c2 : decide (climbHi z step (t - width + k) j lo ≤ GL j) = true := by rw [← HP.out]; exact hsu
                have hf : fst q k j = false := fst_after hsn (Nat.le_refl _)
                have M6 := Lib.hid (show MRel w W6 g lo hi nm x y z rose gates step width (fun i => (cnt (fun k' => fst p k' i) k : Int)) (hiAt q k (j + 1)) from ⟨⟨k0, k1, k2, k3, k4, k5, k6, k7⟩, ⟨p0, p1⟩, hrow.ext (fun i hi => rfl) (fun i hi => hiAt_same hf i), hz, hbw⟩)
                clear hrow k0 k1 k2 k3 k4 k5 k6 k7 p0 p1
                have HS6 := Lib.hid (show seen q k (j + 1) = true by rw [seen_succ, hm, Bool.or_true])
                clear hf
                have hrow := M6.out.r
                have cL := hrow.c0 j hlt
                have fL := hrow.f0 j hlt
                clear hrow
                have bL := cnt_le (fun k' => fst p k' j) k
                have i7 : IntKind.i64.wrap ((cnt (fun k' => fst p k' j) k : Int) + 1) = (cnt (fun k' => fst p k' j) k : Int) + 1 := IntWalk.i64_in _ (by omega)
                have M7 := Lib.hid (show MRel w (W6.setCell ⟨w.heap.size + 1 + 1, j * 2, none⟩ (.int .i64 ((cnt (fun k' => fst p k' j) k : Int) + 1))) g lo hi nm x y z rose gates step width (fun i => (cnt (fun k' => fst p k' i) (k + 1) : Int)) (fun i => (cnt (fun k' => fst q k' i) (k + 1) : Int)) from by
                  have hfs := fst_here HSP.out hsu
                  have R7 := M6.out.r.setL (k := j) (v := (cnt (fun k' => fst p k' j) k : Int) + 1) (L2 := fun i => (cnt (fun k' => fst p k' i) (k + 1) : Int)) (by rw [cnt_yes (q := fun k' => fst p k' j) hfs]; omega) (fun i hi => by
                    have e0 : fst p k i = false := by
                      by_cases e : i < j
                      · exact fst_not HSP.out e
                      · exact fst_after (j := j + 1) (by rw [seen_succ, hsu, Bool.or_true]) (by omega)
                    rw [cnt_no (q := fun k' => fst p k' i) e0])
                  have R8 := R7.ext (L2 := fun i => (cnt (fun k' => fst p k' i) (k + 1) : Int)) (H2 := fun i => (cnt (fun k' => fst q k' i) (k + 1) : Int)) (fun i hi => rfl) (fun i hi => hiAt_done (fun hij => fst_after HS6.out hij))
                  have m := M6.out
                  have B7 : Below (w.heap.size + 1 + 1) W6 (W6.setCell ⟨w.heap.size + 1 + 1, j * 2, none⟩ (.int .i64 ((cnt (fun k' => fst p k' j) k : Int) + 1))) := (Below.refl _ _).setCell (p := ⟨w.heap.size + 1 + 1, j * 2, none⟩) (Nat.le_refl _) _
                  exact ⟨m.s.keep B7 (by omega), m.p.keep B7 (by omega), R8, Nat.le_trans m.z B7.size, m.b.trans (B7.mono (by omega))⟩)
                clear hsn hm hsu bL
                go_wp2
                go_roundw
                case rel => exact ⟨k + 1, hkT, by go_num, M7.out⟩
                case measure => simp [intOf]; omega
            | false =>
              cases hsu : p k j with
              | false =>
                have c1 : decide (climbLo z step (t - width + k) j hi ≤ GH j) = true := by rw [← HQ.out]; exact hm
                have c2 : decide (climbHi z step (t - width + k) j lo ≤ GL j) = false := by rw [← HP.out]; exact hsu
                have hf : fst q k j = true := fst_here hsn hm
                have cH := hrow.c1 j hlt
                have fH := hrow.f1 j hlt
                have bH := hiAt_bd q k j j
                have R6 := hrow.setH (k := j) (v := hiAt q k j j + 1) (H2 := hiAt q k (j + 1)) (hiAt_inc hf) (fun i hi => hiAt_other hi)
                have B6 : Below (w.heap.size + 1 + 1) W6 (W6.setCell ⟨w.heap.size + 1 + 1, j * 2 + 1, none⟩ (.int .i64 (hiAt q k j j + 1))) := (Below.refl _ W6).setCell (p := ⟨w.heap.size + 1 + 1, j * 2 + 1, none⟩) (Nat.le_refl _) _
                have i6 : IntKind.i64.wrap (hiAt q k j j + 1) = hiAt q k j j + 1 := IntWalk.i64_in _ (by omega)
                have M6 : MRel w (W6.setCell ⟨w.heap.size + 1 + 1, j * 2 + 1, none⟩ (.int .i64 (hiAt q k j j + 1))) g lo hi nm x y z rose gates step width (fun i => (cnt (fun k' => fst p k' i) k : Int)) (hiAt q k (j + 1)) := ⟨SiteAt.keep ⟨k0, k1, k2, k3, k4, k5, k6, k7⟩ B6 (by omega), PairAt.keep ⟨p0, p1⟩ B6 (by omega), R6, by simp; omega, hbw.setCell (p := ⟨w.heap.size + 1 + 1, j * 2 + 1, none⟩) (by dsimp only; omega) _⟩
                have a4 : (W6.setCell ⟨w.heap.size + 1 + 1, j * 2 + 1, none⟩ (.int .i64 (hiAt q k j j + 1))).cell? ⟨wr.heap.size, 0, none⟩ = some (.int .i64 (GL j)) := by rw [World.cell?_setCell_far _ _ _ _ (by dsimp only; omega)]; exact a0
                have a5 : (W6.setCell ⟨w.heap.size + 1 + 1, j * 2 + 1, none⟩ (.int .i64 (hiAt q k j j + 1))).cell? ⟨w5.heap.size, 1, none⟩ = some (.int .i64 (climbHi z step (t - width + k) j lo)) := by rw [World.cell?_setCell_far _ _ _ _ (by dsimp only; omega)]; exact a3
                have M6 := Lib.hid M6
                have a4 := Lib.hid a4
                have a5 := Lib.hid a5
                clear R6 B6 hrow
                go_upto_region 13 with fail
                clear a0 a1 a2 a3 cH fH k0 k1 k2 k3 k4 k5 k6 k7 p0 p1 hz hbw
                generalize (W6.setCell ⟨w.heap.size + 1 + 1, j * 2 + 1, none⟩ (.int .i64 (hiAt q k j j + 1))) = W7 at *
                have a4 := a4.out
                have a5 := a5.out
                have HS6 := Lib.hid (show seen q k (j + 1) = true by rw [seen_succ, hm, Bool.or_true])
                clear hf
                have HSP2 := Lib.hid (show seen p k (j + 1) = false by rw [seen_succ, HSP.out, hsu]; rfl)
                clear hm hsu
                go_wp2
                go_roundw
                case rel => exact ⟨j + 1, by omega, by go_num, by rw [HS6.out], HSP2.out, M6.out⟩
                case measure => simp [intOf]; omega
              | true =>
                have c1 : decide (climbLo z step (t - width + k) j hi ≤ GH j) = true := by rw [← HQ.out]; exact hm
                have c2 : decide (climbHi z step (t - width + k) j lo ≤ GL j) = true := by rw [← HP.out]; exact hsu
                have hf : fst q k j = true := fst_here hsn hm
                have cH := hrow.c1 j hlt
                have fH := hrow.f1 j hlt
                have bH := hiAt_bd q k j j
                have R6 := hrow.setH (k := j) (v := hiAt q k j j + 1) (H2 := hiAt q k (j + 1)) (hiAt_inc hf) (fun i hi => hiAt_other hi)
                have B6 : Below (w.heap.size + 1 + 1) W6 (W6.setCell ⟨w.heap.size + 1 + 1, j * 2 + 1, none⟩ (.int .i64 (hiAt q k j j + 1))) := (Below.refl _ W6).setCell (p := ⟨w.heap.size + 1 + 1, j * 2 + 1, none⟩) (Nat.le_refl _) _
                have i6 : IntKind.i64.wrap (hiAt q k j j + 1) = hiAt q k j j + 1 := IntWalk.i64_in _ (by omega)
                have M6 : MRel w (W6.setCell ⟨w.heap.size + 1 + 1, j * 2 + 1, none⟩ (.int .i64 (hiAt q k j j + 1))) g lo hi nm x y z rose gates step width (fun i => (cnt (fun k' => fst p k' i) k : Int)) (hiAt q k (j + 1)) := ⟨SiteAt.keep ⟨k0, k1, k2, k3, k4, k5, k6, k7⟩ B6 (by omega), PairAt.keep ⟨p0, p1⟩ B6 (by omega), R6, by simp; omega, hbw.setCell (p := ⟨w.heap.size + 1 + 1, j * 2 + 1, none⟩) (by dsimp only; omega) _⟩
                have a4 : (W6.setCell ⟨w.heap.size + 1 + 1, j * 2 + 1, none⟩ (.int .i64 (hiAt q k j j + 1))).cell? ⟨wr.heap.size, 0, none⟩ = some (.int .i64 (GL j)) := by rw [World.cell?_setCell_far _ _ _ _ (by dsimp only; omega)]; exact a0
                have a5 : (W6.setCell ⟨w.heap.size + 1 + 1, j * 2 + 1, none⟩ (.int .i64 (hiAt q k j j + 1))).cell? ⟨w5.heap.size, 1, none⟩ = some (.int .i64 (climbHi z step (t - width + k) j lo)) := by rw [World.cell?_setCell_far _ _ _ _ (by dsimp only; omega)]; exact a3
                have M6 := Lib.hid M6
                have a4 := Lib.hid a4
                have a5 := Lib.hid a5
                clear R6 B6 hrow
                go_upto_region 13 with fail
                clear a0 a1 a2 a3 cH fH k0 k1 k2 k3 k4 k5 k6 k7 p0 p1 hz hbw
                generalize (W6.setCell ⟨w.heap.size + 1 + 1, j * 2 + 1, none⟩ (.int .i64 (hiAt q k j j + 1))) = W7 at *
                have a4 := a4.out
                have a5 := a5.out
                have HS6 := Lib.hid (show seen q k (j + 1) = true by rw [seen_succ, hm, Bool.or_true])
                clear hf
                have hrow := M6.out.r
                have cL := hrow.c0 j hlt
                have fL := hrow.f0 j hlt
                clear hrow
                have bL := cnt_le (fun k' => fst p k' j) k
                have i7 : IntKind.i64.wrap ((cnt (fun k' => fst p k' j) k : Int) + 1) = (cnt (fun k' => fst p k' j) k : Int) + 1 := IntWalk.i64_in _ (by omega)
                have M7 := Lib.hid (show MRel w (W7.setCell ⟨w.heap.size + 1 + 1, j * 2, none⟩ (.int .i64 ((cnt (fun k' => fst p k' j) k : Int) + 1))) g lo hi nm x y z rose gates step width (fun i => (cnt (fun k' => fst p k' i) (k + 1) : Int)) (fun i => (cnt (fun k' => fst q k' i) (k + 1) : Int)) from by
                  have hfs := fst_here HSP.out hsu
                  have R7 := M6.out.r.setL (k := j) (v := (cnt (fun k' => fst p k' j) k : Int) + 1) (L2 := fun i => (cnt (fun k' => fst p k' i) (k + 1) : Int)) (by rw [cnt_yes (q := fun k' => fst p k' j) hfs]; omega) (fun i hi => by
                    have e0 : fst p k i = false := by
                      by_cases e : i < j
                      · exact fst_not HSP.out e
                      · exact fst_after (j := j + 1) (by rw [seen_succ, hsu, Bool.or_true]) (by omega)
                    rw [cnt_no (q := fun k' => fst p k' i) e0])
                  have R8 := R7.ext (L2 := fun i => (cnt (fun k' => fst p k' i) (k + 1) : Int)) (H2 := fun i => (cnt (fun k' => fst q k' i) (k + 1) : Int)) (fun i hi => rfl) (fun i hi => hiAt_done (fun hij => fst_after HS6.out hij))
                  have m := M6.out
                  have B7 : Below (w.heap.size + 1 + 1) W7 (W7.setCell ⟨w.heap.size + 1 + 1, j * 2, none⟩ (.int .i64 ((cnt (fun k' => fst p k' j) k : Int) + 1))) := (Below.refl _ _).setCell (p := ⟨w.heap.size + 1 + 1, j * 2, none⟩) (Nat.le_refl _) _
                  exact ⟨m.s.keep B7 (by omega), m.p.keep B7 (by omega), R8, Nat.le_trans m.z B7.size, m.b.trans (B7.mono (by omega))⟩)
                clear hsn hm hsu bL
                go_wp2
                go_roundw
                case rel => exact ⟨k + 1, hkT, by go_num, M7.out⟩
                case measure => simp [intOf]; omega
        · obtain rfl : j = g := by omega
          have M8 := Lib.hid (show MRel w wr j lo hi nm x y z rose gates step width (fun i => (cnt (fun k' => fst p k' i) (k + 1) : Int)) (fun i => (cnt (fun k' => fst q k' i) (k + 1) : Int)) from ⟨⟨k0, k1, k2, k3, k4, k5, k6, k7⟩, ⟨p0, p1⟩, hrow.ext (fun i hi => by rw [cnt_no (q := fun k' => fst p k' i) (fst_not HSP.out hi)]) (fun i hi => hiAt_done (fun hij => by omega)), hz, hbw⟩)
          clear hrow
          go_wp2
          go_roundw
          case rel => exact ⟨k + 1, hkT, by go_num, M8.out⟩
          case measure => simp [intOf]; omega
    · obtain rfl : k = T := by omega
      have HR := Lib.hid hrow
      clear hrow
      go_wp2
      go_ret
      exact ⟨_, rfl, HR.out, by omega, by omega, hbw⟩

end Go.Proofs.Ythnjfnapjpdchaa

namespace Go.Proofs.Ythnjfnapjpdchaa
open Go.RowKit

set_option maxHeartbeats 400000 in
theorem isGate_any (nm : ByteArray) (x y z rose gates step width gate : Int) (w : World) (h1 : 1 ≤ gates) (h2 : gates ≤ 200) :
    Calls Try.prog 67 #[.agg #[.string nm, .int .i64 x, .int .i64 y, .int .i64 z, .int .i64 rose, .int .i64 gates, .int .i64 step, .int .i64 width], .int .i64 gate] w
      fun e w' => e = .returned (.bool (inB gate 0 (gates - 1))) ∧ Below w.heap.size w w' := by
  go_enter Try.func67, Try.ntmps67
  go_wp2_with (go_at_call 59; refine (isIn_any _ _ _ _).mono ?_; rintro e w' ⟨rfl, rfl⟩)
  go_ret
  exact ⟨rfl, (Below.refl _ _).alloc (Nat.le_refl _) _⟩

end Go.Proofs.Ythnjfnapjpdchaa

namespace Go.Proofs.Ythnjfnapjpdchaa
open Go.RowKit

theorem fld0 (a b : Int) (w : World) : (Instr.field 43 (.agg #[.int .i64 a, .int .i64 b]) 0).run Try.prog w = .ok (.int .i64 a) w := by kernel_rfl
theorem fld1 (a b : Int) (w : World) : (Instr.field 43 (.agg #[.int .i64 a, .int .i64 b]) 1).run Try.prog w = .ok (.int .i64 b) w := by kernel_rfl

theorem inB_gate {gate gates : Int} (h : inB gate 0 (gates - 1) = true) : 0 ≤ gate ∧ gate < gates := by have := inB_true.1 h; omega

/-- the error, after that of the site -/
def codeE (sc : Int) (b : Bool) : Int := if sc = 0 then (if b = true then 0 else 3) else sc
/-- a value, and 0 beside an error -/
def val (e v : Int) : Int := if e = 0 then v else 0
theorem codeE_err {sc : Int} (h : sc ≠ 0) (b : Bool) : codeE sc b = sc := by unfold codeE; rw [if_neg h]
theorem codeE_no : codeE 0 false = 3 := rfl
theorem codeE_ok : codeE 0 true = 0 := rfl
theorem val_err {e : Int} (h : e ≠ 0) (v : Int) : val e v = 0 := by unfold val; rw [if_neg h]
theorem val_no (v : Int) : val 3 v = 0 := rfl
theorem val_ok (v : Int) : val 0 v = v := rfl

end Go.Proofs.Ythnjfnapjpdchaa
