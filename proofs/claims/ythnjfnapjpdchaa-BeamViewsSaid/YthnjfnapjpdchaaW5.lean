/-
  The walk over Find.
-/
import Derived.Test.YthnjfnapjpdchaaW4
namespace Go.Proofs.Ythnjfnapjpdchaa
open Go.RowKit
set_option linter.unusedVariables false

theorem bord_mono {step t : Int} (h1 : 0 ≤ t) (h2 : t ≤ 256) (s1 : 50 ≤ step) (s2 : step ≤ 2000) {N : Nat} (hN : N ≤ 201) : ∀ i j, i ≤ j → j < N → 0 ≤ bordI step t i ∧ bordI step t i ≤ bordI step t j := by
  intro i j hij hj
  refine ⟨(bordI_bd h1 h2 s1 s2 (by omega)).2.2.1, ?_⟩
  have tt := M.sq_nonneg t
  have t2 := (M.sq_bd (a := t) (A := 256) (by omega) h2).2
  unfold bordI
  apply Int.ediv_le_ediv (by omega)
  have l1 : (i : Int) * step ≤ (j : Int) * step := Int.mul_le_mul_of_nonneg_right (by omega) (by omega)
  exact Int.mul_le_mul_of_nonneg_right l1 (by omega)

/-- what Find answers: the error goes with whether there is such a gate -/
def FoundIs (N n : Nat) (B : Nat → Int) (dx dy ray gate e : Int) : Prop := ∃ ok : Bool, FindIs N n B dx dy ray gate ok ∧ e = (if ok = true then 0 else 29)
def FoundRet (N n : Nat) (B : Nat → Int) (dx dy : Int) (w : World) (e : Ending) (w' : World) : Prop :=
  ∃ (ray gate ee : Int), FoundIs N n B dx dy ray gate ee ∧ e = .returned (.tuple #[.int .i64 ray, .int .i64 gate, .int .i64 ee]) ∧ Below w.heap.size w w'
theorem found_zero {N n : Nat} {B : Nat → Int} {dx dy ray gate : Int} (h : FindIs N n B dx dy ray gate false) : FoundIs N n B dx dy 0 0 29 := by
  obtain ⟨r, hr, h2 | h2⟩ := h
  · exact ⟨false, ⟨r, hr, .inl ⟨h2.1, rfl, rfl, rfl⟩⟩, rfl⟩
  · exact absurd h2.2.1 (by decide)

set_option maxHeartbeats 800000 in
theorem Find_err (nm : ByteArray) (x y z rose gates step width : Int) (t ax ay : Int) (w : World) (hs : nm.size ≤ maxLen) (hne : (siteC nm x y z rose gates step width != 0) = true) :
    Calls Try.prog 38 #[.agg #[.string nm, .int .i64 x, .int .i64 y, .int .i64 z, .int .i64 rose, .int .i64 gates, .int .i64 step, .int .i64 width], .int .i64 t, .int .i64 ax, .int .i64 ay] w fun e w' => e = .returned (.tuple #[.int .i64 0, .int .i64 0, .int .i64 (siteC nm x y z rose gates step width)]) ∧ Below w.heap.size w w' := by
  have HS := Lib.hid hs
  clear hs
  go_enter Try.func38, Try.ntmps38
  go_wp2_with fail
  refine (CheckSite_any _ _ _ _ _ _ _ _ _ HS.out).mono ?_; rintro e w1 ⟨rfl, hb1⟩
  have hbw : Below w.heap.size w w1 := Below.trans (below_alloc _ _) (hb1.mono (by simp))
  clear hb1
  go_wp2
  go_ret3
  exact ⟨rfl, hbw⟩

set_option maxHeartbeats 800000 in
theorem Find_no0 (nm : ByteArray) (x y z rose gates step width : Int) (t ax ay : Int) (w : World) (hs : nm.size ≤ maxLen) (h0 : siteC nm x y z rose gates step width = 0) (c0 : inB t 0 256 = false) :
    Calls Try.prog 38 #[.agg #[.string nm, .int .i64 x, .int .i64 y, .int .i64 z, .int .i64 rose, .int .i64 gates, .int .i64 step, .int .i64 width], .int .i64 t, .int .i64 ax, .int .i64 ay] w fun e w' => e = .returned (.tuple #[.int .i64 0, .int .i64 0, .int .i64 3]) ∧ Below w.heap.size w w' := by
  have HS := Lib.hid hs
  have H0 := Lib.hid h0
  clear hs h0
  go_enter Try.func38, Try.ntmps38
  go_wp2_with fail
  refine (CheckSite_any _ _ _ _ _ _ _ _ _ HS.out).mono ?_; rintro e w1 ⟨rfl, hb1⟩
  have hbw : Below w.heap.size w w1 := Below.trans (below_alloc _ _) (hb1.mono (by simp))
  clear hb1
  rw [H0.out]
  go_wp2_with fail
  refine (isTilt_any _ _).mono ?_; rintro e w' ⟨rfl, rfl⟩
  go_wp2
  go_ret3
  exact ⟨rfl, hbw⟩

set_option maxHeartbeats 800000 in
theorem Find_no1 (nm : ByteArray) (x y z rose gates step width : Int) (t ax ay : Int) (w : World) (hs : nm.size ≤ maxLen) (h0 : siteC nm x y z rose gates step width = 0) (c0 : inB t 0 256 = true) (c1 : inB ax (-4194304) 4194304 = false) :
    Calls Try.prog 38 #[.agg #[.string nm, .int .i64 x, .int .i64 y, .int .i64 z, .int .i64 rose, .int .i64 gates, .int .i64 step, .int .i64 width], .int .i64 t, .int .i64 ax, .int .i64 ay] w fun e w' => e = .returned (.tuple #[.int .i64 0, .int .i64 0, .int .i64 3]) ∧ Below w.heap.size w w' := by
  have HS := Lib.hid hs
  have H0 := Lib.hid h0
  clear hs h0
  go_enter Try.func38, Try.ntmps38
  go_wp2_with fail
  refine (CheckSite_any _ _ _ _ _ _ _ _ _ HS.out).mono ?_; rintro e w1 ⟨rfl, hb1⟩
  have hbw : Below w.heap.size w w1 := Below.trans (below_alloc _ _) (hb1.mono (by simp))
  clear hb1
  rw [H0.out]
  go_wp2_with fail
  refine (isTilt_any _ _).mono ?_; rintro e w' ⟨rfl, rfl⟩
  go_wp2_with fail
  refine (isIn_any _ _ _ _).mono ?_; rintro e w' ⟨rfl, rfl⟩
  go_wp2
  go_ret3
  exact ⟨rfl, hbw⟩

set_option maxHeartbeats 800000 in
theorem Find_no2 (nm : ByteArray) (x y z rose gates step width : Int) (t ax ay : Int) (w : World) (hs : nm.size ≤ maxLen) (h0 : siteC nm x y z rose gates step width = 0) (c0 : inB t 0 256 = true) (c1 : inB ax (-4194304) 4194304 = true) (c2 : inB ay (-4194304) 4194304 = false) :
    Calls Try.prog 38 #[.agg #[.string nm, .int .i64 x, .int .i64 y, .int .i64 z, .int .i64 rose, .int .i64 gates, .int .i64 step, .int .i64 width], .int .i64 t, .int .i64 ax, .int .i64 ay] w fun e w' => e = .returned (.tuple #[.int .i64 0, .int .i64 0, .int .i64 3]) ∧ Below w.heap.size w w' := by
  have HS := Lib.hid hs
  have H0 := Lib.hid h0
  clear hs h0
  go_enter Try.func38, Try.ntmps38
  go_wp2_with fail
  refine (CheckSite_any _ _ _ _ _ _ _ _ _ HS.out).mono ?_; rintro e w1 ⟨rfl, hb1⟩
  have hbw : Below w.heap.size w w1 := Below.trans (below_alloc _ _) (hb1.mono (by simp))
  clear hb1
  rw [H0.out]
  go_wp2_with fail
  refine (isTilt_any _ _).mono ?_; rintro e w' ⟨rfl, rfl⟩
  go_wp2_with fail
  refine (isIn_any _ _ _ _).mono ?_; rintro e w' ⟨rfl, rfl⟩
  go_wp2_with fail
  refine (isIn_any _ _ _ _).mono ?_; rintro e w' ⟨rfl, rfl⟩
  go_wp2
  go_ret3
  exact ⟨rfl, hbw⟩

set_option maxHeartbeats 6400000 in
theorem Find_ok (nm : ByteArray) (x y z : Int) (n g : Nat) (step width t ax ay : Int) (w : World) (hs : nm.size ≤ maxLen) (h0 : siteC nm x y z n g step width = 0) (hk : SiteOk x y z n g step width)
    (c0 : inB t 0 256 = true) (c1 : inB ax (-4194304) 4194304 = true) (c2 : inB ay (-4194304) 4194304 = true) :
    Calls Try.prog 38 #[.agg #[.string nm, .int .i64 x, .int .i64 y, .int .i64 z, .int .i64 (n : Nat), .int .i64 (g : Nat), .int .i64 step, .int .i64 width], .int .i64 t, .int .i64 ax, .int .i64 ay] w (FoundRet (g + 1) n (bordI step t) (ax - x) (ay - y) w) := by
  have HS := Lib.hid hs
  have H0 := Lib.hid h0
  obtain ⟨x1, x2, y1, y2, z1, z2, r1, r2, hg1, hg2, s1, s2, d1, d2⟩ := hk
  obtain ⟨t1, t2⟩ := inB_true.1 c0
  obtain ⟨p1, p2⟩ := inB_true.1 c1
  obtain ⟨p3, p4⟩ := inB_true.1 c2
  have HM := Lib.hid (bord_mono (step := step) (t := t) t1 t2 s1 s2 (N := g + 1) (by omega))
  have HB := Lib.hid (show ∀ i, i < g + 1 → bordI step t i ≤ 1000000 from fun i hi => by have := (bordI_bd (k := i) t1 t2 s1 s2 (by omega)).2.2.2; omega)
  clear hs h0
  go_enter Try.func38, Try.ntmps38
  go_wp2_with fail
  refine (CheckSite_any _ _ _ _ _ _ _ _ _ HS.out).mono ?_; rintro e w1 ⟨rfl, hb1⟩
  have hsite := (SiteAt.new w nm x y z n g step width).keep hb1 (by simp)
  have hbw : Below w.heap.size w w1 := Below.trans (below_alloc _ _) (hb1.mono (by simp))
  have hz : w.heap.size + 1 ≤ w1.heap.size := by have := hb1.size; simp only [World.size_alloc] at this; omega
  clear hb1
  obtain ⟨k0, k1, k2, k3, k4, k5, k6, k7⟩ := hsite
  rw [H0.out]
  go_wp2_with fail
  refine (isTilt_any _ _).mono ?_; rintro e w' ⟨rfl, rfl⟩
  go_wp2_with fail
  refine (isIn_any _ _ _ _).mono ?_; rintro e w' ⟨rfl, rfl⟩
  go_wp2_with fail
  refine (isIn_any _ _ _ _).mono ?_; rintro e w' ⟨rfl, rfl⟩
  go_wp2_with fail
  go_region_held3 (fun w' => w'.cell? ⟨w.heap.size, 0, none⟩ = some (.string nm) ∧ w'.cell? ⟨w.heap.size, 1, none⟩ = some (.int .i64 x) ∧ w'.cell? ⟨w.heap.size, 2, none⟩ = some (.int .i64 y) ∧ w'.cell? ⟨w.heap.size, 3, none⟩ = some (.int .i64 z) ∧ w'.cell? ⟨w.heap.size, 4, none⟩ = some (.int .i64 (n : Nat)) ∧ w'.cell? ⟨w.heap.size, 5, none⟩ = some (.int .i64 (g : Nat)) ∧ w'.cell? ⟨w.heap.size, 6, none⟩ = some (.int .i64 step) ∧ w'.cell? ⟨w.heap.size, 7, none⟩ = some (.int .i64 width) ∧ w.heap.size + 1 ≤ w'.heap.size ∧ Below w.heap.size w w')
    ((first | exact ⟨k0, k1, k2, k3, k4, k5, k6, k7, hz, hbw.drew⟩ | (go_split_ands; refine ⟨?_, ?_, ?_, ?_, ?_, ?_, ?_, ?_, ?_, ?_⟩ <;> first | exact keepB hb4 (by omega) (by assumption) | (have := hb4.size; omega) | exact Below.trans (by assumption) (hb4.mono (by omega)))))
    (first | (go_at_call 79; refine (borders_any _ _ _ _ _ g _ _ _ _ (by omega) t1 t2 s1 s2).mono ?_; rintro e w4 ⟨b, rfl, hI, hbb, hbc, hb4⟩) | (go_at_call 78; refine (find_any _ _ _ _ n g _ _ (g + 1) _ (bordI step t) _ _ _ (by assumption) (by assumption) (by omega) HM.out HB.out (by omega) (by omega) (by omega) (by omega) (by omega) (by omega) (by omega) (by omega) (by omega) (by omega) (by omega) (by omega) (by omega) (by omega)).mono ?_; rintro e w4 ⟨ray, gate, ok, hF, rfl, hb4⟩))
  go_split_ands
  have HF := Lib.hid hF
  clear hF
  cases ok
  · go_wp2
    go_ret3
    exact ⟨0, 0, 29, found_zero HF.out, rfl, by assumption⟩
  · go_wp2
    go_ret3
    exact ⟨ray, gate, 0, ⟨true, HF.out, rfl⟩, rfl, by assumption⟩

end Go.Proofs.Ythnjfnapjpdchaa
