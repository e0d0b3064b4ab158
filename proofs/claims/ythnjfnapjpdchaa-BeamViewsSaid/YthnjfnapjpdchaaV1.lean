/-
  Walks over CheckField, in the code and in the reference.
-/
import Derived.Test.YthnjfnapjpdchaaV0
namespace Go.Proofs.Ythnjfnapjpdchaa
open Go.RowKit
set_option linter.unusedVariables false

/-- the answer of CheckField: what spans may be at most is a number -/
noncomputable def fieldC (gx gy size wide high : Int) (len : Nat) (zs : Nat → Int × Int) (most : Int) : Int :=
  if gridC gx gy size wide high = 0 then (if (len : Int) = wide * high then spansC len zs 0 most else 11) else gridC gx gy size wide high
theorem fieldC_grid {gx gy size wide high : Int} {len : Nat} {zs : Nat → Int × Int} {most : Int} (h : gridC gx gy size wide high ≠ 0) : fieldC gx gy size wide high len zs most = gridC gx gy size wide high := by unfold fieldC; rw [if_neg h]
theorem fieldC_shape {gx gy size wide high : Int} {len : Nat} {zs : Nat → Int × Int} {most : Int} (h : gridC gx gy size wide high = 0) (h2 : (len : Int) ≠ wide * high) : fieldC gx gy size wide high len zs most = 11 := by unfold fieldC; rw [if_pos h, if_neg h2]
theorem fieldC_spans {gx gy size wide high : Int} {len : Nat} {zs : Nat → Int × Int} {most : Int} (h : gridC gx gy size wide high = 0) (h2 : (len : Int) = wide * high) : fieldC gx gy size wide high len zs most = spansC len zs 0 most := by unfold fieldC; rw [if_pos h, if_pos h2]

theorem gridC_zero {gx gy size wide high : Int} : gridC gx gy size wide high = 0 ↔ gridB gx gy size wide high = true := by
  unfold gridC
  by_cases h : gridB gx gy size wide high = true
  · rw [if_pos h]; exact ⟨fun _ => h, fun _ => rfl⟩
  · rw [if_neg h]; exact ⟨(fun h2 => by cases h2), fun h2 => absurd h2 h⟩
theorem gridB_bd {gx gy size wide high : Int} (h : gridB gx gy size wide high = true) : (-1048576 ≤ gx ∧ gx ≤ 1048576) ∧ (-1048576 ≤ gy ∧ gy ≤ 1048576) ∧ (1 ≤ size ∧ size ≤ 10000) ∧ (1 ≤ wide ∧ wide ≤ 64) ∧ (1 ≤ high ∧ high ≤ 64) := by
  unfold gridB at h
  simp only [Bool.and_eq_true, inB_true] at h
  exact ⟨h.1.1.1.1, h.1.1.1.2, h.1.1.2, h.1.2, h.2⟩

structure FieldAt (w : World) (b : Nat) (gx gy size wide high : Int) (sl : Value) : Prop where
  c0 : w.cell? ⟨b, 0, none⟩ = some (.int .i64 gx)
  c1 : w.cell? ⟨b, 1, none⟩ = some (.int .i64 gy)
  c2 : w.cell? ⟨b, 2, none⟩ = some (.int .i64 size)
  c3 : w.cell? ⟨b, 3, none⟩ = some (.int .i64 wide)
  c4 : w.cell? ⟨b, 4, none⟩ = some (.int .i64 high)
  c5 : w.cell? ⟨b, 5, none⟩ = some sl
theorem FieldAt.new (w : World) (gx gy size wide high : Int) (sl : Value) : FieldAt (w.alloc (.cells #[.int .i64 gx, .int .i64 gy, .int .i64 size, .int .i64 wide, .int .i64 high, sl] 28)) w.heap.size gx gy size wide high sl :=
  ⟨alloc_new rfl rfl, alloc_new rfl rfl, alloc_new rfl rfl, alloc_new rfl rfl, alloc_new rfl rfl, alloc_new rfl rfl⟩
theorem FieldAt.keep {B b : Nat} {W w1 : World} {gx gy size wide high : Int} {sl : Value} (s : FieldAt W b gx gy size wide high sl) (hb : Below B W w1) (h : b < B) : FieldAt w1 b gx gy size wide high sl :=
  ⟨keepB hb h s.c0, keepB hb h s.c1, keepB hb h s.c2, keepB hb h s.c3, keepB hb h s.c4, keepB hb h s.c5⟩

set_option maxHeartbeats 800000 in
theorem CheckField_grid (gx gy size wide high : Int) (a : Option Addr) (len cap : Nat) (zs : Nat → Int × Int) (w : World) (h : (gridC gx gy size wide high != 0) = true) :
    Calls Try.prog 21 #[.agg #[.int .i64 gx, .int .i64 gy, .int .i64 size, .int .i64 wide, .int .i64 high, .slice a len cap]] w fun e w' => e = .returned (.int .i64 (gridC gx gy size wide high)) ∧ Below w.heap.size w w' := by
  go_enter Try.func21, Try.ntmps21
  go_wp2_with fail
  refine (CheckGrid_any _ _ _ _ _ _).mono ?_; rintro e w1 ⟨rfl, hb1⟩
  have f1 := (FieldAt.new w gx gy size wide high (.slice a len cap)).keep hb1 (by simp)
  have hbw : Below w.heap.size w w1 := Below.trans (below_alloc _ _) (hb1.mono (by simp))
  have y0 : w.heap.size < w1.heap.size := by have := hb1.size; simp only [World.size_alloc] at this; omega
  clear hb1
  obtain ⟨k0, k1, k2, k3, k4, k5⟩ := f1
  go_wp2
  go_ret
  exact ⟨rfl, hbw⟩

set_option maxHeartbeats 800000 in
theorem CheckField_shape (gx gy size wide high : Int) (a : Option Addr) (len cap : Nat) (zs : Nat → Int × Int) (w : World) (hg : gridC gx gy size wide high = 0) (h2 : ((len : Int) != wide * high) = true) (hl : len ≤ 1000000) :
    Calls Try.prog 21 #[.agg #[.int .i64 gx, .int .i64 gy, .int .i64 size, .int .i64 wide, .int .i64 high, .slice a len cap]] w fun e w' => e = .returned (.int .i64 11) ∧ Below w.heap.size w w' := by
  obtain ⟨_, _, _, ⟨v1, v2⟩, v3, v4⟩ := gridB_bd (gridC_zero.1 hg)
  have v5 := M.mul_bd (a := wide) (b := high) (A := 64) (B := 64) (by omega) v2 (by omega) v4
  have HG := Lib.hid hg
  clear hg
  go_enter Try.func21, Try.ntmps21
  go_wp2_with fail
  refine (CheckGrid_any _ _ _ _ _ _).mono ?_; rintro e w1 ⟨rfl, hb1⟩
  have f1 := (FieldAt.new w gx gy size wide high (.slice a len cap)).keep hb1 (by simp)
  have hbw : Below w.heap.size w w1 := Below.trans (below_alloc _ _) (hb1.mono (by simp))
  have y0 : w.heap.size < w1.heap.size := by have := hb1.size; simp only [World.size_alloc] at this; omega
  clear hb1
  obtain ⟨k0, k1, k2, k3, k4, k5⟩ := f1
  rw [HG.out]
  go_wp2
  go_ret
  exact ⟨rfl, hbw⟩

set_option maxHeartbeats 800000 in
theorem CheckField_spans (gx gy size wide high : Int) (a : Option Addr) (len cap : Nat) (zs : Nat → Int × Int) (w : World) (hg : gridC gx gy size wide high = 0) (h2 : ((len : Int) != wide * high) = false) (hl : len ≤ 1000000) (hs : SliceIs w a len cap zs) :
    Calls Try.prog 21 #[.agg #[.int .i64 gx, .int .i64 gy, .int .i64 size, .int .i64 wide, .int .i64 high, .slice a len cap]] w fun e w' => e = .returned (.int .i64 (spansC len zs 0 1073741824)) ∧ Below w.heap.size w w' := by
  obtain ⟨_, _, _, ⟨v1, v2⟩, v3, v4⟩ := gridB_bd (gridC_zero.1 hg)
  have v5 := M.mul_bd (a := wide) (b := high) (A := 64) (B := 64) (by omega) v2 (by omega) v4
  have HG := Lib.hid hg
  have HS := Lib.hid hs
  clear hg hs
  go_enter Try.func21, Try.ntmps21
  go_wp2_with fail
  refine (CheckGrid_any _ _ _ _ _ _).mono ?_; rintro e w1 ⟨rfl, hb1⟩
  have f1 := (FieldAt.new w gx gy size wide high (.slice a len cap)).keep hb1 (by simp)
  have hbw : Below w.heap.size w w1 := Below.trans (below_alloc _ _) (hb1.mono (by simp))
  have y0 : w.heap.size < w1.heap.size := by have := hb1.size; simp only [World.size_alloc] at this; omega
  clear hb1
  obtain ⟨k0, k1, k2, k3, k4, k5⟩ := f1
  rw [HG.out]
  go_wp2_with fail
  refine (checkSpans_any _ _ _ zs _ _ _ hl (HS.out.keep hbw)).mono ?_; rintro e w2 ⟨rfl, hb2⟩
  go_wp2
  go_ret
  exact ⟨rfl, hbw.trans (hb2.mono hbw.size)⟩

theorem CheckField_any (gx gy size wide high : Int) (a : Option Addr) (len cap : Nat) (zs : Nat → Int × Int) (w : World) (hl : len ≤ 1000000) (hs : SliceIs w a len cap zs) :
    Calls Try.prog 21 #[.agg #[.int .i64 gx, .int .i64 gy, .int .i64 size, .int .i64 wide, .int .i64 high, .slice a len cap]] w fun e w' => e = .returned (.int .i64 (fieldC gx gy size wide high len zs 1073741824)) ∧ Below w.heap.size w w' := by
  by_cases hg : gridC gx gy size wide high = 0
  · by_cases h2 : (len : Int) = wide * high
    · rw [fieldC_spans hg h2]; exact CheckField_spans gx gy size wide high a len cap zs w hg (by rw [h2]; simp) hl hs
    · rw [fieldC_shape hg h2]; exact CheckField_shape gx gy size wide high a len cap zs w hg (bne_iff_ne.2 h2) hl
  · rw [fieldC_grid hg]; exact CheckField_grid gx gy size wide high a len cap zs w (bne_iff_ne.2 hg)

set_option maxHeartbeats 800000 in
theorem fits_grid (gx gy size wide high : Int) (a : Option Addr) (len cap : Nat) (zs : Nat → Int × Int) (most : Int) (w : World) (h : (gridC gx gy size wide high != 0) = true) :
    Calls Try.prog 62 #[.agg #[.int .i64 gx, .int .i64 gy, .int .i64 size, .int .i64 wide, .int .i64 high, .slice a len cap], .int .i64 most] w fun e w' => e = .returned (.int .i64 (gridC gx gy size wide high)) ∧ Below w.heap.size w w' := by
  go_enter Try.func62, Try.ntmps62
  go_wp2_with fail
  refine (refCheckGrid_any _ _ _ _ _ _).mono ?_; rintro e w1 ⟨rfl, hb1⟩
  have f1 := (FieldAt.new w gx gy size wide high (.slice a len cap)).keep hb1 (by simp)
  have hbw : Below w.heap.size w w1 := Below.trans (below_alloc _ _) (hb1.mono (by simp))
  have y0 : w.heap.size < w1.heap.size := by have := hb1.size; simp only [World.size_alloc] at this; omega
  clear hb1
  obtain ⟨k0, k1, k2, k3, k4, k5⟩ := f1
  go_wp2
  go_ret
  exact ⟨rfl, hbw⟩

set_option maxHeartbeats 800000 in
theorem fits_shape (gx gy size wide high : Int) (a : Option Addr) (len cap : Nat) (zs : Nat → Int × Int) (most : Int) (w : World) (hg : gridC gx gy size wide high = 0) (h2 : ((len : Int) != wide * high) = true) (hl : len ≤ 1000000) :
    Calls Try.prog 62 #[.agg #[.int .i64 gx, .int .i64 gy, .int .i64 size, .int .i64 wide, .int .i64 high, .slice a len cap], .int .i64 most] w fun e w' => e = .returned (.int .i64 11) ∧ Below w.heap.size w w' := by
  obtain ⟨_, _, _, ⟨v1, v2⟩, v3, v4⟩ := gridB_bd (gridC_zero.1 hg)
  have v5 := M.mul_bd (a := wide) (b := high) (A := 64) (B := 64) (by omega) v2 (by omega) v4
  have HG := Lib.hid hg
  clear hg
  go_enter Try.func62, Try.ntmps62
  go_wp2_with fail
  refine (refCheckGrid_any _ _ _ _ _ _).mono ?_; rintro e w1 ⟨rfl, hb1⟩
  have f1 := (FieldAt.new w gx gy size wide high (.slice a len cap)).keep hb1 (by simp)
  have hbw : Below w.heap.size w w1 := Below.trans (below_alloc _ _) (hb1.mono (by simp))
  have y0 : w.heap.size < w1.heap.size := by have := hb1.size; simp only [World.size_alloc] at this; omega
  clear hb1
  obtain ⟨k0, k1, k2, k3, k4, k5⟩ := f1
  rw [HG.out]
  go_wp2
  go_ret
  exact ⟨rfl, hbw⟩

/-- the relation of the loop -/
def FtRel (w : World) (gx gy size wide high : Int) (sl : Value) (zs : Nat → Int × Int) (most : Int) (k : Nat) (wr : World) : Prop :=
  FieldAt wr w.heap.size gx gy size wide high sl ∧ w.heap.size + 1 ≤ wr.heap.size ∧ Below w.heap.size w wr ∧ AllIn k zs 0 most

set_option maxHeartbeats 1600000 in
theorem fits_spans (gx gy size wide high : Int) (b off len cap : Nat) (zs : Nat → Int × Int) (most : Int) (w : World) (hg : gridC gx gy size wide high = 0) (h2 : ((len : Int) != wide * high) = false) (hl : len ≤ 1000000) (hs : SpansAt w b off len zs) (hb : b < w.heap.size) :
    Calls Try.prog 62 #[.agg #[.int .i64 gx, .int .i64 gy, .int .i64 size, .int .i64 wide, .int .i64 high, .slice (some ⟨b, off, none⟩) len cap], .int .i64 most] w fun e w' => e = .returned (.int .i64 (spansC len zs 0 most)) ∧ Below w.heap.size w w' := by
  obtain ⟨_, _, _, ⟨v1, v2⟩, v3, v4⟩ := gridB_bd (gridC_zero.1 hg)
  have v5 := M.mul_bd (a := wide) (b := high) (A := 64) (B := 64) (by omega) v2 (by omega) v4
  have HG := Lib.hid hg
  have HS := Lib.hid hs
  clear hg hs
  go_enter Try.func62, Try.ntmps62
  go_wp2_with fail
  refine (refCheckGrid_any _ _ _ _ _ _).mono ?_; rintro e w1 ⟨rfl, hb1⟩
  have f1 := (FieldAt.new w gx gy size wide high (.slice (some ⟨b, off, none⟩) len cap)).keep hb1 (by simp)
  have hbw : Below w.heap.size w w1 := Below.trans (below_alloc _ _) (hb1.mono (by simp))
  have y0 : w.heap.size < w1.heap.size := by have := hb1.size; simp only [World.size_alloc] at this; omega
  clear hb1
  obtain ⟨k0, k1, k2, k3, k4, k5⟩ := f1
  rw [HG.out]
  have HR0 := Lib.hid (show FtRel w gx gy size wide high (.slice (some ⟨b, off, none⟩) len cap) zs most 0 w1 from ⟨⟨k0, k1, k2, k3, k4, k5⟩, by omega, hbw, fun j hj => by omega⟩)
  go_wp2
  clear k0 k1 k2 k3 k4 k5
  go_loopw [6] (fun i wr => ∃ k : Nat, k ≤ len ∧ i = .int .i64 k ∧ FtRel w gx gy size wide high (.slice (some ⟨b, off, none⟩) len cap) zs most k wr) (fun i _ => len - (intOf i).toNat)
  case atStart => exact ⟨0, Nat.zero_le _, rfl, HR0.out⟩
  case round =>
    clear HR0
    obtain ⟨k, hk, rfl, hf, hz, hbw2, hall⟩ := hrel
    have HA := Lib.hid hall
    clear hall
    obtain ⟨k0, k1, k2, k3, k4, k5⟩ := hf
    have y1 : w.heap.size < wr.heap.size := by omega
    by_cases hlt : k < len
    · have c0 := keepB hbw2 hb (HS.out k hlt).1
      have c1 := keepB hbw2 hb (HS.out k hlt).2
      rcases (Bool.eq_false_or_eq_true (spanB (zs k).1 (zs k).2 0 most)).symm with hc | hc
      · have HC := Lib.hid (spansC_no hlt hc)
        go_wp2_with fail
        refine (Valid_any _ _ _ _ _).mono ?_; rintro e w2 ⟨rfl, hb2⟩
        go_wp2
        go_ret
        rw [HC.out]
        exact ⟨rfl, Below.trans hbw2 (hb2.mono (by omega))⟩
      · have HC := Lib.hid (allIn_step HA.out hc)
        go_wp2_with fail
        refine (Valid_any _ _ _ _ _).mono ?_; rintro e w2 ⟨rfl, hb2⟩
        have HR := Lib.hid (show FtRel w gx gy size wide high (.slice (some ⟨b, off, none⟩) len cap) zs most (k + 1) w2 from ⟨FieldAt.keep ⟨k0, k1, k2, k3, k4, k5⟩ hb2 y1, Nat.le_trans hz hb2.size, hbw2.trans (hb2.mono (by omega)), HC.out⟩)
        clear hb2
        go_wp2
        go_roundw
        case rel => exact ⟨k + 1, by omega, by go_num, HR.out⟩
        case measure => simp [intOf]; omega
    · have HC := Lib.hid (spansC_ok (a := 0) (b := most) (len := len) (zs := zs) (fun j hj => HA.out j (by omega)))
      go_wp2
      go_ret
      rw [HC.out]
      exact ⟨rfl, hbw2⟩

theorem fits_any (gx gy size wide high : Int) (a : Option Addr) (len cap : Nat) (zs : Nat → Int × Int) (most : Int) (w : World) (hl : len ≤ 1000000) (hs : SliceIs w a len cap zs) :
    Calls Try.prog 62 #[.agg #[.int .i64 gx, .int .i64 gy, .int .i64 size, .int .i64 wide, .int .i64 high, .slice a len cap], .int .i64 most] w fun e w' => e = .returned (.int .i64 (fieldC gx gy size wide high len zs most)) ∧ Below w.heap.size w w' := by
  by_cases hg : gridC gx gy size wide high = 0
  · by_cases h2 : (len : Int) = wide * high
    · rw [fieldC_spans hg h2]
      rcases hs with rfl | ⟨b, off, rfl, h3, h4⟩
      · exfalso
        obtain ⟨_, _, _, ⟨v1, v2⟩, v3, v4⟩ := gridB_bd (gridC_zero.1 hg)
        have := Int.mul_pos (show 0 < wide by omega) (show 0 < high by omega)
        omega
      · exact fits_spans gx gy size wide high b off len cap zs most w hg (by rw [h2]; simp) hl h4 h3
    · rw [fieldC_shape hg h2]; exact fits_shape gx gy size wide high a len cap zs most w hg (bne_iff_ne.2 h2) hl
  · rw [fieldC_grid hg]; exact fits_grid gx gy size wide high a len cap zs most w (bne_iff_ne.2 hg)

set_option maxHeartbeats 800000 in
theorem refCheckField_any (gx gy size wide high : Int) (a : Option Addr) (len cap : Nat) (zs : Nat → Int × Int) (w : World) (hl : len ≤ 1000000) (hs : SliceIs w a len cap zs) :
    Calls Try.prog 22 #[.agg #[.int .i64 gx, .int .i64 gy, .int .i64 size, .int .i64 wide, .int .i64 high, .slice a len cap]] w fun e w' => e = .returned (.int .i64 (fieldC gx gy size wide high len zs 1073741824)) ∧ Below w.heap.size w w' := by
  have HS := Lib.hid hs
  clear hs
  go_enter Try.func22, Try.ntmps22
  go_wp2_with fail
  refine (fits_any _ _ _ _ _ _ _ _ zs _ _ hl (HS.out.keep (below_alloc _ _))).mono ?_; rintro e w1 ⟨rfl, hb1⟩
  go_wp2
  go_ret
  exact ⟨rfl, Below.trans (below_alloc _ _) (hb1.mono (by simp))⟩

end Go.Proofs.Ythnjfnapjpdchaa
