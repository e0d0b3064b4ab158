/-
  The walk over checkSpans.
-/
import Derived.StillTailTactics
import Derived.Test.Ythnjfnapjpdchaamg3
namespace Go.Proofs.Ythnjfnapjpdchaa
open Go.RowKit
set_option linter.unusedVariables false

/-- the spans of a slice: what its cells hold -/
def SpansAt (w : World) (b off len : Nat) (zs : Nat → Int × Int) : Prop :=
  ∀ i, i < len → w.cell? ⟨b, off + i * 2, none⟩ = some (.int .i64 (zs i).1) ∧ w.cell? ⟨b, off + i * 2 + 1, none⟩ = some (.int .i64 (zs i).2)

theorem SpansAt.keep {B b off len : Nat} {W w1 : World} {zs : Nat → Int × Int} (s : SpansAt W b off len zs) (hb : Below B W w1) (h : b < B) : SpansAt w1 b off len zs :=
  fun i hi => ⟨keepB hb h (s i hi).1, keepB hb h (s i hi).2⟩

/-- all spans are valid, and within two numbers -/
def AllIn (len : Nat) (zs : Nat → Int × Int) (a b : Int) : Prop := ∀ j, j < len → spanB (zs j).1 (zs j).2 a b = true
/-- the answer of checkSpans -/
noncomputable def spansC (len : Nat) (zs : Nat → Int × Int) (a b : Int) : Int := @ite _ (AllIn len zs a b) (Classical.propDecidable _) 0 3
theorem spansC_ok {len : Nat} {zs : Nat → Int × Int} {a b : Int} (h : AllIn len zs a b) : spansC len zs a b = 0 := by unfold spansC; exact @if_pos _ (Classical.propDecidable _) h _ _ _
theorem spansC_no {len : Nat} {zs : Nat → Int × Int} {a b : Int} {k : Nat} (hk : k < len) (h : spanB (zs k).1 (zs k).2 a b = false) : spansC len zs a b = 3 := by
  unfold spansC
  exact @if_neg _ (Classical.propDecidable _) (fun h2 => by have := h2 k hk; rw [h] at this; cases this) _ _ _
theorem allIn_step {k : Nat} {zs : Nat → Int × Int} {a b : Int} (h : AllIn k zs a b) (h2 : spanB (zs k).1 (zs k).2 a b = true) : AllIn (k + 1) zs a b := fun j hj => by
  by_cases e : j = k
  · subst e; exact h2
  · exact h j (by omega)

/-- the relation of the loop -/
def CsRel (w : World) (len : Nat) (zs : Nat → Int × Int) (lo hi : Int) (k : Nat) (wr : World) : Prop :=
  PairAt wr w.heap.size (.int .i64 lo) (.int .i64 hi) ∧ w.heap.size + 1 ≤ wr.heap.size ∧ Below w.heap.size w wr ∧ AllIn k zs lo hi

set_option maxHeartbeats 1600000 in
theorem checkSpans_some (b off len cap : Nat) (zs : Nat → Int × Int) (lo hi : Int) (w : World) (hl : len ≤ 1000000) (hs : SpansAt w b off len zs) (hb : b < w.heap.size) :
    Calls Try.prog 61 #[.slice (some ⟨b, off, none⟩) len cap, .agg #[.int .i64 lo, .int .i64 hi]] w
      fun e w' => e = .returned (.int .i64 (spansC len zs lo hi)) ∧ Below w.heap.size w w' := by
  have HS := Lib.hid hs
  clear hs
  go_enter Try.func61, Try.ntmps61
  go_wp2
  go_loopw [9] (fun i wr => ∃ k : Nat, k ≤ len ∧ i = .int .i64 k ∧ CsRel w len zs lo hi k wr) (fun i _ => len - (intOf i).toNat)
  case atStart => exact ⟨0, Nat.zero_le _, rfl, PairAt.new _ _ _ _, by simp, below_alloc _ _, fun j hj => by omega⟩
  case round =>
    obtain ⟨k, hk, rfl, hp, hz, hbw, hall⟩ := hrel
    have HA := Lib.hid hall
    clear hall
    obtain ⟨p0, p1⟩ := hp
    have y0 : w.heap.size < wr.heap.size := by omega
    by_cases hlt : k < len
    · have c0 := keepB hbw hb (HS.out k hlt).1
      have c1 := keepB hbw hb (HS.out k hlt).2
      rcases (Bool.eq_false_or_eq_true (spanB (zs k).1 (zs k).2 lo hi)).symm with hc | hc
      · have HC := Lib.hid (spansC_no hlt hc)
        go_wp2_with fail
        refine (isWithin_any _ _ _ _ _).mono ?_; rintro e w1 ⟨rfl, hb1⟩
        go_wp2
        go_ret
        rw [HC.out]
        exact ⟨rfl, Below.trans (hbw.alloc (by omega) _) (hb1.mono (by simp only [World.size_alloc]; omega))⟩
      · have HC := Lib.hid (allIn_step HA.out hc)
        go_wp2_with fail
        refine (isWithin_any _ _ _ _ _).mono ?_; rintro e w1 ⟨rfl, hb1⟩
        have hk1 : Below wr.heap.size wr w1 := Below.trans (below_alloc _ _) (hb1.mono (by simp))
        have hp2 := PairAt.keep ⟨p0, p1⟩ hk1 y0
        have hz2 := Nat.le_trans hz hk1.size
        have hbw2 := hbw.trans (hk1.mono (by omega))
        have HR := Lib.hid (show CsRel w len zs lo hi (k + 1) w1 from ⟨hp2, hz2, hbw2, HC.out⟩)
        clear hp2 hz2 hbw2 hk1 hb1
        go_wp2
        go_roundw
        case rel => exact ⟨k + 1, by omega, by go_num, HR.out⟩
        case measure => simp [intOf]; omega
    · have HC := Lib.hid (spansC_ok (a := lo) (b := hi) (len := len) (zs := zs) (fun j hj => HA.out j (by omega)))
      go_wp2
      go_ret
      rw [HC.out]
      exact ⟨rfl, hbw⟩

set_option maxHeartbeats 800000 in
theorem checkSpans_nil (a : Option Addr) (cap : Nat) (zs : Nat → Int × Int) (lo hi : Int) (w : World) :
    Calls Try.prog 61 #[.slice a 0 cap, .agg #[.int .i64 lo, .int .i64 hi]] w
      fun e w' => e = .returned (.int .i64 (spansC 0 zs lo hi)) ∧ Below w.heap.size w w' := by
  rw [spansC_ok (fun j hj => by omega)]
  go_enter Try.func61, Try.ntmps61
  go_wp2
  go_loopw [9] (fun i wr => i = .int .i64 0 ∧ Below w.heap.size w wr) (fun i _ => 0)
  case atStart => exact ⟨rfl, below_alloc _ _⟩
  case round =>
    obtain ⟨rfl, hbw⟩ := hrel
    go_wp2
    go_ret
    exact ⟨rfl, hbw⟩

/-- a slice of spans, nil or not -/
def SliceIs (w : World) (a : Option Addr) (len cap : Nat) (zs : Nat → Int × Int) : Prop :=
  len = 0 ∨ ∃ b off, a = some ⟨b, off, none⟩ ∧ b < w.heap.size ∧ SpansAt w b off len zs
theorem SliceIs.keep {W w1 : World} {a : Option Addr} {len cap : Nat} {zs : Nat → Int × Int} (s : SliceIs W a len cap zs) (hb : Below W.heap.size W w1) : SliceIs w1 a len cap zs := by
  rcases s with h | ⟨b, off, h1, h2, h3⟩
  · exact .inl h
  · exact .inr ⟨b, off, h1, Nat.lt_of_lt_of_le h2 hb.size, h3.keep hb h2⟩

theorem checkSpans_any (a : Option Addr) (len cap : Nat) (zs : Nat → Int × Int) (lo hi : Int) (w : World) (hl : len ≤ 1000000) (hs : SliceIs w a len cap zs) :
    Calls Try.prog 61 #[.slice a len cap, .agg #[.int .i64 lo, .int .i64 hi]] w
      fun e w' => e = .returned (.int .i64 (spansC len zs lo hi)) ∧ Below w.heap.size w w' := by
  rcases hs with rfl | ⟨b, off, rfl, h2, h3⟩
  · exact checkSpans_nil a cap zs lo hi w
  · exact checkSpans_some b off len cap zs lo hi w hl h3 h2

end Go.Proofs.Ythnjfnapjpdchaa

namespace Go.Proofs.Ythnjfnapjpdchaa
open Go.RowKit
set_option linter.unusedVariables false

/-- the answer of CheckField: what spans may be at most is a number -/
noncomputable def fieldC (gx gy size wide high : Int) (len : Nat) (zs : Nat → Int × Int) (most : Int) : Int :=
  if gridC gx gy size wide high = 0 then (if (len : Int) = wide * high then spansC len zs 0 most else 11) else gridC gx gy size wide high
theorem fieldC_grid {gx gy size wide high : Int} {len : Nat} {zs : Nat → Int × Int} {most : Int} (h : gridC gx gy size wide high ≠ 0) : fieldC gx gy size wide high len zs most = gridC gx gy size wide high := by unfold fieldC; rw [if_neg h]
theorem fieldC_shape {gx gy size wide high : Int} {len : Nat} {zs : Nat → Int × Int} {most : Int} (h : gridC gx gy size wide high = 0) (h2 : (len : Int) ≠ wide * high) : fieldC gx gy size wide high len zs most = 11 := by unfold fieldC; rw [if_pos h, if_neg h2]
theorem fieldC_spans {gx gy size wide high : Int} {len : Nat} {zs : Nat → Int × Int} {most : Int} (h : gridC gx gy size wide high = 0) (h2 : (len : Int) = wide * high) : fieldC gx gy size wide high len zs most = spansC len zs 0 most := by unfold fieldC; rw [if_pos h, if_pos h2]

theorem gridC_zero {gx gy size wide high : Int} : gridC gx gy size wide high = 0 ↔ gridB gx gy size wide high = true := by
  unfold gridC
  by_cases h : gridB gx gy size wide high = true
  · rw [if_pos h]; exact ⟨fun _ => h, fun _ => rfl⟩
  · rw [if_neg h]; exact ⟨(fun h2 => by cases h2), fun h2 => absurd h2 h⟩
theorem gridB_bd {gx gy size wide high : Int} (h : gridB gx gy size wide high = true) : (-1048576 ≤ gx ∧ gx ≤ 1048576) ∧ (-1048576 ≤ gy ∧ gy ≤ 1048576) ∧ (1 ≤ size ∧ size ≤ 10000) ∧ (1 ≤ wide ∧ wide ≤ 64) ∧ (1 ≤ high ∧ high ≤ 64) := by
  unfold gridB at h
  simp only [Bool.and_eq_true, inB_true] at h
  exact ⟨h.1.1.1.1, h.1.1.1.2, h.1.1.2, h.1.2, h.2⟩

structure FieldAt (w : World) (b : Nat) (gx gy size wide high : Int) (sl : Value) : Prop where
  c0 : w.cell? ⟨b, 0, none⟩ = some (.int .i64 gx)
  c1 : w.cell? ⟨b, 1, none⟩ = some (.int .i64 gy)
  c2 : w.cell? ⟨b, 2, none⟩ = some (.int .i64 size)
  c3 : w.cell? ⟨b, 3, none⟩ = some (.int .i64 wide)
  c4 : w.cell? ⟨b, 4, none⟩ = some (.int .i64 high)
  c5 : w.cell? ⟨b, 5, none⟩ = some sl
theorem FieldAt.new (w : World) (gx gy size wide high : Int) (sl : Value) : FieldAt (w.alloc (.cells #[.int .i64 gx, .int .i64 gy, .int .i64 size, .int .i64 wide, .int .i64 high, sl] 28)) w.heap.size gx gy size wide high sl :=
  ⟨alloc_new rfl rfl, alloc_new rfl rfl, alloc_new rfl rfl, alloc_new rfl rfl, alloc_new rfl rfl, alloc_new rfl rfl⟩
theorem FieldAt.keep {B b : Nat} {W w1 : World} {gx gy size wide high : Int} {sl : Value} (s : FieldAt W b gx gy size wide high sl) (hb : Below B W w1) (h : b < B) : FieldAt w1 b gx gy size wide high sl :=
  ⟨keepB hb h s.c0, keepB hb h s.c1, keepB hb h s.c2, keepB hb h s.c3, keepB hb h s.c4, keepB hb h s.c5⟩

set_option maxHeartbeats 800000 in
theorem CheckField_grid (gx gy size wide high : Int) (a : Option Addr) (len cap : Nat) (zs : Nat → Int × Int) (w : World) (h : (gridC gx gy size wide high != 0) = true) :
    Calls Try.prog 21 #[.agg #[.int .i64 gx, .int .i64 gy, .int .i64 size, .int .i64 wide, .int .i64 high, .slice a len cap]] w fun e w' => e = .returned (.int .i64 (gridC gx gy size wide high)) ∧ Below w.heap.size w w' := by
  go_enter Try.func21, Try.ntmps21
  go_wp2_with fail
  refine (CheckGrid_any _ _ _ _ _ _).mono ?_; rintro e w1 ⟨rfl, hb1⟩
  have f1 := (FieldAt.new w gx gy size wide high (.slice a len cap)).keep hb1 (by simp)
  have hbw : Below w.heap.size w w1 := Below.trans (below_alloc _ _) (hb1.mono (by simp))
  have y0 : w.heap.size < w1.heap.size := by have := hb1.size; simp only [World.size_alloc] at this; omega
  clear hb1
  obtain ⟨k0, k1, k2, k3, k4, k5⟩ := f1
  go_wp2
  go_ret
  exact ⟨rfl, hbw⟩

set_option maxHeartbeats 800000 in
theorem CheckField_shape (gx gy size wide high : Int) (a : Option Addr) (len cap : Nat) (zs : Nat → Int × Int) (w : World) (hg : gridC gx gy size wide high = 0) (h2 : ((len : Int) != wide * high) = true) (hl : len ≤ 1000000) :
    Calls Try.prog 21 #[.agg #[.int .i64 gx, .int .i64 gy, .int .i64 size, .int .i64 wide, .int .i64 high, .slice a len cap]] w fun e w' => e = .returned (.int .i64 11) ∧ Below w.heap.size w w' := by
  obtain ⟨_, _, _, ⟨v1, v2⟩, v3, v4⟩ := gridB_bd (gridC_zero.1 hg)
  have v5 := M.mul_bd (a := wide) (b := high) (A := 64) (B := 64) (by omega) v2 (by omega) v4
  have HG := Lib.hid hg
  clear hg
  go_enter Try.func21, Try.ntmps21
  go_wp2_with fail
  refine (CheckGrid_any _ _ _ _ _ _).mono ?_; rintro e w1 ⟨rfl, hb1⟩
  have f1 := (FieldAt.new w gx gy size wide high (.slice a len cap)).keep hb1 (by simp)
  have hbw : Below w.heap.size w w1 := Below.trans (below_alloc _ _) (hb1.mono (by simp))
  have y0 : w.heap.size < w1.heap.size := by have := hb1.size; simp only [World.size_alloc] at this; omega
  clear hb1
  obtain ⟨k0, k1, k2, k3, k4, k5⟩ := f1
  rw [HG.out]
  go_wp2
  go_ret
  exact ⟨rfl, hbw⟩

set_option maxHeartbeats 800000 in
theorem CheckField_spans (gx gy size wide high : Int) (a : Option Addr) (len cap : Nat) (zs : Nat → Int × Int) (w : World) (hg : gridC gx gy size wide high = 0) (h2 : ((len : Int) != wide * high) = false) (hl : len ≤ 1000000) (hs : SliceIs w a len cap zs) :
    Calls Try.prog 21 #[.agg #[.int .i64 gx, .int .i64 gy, .int .i64 size, .int .i64 wide, .int .i64 high, .slice a len cap]] w fun e w' => e = .returned (.int .i64 (spansC len zs 0 1073741824)) ∧ Below w.heap.size w w' := by
  obtain ⟨_, _, _, ⟨v1, v2⟩, v3, v4⟩ := gridB_bd (gridC_zero.1 hg)
  have v5 := M.mul_bd (a := wide) (b := high) (A := 64) (B := 64) (by omega) v2 (by omega) v4
  have HG := Lib.hid hg
  have HS := Lib.hid hs
  clear hg hs
  go_enter Try.func21, Try.ntmps21
  go_wp2_with fail
  refine (CheckGrid_any _ _ _ _ _ _).mono ?_; rintro e w1 ⟨rfl, hb1⟩
  have f1 := (FieldAt.new w gx gy size wide high (.slice a len cap)).keep hb1 (by simp)
  have hbw : Below w.heap.size w w1 := Below.trans (below_alloc _ _) (hb1.mono (by simp))
  have y0 : w.heap.size < w1.heap.size := by have := hb1.size; simp only [World.size_alloc] at this; omega
  clear hb1
  obtain ⟨k0, k1, k2, k3, k4, k5⟩ := f1
  rw [HG.out]
  go_wp2_with fail
  refine (checkSpans_any _ _ _ zs _ _ _ hl (HS.out.keep hbw)).mono ?_; rintro e w2 ⟨rfl, hb2⟩
  go_wp2
  go_ret
  exact ⟨rfl, hbw.trans (hb2.mono hbw.size)⟩

theorem CheckField_any (gx gy size wide high : Int) (a : Option Addr) (len cap : Nat) (zs : Nat → Int × Int) (w : World) (hl : len ≤ 1000000) (hs : SliceIs w a len cap zs) :
    Calls Try.prog 21 #[.agg #[.int .i64 gx, .int .i64 gy, .int .i64 size, .int .i64 wide, .int .i64 high, .slice a len cap]] w fun e w' => e = .returned (.int .i64 (fieldC gx gy size wide high len zs 1073741824)) ∧ Below w.heap.size w w' := by
  by_cases hg : gridC gx gy size wide high = 0
  · by_cases h2 : (len : Int) = wide * high
    · rw [fieldC_spans hg h2]; exact CheckField_spans gx gy size wide high a len cap zs w hg (by rw [h2]; simp) hl hs
    · rw [fieldC_shape hg h2]; exact CheckField_shape gx gy size wide high a len cap zs w hg (bne_iff_ne.2 h2) hl
  · rw [fieldC_grid hg]; exact CheckField_grid gx gy size wide high a len cap zs w (bne_iff_ne.2 hg)

set_option maxHeartbeats 800000 in
theorem fits_grid (gx gy size wide high : Int) (a : Option Addr) (len cap : Nat) (zs : Nat → Int × Int) (most : Int) (w : World) (h : (gridC gx gy size wide high != 0) = true) :
    Calls Try.prog 62 #[.agg #[.int .i64 gx, .int .i64 gy, .int .i64 size, .int .i64 wide, .int .i64 high, .slice a len cap], .int .i64 most] w fun e w' => e = .returned (.int .i64 (gridC gx gy size wide high)) ∧ Below w.heap.size w w' := by
  go_enter Try.func62, Try.ntmps62
  go_wp2_with fail
  refine (refCheckGrid_any _ _ _ _ _ _).mono ?_; rintro e w1 ⟨rfl, hb1⟩
  have f1 := (FieldAt.new w gx gy size wide high (.slice a len cap)).keep hb1 (by simp)
  have hbw : Below w.heap.size w w1 := Below.trans (below_alloc _ _) (hb1.mono (by simp))
  have y0 : w.heap.size < w1.heap.size := by have := hb1.size; simp only [World.size_alloc] at this; omega
  clear hb1
  obtain ⟨k0, k1, k2, k3, k4, k5⟩ := f1
  go_wp2
  go_ret
  exact ⟨rfl, hbw⟩

set_option maxHeartbeats 800000 in
theorem fits_shape (gx gy size wide high : Int) (a : Option Addr) (len cap : Nat) (zs : Nat → Int × Int) (most : Int) (w : World) (hg : gridC gx gy size wide high = 0) (h2 : ((len : Int) != wide * high) = true) (hl : len ≤ 1000000) :
    Calls Try.prog 62 #[.agg #[.int .i64 gx, .int .i64 gy, .int .i64 size, .int .i64 wide, .int .i64 high, .slice a len cap], .int .i64 most] w fun e w' => e = .returned (.int .i64 11) ∧ Below w.heap.size w w' := by
  obtain ⟨_, _, _, ⟨v1, v2⟩, v3, v4⟩ := gridB_bd (gridC_zero.1 hg)
  have v5 := M.mul_bd (a := wide) (b := high) (A := 64) (B := 64) (by omega) v2 (by omega) v4
  have HG := Lib.hid hg
  clear hg
  go_enter Try.func62, Try.ntmps62
  go_wp2_with fail
  refine (refCheckGrid_any _ _ _ _ _ _).mono ?_; rintro e w1 ⟨rfl, hb1⟩
  have f1 := (FieldAt.new w gx gy size wide high (.slice a len cap)).keep hb1 (by simp)
  have hbw : Below w.heap.size w w1 := Below.trans (below_alloc _ _) (hb1.mono (by simp))
  have y0 : w.heap.size < w1.heap.size := by have := hb1.size; simp only [World.size_alloc] at this; omega
  clear hb1
  obtain ⟨k0, k1, k2, k3, k4, k5⟩ := f1
  rw [HG.out]
  go_wp2
  go_ret
  exact ⟨rfl, hbw⟩

/-- the relation of the loop -/
def FtRel (w : World) (gx gy size wide high : Int) (sl : Value) (zs : Nat → Int × Int) (most : Int) (k : Nat) (wr : World) : Prop :=
  FieldAt wr w.heap.size gx gy size wide high sl ∧ w.heap.size + 1 ≤ wr.heap.size ∧ Below w.heap.size w wr ∧ AllIn k zs 0 most

set_option maxHeartbeats 1600000 in
theorem fits_spans (gx gy size wide high : Int) (b off len cap : Nat) (zs : Nat → Int × Int) (most : Int) (w : World) (hg : gridC gx gy size wide high = 0) (h2 : ((len : Int) != wide * high) = false) (hl : len ≤ 1000000) (hs : SpansAt w b off len zs) (hb : b < w.heap.size) :
    Calls Try.prog 62 #[.agg #[.int .i64 gx, .int .i64 gy, .int .i64 size, .int .i64 wide, .int .i64 high, .slice (some ⟨b, off, none⟩) len cap], .int .i64 most] w fun e w' => e = .returned (.int .i64 (spansC len zs 0 most)) ∧ Below w.heap.size w w' := by
  obtain ⟨_, _, _, ⟨v1, v2⟩, v3, v4⟩ := gridB_bd (gridC_zero.1 hg)
  have v5 := M.mul_bd (a := wide) (b := high) (A := 64) (B := 64) (by omega) v2 (by omega) v4
  have HG := Lib.hid hg
  have HS := Lib.hid hs
  clear hg hs
  go_enter Try.func62, Try.ntmps62
  go_wp2_with fail
  refine (refCheckGrid_any _ _ _ _ _ _).mono ?_; rintro e w1 ⟨rfl, hb1⟩
  have f1 := (FieldAt.new w gx gy size wide high (.slice (some ⟨b, off, none⟩) len cap)).keep hb1 (by simp)
  have hbw : Below w.heap.size w w1 := Below.trans (below_alloc _ _) (hb1.mono (by simp))
  have y0 : w.heap.size < w1.heap.size := by have := hb1.size; simp only [World.size_alloc] at this; omega
  clear hb1
  obtain ⟨k0, k1, k2, k3, k4, k5⟩ := f1
  rw [HG.out]
  have HR0 := Lib.hid (show FtRel w gx gy size wide high (.slice (some ⟨b, off, none⟩) len cap) zs most 0 w1 from ⟨⟨k0, k1, k2, k3, k4, k5⟩, by omega, hbw, fun j hj => by omega⟩)
  go_wp2
  clear k0 k1 k2 k3 k4 k5
  go_loopw [6] (fun i wr => ∃ k : Nat, k ≤ len ∧ i = .int .i64 k ∧ FtRel w gx gy size wide high (.slice (some ⟨b, off, none⟩) len cap) zs most k wr) (fun i _ => len - (intOf i).toNat)
  case atStart => exact ⟨0, Nat.zero_le _, rfl, HR0.out⟩
  case round =>
    clear HR0
    obtain ⟨k, hk, rfl, hf, hz, hbw2, hall⟩ := hrel
    have HA := Lib.hid hall
    clear hall
    obtain ⟨k0, k1, k2, k3, k4, k5⟩ := hf
    have y1 : w.heap.size < wr.heap.size := by omega
    by_cases hlt : k < len
    · have c0 := keepB hbw2 hb (HS.out k hlt).1
      have c1 := keepB hbw2 hb (HS.out k hlt).2
      rcases (Bool.eq_false_or_eq_true (spanB (zs k).1 (zs k).2 0 most)).symm with hc | hc
      · have HC := Lib.hid (spansC_no hlt hc)
        go_wp2_with fail
        refine (Valid_any _ _ _ _ _).mono ?_; rintro e w2 ⟨rfl, hb2⟩
        go_wp2
        go_ret
        rw [HC.out]
        exact ⟨rfl, Below.trans hbw2 (hb2.mono (by omega))⟩
      · have HC := Lib.hid (allIn_step HA.out hc)
        go_wp2_with fail
        refine (Valid_any _ _ _ _ _).mono ?_; rintro e w2 ⟨rfl, hb2⟩
        have HR := Lib.hid (show FtRel w gx gy size wide high (.slice (some ⟨b, off, none⟩) len cap) zs most (k + 1) w2 from ⟨FieldAt.keep ⟨k0, k1, k2, k3, k4, k5⟩ hb2 y1, Nat.le_trans hz hb2.size, hbw2.trans (hb2.mono (by omega)), HC.out⟩)
        clear hb2
        go_wp2
        go_roundw
        case rel => exact ⟨k + 1, by omega, by go_num, HR.out⟩
        case measure => simp [intOf]; omega
    · have HC := Lib.hid (spansC_ok (a := 0) (b := most) (len := len) (zs := zs) (fun j hj => HA.out j (by omega)))
      go_wp2
      go_ret
      rw [HC.out]
      exact ⟨rfl, hbw2⟩

theorem fits_any (gx gy size wide high : Int) (a : Option Addr) (len cap : Nat) (zs : Nat → Int × Int) (most : Int) (w : World) (hl : len ≤ 1000000) (hs : SliceIs w a len cap zs) :
    Calls Try.prog 62 #[.agg #[.int .i64 gx, .int .i64 gy, .int .i64 size, .int .i64 wide, .int .i64 high, .slice a len cap], .int .i64 most] w fun e w' => e = .returned (.int .i64 (fieldC gx gy size wide high len zs most)) ∧ Below w.heap.size w w' := by
  by_cases hg : gridC gx gy size wide high = 0
  · by_cases h2 : (len : Int) = wide * high
    · rw [fieldC_spans hg h2]
      rcases hs with rfl | ⟨b, off, rfl, h3, h4⟩
      · exfalso
        obtain ⟨_, _, _, ⟨v1, v2⟩, v3, v4⟩ := gridB_bd (gridC_zero.1 hg)
        have := Int.mul_pos (show 0 < wide by omega) (show 0 < high by omega)
        omega
      · exact fits_spans gx gy size wide high b off len cap zs most w hg (by rw [h2]; simp) hl h4 h3
    · rw [fieldC_shape hg h2]; exact fits_shape gx gy size wide high a len cap zs most w hg (bne_iff_ne.2 h2) hl
  · rw [fieldC_grid hg]; exact fits_grid gx gy size wide high a len cap zs most w (bne_iff_ne.2 hg)

set_option maxHeartbeats 800000 in
theorem refCheckField_any (gx gy size wide high : Int) (a : Option Addr) (len cap : Nat) (zs : Nat → Int × Int) (w : World) (hl : len ≤ 1000000) (hs : SliceIs w a len cap zs) :
    Calls Try.prog 22 #[.agg #[.int .i64 gx, .int .i64 gy, .int .i64 size, .int .i64 wide, .int .i64 high, .slice a len cap]] w fun e w' => e = .returned (.int .i64 (fieldC gx gy size wide high len zs 1073741824)) ∧ Below w.heap.size w w' := by
  have HS := Lib.hid hs
  clear hs
  go_enter Try.func22, Try.ntmps22
  go_wp2_with fail
  refine (fits_any _ _ _ _ _ _ _ _ zs _ _ hl (HS.out.keep (below_alloc _ _))).mono ?_; rintro e w1 ⟨rfl, hb1⟩
  go_wp2
  go_ret
  exact ⟨rfl, Below.trans (below_alloc _ _) (hb1.mono (by simp))⟩

end Go.Proofs.Ythnjfnapjpdchaa

namespace Go.Proofs.Ythnjfnapjpdchaa
open Go.RowKit
set_option linter.unusedVariables false

/-- the pixel of a place -/
def pixB (gx gy size wide high px py : Int) : Bool := inB px gx (gx + wide * size - 1) && inB py gy (gy + high * size - 1)
def pixN (gx gy size wide px py : Int) : Int := (py - gy) / size * wide + (px - gx) / size

structure GridAt (w : World) (b : Nat) (gx gy size wide high : Int) : Prop where
  c0 : w.cell? ⟨b, 0, none⟩ = some (.int .i64 gx)
  c1 : w.cell? ⟨b, 1, none⟩ = some (.int .i64 gy)
  c2 : w.cell? ⟨b, 2, none⟩ = some (.int .i64 size)
  c3 : w.cell? ⟨b, 3, none⟩ = some (.int .i64 wide)
  c4 : w.cell? ⟨b, 4, none⟩ = some (.int .i64 high)
theorem GridAt.new (w : World) (gx gy size wide high : Int) : GridAt (w.alloc (.cells #[.int .i64 gx, .int .i64 gy, .int .i64 size, .int .i64 wide, .int .i64 high] 25)) w.heap.size gx gy size wide high :=
  ⟨alloc_new rfl rfl, alloc_new rfl rfl, alloc_new rfl rfl, alloc_new rfl rfl, alloc_new rfl rfl⟩
theorem GridAt.keep {B b : Nat} {W w1 : World} {gx gy size wide high : Int} (s : GridAt W b gx gy size wide high) (hb : Below B W w1) (h : b < B) : GridAt w1 b gx gy size wide high :=
  ⟨keepB hb h s.c0, keepB hb h s.c1, keepB hb h s.c2, keepB hb h s.c3, keepB hb h s.c4⟩

structure PixFacts (gx gy size wide high px py : Int) : Prop where
  a1 : 0 ≤ px - gx
  a2 : px - gx ≤ 639999
  b1 : 0 ≤ py - gy
  b2 : py - gy ≤ 639999
  q1 : (px - gx).tdiv size = (px - gx) / size
  q2 : (py - gy).tdiv size = (py - gy) / size
  q3 : 0 ≤ (px - gx) / size
  q4 : (px - gx) / size ≤ 639999
  q5 : 0 ≤ (py - gy) / size
  q6 : (py - gy) / size ≤ 639999
  m1 : 0 ≤ (py - gy) / size * wide
  m2 : (py - gy) / size * wide ≤ 639999 * 64

theorem pix_facts {gx gy size wide high px py : Int} (hg : gridC gx gy size wide high = 0) (h : pixB gx gy size wide high px py = true) : PixFacts gx gy size wide high px py := by
  obtain ⟨g1, g2, ⟨s1, s2⟩, ⟨v1, v2⟩, v3, v4⟩ := gridB_bd (gridC_zero.1 hg)
  have v5 := M.mul_bd (a := wide) (b := size) (A := 64) (B := 10000) (by omega) v2 (by omega) s2
  have v6 := M.mul_bd (a := high) (b := size) (A := 64) (B := 10000) (by omega) v4 (by omega) s2
  unfold pixB at h
  rw [Bool.and_eq_true, inB_true, inB_true] at h
  obtain ⟨⟨h1, h2⟩, h3, h4⟩ := h
  have a1 : 0 ≤ px - gx := by omega
  have b1 : 0 ≤ py - gy := by omega
  have q5 : 0 ≤ (py - gy) / size := Int.ediv_nonneg b1 (by omega)
  have q6 : (py - gy) / size ≤ py - gy := Int.ediv_le_self _ b1
  have q3 : 0 ≤ (px - gx) / size := Int.ediv_nonneg a1 (by omega)
  have q4 : (px - gx) / size ≤ px - gx := Int.ediv_le_self _ a1
  have m := M.mul_bd (a := (py - gy) / size) (b := wide) (A := 639999) (B := 64) q5 (by omega) (by omega) v2
  exact ⟨a1, by omega, b1, by omega, Int.tdiv_eq_ediv_of_nonneg a1, Int.tdiv_eq_ediv_of_nonneg b1, q3, by omega, q5, by omega, m.1, m.2⟩

set_option maxHeartbeats 1600000 in
theorem pixel_no1 (gx gy size wide high px py : Int) (w : World) (hg : gridC gx gy size wide high = 0) (h1 : inB px gx (gx + wide * size - 1) = false) :
    Calls Try.prog 82 #[.agg #[.int .i64 gx, .int .i64 gy, .int .i64 size, .int .i64 wide, .int .i64 high], .agg #[.int .i64 px, .int .i64 py]] w fun e w' => e = .returned (.tuple #[.int .i64 0, .bool false]) ∧ Below w.heap.size w w'  := by
  obtain ⟨⟨X1, X2⟩, ⟨Y1, Y2⟩, ⟨s1, s2⟩, ⟨v1, v2⟩, v3, v4⟩ := gridB_bd (gridC_zero.1 hg)
  have v5 := M.mul_bd (a := wide) (b := size) (A := 64) (B := 10000) (by omega) v2 (by omega) s2
  have v6 := M.mul_bd (a := high) (b := size) (A := 64) (B := 10000) (by omega) v4 (by omega) s2
  have i1 : IntKind.i64.wrap (wide * size) = wide * size := IntWalk.i64_in _ (by omega)
  have i2 : IntKind.i64.wrap (high * size) = high * size := IntWalk.i64_in _ (by omega)
  have i3 : IntKind.i64.wrap (gx + wide * size) = gx + wide * size := IntWalk.i64_in _ (by omega)
  have i4 : IntKind.i64.wrap (gy + high * size) = gy + high * size := IntWalk.i64_in _ (by omega)
  have i5 : IntKind.i64.wrap (gx + wide * size - 1) = gx + wide * size - 1 := IntWalk.i64_in _ (by omega)
  have i6 : IntKind.i64.wrap (gy + high * size - 1) = gy + high * size - 1 := IntWalk.i64_in _ (by omega)
  clear hg
  go_enter Try.func82, Try.ntmps82
  go_wp2_with fail
  refine (isIn_any _ _ _ _).mono ?_; rintro e w' ⟨rfl, rfl⟩
  go_wp2
  go_ret2
  exact ⟨rfl, by repeat (first | exact Below.refl _ _ | (refine below_drewN ?_ _) | (refine Below.alloc ?_ (by simp) _))⟩

set_option maxHeartbeats 1600000 in
theorem pixel_no2 (gx gy size wide high px py : Int) (w : World) (hg : gridC gx gy size wide high = 0) (h1 : inB px gx (gx + wide * size - 1) = true) (h2 : inB py gy (gy + high * size - 1) = false) :
    Calls Try.prog 82 #[.agg #[.int .i64 gx, .int .i64 gy, .int .i64 size, .int .i64 wide, .int .i64 high], .agg #[.int .i64 px, .int .i64 py]] w fun e w' => e = .returned (.tuple #[.int .i64 0, .bool false]) ∧ Below w.heap.size w w'  := by
  obtain ⟨⟨X1, X2⟩, ⟨Y1, Y2⟩, ⟨s1, s2⟩, ⟨v1, v2⟩, v3, v4⟩ := gridB_bd (gridC_zero.1 hg)
  have v5 := M.mul_bd (a := wide) (b := size) (A := 64) (B := 10000) (by omega) v2 (by omega) s2
  have v6 := M.mul_bd (a := high) (b := size) (A := 64) (B := 10000) (by omega) v4 (by omega) s2
  have i1 : IntKind.i64.wrap (wide * size) = wide * size := IntWalk.i64_in _ (by omega)
  have i2 : IntKind.i64.wrap (high * size) = high * size := IntWalk.i64_in _ (by omega)
  have i3 : IntKind.i64.wrap (gx + wide * size) = gx + wide * size := IntWalk.i64_in _ (by omega)
  have i4 : IntKind.i64.wrap (gy + high * size) = gy + high * size := IntWalk.i64_in _ (by omega)
  have i5 : IntKind.i64.wrap (gx + wide * size - 1) = gx + wide * size - 1 := IntWalk.i64_in _ (by omega)
  have i6 : IntKind.i64.wrap (gy + high * size - 1) = gy + high * size - 1 := IntWalk.i64_in _ (by omega)
  clear hg
  go_enter Try.func82, Try.ntmps82
  go_wp2_with fail
  refine (isIn_any _ _ _ _).mono ?_; rintro e w' ⟨rfl, rfl⟩
  go_wp2_with fail
  refine (isIn_any _ _ _ _).mono ?_; rintro e w' ⟨rfl, rfl⟩
  go_wp2
  go_ret2
  exact ⟨rfl, by repeat (first | exact Below.refl _ _ | (refine below_drewN ?_ _) | (refine Below.alloc ?_ (by simp) _))⟩

set_option maxHeartbeats 1600000 in
theorem pixel_ok (gx gy size wide high px py : Int) (w : World) (hg : gridC gx gy size wide high = 0) (h1 : inB px gx (gx + wide * size - 1) = true) (h2 : inB py gy (gy + high * size - 1) = true) :
    Calls Try.prog 82 #[.agg #[.int .i64 gx, .int .i64 gy, .int .i64 size, .int .i64 wide, .int .i64 high], .agg #[.int .i64 px, .int .i64 py]] w fun e w' => e = .returned (.tuple #[.int .i64 (pixN gx gy size wide px py), .bool true]) ∧ Below w.heap.size w w'  := by
  have h : pixB gx gy size wide high px py = true := by unfold pixB; rw [h1, h2]; rfl
  obtain ⟨⟨X1, X2⟩, ⟨Y1, Y2⟩, ⟨s1, s2⟩, ⟨v1, v2⟩, v3, v4⟩ := gridB_bd (gridC_zero.1 hg)
  have v5 := M.mul_bd (a := wide) (b := size) (A := 64) (B := 10000) (by omega) v2 (by omega) s2
  have v6 := M.mul_bd (a := high) (b := size) (A := 64) (B := 10000) (by omega) v4 (by omega) s2
  have i1 : IntKind.i64.wrap (wide * size) = wide * size := IntWalk.i64_in _ (by omega)
  have i2 : IntKind.i64.wrap (high * size) = high * size := IntWalk.i64_in _ (by omega)
  have i3 : IntKind.i64.wrap (gx + wide * size) = gx + wide * size := IntWalk.i64_in _ (by omega)
  have i4 : IntKind.i64.wrap (gy + high * size) = gy + high * size := IntWalk.i64_in _ (by omega)
  have i5 : IntKind.i64.wrap (gx + wide * size - 1) = gx + wide * size - 1 := IntWalk.i64_in _ (by omega)
  have i6 : IntKind.i64.wrap (gy + high * size - 1) = gy + high * size - 1 := IntWalk.i64_in _ (by omega)
  obtain ⟨a1, a2, b1, b2, q1, q2, q3, q4, q5, q6, m1, m2⟩ := pix_facts hg h
  have j1 : IntKind.i64.wrap (px - gx) = px - gx := IntWalk.i64_in _ (by omega)
  have j2 : IntKind.i64.wrap (py - gy) = py - gy := IntWalk.i64_in _ (by omega)
  have j3 : IntKind.i64.wrap ((px - gx) / size) = (px - gx) / size := IntWalk.i64_in _ (by omega)
  have j4 : IntKind.i64.wrap ((py - gy) / size) = (py - gy) / size := IntWalk.i64_in _ (by omega)
  have j5 : IntKind.i64.wrap ((py - gy) / size * wide) = (py - gy) / size * wide := IntWalk.i64_in _ (by omega)
  have j6 : IntKind.i64.wrap ((py - gy) / size * wide + (px - gx) / size) = (py - gy) / size * wide + (px - gx) / size := IntWalk.i64_in _ (by omega)
  have z1 : (size == 0) = false := by rw [beq_eq_false_iff_ne]; omega
  have z2 : size ≠ 0 := by omega
  have z3 : ¬ size = -1 := by omega
  clear hg
  go_enter Try.func82, Try.ntmps82
  go_wp2_with fail
  refine (isIn_any _ _ _ _).mono ?_; rintro e w' ⟨rfl, rfl⟩
  go_wp2_with fail
  refine (isIn_any _ _ _ _).mono ?_; rintro e w' ⟨rfl, rfl⟩
  go_wp2
  go_quiet (fail)
  go_wp2
  exact bodyPost_ret (v := .tuple #[.int .i64 (pixN gx gy size wide px py), .bool true]) (by simp [results, Try.results82, go_sem, pixN]) rfl ⟨rfl, by repeat (first | exact Below.refl _ _ | (refine below_drewN ?_ _) | (refine Below.alloc ?_ (by simp) _))⟩

theorem pixel_any (gx gy size wide high px py : Int) (w : World) (hg : gridC gx gy size wide high = 0) :
    Calls Try.prog 82 #[.agg #[.int .i64 gx, .int .i64 gy, .int .i64 size, .int .i64 wide, .int .i64 high], .agg #[.int .i64 px, .int .i64 py]] w fun e w' => e = .returned (.tuple #[.int .i64 (if pixB gx gy size wide high px py = true then pixN gx gy size wide px py else 0), .bool (pixB gx gy size wide high px py)]) ∧ Below w.heap.size w w'  := by
  rcases (Bool.eq_false_or_eq_true (inB px gx (gx + wide * size - 1))).symm with h1 | h1
  · have e : pixB gx gy size wide high px py = false := by unfold pixB; rw [h1]; rfl
    rw [e]; exact pixel_no1 gx gy size wide high px py w hg h1
  · rcases (Bool.eq_false_or_eq_true (inB py gy (gy + high * size - 1))).symm with h2 | h2
    · have e : pixB gx gy size wide high px py = false := by unfold pixB; rw [h1, h2]; rfl
      rw [e]; exact pixel_no2 gx gy size wide high px py w hg h1 h2
    · have e : pixB gx gy size wide high px py = true := by unfold pixB; rw [h1, h2]; rfl
      rw [e]; exact pixel_ok gx gy size wide high px py w hg h1 h2

set_option maxHeartbeats 1600000 in
theorem Pixel_err (gx gy size wide high px py : Int) (w : World) (hne : (gridC gx gy size wide high != 0) = true) :
    Calls Try.prog 40 #[.agg #[.int .i64 gx, .int .i64 gy, .int .i64 size, .int .i64 wide, .int .i64 high], .int .i64 px, .int .i64 py] w fun e w' => e = .returned (.tuple #[.int .i64 0, .int .i64 (gridC gx gy size wide high)]) ∧ Below w.heap.size w w'  := by
  go_enter Try.func40, Try.ntmps40
  go_wp2_with fail
  refine (CheckGrid_any _ _ _ _ _ _).mono ?_; rintro e w1 ⟨rfl, hb1⟩
  obtain ⟨k0, k1, k2, k3, k4⟩ := (GridAt.new w gx gy size wide high).keep hb1 (by simp)
  have hbw : Below w.heap.size w w1 := Below.trans (below_alloc _ _) (hb1.mono (by simp))
  have hz : w.heap.size + 1 ≤ w1.heap.size := by have := hb1.size; simp at this; omega
  clear hb1
  go_wp2
  go_ret2
  exact ⟨rfl, hbw⟩

set_option maxHeartbeats 1600000 in
theorem Pixel_no (gx gy size wide high px py : Int) (w : World) (hg : gridC gx gy size wide high = 0) (h : pixB gx gy size wide high px py = false) :
    Calls Try.prog 40 #[.agg #[.int .i64 gx, .int .i64 gy, .int .i64 size, .int .i64 wide, .int .i64 high], .int .i64 px, .int .i64 py] w fun e w' => e = .returned (.tuple #[.int .i64 0, .int .i64 29]) ∧ Below w.heap.size w w'  := by
  have HG := Lib.hid hg
  have H := Lib.hid h
  clear hg h
  go_enter Try.func40, Try.ntmps40
  go_wp2_with fail
  refine (CheckGrid_any _ _ _ _ _ _).mono ?_; rintro e w1 ⟨rfl, hb1⟩
  obtain ⟨k0, k1, k2, k3, k4⟩ := (GridAt.new w gx gy size wide high).keep hb1 (by simp)
  have hbw : Below w.heap.size w w1 := Below.trans (below_alloc _ _) (hb1.mono (by simp))
  have hz : w.heap.size + 1 ≤ w1.heap.size := by have := hb1.size; simp at this; omega
  clear hb1
  rw [HG.out]
  go_wp2_with fail
  refine (pixel_any _ _ _ _ _ _ _ _ HG.out).mono ?_; rintro e w2 ⟨rfl, hb2⟩
  rw [H.out]
  have hbw := hbw.trans (hb2.mono (by omega))
  go_wp2
  go_ret2
  exact ⟨rfl, hbw⟩

set_option maxHeartbeats 1600000 in
theorem Pixel_ok (gx gy size wide high px py : Int) (w : World) (hg : gridC gx gy size wide high = 0) (h : pixB gx gy size wide high px py = true) :
    Calls Try.prog 40 #[.agg #[.int .i64 gx, .int .i64 gy, .int .i64 size, .int .i64 wide, .int .i64 high], .int .i64 px, .int .i64 py] w fun e w' => e = .returned (.tuple #[.int .i64 (pixN gx gy size wide px py), .int .i64 0]) ∧ Below w.heap.size w w'  := by
  have HG := Lib.hid hg
  have H := Lib.hid h
  clear hg h
  go_enter Try.func40, Try.ntmps40
  go_wp2_with fail
  refine (CheckGrid_any _ _ _ _ _ _).mono ?_; rintro e w1 ⟨rfl, hb1⟩
  obtain ⟨k0, k1, k2, k3, k4⟩ := (GridAt.new w gx gy size wide high).keep hb1 (by simp)
  have hbw : Below w.heap.size w w1 := Below.trans (below_alloc _ _) (hb1.mono (by simp))
  have hz : w.heap.size + 1 ≤ w1.heap.size := by have := hb1.size; simp at this; omega
  clear hb1
  rw [HG.out]
  go_wp2_with fail
  refine (pixel_any _ _ _ _ _ _ _ _ HG.out).mono ?_; rintro e w2 ⟨rfl, hb2⟩
  rw [H.out]
  have hbw := hbw.trans (hb2.mono (by omega))
  go_wp2
  go_ret2
  exact ⟨rfl, hbw⟩


set_option maxHeartbeats 1600000 in
theorem refPixel_err (gx gy size wide high px py : Int) (w : World) (hne : (gridC gx gy size wide high != 0) = true) :
    Calls Try.prog 41 #[.agg #[.int .i64 gx, .int .i64 gy, .int .i64 size, .int .i64 wide, .int .i64 high], .int .i64 px, .int .i64 py] w fun e w' => e = .returned (.tuple #[.int .i64 0, .int .i64 (gridC gx gy size wide high)]) ∧ Below w.heap.size w w'  := by
  go_enter Try.func41, Try.ntmps41
  go_wp2_with fail
  refine (refCheckGrid_any _ _ _ _ _ _).mono ?_; rintro e w1 ⟨rfl, hb1⟩
  obtain ⟨k0, k1, k2, k3, k4⟩ := (GridAt.new w gx gy size wide high).keep hb1 (by simp)
  have hbw : Below w.heap.size w w1 := Below.trans (below_alloc _ _) (hb1.mono (by simp))
  have hz : w.heap.size + 1 ≤ w1.heap.size := by have := hb1.size; simp at this; omega
  clear hb1
  go_wp2
  go_ret2
  exact ⟨rfl, hbw⟩

set_option maxHeartbeats 1600000 in
theorem refPixel_no1 (gx gy size wide high px py : Int) (w : World) (hg : gridC gx gy size wide high = 0) (h1 : px < gx) :
    Calls Try.prog 41 #[.agg #[.int .i64 gx, .int .i64 gy, .int .i64 size, .int .i64 wide, .int .i64 high], .int .i64 px, .int .i64 py] w fun e w' => e = .returned (.tuple #[.int .i64 0, .int .i64 29]) ∧ Below w.heap.size w w'  := by
  have HG := Lib.hid hg
  obtain ⟨⟨X1, X2⟩, ⟨Y1, Y2⟩, ⟨s1, s2⟩, ⟨v1, v2⟩, v3, v4⟩ := gridB_bd (gridC_zero.1 hg)
  have v5 := M.mul_bd (a := wide) (b := size) (A := 64) (B := 10000) (by omega) v2 (by omega) s2
  have v6 := M.mul_bd (a := high) (b := size) (A := 64) (B := 10000) (by omega) v4 (by omega) s2
  have i1 : IntKind.i64.wrap (wide * size) = wide * size := IntWalk.i64_in _ (by omega)
  have i2 : IntKind.i64.wrap (high * size) = high * size := IntWalk.i64_in _ (by omega)
  have i3 : IntKind.i64.wrap (gx + wide * size) = gx + wide * size := IntWalk.i64_in _ (by omega)
  have i4 : IntKind.i64.wrap (gy + high * size) = gy + high * size := IntWalk.i64_in _ (by omega)
  have i5 : IntKind.i64.wrap (gx + wide * size - 1) = gx + wide * size - 1 := IntWalk.i64_in _ (by omega)
  have i6 : IntKind.i64.wrap (gy + high * size - 1) = gy + high * size - 1 := IntWalk.i64_in _ (by omega)
  clear hg
  go_enter Try.func41, Try.ntmps41
  go_wp2_with fail
  refine (refCheckGrid_any _ _ _ _ _ _).mono ?_; rintro e w1 ⟨rfl, hb1⟩
  obtain ⟨k0, k1, k2, k3, k4⟩ := (GridAt.new w gx gy size wide high).keep hb1 (by simp)
  have hbw : Below w.heap.size w w1 := Below.trans (below_alloc _ _) (hb1.mono (by simp))
  have hz : w.heap.size + 1 ≤ w1.heap.size := by have := hb1.size; simp at this; omega
  clear hb1
  rw [HG.out]
  go_wp2
  go_ret2
  exact ⟨rfl, hbw⟩

set_option maxHeartbeats 1600000 in
theorem refPixel_no2 (gx gy size wide high px py : Int) (w : World) (hg : gridC gx gy size wide high = 0) (h1 : ¬ px < gx) (h2 : gx + wide * size ≤ px) :
    Calls Try.prog 41 #[.agg #[.int .i64 gx, .int .i64 gy, .int .i64 size, .int .i64 wide, .int .i64 high], .int .i64 px, .int .i64 py] w fun e w' => e = .returned (.tuple #[.int .i64 0, .int .i64 29]) ∧ Below w.heap.size w w'  := by
  have HG := Lib.hid hg
  obtain ⟨⟨X1, X2⟩, ⟨Y1, Y2⟩, ⟨s1, s2⟩, ⟨v1, v2⟩, v3, v4⟩ := gridB_bd (gridC_zero.1 hg)
  have v5 := M.mul_bd (a := wide) (b := size) (A := 64) (B := 10000) (by omega) v2 (by omega) s2
  have v6 := M.mul_bd (a := high) (b := size) (A := 64) (B := 10000) (by omega) v4 (by omega) s2
  have i1 : IntKind.i64.wrap (wide * size) = wide * size := IntWalk.i64_in _ (by omega)
  have i2 : IntKind.i64.wrap (high * size) = high * size := IntWalk.i64_in _ (by omega)
  have i3 : IntKind.i64.wrap (gx + wide * size) = gx + wide * size := IntWalk.i64_in _ (by omega)
  have i4 : IntKind.i64.wrap (gy + high * size) = gy + high * size := IntWalk.i64_in _ (by omega)
  have i5 : IntKind.i64.wrap (gx + wide * size - 1) = gx + wide * size - 1 := IntWalk.i64_in _ (by omega)
  have i6 : IntKind.i64.wrap (gy + high * size - 1) = gy + high * size - 1 := IntWalk.i64_in _ (by omega)
  clear hg
  go_enter Try.func41, Try.ntmps41
  go_wp2_with fail
  refine (refCheckGrid_any _ _ _ _ _ _).mono ?_; rintro e w1 ⟨rfl, hb1⟩
  obtain ⟨k0, k1, k2, k3, k4⟩ := (GridAt.new w gx gy size wide high).keep hb1 (by simp)
  have hbw : Below w.heap.size w w1 := Below.trans (below_alloc _ _) (hb1.mono (by simp))
  have hz : w.heap.size + 1 ≤ w1.heap.size := by have := hb1.size; simp at this; omega
  clear hb1
  rw [HG.out]
  go_wp2
  go_ret2
  exact ⟨rfl, hbw⟩

set_option maxHeartbeats 1600000 in
theorem refPixel_no3 (gx gy size wide high px py : Int) (w : World) (hg : gridC gx gy size wide high = 0) (h1 : ¬ px < gx) (h2 : ¬ gx + wide * size ≤ px) (h3 : py < gy) :
    Calls Try.prog 41 #[.agg #[.int .i64 gx, .int .i64 gy, .int .i64 size, .int .i64 wide, .int .i64 high], .int .i64 px, .int .i64 py] w fun e w' => e = .returned (.tuple #[.int .i64 0, .int .i64 29]) ∧ Below w.heap.size w w'  := by
  have HG := Lib.hid hg
  obtain ⟨⟨X1, X2⟩, ⟨Y1, Y2⟩, ⟨s1, s2⟩, ⟨v1, v2⟩, v3, v4⟩ := gridB_bd (gridC_zero.1 hg)
  have v5 := M.mul_bd (a := wide) (b := size) (A := 64) (B := 10000) (by omega) v2 (by omega) s2
  have v6 := M.mul_bd (a := high) (b := size) (A := 64) (B := 10000) (by omega) v4 (by omega) s2
  have i1 : IntKind.i64.wrap (wide * size) = wide * size := IntWalk.i64_in _ (by omega)
  have i2 : IntKind.i64.wrap (high * size) = high * size := IntWalk.i64_in _ (by omega)
  have i3 : IntKind.i64.wrap (gx + wide * size) = gx + wide * size := IntWalk.i64_in _ (by omega)
  have i4 : IntKind.i64.wrap (gy + high * size) = gy + high * size := IntWalk.i64_in _ (by omega)
  have i5 : IntKind.i64.wrap (gx + wide * size - 1) = gx + wide * size - 1 := IntWalk.i64_in _ (by omega)
  have i6 : IntKind.i64.wrap (gy + high * size - 1) = gy + high * size - 1 := IntWalk.i64_in _ (by omega)
  clear hg
  go_enter Try.func41, Try.ntmps41
  go_wp2_with fail
  refine (refCheckGrid_any _ _ _ _ _ _).mono ?_; rintro e w1 ⟨rfl, hb1⟩
  obtain ⟨k0, k1, k2, k3, k4⟩ := (GridAt.new w gx gy size wide high).keep hb1 (by simp)
  have hbw : Below w.heap.size w w1 := Below.trans (below_alloc _ _) (hb1.mono (by simp))
  have hz : w.heap.size + 1 ≤ w1.heap.size := by have := hb1.size; simp at this; omega
  clear hb1
  rw [HG.out]
  go_wp2
  go_ret2
  exact ⟨rfl, hbw⟩

set_option maxHeartbeats 1600000 in
theorem refPixel_no4 (gx gy size wide high px py : Int) (w : World) (hg : gridC gx gy size wide high = 0) (h1 : ¬ px < gx) (h2 : ¬ gx + wide * size ≤ px) (h3 : ¬ py < gy) (h4 : gy + high * size ≤ py) :
    Calls Try.prog 41 #[.agg #[.int .i64 gx, .int .i64 gy, .int .i64 size, .int .i64 wide, .int .i64 high], .int .i64 px, .int .i64 py] w fun e w' => e = .returned (.tuple #[.int .i64 0, .int .i64 29]) ∧ Below w.heap.size w w'  := by
  have HG := Lib.hid hg
  obtain ⟨⟨X1, X2⟩, ⟨Y1, Y2⟩, ⟨s1, s2⟩, ⟨v1, v2⟩, v3, v4⟩ := gridB_bd (gridC_zero.1 hg)
  have v5 := M.mul_bd (a := wide) (b := size) (A := 64) (B := 10000) (by omega) v2 (by omega) s2
  have v6 := M.mul_bd (a := high) (b := size) (A := 64) (B := 10000) (by omega) v4 (by omega) s2
  have i1 : IntKind.i64.wrap (wide * size) = wide * size := IntWalk.i64_in _ (by omega)
  have i2 : IntKind.i64.wrap (high * size) = high * size := IntWalk.i64_in _ (by omega)
  have i3 : IntKind.i64.wrap (gx + wide * size) = gx + wide * size := IntWalk.i64_in _ (by omega)
  have i4 : IntKind.i64.wrap (gy + high * size) = gy + high * size := IntWalk.i64_in _ (by omega)
  have i5 : IntKind.i64.wrap (gx + wide * size - 1) = gx + wide * size - 1 := IntWalk.i64_in _ (by omega)
  have i6 : IntKind.i64.wrap (gy + high * size - 1) = gy + high * size - 1 := IntWalk.i64_in _ (by omega)
  clear hg
  go_enter Try.func41, Try.ntmps41
  go_wp2_with fail
  refine (refCheckGrid_any _ _ _ _ _ _).mono ?_; rintro e w1 ⟨rfl, hb1⟩
  obtain ⟨k0, k1, k2, k3, k4⟩ := (GridAt.new w gx gy size wide high).keep hb1 (by simp)
  have hbw : Below w.heap.size w w1 := Below.trans (below_alloc _ _) (hb1.mono (by simp))
  have hz : w.heap.size + 1 ≤ w1.heap.size := by have := hb1.size; simp at this; omega
  clear hb1
  rw [HG.out]
  go_wp2
  go_ret2
  exact ⟨rfl, hbw⟩

set_option maxRecDepth 100000 in
set_option maxHeartbeats 1600000 in
theorem refPixel_ok (gx gy size wide high px py : Int) (w : World) (hg : gridC gx gy size wide high = 0) (h : pixB gx gy size wide high px py = true) :
    Calls Try.prog 41 #[.agg #[.int .i64 gx, .int .i64 gy, .int .i64 size, .int .i64 wide, .int .i64 high], .int .i64 px, .int .i64 py] w fun e w' => e = .returned (.tuple #[.int .i64 (pixN gx gy size wide px py), .int .i64 0]) ∧ Below w.heap.size w w'  := by
  have HG := Lib.hid hg
  obtain ⟨⟨X1, X2⟩, ⟨Y1, Y2⟩, ⟨s1, s2⟩, ⟨v1, v2⟩, v3, v4⟩ := gridB_bd (gridC_zero.1 hg)
  have v5 := M.mul_bd (a := wide) (b := size) (A := 64) (B := 10000) (by omega) v2 (by omega) s2
  have v6 := M.mul_bd (a := high) (b := size) (A := 64) (B := 10000) (by omega) v4 (by omega) s2
  have i1 : IntKind.i64.wrap (wide * size) = wide * size := IntWalk.i64_in _ (by omega)
  have i2 : IntKind.i64.wrap (high * size) = high * size := IntWalk.i64_in _ (by omega)
  have i3 : IntKind.i64.wrap (gx + wide * size) = gx + wide * size := IntWalk.i64_in _ (by omega)
  have i4 : IntKind.i64.wrap (gy + high * size) = gy + high * size := IntWalk.i64_in _ (by omega)
  have i5 : IntKind.i64.wrap (gx + wide * size - 1) = gx + wide * size - 1 := IntWalk.i64_in _ (by omega)
  have i6 : IntKind.i64.wrap (gy + high * size - 1) = gy + high * size - 1 := IntWalk.i64_in _ (by omega)
  obtain ⟨a1, a2, b1, b2, q1, q2, q3, q4, q5, q6, m1, m2⟩ := pix_facts hg h
  have j1 : IntKind.i64.wrap (px - gx) = px - gx := IntWalk.i64_in _ (by omega)
  have j2 : IntKind.i64.wrap (py - gy) = py - gy := IntWalk.i64_in _ (by omega)
  have j3 : IntKind.i64.wrap ((px - gx) / size) = (px - gx) / size := IntWalk.i64_in _ (by omega)
  have j4 : IntKind.i64.wrap ((py - gy) / size) = (py - gy) / size := IntWalk.i64_in _ (by omega)
  have j5 : IntKind.i64.wrap ((py - gy) / size * wide) = (py - gy) / size * wide := IntWalk.i64_in _ (by omega)
  have j6 : IntKind.i64.wrap ((py - gy) / size * wide + (px - gx) / size) = (py - gy) / size * wide + (px - gx) / size := IntWalk.i64_in _ (by omega)
  have z1 : (size == 0) = false := by rw [beq_eq_false_iff_ne]; omega
  have z2 : size ≠ 0 := by omega
  have z3 : ¬ size = -1 := by omega
  clear hg
  have h1 : ¬ px < gx := by omega
  have h3 : ¬ py < gy := by omega
  unfold pixB at h
  rw [Bool.and_eq_true, inB_true, inB_true] at h
  have h2 : ¬ gx + wide * size ≤ px := by omega
  have h4 : ¬ gy + high * size ≤ py := by omega
  clear h
  go_enter Try.func41, Try.ntmps41
  go_wp2_with fail
  refine (refCheckGrid_any _ _ _ _ _ _).mono ?_; rintro e w1 ⟨rfl, hb1⟩
  obtain ⟨k0, k1, k2, k3, k4⟩ := (GridAt.new w gx gy size wide high).keep hb1 (by simp)
  have hbw : Below w.heap.size w w1 := Below.trans (below_alloc _ _) (hb1.mono (by simp))
  have hz : w.heap.size + 1 ≤ w1.heap.size := by have := hb1.size; simp at this; omega
  clear hb1
  rw [HG.out]
  go_wp2
  go_quiet (fail)
  go_wp2
  exact bodyPost_ret (v := .tuple #[.int .i64 (pixN gx gy size wide px py), .int .i64 0]) (by simp [results, Try.results41, go_sem, pixN]) rfl ⟨rfl, by repeat (first | exact hbw | (refine below_drewN ?_ _))⟩


def pixE (gc : Int) (b : Bool) : Int := if gc = 0 then (if b = true then 0 else 29) else gc

theorem Pixel_any (gx gy size wide high px py : Int) (w : World) :
    Calls Try.prog 40 #[.agg #[.int .i64 gx, .int .i64 gy, .int .i64 size, .int .i64 wide, .int .i64 high], .int .i64 px, .int .i64 py] w fun e w' => e = .returned (.tuple #[.int .i64 (if (pixE (gridC gx gy size wide high) (pixB gx gy size wide high px py)) = 0 then pixN gx gy size wide px py else 0), .int .i64 (pixE (gridC gx gy size wide high) (pixB gx gy size wide high px py))]) ∧ Below w.heap.size w w'  := by
  by_cases h0 : gridC gx gy size wide high = 0
  · rcases (Bool.eq_false_or_eq_true (pixB gx gy size wide high px py)).symm with h | h
    · have e : (pixE (gridC gx gy size wide high) (pixB gx gy size wide high px py)) = 29 := by rw [h0, h]; rfl
      rw [e, if_neg (by decide)]
      exact Pixel_no gx gy size wide high px py w h0 h
    · have e : (pixE (gridC gx gy size wide high) (pixB gx gy size wide high px py)) = 0 := by rw [h0, h]; rfl
      rw [e, if_pos rfl]
      exact Pixel_ok gx gy size wide high px py w h0 h
  · have e : (pixE (gridC gx gy size wide high) (pixB gx gy size wide high px py)) = gridC gx gy size wide high := by unfold pixE; rw [if_neg h0]
    rw [e, if_neg h0]
    exact Pixel_err gx gy size wide high px py w (bne_iff_ne.2 h0)

theorem refPixel_any (gx gy size wide high px py : Int) (w : World) :
    Calls Try.prog 41 #[.agg #[.int .i64 gx, .int .i64 gy, .int .i64 size, .int .i64 wide, .int .i64 high], .int .i64 px, .int .i64 py] w fun e w' => e = .returned (.tuple #[.int .i64 (if (pixE (gridC gx gy size wide high) (pixB gx gy size wide high px py)) = 0 then pixN gx gy size wide px py else 0), .int .i64 (pixE (gridC gx gy size wide high) (pixB gx gy size wide high px py))]) ∧ Below w.heap.size w w'  := by
  by_cases h0 : gridC gx gy size wide high = 0
  · rcases (Bool.eq_false_or_eq_true (pixB gx gy size wide high px py)).symm with h | h
    · have e : (pixE (gridC gx gy size wide high) (pixB gx gy size wide high px py)) = 29 := by rw [h0, h]; rfl
      rw [e, if_neg (by decide)]
      unfold pixB at h
      by_cases h1 : px < gx
      · exact refPixel_no1 gx gy size wide high px py w h0 h1
      · by_cases h2 : gx + wide * size ≤ px
        · exact refPixel_no2 gx gy size wide high px py w h0 h1 h2
        · by_cases h3 : py < gy
          · exact refPixel_no3 gx gy size wide high px py w h0 h1 h2 h3
          · by_cases h4 : gy + high * size ≤ py
            · exact refPixel_no4 gx gy size wide high px py w h0 h1 h2 h3 h4
            · rw [inB_true.2 ⟨by omega, by omega⟩, inB_true.2 ⟨by omega, by omega⟩] at h
              cases h
    · have e : (pixE (gridC gx gy size wide high) (pixB gx gy size wide high px py)) = 0 := by rw [h0, h]; rfl
      rw [e, if_pos rfl]
      exact refPixel_ok gx gy size wide high px py w h0 h
  · have e : (pixE (gridC gx gy size wide high) (pixB gx gy size wide high px py)) = gridC gx gy size wide high := by unfold pixE; rw [if_neg h0]
    rw [e, if_neg h0]
    exact refPixel_err gx gy size wide high px py w (bne_iff_ne.2 h0)

end Go.Proofs.Ythnjfnapjpdchaa

namespace Go.Proofs.Ythnjfnapjpdchaa
open Go.RowKit
set_option linter.unusedVariables false

theorem pair_set {w : World} {b : Nat} {u v c0 c1 : Value} (h0 : w.cell? ⟨b, 0, none⟩ = some c0) (h1 : w.cell? ⟨b, 1, none⟩ = some c1) :
    ((w.setCell ⟨b, 0, none⟩ u).setCell ⟨b, 1, none⟩ v).cell? ⟨b, 0, none⟩ = some u ∧ ((w.setCell ⟨b, 0, none⟩ u).setCell ⟨b, 1, none⟩ v).cell? ⟨b, 1, none⟩ = some v := by
  constructor
  · rw [World.cell?_setCell_other _ _ _ _ (by simp)]
    exact World.cell?_setCell_same' _ _ _ (by rw [h0]; rfl)
  · exact World.cell?_setCell_same' _ _ _ (by rw [World.cell?_setCell_other _ _ _ _ (by simp), h1]; rfl)

def midX (gx size wide k : Int) : Int := gx + k % wide * size + size / 2
def midY (gy size wide k : Int) : Int := gy + k / wide * size + size / 2

theorem div_bd {k : Nat} {wide high : Int} (h1 : 1 ≤ wide) (h2 : 1 ≤ high) (hk : (k : Int) < wide * high) : 0 ≤ (k : Int) / wide ∧ (k : Int) / wide < high :=
  ⟨Int.ediv_nonneg (by omega) (by omega), Int.ediv_lt_of_lt_mul (by omega) (by rw [Int.mul_comm]; exact hk)⟩

theorem mid_bd {gx gy size wide high : Int} {k : Nat} (hg : gridC gx gy size wide high = 0) (hk : (k : Int) < wide * high) : (-2000000 ≤ midX gx size wide k ∧ midX gx size wide k ≤ 2000000) ∧ (-2000000 ≤ midY gy size wide k ∧ midY gy size wide k ≤ 2000000) := by
  obtain ⟨⟨X1, X2⟩, ⟨Y1, Y2⟩, ⟨s1, s2⟩, ⟨v1, v2⟩, v3, v4⟩ := gridB_bd (gridC_zero.1 hg)
  obtain ⟨d1, d2⟩ := div_bd (k := k) (wide := wide) (high := high) (by omega) (by omega) hk
  have r1 : 0 ≤ (k : Int) % wide := Int.emod_nonneg _ (by omega)
  have r2 : (k : Int) % wide < wide := Int.emod_lt_of_pos _ (by omega)
  have p1 := M.mul_bd (a := (k : Int) % wide) (b := size) (A := 64) (B := 10000) r1 (by omega) (by omega) s2
  have p2 := M.mul_bd (a := (k : Int) / wide) (b := size) (A := 64) (B := 10000) d1 (by omega) (by omega) s2
  unfold midX midY
  omega

set_option maxRecDepth 100000 in
set_option maxHeartbeats 6400000 in
theorem middle_any (gx gy size wide high : Int) (k : Nat) (w : World) (hg : gridC gx gy size wide high = 0) (hk : (k : Int) < wide * high) :
    Calls Try.prog 83 #[.agg #[.int .i64 gx, .int .i64 gy, .int .i64 size, .int .i64 wide, .int .i64 high], .int .i64 (k : Int)] w fun e w' => e = .returned (.agg #[.int .i64 (midX gx size wide k), .int .i64 (midY gy size wide k)]) ∧ Below w.heap.size w w' := by
  obtain ⟨⟨X1, X2⟩, ⟨Y1, Y2⟩, ⟨s1, s2⟩, ⟨v1, v2⟩, v3, v4⟩ := gridB_bd (gridC_zero.1 hg)
  have v6 := M.mul_bd (a := wide) (b := high) (A := 64) (B := 64) (by omega) v2 (by omega) v4
  obtain ⟨d1, d2⟩ := div_bd (k := k) (wide := wide) (high := high) (by omega) (by omega) hk
  have r1 : 0 ≤ (k : Int) % wide := Int.emod_nonneg _ (by omega)
  have r2 : (k : Int) % wide < wide := Int.emod_lt_of_pos _ (by omega)
  have p1 := M.mul_bd (a := (k : Int) % wide) (b := size) (A := 64) (B := 10000) r1 (by omega) (by omega) s2
  have p2 := M.mul_bd (a := (k : Int) / wide) (b := size) (A := 64) (B := 10000) d1 (by omega) (by omega) s2
  have q1 : (k : Int).tmod wide = k % wide := Int.tmod_eq_emod_of_nonneg (by omega)
  have q2 : (k : Int).tdiv wide = k / wide := Int.tdiv_eq_ediv_of_nonneg (by omega)
  have q3 : size.tdiv 2 = size / 2 := Int.tdiv_eq_ediv_of_nonneg (by omega)
  have i0 : IntKind.i64.wrap ((k : Int) % wide) = (k : Int) % wide := IntWalk.i64_in _ (by omega)
  have i1 : IntKind.i64.wrap ((k : Int) / wide) = (k : Int) / wide := IntWalk.i64_in _ (by omega)
  have i2 : IntKind.i64.wrap (size / 2) = size / 2 := IntWalk.i64_in _ (by omega)
  have i3 : IntKind.i64.wrap ((k : Int) % wide * size) = (k : Int) % wide * size := IntWalk.i64_in _ (by omega)
  have i4 : IntKind.i64.wrap ((k : Int) / wide * size) = (k : Int) / wide * size := IntWalk.i64_in _ (by omega)
  have i5 : IntKind.i64.wrap (gx + (k : Int) % wide * size) = gx + (k : Int) % wide * size := IntWalk.i64_in _ (by omega)
  have i6 : IntKind.i64.wrap (gy + (k : Int) / wide * size) = gy + (k : Int) / wide * size := IntWalk.i64_in _ (by omega)
  have i7 : IntKind.i64.wrap (gx + (k : Int) % wide * size + size / 2) = gx + (k : Int) % wide * size + size / 2 := IntWalk.i64_in _ (by omega)
  have i8 : IntKind.i64.wrap (gy + (k : Int) / wide * size + size / 2) = gy + (k : Int) / wide * size + size / 2 := IntWalk.i64_in _ (by omega)
  have z1 : (wide == 0) = false := by rw [beq_eq_false_iff_ne]; omega
  have z2 : wide ≠ 0 := by omega
  have z3 : ¬ wide = -1 := by omega
  clear hg hk
  go_enter Try.func83, Try.ntmps83
  go_wp2
  have e2 : (w.alloc (.cells #[.int .i64 gx, .int .i64 gy, .int .i64 size, .int .i64 wide, .int .i64 high] 25)).heap.size = w.heap.size + 1 := World.size_alloc _ _
  have G0 := (GridAt.new w gx gy size wide high).keep (below_alloc _ (.cells #[.int .i64 0, .int .i64 0] 83)) (by omega)
  have O0 := OpenAt.new (w.alloc (.cells #[.int .i64 gx, .int .i64 gy, .int .i64 size, .int .i64 wide, .int .i64 high] 25)) (.int .i64 0) (.int .i64 0) 83
  have B0 : Below w.heap.size w ((w.alloc (.cells #[.int .i64 gx, .int .i64 gy, .int .i64 size, .int .i64 wide, .int .i64 high] 25)).alloc (.cells #[.int .i64 0, .int .i64 0] 83)) := Below.trans (below_alloc _ _) ((below_alloc _ _).mono (by omega))
  have Z0 : w.heap.size + 2 ≤ ((w.alloc (.cells #[.int .i64 gx, .int .i64 gy, .int .i64 size, .int .i64 wide, .int .i64 high] 25)).alloc (.cells #[.int .i64 0, .int .i64 0] 83)).heap.size := by simp
  rw [e2] at O0
  generalize ((w.alloc (.cells #[.int .i64 gx, .int .i64 gy, .int .i64 size, .int .i64 wide, .int .i64 high] 25)).alloc (.cells #[.int .i64 0, .int .i64 0] 83)) = W at *
  obtain ⟨k0, k1, k2, k3, k4⟩ := G0
  obtain ⟨o0, o1, f0, f1⟩ := O0
  clear e2
  go_still_tail 29, (by kernel_rfl)
  change wpList _ _ _ _ _ W.drew
  have hb4 : Below W.heap.size W W.drew := (Below.refl _ _).drew
  have O1 := (⟨o0, o1, f0, f1⟩ : OpenAt W (w.heap.size + 1)).keep hb4 (by omega)
  have B1 : Below w.heap.size w W.drew := B0.drew
  have Z1 : w.heap.size + 1 < W.drew.heap.size := by simp; omega
  clear k0 k1 k2 k3 k4 o0 o1 f0 f1 B0 hb4
  generalize W.drew = w2 at *
  obtain ⟨o0, o1, f0, f1⟩ := O1
  go_wp2
  have hp := pair_set (u := .int .i64 (gx + (k : Int) % wide * size + size / 2)) (v := .int .i64 (gy + (k : Int) / wide * size + size / 2)) o0 o1
  obtain ⟨hp0, hp1⟩ := hp
  exact bodyPost_ret (v := .agg #[.int .i64 (midX gx size wide k), .int .i64 (midY gy size wide k)]) (by simp [results, Try.results83, go_sem, hp0, hp1, midX, midY]) rfl ⟨rfl, Below.setCell (Below.setCell B1 (by simp) _) (by simp) _⟩

set_option maxHeartbeats 3200000 in
theorem refMiddle_any (gx gy size wide high : Int) (k : Nat) (w : World) (hg : gridC gx gy size wide high = 0) (hk : (k : Int) < wide * high) :
    Calls Try.prog 84 #[.agg #[.int .i64 gx, .int .i64 gy, .int .i64 size, .int .i64 wide, .int .i64 high], .int .i64 (k : Int)] w fun e w' => e = .returned (.tuple #[.int .i64 (midX gx size wide k), .int .i64 (midY gy size wide k)]) ∧ Below w.heap.size w w' := by
  obtain ⟨⟨X1, X2⟩, ⟨Y1, Y2⟩, ⟨s1, s2⟩, ⟨v1, v2⟩, v3, v4⟩ := gridB_bd (gridC_zero.1 hg)
  have v6 := M.mul_bd (a := wide) (b := high) (A := 64) (B := 64) (by omega) v2 (by omega) v4
  obtain ⟨d1, d2⟩ := div_bd (k := k) (wide := wide) (high := high) (by omega) (by omega) hk
  have r1 : 0 ≤ (k : Int) % wide := Int.emod_nonneg _ (by omega)
  have r2 : (k : Int) % wide < wide := Int.emod_lt_of_pos _ (by omega)
  have p1 := M.mul_bd (a := (k : Int) % wide) (b := size) (A := 64) (B := 10000) r1 (by omega) (by omega) s2
  have p2 := M.mul_bd (a := (k : Int) / wide) (b := size) (A := 64) (B := 10000) d1 (by omega) (by omega) s2
  have q1 : (k : Int).tmod wide = k % wide := Int.tmod_eq_emod_of_nonneg (by omega)
  have q2 : (k : Int).tdiv wide = k / wide := Int.tdiv_eq_ediv_of_nonneg (by omega)
  have q3 : size.tdiv 2 = size / 2 := Int.tdiv_eq_ediv_of_nonneg (by omega)
  have i0 : IntKind.i64.wrap ((k : Int) % wide) = (k : Int) % wide := IntWalk.i64_in _ (by omega)
  have i1 : IntKind.i64.wrap ((k : Int) / wide) = (k : Int) / wide := IntWalk.i64_in _ (by omega)
  have i2 : IntKind.i64.wrap (size / 2) = size / 2 := IntWalk.i64_in _ (by omega)
  have i3 : IntKind.i64.wrap ((k : Int) % wide * size) = (k : Int) % wide * size := IntWalk.i64_in _ (by omega)
  have i4 : IntKind.i64.wrap ((k : Int) / wide * size) = (k : Int) / wide * size := IntWalk.i64_in _ (by omega)
  have i5 : IntKind.i64.wrap (gx + (k : Int) % wide * size) = gx + (k : Int) % wide * size := IntWalk.i64_in _ (by omega)
  have i6 : IntKind.i64.wrap (gy + (k : Int) / wide * size) = gy + (k : Int) / wide * size := IntWalk.i64_in _ (by omega)
  have i7 : IntKind.i64.wrap (gx + (k : Int) % wide * size + size / 2) = gx + (k : Int) % wide * size + size / 2 := IntWalk.i64_in _ (by omega)
  have i8 : IntKind.i64.wrap (gy + (k : Int) / wide * size + size / 2) = gy + (k : Int) / wide * size + size / 2 := IntWalk.i64_in _ (by omega)
  have z1 : (wide == 0) = false := by rw [beq_eq_false_iff_ne]; omega
  have z2 : wide ≠ 0 := by omega
  have z3 : ¬ wide = -1 := by omega
  clear hg hk
  go_enter Try.func84, Try.ntmps84
  go_wp2
  go_quiet (fail)
  go_wp2
  exact bodyPost_ret (v := .tuple #[.int .i64 (midX gx size wide k), .int .i64 (midY gy size wide k)]) (by simp [results, Try.results84, go_sem, midX, midY]) rfl ⟨rfl, by repeat (first | exact Below.refl _ _ | (refine below_drewN ?_ _) | (refine Below.alloc ?_ (by simp) _))⟩

end Go.Proofs.Ythnjfnapjpdchaa
