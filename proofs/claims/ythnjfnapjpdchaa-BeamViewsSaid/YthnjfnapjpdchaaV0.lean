/-
  The walk over checkSpans.
-/
import Derived.Test.YthnjfnapjpdchaaP
namespace Go.Proofs.Ythnjfnapjpdchaa
open Go.RowKit
set_option linter.unusedVariables false

/-- the spans of a slice: what its cells hold -/
def SpansAt (w : World) (b off len : Nat) (zs : Nat → Int × Int) : Prop :=
  ∀ i, i < len → w.cell? ⟨b, off + i * 2, none⟩ = some (.int .i64 (zs i).1) ∧ w.cell? ⟨b, off + i * 2 + 1, none⟩ = some (.int .i64 (zs i).2)

theorem SpansAt.keep {B b off len : Nat} {W w1 : World} {zs : Nat → Int × Int} (s : SpansAt W b off len zs) (hb : Below B W w1) (h : b < B) : SpansAt w1 b off len zs :=
  fun i hi => ⟨keepB hb h (s i hi).1, keepB hb h (s i hi).2⟩

/-- all spans are valid, and within two numbers -/
def AllIn (len : Nat) (zs : Nat → Int × Int) (a b : Int) : Prop := ∀ j, j < len → spanB (zs j).1 (zs j).2 a b = true
/-- the answer of checkSpans -/
noncomputable def spansC (len : Nat) (zs : Nat → Int × Int) (a b : Int) : Int := @ite _ (AllIn len zs a b) (Classical.propDecidable _) 0 3
theorem spansC_ok {len : Nat} {zs : Nat → Int × Int} {a b : Int} (h : AllIn len zs a b) : spansC len zs a b = 0 := by unfold spansC; exact @if_pos _ (Classical.propDecidable _) h _ _ _
theorem spansC_no {len : Nat} {zs : Nat → Int × Int} {a b : Int} {k : Nat} (hk : k < len) (h : spanB (zs k).1 (zs k).2 a b = false) : spansC len zs a b = 3 := by
  unfold spansC
  exact @if_neg _ (Classical.propDecidable _) (fun h2 => by have := h2 k hk; rw [h] at this; cases this) _ _ _
theorem allIn_step {k : Nat} {zs : Nat → Int × Int} {a b : Int} (h : AllIn k zs a b) (h2 : spanB (zs k).1 (zs k).2 a b = true) : AllIn (k + 1) zs a b := fun j hj => by
  by_cases e : j = k
  · subst e; exact h2
  · exact h j (by omega)

/-- the relation of the loop -/
def CsRel (w : World) (len : Nat) (zs : Nat → Int × Int) (lo hi : Int) (k : Nat) (wr : World) : Prop :=
  PairAt wr w.heap.size (.int .i64 lo) (.int .i64 hi) ∧ w.heap.size + 1 ≤ wr.heap.size ∧ Below w.heap.size w wr ∧ AllIn k zs lo hi

set_option maxHeartbeats 1600000 in
theorem checkSpans_some (b off len cap : Nat) (zs : Nat → Int × Int) (lo hi : Int) (w : World) (hl : len ≤ 1000000) (hs : SpansAt w b off len zs) (hb : b < w.heap.size) :
    Calls Try.prog 61 #[.slice (some ⟨b, off, none⟩) len cap, .agg #[.int .i64 lo, .int .i64 hi]] w
      fun e w' => e = .returned (.int .i64 (spansC len zs lo hi)) ∧ Below w.heap.size w w' := by
  have HS := Lib.hid hs
  clear hs
  go_enter Try.func61, Try.ntmps61
  go_wp2
  go_loopw [9] (fun i wr => ∃ k : Nat, k ≤ len ∧ i = .int .i64 k ∧ CsRel w len zs lo hi k wr) (fun i _ => len - (intOf i).toNat)
  case atStart => exact ⟨0, Nat.zero_le _, rfl, PairAt.new _ _ _ _, by simp, below_alloc _ _, fun j hj => by omega⟩
  case round =>
    obtain ⟨k, hk, rfl, hp, hz, hbw, hall⟩ := hrel
    have HA := Lib.hid hall
    clear hall
    obtain ⟨p0, p1⟩ := hp
    have y0 : w.heap.size < wr.heap.size := by omega
    by_cases hlt : k < len
    · have c0 := keepB hbw hb (HS.out k hlt).1
      have c1 := keepB hbw hb (HS.out k hlt).2
      rcases (Bool.eq_false_or_eq_true (spanB (zs k).1 (zs k).2 lo hi)).symm with hc | hc
      · have HC := Lib.hid (spansC_no hlt hc)
        go_wp2_with fail
        refine (isWithin_any _ _ _ _ _).mono ?_; rintro e w1 ⟨rfl, hb1⟩
        go_wp2
        go_ret
        rw [HC.out]
        exact ⟨rfl, Below.trans (hbw.alloc (by omega) _) (hb1.mono (by simp only [World.size_alloc]; omega))⟩
      · have HC := Lib.hid (allIn_step HA.out hc)
        go_wp2_with fail
        refine (isWithin_any _ _ _ _ _).mono ?_; rintro e w1 ⟨rfl, hb1⟩
        have hk1 : Below wr.heap.size wr w1 := Below.trans (below_alloc _ _) (hb1.mono (by simp))
        have hp2 := PairAt.keep ⟨p0, p1⟩ hk1 y0
        have hz2 := Nat.le_trans hz hk1.size
        have hbw2 := hbw.trans (hk1.mono (by omega))
        have HR := Lib.hid (show CsRel w len zs lo hi (k + 1) w1 from ⟨hp2, hz2, hbw2, HC.out⟩)
        clear hp2 hz2 hbw2 hk1 hb1
        go_wp2
        go_roundw
        case rel => exact ⟨k + 1, by omega, by go_num, HR.out⟩
        case measure => simp [intOf]; omega
    · have HC := Lib.hid (spansC_ok (a := lo) (b := hi) (len := len) (zs := zs) (fun j hj => HA.out j (by omega)))
      go_wp2
      go_ret
      rw [HC.out]
      exact ⟨rfl, hbw⟩

set_option maxHeartbeats 800000 in
theorem checkSpans_nil (a : Option Addr) (cap : Nat) (zs : Nat → Int × Int) (lo hi : Int) (w : World) :
    Calls Try.prog 61 #[.slice a 0 cap, .agg #[.int .i64 lo, .int .i64 hi]] w
      fun e w' => e = .returned (.int .i64 (spansC 0 zs lo hi)) ∧ Below w.heap.size w w' := by
  rw [spansC_ok (fun j hj => by omega)]
  go_enter Try.func61, Try.ntmps61
  go_wp2
  go_loopw [9] (fun i wr => i = .int .i64 0 ∧ Below w.heap.size w wr) (fun i _ => 0)
  case atStart => exact ⟨rfl, below_alloc _ _⟩
  case round =>
    obtain ⟨rfl, hbw⟩ := hrel
    go_wp2
    go_ret
    exact ⟨rfl, hbw⟩

/-- a slice of spans, nil or not -/
def SliceIs (w : World) (a : Option Addr) (len cap : Nat) (zs : Nat → Int × Int) : Prop :=
  len = 0 ∨ ∃ b off, a = some ⟨b, off, none⟩ ∧ b < w.heap.size ∧ SpansAt w b off len zs
theorem SliceIs.keep {W w1 : World} {a : Option Addr} {len cap : Nat} {zs : Nat → Int × Int} (s : SliceIs W a len cap zs) (hb : Below W.heap.size W w1) : SliceIs w1 a len cap zs := by
  rcases s with h | ⟨b, off, h1, h2, h3⟩
  · exact .inl h
  · exact .inr ⟨b, off, h1, Nat.lt_of_lt_of_le h2 hb.size, h3.keep hb h2⟩

theorem checkSpans_any (a : Option Addr) (len cap : Nat) (zs : Nat → Int × Int) (lo hi : Int) (w : World) (hl : len ≤ 1000000) (hs : SliceIs w a len cap zs) :
    Calls Try.prog 61 #[.slice a len cap, .agg #[.int .i64 lo, .int .i64 hi]] w
      fun e w' => e = .returned (.int .i64 (spansC len zs lo hi)) ∧ Below w.heap.size w w' := by
  rcases hs with rfl | ⟨b, off, rfl, h2, h3⟩
  · exact checkSpans_nil a cap zs lo hi w
  · exact checkSpans_some b off len cap zs lo hi w hl h3 h2

end Go.Proofs.Ythnjfnapjpdchaa
