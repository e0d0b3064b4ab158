/-
  The walk over the middles of pixels, in the code and in the reference.
-/
import Derived.StillTailTactics
import Derived.Deep.OwnRows
import Derived.Test.YthnjfnapjpdchaaKm5
namespace Go.Proofs.Ythnjfnapjpdchaa
open Go.RowKit
set_option linter.unusedVariables false

theorem pair_set {w : World} {b : Nat} {u v c0 c1 : Value} (h0 : w.cell? ⟨b, 0, none⟩ = some c0) (h1 : w.cell? ⟨b, 1, none⟩ = some c1) :
    ((w.setCell ⟨b, 0, none⟩ u).setCell ⟨b, 1, none⟩ v).cell? ⟨b, 0, none⟩ = some u ∧ ((w.setCell ⟨b, 0, none⟩ u).setCell ⟨b, 1, none⟩ v).cell? ⟨b, 1, none⟩ = some v := by
  constructor
  · rw [World.cell?_setCell_other _ _ _ _ (by simp)]
    exact World.cell?_setCell_same' _ _ _ (by rw [h0]; rfl)
  · exact World.cell?_setCell_same' _ _ _ (by rw [World.cell?_setCell_other _ _ _ _ (by simp), h1]; rfl)

def midX (gx size wide k : Int) : Int := gx + k % wide * size + size / 2
def midY (gy size wide k : Int) : Int := gy + k / wide * size + size / 2

theorem div_bd {k : Nat} {wide high : Int} (h1 : 1 ≤ wide) (h2 : 1 ≤ high) (hk : (k : Int) < wide * high) : 0 ≤ (k : Int) / wide ∧ (k : Int) / wide < high :=
  ⟨Int.ediv_nonneg (by omega) (by omega), Int.ediv_lt_of_lt_mul (by omega) (by rw [Int.mul_comm]; exact hk)⟩

theorem mid_bd {gx gy size wide high : Int} {k : Nat} (hg : gridC gx gy size wide high = 0) (hk : (k : Int) < wide * high) : (-2000000 ≤ midX gx size wide k ∧ midX gx size wide k ≤ 2000000) ∧ (-2000000 ≤ midY gy size wide k ∧ midY gy size wide k ≤ 2000000) := by
  obtain ⟨⟨X1, X2⟩, ⟨Y1, Y2⟩, ⟨s1, s2⟩, ⟨v1, v2⟩, v3, v4⟩ := gridB_bd (gridC_zero.1 hg)
  obtain ⟨d1, d2⟩ := div_bd (k := k) (wide := wide) (high := high) (by omega) (by omega) hk
  have r1 : 0 ≤ (k : Int) % wide := Int.emod_nonneg _ (by omega)
  have r2 : (k : Int) % wide < wide := Int.emod_lt_of_pos _ (by omega)
  have p1 := M.mul_bd (a := (k : Int) % wide) (b := size) (A := 64) (B := 10000) r1 (by omega) (by omega) s2
  have p2 := M.mul_bd (a := (k : Int) / wide) (b := size) (A := 64) (B := 10000) d1 (by omega) (by omega) s2
  unfold midX midY
  omega

set_option maxRecDepth 100000 in
set_option maxHeartbeats 6400000 in
theorem middle_any (gx gy size wide high : Int) (k : Nat) (w : World) (hg : gridC gx gy size wide high = 0) (hk : (k : Int) < wide * high) :
    Calls Try.prog 83 #[.agg #[.int .i64 gx, .int .i64 gy, .int .i64 size, .int .i64 wide, .int .i64 high], .int .i64 (k : Int)] w fun e w' => e = .returned (.agg #[.int .i64 (midX gx size wide k), .int .i64 (midY gy size wide k)]) ∧ Below w.heap.size w w' := by
  obtain ⟨⟨X1, X2⟩, ⟨Y1, Y2⟩, ⟨s1, s2⟩, ⟨v1, v2⟩, v3, v4⟩ := gridB_bd (gridC_zero.1 hg)
  have v6 := M.mul_bd (a := wide) (b := high) (A := 64) (B := 64) (by omega) v2 (by omega) v4
  obtain ⟨d1, d2⟩ := div_bd (k := k) (wide := wide) (high := high) (by omega) (by omega) hk
  have r1 : 0 ≤ (k : Int) % wide := Int.emod_nonneg _ (by omega)
  have r2 : (k : Int) % wide < wide := Int.emod_lt_of_pos _ (by omega)
  have p1 := M.mul_bd (a := (k : Int) % wide) (b := size) (A := 64) (B := 10000) r1 (by omega) (by omega) s2
  have p2 := M.mul_bd (a := (k : Int) / wide) (b := size) (A := 64) (B := 10000) d1 (by omega) (by omega) s2
  have q1 : (k : Int).tmod wide = k % wide := Int.tmod_eq_emod_of_nonneg (by omega)
  have q2 : (k : Int).tdiv wide = k / wide := Int.tdiv_eq_ediv_of_nonneg (by omega)
  have q3 : size.tdiv 2 = size / 2 := Int.tdiv_eq_ediv_of_nonneg (by omega)
  have i0 : IntKind.i64.wrap ((k : Int) % wide) = (k : Int) % wide := IntWalk.i64_in _ (by omega)
  have i1 : IntKind.i64.wrap ((k : Int) / wide) = (k : Int) / wide := IntWalk.i64_in _ (by omega)
  have i2 : IntKind.i64.wrap (size / 2) = size / 2 := IntWalk.i64_in _ (by omega)
  have i3 : IntKind.i64.wrap ((k : Int) % wide * size) = (k : Int) % wide * size := IntWalk.i64_in _ (by omega)
  have i4 : IntKind.i64.wrap ((k : Int) / wide * size) = (k : Int) / wide * size := IntWalk.i64_in _ (by omega)
  have i5 : IntKind.i64.wrap (gx + (k : Int) % wide * size) = gx + (k : Int) % wide * size := IntWalk.i64_in _ (by omega)
  have i6 : IntKind.i64.wrap (gy + (k : Int) / wide * size) = gy + (k : Int) / wide * size := IntWalk.i64_in _ (by omega)
  have i7 : IntKind.i64.wrap (gx + (k : Int) % wide * size + size / 2) = gx + (k : Int) % wide * size + size / 2 := IntWalk.i64_in _ (by omega)
  have i8 : IntKind.i64.wrap (gy + (k : Int) / wide * size + size / 2) = gy + (k : Int) / wide * size + size / 2 := IntWalk.i64_in _ (by omega)
  have z1 : (wide == 0) = false := by rw [beq_eq_false_iff_ne]; omega
  have z2 : wide ≠ 0 := by omega
  have z3 : ¬ wide = -1 := by omega
  clear hg hk
  go_enter Try.func83, Try.ntmps83
  go_wp2
  have e2 : (w.alloc (.cells #[.int .i64 gx, .int .i64 gy, .int .i64 size, .int .i64 wide, .int .i64 high] 25)).heap.size = w.heap.size + 1 := World.size_alloc _ _
  have G0 := (GridAt.new w gx gy size wide high).keep (below_alloc _ (.cells #[.int .i64 0, .int .i64 0] 83)) (by omega)
  have O0 := OpenAt.new (w.alloc (.cells #[.int .i64 gx, .int .i64 gy, .int .i64 size, .int .i64 wide, .int .i64 high] 25)) (.int .i64 0) (.int .i64 0) 83
  have B0 : Below w.heap.size w ((w.alloc (.cells #[.int .i64 gx, .int .i64 gy, .int .i64 size, .int .i64 wide, .int .i64 high] 25)).alloc (.cells #[.int .i64 0, .int .i64 0] 83)) := Below.trans (below_alloc _ _) ((below_alloc _ _).mono (by omega))
  have Z0 : w.heap.size + 2 ≤ ((w.alloc (.cells #[.int .i64 gx, .int .i64 gy, .int .i64 size, .int .i64 wide, .int .i64 high] 25)).alloc (.cells #[.int .i64 0, .int .i64 0] 83)).heap.size := by simp
  rw [e2] at O0
  generalize ((w.alloc (.cells #[.int .i64 gx, .int .i64 gy, .int .i64 size, .int .i64 wide, .int .i64 high] 25)).alloc (.cells #[.int .i64 0, .int .i64 0] 83)) = W at *
  obtain ⟨k0, k1, k2, k3, k4⟩ := G0
  obtain ⟨o0, o1, f0, f1⟩ := O0
  clear e2
  go_still_tail 29, (by kernel_rfl)
  change wpList _ _ _ _ _ W.drew
  have hb4 : Below W.heap.size W W.drew := (Below.refl _ _).drew
  have O1 := (⟨o0, o1, f0, f1⟩ : OpenAt W (w.heap.size + 1)).keep hb4 (by omega)
  have B1 : Below w.heap.size w W.drew := B0.drew
  have Z1 : w.heap.size + 1 < W.drew.heap.size := by simp; omega
  clear k0 k1 k2 k3 k4 o0 o1 f0 f1 B0 hb4
  generalize W.drew = w2 at *
  obtain ⟨o0, o1, f0, f1⟩ := O1
  go_wp2
  have hp := pair_set (u := .int .i64 (gx + (k : Int) % wide * size + size / 2)) (v := .int .i64 (gy + (k : Int) / wide * size + size / 2)) o0 o1
  obtain ⟨hp0, hp1⟩ := hp
  exact bodyPost_ret (v := .agg #[.int .i64 (midX gx size wide k), .int .i64 (midY gy size wide k)]) (by simp [results, Try.results83, go_sem, hp0, hp1, midX, midY]) rfl ⟨rfl, Below.setCell (Below.setCell B1 (by simp) _) (by simp) _⟩

set_option maxHeartbeats 3200000 in
theorem refMiddle_any (gx gy size wide high : Int) (k : Nat) (w : World) (hg : gridC gx gy size wide high = 0) (hk : (k : Int) < wide * high) :
    Calls Try.prog 84 #[.agg #[.int .i64 gx, .int .i64 gy, .int .i64 size, .int .i64 wide, .int .i64 high], .int .i64 (k : Int)] w fun e w' => e = .returned (.tuple #[.int .i64 (midX gx size wide k), .int .i64 (midY gy size wide k)]) ∧ Below w.heap.size w w' := by
  obtain ⟨⟨X1, X2⟩, ⟨Y1, Y2⟩, ⟨s1, s2⟩, ⟨v1, v2⟩, v3, v4⟩ := gridB_bd (gridC_zero.1 hg)
  have v6 := M.mul_bd (a := wide) (b := high) (A := 64) (B := 64) (by omega) v2 (by omega) v4
  obtain ⟨d1, d2⟩ := div_bd (k := k) (wide := wide) (high := high) (by omega) (by omega) hk
  have r1 : 0 ≤ (k : Int) % wide := Int.emod_nonneg _ (by omega)
  have r2 : (k : Int) % wide < wide := Int.emod_lt_of_pos _ (by omega)
  have p1 := M.mul_bd (a := (k : Int) % wide) (b := size) (A := 64) (B := 10000) r1 (by omega) (by omega) s2
  have p2 := M.mul_bd (a := (k : Int) / wide) (b := size) (A := 64) (B := 10000) d1 (by omega) (by omega) s2
  have q1 : (k : Int).tmod wide = k % wide := Int.tmod_eq_emod_of_nonneg (by omega)
  have q2 : (k : Int).tdiv wide = k / wide := Int.tdiv_eq_ediv_of_nonneg (by omega)
  have q3 : size.tdiv 2 = size / 2 := Int.tdiv_eq_ediv_of_nonneg (by omega)
  have i0 : IntKind.i64.wrap ((k : Int) % wide) = (k : Int) % wide := IntWalk.i64_in _ (by omega)
  have i1 : IntKind.i64.wrap ((k : Int) / wide) = (k : Int) / wide := IntWalk.i64_in _ (by omega)
  have i2 : IntKind.i64.wrap (size / 2) = size / 2 := IntWalk.i64_in _ (by omega)
  have i3 : IntKind.i64.wrap ((k : Int) % wide * size) = (k : Int) % wide * size := IntWalk.i64_in _ (by omega)
  have i4 : IntKind.i64.wrap ((k : Int) / wide * size) = (k : Int) / wide * size := IntWalk.i64_in _ (by omega)
  have i5 : IntKind.i64.wrap (gx + (k : Int) % wide * size) = gx + (k : Int) % wide * size := IntWalk.i64_in _ (by omega)
  have i6 : IntKind.i64.wrap (gy + (k : Int) / wide * size) = gy + (k : Int) / wide * size := IntWalk.i64_in _ (by omega)
  have i7 : IntKind.i64.wrap (gx + (k : Int) % wide * size + size / 2) = gx + (k : Int) % wide * size + size / 2 := IntWalk.i64_in _ (by omega)
  have i8 : IntKind.i64.wrap (gy + (k : Int) / wide * size + size / 2) = gy + (k : Int) / wide * size + size / 2 := IntWalk.i64_in _ (by omega)
  have z1 : (wide == 0) = false := by rw [beq_eq_false_iff_ne]; omega
  have z2 : wide ≠ 0 := by omega
  have z3 : ¬ wide = -1 := by omega
  clear hg hk
  go_enter Try.func84, Try.ntmps84
  go_wp2
  go_quiet (fail)
  go_wp2
  exact bodyPost_ret (v := .tuple #[.int .i64 (midX gx size wide k), .int .i64 (midY gy size wide k)]) (by simp [results, Try.results84, go_sem, midX, midY]) rfl ⟨rfl, by repeat (first | exact Below.refl _ _ | (refine below_drewN ?_ _) | (refine Below.alloc ?_ (by simp) _))⟩

end Go.Proofs.Ythnjfnapjpdchaa

namespace Go.Proofs.Ythnjfnapjpdchaa
set_option linter.unusedVariables false

/-- whether a thread has been hit before a gate -/
def seen (p : Nat → Nat → Bool) (k : Nat) : Nat → Bool
  | 0 => false
  | j + 1 => seen p k j || p k j
/-- whether a thread is hit first at a gate -/
def fst (p : Nat → Nat → Bool) (k j : Nat) : Bool := p k j && !(seen p k j)
/-- how many of the first numbers have a property -/
def cnt (q : Nat → Bool) : Nat → Nat
  | 0 => 0
  | n + 1 => cnt q n + (if q n = true then 1 else 0)

theorem cnt_le (q : Nat → Bool) : ∀ n, cnt q n ≤ n
  | 0 => Nat.le_refl _
  | n + 1 => by have := cnt_le q n; unfold cnt; split <;> omega
theorem cnt_yes {q : Nat → Bool} {n : Nat} (h : q n = true) : cnt q (n + 1) = cnt q n + 1 := by rw [cnt, if_pos h]
theorem cnt_no {q : Nat → Bool} {n : Nat} (h : q n = false) : cnt q (n + 1) = cnt q n := by rw [cnt, if_neg (by rw [h]; decide)]; rfl
theorem cnt_congr {q r : Nat → Bool} {n : Nat} (h : ∀ k, k < n → q k = r k) : cnt q n = cnt r n := by
  induction n with
  | zero => rfl
  | succ n ih => unfold cnt; rw [ih (fun k hk => h k (by omega)), h n (by omega)]
theorem cnt_mono {q r : Nat → Bool} {n : Nat} (h : ∀ k, k < n → q k = true → r k = true) : cnt q n ≤ cnt r n := by
  induction n with
  | zero => exact Nat.le_refl _
  | succ n ih =>
    unfold cnt
    have i := ih (fun k hk => h k (by omega))
    by_cases e : q n = true
    · rw [if_pos e, if_pos (h n (by omega) e)]; omega
    · rw [if_neg e]; split <;> omega

theorem seen_succ (p : Nat → Nat → Bool) (k j : Nat) : seen p k (j + 1) = (seen p k j || p k j) := rfl
theorem seen_later {p : Nat → Nat → Bool} {k i j : Nat} (h : seen p k i = true) (hij : i ≤ j) : seen p k j = true := by
  induction j with
  | zero => obtain rfl : i = 0 := by omega
            exact h
  | succ j ih =>
    by_cases e : i = j + 1
    · subst e; exact h
    · rw [seen_succ, ih (by omega)]; rfl
theorem seen_mono {p q : Nat → Nat → Bool} {k j : Nat} (h : ∀ i, i < j → p k i = true → q k i = true) (hs : seen p k j = true) : seen q k j = true := by
  induction j with
  | zero => exact hs
  | succ j ih =>
    rw [seen_succ, Bool.or_eq_true] at hs ⊢
    rcases hs with hs | hs
    · exact .inl (ih (fun i hi => h i (by omega)) hs)
    · exact .inr (h j (by omega) hs)
theorem seen_not {p : Nat → Nat → Bool} {k i j : Nat} (h : seen p k j = false) (hij : i < j) : p k i = false := by
  have h2 : seen p k (i + 1) = false := by
    cases e : seen p k (i + 1)
    · rfl
    · rw [seen_later e (by omega)] at h; cases h
  rw [seen_succ, Bool.or_eq_false_iff] at h2
  exact h2.2
theorem fst_not {p : Nat → Nat → Bool} {k i j : Nat} (h : seen p k j = false) (hij : i < j) : fst p k i = false := by
  unfold fst; rw [seen_not h hij]; rfl
theorem fst_after {p : Nat → Nat → Bool} {k i j : Nat} (h : seen p k j = true) (hij : j ≤ i) : fst p k i = false := by
  unfold fst; rw [seen_later h hij]; simp
theorem fst_here {p : Nat → Nat → Bool} {k j : Nat} (h : seen p k j = false) (h2 : p k j = true) : fst p k j = true := by
  unfold fst; rw [h, h2]; rfl

/-- hits so far are the hits before, and the first hits here -/
theorem cnt_seen (p : Nat → Nat → Bool) (T j : Nat) : cnt (fun k => seen p k (j + 1)) T = cnt (fun k => seen p k j) T + cnt (fun k => fst p k j) T := by
  induction T with
  | zero => rfl
  | succ T ih =>
    unfold cnt
    rw [ih]
    have e : seen p T (j + 1) = (seen p T j || p T j) := rfl
    unfold fst
    cases h1 : seen p T j <;> cases h2 : p T j <;> simp [e, h1, h2] <;> omega

end Go.Proofs.Ythnjfnapjpdchaa

namespace Go.Proofs.Ythnjfnapjpdchaa
open Go.RowKit
set_option linter.unusedVariables false

/-- a row of spans that may be written -/
structure SpRow (w : World) (b n : Nat) (L H : Nat → Int) : Prop where
  c0 : ∀ k, k < n → w.cell? ⟨b, k * 2, none⟩ = some (.int .i64 (L k))
  c1 : ∀ k, k < n → w.cell? ⟨b, k * 2 + 1, none⟩ = some (.int .i64 (H k))
  f0 : ∀ k, k < n → w.frozen? ⟨b, k * 2, none⟩ = false
  f1 : ∀ k, k < n → w.frozen? ⟨b, k * 2 + 1, none⟩ = false
theorem SpRow.keep {C b n : Nat} {W w1 : World} {L H : Nat → Int} (s : SpRow W b n L H) (hb : Below C W w1) (h : b < C) : SpRow w1 b n L H :=
  ⟨fun k hk => keepB hb h (s.c0 k hk), fun k hk => keepB hb h (s.c1 k hk), fun k hk => keepF hb h (s.f0 k hk), fun k hk => keepF hb h (s.f1 k hk)⟩
theorem SpRow.ext {b n : Nat} {W : World} {L H L2 H2 : Nat → Int} (s : SpRow W b n L H) (h : ∀ k, k < n → L2 k = L k) (h2 : ∀ k, k < n → H2 k = H k) : SpRow W b n L2 H2 :=
  ⟨fun k hk => by rw [h k hk]; exact s.c0 k hk, fun k hk => by rw [h2 k hk]; exact s.c1 k hk, s.f0, s.f1⟩
theorem cell_set {w : World} {b i k : Nat} {u v : Value} (h : w.cell? ⟨b, i, none⟩ = some v) : (w.setCell ⟨b, k, none⟩ u).cell? ⟨b, i, none⟩ = some (if i = k then u else v) := by
  by_cases e : i = k
  · subst e
    rw [if_pos rfl]
    exact World.cell?_setCell_same' _ _ _ (by rw [h]; rfl)
  · rw [if_neg e, World.cell?_setCell_other _ _ _ _ (fun h => e (by injection h with _ h3; exact h3.symm))]; exact h
theorem SpRow.setL {b n k : Nat} {W : World} {L H L2 : Nat → Int} {v : Int} (s : SpRow W b n L H) (h1 : L2 k = v) (h2 : ∀ i, i ≠ k → L2 i = L i) : SpRow (W.setCell ⟨b, k * 2, none⟩ (.int .i64 v)) b n L2 H := by
  refine ⟨fun i hi => ?_, fun i hi => ?_, fun i hi => by simp; exact s.f0 i hi, fun i hi => by simp; exact s.f1 i hi⟩
  · have h := cell_set (k := k * 2) (u := .int .i64 v) (s.c0 i hi)
    by_cases e : i = k
    · subst e; rw [if_pos rfl] at h; rw [h1]; exact h
    · rw [if_neg (by omega)] at h; rw [h2 i e]; exact h
  · have h := cell_set (k := k * 2) (u := .int .i64 v) (s.c1 i hi)
    rw [if_neg (by omega)] at h; exact h
theorem SpRow.setH {b n k : Nat} {W : World} {L H H2 : Nat → Int} {v : Int} (s : SpRow W b n L H) (h1 : H2 k = v) (h2 : ∀ i, i ≠ k → H2 i = H i) : SpRow (W.setCell ⟨b, k * 2 + 1, none⟩ (.int .i64 v)) b n L H2 := by
  refine ⟨fun i hi => ?_, fun i hi => ?_, fun i hi => by simp; exact s.f0 i hi, fun i hi => by simp; exact s.f1 i hi⟩
  · have h := cell_set (k := k * 2 + 1) (u := .int .i64 v) (s.c0 i hi)
    rw [if_neg (by omega)] at h; exact h
  · have h := cell_set (k := k * 2 + 1) (u := .int .i64 v) (s.c1 i hi)
    by_cases e : i = k
    · subst e; rw [if_pos rfl] at h; rw [h1]; exact h
    · rw [if_neg (by omega)] at h; rw [h2 i e]; exact h

theorem info43 : (Try.prog.info? 43).map (fun i => (i.zero, i.size, i.bytes)) = some (some (.agg #[.int .i64 0, .int .i64 0]), 2, 16) := by kernel_rfl
theorem make_spans (n : Nat) (h : n ≤ 1000000) (w : World) :
    (Instr.makeSlice 26 (.int .i64 (n : Int)) (.int .i64 (n : Int))).run Try.prog w = .ok (.slice (some ⟨w.heap.size, 0, none⟩) n n) (w.alloc (.cells (madeCells #[.int .i64 0, .int .i64 0] (n * 2)) 43)) := by
  obtain ⟨i, hi, hzz⟩ := Option.map_eq_some_iff.1 info43
  simp only [Prod.mk.injEq] at hzz
  obtain ⟨hz, hs, hb⟩ := hzz
  have hr := run_make (P := Try.prog) w 26 43 i _ Try.underlying26 hi hz .i64 .i64 n n (by omega) (Int.le_refl _) (by rw [hb]; omega) (by omega)
  simp only [Int.toNat_natCast, hs] at hr
  exact hr
theorem made2_get (n k : Nat) (h : k < n) : (madeCells #[.int .i64 0, .int .i64 0] n)[k]? = some (.int .i64 0) := by
  have h2 : k % 2 = 0 ∨ k % 2 = 1 := by omega
  rcases h2 with h2 | h2 <;> simp [madeCells, h, h2]
theorem SpRow.made (w : World) (n : Nat) : SpRow (w.alloc (.cells (madeCells #[.int .i64 0, .int .i64 0] (n * 2)) 43)) w.heap.size n (fun _ => 0) (fun _ => 0) :=
  ⟨fun k hk => alloc_new rfl (made2_get _ _ (by omega)), fun k hk => alloc_new rfl (made2_get _ _ (by omega)), fun k hk => alloc_newF rfl, fun k hk => alloc_newF rfl⟩

set_option maxRecDepth 100000 in
set_option maxHeartbeats 6400000 in
theorem sums_any (b n : Nat) (L H PL PH : Nat → Int) (w : World) (hn : n ≤ 1000) (hs : SpRow w b n L H) (hb : b < w.heap.size) (hL0 : 0 < n → PL 0 = L 0) (hH0 : 0 < n → PH 0 = H 0) (hLs : ∀ m, m + 1 < n → PL (m + 1) = L (m + 1) + PL m) (hHs : ∀ m, m + 1 < n → PH (m + 1) = H (m + 1) + PH m)
    (bd : ∀ m, m < n → (0 ≤ L m ∧ L m ≤ 100000) ∧ (0 ≤ H m ∧ H m ≤ 100000) ∧ (0 ≤ PL m ∧ PL m ≤ 100000) ∧ (0 ≤ PH m ∧ PH m ≤ 100000)) :
    Calls Try.prog 86 #[.slice (some ⟨b, 0, none⟩) n n] w fun e w' => e = .returned (.slice (some ⟨b, 0, none⟩) n n) ∧ SpRow w' b n PL PH ∧ b < w'.heap.size ∧ Below b w w' := by
  have HS := Lib.hid hs
  have HB := Lib.hid bd
  have HL0 := Lib.hid hL0
  have HH0 := Lib.hid hH0
  have HLS := Lib.hid hLs
  have HHS := Lib.hid hHs
  clear hs bd hL0 hH0 hLs hHs
  go_enter Try.func86, Try.ntmps86
  go_wp2
  go_loopw [3] (fun i wr => ∃ m : Nat, (m + 1 ≤ n ∨ (n = 0 ∧ m = 0)) ∧ i = .int .i64 ((m : Int) + 1) ∧ SpRow wr b n (fun k => if k ≤ m then PL k else L k) (fun k => if k ≤ m then PH k else H k) ∧ b < wr.heap.size ∧ Below b w wr) (fun i _ => n + 1 - (intOf i).toNat)
  case atStart =>
    refine ⟨0, by omega, by go_num, HS.out.ext (fun k hk => ?_) (fun k hk => ?_), hb, Below.refl _ _⟩
    · by_cases e : k ≤ 0
      · obtain rfl : k = 0 := by omega
        rw [if_pos e, HL0.out hk]
      · rw [if_neg e]
    · by_cases e : k ≤ 0
      · obtain rfl : k = 0 := by omega
        rw [if_pos e, HH0.out hk]
      · rw [if_neg e]
  case round =>
    obtain ⟨m, hm, rfl, hrow, hb2, hbw⟩ := hrel
    by_cases hlt : m + 1 < n
    · have c0 := hrow.c0 (m + 1) hlt
      have d0 := hrow.c0 m (by omega)
      have c1 := hrow.c1 (m + 1) hlt
      have d1 := hrow.c1 m (by omega)
      have u0 := hrow.f0 (m + 1) hlt
      have u1 := hrow.f1 (m + 1) hlt
      obtain ⟨⟨l1, l2⟩, ⟨h1, h2⟩, ⟨p1, p2⟩, r1, r2⟩ := HB.out (m + 1) hlt
      obtain ⟨_, _, ⟨p3, p4⟩, r3, r4⟩ := HB.out m (by omega)
      rw [if_neg (by omega)] at c0 c1
      rw [if_pos (Nat.le_refl _)] at d0 d1
      have i1 : IntKind.i64.wrap (L (m + 1) + PL m) = L (m + 1) + PL m := IntWalk.i64_in _ (by omega)
      have i2 : IntKind.i64.wrap (H (m + 1) + PH m) = H (m + 1) + PH m := IntWalk.i64_in _ (by omega)
      have i3 : IntKind.i64.wrap (m : Int) = (m : Int) := IntWalk.i64_in _ (by omega)
      have q0 : (0 : Int) ≤ (m : Int) := by omega
      have q1 : (m : Int) < (n : Int) := by omega
      have q2 : (0 : Int) ≤ (m : Int) + 1 := by omega
      have q3 : (m : Int) + 1 < (n : Int) := by omega
      have HR := Lib.hid hrow
      clear hrow
      go_wp2
      go_still_tail 14, (by kernel_rfl)
      change wpList _ _ _ _ _ wr.drew
      have R1 := HR.out.keep (Below.refl (b + 1) wr).drew (by omega)
      have B1 : Below b w wr.drew := hbw.drew
      have Z1 : b < wr.drew.heap.size := by simp; omega
      clear c0 d0 c1 d1 u0 u1 hbw HR
      generalize wr.drew = w2 at *
      have c0 := R1.c0 (m + 1) hlt
      have c1 := R1.c1 (m + 1) hlt
      have d1 := R1.c1 m (by omega)
      have u0 := R1.f0 (m + 1) hlt
      have u1 := R1.f1 (m + 1) hlt
      rw [if_neg (by omega)] at c1
      rw [if_pos (Nat.le_refl _)] at d1
      have R2 := Lib.hid (show SpRow (w2.setCell ⟨b, (m + 1) * 2, none⟩ (.int .i64 (L (m + 1) + PL m))) b n (fun k => if k ≤ m + 1 then PL k else L k) (fun k => if k ≤ m then PH k else H k) from R1.setL (by rw [if_pos (Nat.le_refl _)]; exact HLS.out m hlt) (fun i hi => by
        by_cases e : i ≤ m
        · rw [if_pos e, if_pos (by omega)]
        · rw [if_neg e, if_neg (by omega)]))
      clear R1
      go_wp2
      have B2 : Below b w (w2.setCell ⟨b, (m + 1) * 2, none⟩ (.int .i64 (L (m + 1) + PL m))) := B1.setCell (p := ⟨b, (m + 1) * 2, none⟩) (Nat.le_refl _) _
      have Z2 : b < (w2.setCell ⟨b, (m + 1) * 2, none⟩ (.int .i64 (L (m + 1) + PL m))).heap.size := by simp; omega
      clear c0 c1 d1 u0 u1 B1 Z1
      generalize (w2.setCell ⟨b, (m + 1) * 2, none⟩ (.int .i64 (L (m + 1) + PL m))) = w3 at *
      have c1 := R2.out.c1 (m + 1) hlt
      have d1 := R2.out.c1 m (by omega)
      have u1 := R2.out.f1 (m + 1) hlt
      rw [if_neg (by omega)] at c1
      rw [if_pos (Nat.le_refl _)] at d1
      go_still_tail 14, (by kernel_rfl)
      change wpList _ _ _ _ _ w3.drew
      have R3 := R2.out.keep (Below.refl (b + 1) w3).drew (by omega)
      have B3 : Below b w w3.drew := B2.drew
      have Z3 : b < w3.drew.heap.size := by simp; omega
      clear c1 d1 u1 B2 R2
      generalize w3.drew = w4 at *
      have c1 := R3.c1 (m + 1) hlt
      have u1 := R3.f1 (m + 1) hlt
      rw [if_neg (by omega)] at c1
      have R4 := Lib.hid (show SpRow (w4.setCell ⟨b, (m + 1) * 2 + 1, none⟩ (.int .i64 (H (m + 1) + PH m))) b n (fun k => if k ≤ m + 1 then PL k else L k) (fun k => if k ≤ m + 1 then PH k else H k) from R3.setH (by rw [if_pos (Nat.le_refl _)]; exact HHS.out m hlt) (fun i hi => by
        by_cases e : i ≤ m
        · rw [if_pos e, if_pos (by omega)]
        · rw [if_neg e, if_neg (by omega)]))
      clear R3
      go_wp2
      go_roundw
      case rel => exact ⟨m + 1, by omega, by go_num, R4.out, by simp; omega, B3.setCell (p := ⟨b, (m + 1) * 2 + 1, none⟩) (Nat.le_refl _) _⟩
      case measure => simp [intOf]; omega
    · go_wp2
      go_ret
      exact ⟨rfl, hrow.ext (fun k hk => by rw [if_pos (by omega)]) (fun k hk => by rw [if_pos (by omega)]), hb2, hbw⟩

end Go.Proofs.Ythnjfnapjpdchaa
