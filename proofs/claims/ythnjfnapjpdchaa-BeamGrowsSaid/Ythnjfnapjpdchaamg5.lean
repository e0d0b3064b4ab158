/-
  Counts of threads: first hits, hits so far, and their sums.
-/
import Derived.StillTailTactics
import Derived.Deep.OwnRows
import Derived.Deep.Cut
import Derived.Test.Ythnjfnapjpdchaamg4
import Derived.Test.Ythnjfnapjpdchaamg3
import Derived.Test.Ythnjfnapjpdchaamg2
namespace Go.Proofs.Ythnjfnapjpdchaa
set_option linter.unusedVariables false

/-- whether a thread has been hit before a gate -/
def seen (p : Nat → Nat → Bool) (k : Nat) : Nat → Bool
  | 0 => false
  | j + 1 => seen p k j || p k j
/-- whether a thread is hit first at a gate -/
def fst (p : Nat → Nat → Bool) (k j : Nat) : Bool := p k j && !(seen p k j)
/-- how many of the first numbers have a property -/
def cnt (q : Nat → Bool) : Nat → Nat
  | 0 => 0
  | n + 1 => cnt q n + (if q n = true then 1 else 0)

theorem cnt_le (q : Nat → Bool) : ∀ n, cnt q n ≤ n
  | 0 => Nat.le_refl _
  | n + 1 => by have := cnt_le q n; unfold cnt; split <;> omega
theorem cnt_yes {q : Nat → Bool} {n : Nat} (h : q n = true) : cnt q (n + 1) = cnt q n + 1 := by rw [cnt, if_pos h]
theorem cnt_no {q : Nat → Bool} {n : Nat} (h : q n = false) : cnt q (n + 1) = cnt q n := by rw [cnt, if_neg (by rw [h]; decide)]; rfl
theorem cnt_congr {q r : Nat → Bool} {n : Nat} (h : ∀ k, k < n → q k = r k) : cnt q n = cnt r n := by
  induction n with
  | zero => rfl
  | succ n ih => unfold cnt; rw [ih (fun k hk => h k (by omega)), h n (by omega)]
theorem cnt_mono {q r : Nat → Bool} {n : Nat} (h : ∀ k, k < n → q k = true → r k = true) : cnt q n ≤ cnt r n := by
  induction n with
  | zero => exact Nat.le_refl _
  | succ n ih =>
    unfold cnt
    have i := ih (fun k hk => h k (by omega))
    by_cases e : q n = true
    · rw [if_pos e, if_pos (h n (by omega) e)]; omega
    · rw [if_neg e]; split <;> omega

theorem seen_succ (p : Nat → Nat → Bool) (k j : Nat) : seen p k (j + 1) = (seen p k j || p k j) := rfl
theorem seen_later {p : Nat → Nat → Bool} {k i j : Nat} (h : seen p k i = true) (hij : i ≤ j) : seen p k j = true := by
  induction j with
  | zero => obtain rfl : i = 0 := by omega
            exact h
  | succ j ih =>
    by_cases e : i = j + 1
    · subst e; exact h
    · rw [seen_succ, ih (by omega)]; rfl
theorem seen_mono {p q : Nat → Nat → Bool} {k j : Nat} (h : ∀ i, i < j → p k i = true → q k i = true) (hs : seen p k j = true) : seen q k j = true := by
  induction j with
  | zero => exact hs
  | succ j ih =>
    rw [seen_succ, Bool.or_eq_true] at hs ⊢
    rcases hs with hs | hs
    · exact .inl (ih (fun i hi => h i (by omega)) hs)
    · exact .inr (h j (by omega) hs)
theorem seen_not {p : Nat → Nat → Bool} {k i j : Nat} (h : seen p k j = false) (hij : i < j) : p k i = false := by
  have h2 : seen p k (i + 1) = false := by
    cases e : seen p k (i + 1)
    · rfl
    · rw [seen_later e (by omega)] at h; cases h
  rw [seen_succ, Bool.or_eq_false_iff] at h2
  exact h2.2
theorem fst_not {p : Nat → Nat → Bool} {k i j : Nat} (h : seen p k j = false) (hij : i < j) : fst p k i = false := by
  unfold fst; rw [seen_not h hij]; rfl
theorem fst_after {p : Nat → Nat → Bool} {k i j : Nat} (h : seen p k j = true) (hij : j ≤ i) : fst p k i = false := by
  unfold fst; rw [seen_later h hij]; simp
theorem fst_here {p : Nat → Nat → Bool} {k j : Nat} (h : seen p k j = false) (h2 : p k j = true) : fst p k j = true := by
  unfold fst; rw [h, h2]; rfl

/-- hits so far are the hits before, and the first hits here -/
theorem cnt_seen (p : Nat → Nat → Bool) (T j : Nat) : cnt (fun k => seen p k (j + 1)) T = cnt (fun k => seen p k j) T + cnt (fun k => fst p k j) T := by
  induction T with
  | zero => rfl
  | succ T ih =>
    unfold cnt
    rw [ih]
    have e : seen p T (j + 1) = (seen p T j || p T j) := rfl
    unfold fst
    cases h1 : seen p T j <;> cases h2 : p T j <;> simp [e, h1, h2] <;> omega

end Go.Proofs.Ythnjfnapjpdchaa

namespace Go.Proofs.Ythnjfnapjpdchaa
open Go.RowKit
set_option linter.unusedVariables false

/-- a row of spans that may be written -/
structure SpRow (w : World) (b n : Nat) (L H : Nat → Int) : Prop where
  c0 : ∀ k, k < n → w.cell? ⟨b, k * 2, none⟩ = some (.int .i64 (L k))
  c1 : ∀ k, k < n → w.cell? ⟨b, k * 2 + 1, none⟩ = some (.int .i64 (H k))
  f0 : ∀ k, k < n → w.frozen? ⟨b, k * 2, none⟩ = false
  f1 : ∀ k, k < n → w.frozen? ⟨b, k * 2 + 1, none⟩ = false
theorem SpRow.keep {C b n : Nat} {W w1 : World} {L H : Nat → Int} (s : SpRow W b n L H) (hb : Below C W w1) (h : b < C) : SpRow w1 b n L H :=
  ⟨fun k hk => keepB hb h (s.c0 k hk), fun k hk => keepB hb h (s.c1 k hk), fun k hk => keepF hb h (s.f0 k hk), fun k hk => keepF hb h (s.f1 k hk)⟩
theorem SpRow.ext {b n : Nat} {W : World} {L H L2 H2 : Nat → Int} (s : SpRow W b n L H) (h : ∀ k, k < n → L2 k = L k) (h2 : ∀ k, k < n → H2 k = H k) : SpRow W b n L2 H2 :=
  ⟨fun k hk => by rw [h k hk]; exact s.c0 k hk, fun k hk => by rw [h2 k hk]; exact s.c1 k hk, s.f0, s.f1⟩
theorem cell_set {w : World} {b i k : Nat} {u v : Value} (h : w.cell? ⟨b, i, none⟩ = some v) : (w.setCell ⟨b, k, none⟩ u).cell? ⟨b, i, none⟩ = some (if i = k then u else v) := by
  by_cases e : i = k
  · subst e
    rw [if_pos rfl]
    exact World.cell?_setCell_same' _ _ _ (by rw [h]; rfl)
  · rw [if_neg e, World.cell?_setCell_other _ _ _ _ (fun h => e (by injection h with _ h3; exact h3.symm))]; exact h
theorem SpRow.setL {b n k : Nat} {W : World} {L H L2 : Nat → Int} {v : Int} (s : SpRow W b n L H) (h1 : L2 k = v) (h2 : ∀ i, i ≠ k → L2 i = L i) : SpRow (W.setCell ⟨b, k * 2, none⟩ (.int .i64 v)) b n L2 H := by
  refine ⟨fun i hi => ?_, fun i hi => ?_, fun i hi => by simp; exact s.f0 i hi, fun i hi => by simp; exact s.f1 i hi⟩
  · have h := cell_set (k := k * 2) (u := .int .i64 v) (s.c0 i hi)
    by_cases e : i = k
    · subst e; rw [if_pos rfl] at h; rw [h1]; exact h
    · rw [if_neg (by omega)] at h; rw [h2 i e]; exact h
  · have h := cell_set (k := k * 2) (u := .int .i64 v) (s.c1 i hi)
    rw [if_neg (by omega)] at h; exact h
theorem SpRow.setH {b n k : Nat} {W : World} {L H H2 : Nat → Int} {v : Int} (s : SpRow W b n L H) (h1 : H2 k = v) (h2 : ∀ i, i ≠ k → H2 i = H i) : SpRow (W.setCell ⟨b, k * 2 + 1, none⟩ (.int .i64 v)) b n L H2 := by
  refine ⟨fun i hi => ?_, fun i hi => ?_, fun i hi => by simp; exact s.f0 i hi, fun i hi => by simp; exact s.f1 i hi⟩
  · have h := cell_set (k := k * 2 + 1) (u := .int .i64 v) (s.c0 i hi)
    rw [if_neg (by omega)] at h; exact h
  · have h := cell_set (k := k * 2 + 1) (u := .int .i64 v) (s.c1 i hi)
    by_cases e : i = k
    · subst e; rw [if_pos rfl] at h; rw [h1]; exact h
    · rw [if_neg (by omega)] at h; rw [h2 i e]; exact h

theorem info43 : (Try.prog.info? 43).map (fun i => (i.zero, i.size, i.bytes)) = some (some (.agg #[.int .i64 0, .int .i64 0]), 2, 16) := by kernel_rfl
theorem make_spans (n : Nat) (h : n ≤ 1000000) (w : World) :
    (Instr.makeSlice 26 (.int .i64 (n : Int)) (.int .i64 (n : Int))).run Try.prog w = .ok (.slice (some ⟨w.heap.size, 0, none⟩) n n) (w.alloc (.cells (madeCells #[.int .i64 0, .int .i64 0] (n * 2)) 43)) := by
  obtain ⟨i, hi, hzz⟩ := Option.map_eq_some_iff.1 info43
  simp only [Prod.mk.injEq] at hzz
  obtain ⟨hz, hs, hb⟩ := hzz
  have hr := run_make (P := Try.prog) w 26 43 i _ Try.underlying26 hi hz .i64 .i64 n n (by omega) (Int.le_refl _) (by rw [hb]; omega) (by omega)
  simp only [Int.toNat_natCast, hs] at hr
  exact hr
theorem made2_get (n k : Nat) (h : k < n) : (madeCells #[.int .i64 0, .int .i64 0] n)[k]? = some (.int .i64 0) := by
  have h2 : k % 2 = 0 ∨ k % 2 = 1 := by omega
  rcases h2 with h2 | h2 <;> simp [madeCells, h, h2]
theorem SpRow.made (w : World) (n : Nat) : SpRow (w.alloc (.cells (madeCells #[.int .i64 0, .int .i64 0] (n * 2)) 43)) w.heap.size n (fun _ => 0) (fun _ => 0) :=
  ⟨fun k hk => alloc_new rfl (made2_get _ _ (by omega)), fun k hk => alloc_new rfl (made2_get _ _ (by omega)), fun k hk => alloc_newF rfl, fun k hk => alloc_newF rfl⟩

set_option maxRecDepth 100000 in
set_option maxHeartbeats 6400000 in
theorem sums_any (b n : Nat) (L H PL PH : Nat → Int) (w : World) (hn : n ≤ 1000) (hs : SpRow w b n L H) (hb : b < w.heap.size) (hL0 : 0 < n → PL 0 = L 0) (hH0 : 0 < n → PH 0 = H 0) (hLs : ∀ m, m + 1 < n → PL (m + 1) = L (m + 1) + PL m) (hHs : ∀ m, m + 1 < n → PH (m + 1) = H (m + 1) + PH m)
    (bd : ∀ m, m < n → (0 ≤ L m ∧ L m ≤ 100000) ∧ (0 ≤ H m ∧ H m ≤ 100000) ∧ (0 ≤ PL m ∧ PL m ≤ 100000) ∧ (0 ≤ PH m ∧ PH m ≤ 100000)) :
    Calls Try.prog 86 #[.slice (some ⟨b, 0, none⟩) n n] w fun e w' => e = .returned (.slice (some ⟨b, 0, none⟩) n n) ∧ SpRow w' b n PL PH ∧ b < w'.heap.size ∧ Below b w w' := by
  have HS := Lib.hid hs
  have HB := Lib.hid bd
  have HL0 := Lib.hid hL0
  have HH0 := Lib.hid hH0
  have HLS := Lib.hid hLs
  have HHS := Lib.hid hHs
  clear hs bd hL0 hH0 hLs hHs
  go_enter Try.func86, Try.ntmps86
  go_wp2
  go_loopw [3] (fun i wr => ∃ m : Nat, (m + 1 ≤ n ∨ (n = 0 ∧ m = 0)) ∧ i = .int .i64 ((m : Int) + 1) ∧ SpRow wr b n (fun k => if k ≤ m then PL k else L k) (fun k => if k ≤ m then PH k else H k) ∧ b < wr.heap.size ∧ Below b w wr) (fun i _ => n + 1 - (intOf i).toNat)
  case atStart =>
    refine ⟨0, by omega, by go_num, HS.out.ext (fun k hk => ?_) (fun k hk => ?_), hb, Below.refl _ _⟩
    · by_cases e : k ≤ 0
      · obtain rfl : k = 0 := by omega
        rw [if_pos e, HL0.out hk]
      · rw [if_neg e]
    · by_cases e : k ≤ 0
      · obtain rfl : k = 0 := by omega
        rw [if_pos e, HH0.out hk]
      · rw [if_neg e]
  case round =>
    obtain ⟨m, hm, rfl, hrow, hb2, hbw⟩ := hrel
    by_cases hlt : m + 1 < n
    · have c0 := hrow.c0 (m + 1) hlt
      have d0 := hrow.c0 m (by omega)
      have c1 := hrow.c1 (m + 1) hlt
      have d1 := hrow.c1 m (by omega)
      have u0 := hrow.f0 (m + 1) hlt
      have u1 := hrow.f1 (m + 1) hlt
      obtain ⟨⟨l1, l2⟩, ⟨h1, h2⟩, ⟨p1, p2⟩, r1, r2⟩ := HB.out (m + 1) hlt
      obtain ⟨_, _, ⟨p3, p4⟩, r3, r4⟩ := HB.out m (by omega)
      rw [if_neg (by omega)] at c0 c1
      rw [if_pos (Nat.le_refl _)] at d0 d1
      have i1 : IntKind.i64.wrap (L (m + 1) + PL m) = L (m + 1) + PL m := IntWalk.i64_in _ (by omega)
      have i2 : IntKind.i64.wrap (H (m + 1) + PH m) = H (m + 1) + PH m := IntWalk.i64_in _ (by omega)
      have i3 : IntKind.i64.wrap (m : Int) = (m : Int) := IntWalk.i64_in _ (by omega)
      have q0 : (0 : Int) ≤ (m : Int) := by omega
      have q1 : (m : Int) < (n : Int) := by omega
      have q2 : (0 : Int) ≤ (m : Int) + 1 := by omega
      have q3 : (m : Int) + 1 < (n : Int) := by omega
      have HR := Lib.hid hrow
      clear hrow
      go_wp2
      go_still_tail 14, (by kernel_rfl)
      change wpList _ _ _ _ _ wr.drew
      have R1 := HR.out.keep (Below.refl (b + 1) wr).drew (by omega)
      have B1 : Below b w wr.drew := hbw.drew
      have Z1 : b < wr.drew.heap.size := by simp; omega
      clear c0 d0 c1 d1 u0 u1 hbw HR
      generalize wr.drew = w2 at *
      have c0 := R1.c0 (m + 1) hlt
      have c1 := R1.c1 (m + 1) hlt
      have d1 := R1.c1 m (by omega)
      have u0 := R1.f0 (m + 1) hlt
      have u1 := R1.f1 (m + 1) hlt
      rw [if_neg (by omega)] at c1
      rw [if_pos (Nat.le_refl _)] at d1
      have R2 := Lib.hid (show SpRow (w2.setCell ⟨b, (m + 1) * 2, none⟩ (.int .i64 (L (m + 1) + PL m))) b n (fun k => if k ≤ m + 1 then PL k else L k) (fun k => if k ≤ m then PH k else H k) from R1.setL (by rw [if_pos (Nat.le_refl _)]; exact HLS.out m hlt) (fun i hi => by
        by_cases e : i ≤ m
        · rw [if_pos e, if_pos (by omega)]
        · rw [if_neg e, if_neg (by omega)]))
      clear R1
      go_wp2
      have B2 : Below b w (w2.setCell ⟨b, (m + 1) * 2, none⟩ (.int .i64 (L (m + 1) + PL m))) := B1.setCell (p := ⟨b, (m + 1) * 2, none⟩) (Nat.le_refl _) _
      have Z2 : b < (w2.setCell ⟨b, (m + 1) * 2, none⟩ (.int .i64 (L (m + 1) + PL m))).heap.size := by simp; omega
      clear c0 c1 d1 u0 u1 B1 Z1
      generalize (w2.setCell ⟨b, (m + 1) * 2, none⟩ (.int .i64 (L (m + 1) + PL m))) = w3 at *
      have c1 := R2.out.c1 (m + 1) hlt
      have d1 := R2.out.c1 m (by omega)
      have u1 := R2.out.f1 (m + 1) hlt
      rw [if_neg (by omega)] at c1
      rw [if_pos (Nat.le_refl _)] at d1
      go_still_tail 14, (by kernel_rfl)
      change wpList _ _ _ _ _ w3.drew
      have R3 := R2.out.keep (Below.refl (b + 1) w3).drew (by omega)
      have B3 : Below b w w3.drew := B2.drew
      have Z3 : b < w3.drew.heap.size := by simp; omega
      clear c1 d1 u1 B2 R2
      generalize w3.drew = w4 at *
      have c1 := R3.c1 (m + 1) hlt
      have u1 := R3.f1 (m + 1) hlt
      rw [if_neg (by omega)] at c1
      have R4 := Lib.hid (show SpRow (w4.setCell ⟨b, (m + 1) * 2 + 1, none⟩ (.int .i64 (H (m + 1) + PH m))) b n (fun k => if k ≤ m + 1 then PL k else L k) (fun k => if k ≤ m + 1 then PH k else H k) from R3.setH (by rw [if_pos (Nat.le_refl _)]; exact HHS.out m hlt) (fun i hi => by
        by_cases e : i ≤ m
        · rw [if_pos e, if_pos (by omega)]
        · rw [if_neg e, if_neg (by omega)]))
      clear R3
      go_wp2
      go_roundw
      case rel => exact ⟨m + 1, by omega, by go_num, R4.out, by simp; omega, B3.setCell (p := ⟨b, (m + 1) * 2 + 1, none⟩) (Nat.le_refl _) _⟩
      case measure => simp [intOf]; omega
    · go_wp2
      go_ret
      exact ⟨rfl, hrow.ext (fun k hk => by rw [if_pos (by omega)]) (fun k hk => by rw [if_pos (by omega)]), hb2, hbw⟩

end Go.Proofs.Ythnjfnapjpdchaa

namespace Go.Proofs.Ythnjfnapjpdchaa
open Go.RowKit
set_option linter.unusedVariables false

def hiAt (q : Nat → Nat → Bool) (k j i : Nat) : Int := (cnt (fun k' => fst q k' i) k : Int) + (if i < j ∧ fst q k i = true then 1 else 0)
theorem hiAt_zero (q : Nat → Nat → Bool) (k i : Nat) : hiAt q k 0 i = (cnt (fun k' => fst q k' i) k : Int) := by unfold hiAt; rw [if_neg (by omega)]; omega
theorem hiAt_same {q : Nat → Nat → Bool} {k j : Nat} (h : fst q k j = false) (i : Nat) : hiAt q k (j + 1) i = hiAt q k j i := by
  unfold hiAt
  by_cases e : i = j
  · subst e; rw [if_neg (by rw [h]; simp), if_neg (by omega)]
  · by_cases e2 : i < j ∧ fst q k i = true
    · rw [if_pos e2, if_pos ⟨by omega, e2.2⟩]
    · rw [if_neg e2, if_neg (fun h2 => e2 ⟨by omega, h2.2⟩)]
theorem hiAt_inc {q : Nat → Nat → Bool} {k j : Nat} (h : fst q k j = true) : hiAt q k (j + 1) j = hiAt q k j j + 1 := by
  unfold hiAt
  rw [if_pos ⟨by omega, h⟩, if_neg (by omega)]; omega
theorem hiAt_other {q : Nat → Nat → Bool} {k j i : Nat} (hi : i ≠ j) : hiAt q k (j + 1) i = hiAt q k j i := by
  unfold hiAt
  by_cases e2 : i < j ∧ fst q k i = true
  · rw [if_pos e2, if_pos ⟨by omega, e2.2⟩]
  · rw [if_neg e2, if_neg (fun h2 => e2 ⟨by omega, h2.2⟩)]
theorem hiAt_done {q : Nat → Nat → Bool} {k j i : Nat} (h : j ≤ i → fst q k i = false) : (cnt (fun k' => fst q k' i) (k + 1) : Int) = hiAt q k j i := by
  unfold hiAt
  by_cases e : fst q k i = true
  · by_cases e2 : i < j
    · rw [if_pos ⟨e2, e⟩, cnt_yes (q := fun k' => fst q k' i) e]; omega
    · rw [h (by omega)] at e; cases e
  · rw [if_neg (fun h2 => e h2.2), cnt_no (q := fun k' => fst q k' i) (by simpa using e)]; omega
theorem hiAt_bd (q : Nat → Nat → Bool) (k j i : Nat) : 0 ≤ hiAt q k j i ∧ hiAt q k j i ≤ k + 1 := by
  unfold hiAt
  have := cnt_le (fun k' => fst q k' i) k
  split <;> omega

structure MRel (w wr : World) (g : Nat) (lo hi : Int) (nm : ByteArray) (x y z rose gates step width : Int) (L H : Nat → Int) : Prop where
  s : SiteAt wr w.heap.size nm x y z rose gates step width
  p : PairAt wr (w.heap.size + 1) (.int .i64 lo) (.int .i64 hi)
  r : SpRow wr (w.heap.size + 1 + 1) g L H
  z : w.heap.size + 3 ≤ wr.heap.size
  b : Below w.heap.size w wr
theorem MRel.keep {w W w1 : World} {B g : Nat} {lo hi : Int} {nm : ByteArray} {x y z rose gates step width : Int} {L H : Nat → Int} (t : MRel w W g lo hi nm x y z rose gates step width L H) (hb : Below B W w1) (h : w.heap.size + 3 ≤ B) : MRel w w1 g lo hi nm x y z rose gates step width L H :=
  ⟨t.s.keep hb (by omega), t.p.keep hb (by omega), t.r.keep hb (by omega), Nat.le_trans t.z hb.size, t.b.trans (hb.mono (by omega))⟩

theorem MRel.new (w : World) (g : Nat) (lo hi : Int) (nm : ByteArray) (x y z rose gates step width : Int) : MRel w (((w.alloc (.cells #[.string nm, .int .i64 x, .int .i64 y, .int .i64 z, .int .i64 rose, .int .i64 gates, .int .i64 step, .int .i64 width] 23)).alloc (.cells #[.int .i64 lo, .int .i64 hi] 43)).alloc (.cells (madeCells #[.int .i64 0, .int .i64 0] (g * 2)) 43)) g lo hi nm x y z rose gates step width (fun _ => 0) (fun _ => 0) := by
  have a1 : (w.alloc (.cells #[.string nm, .int .i64 x, .int .i64 y, .int .i64 z, .int .i64 rose, .int .i64 gates, .int .i64 step, .int .i64 width] 23)).heap.size = w.heap.size + 1 := World.size_alloc _ _
  have a2 : ((w.alloc (.cells #[.string nm, .int .i64 x, .int .i64 y, .int .i64 z, .int .i64 rose, .int .i64 gates, .int .i64 step, .int .i64 width] 23)).alloc (.cells #[.int .i64 lo, .int .i64 hi] 43)).heap.size = w.heap.size + 1 + 1 := by rw [World.size_alloc, a1]
  have A := SiteAt.new w nm x y z rose gates step width
  have P := PairAt.new (w.alloc (.cells #[.string nm, .int .i64 x, .int .i64 y, .int .i64 z, .int .i64 rose, .int .i64 gates, .int .i64 step, .int .i64 width] 23)) (.int .i64 lo) (.int .i64 hi) 43
  rw [a1] at P
  have R := SpRow.made ((w.alloc (.cells #[.string nm, .int .i64 x, .int .i64 y, .int .i64 z, .int .i64 rose, .int .i64 gates, .int .i64 step, .int .i64 width] 23)).alloc (.cells #[.int .i64 lo, .int .i64 hi] 43)) g
  rw [a2] at R
  exact ⟨(A.keep (below_alloc _ _) (by omega)).keep (below_alloc _ _) (by omega), P.keep (below_alloc _ _) (by omega), R, by simp, Below.trans (Below.trans (below_alloc _ _) ((below_alloc _ _).mono (by omega))) ((below_alloc _ _).mono (by omega))⟩

/-- what met returns -/
def MetRet (g T : Nat) (p q : Nat → Nat → Bool) (w : World) (e : Ending) (w' : World) : Prop :=
  ∃ b : Nat, e = .returned (.slice (some ⟨b, 0, none⟩) g g) ∧ SpRow w' b g (fun i => (cnt (fun k => fst p k i) T : Int)) (fun i => (cnt (fun k => fst q k i) T : Int)) ∧ w.heap.size ≤ b ∧ b < w'.heap.size ∧ Below w.heap.size w w'

set_option maxRecDepth 100000 in
set_option maxHeartbeats 12800000 in
theorem met_any (nm : ByteArray) (x y z rose gates step width t lo hi : Int) (g gb T : Nat) (GL GH : Nat → Int) (p q : Nat → Nat → Bool) (w : World) (hT : (T : Int) = 2 * width + 1) (d1 : 0 ≤ width) (d2 : width ≤ 8) (t1 : 0 ≤ t) (t2 : t ≤ 256) (s1 : 50 ≤ step) (s2 : step ≤ 2000) (z1 : 0 ≤ z) (z2 : z ≤ 20000) (e1 : 1000000 ≤ lo) (e2 : lo ≤ 100000000) (e3 : 1000000 ≤ hi) (e4 : hi ≤ 100000000) (hg : g ≤ 200) (hs : SpRow w gb g GL GH) (hgb : gb < w.heap.size)
    (hp : ∀ k j, p k j = decide (climbHi z step (t - width + k) j lo ≤ GL j)) (hq : ∀ k j, q k j = decide (climbLo z step (t - width + k) j hi ≤ GH j)) (hpq : ∀ k j, k < T → j < g → p k j = true → q k j = true) :
    Calls Try.prog 87 #[.agg #[.string nm, .int .i64 x, .int .i64 y, .int .i64 z, .int .i64 rose, .int .i64 gates, .int .i64 step, .int .i64 width], .int .i64 t, .agg #[.int .i64 lo, .int .i64 hi], .slice (some ⟨gb, 0, none⟩) g g] w (MetRet g T p q w) := by
  have HS := Lib.hid hs
  have HP := Lib.hid hp
  have HQ := Lib.hid hq
  have HPQ := Lib.hid hpq
  have HT := Lib.hid hT
  have hmk := fun wx : World => make_spans g (by omega) wx
  have j1 : IntKind.i64.wrap (t - width) = t - width := IntWalk.i64_in _ (by omega)
  have j2 : IntKind.i64.wrap (t + width) = t + width := IntWalk.i64_in _ (by omega)
  clear hs hp hq hpq
  go_enter Try.func87, Try.ntmps87
  go_wp2
  go_step3
  go_wp2
  go_step3
  go_wp2
  go_loopw [10] (fun v wr => ∃ k : Nat, k ≤ T ∧ v = .int .i64 (t - width + k) ∧ MRel w wr g lo hi nm x y z rose gates step width (fun i => (cnt (fun k' => fst p k' i) k : Int)) (fun i => (cnt (fun k' => fst q k' i) k : Int))) (fun v _ => (t + width + 1 - intOf v).toNat)
  case atStart =>
    refine ⟨0, Nat.zero_le _, by go_num, ?_⟩
    have m := MRel.new w g lo hi nm x y z rose gates step width
    exact ⟨m.s, m.p, m.r.ext (fun k hk => by rfl) (fun k hk => by rfl), m.z, m.b⟩
  case round =>
    obtain ⟨k, hk, rfl, hmr⟩ := hrel
    have hTT := HT.out
    have j3 : IntKind.i64.wrap (t - width + (k : Int) + 1) = t - width + (k : Int) + 1 := IntWalk.i64_in _ (by omega)
    have HM := Lib.hid hmr
    obtain ⟨⟨k0, k1, k2, k3, k4, k5, k6, k7⟩, ⟨p0, p1⟩, hrow, hz, hbw⟩ := hmr
    have y0 : w.heap.size < wr.heap.size := by omega
    have y1 : w.heap.size + 1 < wr.heap.size := by omega
    by_cases hkT : k + 1 ≤ T
    · have hcc : decide (t - width + (k : Int) ≤ t + width) = true := decide_eq_true (by omega)
      clear hrow
      go_wp2
      clear k0 k1 k2 k3 k4 k5 k6 k7 p0 p1
      go_loopw [11, 32] (fun d i wr2 => ∃ j : Nat, j ≤ g ∧ i = .int .i64 j ∧ d = .bool (seen q k j) ∧ seen p k j = false ∧ MRel w wr2 g lo hi nm x y z rose gates step width (fun i => (cnt (fun k' => fst p k' i) k : Int)) (hiAt q k j)) (fun _ i _ => g - (intOf i).toNat)
      case atStart =>
        have m := HM.out
        exact ⟨0, Nat.zero_le _, rfl, rfl, rfl, m.s, m.p, m.r.ext (fun i hi => rfl) (fun i hi => hiAt_zero q k i), m.z, m.b⟩
      case round =>
        clear HM hz hbw y0 y1
        obtain ⟨j, hj, rfl, rfl, hsp, ⟨⟨k0, k1, k2, k3, k4, k5, k6, k7⟩, ⟨p0, p1⟩, hrow, hz, hbw⟩⟩ := hrel
        have HSP := Lib.hid hsp
        clear hsp
        have y0 : w.heap.size < wr.heap.size := by omega
        have y1 : w.heap.size + 1 < wr.heap.size := by omega
        by_cases hlt : j < g
        · have u0 := keepB hbw hgb (HS.out.c0 j hlt)
          have u1 := keepB hbw hgb (HS.out.c1 j hlt)
          have q0 : (0 : Int) ≤ (j : Int) := by omega
          have q1 : (j : Int) < (g : Int) := by omega
          have HR := Lib.hid hrow
          have hzr : w.heap.size + 3 ≤ wr.heap.size := hz
          clear hrow
          go_wp2_with fail
          refine (height_any _ _ _ _ _ _ _ _ _ _ _ _ _ (by omega) (by omega) s1 s2 q0 (by omega) z1 z2 e1 e2 e3 e4).mono ?_; rintro e w5 ⟨rfl, hb5⟩
          have hb6 : Below wr.heap.size wr w5 := Below.trans (below_alloc _ _) (hb5.mono (by simp))
          have l0 : w5.cell? ⟨wr.heap.size, 0, none⟩ = some (.int .i64 (GL j)) := keepB hb5 (by simp) (alloc_new rfl rfl)
          have l1 : w5.cell? ⟨wr.heap.size, 1, none⟩ = some (.int .i64 (GH j)) := keepB hb5 (by simp) (alloc_new rfl rfl)
          have lz : wr.heap.size < w5.heap.size := by have := hb5.size; simp at this; omega
          have m5 := (⟨⟨k0, k1, k2, k3, k4, k5, k6, k7⟩, ⟨p0, p1⟩, HR.out, hz, hbw⟩ : MRel w wr g lo hi nm x y z rose gates step width (fun i => (cnt (fun k' => fst p k' i) k : Int)) (hiAt q k j)).keep hb6 hz
          have m6 := m5.keep (below_alloc w5 (.cells #[.int .i64 (climbLo z step (t - width + k) j hi), .int .i64 (climbHi z step (t - width + k) j lo)] 43)) m5.z
          clear k0 k1 k2 k3 k4 k5 k6 k7 p0 p1 hz hbw y0 y1 u0 u1 hb5 hb6 HR
          have a0 := alloc_keep (o := .cells #[.int .i64 (climbLo z step (t - width + k) j hi), .int .i64 (climbHi z step (t - width + k) j lo)] 43) lz l0
          have a1 := alloc_keep (o := .cells #[.int .i64 (climbLo z step (t - width + k) j hi), .int .i64 (climbHi z step (t - width + k) j lo)] 43) lz l1
          have a2 : (w5.alloc (.cells #[.int .i64 (climbLo z step (t - width + k) j hi), .int .i64 (climbHi z step (t - width + k) j lo)] 43)).cell? ⟨w5.heap.size, 0, none⟩ = some (.int .i64 (climbLo z step (t - width + k) j hi)) := alloc_new rfl rfl
          have a3 : (w5.alloc (.cells #[.int .i64 (climbLo z step (t - width + k) j hi), .int .i64 (climbHi z step (t - width + k) j lo)] 43)).cell? ⟨w5.heap.size, 1, none⟩ = some (.int .i64 (climbHi z step (t - width + k) j lo)) := alloc_new rfl rfl
          have lz5 := m5.z
          clear m5 l0 l1
          go_upto_region 10 with fail
          generalize w5.alloc (.cells #[.int .i64 (climbLo z step (t - width + k) j hi), .int .i64 (climbHi z step (t - width + k) j lo)] 43) = W6 at *
          obtain ⟨⟨k0, k1, k2, k3, k4, k5, k6, k7⟩, ⟨p0, p1⟩, hrow, hz, hbw⟩ := m6
          cases hm : q k j with
          | false =>
            have hsu : p k j = false := by
              cases e : p k j
              · rfl
              · have := HPQ.out k j (by omega) hlt e; rw [hm] at this; cases this
            have c1 : decide (climbLo z step (t - width + k) j hi ≤ GH j) = false := by rw [← HQ.out]; exact hm
            have c2 : decide (climbHi z step (t - width + k) j lo ≤ GL j) = false := by rw [← HP.out]; exact hsu
            have hf : fst q k j = false := by unfold fst; rw [hm]; rfl
            have M6 := Lib.hid (show MRel w W6 g lo hi nm x y z rose gates step width (fun i => (cnt (fun k' => fst p k' i) k : Int)) (hiAt q k (j + 1)) from ⟨⟨k0, k1, k2, k3, k4, k5, k6, k7⟩, ⟨p0, p1⟩, hrow.ext (fun i hi => rfl) (fun i hi => hiAt_same hf i), hz, hbw⟩)
            clear hrow k0 k1 k2 k3 k4 k5 k6 k7 p0 p1
            have HS6 := Lib.hid (show seen q k (j + 1) = seen q k j by rw [seen_succ, hm, Bool.or_false])
            clear hf
            have HSP2 := Lib.hid (show seen p k (j + 1) = false by rw [seen_succ, HSP.out, hsu]; rfl)
            clear hm hsu
            go_wp2
            go_roundw
            case rel => exact ⟨j + 1, by omega, by go_num, by rw [HS6.out], HSP2.out, M6.out⟩
            case measure => simp [intOf]; omega
          | true =>
            cases hsn : seen q k j with
            | true =>
              cases hsu : p k j with
              | false =>
                have c1 : decide (climbLo z step (t - width + k) j hi ≤ GH j) = true := by rw [← HQ.out]; exact hm
                have c2 : decide (climbHi z step (t - width + k) j lo ≤ GL j) = false := by rw [← HP.out]; exact hsu
                have hf : fst q k j = false := fst_after hsn (Nat.le_refl _)
                have M6 := Lib.hid (show MRel w W6 g lo hi nm x y z rose gates step width (fun i => (cnt (fun k' => fst p k' i) k : Int)) (hiAt q k (j + 1)) from ⟨⟨k0, k1, k2, k3, k4, k5, k6, k7⟩, ⟨p0, p1⟩, hrow.ext (fun i hi => rfl) (fun i hi => hiAt_same hf i), hz, hbw⟩)
                clear hrow k0 k1 k2 k3 k4 k5 k6 k7 p0 p1
                have HS6 := Lib.hid (show seen q k (j + 1) = true by rw [seen_succ, hm, Bool.or_true])
                clear hf
                have HSP2 := Lib.hid (show seen p k (j + 1) = false by rw [seen_succ, HSP.out, hsu]; rfl)
                clear hm hsu
                go_wp2
                go_roundw
                case rel => exact ⟨j + 1, by omega, by go_num, by rw [HS6.out], HSP2.out, M6.out⟩
                case measure => simp [intOf]; omega
              | true =>
                have c1 : decide (climbLo z step (t - width + k) j hi ≤ GH j) = true := by rw [← HQ.out]; exact hm
                have c2 : decide (climbHi z step (t - width + k) j lo ≤ GL j) = true := by rw [← HP.out]; exact hsu
                have hf : fst q k j = false := fst_after hsn (Nat.le_refl _)
                have M6 := Lib.hid (show MRel w W6 g lo hi nm x y z rose gates step width (fun i => (cnt (fun k' => fst p k' i) k : Int)) (hiAt q k (j + 1)) from ⟨⟨k0, k1, k2, k3, k4, k5, k6, k7⟩, ⟨p0, p1⟩, hrow.ext (fun i hi => rfl) (fun i hi => hiAt_same hf i), hz, hbw⟩)
                clear hrow k0 k1 k2 k3 k4 k5 k6 k7 p0 p1
                have HS6 := Lib.hid (show seen q k (j + 1) = true by rw [seen_succ, hm, Bool.or_true])
                clear hf
                have hrow := M6.out.r
                have cL := hrow.c0 j hlt
                have fL := hrow.f0 j hlt
                clear hrow
                have bL := cnt_le (fun k' => fst p k' j) k
                have i7 : IntKind.i64.wrap ((cnt (fun k' => fst p k' j) k : Int) + 1) = (cnt (fun k' => fst p k' j) k : Int) + 1 := IntWalk.i64_in _ (by omega)
                have M7 := Lib.hid (show MRel w (W6.setCell ⟨w.heap.size + 1 + 1, j * 2, none⟩ (.int .i64 ((cnt (fun k' => fst p k' j) k : Int) + 1))) g lo hi nm x y z rose gates step width (fun i => (cnt (fun k' => fst p k' i) (k + 1) : Int)) (fun i => (cnt (fun k' => fst q k' i) (k + 1) : Int)) from by
                  have hfs := fst_here HSP.out hsu
                  have R7 := M6.out.r.setL (k := j) (v := (cnt (fun k' => fst p k' j) k : Int) + 1) (L2 := fun i => (cnt (fun k' => fst p k' i) (k + 1) : Int)) (by rw [cnt_yes (q := fun k' => fst p k' j) hfs]; omega) (fun i hi => by
                    have e0 : fst p k i = false := by
                      by_cases e : i < j
                      · exact fst_not HSP.out e
                      · exact fst_after (j := j + 1) (by rw [seen_succ, hsu, Bool.or_true]) (by omega)
                    rw [cnt_no (q := fun k' => fst p k' i) e0])
                  have R8 := R7.ext (L2 := fun i => (cnt (fun k' => fst p k' i) (k + 1) : Int)) (H2 := fun i => (cnt (fun k' => fst q k' i) (k + 1) : Int)) (fun i hi => rfl) (fun i hi => hiAt_done (fun hij => fst_after HS6.out hij))
                  have m := M6.out
                  have B7 : Below (w.heap.size + 1 + 1) W6 (W6.setCell ⟨w.heap.size + 1 + 1, j * 2, none⟩ (.int .i64 ((cnt (fun k' => fst p k' j) k : Int) + 1))) := (Below.refl _ _).setCell (p := ⟨w.heap.size + 1 + 1, j * 2, none⟩) (Nat.le_refl _) _
                  exact ⟨m.s.keep B7 (by omega), m.p.keep B7 (by omega), R8, Nat.le_trans m.z B7.size, m.b.trans (B7.mono (by omega))⟩)
                clear hsn hm hsu bL
                go_wp2
                go_roundw
                case rel => exact ⟨k + 1, hkT, by go_num, M7.out⟩
                case measure => simp [intOf]; omega
            | false =>
              cases hsu : p k j with
              | false =>
                have c1 : decide (climbLo z step (t - width + k) j hi ≤ GH j) = true := by rw [← HQ.out]; exact hm
                have c2 : decide (climbHi z step (t - width + k) j lo ≤ GL j) = false := by rw [← HP.out]; exact hsu
                have hf : fst q k j = true := fst_here hsn hm
                have cH := hrow.c1 j hlt
                have fH := hrow.f1 j hlt
                have bH := hiAt_bd q k j j
                have R6 := hrow.setH (k := j) (v := hiAt q k j j + 1) (H2 := hiAt q k (j + 1)) (hiAt_inc hf) (fun i hi => hiAt_other hi)
                have B6 : Below (w.heap.size + 1 + 1) W6 (W6.setCell ⟨w.heap.size + 1 + 1, j * 2 + 1, none⟩ (.int .i64 (hiAt q k j j + 1))) := (Below.refl _ W6).setCell (p := ⟨w.heap.size + 1 + 1, j * 2 + 1, none⟩) (Nat.le_refl _) _
                have i6 : IntKind.i64.wrap (hiAt q k j j + 1) = hiAt q k j j + 1 := IntWalk.i64_in _ (by omega)
                have M6 : MRel w (W6.setCell ⟨w.heap.size + 1 + 1, j * 2 + 1, none⟩ (.int .i64 (hiAt q k j j + 1))) g lo hi nm x y z rose gates step width (fun i => (cnt (fun k' => fst p k' i) k : Int)) (hiAt q k (j + 1)) := ⟨SiteAt.keep ⟨k0, k1, k2, k3, k4, k5, k6, k7⟩ B6 (by omega), PairAt.keep ⟨p0, p1⟩ B6 (by omega), R6, by simp; omega, hbw.setCell (p := ⟨w.heap.size + 1 + 1, j * 2 + 1, none⟩) (by dsimp only; omega) _⟩
                have a4 : (W6.setCell ⟨w.heap.size + 1 + 1, j * 2 + 1, none⟩ (.int .i64 (hiAt q k j j + 1))).cell? ⟨wr.heap.size, 0, none⟩ = some (.int .i64 (GL j)) := by rw [World.cell?_setCell_far _ _ _ _ (by dsimp only; omega)]; exact a0
                have a5 : (W6.setCell ⟨w.heap.size + 1 + 1, j * 2 + 1, none⟩ (.int .i64 (hiAt q k j j + 1))).cell? ⟨w5.heap.size, 1, none⟩ = some (.int .i64 (climbHi z step (t - width + k) j lo)) := by rw [World.cell?_setCell_far _ _ _ _ (by dsimp only; omega)]; exact a3
                have M6 := Lib.hid M6
                have a4 := Lib.hid a4
                have a5 := Lib.hid a5
                clear R6 B6 hrow
                go_upto_region 13 with fail
                clear a0 a1 a2 a3 cH fH k0 k1 k2 k3 k4 k5 k6 k7 p0 p1 hz hbw
                generalize (W6.setCell ⟨w.heap.size + 1 + 1, j * 2 + 1, none⟩ (.int .i64 (hiAt q k j j + 1))) = W7 at *
                have a4 := a4.out
                have a5 := a5.out
                have HS6 := Lib.hid (show seen q k (j + 1) = true by rw [seen_succ, hm, Bool.or_true])
                clear hf
                have HSP2 := Lib.hid (show seen p k (j + 1) = false by rw [seen_succ, HSP.out, hsu]; rfl)
                clear hm hsu
                go_wp2
                go_roundw
                case rel => exact ⟨j + 1, by omega, by go_num, by rw [HS6.out], HSP2.out, M6.out⟩
                case measure => simp [intOf]; omega
              | true =>
                have c1 : decide (climbLo z step (t - width + k) j hi ≤ GH j) = true := by rw [← HQ.out]; exact hm
                have c2 : decide (climbHi z step (t - width + k) j lo ≤ GL j) = true := by rw [← HP.out]; exact hsu
                have hf : fst q k j = true := fst_here hsn hm
                have cH := hrow.c1 j hlt
                have fH := hrow.f1 j hlt
                have bH := hiAt_bd q k j j
                have R6 := hrow.setH (k := j) (v := hiAt q k j j + 1) (H2 := hiAt q k (j + 1)) (hiAt_inc hf) (fun i hi => hiAt_other hi)
                have B6 : Below (w.heap.size + 1 + 1) W6 (W6.setCell ⟨w.heap.size + 1 + 1, j * 2 + 1, none⟩ (.int .i64 (hiAt q k j j + 1))) := (Below.refl _ W6).setCell (p := ⟨w.heap.size + 1 + 1, j * 2 + 1, none⟩) (Nat.le_refl _) _
                have i6 : IntKind.i64.wrap (hiAt q k j j + 1) = hiAt q k j j + 1 := IntWalk.i64_in _ (by omega)
                have M6 : MRel w (W6.setCell ⟨w.heap.size + 1 + 1, j * 2 + 1, none⟩ (.int .i64 (hiAt q k j j + 1))) g lo hi nm x y z rose gates step width (fun i => (cnt (fun k' => fst p k' i) k : Int)) (hiAt q k (j + 1)) := ⟨SiteAt.keep ⟨k0, k1, k2, k3, k4, k5, k6, k7⟩ B6 (by omega), PairAt.keep ⟨p0, p1⟩ B6 (by omega), R6, by simp; omega, hbw.setCell (p := ⟨w.heap.size + 1 + 1, j * 2 + 1, none⟩) (by dsimp only; omega) _⟩
                have a4 : (W6.setCell ⟨w.heap.size + 1 + 1, j * 2 + 1, none⟩ (.int .i64 (hiAt q k j j + 1))).cell? ⟨wr.heap.size, 0, none⟩ = some (.int .i64 (GL j)) := by rw [World.cell?_setCell_far _ _ _ _ (by dsimp only; omega)]; exact a0
                have a5 : (W6.setCell ⟨w.heap.size + 1 + 1, j * 2 + 1, none⟩ (.int .i64 (hiAt q k j j + 1))).cell? ⟨w5.heap.size, 1, none⟩ = some (.int .i64 (climbHi z step (t - width + k) j lo)) := by rw [World.cell?_setCell_far _ _ _ _ (by dsimp only; omega)]; exact a3
                have M6 := Lib.hid M6
                have a4 := Lib.hid a4
                have a5 := Lib.hid a5
                clear R6 B6 hrow
                go_upto_region 13 with fail
                clear a0 a1 a2 a3 cH fH k0 k1 k2 k3 k4 k5 k6 k7 p0 p1 hz hbw
                generalize (W6.setCell ⟨w.heap.size + 1 + 1, j * 2 + 1, none⟩ (.int .i64 (hiAt q k j j + 1))) = W7 at *
                have a4 := a4.out
                have a5 := a5.out
                have HS6 := Lib.hid (show seen q k (j + 1) = true by rw [seen_succ, hm, Bool.or_true])
                clear hf
                have hrow := M6.out.r
                have cL := hrow.c0 j hlt
                have fL := hrow.f0 j hlt
                clear hrow
                have bL := cnt_le (fun k' => fst p k' j) k
                have i7 : IntKind.i64.wrap ((cnt (fun k' => fst p k' j) k : Int) + 1) = (cnt (fun k' => fst p k' j) k : Int) + 1 := IntWalk.i64_in _ (by omega)
                have M7 := Lib.hid (show MRel w (W7.setCell ⟨w.heap.size + 1 + 1, j * 2, none⟩ (.int .i64 ((cnt (fun k' => fst p k' j) k : Int) + 1))) g lo hi nm x y z rose gates step width (fun i => (cnt (fun k' => fst p k' i) (k + 1) : Int)) (fun i => (cnt (fun k' => fst q k' i) (k + 1) : Int)) from by
                  have hfs := fst_here HSP.out hsu
                  have R7 := M6.out.r.setL (k := j) (v := (cnt (fun k' => fst p k' j) k : Int) + 1) (L2 := fun i => (cnt (fun k' => fst p k' i) (k + 1) : Int)) (by rw [cnt_yes (q := fun k' => fst p k' j) hfs]; omega) (fun i hi => by
                    have e0 : fst p k i = false := by
                      by_cases e : i < j
                      · exact fst_not HSP.out e
                      · exact fst_after (j := j + 1) (by rw [seen_succ, hsu, Bool.or_true]) (by omega)
                    rw [cnt_no (q := fun k' => fst p k' i) e0])
                  have R8 := R7.ext (L2 := fun i => (cnt (fun k' => fst p k' i) (k + 1) : Int)) (H2 := fun i => (cnt (fun k' => fst q k' i) (k + 1) : Int)) (fun i hi => rfl) (fun i hi => hiAt_done (fun hij => fst_after HS6.out hij))
                  have m := M6.out
                  have B7 : Below (w.heap.size + 1 + 1) W7 (W7.setCell ⟨w.heap.size + 1 + 1, j * 2, none⟩ (.int .i64 ((cnt (fun k' => fst p k' j) k : Int) + 1))) := (Below.refl _ _).setCell (p := ⟨w.heap.size + 1 + 1, j * 2, none⟩) (Nat.le_refl _) _
                  exact ⟨m.s.keep B7 (by omega), m.p.keep B7 (by omega), R8, Nat.le_trans m.z B7.size, m.b.trans (B7.mono (by omega))⟩)
                clear hsn hm hsu bL
                go_wp2
                go_roundw
                case rel => exact ⟨k + 1, hkT, by go_num, M7.out⟩
                case measure => simp [intOf]; omega
        · obtain rfl : j = g := by omega
          have M8 := Lib.hid (show MRel w wr j lo hi nm x y z rose gates step width (fun i => (cnt (fun k' => fst p k' i) (k + 1) : Int)) (fun i => (cnt (fun k' => fst q k' i) (k + 1) : Int)) from ⟨⟨k0, k1, k2, k3, k4, k5, k6, k7⟩, ⟨p0, p1⟩, hrow.ext (fun i hi => by rw [cnt_no (q := fun k' => fst p k' i) (fst_not HSP.out hi)]) (fun i hi => hiAt_done (fun hij => by omega)), hz, hbw⟩)
          clear hrow
          go_wp2
          go_roundw
          case rel => exact ⟨k + 1, hkT, by go_num, M8.out⟩
          case measure => simp [intOf]; omega
    · obtain rfl : k = T := by omega
      have HR := Lib.hid hrow
      clear hrow
      go_wp2
      go_ret
      exact ⟨_, rfl, HR.out, by omega, by omega, hbw⟩

end Go.Proofs.Ythnjfnapjpdchaa

namespace Go.Proofs.Ythnjfnapjpdchaa
open Go.RowKit

set_option maxHeartbeats 400000 in
theorem isGate_any (nm : ByteArray) (x y z rose gates step width gate : Int) (w : World) (h1 : 1 ≤ gates) (h2 : gates ≤ 200) :
    Calls Try.prog 67 #[.agg #[.string nm, .int .i64 x, .int .i64 y, .int .i64 z, .int .i64 rose, .int .i64 gates, .int .i64 step, .int .i64 width], .int .i64 gate] w
      fun e w' => e = .returned (.bool (inB gate 0 (gates - 1))) ∧ Below w.heap.size w w' := by
  go_enter Try.func67, Try.ntmps67
  go_wp2_with (go_at_call 59; refine (isIn_any _ _ _ _).mono ?_; rintro e w' ⟨rfl, rfl⟩)
  go_ret
  exact ⟨rfl, (Below.refl _ _).alloc (Nat.le_refl _) _⟩

end Go.Proofs.Ythnjfnapjpdchaa
