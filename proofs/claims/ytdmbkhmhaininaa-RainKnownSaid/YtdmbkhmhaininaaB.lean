/-
  A table is checked.
-/
import Derived.Test.YtdmbkhmhaininaaA
namespace Go.Proofs.Ytdmbkhmhaininaa
open Go.RowKit
set_option linter.unusedVariables false
set_option linter.unusedSimpArgs false

theorem keepW {w w' : World} {a : Addr} {v : Value} (hb : Below w.heap.size w w') (h : w.cell? a = some v) : w'.cell? a = some v := by
  rw [hb.cell (p := a) (World.block_lt_of_cell? _ _ h)]; exact h
/-- the spans of a slice: what its cells hold -/
def SpansAt (w : World) (b off len : Nat) (zs : Nat → Int × Int) : Prop :=
  ∀ i, i < len → w.cell? ⟨b, off + i * 2, none⟩ = some (.int .i64 (zs i).1) ∧ w.cell? ⟨b, off + i * 2 + 1, none⟩ = some (.int .i64 (zs i).2)
theorem SpansAt.keep {B b off len : Nat} {W w1 : World} {zs : Nat → Int × Int} (s : SpansAt W b off len zs) (hb : Below B W w1) (h : b < B) : SpansAt w1 b off len zs :=
  fun i hi => ⟨keepB hb h (s i hi).1, keepB hb h (s i hi).2⟩
/-- a slice of spans, nil or not -/
def SliceIs (w : World) (a : Option Addr) (len cap : Nat) (zs : Nat → Int × Int) : Prop :=
  len = 0 ∨ ∃ b off, a = some ⟨b, off, none⟩ ∧ b < w.heap.size ∧ SpansAt w b off len zs
theorem SliceIs.keep {W w1 : World} {a : Option Addr} {len cap : Nat} {zs : Nat → Int × Int} (s : SliceIs W a len cap zs) (hb : Below W.heap.size W w1) : SliceIs w1 a len cap zs := by
  rcases s with h | ⟨b, off, h1, h2, h3⟩
  · exact .inl h
  · exact .inr ⟨b, off, h1, Nat.lt_of_lt_of_le h2 hb.size, h3.keep hb h2⟩

theorem beq_of {a b : Int} : (a == b) = decide (a = b) := by
  by_cases h : a = b
  · rw [decide_eq_true h, beq_iff_eq]; exact h
  · rw [decide_eq_false h, beq_eq_false_iff_ne]; exact h

set_option maxHeartbeats 1600000 in
theorem follows_zero (b off n cap : Nat) (zs : Nat → Int × Int) (w : World) (hn : 0 < n) (hl : n ≤ 1000000) (hs : SpansAt w b off n zs) :
    Calls Try.prog 50 #[.slice (some ⟨b, off, none⟩) n cap, .int .i64 0] w fun e w' => e = .returned (.bool (folB zs 0)) ∧ Below w.heap.size w w' := by
  have c0 := (hs 0 hn).1
  rw [Nat.zero_mul, Nat.add_zero] at c0
  clear hs
  show Calls Try.prog 50 #[.slice (some ⟨b, off, none⟩) n cap, .int .i64 0] w fun e w' => e = .returned (.bool ((zs 0).1 == 0)) ∧ Below w.heap.size w w'
  generalize (zs 0).1 = z0 at c0 ⊢
  have hn1 : (0 : Int) < (n : Int) := by omega
  cases hz : (z0 == 0)
  all_goals
    go_enter Try.func50, Try.ntmps50
    go_wp2
    go_ret
    exact ⟨rfl, Below.refl _ _⟩

set_option maxHeartbeats 3200000 in
theorem follows_next (b off n cap : Nat) (zs : Nat → Int × Int) (j : Nat) (w : World) (hn : j + 1 < n) (hl : n ≤ 1000000) (hs : SpansAt w b off n zs) :
    Calls Try.prog 50 #[.slice (some ⟨b, off, none⟩) n cap, .int .i64 ((j + 1 : Nat) : Int)] w fun e w' => e = .returned (.bool (folB zs (j + 1))) ∧ Below w.heap.size w w' := by
  have c0 := (hs j (by omega)).1
  have c1 := (hs j (by omega)).2
  have d0 := (hs (j + 1) hn).1
  have d1 := (hs (j + 1) hn).2
  clear hs
  show Calls Try.prog 50 #[.slice (some ⟨b, off, none⟩) n cap, .int .i64 ((j + 1 : Nat) : Int)] w fun e w' => e = .returned (.bool (decide ((zs j).1 < (zs (j + 1)).1) && decide ((zs j).2 ≤ (zs (j + 1)).2))) ∧ Below w.heap.size w w'
  generalize (zs j).1 = z0 at c0 ⊢
  generalize (zs j).2 = r0 at c1 ⊢
  generalize (zs (j + 1)).1 = z1 at d0 ⊢
  generalize (zs (j + 1)).2 = r1 at d1 ⊢
  obtain ⟨k, hk⟩ : ∃ k : Int, k = ((j + 1 : Nat) : Int) := ⟨_, rfl⟩
  have k0 : 0 ≤ k := by omega
  have k1 : k < (n : Int) := by omega
  have k2 : 0 ≤ k - 1 := by omega
  have k3 : k - 1 < (n : Int) := by omega
  have kz : (k == 0) = false := by rw [beq_eq_false_iff_ne]; omega
  have t0 : k.toNat = j + 1 := by omega
  have t1 : (k - 1).toNat = j := by omega
  have i1 : IntKind.i64.wrap (k - 1) = k - 1 := IntWalk.i64_in _ (by omega)
  have i0 : IntKind.i64.wrap k = k := IntWalk.i64_in _ (by omega)
  rw [← hk]
  clear hk
  rcases (Bool.eq_false_or_eq_true (decide (z0 < z1))).symm with h1 | h1
  · rw [h1]
    go_enter Try.func50, Try.ntmps50
    go_wp2
    go_quiet (fail)
    go_wp2
    go_ret
    exact ⟨rfl, drewN_below (Below.refl _ _) _⟩
  · rcases (Bool.eq_false_or_eq_true (decide (r0 ≤ r1))).symm with h2 | h2
    all_goals
      rw [h1, h2]
      go_enter Try.func50, Try.ntmps50
      go_wp2
      go_quiet (fail)
      go_wp2
      go_ret
      exact ⟨rfl, drewN_below (Below.refl _ _) _⟩
theorem follows_any (b off n cap : Nat) (zs : Nat → Int × Int) (k : Nat) (w : World) (hn : k < n) (hl : n ≤ 1000000) (hs : SpansAt w b off n zs) :
    Calls Try.prog 50 #[.slice (some ⟨b, off, none⟩) n cap, .int .i64 (k : Int)] w fun e w' => e = .returned (.bool (folB zs k)) ∧ Below w.heap.size w w' := by
  cases k with
  | zero => exact follows_zero b off n cap zs w hn hl hs
  | succ j => exact follows_next b off n cap zs j w hn hl hs

def TabRel (w : World) (zs : Nat → Int × Int) (most : Int) (k : Nat) (wr : World) : Prop := Below w.heap.size w wr ∧ firstE (ptE zs most) k = 0
theorem ptE_a {zs : Nat → Int × Int} {most : Int} {k n : Nat} (hk : k < n) (h0 : firstE (ptE zs most) k = 0) (h : inB (zs k).1 0 1073741824 = false) : firstE (ptE zs most) n = 3 := by
  have e : ptE zs most k = 3 := by unfold ptE; rw [h]; rfl
  rw [firstE_stop hk h0 (by rw [e]; decide), e]
theorem ptE_b {zs : Nat → Int × Int} {most : Int} {k n : Nat} (hk : k < n) (h0 : firstE (ptE zs most) k = 0) (h : inB (zs k).1 0 1073741824 = true) (h2 : inB (zs k).2 0 most = false) : firstE (ptE zs most) n = 3 := by
  have e : ptE zs most k = 3 := by unfold ptE; rw [h, h2]; rfl
  rw [firstE_stop hk h0 (by rw [e]; decide), e]
theorem ptE_c {zs : Nat → Int × Int} {most : Int} {k n : Nat} (hk : k < n) (h0 : firstE (ptE zs most) k = 0) (h : inB (zs k).1 0 1073741824 = true) (h2 : inB (zs k).2 0 most = true) (h3 : folB zs k = false) : firstE (ptE zs most) n = 12 := by
  have e : ptE zs most k = 12 := by unfold ptE; rw [h, h2, h3]; rfl
  rw [firstE_stop hk h0 (by rw [e]; decide), e]
theorem ptE_d {zs : Nat → Int × Int} {most : Int} {k : Nat} (h0 : firstE (ptE zs most) k = 0) (h : inB (zs k).1 0 1073741824 = true) (h2 : inB (zs k).2 0 most = true) (h3 : folB zs k = true) : firstE (ptE zs most) (k + 1) = 0 := by
  have e : ptE zs most k = 0 := by unfold ptE; rw [h, h2, h3]; rfl
  rw [firstE_next h0, e]

set_option maxHeartbeats 3200000 in
theorem CheckTable_some (b off n cap : Nat) (zs : Nat → Int × Int) (most : Int) (w : World) (h2 : 2 ≤ n) (hl : n ≤ 32) (hs : SpansAt w b off n zs) (hb : b < w.heap.size) :
    Calls Try.prog 14 #[.slice (some ⟨b, off, none⟩) n cap, .int .i64 most] w fun e w' => e = .returned (.int .i64 (firstE (ptE zs most) n)) ∧ Below w.heap.size w w' := by
  have HS := Lib.hid hs
  clear hs
  have d1 : decide ((n : Int) < 2) = false := decide_eq_false (by omega)
  have d2 : decide (32 < (n : Int)) = false := decide_eq_false (by omega)
  go_enter Try.func14, Try.ntmps14
  go_wp2
  go_loopw [15] (fun i wr => ∃ k : Nat, k ≤ n ∧ i = .int .i64 k ∧ TabRel w zs most k wr) (fun i _ => n - (intOf i).toNat)
  case atStart => exact ⟨0, Nat.zero_le _, rfl, Below.refl _ _, rfl⟩
  case round =>
    obtain ⟨k, hk, rfl, hbw, h0⟩ := hrel
    have H0 := Lib.hid h0
    clear h0
    by_cases hlt : k < n
    · have c0 := keepB hbw hb (HS.out k hlt).1
      have c1 := keepB hbw hb (HS.out k hlt).2
      have HSr := Lib.hid (HS.out.keep hbw hb)
      have HE := Lib.hid (And.intro (ptE_a hlt H0.out) (And.intro (ptE_b hlt H0.out) (And.intro (ptE_c hlt H0.out) (ptE_d H0.out))))
      have HF : Hid (∀ W : World, Below wr.heap.size wr W → Calls Try.prog 50 #[.slice (some ⟨b, off, none⟩) n cap, .int .i64 (k : Int)] W fun e w' => e = .returned (.bool (folB zs k)) ∧ Below W.heap.size W w') := Lib.hid fun W hW => follows_any b off n cap zs k W hlt (by omega) (HSr.out.keep hW (Nat.lt_of_lt_of_le hb hbw.size))
      have HZ : Hid (∀ W : World, Calls Try.prog 49 #[.int .i64 (zs k).1, .int .i64 0, .int .i64 1073741824] W fun e w' => e = .returned (.bool (inB (zs k).1 0 1073741824)) ∧ W = w') := Lib.hid fun W => isIn_any _ _ _ W
      have HR : Hid (∀ W : World, Calls Try.prog 49 #[.int .i64 (zs k).2, .int .i64 0, .int .i64 most] W fun e w' => e = .returned (.bool (inB (zs k).2 0 most)) ∧ W = w') := Lib.hid fun W => isIn_any _ _ _ W
      generalize (zs k).1 = z at c0 HZ HE
      generalize (zs k).2 = r at c1 HR HE
      generalize inB z 0 1073741824 = bz at HZ HE
      generalize inB r 0 most = br at HR HE
      generalize folB zs k = bf at HF HE
      have bA : Below wr.heap.size wr (wr.alloc (.cells #[.int .i64 z, .int .i64 r] 112)) := below_alloc _ _
      have BA := Lib.hid bA
      cases bz
      · have hE := HE.out.1 rfl
        have HE2 := Lib.hid hE
        clear hE HE bA
        go_wp2_with fail
        refine (HZ.out _).mono ?_; rintro e w' ⟨rfl, rfl⟩
        go_wp2
        go_ret
        rw [HE2.out]
        exact ⟨rfl, hbw.trans (BA.out.mono hbw.size)⟩
      · cases br
        · have hE := HE.out.2.1 rfl rfl
          have HE2 := Lib.hid hE
          clear hE HE bA
          go_wp2_with fail
          refine (HZ.out _).mono ?_; rintro e w' ⟨rfl, rfl⟩
          go_wp2_with fail
          refine (HR.out _).mono ?_; rintro e w' ⟨rfl, rfl⟩
          go_wp2
          go_ret
          rw [HE2.out]
          exact ⟨rfl, hbw.trans (BA.out.mono hbw.size)⟩
        · cases bf
          · have hE := HE.out.2.2.1 rfl rfl rfl
            have HE2 := Lib.hid hE
            clear hE HE bA
            go_wp2_with fail
            refine (HZ.out _).mono ?_; rintro e w' ⟨rfl, rfl⟩
            go_wp2_with fail
            refine (HR.out _).mono ?_; rintro e w' ⟨rfl, rfl⟩
            go_wp2_with fail
            refine (HF.out _ BA.out).mono ?_; rintro e w1 ⟨rfl, hb1⟩
            have bX := hbw.trans ((BA.out.trans (hb1.mono BA.out.size)).mono hbw.size)
            clear hb1
            go_wp2
            go_ret
            rw [HE2.out]
            exact ⟨rfl, bX⟩
          · have hE := HE.out.2.2.2 rfl rfl rfl
            have HE2 := Lib.hid hE
            clear hE HE bA
            go_wp2_with fail
            refine (HZ.out _).mono ?_; rintro e w' ⟨rfl, rfl⟩
            go_wp2_with fail
            refine (HR.out _).mono ?_; rintro e w' ⟨rfl, rfl⟩
            go_wp2_with fail
            refine (HF.out _ BA.out).mono ?_; rintro e w1 ⟨rfl, hb1⟩
            have bX := hbw.trans ((BA.out.trans (hb1.mono BA.out.size)).mono hbw.size)
            have BX := Lib.hid bX
            clear hb1 bX
            go_wp2
            go_roundw
            case rel => exact ⟨k + 1, by omega, by go_num, BX.out, HE2.out⟩
            case measure => simp [intOf]; omega
    · obtain rfl : n = k := by omega
      go_wp2
      go_ret
      rw [H0.out]
      exact ⟨rfl, hbw⟩
theorem CheckTable_few (a : Option Addr) (n cap : Nat) (most : Int) (w : World) (h : n < 2) :
    Calls Try.prog 14 #[.slice a n cap, .int .i64 most] w fun e w' => e = .returned (.int .i64 18) ∧ Below w.heap.size w w' := by
  have d1 : decide ((n : Int) < 2) = true := decide_eq_true (by omega)
  go_enter Try.func14, Try.ntmps14
  go_wp2
  go_ret
  exact ⟨rfl, Below.refl _ _⟩
theorem CheckTable_many (a : Option Addr) (n cap : Nat) (most : Int) (w : World) (h : 32 < n) :
    Calls Try.prog 14 #[.slice a n cap, .int .i64 most] w fun e w' => e = .returned (.int .i64 9) ∧ Below w.heap.size w w' := by
  have d1 : decide ((n : Int) < 2) = false := decide_eq_false (by omega)
  have d2 : decide (32 < (n : Int)) = true := decide_eq_true (by omega)
  go_enter Try.func14, Try.ntmps14
  go_wp2
  go_ret
  exact ⟨rfl, Below.refl _ _⟩
theorem CheckTable_any (a : Option Addr) (n cap : Nat) (zs : Nat → Int × Int) (most : Int) (w : World) (hs : SliceIs w a n cap zs) :
    Calls Try.prog 14 #[.slice a n cap, .int .i64 most] w fun e w' => e = .returned (.int .i64 (tabC n zs most)) ∧ Below w.heap.size w w' := by
  unfold tabC
  by_cases h1 : n < 2
  · rw [if_pos h1]; exact CheckTable_few a n cap most w h1
  rw [if_neg h1]
  by_cases h2 : 32 < n
  · rw [if_pos h2]; exact CheckTable_many a n cap most w h2
  rw [if_neg h2]
  rcases hs with h | ⟨b, off, rfl, hb, h⟩
  · omega
  · exact CheckTable_some b off n cap zs most w (by omega) (by omega) h hb

end Go.Proofs.Ytdmbkhmhaininaa
