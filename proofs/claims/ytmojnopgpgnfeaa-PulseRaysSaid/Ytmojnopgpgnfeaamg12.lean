/-
  Echoes: what is valid.
-/
import Derived.Laws.StructEq
import Derived.Laws.Tables
import Derived.Laws.Cover2
import Derived.KernelRfl
import Derived.Test.Ytmojnopgpgnfeaamg1
namespace Go.Proofs.Ytmojnopgpgnfeaa
open Go.RowKit
set_option linter.unusedVariables false

theorem isPower_any (lo hi : Int) (w : World) :
    Calls Try.prog 78 #[.agg #[.int .i64 lo, .int .i64 hi]] w fun e w' => e = .returned (.bool (spanB lo hi 0 1073741824)) ∧ Below w.heap.size w w' := by
  go_enter Try.func78, Try.ntmps78
  go_wp2_with (go_at_call 49; refine (isWithin_any _ _ _ _ _).mono ?_; rintro e w1 ⟨rfl, hb⟩)
  go_ret
  exact ⟨rfl, Below.trans (below_alloc _ _) (hb.mono (by simp))⟩

/-- an echo in a box -/
structure EchoAt (w : World) (b : Nat) (kd p0 p1 s0 s1 s2 s3 sp r0 r1 m0 m1 t0 t1 : Int) : Prop where
  c0 : w.cell? ⟨b, 0, none⟩ = some (.int .i64 kd)
  c1 : w.cell? ⟨b, 1, none⟩ = some (.int .i64 p0)
  c2 : w.cell? ⟨b, 2, none⟩ = some (.int .i64 p1)
  c3 : w.cell? ⟨b, 3, none⟩ = some (.int .i64 s0)
  c4 : w.cell? ⟨b, 4, none⟩ = some (.int .i64 s1)
  c5 : w.cell? ⟨b, 5, none⟩ = some (.int .i64 s2)
  c6 : w.cell? ⟨b, 6, none⟩ = some (.int .i64 s3)
  c7 : w.cell? ⟨b, 7, none⟩ = some (.int .i64 sp)
  c8 : w.cell? ⟨b, 8, none⟩ = some (.int .i64 r0)
  c9 : w.cell? ⟨b, 9, none⟩ = some (.int .i64 r1)
  c10 : w.cell? ⟨b, 10, none⟩ = some (.int .i64 m0)
  c11 : w.cell? ⟨b, 11, none⟩ = some (.int .i64 m1)
  c12 : w.cell? ⟨b, 12, none⟩ = some (.int .i64 t0)
  c13 : w.cell? ⟨b, 13, none⟩ = some (.int .i64 t1)
theorem EchoAt.new (w : World) (kd p0 p1 s0 s1 s2 s3 sp r0 r1 m0 m1 t0 t1 : Int) : EchoAt (w.alloc (.cells #[.int .i64 kd, .int .i64 p0, .int .i64 p1, .int .i64 s0, .int .i64 s1, .int .i64 s2, .int .i64 s3, .int .i64 sp, .int .i64 r0, .int .i64 r1, .int .i64 m0, .int .i64 m1, .int .i64 t0, .int .i64 t1] 30)) w.heap.size kd p0 p1 s0 s1 s2 s3 sp r0 r1 m0 m1 t0 t1 :=
  ⟨alloc_new rfl rfl, alloc_new rfl rfl, alloc_new rfl rfl, alloc_new rfl rfl, alloc_new rfl rfl, alloc_new rfl rfl, alloc_new rfl rfl, alloc_new rfl rfl, alloc_new rfl rfl, alloc_new rfl rfl, alloc_new rfl rfl, alloc_new rfl rfl, alloc_new rfl rfl, alloc_new rfl rfl⟩
theorem EchoAt.keep {B b : Nat} {W w1 : World} {kd p0 p1 s0 s1 s2 s3 sp r0 r1 m0 m1 t0 t1 : Int} (s : EchoAt W b kd p0 p1 s0 s1 s2 s3 sp r0 r1 m0 m1 t0 t1) (hb : Below B W w1) (h : b < B) : EchoAt w1 b kd p0 p1 s0 s1 s2 s3 sp r0 r1 m0 m1 t0 t1 :=
  ⟨keepB hb h s.c0, keepB hb h s.c1, keepB hb h s.c2, keepB hb h s.c3, keepB hb h s.c4, keepB hb h s.c5, keepB hb h s.c6, keepB hb h s.c7, keepB hb h s.c8, keepB hb h s.c9, keepB hb h s.c10, keepB hb h s.c11, keepB hb h s.c12, keepB hb h s.c13⟩
/-- an echo in the first box of a call -/
structure EcE (w w' : World) (kd p0 p1 s0 s1 s2 s3 sp r0 r1 m0 m1 t0 t1 : Int) : Prop where
  e : EchoAt w' w.heap.size kd p0 p1 s0 s1 s2 s3 sp r0 r1 m0 m1 t0 t1
  z : w.heap.size < w'.heap.size
  b : Below w.heap.size w w'
theorem EcE.new (w : World) (kd p0 p1 s0 s1 s2 s3 sp r0 r1 m0 m1 t0 t1 : Int) : EcE w (w.alloc (.cells #[.int .i64 kd, .int .i64 p0, .int .i64 p1, .int .i64 s0, .int .i64 s1, .int .i64 s2, .int .i64 s3, .int .i64 sp, .int .i64 r0, .int .i64 r1, .int .i64 m0, .int .i64 m1, .int .i64 t0, .int .i64 t1] 30)) kd p0 p1 s0 s1 s2 s3 sp r0 r1 m0 m1 t0 t1 := ⟨EchoAt.new _ _ _ _ _ _ _ _ _ _ _ _ _ _ _, by simp, below_alloc _ _⟩
theorem EcE.keep {w W w1 : World} {B : Nat} {kd p0 p1 s0 s1 s2 s3 sp r0 r1 m0 m1 t0 t1 : Int} (s : EcE w W kd p0 p1 s0 s1 s2 s3 sp r0 r1 m0 m1 t0 t1) (hb : Below B W w1) (h : w.heap.size < B) : EcE w w1 kd p0 p1 s0 s1 s2 s3 sp r0 r1 m0 m1 t0 t1 :=
  ⟨s.e.keep hb h, Nat.lt_of_lt_of_le s.z hb.size, s.b.trans (hb.mono (by omega))⟩

/-- what is said of an echo that surely is one, apart from steps and turn -/
def heardB (p0 p1 sp r0 r1 m0 m1 : Int) : Bool := spanB r0 r1 0 1000000 && spanB m0 m1 0 1000 && spanB p0 p1 0 1073741824 && decide (0 < p0) && inB sp 0 65535

set_option maxHeartbeats 6400000 in
theorem isHeard_any (kd p0 p1 s0 s1 s2 s3 sp r0 r1 m0 m1 t0 t1 : Int) (w : World) :
    Calls Try.prog 52 #[.agg #[.int .i64 kd, .int .i64 p0, .int .i64 p1, .int .i64 s0, .int .i64 s1, .int .i64 s2, .int .i64 s3, .int .i64 sp, .int .i64 r0, .int .i64 r1, .int .i64 m0, .int .i64 m1, .int .i64 t0, .int .i64 t1]] w fun e w' => e = .returned (.bool (heardB p0 p1 sp r0 r1 m0 m1)) ∧ Below w.heap.size w w' := by
  rcases Bool.eq_false_or_eq_true (spanB r0 r1 0 1000000) with a1 | a1 <;> rcases Bool.eq_false_or_eq_true (spanB m0 m1 0 1000) with a2 | a2 <;> rcases Bool.eq_false_or_eq_true (spanB p0 p1 0 1073741824) with a3 | a3 <;> rcases Bool.eq_false_or_eq_true (decide (0 < p0)) with a4 | a4
  · have h : heardB p0 p1 sp r0 r1 m0 m1 = inB sp 0 65535 := by unfold heardB; rw [a1, a2, a3, a4]; simp
    rw [h]; clear h
    go_enter Try.func52, Try.ntmps52
    go_wp2_with fail
    refine (isWithin_any _ _ _ _ _).mono ?_; rintro e w1 ⟨rfl, hb1⟩
    obtain ⟨⟨c0, c1, c2, c3, c4, c5, c6, c7, c8, c9, c10, c11, c12, c13⟩, hz, hbw⟩ := (EcE.new w kd p0 p1 s0 s1 s2 s3 sp r0 r1 m0 m1 t0 t1).keep hb1 (by simp)
    clear hb1
    go_wp2_with fail
    refine (isWithin_any _ _ _ _ _).mono ?_; rintro e w2 ⟨rfl, hb2⟩
    have O2 := (⟨⟨c0, c1, c2, c3, c4, c5, c6, c7, c8, c9, c10, c11, c12, c13⟩, hz, hbw⟩ : EcE w w1 kd p0 p1 s0 s1 s2 s3 sp r0 r1 m0 m1 t0 t1).keep hb2 hz
    clear c0 c1 c2 c3 c4 c5 c6 c7 c8 c9 c10 c11 c12 c13 hz hbw hb2
    obtain ⟨⟨c0, c1, c2, c3, c4, c5, c6, c7, c8, c9, c10, c11, c12, c13⟩, hz, hbw⟩ := O2
    go_wp2_with fail
    refine (isPower_any _ _ _).mono ?_; rintro e w3 ⟨rfl, hb3⟩
    have O3 := (⟨⟨c0, c1, c2, c3, c4, c5, c6, c7, c8, c9, c10, c11, c12, c13⟩, hz, hbw⟩ : EcE w w2 kd p0 p1 s0 s1 s2 s3 sp r0 r1 m0 m1 t0 t1).keep hb3 hz
    clear c0 c1 c2 c3 c4 c5 c6 c7 c8 c9 c10 c11 c12 c13 hz hbw hb3
    obtain ⟨⟨c0, c1, c2, c3, c4, c5, c6, c7, c8, c9, c10, c11, c12, c13⟩, hz, hbw⟩ := O3
    go_wp2_with fail
    refine (isPart_any _ _).mono ?_; rintro e w' ⟨rfl, rfl⟩
    go_wp2
    go_ret
    exact ⟨rfl, hbw⟩
  · have h : heardB p0 p1 sp r0 r1 m0 m1 = false := by unfold heardB; rw [a1, a2, a3, a4]; simp
    rw [h]; clear h
    go_enter Try.func52, Try.ntmps52
    go_wp2_with fail
    refine (isWithin_any _ _ _ _ _).mono ?_; rintro e w1 ⟨rfl, hb1⟩
    obtain ⟨⟨c0, c1, c2, c3, c4, c5, c6, c7, c8, c9, c10, c11, c12, c13⟩, hz, hbw⟩ := (EcE.new w kd p0 p1 s0 s1 s2 s3 sp r0 r1 m0 m1 t0 t1).keep hb1 (by simp)
    clear hb1
    go_wp2_with fail
    refine (isWithin_any _ _ _ _ _).mono ?_; rintro e w2 ⟨rfl, hb2⟩
    have O2 := (⟨⟨c0, c1, c2, c3, c4, c5, c6, c7, c8, c9, c10, c11, c12, c13⟩, hz, hbw⟩ : EcE w w1 kd p0 p1 s0 s1 s2 s3 sp r0 r1 m0 m1 t0 t1).keep hb2 hz
    clear c0 c1 c2 c3 c4 c5 c6 c7 c8 c9 c10 c11 c12 c13 hz hbw hb2
    obtain ⟨⟨c0, c1, c2, c3, c4, c5, c6, c7, c8, c9, c10, c11, c12, c13⟩, hz, hbw⟩ := O2
    go_wp2_with fail
    refine (isPower_any _ _ _).mono ?_; rintro e w3 ⟨rfl, hb3⟩
    have O3 := (⟨⟨c0, c1, c2, c3, c4, c5, c6, c7, c8, c9, c10, c11, c12, c13⟩, hz, hbw⟩ : EcE w w2 kd p0 p1 s0 s1 s2 s3 sp r0 r1 m0 m1 t0 t1).keep hb3 hz
    clear c0 c1 c2 c3 c4 c5 c6 c7 c8 c9 c10 c11 c12 c13 hz hbw hb3
    obtain ⟨⟨c0, c1, c2, c3, c4, c5, c6, c7, c8, c9, c10, c11, c12, c13⟩, hz, hbw⟩ := O3
    go_wp2
    go_ret
    exact ⟨rfl, hbw⟩
  · have h : heardB p0 p1 sp r0 r1 m0 m1 = false := by unfold heardB; rw [a1, a2, a3, a4]; simp
    rw [h]; clear h
    go_enter Try.func52, Try.ntmps52
    go_wp2_with fail
    refine (isWithin_any _ _ _ _ _).mono ?_; rintro e w1 ⟨rfl, hb1⟩
    obtain ⟨⟨c0, c1, c2, c3, c4, c5, c6, c7, c8, c9, c10, c11, c12, c13⟩, hz, hbw⟩ := (EcE.new w kd p0 p1 s0 s1 s2 s3 sp r0 r1 m0 m1 t0 t1).keep hb1 (by simp)
    clear hb1
    go_wp2_with fail
    refine (isWithin_any _ _ _ _ _).mono ?_; rintro e w2 ⟨rfl, hb2⟩
    have O2 := (⟨⟨c0, c1, c2, c3, c4, c5, c6, c7, c8, c9, c10, c11, c12, c13⟩, hz, hbw⟩ : EcE w w1 kd p0 p1 s0 s1 s2 s3 sp r0 r1 m0 m1 t0 t1).keep hb2 hz
    clear c0 c1 c2 c3 c4 c5 c6 c7 c8 c9 c10 c11 c12 c13 hz hbw hb2
    obtain ⟨⟨c0, c1, c2, c3, c4, c5, c6, c7, c8, c9, c10, c11, c12, c13⟩, hz, hbw⟩ := O2
    go_wp2_with fail
    refine (isPower_any _ _ _).mono ?_; rintro e w3 ⟨rfl, hb3⟩
    have O3 := (⟨⟨c0, c1, c2, c3, c4, c5, c6, c7, c8, c9, c10, c11, c12, c13⟩, hz, hbw⟩ : EcE w w2 kd p0 p1 s0 s1 s2 s3 sp r0 r1 m0 m1 t0 t1).keep hb3 hz
    clear c0 c1 c2 c3 c4 c5 c6 c7 c8 c9 c10 c11 c12 c13 hz hbw hb3
    obtain ⟨⟨c0, c1, c2, c3, c4, c5, c6, c7, c8, c9, c10, c11, c12, c13⟩, hz, hbw⟩ := O3
    go_wp2
    go_ret
    exact ⟨rfl, hbw⟩
  · have h : heardB p0 p1 sp r0 r1 m0 m1 = false := by unfold heardB; rw [a1, a2, a3, a4]; simp
    rw [h]; clear h
    go_enter Try.func52, Try.ntmps52
    go_wp2_with fail
    refine (isWithin_any _ _ _ _ _).mono ?_; rintro e w1 ⟨rfl, hb1⟩
    obtain ⟨⟨c0, c1, c2, c3, c4, c5, c6, c7, c8, c9, c10, c11, c12, c13⟩, hz, hbw⟩ := (EcE.new w kd p0 p1 s0 s1 s2 s3 sp r0 r1 m0 m1 t0 t1).keep hb1 (by simp)
    clear hb1
    go_wp2_with fail
    refine (isWithin_any _ _ _ _ _).mono ?_; rintro e w2 ⟨rfl, hb2⟩
    have O2 := (⟨⟨c0, c1, c2, c3, c4, c5, c6, c7, c8, c9, c10, c11, c12, c13⟩, hz, hbw⟩ : EcE w w1 kd p0 p1 s0 s1 s2 s3 sp r0 r1 m0 m1 t0 t1).keep hb2 hz
    clear c0 c1 c2 c3 c4 c5 c6 c7 c8 c9 c10 c11 c12 c13 hz hbw hb2
    obtain ⟨⟨c0, c1, c2, c3, c4, c5, c6, c7, c8, c9, c10, c11, c12, c13⟩, hz, hbw⟩ := O2
    go_wp2_with fail
    refine (isPower_any _ _ _).mono ?_; rintro e w3 ⟨rfl, hb3⟩
    have O3 := (⟨⟨c0, c1, c2, c3, c4, c5, c6, c7, c8, c9, c10, c11, c12, c13⟩, hz, hbw⟩ : EcE w w2 kd p0 p1 s0 s1 s2 s3 sp r0 r1 m0 m1 t0 t1).keep hb3 hz
    clear c0 c1 c2 c3 c4 c5 c6 c7 c8 c9 c10 c11 c12 c13 hz hbw hb3
    obtain ⟨⟨c0, c1, c2, c3, c4, c5, c6, c7, c8, c9, c10, c11, c12, c13⟩, hz, hbw⟩ := O3
    go_wp2
    go_ret
    exact ⟨rfl, hbw⟩
  · have h : heardB p0 p1 sp r0 r1 m0 m1 = false := by unfold heardB; rw [a1, a2, a3, a4]; simp
    rw [h]; clear h
    go_enter Try.func52, Try.ntmps52
    go_wp2_with fail
    refine (isWithin_any _ _ _ _ _).mono ?_; rintro e w1 ⟨rfl, hb1⟩
    obtain ⟨⟨c0, c1, c2, c3, c4, c5, c6, c7, c8, c9, c10, c11, c12, c13⟩, hz, hbw⟩ := (EcE.new w kd p0 p1 s0 s1 s2 s3 sp r0 r1 m0 m1 t0 t1).keep hb1 (by simp)
    clear hb1
    go_wp2_with fail
    refine (isWithin_any _ _ _ _ _).mono ?_; rintro e w2 ⟨rfl, hb2⟩
    have O2 := (⟨⟨c0, c1, c2, c3, c4, c5, c6, c7, c8, c9, c10, c11, c12, c13⟩, hz, hbw⟩ : EcE w w1 kd p0 p1 s0 s1 s2 s3 sp r0 r1 m0 m1 t0 t1).keep hb2 hz
    clear c0 c1 c2 c3 c4 c5 c6 c7 c8 c9 c10 c11 c12 c13 hz hbw hb2
    obtain ⟨⟨c0, c1, c2, c3, c4, c5, c6, c7, c8, c9, c10, c11, c12, c13⟩, hz, hbw⟩ := O2
    go_wp2_with fail
    refine (isPower_any _ _ _).mono ?_; rintro e w3 ⟨rfl, hb3⟩
    have O3 := (⟨⟨c0, c1, c2, c3, c4, c5, c6, c7, c8, c9, c10, c11, c12, c13⟩, hz, hbw⟩ : EcE w w2 kd p0 p1 s0 s1 s2 s3 sp r0 r1 m0 m1 t0 t1).keep hb3 hz
    clear c0 c1 c2 c3 c4 c5 c6 c7 c8 c9 c10 c11 c12 c13 hz hbw hb3
    obtain ⟨⟨c0, c1, c2, c3, c4, c5, c6, c7, c8, c9, c10, c11, c12, c13⟩, hz, hbw⟩ := O3
    go_wp2
    go_ret
    exact ⟨rfl, hbw⟩
  · have h : heardB p0 p1 sp r0 r1 m0 m1 = false := by unfold heardB; rw [a1, a2, a3, a4]; simp
    rw [h]; clear h
    go_enter Try.func52, Try.ntmps52
    go_wp2_with fail
    refine (isWithin_any _ _ _ _ _).mono ?_; rintro e w1 ⟨rfl, hb1⟩
    obtain ⟨⟨c0, c1, c2, c3, c4, c5, c6, c7, c8, c9, c10, c11, c12, c13⟩, hz, hbw⟩ := (EcE.new w kd p0 p1 s0 s1 s2 s3 sp r0 r1 m0 m1 t0 t1).keep hb1 (by simp)
    clear hb1
    go_wp2_with fail
    refine (isWithin_any _ _ _ _ _).mono ?_; rintro e w2 ⟨rfl, hb2⟩
    have O2 := (⟨⟨c0, c1, c2, c3, c4, c5, c6, c7, c8, c9, c10, c11, c12, c13⟩, hz, hbw⟩ : EcE w w1 kd p0 p1 s0 s1 s2 s3 sp r0 r1 m0 m1 t0 t1).keep hb2 hz
    clear c0 c1 c2 c3 c4 c5 c6 c7 c8 c9 c10 c11 c12 c13 hz hbw hb2
    obtain ⟨⟨c0, c1, c2, c3, c4, c5, c6, c7, c8, c9, c10, c11, c12, c13⟩, hz, hbw⟩ := O2
    go_wp2_with fail
    refine (isPower_any _ _ _).mono ?_; rintro e w3 ⟨rfl, hb3⟩
    have O3 := (⟨⟨c0, c1, c2, c3, c4, c5, c6, c7, c8, c9, c10, c11, c12, c13⟩, hz, hbw⟩ : EcE w w2 kd p0 p1 s0 s1 s2 s3 sp r0 r1 m0 m1 t0 t1).keep hb3 hz
    clear c0 c1 c2 c3 c4 c5 c6 c7 c8 c9 c10 c11 c12 c13 hz hbw hb3
    obtain ⟨⟨c0, c1, c2, c3, c4, c5, c6, c7, c8, c9, c10, c11, c12, c13⟩, hz, hbw⟩ := O3
    go_wp2
    go_ret
    exact ⟨rfl, hbw⟩
  · have h : heardB p0 p1 sp r0 r1 m0 m1 = false := by unfold heardB; rw [a1, a2, a3, a4]; simp
    rw [h]; clear h
    go_enter Try.func52, Try.ntmps52
    go_wp2_with fail
    refine (isWithin_any _ _ _ _ _).mono ?_; rintro e w1 ⟨rfl, hb1⟩
    obtain ⟨⟨c0, c1, c2, c3, c4, c5, c6, c7, c8, c9, c10, c11, c12, c13⟩, hz, hbw⟩ := (EcE.new w kd p0 p1 s0 s1 s2 s3 sp r0 r1 m0 m1 t0 t1).keep hb1 (by simp)
    clear hb1
    go_wp2_with fail
    refine (isWithin_any _ _ _ _ _).mono ?_; rintro e w2 ⟨rfl, hb2⟩
    have O2 := (⟨⟨c0, c1, c2, c3, c4, c5, c6, c7, c8, c9, c10, c11, c12, c13⟩, hz, hbw⟩ : EcE w w1 kd p0 p1 s0 s1 s2 s3 sp r0 r1 m0 m1 t0 t1).keep hb2 hz
    clear c0 c1 c2 c3 c4 c5 c6 c7 c8 c9 c10 c11 c12 c13 hz hbw hb2
    obtain ⟨⟨c0, c1, c2, c3, c4, c5, c6, c7, c8, c9, c10, c11, c12, c13⟩, hz, hbw⟩ := O2
    go_wp2_with fail
    refine (isPower_any _ _ _).mono ?_; rintro e w3 ⟨rfl, hb3⟩
    have O3 := (⟨⟨c0, c1, c2, c3, c4, c5, c6, c7, c8, c9, c10, c11, c12, c13⟩, hz, hbw⟩ : EcE w w2 kd p0 p1 s0 s1 s2 s3 sp r0 r1 m0 m1 t0 t1).keep hb3 hz
    clear c0 c1 c2 c3 c4 c5 c6 c7 c8 c9 c10 c11 c12 c13 hz hbw hb3
    obtain ⟨⟨c0, c1, c2, c3, c4, c5, c6, c7, c8, c9, c10, c11, c12, c13⟩, hz, hbw⟩ := O3
    go_wp2
    go_ret
    exact ⟨rfl, hbw⟩
  · have h : heardB p0 p1 sp r0 r1 m0 m1 = false := by unfold heardB; rw [a1, a2, a3, a4]; simp
    rw [h]; clear h
    go_enter Try.func52, Try.ntmps52
    go_wp2_with fail
    refine (isWithin_any _ _ _ _ _).mono ?_; rintro e w1 ⟨rfl, hb1⟩
    obtain ⟨⟨c0, c1, c2, c3, c4, c5, c6, c7, c8, c9, c10, c11, c12, c13⟩, hz, hbw⟩ := (EcE.new w kd p0 p1 s0 s1 s2 s3 sp r0 r1 m0 m1 t0 t1).keep hb1 (by simp)
    clear hb1
    go_wp2_with fail
    refine (isWithin_any _ _ _ _ _).mono ?_; rintro e w2 ⟨rfl, hb2⟩
    have O2 := (⟨⟨c0, c1, c2, c3, c4, c5, c6, c7, c8, c9, c10, c11, c12, c13⟩, hz, hbw⟩ : EcE w w1 kd p0 p1 s0 s1 s2 s3 sp r0 r1 m0 m1 t0 t1).keep hb2 hz
    clear c0 c1 c2 c3 c4 c5 c6 c7 c8 c9 c10 c11 c12 c13 hz hbw hb2
    obtain ⟨⟨c0, c1, c2, c3, c4, c5, c6, c7, c8, c9, c10, c11, c12, c13⟩, hz, hbw⟩ := O2
    go_wp2_with fail
    refine (isPower_any _ _ _).mono ?_; rintro e w3 ⟨rfl, hb3⟩
    have O3 := (⟨⟨c0, c1, c2, c3, c4, c5, c6, c7, c8, c9, c10, c11, c12, c13⟩, hz, hbw⟩ : EcE w w2 kd p0 p1 s0 s1 s2 s3 sp r0 r1 m0 m1 t0 t1).keep hb3 hz
    clear c0 c1 c2 c3 c4 c5 c6 c7 c8 c9 c10 c11 c12 c13 hz hbw hb3
    obtain ⟨⟨c0, c1, c2, c3, c4, c5, c6, c7, c8, c9, c10, c11, c12, c13⟩, hz, hbw⟩ := O3
    go_wp2
    go_ret
    exact ⟨rfl, hbw⟩
  · have h : heardB p0 p1 sp r0 r1 m0 m1 = false := by unfold heardB; rw [a1, a2, a3, a4]; simp
    rw [h]; clear h
    go_enter Try.func52, Try.ntmps52
    go_wp2_with fail
    refine (isWithin_any _ _ _ _ _).mono ?_; rintro e w1 ⟨rfl, hb1⟩
    obtain ⟨⟨c0, c1, c2, c3, c4, c5, c6, c7, c8, c9, c10, c11, c12, c13⟩, hz, hbw⟩ := (EcE.new w kd p0 p1 s0 s1 s2 s3 sp r0 r1 m0 m1 t0 t1).keep hb1 (by simp)
    clear hb1
    go_wp2_with fail
    refine (isPower_any _ _ _).mono ?_; rintro e w2 ⟨rfl, hb2⟩
    have O2 := (⟨⟨c0, c1, c2, c3, c4, c5, c6, c7, c8, c9, c10, c11, c12, c13⟩, hz, hbw⟩ : EcE w w1 kd p0 p1 s0 s1 s2 s3 sp r0 r1 m0 m1 t0 t1).keep hb2 hz
    clear c0 c1 c2 c3 c4 c5 c6 c7 c8 c9 c10 c11 c12 c13 hz hbw hb2
    obtain ⟨⟨c0, c1, c2, c3, c4, c5, c6, c7, c8, c9, c10, c11, c12, c13⟩, hz, hbw⟩ := O2
    go_wp2
    go_ret
    exact ⟨rfl, hbw⟩
  · have h : heardB p0 p1 sp r0 r1 m0 m1 = false := by unfold heardB; rw [a1, a2, a3, a4]; simp
    rw [h]; clear h
    go_enter Try.func52, Try.ntmps52
    go_wp2_with fail
    refine (isWithin_any _ _ _ _ _).mono ?_; rintro e w1 ⟨rfl, hb1⟩
    obtain ⟨⟨c0, c1, c2, c3, c4, c5, c6, c7, c8, c9, c10, c11, c12, c13⟩, hz, hbw⟩ := (EcE.new w kd p0 p1 s0 s1 s2 s3 sp r0 r1 m0 m1 t0 t1).keep hb1 (by simp)
    clear hb1
    go_wp2_with fail
    refine (isPower_any _ _ _).mono ?_; rintro e w2 ⟨rfl, hb2⟩
    have O2 := (⟨⟨c0, c1, c2, c3, c4, c5, c6, c7, c8, c9, c10, c11, c12, c13⟩, hz, hbw⟩ : EcE w w1 kd p0 p1 s0 s1 s2 s3 sp r0 r1 m0 m1 t0 t1).keep hb2 hz
    clear c0 c1 c2 c3 c4 c5 c6 c7 c8 c9 c10 c11 c12 c13 hz hbw hb2
    obtain ⟨⟨c0, c1, c2, c3, c4, c5, c6, c7, c8, c9, c10, c11, c12, c13⟩, hz, hbw⟩ := O2
    go_wp2
    go_ret
    exact ⟨rfl, hbw⟩
  · have h : heardB p0 p1 sp r0 r1 m0 m1 = false := by unfold heardB; rw [a1, a2, a3, a4]; simp
    rw [h]; clear h
    go_enter Try.func52, Try.ntmps52
    go_wp2_with fail
    refine (isWithin_any _ _ _ _ _).mono ?_; rintro e w1 ⟨rfl, hb1⟩
    obtain ⟨⟨c0, c1, c2, c3, c4, c5, c6, c7, c8, c9, c10, c11, c12, c13⟩, hz, hbw⟩ := (EcE.new w kd p0 p1 s0 s1 s2 s3 sp r0 r1 m0 m1 t0 t1).keep hb1 (by simp)
    clear hb1
    go_wp2_with fail
    refine (isPower_any _ _ _).mono ?_; rintro e w2 ⟨rfl, hb2⟩
    have O2 := (⟨⟨c0, c1, c2, c3, c4, c5, c6, c7, c8, c9, c10, c11, c12, c13⟩, hz, hbw⟩ : EcE w w1 kd p0 p1 s0 s1 s2 s3 sp r0 r1 m0 m1 t0 t1).keep hb2 hz
    clear c0 c1 c2 c3 c4 c5 c6 c7 c8 c9 c10 c11 c12 c13 hz hbw hb2
    obtain ⟨⟨c0, c1, c2, c3, c4, c5, c6, c7, c8, c9, c10, c11, c12, c13⟩, hz, hbw⟩ := O2
    go_wp2
    go_ret
    exact ⟨rfl, hbw⟩
  · have h : heardB p0 p1 sp r0 r1 m0 m1 = false := by unfold heardB; rw [a1, a2, a3, a4]; simp
    rw [h]; clear h
    go_enter Try.func52, Try.ntmps52
    go_wp2_with fail
    refine (isWithin_any _ _ _ _ _).mono ?_; rintro e w1 ⟨rfl, hb1⟩
    obtain ⟨⟨c0, c1, c2, c3, c4, c5, c6, c7, c8, c9, c10, c11, c12, c13⟩, hz, hbw⟩ := (EcE.new w kd p0 p1 s0 s1 s2 s3 sp r0 r1 m0 m1 t0 t1).keep hb1 (by simp)
    clear hb1
    go_wp2_with fail
    refine (isPower_any _ _ _).mono ?_; rintro e w2 ⟨rfl, hb2⟩
    have O2 := (⟨⟨c0, c1, c2, c3, c4, c5, c6, c7, c8, c9, c10, c11, c12, c13⟩, hz, hbw⟩ : EcE w w1 kd p0 p1 s0 s1 s2 s3 sp r0 r1 m0 m1 t0 t1).keep hb2 hz
    clear c0 c1 c2 c3 c4 c5 c6 c7 c8 c9 c10 c11 c12 c13 hz hbw hb2
    obtain ⟨⟨c0, c1, c2, c3, c4, c5, c6, c7, c8, c9, c10, c11, c12, c13⟩, hz, hbw⟩ := O2
    go_wp2
    go_ret
    exact ⟨rfl, hbw⟩
  · have h : heardB p0 p1 sp r0 r1 m0 m1 = false := by unfold heardB; rw [a1, a2, a3, a4]; simp
    rw [h]; clear h
    go_enter Try.func52, Try.ntmps52
    go_wp2_with fail
    refine (isWithin_any _ _ _ _ _).mono ?_; rintro e w1 ⟨rfl, hb1⟩
    obtain ⟨⟨c0, c1, c2, c3, c4, c5, c6, c7, c8, c9, c10, c11, c12, c13⟩, hz, hbw⟩ := (EcE.new w kd p0 p1 s0 s1 s2 s3 sp r0 r1 m0 m1 t0 t1).keep hb1 (by simp)
    clear hb1
    go_wp2_with fail
    refine (isPower_any _ _ _).mono ?_; rintro e w2 ⟨rfl, hb2⟩
    have O2 := (⟨⟨c0, c1, c2, c3, c4, c5, c6, c7, c8, c9, c10, c11, c12, c13⟩, hz, hbw⟩ : EcE w w1 kd p0 p1 s0 s1 s2 s3 sp r0 r1 m0 m1 t0 t1).keep hb2 hz
    clear c0 c1 c2 c3 c4 c5 c6 c7 c8 c9 c10 c11 c12 c13 hz hbw hb2
    obtain ⟨⟨c0, c1, c2, c3, c4, c5, c6, c7, c8, c9, c10, c11, c12, c13⟩, hz, hbw⟩ := O2
    go_wp2
    go_ret
    exact ⟨rfl, hbw⟩
  · have h : heardB p0 p1 sp r0 r1 m0 m1 = false := by unfold heardB; rw [a1, a2, a3, a4]; simp
    rw [h]; clear h
    go_enter Try.func52, Try.ntmps52
    go_wp2_with fail
    refine (isWithin_any _ _ _ _ _).mono ?_; rintro e w1 ⟨rfl, hb1⟩
    obtain ⟨⟨c0, c1, c2, c3, c4, c5, c6, c7, c8, c9, c10, c11, c12, c13⟩, hz, hbw⟩ := (EcE.new w kd p0 p1 s0 s1 s2 s3 sp r0 r1 m0 m1 t0 t1).keep hb1 (by simp)
    clear hb1
    go_wp2_with fail
    refine (isPower_any _ _ _).mono ?_; rintro e w2 ⟨rfl, hb2⟩
    have O2 := (⟨⟨c0, c1, c2, c3, c4, c5, c6, c7, c8, c9, c10, c11, c12, c13⟩, hz, hbw⟩ : EcE w w1 kd p0 p1 s0 s1 s2 s3 sp r0 r1 m0 m1 t0 t1).keep hb2 hz
    clear c0 c1 c2 c3 c4 c5 c6 c7 c8 c9 c10 c11 c12 c13 hz hbw hb2
    obtain ⟨⟨c0, c1, c2, c3, c4, c5, c6, c7, c8, c9, c10, c11, c12, c13⟩, hz, hbw⟩ := O2
    go_wp2
    go_ret
    exact ⟨rfl, hbw⟩
  · have h : heardB p0 p1 sp r0 r1 m0 m1 = false := by unfold heardB; rw [a1, a2, a3, a4]; simp
    rw [h]; clear h
    go_enter Try.func52, Try.ntmps52
    go_wp2_with fail
    refine (isWithin_any _ _ _ _ _).mono ?_; rintro e w1 ⟨rfl, hb1⟩
    obtain ⟨⟨c0, c1, c2, c3, c4, c5, c6, c7, c8, c9, c10, c11, c12, c13⟩, hz, hbw⟩ := (EcE.new w kd p0 p1 s0 s1 s2 s3 sp r0 r1 m0 m1 t0 t1).keep hb1 (by simp)
    clear hb1
    go_wp2_with fail
    refine (isPower_any _ _ _).mono ?_; rintro e w2 ⟨rfl, hb2⟩
    have O2 := (⟨⟨c0, c1, c2, c3, c4, c5, c6, c7, c8, c9, c10, c11, c12, c13⟩, hz, hbw⟩ : EcE w w1 kd p0 p1 s0 s1 s2 s3 sp r0 r1 m0 m1 t0 t1).keep hb2 hz
    clear c0 c1 c2 c3 c4 c5 c6 c7 c8 c9 c10 c11 c12 c13 hz hbw hb2
    obtain ⟨⟨c0, c1, c2, c3, c4, c5, c6, c7, c8, c9, c10, c11, c12, c13⟩, hz, hbw⟩ := O2
    go_wp2
    go_ret
    exact ⟨rfl, hbw⟩
  · have h : heardB p0 p1 sp r0 r1 m0 m1 = false := by unfold heardB; rw [a1, a2, a3, a4]; simp
    rw [h]; clear h
    go_enter Try.func52, Try.ntmps52
    go_wp2_with fail
    refine (isWithin_any _ _ _ _ _).mono ?_; rintro e w1 ⟨rfl, hb1⟩
    obtain ⟨⟨c0, c1, c2, c3, c4, c5, c6, c7, c8, c9, c10, c11, c12, c13⟩, hz, hbw⟩ := (EcE.new w kd p0 p1 s0 s1 s2 s3 sp r0 r1 m0 m1 t0 t1).keep hb1 (by simp)
    clear hb1
    go_wp2_with fail
    refine (isPower_any _ _ _).mono ?_; rintro e w2 ⟨rfl, hb2⟩
    have O2 := (⟨⟨c0, c1, c2, c3, c4, c5, c6, c7, c8, c9, c10, c11, c12, c13⟩, hz, hbw⟩ : EcE w w1 kd p0 p1 s0 s1 s2 s3 sp r0 r1 m0 m1 t0 t1).keep hb2 hz
    clear c0 c1 c2 c3 c4 c5 c6 c7 c8 c9 c10 c11 c12 c13 hz hbw hb2
    obtain ⟨⟨c0, c1, c2, c3, c4, c5, c6, c7, c8, c9, c10, c11, c12, c13⟩, hz, hbw⟩ := O2
    go_wp2
    go_ret
    exact ⟨rfl, hbw⟩

end Go.Proofs.Ytmojnopgpgnfeaa

namespace Go.Proofs.Ytmojnopgpgnfeaa
open Go.RowKit
set_option linter.unusedVariables false

set_option maxHeartbeats 800000 in
theorem eq129 (a b a' b' : Int) (w : World) : (Op.equalIn 10000 129 (.agg #[.int .i64 a, .int .i64 b]) (.agg #[.int .i64 a', .int .i64 b'])).run Try.prog w = .ok (a == a' && b == b') w := by
  have u3 := Try.underlying3
  have a3 := Try.isAgg3
  have z3 := Try.sizeOf3
  rw [show (10000 : Nat) = 9999 + 1 from rfl, Op.equalIn]
  simp only [Sem.run_bind, run_underlying Try.underlying129, Result.andThen_ok]
  simp only [Std.Legacy.Range.forIn_eq_forIn_range', Std.Legacy.Range.size, Nat.sub_zero, Nat.add_sub_cancel, Nat.div_one, List.range'_succ, List.range'_zero, List.forIn_cons, List.forIn_nil]
  go_simp
  by_cases h1 : a = a' <;> by_cases h2 : b = b' <;> simp [h1, h2]

end Go.Proofs.Ytmojnopgpgnfeaa
