/-
  RainKnown, walked.
-/
import Derived.Test.YtdmbkhmhaininaaXK
import Derived.Test.YtdmbkhmhaininaaY0
import Derived.Deep.Cut
import Derived.Laws.StructEq
import Derived.Laws.Tables
import Derived.Laws.Cover2
import Derived.KernelRfl
namespace Go.Proofs.Ytdmbkhmhaininaa
open Go.RowKit
set_option linter.unusedVariables false
set_option linter.unusedSimpArgs false

set_option maxHeartbeats 800000 in
theorem eq76 (a b a' b' : Int) (w : World) : (Op.equalIn 10000 76 (.agg #[.int .i64 a, .int .i64 b]) (.agg #[.int .i64 a', .int .i64 b'])).run Try.prog w = .ok (a == a' && b == b') w := by
  have u3 := Try.underlying3
  have a3 := Try.isAgg3
  have z3 := Try.sizeOf3
  rw [show (10000 : Nat) = 9999 + 1 from rfl, Op.equalIn]
  simp only [Sem.run_bind, run_underlying Try.underlying76, Result.andThen_ok]
  simp only [Std.Legacy.Range.forIn_eq_forIn_range', Std.Legacy.Range.size, Nat.sub_zero, Nat.add_sub_cancel, Nat.div_one, List.range'_succ, List.range'_zero, List.forIn_cons, List.forIn_nil]
  go_simp
  by_cases h1 : a = a' <;> by_cases h2 : b = b' <;> simp [h1, h2]
theorem NS.make {w W : World} (b : Below w.heap.size w W) (x y : Int) (t : TypeId) : NS w (W.alloc (.cells #[.int .i64 x, .int .i64 y] t)) W.heap.size x y :=
  ⟨alloc_new rfl rfl, alloc_new rfl rfl, alloc_newF rfl, alloc_newF rfl, b.size, by rw [World.size_alloc]; omega, b.trans ((below_alloc _ _).mono b.size)⟩
theorem NS.put {w W : World} {q : Nat} {x y : Int} (s : NS w W q x y) (u v : Int) : NS w ((W.setCell ⟨q, 0, none⟩ (.int .i64 u)).setCell ⟨q, 1, none⟩ (.int .i64 v)) q u v :=
  ⟨set_other (by decide) (set_same s.c0), set_same (set_other (by decide) s.c1), by simp; exact s.f0, by simp; exact s.f1, s.l, by simp; exact s.z, (s.b.setCell (p := ⟨q, 0, none⟩) s.l _).setCell (p := ⟨q, 1, none⟩) s.l _⟩
theorem NS.far {w W : World} {q p j : Nat} {x y : Int} {v : Value} (s : NS w W q x y) (h : p ≠ q) (l : w.heap.size ≤ p) : NS w (W.setCell ⟨p, j, none⟩ v) q x y :=
  ⟨cell_far h s.c0, cell_far h s.c1, by simp; exact s.f0, by simp; exact s.f1, s.l, by simp; exact s.z, s.b.setCell (p := ⟨p, j, none⟩) l _⟩
theorem NS.far2 {w W : World} {q p : Nat} {x y : Int} {u v : Value} (s : NS w W q x y) (h : p ≠ q) (l : w.heap.size ≤ p) : NS w ((W.setCell ⟨p, 0, none⟩ u).setCell ⟨p, 1, none⟩ v) q x y := (s.far h l).far h l
structure MB (w W : World) (q l t : Nat) : Prop where
  d0 : W.cell? ⟨q, 0, none⟩ = some (.slice (some ⟨l, 0, none⟩) 2 2)
  d1 : W.cell? ⟨q, 1, none⟩ = some (.slice (some ⟨t, 0, none⟩) 3 3)
  d2 : W.cell? ⟨q, 2, none⟩ = some (.int .i64 2000)
  d3 : W.cell? ⟨q, 3, none⟩ = some (.int .i64 2500)
  d4 : W.cell? ⟨q, 4, none⟩ = some (.int .i64 200)
  d5 : W.cell? ⟨q, 5, none⟩ = some (.int .i64 1000)
  d6 : W.cell? ⟨q, 6, none⟩ = some (.int .i64 1000)
  d7 : W.cell? ⟨q, 7, none⟩ = some (.int .i64 3000)
  sL : SpansAt W l 0 2 lZ
  sT : SpansAt W t 0 3 tZ
  lz : l < W.heap.size
  tz : t < W.heap.size
  z : q < W.heap.size
  b : Below w.heap.size w W
theorem MB.keep {w W w1 : World} {q l t : Nat} (s : MB w W q l t) (hb : Below W.heap.size W w1) : MB w w1 q l t :=
  ⟨keepB hb s.z s.d0, keepB hb s.z s.d1, keepB hb s.z s.d2, keepB hb s.z s.d3, keepB hb s.z s.d4, keepB hb s.z s.d5, keepB hb s.z s.d6, keepB hb s.z s.d7, s.sL.keep hb s.lz, s.sT.keep hb s.tz, Nat.lt_of_lt_of_le s.lz hb.size, Nat.lt_of_lt_of_le s.tz hb.size, Nat.lt_of_lt_of_le s.z hb.size, s.b.trans (hb.mono s.b.size)⟩
theorem MB.far {w W : World} {q l t p j : Nat} {v : Value} (s : MB w W q l t) (h : p ≠ q) (hl : p ≠ l) (ht : p ≠ t) (g : w.heap.size ≤ p) : MB w (W.setCell ⟨p, j, none⟩ v) q l t :=
  ⟨cell_far h s.d0, cell_far h s.d1, cell_far h s.d2, cell_far h s.d3, cell_far h s.d4, cell_far h s.d5, cell_far h s.d6, cell_far h s.d7, fun i hi => ⟨cell_far hl (s.sL i hi).1, cell_far hl (s.sL i hi).2⟩, fun i hi => ⟨cell_far ht (s.sT i hi).1, cell_far ht (s.sT i hi).2⟩, by simp; exact s.lz, by simp; exact s.tz, by simp; exact s.z, s.b.setCell (p := ⟨p, j, none⟩) g _⟩
theorem MB.far2 {w W : World} {q l t p : Nat} {u v : Value} (s : MB w W q l t) (h : p ≠ q) (hl : p ≠ l) (ht : p ≠ t) (g : w.heap.size ≤ p) : MB w ((W.setCell ⟨p, 0, none⟩ u).setCell ⟨p, 1, none⟩ v) q l t := (s.far h hl ht g).far h hl ht g
theorem MB.make {w W : World} {l t : Nat} (b : Below w.heap.size w W) (sL : SpansAt W l 0 2 lZ) (sT : SpansAt W t 0 3 tZ) (lz : l < W.heap.size) (tz : t < W.heap.size) : MB w (W.alloc (.cells #[.slice (some ⟨l, 0, none⟩) 2 2, .slice (some ⟨t, 0, none⟩) 3 3, .int .i64 2000, .int .i64 2500, .int .i64 200, .int .i64 1000, .int .i64 1000, .int .i64 3000] 26)) W.heap.size l t :=
  ⟨alloc_new rfl rfl, alloc_new rfl rfl, alloc_new rfl rfl, alloc_new rfl rfl, alloc_new rfl rfl, alloc_new rfl rfl, alloc_new rfl rfl, alloc_new rfl rfl, sL.keep (below_alloc _ _) lz, sT.keep (below_alloc _ _) tz, by rw [World.size_alloc]; omega, by rw [World.size_alloc]; omega, by rw [World.size_alloc]; omega, b.trans ((below_alloc _ _).mono b.size)⟩
/-- a box of a pair -/
structure PB (w W : World) (q : Nat) (x y u v : Int) : Prop where
  c0 : W.cell? ⟨q, 0, none⟩ = some (.int .i64 x)
  c1 : W.cell? ⟨q, 1, none⟩ = some (.int .i64 y)
  c2 : W.cell? ⟨q, 2, none⟩ = some (.int .i64 u)
  c3 : W.cell? ⟨q, 3, none⟩ = some (.int .i64 v)
  f0 : W.frozen? ⟨q, 0, none⟩ = false
  f1 : W.frozen? ⟨q, 1, none⟩ = false
  f2 : W.frozen? ⟨q, 2, none⟩ = false
  f3 : W.frozen? ⟨q, 3, none⟩ = false
  l : w.heap.size ≤ q
  z : q < W.heap.size
  b : Below w.heap.size w W
theorem PB.keep {w W w1 : World} {q : Nat} {x y u v : Int} (s : PB w W q x y u v) (hb : Below W.heap.size W w1) : PB w w1 q x y u v :=
  ⟨keepB hb s.z s.c0, keepB hb s.z s.c1, keepB hb s.z s.c2, keepB hb s.z s.c3, keepF hb s.z s.f0, keepF hb s.z s.f1, keepF hb s.z s.f2, keepF hb s.z s.f3, s.l, Nat.lt_of_lt_of_le s.z hb.size, s.b.trans (hb.mono s.b.size)⟩
theorem PB.far {w W : World} {q p j : Nat} {x y u v : Int} {t : Value} (s : PB w W q x y u v) (h : p ≠ q) (l : w.heap.size ≤ p) : PB w (W.setCell ⟨p, j, none⟩ t) q x y u v :=
  ⟨cell_far h s.c0, cell_far h s.c1, cell_far h s.c2, cell_far h s.c3, by simp; exact s.f0, by simp; exact s.f1, by simp; exact s.f2, by simp; exact s.f3, s.l, by simp; exact s.z, s.b.setCell (p := ⟨p, j, none⟩) l _⟩
theorem PB.far2 {w W : World} {q p : Nat} {x y u v : Int} {t s' : Value} (s : PB w W q x y u v) (h : p ≠ q) (l : w.heap.size ≤ p) : PB w ((W.setCell ⟨p, 0, none⟩ t).setCell ⟨p, 1, none⟩ s') q x y u v := (s.far h l).far h l
theorem PB.make {w W : World} (b : Below w.heap.size w W) (x y u v : Int) (t : TypeId) : PB w (W.alloc (.cells #[.int .i64 x, .int .i64 y, .int .i64 u, .int .i64 v] t)) W.heap.size x y u v :=
  ⟨alloc_new rfl rfl, alloc_new rfl rfl, alloc_new rfl rfl, alloc_new rfl rfl, alloc_newF rfl, alloc_newF rfl, alloc_newF rfl, alloc_newF rfl, b.size, by rw [World.size_alloc]; omega, b.trans ((below_alloc _ _).mono b.size)⟩
theorem PB.put {w W : World} {q : Nat} {x y u v : Int} (s : PB w W q x y u v) (a b : Int) : PB w ((W.setCell ⟨q, 0, none⟩ (.int .i64 a)).setCell ⟨q, 1, none⟩ (.int .i64 b)) q a b u v :=
  ⟨set_other (by decide) (set_same s.c0), set_same (set_other (by decide) s.c1), set_other (by decide) (set_other (by decide) s.c2), set_other (by decide) (set_other (by decide) s.c3), by simp; exact s.f0, by simp; exact s.f1, by simp; exact s.f2, by simp; exact s.f3, s.l, by simp; exact s.z, (s.b.setCell (p := ⟨q, 0, none⟩) s.l _).setCell (p := ⟨q, 1, none⟩) s.l _⟩
theorem PB.put2 {w W : World} {q : Nat} {x y u v : Int} (s : PB w W q x y u v) (a : Int) : PB w (W.setCell ⟨q, 2, none⟩ (.int .i64 a)) q x y a v :=
  ⟨set_other (by decide) s.c0, set_other (by decide) s.c1, set_same s.c2, set_other (by decide) s.c3, by simp; exact s.f0, by simp; exact s.f1, by simp; exact s.f2, by simp; exact s.f3, s.l, by simp; exact s.z, s.b.setCell (p := ⟨q, 2, none⟩) s.l _⟩
theorem rK_at (w : World) (t : TypeId) : RecsAt (w.alloc (.cells #[.int .i64 0, .int .i64 360, .int .i64 360, .int .i64 100, .int .i64 720, .int .i64 720] t)) w.heap.size 0 2 rK := fun i hi => by
  match i, hi with
  | 0, _ => exact ⟨alloc_new rfl rfl, alloc_new rfl rfl, alloc_new rfl rfl⟩
  | 1, _ => exact ⟨alloc_new rfl rfl, alloc_new rfl rfl, alloc_new rfl rfl⟩
theorem aK_at (w : World) (t : TypeId) : PrsAt (w.alloc (.cells #[.int .i64 1000, .int .i64 2000, .int .i64 3, .int .i64 200, .int .i64 4000, .int .i64 4000, .int .i64 10, .int .i64 200] t)) w.heap.size 0 2 aK := fun i hi => by
  match i, hi with
  | 0, _ => exact ⟨alloc_new rfl rfl, alloc_new rfl rfl, alloc_new rfl rfl, alloc_new rfl rfl⟩
  | 1, _ => exact ⟨alloc_new rfl rfl, alloc_new rfl rfl, alloc_new rfl rfl, alloc_new rfl rfl⟩
theorem aM_at (w : World) (t : TypeId) : PrsAt (w.alloc (.cells #[.int .i64 1000, .int .i64 1000, .int .i64 3, .int .i64 200, .int .i64 4000, .int .i64 4000, .int .i64 100, .int .i64 200] t)) w.heap.size 0 2 aM := fun i hi => by
  match i, hi with
  | 0, _ => exact ⟨alloc_new rfl rfl, alloc_new rfl rfl, alloc_new rfl rfl, alloc_new rfl rfl⟩
  | 1, _ => exact ⟨alloc_new rfl rfl, alloc_new rfl rfl, alloc_new rfl rfl, alloc_new rfl rfl⟩
theorem zK_at (w : World) (t : TypeId) : SpansAt (w.alloc (.cells #[.int .i64 0, .int .i64 0, .int .i64 3, .int .i64 1] t)) w.heap.size 0 2 zK := fun i hi => by
  match i, hi with
  | 0, _ => exact ⟨alloc_new rfl rfl, alloc_new rfl rfl⟩
  | 1, _ => exact ⟨alloc_new rfl rfl, alloc_new rfl rfl⟩
theorem mK_at (w : World) (t : TypeId) : SpansAt (w.alloc (.cells #[.int .i64 1000, .int .i64 1000, .int .i64 1000, .int .i64 1000, .int .i64 500, .int .i64 500] t)) w.heap.size 0 3 mK := fun i hi => by
  match i, hi with
  | 0, _ => exact ⟨alloc_new rfl rfl, alloc_new rfl rfl⟩
  | 1, _ => exact ⟨alloc_new rfl rfl, alloc_new rfl rfl⟩
  | 2, _ => exact ⟨alloc_new rfl rfl, alloc_new rfl rfl⟩
theorem mZ_at (w : World) (t : TypeId) : SpansAt (w.alloc (.cells #[.int .i64 1000, .int .i64 1000, .int .i64 500, .int .i64 500, .int .i64 125, .int .i64 125] t)) w.heap.size 0 3 mZ := fun i hi => by
  match i, hi with
  | 0, _ => exact ⟨alloc_new rfl rfl, alloc_new rfl rfl⟩
  | 1, _ => exact ⟨alloc_new rfl rfl, alloc_new rfl rfl⟩
  | 2, _ => exact ⟨alloc_new rfl rfl, alloc_new rfl rfl⟩
theorem mM_at (w : World) (t : TypeId) : SpansAt (w.alloc (.cells #[.int .i64 900, .int .i64 1100, .int .i64 500, .int .i64 500] t)) w.heap.size 0 2 mM := fun i hi => by
  match i, hi with
  | 0, _ => exact ⟨alloc_new rfl rfl, alloc_new rfl rfl⟩
  | 1, _ => exact ⟨alloc_new rfl rfl, alloc_new rfl rfl⟩
theorem mN_at (w : World) (t : TypeId) : SpansAt (w.alloc (.cells #[.int .i64 900, .int .i64 1100, .int .i64 909, .int .i64 1000] t)) w.heap.size 0 2 mN := fun i hi => by
  match i, hi with
  | 0, _ => exact ⟨alloc_new rfl rfl, alloc_new rfl rfl⟩
  | 1, _ => exact ⟨alloc_new rfl rfl, alloc_new rfl rfl⟩

set_option maxRecDepth 100000 in
set_option maxHeartbeats 25600000 in
theorem RainKnown_walk (w : World) : Calls Try.prog 12 #[] w fun e w' => e = .returned (.bool true) ∧ Below w.heap.size w w' := by
  go_enter Try.func12, Try.ntmps12
  go_wp2_with fail
  refine (T_any _).mono ?_; rintro e W1 ⟨rfl, sT, zT, hb1⟩
  go_wp2_with fail
  refine (Val101 _ _ sT zT).mono ?_; rintro e X1 ⟨rfl, hb2⟩
  have b1 := hb1.trans (hb2.mono hb1.size)
  clear sT zT hb1 hb2
  have s1 := NS.make b1 11 11 24
  have c0 := s1.c0
  have c1 := s1.c1
  obtain ⟨q1, hq1⟩ : ∃ q, q = X1.heap.size := ⟨_, rfl⟩
  obtain ⟨A1, hA1⟩ : ∃ A, A = X1.alloc (.cells #[.int .i64 11, .int .i64 11] 24) := ⟨_, rfl⟩
  have kA1 := below_alloc X1 (.cells #[.int .i64 11, .int .i64 11] 24)
  rw [← hA1] at kA1
  rw [← hA1, ← hq1] at s1
  have b2 := s1.b
  have ez : A1.heap.size = X1.heap.size + 1 := by rw [hA1, World.size_alloc]
  have sz := zK_at A1 112
  have zz : A1.heap.size < (A1.alloc (.cells #[.int .i64 0, .int .i64 0, .int .i64 3, .int .i64 1] 112)).heap.size := by rw [World.size_alloc]; omega
  have kB := below_alloc A1 (.cells #[.int .i64 0, .int .i64 0, .int .i64 3, .int .i64 1] 112)
  obtain ⟨B1, hB1⟩ : ∃ A, A = A1.alloc (.cells #[.int .i64 0, .int .i64 0, .int .i64 3, .int .i64 1] 112) := ⟨_, rfl⟩
  rw [← hB1] at sz zz kB
  obtain ⟨t1, ht1⟩ : ∃ q, q = X1.heap.size + 1 := ⟨_, rfl⟩
  rw [ez, ← ht1] at sz zz
  replace s1 := s1.keep kB
  go_wp2_with fail
  rw [← hA1, ← hB1, ← ht1, ← hq1]
  clear ez hA1 hB1 hq1 ht1 b1 b2 kB kA1
  refine (Val1 _ _ sz zz).mono ?_; rintro e X2 ⟨rfl, hb2⟩
  replace s1 := s1.keep hb2
  have b2 := s1.b
  clear sz zz hb2
  have s3 := NS.make b2 0 1 24
  have c0 := s3.c0
  have c1 := s3.c1
  obtain ⟨q3, hq3⟩ : ∃ q, q = X2.heap.size := ⟨_, rfl⟩
  obtain ⟨A2, hA2⟩ : ∃ A, A = X2.alloc (.cells #[.int .i64 0, .int .i64 1] 24) := ⟨_, rfl⟩
  have kA2 := below_alloc X2 (.cells #[.int .i64 0, .int .i64 1] 24)
  rw [← hA2] at kA2
  rw [← hA2, ← hq3] at s3
  have n13 : q1 ≠ q3 := by have := s1.z; omega
  replace s1 := s1.keep kA2
  have b3 := s3.b
  go_wp2_with fail
  rw [← hA2, ← hq3]
  clear hA2 hq3 b2 kA2
  refine (T_any _).mono ?_; rintro e W3 ⟨rfl, sT, zT, hb1⟩
  replace s1 := s1.keep hb1
  replace s3 := s3.keep hb1
  go_wp2_with fail
  refine (ValBig _ _ sT zT).mono ?_; rintro e X3 ⟨rfl, hb2⟩
  replace s1 := s1.keep hb2
  replace s3 := s3.keep hb2
  have b5 := s1.b
  clear sT zT hb1 hb2 b3
  have s5 := NS.make b5 110 110 24
  have c0 := s5.c0
  have c1 := s5.c1
  obtain ⟨q5, hq5⟩ : ∃ q, q = X3.heap.size := ⟨_, rfl⟩
  obtain ⟨A3, hA3⟩ : ∃ A, A = X3.alloc (.cells #[.int .i64 110, .int .i64 110] 24) := ⟨_, rfl⟩
  have kA3 := below_alloc X3 (.cells #[.int .i64 110, .int .i64 110] 24)
  rw [← hA3] at kA3
  rw [← hA3, ← hq5] at s5
  have n15 : q1 ≠ q5 := by have := s1.z; omega
  replace s1 := s1.keep kA3
  have n35 : q3 ≠ q5 := by have := s3.z; omega
  replace s3 := s3.keep kA3
  have b6 := s5.b
  go_wp2_with fail
  rw [← hA3, ← hq5]
  clear hA3 hq5 b5 kA3
  refine (L_any _).mono ?_; rintro e W4 ⟨rfl, sL, zL, k⟩
  replace s1 := s1.keep k
  replace s3 := s3.keep k
  replace s5 := s5.keep k
  clear k b6
  go_wp2_with fail
  refine (point_any 1000 _).mono ?_; rintro e V1 ⟨rfl, k⟩
  replace s1 := s1.keep k
  replace s3 := s3.keep k
  replace s5 := s5.keep k
  replace sL := sL.keep k zL
  replace zL := Nat.lt_of_lt_of_le zL k.size
  clear k
  go_wp2_with fail
  refine (point_any 500 _).mono ?_; rintro e V2 ⟨rfl, k⟩
  replace s1 := s1.keep k
  replace s3 := s3.keep k
  replace s5 := s5.keep k
  replace sL := sL.keep k zL
  replace zL := Nat.lt_of_lt_of_le zL k.size
  clear k
  go_wp2_with fail
  refine (point_any 125 _).mono ?_; rintro e V3 ⟨rfl, k⟩
  replace s1 := s1.keep k
  replace s3 := s3.keep k
  replace s5 := s5.keep k
  replace sL := sL.keep k zL
  replace zL := Nat.lt_of_lt_of_le zL k.size
  clear k
  have sm := mZ_at V3 24
  have zm : V3.heap.size < (V3.alloc (.cells #[.int .i64 1000, .int .i64 1000, .int .i64 500, .int .i64 500, .int .i64 125, .int .i64 125] 24)).heap.size := by rw [World.size_alloc]; omega
  have k := below_alloc V3 (.cells #[.int .i64 1000, .int .i64 1000, .int .i64 500, .int .i64 500, .int .i64 125, .int .i64 125] 24)
  obtain ⟨C1, hC1⟩ : ∃ A, A = V3.alloc (.cells #[.int .i64 1000, .int .i64 1000, .int .i64 500, .int .i64 500, .int .i64 125, .int .i64 125] 24) := ⟨_, rfl⟩
  rw [← hC1] at sm zm k
  replace s1 := s1.keep k
  replace s3 := s3.keep k
  replace s5 := s5.keep k
  replace sL := sL.keep k zL
  replace zL := Nat.lt_of_lt_of_le zL k.size
  clear k
  go_wp2_with fail
  rw [← hC1]
  clear hC1
  refine (Rst3 _ _ _ sL zL sm zm).mono ?_; rintro e X4 ⟨la, lc, rfl, hl, k⟩
  replace s1 := s1.keep k
  replace s3 := s3.keep k
  replace s5 := s5.keep k
  clear k sL zL sm zm
  go_wp2_with fail
  refine (L_any _).mono ?_; rintro e W5 ⟨rfl, sL, zL, k⟩
  replace s1 := s1.keep k
  replace s3 := s3.keep k
  replace s5 := s5.keep k
  replace hl := hl.keep k
  clear k
  go_wp2_with fail
  refine (point_any 500 _).mono ?_; rintro e V4 ⟨rfl, k⟩
  replace s1 := s1.keep k
  replace s3 := s3.keep k
  replace s5 := s5.keep k
  replace hl := hl.keep k
  replace sL := sL.keep k zL
  replace zL := Nat.lt_of_lt_of_le zL k.size
  clear k
  have sm := mM_at V4 24
  have zm : V4.heap.size < (V4.alloc (.cells #[.int .i64 900, .int .i64 1100, .int .i64 500, .int .i64 500] 24)).heap.size := by rw [World.size_alloc]; omega
  have k := below_alloc V4 (.cells #[.int .i64 900, .int .i64 1100, .int .i64 500, .int .i64 500] 24)
  obtain ⟨C2, hC2⟩ : ∃ A, A = V4.alloc (.cells #[.int .i64 900, .int .i64 1100, .int .i64 500, .int .i64 500] 24) := ⟨_, rfl⟩
  rw [← hC2] at sm zm k
  replace s1 := s1.keep k
  replace s3 := s3.keep k
  replace s5 := s5.keep k
  replace hl := hl.keep k
  replace sL := sL.keep k zL
  replace zL := Nat.lt_of_lt_of_le zL k.size
  clear k
  go_wp2_with fail
  rw [← hC2]
  clear hC2
  refine (Rst2 _ _ _ sL zL sm zm).mono ?_; rintro e X5 ⟨ma, mc, rfl, hm, k⟩
  replace s1 := s1.keep k
  replace s3 := s3.keep k
  replace s5 := s5.keep k
  replace hl := hl.keep k
  clear k sL zL sm zm
  have c0 := s1.c0
  have c1 := s1.c1
  have c2 := s3.c0
  have c3 := s3.c1
  have c4 := s5.c0
  have c5 := s5.c1
  have BE := Below.drew (Below.refl X5.heap.size X5)
  have HS := Lib.hid (show (fun w' : World => w'.cell? ⟨q1, 0, none⟩ = some (.int .i64 11) ∧ w'.cell? ⟨q1, 1, none⟩ = some (.int .i64 11) ∧ w'.cell? ⟨q3, 0, none⟩ = some (.int .i64 0) ∧ w'.cell? ⟨q3, 1, none⟩ = some (.int .i64 1) ∧ w'.cell? ⟨q5, 0, none⟩ = some (.int .i64 110) ∧ w'.cell? ⟨q5, 1, none⟩ = some (.int .i64 110) ∧ Below X5.drew.heap.size X5.drew w') X5.drew from ⟨c0, c1, c2, c3, c4, c5, Below.refl _ _⟩)
  clear c0 c1 c2 c3 c4 c5
  go_upto_region 6 with fail
  refine wp_region_held_tail (S := (fun w' : World => w'.cell? ⟨q1, 0, none⟩ = some (.int .i64 11) ∧ w'.cell? ⟨q1, 1, none⟩ = some (.int .i64 11) ∧ w'.cell? ⟨q3, 0, none⟩ = some (.int .i64 0) ∧ w'.cell? ⟨q3, 1, none⟩ = some (.int .i64 1) ∧ w'.cell? ⟨q5, 0, none⟩ = some (.int .i64 110) ∧ w'.cell? ⟨q5, 1, none⟩ = some (.int .i64 110) ∧ Below X5.drew.heap.size X5.drew w')) 49 (by kernel_rfl) (by kernel_rfl) HS.out (fun hHeld => ?_)
  refine wpAnyH_take (i := 0) (v := ?v0_1) rfl (by kernel_rfl) (by kernel_rfl) (by kernel_rfl) (fun _ _ _ h => h) (Or.inl ⟨by rfl, ?hy0_1⟩) (by assumption) ?rest0_1
  case hy0_1 => (intro w hSw; (try dsimp only at hSw); go_simp; (try with_reducible rfl))
  try simp only [Act.put, List.getElem_toArray, List.getElem_cons_zero, List.getElem_cons_succ, List.setIfInBounds_toArray, List.set_cons_zero, List.set_cons_succ]
  refine wpAnyH_ready (rs := [1]) (by kernel_rfl) (by simp) ?_
  refine AllReadyH.cons rfl (fun K hK => ?_) AllReadyH.nil
  go_simp; go_at_call 34; refine (point_any 11 _).mono ?_; rintro e' w' ⟨rfl, hb'⟩
  refine hK.out _ _ (⟨keepW hb' hHeld.1, keepW hb' hHeld.2.1, keepW hb' hHeld.2.2.1, keepW hb' hHeld.2.2.2.1, keepW hb' hHeld.2.2.2.2.1, keepW hb' hHeld.2.2.2.2.2.1, hHeld.2.2.2.2.2.2.trans (hb'.mono hHeld.2.2.2.2.2.2.size)⟩) (fun hHeld2 => ?_)
  clear hK K hHeld hb'
  have hHeld := hHeld2
  clear hHeld2
  try simp only [Act.put, List.getElem_toArray, List.getElem_cons_zero, List.getElem_cons_succ, List.setIfInBounds_toArray, List.set_cons_zero, List.set_cons_succ]
  refine wpAnyH_take (i := 2) (v := ?v2_2) rfl (by kernel_rfl) (by kernel_rfl) (by kernel_rfl) (fun _ _ _ h => h) (Or.inl ⟨by rfl, ?hy2_2⟩) (by assumption) ?rest2_2
  case hy2_2 => (intro w hSw; (try dsimp only at hSw); go_simp; (try with_reducible rfl))
  try simp only [Act.put, List.getElem_toArray, List.getElem_cons_zero, List.getElem_cons_succ, List.setIfInBounds_toArray, List.set_cons_zero, List.set_cons_succ]
  refine wpAnyH_take (i := 3) (v := ?v3_3) rfl (by kernel_rfl) (by kernel_rfl) (by kernel_rfl) (fun _ _ _ h => h) (Or.inl ⟨by rfl, ?hy3_3⟩) (by assumption) ?rest3_3
  case hy3_3 => (intro w hSw; (try dsimp only at hSw); go_simp; (try with_reducible rfl))
  try simp only [Act.put, List.getElem_toArray, List.getElem_cons_zero, List.getElem_cons_succ, List.setIfInBounds_toArray, List.set_cons_zero, List.set_cons_succ]
  refine wpAnyH_take (i := 4) (v := ?v4_4) rfl (by kernel_rfl) (by kernel_rfl) (by kernel_rfl) (fun _ _ _ h => h) (Or.inl ⟨by rfl, ?hy4_4⟩) (by assumption) ?rest4_4
  case hy4_4 => (intro w hSw; (try dsimp only at hSw); go_simp; (try with_reducible rfl))
  try simp only [Act.put, List.getElem_toArray, List.getElem_cons_zero, List.getElem_cons_succ, List.setIfInBounds_toArray, List.set_cons_zero, List.set_cons_succ]
  refine wpAnyH_take (i := 5) (v := ?v5_5) rfl (by kernel_rfl) (by kernel_rfl) (by kernel_rfl) (fun _ _ _ h => h) (Or.inl ⟨by rfl, ?hy5_5⟩) (by assumption) ?rest5_5
  case hy5_5 => (intro w hSw; (try dsimp only at hSw); go_simp; (try with_reducible rfl))
  try simp only [Act.put, List.getElem_toArray, List.getElem_cons_zero, List.getElem_cons_succ, List.setIfInBounds_toArray, List.set_cons_zero, List.set_cons_succ]
  refine wpAnyH_take (i := 6) (v := ?v6_6) rfl (by kernel_rfl) (by kernel_rfl) (by kernel_rfl) (fun _ _ _ h => h) (Or.inl ⟨by rfl, ?hy6_6⟩) (by assumption) ?rest6_6
  case hy6_6 => (intro w hSw; (try dsimp only at hSw); go_simp; (try with_reducible rfl))
  try simp only [Act.put, List.getElem_toArray, List.getElem_cons_zero, List.getElem_cons_succ, List.setIfInBounds_toArray, List.set_cons_zero, List.set_cons_succ]
  refine wpAnyH_take (i := 7) (v := ?v7_7) rfl (by kernel_rfl) (by kernel_rfl) (by kernel_rfl) (fun _ _ _ h => h) (Or.inl ⟨by rfl, ?hy7_7⟩) (by assumption) ?rest7_7
  case hy7_7 => (intro w hSw; (try dsimp only at hSw); go_simp; (try with_reducible rfl))
  try simp only [Act.put, List.getElem_toArray, List.getElem_cons_zero, List.getElem_cons_succ, List.setIfInBounds_toArray, List.set_cons_zero, List.set_cons_succ]
  refine wpAnyH_take (i := 8) (v := ?v8_8) rfl (by kernel_rfl) (by kernel_rfl) (by kernel_rfl) (fun _ _ _ h => h) (Or.inl ⟨by rfl, ?hy8_8⟩) (by assumption) ?rest8_8
  case hy8_8 => (intro w hSw; (try dsimp only at hSw); go_simp; (try with_reducible rfl))
  try simp only [Act.put, List.getElem_toArray, List.getElem_cons_zero, List.getElem_cons_succ, List.setIfInBounds_toArray, List.set_cons_zero, List.set_cons_succ]
  refine wpAnyH_take (i := 9) (v := ?v9_9) rfl (by kernel_rfl) (by kernel_rfl) (by kernel_rfl) (fun _ _ _ h => h) (Or.inl ⟨by rfl, ?hy9_9⟩) (by assumption) ?rest9_9
  case hy9_9 => (intro w hSw; (try dsimp only at hSw); go_simp; (try with_reducible rfl))
  try simp only [Act.put, List.getElem_toArray, List.getElem_cons_zero, List.getElem_cons_succ, List.setIfInBounds_toArray, List.set_cons_zero, List.set_cons_succ]
  refine wpAnyH_take (i := 10) (v := ?v10_10) rfl (by kernel_rfl) (by kernel_rfl) (by kernel_rfl) (fun _ _ _ h => h) (Or.inl ⟨by rfl, ?hy10_10⟩) (by assumption) ?rest10_10
  case hy10_10 => (intro w hSw; (try dsimp only at hSw); go_simp; (try with_reducible rfl))
  try simp only [Act.put, List.getElem_toArray, List.getElem_cons_zero, List.getElem_cons_succ, List.setIfInBounds_toArray, List.set_cons_zero, List.set_cons_succ]
  refine wpAnyH_take (i := 11) (v := ?v11_11) rfl (by kernel_rfl) (by kernel_rfl) (by kernel_rfl) (fun _ _ _ h => h) (Or.inl ⟨by rfl, ?hy11_11⟩) (by assumption) ?rest11_11
  case hy11_11 => (intro w hSw; (try dsimp only at hSw); go_simp; (try with_reducible rfl))
  try simp only [Act.put, List.getElem_toArray, List.getElem_cons_zero, List.getElem_cons_succ, List.setIfInBounds_toArray, List.set_cons_zero, List.set_cons_succ]
  refine wpAnyH_take (i := 12) (v := ?v12_12) rfl (by kernel_rfl) (by kernel_rfl) (by kernel_rfl) (fun _ _ _ h => h) (Or.inl ⟨by rfl, ?hy12_12⟩) (by assumption) ?rest12_12
  case hy12_12 => (intro w hSw; (try dsimp only at hSw); go_simp; (try with_reducible rfl))
  try simp only [Act.put, List.getElem_toArray, List.getElem_cons_zero, List.getElem_cons_succ, List.setIfInBounds_toArray, List.set_cons_zero, List.set_cons_succ]
  refine wpAnyH_take (i := 13) (v := ?v13_13) rfl (by kernel_rfl) (by kernel_rfl) (by kernel_rfl) (fun _ _ _ h => h) (Or.inl ⟨by rfl, ?hy13_13⟩) (by assumption) ?rest13_13
  case hy13_13 => (intro w hSw; (try dsimp only at hSw); go_simp; (try with_reducible rfl))
  try simp only [Act.put, List.getElem_toArray, List.getElem_cons_zero, List.getElem_cons_succ, List.setIfInBounds_toArray, List.set_cons_zero, List.set_cons_succ]
  refine wpAnyH_take (i := 14) (v := ?v14_14) rfl (by kernel_rfl) (by kernel_rfl) (by kernel_rfl) (fun _ _ _ h => h) (Or.inl ⟨by rfl, ?hy14_14⟩) (by assumption) ?rest14_14
  case hy14_14 => (intro w hSw; (try dsimp only at hSw); go_simp; (try with_reducible rfl))
  try simp only [Act.put, List.getElem_toArray, List.getElem_cons_zero, List.getElem_cons_succ, List.setIfInBounds_toArray, List.set_cons_zero, List.set_cons_succ]
  refine wpAnyH_take (i := 15) (v := ?v15_15) rfl (by kernel_rfl) (by kernel_rfl) (by kernel_rfl) (fun _ _ _ h => h) (Or.inl ⟨by rfl, ?hy15_15⟩) (by assumption) ?rest15_15
  case hy15_15 => (intro w hSw; (try dsimp only at hSw); go_simp; (try with_reducible rfl))
  try simp only [Act.put, List.getElem_toArray, List.getElem_cons_zero, List.getElem_cons_succ, List.setIfInBounds_toArray, List.set_cons_zero, List.set_cons_succ]
  refine wpAnyH_take (i := 16) (v := ?v16_16) rfl (by kernel_rfl) (by kernel_rfl) (by kernel_rfl) (fun _ _ _ h => h) (Or.inl ⟨by rfl, ?hy16_16⟩) (by assumption) ?rest16_16
  case hy16_16 => (intro w hSw; (try dsimp only at hSw); go_simp; (try with_reducible rfl))
  try simp only [Act.put, List.getElem_toArray, List.getElem_cons_zero, List.getElem_cons_succ, List.setIfInBounds_toArray, List.set_cons_zero, List.set_cons_succ]
  refine wpAnyH_take (i := 17) (v := ?v17_17) rfl (by kernel_rfl) (by kernel_rfl) (by kernel_rfl) (fun _ _ _ h => h) (Or.inl ⟨by rfl, ?hy17_17⟩) (by assumption) ?rest17_17
  case hy17_17 => (intro w hSw; (try dsimp only at hSw); go_simp; (try with_reducible rfl))
  try simp only [Act.put, List.getElem_toArray, List.getElem_cons_zero, List.getElem_cons_succ, List.setIfInBounds_toArray, List.set_cons_zero, List.set_cons_succ]
  refine wpAnyH_ready (rs := [18]) (by kernel_rfl) (by simp) ?_
  refine AllReadyH.cons rfl (fun K hK => ?_) AllReadyH.nil
  go_simp; go_at_call 34; refine (point_any 110 _).mono ?_; rintro e' w' ⟨rfl, hb'⟩
  refine hK.out _ _ (⟨keepW hb' hHeld.1, keepW hb' hHeld.2.1, keepW hb' hHeld.2.2.1, keepW hb' hHeld.2.2.2.1, keepW hb' hHeld.2.2.2.2.1, keepW hb' hHeld.2.2.2.2.2.1, hHeld.2.2.2.2.2.2.trans (hb'.mono hHeld.2.2.2.2.2.2.size)⟩) (fun hHeld2 => ?_)
  clear hK K hHeld hb'
  have hHeld := hHeld2
  clear hHeld2
  try simp only [Act.put, List.getElem_toArray, List.getElem_cons_zero, List.getElem_cons_succ, List.setIfInBounds_toArray, List.set_cons_zero, List.set_cons_succ]
  refine wpAnyH_take (i := 19) (v := ?v19_18) rfl (by kernel_rfl) (by kernel_rfl) (by kernel_rfl) (fun _ _ _ h => h) (Or.inl ⟨by rfl, ?hy19_18⟩) (by assumption) ?rest19_18
  case hy19_18 => (intro w hSw; (try dsimp only at hSw); go_simp; (try with_reducible rfl))
  try simp only [Act.put, List.getElem_toArray, List.getElem_cons_zero, List.getElem_cons_succ, List.setIfInBounds_toArray, List.set_cons_zero, List.set_cons_succ]
  refine wpAnyH_take (i := 20) (v := ?v20_19) rfl (by kernel_rfl) (by kernel_rfl) (by kernel_rfl) (fun _ _ _ h => h) (Or.inl ⟨by rfl, ?hy20_19⟩) (by assumption) ?rest20_19
  case hy20_19 => (intro w hSw; (try dsimp only at hSw); go_simp; (try with_reducible rfl))
  try simp only [Act.put, List.getElem_toArray, List.getElem_cons_zero, List.getElem_cons_succ, List.setIfInBounds_toArray, List.set_cons_zero, List.set_cons_succ]
  refine wpAnyH_take (i := 21) (v := ?v21_20) rfl (by kernel_rfl) (by kernel_rfl) (by kernel_rfl) (fun _ _ _ h => h) (Or.inl ⟨by rfl, ?hy21_20⟩) (by assumption) ?rest21_20
  case hy21_20 => (intro w hSw; (try dsimp only at hSw); go_simp; (try with_reducible rfl))
  try simp only [Act.put, List.getElem_toArray, List.getElem_cons_zero, List.getElem_cons_succ, List.setIfInBounds_toArray, List.set_cons_zero, List.set_cons_succ]
  refine wpAnyH_take (i := 22) (v := ?v22_21) rfl (by kernel_rfl) (by kernel_rfl) (by kernel_rfl) (fun _ _ _ h => h) (Or.inl ⟨by rfl, ?hy22_21⟩) (by assumption) ?rest22_21
  case hy22_21 => (intro w hSw; (try dsimp only at hSw); go_simp; (try with_reducible rfl))
  try simp only [Act.put, List.getElem_toArray, List.getElem_cons_zero, List.getElem_cons_succ, List.setIfInBounds_toArray, List.set_cons_zero, List.set_cons_succ]
  refine wpAnyH_take (i := 23) (v := ?v23_22) rfl (by kernel_rfl) (by kernel_rfl) (by kernel_rfl) (fun _ _ _ h => h) (Or.inl ⟨by rfl, ?hy23_22⟩) (by assumption) ?rest23_22
  case hy23_22 => (intro w hSw; (try dsimp only at hSw); go_simp; (try with_reducible rfl))
  try simp only [Act.put, List.getElem_toArray, List.getElem_cons_zero, List.getElem_cons_succ, List.setIfInBounds_toArray, List.set_cons_zero, List.set_cons_succ]
  refine wpAnyH_take (i := 24) (v := ?v24_23) rfl (by kernel_rfl) (by kernel_rfl) (by kernel_rfl) (fun _ _ _ h => h) (Or.inl ⟨by rfl, ?hy24_23⟩) (by assumption) ?rest24_23
  case hy24_23 => (intro w hSw; (try dsimp only at hSw); go_simp; (try with_reducible rfl))
  try simp only [Act.put, List.getElem_toArray, List.getElem_cons_zero, List.getElem_cons_succ, List.setIfInBounds_toArray, List.set_cons_zero, List.set_cons_succ]
  refine wpAnyH_take (i := 25) (v := ?v25_24) rfl (by kernel_rfl) (by kernel_rfl) (by kernel_rfl) (fun _ _ _ h => h) (Or.inl ⟨by rfl, ?hy25_24⟩) (by assumption) ?rest25_24
  case hy25_24 => (intro w hSw; (try dsimp only at hSw); go_simp; (try with_reducible rfl))
  try simp only [Act.put, List.getElem_toArray, List.getElem_cons_zero, List.getElem_cons_succ, List.setIfInBounds_toArray, List.set_cons_zero, List.set_cons_succ]
  refine wpAnyH_take (i := 26) (v := ?v26_25) rfl (by kernel_rfl) (by kernel_rfl) (by kernel_rfl) (fun _ _ _ h => h) (Or.inl ⟨by rfl, ?hy26_25⟩) (by assumption) ?rest26_25
  case hy26_25 => (intro w hSw; (try dsimp only at hSw); go_simp; (try with_reducible rfl))
  try simp only [Act.put, List.getElem_toArray, List.getElem_cons_zero, List.getElem_cons_succ, List.setIfInBounds_toArray, List.set_cons_zero, List.set_cons_succ]
  refine wpAnyH_ready (rs := [27]) (by kernel_rfl) (by simp) ?_
  refine AllReadyH.cons rfl (fun K hK => ?_) AllReadyH.nil
  go_simp; go_at_call 34; refine (point_any 1000 _).mono ?_; rintro e' w' ⟨rfl, hb'⟩
  refine hK.out _ _ (⟨keepW hb' hHeld.1, keepW hb' hHeld.2.1, keepW hb' hHeld.2.2.1, keepW hb' hHeld.2.2.2.1, keepW hb' hHeld.2.2.2.2.1, keepW hb' hHeld.2.2.2.2.2.1, hHeld.2.2.2.2.2.2.trans (hb'.mono hHeld.2.2.2.2.2.2.size)⟩) (fun hHeld2 => ?_)
  clear hK K hHeld hb'
  have hHeld := hHeld2
  clear hHeld2
  try simp only [Act.put, List.getElem_toArray, List.getElem_cons_zero, List.getElem_cons_succ, List.setIfInBounds_toArray, List.set_cons_zero, List.set_cons_succ]
  refine wpAnyH_ready (rs := [28]) (by kernel_rfl) (by simp) ?_
  refine AllReadyH.cons rfl (fun K hK => ?_) AllReadyH.nil
  go_simp; go_at_call 34; refine (point_any 1000 _).mono ?_; rintro e' w' ⟨rfl, hb'⟩
  refine hK.out _ _ (⟨keepW hb' hHeld.1, keepW hb' hHeld.2.1, keepW hb' hHeld.2.2.1, keepW hb' hHeld.2.2.2.1, keepW hb' hHeld.2.2.2.2.1, keepW hb' hHeld.2.2.2.2.2.1, hHeld.2.2.2.2.2.2.trans (hb'.mono hHeld.2.2.2.2.2.2.size)⟩) (fun hHeld2 => ?_)
  clear hK K hHeld hb'
  have hHeld := hHeld2
  clear hHeld2
  try simp only [Act.put, List.getElem_toArray, List.getElem_cons_zero, List.getElem_cons_succ, List.setIfInBounds_toArray, List.set_cons_zero, List.set_cons_succ]
  refine wpAnyH_ready (rs := [29]) (by kernel_rfl) (by simp) ?_
  refine AllReadyH.cons rfl (fun K hK => ?_) AllReadyH.nil
  go_simp; go_at_call 34; refine (point_any 500 _).mono ?_; rintro e' w' ⟨rfl, hb'⟩
  refine hK.out _ _ (⟨keepW hb' hHeld.1, keepW hb' hHeld.2.1, keepW hb' hHeld.2.2.1, keepW hb' hHeld.2.2.2.1, keepW hb' hHeld.2.2.2.2.1, keepW hb' hHeld.2.2.2.2.2.1, hHeld.2.2.2.2.2.2.trans (hb'.mono hHeld.2.2.2.2.2.2.size)⟩) (fun hHeld2 => ?_)
  clear hK K hHeld hb'
  have hHeld := hHeld2
  clear hHeld2
  try simp only [Act.put, List.getElem_toArray, List.getElem_cons_zero, List.getElem_cons_succ, List.setIfInBounds_toArray, List.set_cons_zero, List.set_cons_succ]
  refine wpAnyH_ready (rs := [30]) (by kernel_rfl) (by simp) ?_
  refine AllReadyH.cons rfl (fun K hK => ?_) AllReadyH.nil
  go_simp
  have sk := mK_at w' 24
  have zsk : w'.heap.size < (w'.alloc (.cells #[.int .i64 1000, .int .i64 1000, .int .i64 1000, .int .i64 1000, .int .i64 500, .int .i64 500] 24)).heap.size := by rw [World.size_alloc]; omega
  have hb' : Below w'.heap.size w' (w'.alloc (.cells #[.int .i64 1000, .int .i64 1000, .int .i64 1000, .int .i64 1000, .int .i64 500, .int .i64 500] 24)) := below_alloc _ _
  obtain ⟨qk, hq⟩ : ∃ q, q = w'.heap.size := ⟨_, rfl⟩
  obtain ⟨F1, hF⟩ : ∃ F, F = w'.alloc (.cells #[.int .i64 1000, .int .i64 1000, .int .i64 1000, .int .i64 1000, .int .i64 500, .int .i64 500] 24) := ⟨_, rfl⟩
  rw [← hF, ← hq] at sk zsk
  rw [← hF] at hb' ⊢
  rw [← hq]
  refine hK.out _ _ (⟨keepW hb' hHeld.1, keepW hb' hHeld.2.1, keepW hb' hHeld.2.2.1, keepW hb' hHeld.2.2.2.1, keepW hb' hHeld.2.2.2.2.1, keepW hb' hHeld.2.2.2.2.2.1, hHeld.2.2.2.2.2.2.trans (hb'.mono hHeld.2.2.2.2.2.2.size)⟩) (fun hHeld2 => ?_)
  clear hK K hHeld hb'
  have hHeld := hHeld2
  clear hHeld2
  try simp only [Act.put, List.getElem_toArray, List.getElem_cons_zero, List.getElem_cons_succ, List.setIfInBounds_toArray, List.set_cons_zero, List.set_cons_succ]
  clear hF hq
  refine wpAnyH_ready (rs := [31]) (by kernel_rfl) (by simp) ?_
  refine AllReadyH.cons rfl (fun K hK => ?_) AllReadyH.nil
  go_simp; go_at_call 27; refine (same_any _ _ 3 _ _ mK _ (by decide) (hl.keep (BE.trans (hHeld.2.2.2.2.2.2.mono BE.size))) (.inr ⟨qk, 0, rfl, zsk, sk⟩)).mono ?_; rintro e' w' ⟨rfl, hb'⟩
  refine hK.out _ _ (⟨keepW hb' hHeld.1, keepW hb' hHeld.2.1, keepW hb' hHeld.2.2.1, keepW hb' hHeld.2.2.2.1, keepW hb' hHeld.2.2.2.2.1, keepW hb' hHeld.2.2.2.2.2.1, hHeld.2.2.2.2.2.2.trans (hb'.mono hHeld.2.2.2.2.2.2.size)⟩) (fun hHeld2 => ?_)
  clear hK K hHeld hb'
  have hHeld := hHeld2
  clear hHeld2
  try simp only [Act.put, List.getElem_toArray, List.getElem_cons_zero, List.getElem_cons_succ, List.setIfInBounds_toArray, List.set_cons_zero, List.set_cons_succ]
  refine wpAnyH_take (i := 32) (v := ?v32_26) rfl (by kernel_rfl) (by kernel_rfl) (by kernel_rfl) (fun _ _ _ h => h) (Or.inl ⟨by rfl, ?hy32_26⟩) (by assumption) ?rest32_26
  case hy32_26 => (intro w hSw; (try dsimp only at hSw); go_simp; (try with_reducible rfl))
  try simp only [Act.put, List.getElem_toArray, List.getElem_cons_zero, List.getElem_cons_succ, List.setIfInBounds_toArray, List.set_cons_zero, List.set_cons_succ]
  refine wpAnyH_take (i := 33) (v := ?v33_27) rfl (by kernel_rfl) (by kernel_rfl) (by kernel_rfl) (fun _ _ _ h => h) (Or.inl ⟨by rfl, ?hy33_27⟩) (by assumption) ?rest33_27
  case hy33_27 => (intro w hSw; (try dsimp only at hSw); go_simp; (try with_reducible rfl))
  try simp only [Act.put, List.getElem_toArray, List.getElem_cons_zero, List.getElem_cons_succ, List.setIfInBounds_toArray, List.set_cons_zero, List.set_cons_succ]
  refine wpAnyH_take (i := 34) (v := ?v34_28) rfl (by kernel_rfl) (by kernel_rfl) (by kernel_rfl) (fun _ _ _ h => h) (Or.inl ⟨by rfl, ?hy34_28⟩) (by assumption) ?rest34_28
  case hy34_28 => (intro w hSw; (try dsimp only at hSw); go_simp; (try with_reducible rfl))
  try simp only [Act.put, List.getElem_toArray, List.getElem_cons_zero, List.getElem_cons_succ, List.setIfInBounds_toArray, List.set_cons_zero, List.set_cons_succ]
  refine wpAnyH_take (i := 35) (v := ?v35_29) rfl (by kernel_rfl) (by kernel_rfl) (by kernel_rfl) (fun _ _ _ h => h) (Or.inl ⟨by rfl, ?hy35_29⟩) (by assumption) ?rest35_29
  case hy35_29 => (intro w hSw; (try dsimp only at hSw); go_simp; (try with_reducible rfl))
  try simp only [Act.put, List.getElem_toArray, List.getElem_cons_zero, List.getElem_cons_succ, List.setIfInBounds_toArray, List.set_cons_zero, List.set_cons_succ]
  refine wpAnyH_take (i := 36) (v := ?v36_30) rfl (by kernel_rfl) (by kernel_rfl) (by kernel_rfl) (fun _ _ _ h => h) (Or.inl ⟨by rfl, ?hy36_30⟩) (by assumption) ?rest36_30
  case hy36_30 => (intro w hSw; (try dsimp only at hSw); go_simp; (try with_reducible rfl))
  try simp only [Act.put, List.getElem_toArray, List.getElem_cons_zero, List.getElem_cons_succ, List.setIfInBounds_toArray, List.set_cons_zero, List.set_cons_succ]
  refine wpAnyH_take (i := 37) (v := ?v37_31) rfl (by kernel_rfl) (by kernel_rfl) (by kernel_rfl) (fun _ _ _ h => h) (Or.inl ⟨by rfl, ?hy37_31⟩) (by assumption) ?rest37_31
  case hy37_31 => (intro w hSw; (try dsimp only at hSw); go_simp; (try with_reducible rfl))
  try simp only [Act.put, List.getElem_toArray, List.getElem_cons_zero, List.getElem_cons_succ, List.setIfInBounds_toArray, List.set_cons_zero, List.set_cons_succ]
  refine wpAnyH_take (i := 38) (v := ?v38_32) rfl (by kernel_rfl) (by kernel_rfl) (by kernel_rfl) (fun _ _ _ h => h) (Or.inl ⟨by rfl, ?hy38_32⟩) (by assumption) ?rest38_32
  case hy38_32 => (intro w hSw; (try dsimp only at hSw); go_simp; (try with_reducible rfl))
  try simp only [Act.put, List.getElem_toArray, List.getElem_cons_zero, List.getElem_cons_succ, List.setIfInBounds_toArray, List.set_cons_zero, List.set_cons_succ]
  refine wpAnyH_take (i := 39) (v := ?v39_33) rfl (by kernel_rfl) (by kernel_rfl) (by kernel_rfl) (fun _ _ _ h => h) (Or.inl ⟨by rfl, ?hy39_33⟩) (by assumption) ?rest39_33
  case hy39_33 => (intro w hSw; (try dsimp only at hSw); go_simp; (try with_reducible rfl))
  try simp only [Act.put, List.getElem_toArray, List.getElem_cons_zero, List.getElem_cons_succ, List.setIfInBounds_toArray, List.set_cons_zero, List.set_cons_succ]
  refine wpAnyH_take (i := 40) (v := ?v40_34) rfl (by kernel_rfl) (by kernel_rfl) (by kernel_rfl) (fun _ _ _ h => h) (Or.inl ⟨by rfl, ?hy40_34⟩) (by assumption) ?rest40_34
  case hy40_34 => (intro w hSw; (try dsimp only at hSw); go_simp; (try with_reducible rfl))
  try simp only [Act.put, List.getElem_toArray, List.getElem_cons_zero, List.getElem_cons_succ, List.setIfInBounds_toArray, List.set_cons_zero, List.set_cons_succ]
  refine wpAnyH_take (i := 41) (v := ?v41_35) rfl (by kernel_rfl) (by kernel_rfl) (by kernel_rfl) (fun _ _ _ h => h) (Or.inl ⟨by rfl, ?hy41_35⟩) (by assumption) ?rest41_35
  case hy41_35 => (intro w hSw; (try dsimp only at hSw); go_simp; (try with_reducible rfl))
  try simp only [Act.put, List.getElem_toArray, List.getElem_cons_zero, List.getElem_cons_succ, List.setIfInBounds_toArray, List.set_cons_zero, List.set_cons_succ]
  refine wpAnyH_ready (rs := [42]) (by kernel_rfl) (by simp) ?_
  refine AllReadyH.cons rfl (fun K hK => ?_) AllReadyH.nil
  go_simp
  have sn := mN_at w' 24
  have zsn : w'.heap.size < (w'.alloc (.cells #[.int .i64 900, .int .i64 1100, .int .i64 909, .int .i64 1000] 24)).heap.size := by rw [World.size_alloc]; omega
  have hb' : Below w'.heap.size w' (w'.alloc (.cells #[.int .i64 900, .int .i64 1100, .int .i64 909, .int .i64 1000] 24)) := below_alloc _ _
  obtain ⟨qn, hq⟩ : ∃ q, q = w'.heap.size := ⟨_, rfl⟩
  obtain ⟨F2, hF⟩ : ∃ F, F = w'.alloc (.cells #[.int .i64 900, .int .i64 1100, .int .i64 909, .int .i64 1000] 24) := ⟨_, rfl⟩
  rw [← hF, ← hq] at sn zsn
  rw [← hF] at hb' ⊢
  rw [← hq]
  refine hK.out _ _ (⟨keepW hb' hHeld.1, keepW hb' hHeld.2.1, keepW hb' hHeld.2.2.1, keepW hb' hHeld.2.2.2.1, keepW hb' hHeld.2.2.2.2.1, keepW hb' hHeld.2.2.2.2.2.1, hHeld.2.2.2.2.2.2.trans (hb'.mono hHeld.2.2.2.2.2.2.size)⟩) (fun hHeld2 => ?_)
  clear hK K hHeld hb'
  have hHeld := hHeld2
  clear hHeld2
  try simp only [Act.put, List.getElem_toArray, List.getElem_cons_zero, List.getElem_cons_succ, List.setIfInBounds_toArray, List.set_cons_zero, List.set_cons_succ]
  clear hF hq
  refine wpAnyH_ready (rs := [43]) (by kernel_rfl) (by simp) ?_
  refine AllReadyH.cons rfl (fun K hK => ?_) AllReadyH.nil
  go_simp; go_at_call 27; refine (same_any _ _ 2 _ _ mN _ (by decide) (hm.keep (BE.trans (hHeld.2.2.2.2.2.2.mono BE.size))) (.inr ⟨qn, 0, rfl, zsn, sn⟩)).mono ?_; rintro e' D6 ⟨rfl, hb'⟩
  refine hK.out _ _ (⟨keepW hb' hHeld.1, keepW hb' hHeld.2.1, keepW hb' hHeld.2.2.1, keepW hb' hHeld.2.2.2.1, keepW hb' hHeld.2.2.2.2.1, keepW hb' hHeld.2.2.2.2.2.1, hHeld.2.2.2.2.2.2.trans (hb'.mono hHeld.2.2.2.2.2.2.size)⟩) (fun hHeld2 => ?_)
  clear hK K hHeld hb'
  have hHeld := hHeld2
  clear hHeld2
  try simp only [Act.put, List.getElem_toArray, List.getElem_cons_zero, List.getElem_cons_succ, List.setIfInBounds_toArray, List.set_cons_zero, List.set_cons_succ]
  refine wpAnyH_take (i := 44) (v := ?v44_36) rfl (by kernel_rfl) (by kernel_rfl) (by kernel_rfl) (fun _ _ _ h => h) (Or.inl ⟨by rfl, ?hy44_36⟩) (by assumption) ?rest44_36
  case hy44_36 => (intro w hSw; (try dsimp only at hSw); go_simp; (try with_reducible rfl))
  try simp only [Act.put, List.getElem_toArray, List.getElem_cons_zero, List.getElem_cons_succ, List.setIfInBounds_toArray, List.set_cons_zero, List.set_cons_succ]
  refine wpAnyH_take (i := 45) (v := ?v45_37) rfl (by kernel_rfl) (by kernel_rfl) (by kernel_rfl) (fun _ _ _ h => h) (Or.inl ⟨by rfl, ?hy45_37⟩) (by assumption) ?rest45_37
  case hy45_37 => (intro w hSw; (try dsimp only at hSw); go_simp; (try with_reducible rfl))
  try simp only [Act.put, List.getElem_toArray, List.getElem_cons_zero, List.getElem_cons_succ, List.setIfInBounds_toArray, List.set_cons_zero, List.set_cons_succ]
  refine wpAnyH_take (i := 46) (v := ?v46_38) rfl (by kernel_rfl) (by kernel_rfl) (by kernel_rfl) (fun _ _ _ h => h) (Or.inl ⟨by rfl, ?hy46_38⟩) (by assumption) ?rest46_38
  case hy46_38 => (intro w hSw; (try dsimp only at hSw); go_simp; (try with_reducible rfl))
  try simp only [Act.put, List.getElem_toArray, List.getElem_cons_zero, List.getElem_cons_succ, List.setIfInBounds_toArray, List.set_cons_zero, List.set_cons_succ]
  refine wpAnyH_take (i := 47) (v := ?v47_39) rfl (by kernel_rfl) (by kernel_rfl) (by kernel_rfl) (fun _ _ _ h => h) (Or.inl ⟨by rfl, ?hy47_39⟩) (by assumption) ?rest47_39
  case hy47_39 => (intro w hSw; (try dsimp only at hSw); go_simp; (try with_reducible rfl))
  try simp only [Act.put, List.getElem_toArray, List.getElem_cons_zero, List.getElem_cons_succ, List.setIfInBounds_toArray, List.set_cons_zero, List.set_cons_succ]
  refine wpAnyH_take (i := 48) (v := ?v48_40) rfl (by kernel_rfl) (by kernel_rfl) (by kernel_rfl) (fun _ _ _ h => h) (Or.inl ⟨by rfl, ?hy48_40⟩) (by assumption) ?rest48_40
  case hy48_40 => (intro w hSw; (try dsimp only at hSw); go_simp; (try with_reducible rfl))
  try simp only [Act.put, List.getElem_toArray, List.getElem_cons_zero, List.getElem_cons_succ, List.setIfInBounds_toArray, List.set_cons_zero, List.set_cons_succ]
  refine wpAnyH_done (by kernel_rfl) ?_ _
  change wpList _ _ _ _ _ _
  simp only [List.drop_succ_cons, List.drop_zero]
  have bD := BE.trans (hHeld.2.2.2.2.2.2.mono BE.size)
  replace s1 := s1.keep bD
  replace s3 := s3.keep bD
  replace s5 := s5.keep bD
  clear hHeld HS BE bD hl hm sk zsk sn zsn
  have b7 := s1.b
  have s11 := NS.make b7 100 200 24
  have c0 := s11.c0
  have c1 := s11.c1
  obtain ⟨q11, hq11⟩ : ∃ q, q = D6.heap.size := ⟨_, rfl⟩
  obtain ⟨A4, hA4⟩ : ∃ A, A = D6.alloc (.cells #[.int .i64 100, .int .i64 200] 24) := ⟨_, rfl⟩
  have kA4 := below_alloc D6 (.cells #[.int .i64 100, .int .i64 200] 24)
  rw [← hA4] at kA4
  rw [← hA4, ← hq11] at s11
  have n111 : q1 ≠ q11 := by have := s1.z; omega
  replace s1 := s1.keep kA4
  have n311 : q3 ≠ q11 := by have := s3.z; omega
  replace s3 := s3.keep kA4
  have n511 : q5 ≠ q11 := by have := s5.z; omega
  replace s5 := s5.keep kA4
  have b8 := s11.b
  go_wp2_with fail
  rw [← hA4, ← hq11]
  clear hA4 hq11 kA4 b7 b8 c0 c1
  refine (Fill1 _).mono ?_; rintro e X6 ⟨rfl, k⟩
  replace s1 := s1.keep k
  replace s3 := s3.keep k
  replace s5 := s5.keep k
  replace s11 := s11.keep k
  clear k
  have g0 := s1.f0
  have g1 := s1.f1
  have g2 := s1.c0
  have g3 := s1.c1
  have g4 : (X6.setCell ⟨q1, 0, none⟩ (.int .i64 100)).cell? ⟨q1, 1, none⟩ = _ := set_other (by decide) s1.c1
  replace s3 := s3.far2 (u := .int .i64 100) (v := .int .i64 300) n13 s1.l
  replace s5 := s5.far2 (u := .int .i64 100) (v := .int .i64 300) n15 s1.l
  replace s11 := s11.far2 (u := .int .i64 100) (v := .int .i64 300) n111 s1.l
  replace s1 := s1.put 100 300
  obtain ⟨Z1, hZ1⟩ : ∃ A, A = (X6.setCell ⟨q1, 0, none⟩ (.int .i64 100)).setCell ⟨q1, 1, none⟩ (.int .i64 300) := ⟨_, rfl⟩
  rw [← hZ1] at s1 s3 s5 s11
  go_upto_region 10 with fail
  rw [← hZ1]
  clear hZ1 g0 g1 g2 g3 g4
  have c0 := s11.c0
  have c1 := s11.c1
  have bD := Below.drew (Below.refl Z1.heap.size Z1)
  have bw1 := s11.b
  have HS := Lib.hid (show (fun w' : World => w'.cell? ⟨q11, 0, none⟩ = some (.int .i64 100) ∧ w'.cell? ⟨q11, 1, none⟩ = some (.int .i64 200) ∧ Below w.heap.size w w') Z1.drew from ⟨c0, c1, bw1.drew⟩)
  clear c0 c1 bw1
  refine wp_region_held_tail (S := (fun w' : World => w'.cell? ⟨q11, 0, none⟩ = some (.int .i64 100) ∧ w'.cell? ⟨q11, 1, none⟩ = some (.int .i64 200) ∧ Below w.heap.size w w')) 7 (by kernel_rfl) (by kernel_rfl) HS.out (fun hHeld => ?_)
  obtain ⟨D7, hD7⟩ : ∃ A, A = Z1.drew := ⟨_, rfl⟩
  rw [← hD7] at hHeld bD ⊢
  replace s1 := s1.keep bD
  replace s3 := s3.keep bD
  replace s5 := s5.keep bD
  replace s11 := s11.keep bD
  clear hD7 bD
  refine wpAnyH_take (i := 0) (v := ?v0_41) rfl (by kernel_rfl) (by kernel_rfl) (by kernel_rfl) (fun _ _ _ h => h) (Or.inl ⟨by rfl, ?hy0_41⟩) (by assumption) ?rest0_41
  case hy0_41 => (intro w hSw; (try dsimp only at hSw); go_simp; (try with_reducible rfl))
  try simp only [Act.put, List.getElem_toArray, List.getElem_cons_zero, List.getElem_cons_succ, List.setIfInBounds_toArray, List.set_cons_zero, List.set_cons_succ]
  refine wpAnyH_ready (rs := [1]) (by kernel_rfl) (by simp) ?_
  refine AllReadyH.cons rfl (fun K hK => ?_) AllReadyH.nil
  go_simp; go_at_call 34; refine (point_any 3 _).mono ?_; rintro e' w' ⟨rfl, hb'⟩
  replace s1 := s1.keep hb'
  replace s3 := s3.keep hb'
  replace s5 := s5.keep hb'
  replace s11 := s11.keep hb'

  refine hK.out _ _ (⟨keepW hb' hHeld.1, keepW hb' hHeld.2.1, hHeld.2.2.trans (hb'.mono hHeld.2.2.size)⟩) (fun hHeld2 => ?_)
  clear hK K hHeld hb'
  have hHeld := hHeld2
  clear hHeld2
  try simp only [Act.put, List.getElem_toArray, List.getElem_cons_zero, List.getElem_cons_succ, List.setIfInBounds_toArray, List.set_cons_zero, List.set_cons_succ]
  refine wpAnyH_ready (rs := [2]) (by kernel_rfl) (by simp) ?_
  refine AllReadyH.cons rfl (fun K hK => ?_) AllReadyH.nil
  go_simp; go_at_call 28; refine (Fill2 _).mono ?_; rintro e' X7 ⟨rfl, hb'⟩
  replace s1 := s1.keep hb'
  replace s3 := s3.keep hb'
  replace s5 := s5.keep hb'
  replace s11 := s11.keep hb'

  refine hK.out _ _ (⟨keepW hb' hHeld.1, keepW hb' hHeld.2.1, hHeld.2.2.trans (hb'.mono hHeld.2.2.size)⟩) (fun hHeld2 => ?_)
  clear hK K hHeld hb'
  have hHeld := hHeld2
  clear hHeld2
  try simp only [Act.put, List.getElem_toArray, List.getElem_cons_zero, List.getElem_cons_succ, List.setIfInBounds_toArray, List.set_cons_zero, List.set_cons_succ]
  refine wpAnyH_take (i := 3) (v := ?v3_42) rfl (by kernel_rfl) (by kernel_rfl) (by kernel_rfl) (fun _ _ _ h => h) (Or.inl ⟨by rfl, ?hy3_42⟩) (by assumption) ?rest3_42
  case hy3_42 => (intro w hSw; (try dsimp only at hSw); go_simp; (try with_reducible rfl))
  try simp only [Act.put, List.getElem_toArray, List.getElem_cons_zero, List.getElem_cons_succ, List.setIfInBounds_toArray, List.set_cons_zero, List.set_cons_succ]
  refine wpAnyH_take (i := 4) (v := ?v4_43) rfl (by kernel_rfl) (by kernel_rfl) (by kernel_rfl) (fun _ _ _ h => h) (Or.inl ⟨by rfl, ?hy4_43⟩) (by assumption) ?rest4_43
  case hy4_43 => (intro w hSw; (try dsimp only at hSw); go_simp; (try with_reducible rfl))
  try simp only [Act.put, List.getElem_toArray, List.getElem_cons_zero, List.getElem_cons_succ, List.setIfInBounds_toArray, List.set_cons_zero, List.set_cons_succ]
  refine wpAnyH_take (i := 5) (v := ?v5_44) rfl (by kernel_rfl) (by kernel_rfl) (by kernel_rfl) (fun _ _ _ h => h) (Or.inl ⟨by rfl, ?hy5_44⟩) (by assumption) ?rest5_44
  case hy5_44 => (intro w hSw; (try dsimp only at hSw); go_simp; (try with_reducible rfl))
  try simp only [Act.put, List.getElem_toArray, List.getElem_cons_zero, List.getElem_cons_succ, List.setIfInBounds_toArray, List.set_cons_zero, List.set_cons_succ]
  refine wpAnyH_ready (rs := [6]) (by kernel_rfl) (by simp) ?_
  refine AllReadyH.cons rfl (fun K hK => ?_) AllReadyH.nil
  go_simp
  have g0 := s3.f0
  have g1 := s3.f1
  have g2 := s3.c0
  have g3 := s3.c1
  have g4 : (X7.setCell ⟨q3, 0, none⟩ (.int .i64 300)).cell? ⟨q3, 1, none⟩ = _ := set_other (by decide) s3.c1
  go_simp
  replace s1 := s1.far2 (u := .int .i64 300) (v := .int .i64 1073741824) n13.symm s3.l
  replace s5 := s5.far2 (u := .int .i64 300) (v := .int .i64 1073741824) n35 s3.l
  replace s11 := s11.far2 (u := .int .i64 300) (v := .int .i64 1073741824) n311 s3.l
  replace s3 := s3.put 300 1073741824
  obtain ⟨Z2, hZ2⟩ : ∃ A, A = (X7.setCell ⟨q3, 0, none⟩ (.int .i64 300)).setCell ⟨q3, 1, none⟩ (.int .i64 1073741824) := ⟨_, rfl⟩
  rw [← hZ2] at s1 s3 s5 s11 ⊢
  clear hZ2 g0 g1 g2 g3 g4
  refine hK.out _ _ (⟨s11.c0, s11.c1, s11.b⟩) (fun hHeld2 => ?_)
  clear hK K hHeld
  try simp only [Act.put, List.getElem_toArray, List.getElem_cons_zero, List.getElem_cons_succ, List.setIfInBounds_toArray, List.set_cons_zero, List.set_cons_succ]
  refine wpAnyH_done (by kernel_rfl) ?_ _
  change wpList _ _ _ _ _ _
  simp only [List.drop_succ_cons, List.drop_zero]
  clear hHeld2 HS
  have l110 := s11.c0
  have l111 := s11.c1
  go_wp2_with fail
  clear l110 l111
  refine (Fill3 _).mono ?_; rintro e X8 ⟨rfl, k⟩
  replace s1 := s1.keep k
  replace s3 := s3.keep k
  replace s5 := s5.keep k
  replace s11 := s11.keep k
  clear k
  have g0 := s5.f0
  have g1 := s5.f1
  have g2 := s5.c0
  have g3 := s5.c1
  have g4 : (X8.setCell ⟨q5, 0, none⟩ (.int .i64 150)).cell? ⟨q5, 1, none⟩ = _ := set_other (by decide) s5.c1
  replace s1 := s1.far2 (u := .int .i64 150) (v := .int .i64 1073741824) n15.symm s5.l
  replace s3 := s3.far2 (u := .int .i64 150) (v := .int .i64 1073741824) n35.symm s5.l
  replace s11 := s11.far2 (u := .int .i64 150) (v := .int .i64 1073741824) n511 s5.l
  replace s5 := s5.put 150 1073741824
  have l10 := s1.c0
  have l11 := s1.c1
  have l30 := s3.c0
  have l31 := s3.c1
  have l50 := s5.c0
  have l51 := s5.c1
  obtain ⟨Z3, hZ3⟩ : ∃ A, A = (X8.setCell ⟨q5, 0, none⟩ (.int .i64 150)).setCell ⟨q5, 1, none⟩ (.int .i64 1073741824) := ⟨_, rfl⟩
  rw [← hZ3] at s5 s1 s3 s11
  go_wp2_with fail
  rw [← hZ3]
  clear hZ3 g0 g1 g2 g3 g4 l10 l11 l30 l31 l50 l51
  clear s11 n111 n311 n511
  refine (L_any _).mono ?_; rintro e W6 ⟨rfl, sL, zL, k⟩
  have nl1 := Nat.ne_of_lt s1.z
  have nl3 := Nat.ne_of_lt s3.z
  have nl5 := Nat.ne_of_lt s5.z
  replace s1 := s1.keep k
  replace s3 := s3.keep k
  replace s5 := s5.keep k
  clear k
  obtain ⟨lb, hlb⟩ : ∃ q, q = Z3.heap.size := ⟨_, rfl⟩
  rw [← hlb] at sL zL nl1 nl3 nl5 ⊢
  clear hlb
  go_wp2_with fail
  refine (T_any _).mono ?_; rintro e W7 ⟨rfl, sT, zT, k⟩
  have nt1 := Nat.ne_of_lt s1.z
  have nt3 := Nat.ne_of_lt s3.z
  have nt5 := Nat.ne_of_lt s5.z
  replace s1 := s1.keep k
  replace s3 := s3.keep k
  replace s5 := s5.keep k
  replace sL := sL.keep k zL
  replace zL := Nat.lt_of_lt_of_le zL k.size
  clear k
  obtain ⟨tb, htb⟩ : ∃ q, q = W6.heap.size := ⟨_, rfl⟩
  rw [← htb] at sT zT nt1 nt3 nt5 ⊢
  clear htb
  have s12 := MB.make s1.b sL sT zL zT
  have e0 := s12.d0
  have e1 := s12.d1
  have e2 := s12.d2
  have e3 := s12.d3
  have e4 := s12.d4
  have e5 := s12.d5
  have e6 := s12.d6
  have e7 := s12.d7
  have n112 := Nat.ne_of_lt s1.z
  have n312 := Nat.ne_of_lt s3.z
  have n512 := Nat.ne_of_lt s5.z
  have k := below_alloc W7 (.cells #[.slice (some ⟨lb, 0, none⟩) 2 2, .slice (some ⟨tb, 0, none⟩) 3 3, .int .i64 2000, .int .i64 2500, .int .i64 200, .int .i64 1000, .int .i64 1000, .int .i64 3000] 26)
  replace s1 := s1.keep k
  replace s3 := s3.keep k
  replace s5 := s5.keep k
  clear k
  obtain ⟨q12, hq12⟩ : ∃ q, q = W7.heap.size := ⟨_, rfl⟩
  obtain ⟨A6, hA6⟩ : ∃ A, A = W7.alloc (.cells #[.slice (some ⟨lb, 0, none⟩) 2 2, .slice (some ⟨tb, 0, none⟩) 3 3, .int .i64 2000, .int .i64 2500, .int .i64 200, .int .i64 1000, .int .i64 1000, .int .i64 3000] 26) := ⟨_, rfl⟩
  rw [← hA6] at s1 s3 s5
  rw [← hA6, ← hq12] at s12
  rw [← hq12] at n112 n312 n512
  go_wp2_with fail
  rw [← hA6, ← hq12]
  clear hA6 hq12 sL sT zL zT e0 e1 e2 e3 e4 e5 e6 e7
  refine (Fac1 _ _ _ s12.sL s12.lz s12.sT s12.tz).mono ?_; rintro e Y1 ⟨rfl, k⟩
  replace s1 := s1.keep k
  replace s3 := s3.keep k
  replace s5 := s5.keep k
  replace s12 := s12.keep k
  clear k
  have g0 := s1.f0
  have g1 := s1.f1
  have g2 := s1.c0
  have g3 := s1.c1
  have g4 : (Y1.setCell ⟨q1, 0, none⟩ (.int .i64 1000)).cell? ⟨q1, 1, none⟩ = _ := set_other (by decide) s1.c1
  replace s3 := s3.far2 (u := .int .i64 1000) (v := .int .i64 1000) n13 s1.l
  replace s5 := s5.far2 (u := .int .i64 1000) (v := .int .i64 1000) n15 s1.l
  replace s12 := s12.far2 (u := .int .i64 1000) (v := .int .i64 1000) n112 nl1 nt1 s1.l
  replace s1 := s1.put 1000 1000
  have e0 := s12.d0
  have e1 := s12.d1
  have e2 := s12.d2
  have e3 := s12.d3
  have e4 := s12.d4
  have e5 := s12.d5
  have e6 := s12.d6
  have e7 := s12.d7
  obtain ⟨Z4, hZ4⟩ : ∃ A, A = (Y1.setCell ⟨q1, 0, none⟩ (.int .i64 1000)).setCell ⟨q1, 1, none⟩ (.int .i64 1000) := ⟨_, rfl⟩
  rw [← hZ4] at s1 s3 s5 s12
  go_wp2_with fail
  rw [← hZ4]
  clear hZ4 g0 g1 g2 g3 g4 e0 e1 e2 e3 e4 e5 e6 e7
  refine (Fac2 _ _ _ s12.sL s12.lz s12.sT s12.tz).mono ?_; rintro e Y2 ⟨rfl, k⟩
  replace s1 := s1.keep k
  replace s3 := s3.keep k
  replace s5 := s5.keep k
  replace s12 := s12.keep k
  clear k
  have g0 := s3.f0
  have g1 := s3.f1
  have g2 := s3.c0
  have g3 := s3.c1
  have g4 : (Y2.setCell ⟨q3, 0, none⟩ (.int .i64 200)).cell? ⟨q3, 1, none⟩ = _ := set_other (by decide) s3.c1
  replace s1 := s1.far2 (u := .int .i64 200) (v := .int .i64 1000) n13.symm s3.l
  replace s5 := s5.far2 (u := .int .i64 200) (v := .int .i64 1000) n35 s3.l
  replace s12 := s12.far2 (u := .int .i64 200) (v := .int .i64 1000) n312 nl3 nt3 s3.l
  replace s3 := s3.put 200 1000
  have e0 := s12.d0
  have e1 := s12.d1
  have e2 := s12.d2
  have e3 := s12.d3
  have e4 := s12.d4
  have e5 := s12.d5
  have e6 := s12.d6
  have e7 := s12.d7
  obtain ⟨Z5, hZ5⟩ : ∃ A, A = (Y2.setCell ⟨q3, 0, none⟩ (.int .i64 200)).setCell ⟨q3, 1, none⟩ (.int .i64 1000) := ⟨_, rfl⟩
  rw [← hZ5] at s3 s1 s5 s12
  go_wp2_with fail
  rw [← hZ5]
  clear hZ5 g0 g1 g2 g3 g4 e0 e1 e2 e3 e4 e5 e6 e7
  refine (Fac3 _ _ _ s12.sL s12.lz s12.sT s12.tz).mono ?_; rintro e Y3 ⟨rfl, k⟩
  replace s1 := s1.keep k
  replace s3 := s3.keep k
  replace s5 := s5.keep k
  replace s12 := s12.keep k
  clear k
  have g0 := s5.f0
  have g1 := s5.f1
  have g2 := s5.c0
  have g3 := s5.c1
  have g4 : (Y3.setCell ⟨q5, 0, none⟩ (.int .i64 1000)).cell? ⟨q5, 1, none⟩ = _ := set_other (by decide) s5.c1
  replace s1 := s1.far2 (u := .int .i64 1000) (v := .int .i64 3000) n15.symm s5.l
  replace s3 := s3.far2 (u := .int .i64 1000) (v := .int .i64 3000) n35.symm s5.l
  replace s12 := s12.far2 (u := .int .i64 1000) (v := .int .i64 3000) n512 nl5 nt5 s5.l
  replace s5 := s5.put 1000 3000
  have e0 := s12.d0
  have e1 := s12.d1
  have e2 := s12.d2
  have e3 := s12.d3
  have e4 := s12.d4
  have e5 := s12.d5
  have e6 := s12.d6
  have e7 := s12.d7
  obtain ⟨Z6, hZ6⟩ : ∃ A, A = (Y3.setCell ⟨q5, 0, none⟩ (.int .i64 1000)).setCell ⟨q5, 1, none⟩ (.int .i64 3000) := ⟨_, rfl⟩
  rw [← hZ6] at s5 s1 s3 s12
  go_wp2_with fail
  rw [← hZ6]
  clear hZ6 g0 g1 g2 g3 g4 e0 e1 e2 e3 e4 e5 e6 e7
  refine (Fac4 _ _ _ s12.sL s12.lz s12.sT s12.tz).mono ?_; rintro e Y4 ⟨rfl, k⟩
  replace s1 := s1.keep k
  replace s3 := s3.keep k
  replace s5 := s5.keep k
  replace s12 := s12.keep k
  clear k
  have b9 := s1.b
  have s13 := NS.make b9 200 3000 24
  have c0 := s13.c0
  have c1 := s13.c1
  obtain ⟨q13, hq13⟩ : ∃ q, q = Y4.heap.size := ⟨_, rfl⟩
  obtain ⟨A7, hA7⟩ : ∃ A, A = Y4.alloc (.cells #[.int .i64 200, .int .i64 3000] 24) := ⟨_, rfl⟩
  have kA7 := below_alloc Y4 (.cells #[.int .i64 200, .int .i64 3000] 24)
  rw [← hA7] at kA7
  rw [← hA7, ← hq13] at s13
  have n113 : q1 ≠ q13 := by have := s1.z; omega
  replace s1 := s1.keep kA7
  have n313 : q3 ≠ q13 := by have := s3.z; omega
  replace s3 := s3.keep kA7
  have n513 : q5 ≠ q13 := by have := s5.z; omega
  replace s5 := s5.keep kA7
  have n1213 : q12 ≠ q13 := by have := s12.z; omega
  replace s12 := s12.keep kA7
  have b10 := s13.b
  go_upto_region 19 with fail
  rw [← hA7, ← hq13]
  clear hA7 hq13 kA7 b9 b10 c0 c1
  have h0 := s1.c0
  have h1 := s1.c1
  have h2 := s3.c0
  have h3 := s3.c1
  have h4 := s5.c0
  have h5 := s5.c1
  have h6 := s12.d4
  have h7 := s12.d5
  have h8 := s12.d6
  have h9 := s12.d7
  have h10 := s13.c0
  have h11 := s13.c1
  have BE := Below.drew (Below.refl A7.heap.size A7)
  have HS := Lib.hid (show (fun w' : World => w'.cell? ⟨q1, 0, none⟩ = some (.int .i64 1000) ∧ w'.cell? ⟨q1, 1, none⟩ = some (.int .i64 1000) ∧ w'.cell? ⟨q3, 0, none⟩ = some (.int .i64 200) ∧ w'.cell? ⟨q3, 1, none⟩ = some (.int .i64 1000) ∧ w'.cell? ⟨q5, 0, none⟩ = some (.int .i64 1000) ∧ w'.cell? ⟨q5, 1, none⟩ = some (.int .i64 3000) ∧ w'.cell? ⟨q12, 4, none⟩ = some (.int .i64 200) ∧ w'.cell? ⟨q12, 5, none⟩ = some (.int .i64 1000) ∧ w'.cell? ⟨q12, 6, none⟩ = some (.int .i64 1000) ∧ w'.cell? ⟨q12, 7, none⟩ = some (.int .i64 3000) ∧ w'.cell? ⟨q13, 0, none⟩ = some (.int .i64 200) ∧ w'.cell? ⟨q13, 1, none⟩ = some (.int .i64 3000) ∧ Below A7.drew.heap.size A7.drew w') A7.drew from ⟨h0, h1, h2, h3, h4, h5, h6, h7, h8, h9, h10, h11, Below.refl _ _⟩)
  clear h0 h1 h2 h3 h4 h5 h6 h7 h8 h9 h10 h11
  refine wp_region_held_tail (S := (fun w' : World => w'.cell? ⟨q1, 0, none⟩ = some (.int .i64 1000) ∧ w'.cell? ⟨q1, 1, none⟩ = some (.int .i64 1000) ∧ w'.cell? ⟨q3, 0, none⟩ = some (.int .i64 200) ∧ w'.cell? ⟨q3, 1, none⟩ = some (.int .i64 1000) ∧ w'.cell? ⟨q5, 0, none⟩ = some (.int .i64 1000) ∧ w'.cell? ⟨q5, 1, none⟩ = some (.int .i64 3000) ∧ w'.cell? ⟨q12, 4, none⟩ = some (.int .i64 200) ∧ w'.cell? ⟨q12, 5, none⟩ = some (.int .i64 1000) ∧ w'.cell? ⟨q12, 6, none⟩ = some (.int .i64 1000) ∧ w'.cell? ⟨q12, 7, none⟩ = some (.int .i64 3000) ∧ w'.cell? ⟨q13, 0, none⟩ = some (.int .i64 200) ∧ w'.cell? ⟨q13, 1, none⟩ = some (.int .i64 3000) ∧ Below A7.drew.heap.size A7.drew w')) 35 (by kernel_rfl) (by kernel_rfl) HS.out (fun hHeld => ?_)
  refine wpAnyH_take (i := 0) (v := ?v0_45) rfl (by kernel_rfl) (by kernel_rfl) (by kernel_rfl) (fun _ _ _ h => h) (Or.inl ⟨by rfl, ?hy0_45⟩) (by assumption) ?rest0_45
  case hy0_45 => (intro w hSw; (try dsimp only at hSw); go_simp; (try with_reducible rfl))
  try simp only [Act.put, List.getElem_toArray, List.getElem_cons_zero, List.getElem_cons_succ, List.setIfInBounds_toArray, List.set_cons_zero, List.set_cons_succ]
  refine wpAnyH_ready (rs := [1]) (by kernel_rfl) (by simp) ?_
  refine AllReadyH.cons rfl (fun K hK => ?_) AllReadyH.nil
  go_simp; go_at_call 34; refine (point_any 1000 _).mono ?_; rintro e' D19 ⟨rfl, hb'⟩
  refine hK.out _ _ (⟨keepW hb' hHeld.1, keepW hb' hHeld.2.1, keepW hb' hHeld.2.2.1, keepW hb' hHeld.2.2.2.1, keepW hb' hHeld.2.2.2.2.1, keepW hb' hHeld.2.2.2.2.2.1, keepW hb' hHeld.2.2.2.2.2.2.1, keepW hb' hHeld.2.2.2.2.2.2.2.1, keepW hb' hHeld.2.2.2.2.2.2.2.2.1, keepW hb' hHeld.2.2.2.2.2.2.2.2.2.1, keepW hb' hHeld.2.2.2.2.2.2.2.2.2.2.1, keepW hb' hHeld.2.2.2.2.2.2.2.2.2.2.2.1, hHeld.2.2.2.2.2.2.2.2.2.2.2.2.trans (hb'.mono hHeld.2.2.2.2.2.2.2.2.2.2.2.2.size)⟩) (fun hHeld2 => ?_)
  clear hK K hHeld hb'
  have hHeld := hHeld2
  clear hHeld2
  try simp only [Act.put, List.getElem_toArray, List.getElem_cons_zero, List.getElem_cons_succ, List.setIfInBounds_toArray, List.set_cons_zero, List.set_cons_succ]
  refine wpAnyH_take (i := 2) (v := ?v2_46) rfl (by kernel_rfl) (by kernel_rfl) (by kernel_rfl) (fun _ _ _ h => h) (Or.inl ⟨by rfl, ?hy2_46⟩) (by assumption) ?rest2_46
  case hy2_46 => (intro w hSw; (try dsimp only at hSw); go_simp; (try with_reducible rfl))
  try simp only [Act.put, List.getElem_toArray, List.getElem_cons_zero, List.getElem_cons_succ, List.setIfInBounds_toArray, List.set_cons_zero, List.set_cons_succ]
  refine wpAnyH_take (i := 3) (v := ?v3_47) rfl (by kernel_rfl) (by kernel_rfl) (by kernel_rfl) (fun _ _ _ h => h) (Or.inl ⟨by rfl, ?hy3_47⟩) (by assumption) ?rest3_47
  case hy3_47 => (intro w hSw; (try dsimp only at hSw); go_simp; (try with_reducible rfl))
  try simp only [Act.put, List.getElem_toArray, List.getElem_cons_zero, List.getElem_cons_succ, List.setIfInBounds_toArray, List.set_cons_zero, List.set_cons_succ]
  refine wpAnyH_take (i := 4) (v := ?v4_48) rfl (by kernel_rfl) (by kernel_rfl) (by kernel_rfl) (fun _ _ _ h => h) (Or.inl ⟨by rfl, ?hy4_48⟩) (by assumption) ?rest4_48
  case hy4_48 => (intro w hSw; (try dsimp only at hSw); go_simp; (try with_reducible rfl))
  try simp only [Act.put, List.getElem_toArray, List.getElem_cons_zero, List.getElem_cons_succ, List.setIfInBounds_toArray, List.set_cons_zero, List.set_cons_succ]
  refine wpAnyH_take (i := 5) (v := ?v5_49) rfl (by kernel_rfl) (by kernel_rfl) (by kernel_rfl) (fun _ _ _ h => h) (Or.inl ⟨by rfl, ?hy5_49⟩) (by assumption) ?rest5_49
  case hy5_49 => (intro w hSw; (try dsimp only at hSw); go_simp; (try with_reducible rfl))
  try simp only [Act.put, List.getElem_toArray, List.getElem_cons_zero, List.getElem_cons_succ, List.setIfInBounds_toArray, List.set_cons_zero, List.set_cons_succ]
  refine wpAnyH_take (i := 6) (v := ?v6_50) rfl (by kernel_rfl) (by kernel_rfl) (by kernel_rfl) (fun _ _ _ h => h) (Or.inl ⟨by rfl, ?hy6_50⟩) (by assumption) ?rest6_50
  case hy6_50 => (intro w hSw; (try dsimp only at hSw); go_simp; (try with_reducible rfl))
  try simp only [Act.put, List.getElem_toArray, List.getElem_cons_zero, List.getElem_cons_succ, List.setIfInBounds_toArray, List.set_cons_zero, List.set_cons_succ]
  refine wpAnyH_take (i := 7) (v := ?v7_51) rfl (by kernel_rfl) (by kernel_rfl) (by kernel_rfl) (fun _ _ _ h => h) (Or.inl ⟨by rfl, ?hy7_51⟩) (by assumption) ?rest7_51
  case hy7_51 => (intro w hSw; (try dsimp only at hSw); go_simp; (try with_reducible rfl))
  try simp only [Act.put, List.getElem_toArray, List.getElem_cons_zero, List.getElem_cons_succ, List.setIfInBounds_toArray, List.set_cons_zero, List.set_cons_succ]
  refine wpAnyH_take (i := 8) (v := ?v8_52) rfl (by kernel_rfl) (by kernel_rfl) (by kernel_rfl) (fun _ _ _ h => h) (Or.inl ⟨by rfl, ?hy8_52⟩) (by assumption) ?rest8_52
  case hy8_52 => (intro w hSw; (try dsimp only at hSw); go_simp; (try with_reducible rfl))
  try simp only [Act.put, List.getElem_toArray, List.getElem_cons_zero, List.getElem_cons_succ, List.setIfInBounds_toArray, List.set_cons_zero, List.set_cons_succ]
  refine wpAnyH_take (i := 9) (v := ?v9_53) rfl (by kernel_rfl) (by kernel_rfl) (by kernel_rfl) (fun _ _ _ h => h) (Or.inl ⟨by rfl, ?hy9_53⟩) (by assumption) ?rest9_53
  case hy9_53 => (intro w hSw; (try dsimp only at hSw); go_simp; (try with_reducible rfl))
  try simp only [Act.put, List.getElem_toArray, List.getElem_cons_zero, List.getElem_cons_succ, List.setIfInBounds_toArray, List.set_cons_zero, List.set_cons_succ]
  refine wpAnyH_take (i := 10) (v := ?v10_54) rfl (by kernel_rfl) (by kernel_rfl) (by kernel_rfl) (fun _ _ _ h => h) (Or.inl ⟨by rfl, ?hy10_54⟩) (by assumption) ?rest10_54
  case hy10_54 => (intro w hSw; (try dsimp only at hSw); go_simp; (try with_reducible rfl))
  try simp only [Act.put, List.getElem_toArray, List.getElem_cons_zero, List.getElem_cons_succ, List.setIfInBounds_toArray, List.set_cons_zero, List.set_cons_succ]
  refine wpAnyH_take (i := 11) (v := ?v11_55) rfl (by kernel_rfl) (by kernel_rfl) (by kernel_rfl) (fun _ _ _ h => h) (Or.inl ⟨by rfl, ?hy11_55⟩) (by assumption) ?rest11_55
  case hy11_55 => (intro w hSw; (try dsimp only at hSw); go_simp; (try with_reducible rfl))
  try simp only [Act.put, List.getElem_toArray, List.getElem_cons_zero, List.getElem_cons_succ, List.setIfInBounds_toArray, List.set_cons_zero, List.set_cons_succ]
  refine wpAnyH_take (i := 12) (v := ?v12_56) rfl (by kernel_rfl) (by kernel_rfl) (by kernel_rfl) (fun _ _ _ h => h) (Or.inl ⟨by rfl, ?hy12_56⟩) (by assumption) ?rest12_56
  case hy12_56 => (intro w hSw; (try dsimp only at hSw); go_simp; (try with_reducible rfl))
  try simp only [Act.put, List.getElem_toArray, List.getElem_cons_zero, List.getElem_cons_succ, List.setIfInBounds_toArray, List.set_cons_zero, List.set_cons_succ]
  refine wpAnyH_take (i := 13) (v := ?v13_57) rfl (by kernel_rfl) (by kernel_rfl) (by kernel_rfl) (fun _ _ _ h => h) (Or.inl ⟨by rfl, ?hy13_57⟩) (by assumption) ?rest13_57
  case hy13_57 => (intro w hSw; (try dsimp only at hSw); go_simp; (try with_reducible rfl))
  try simp only [Act.put, List.getElem_toArray, List.getElem_cons_zero, List.getElem_cons_succ, List.setIfInBounds_toArray, List.set_cons_zero, List.set_cons_succ]
  refine wpAnyH_take (i := 14) (v := ?v14_58) rfl (by kernel_rfl) (by kernel_rfl) (by kernel_rfl) (fun _ _ _ h => h) (Or.inl ⟨by rfl, ?hy14_58⟩) (by assumption) ?rest14_58
  case hy14_58 => (intro w hSw; (try dsimp only at hSw); go_simp; (try with_reducible rfl))
  try simp only [Act.put, List.getElem_toArray, List.getElem_cons_zero, List.getElem_cons_succ, List.setIfInBounds_toArray, List.set_cons_zero, List.set_cons_succ]
  refine wpAnyH_take (i := 15) (v := ?v15_59) rfl (by kernel_rfl) (by kernel_rfl) (by kernel_rfl) (fun _ _ _ h => h) (Or.inl ⟨by rfl, ?hy15_59⟩) (by assumption) ?rest15_59
  case hy15_59 => (intro w hSw; (try dsimp only at hSw); go_simp; (try with_reducible rfl))
  try simp only [Act.put, List.getElem_toArray, List.getElem_cons_zero, List.getElem_cons_succ, List.setIfInBounds_toArray, List.set_cons_zero, List.set_cons_succ]
  refine wpAnyH_take (i := 16) (v := ?v16_60) rfl (by kernel_rfl) (by kernel_rfl) (by kernel_rfl) (fun _ _ _ h => h) (Or.inl ⟨by rfl, ?hy16_60⟩) (by assumption) ?rest16_60
  case hy16_60 => (intro w hSw; (try dsimp only at hSw); go_simp; (try with_reducible rfl))
  try simp only [Act.put, List.getElem_toArray, List.getElem_cons_zero, List.getElem_cons_succ, List.setIfInBounds_toArray, List.set_cons_zero, List.set_cons_succ]
  refine wpAnyH_take (i := 17) (v := ?v17_61) rfl (by kernel_rfl) (by kernel_rfl) (by kernel_rfl) (fun _ _ _ h => h) (Or.inl ⟨by rfl, ?hy17_61⟩) (by assumption) ?rest17_61
  case hy17_61 => (intro w hSw; (try dsimp only at hSw); go_simp; (try with_reducible rfl))
  try simp only [Act.put, List.getElem_toArray, List.getElem_cons_zero, List.getElem_cons_succ, List.setIfInBounds_toArray, List.set_cons_zero, List.set_cons_succ]
  refine wpAnyH_take (i := 18) (v := ?v18_62) rfl (by kernel_rfl) (by kernel_rfl) (by kernel_rfl) (fun _ _ _ h => h) (Or.inl ⟨by rfl, ?hy18_62⟩) (by assumption) ?rest18_62
  case hy18_62 => (intro w hSw; (try dsimp only at hSw); go_simp; (try with_reducible rfl))
  try simp only [Act.put, List.getElem_toArray, List.getElem_cons_zero, List.getElem_cons_succ, List.setIfInBounds_toArray, List.set_cons_zero, List.set_cons_succ]
  refine wpAnyH_take (i := 19) (v := ?v19_63) rfl (by kernel_rfl) (by kernel_rfl) (by kernel_rfl) (fun _ _ _ h => h) (Or.inl ⟨by rfl, ?hy19_63⟩) (by assumption) ?rest19_63
  case hy19_63 => (intro w hSw; (try dsimp only at hSw); go_simp; (try with_reducible rfl))
  try simp only [Act.put, List.getElem_toArray, List.getElem_cons_zero, List.getElem_cons_succ, List.setIfInBounds_toArray, List.set_cons_zero, List.set_cons_succ]
  refine wpAnyH_take (i := 20) (v := ?v20_64) rfl (by kernel_rfl) (by kernel_rfl) (by kernel_rfl) (fun _ _ _ h => h) (Or.inl ⟨by rfl, ?hy20_64⟩) (by assumption) ?rest20_64
  case hy20_64 => (intro w hSw; (try dsimp only at hSw); go_simp; (try with_reducible rfl))
  try simp only [Act.put, List.getElem_toArray, List.getElem_cons_zero, List.getElem_cons_succ, List.setIfInBounds_toArray, List.set_cons_zero, List.set_cons_succ]
  refine wpAnyH_take (i := 21) (v := ?v21_65) rfl (by kernel_rfl) (by kernel_rfl) (by kernel_rfl) (fun _ _ _ h => h) (Or.inl ⟨by rfl, ?hy21_65⟩) (by assumption) ?rest21_65
  case hy21_65 => (intro w hSw; (try dsimp only at hSw); go_simp; (try with_reducible rfl))
  try simp only [Act.put, List.getElem_toArray, List.getElem_cons_zero, List.getElem_cons_succ, List.setIfInBounds_toArray, List.set_cons_zero, List.set_cons_succ]
  refine wpAnyH_take (i := 22) (v := ?v22_66) rfl (by kernel_rfl) (by kernel_rfl) (by kernel_rfl) (fun _ _ _ h => h) (Or.inl ⟨by rfl, ?hy22_66⟩) (by assumption) ?rest22_66
  case hy22_66 => (intro w hSw; (try dsimp only at hSw); go_simp; (try with_reducible rfl))
  try simp only [Act.put, List.getElem_toArray, List.getElem_cons_zero, List.getElem_cons_succ, List.setIfInBounds_toArray, List.set_cons_zero, List.set_cons_succ]
  refine wpAnyH_take (i := 23) (v := ?v23_67) rfl (by kernel_rfl) (by kernel_rfl) (by kernel_rfl) (fun _ _ _ h => h) (Or.inl ⟨by rfl, ?hy23_67⟩) (by assumption) ?rest23_67
  case hy23_67 => (intro w hSw; (try dsimp only at hSw); go_simp; (try with_reducible rfl))
  try simp only [Act.put, List.getElem_toArray, List.getElem_cons_zero, List.getElem_cons_succ, List.setIfInBounds_toArray, List.set_cons_zero, List.set_cons_succ]
  refine wpAnyH_take (i := 24) (v := ?v24_68) rfl (by kernel_rfl) (by kernel_rfl) (by kernel_rfl) (fun _ _ _ h => h) (Or.inl ⟨by rfl, ?hy24_68⟩) (by assumption) ?rest24_68
  case hy24_68 => (intro w hSw; (try dsimp only at hSw); go_simp; (try with_reducible rfl))
  try simp only [Act.put, List.getElem_toArray, List.getElem_cons_zero, List.getElem_cons_succ, List.setIfInBounds_toArray, List.set_cons_zero, List.set_cons_succ]
  refine wpAnyH_take (i := 25) (v := ?v25_69) rfl (by kernel_rfl) (by kernel_rfl) (by kernel_rfl) (fun _ _ _ h => h) (Or.inl ⟨by rfl, ?hy25_69⟩) (by assumption) ?rest25_69
  case hy25_69 => (intro w hSw; (try dsimp only at hSw); go_simp; (try with_reducible rfl))
  try simp only [Act.put, List.getElem_toArray, List.getElem_cons_zero, List.getElem_cons_succ, List.setIfInBounds_toArray, List.set_cons_zero, List.set_cons_succ]
  refine wpAnyH_take (i := 26) (v := ?v26_70) rfl (by kernel_rfl) (by kernel_rfl) (by kernel_rfl) (fun _ _ _ h => h) (Or.inl ⟨by rfl, ?hy26_70⟩) (by assumption) ?rest26_70
  case hy26_70 => (intro w hSw; (try dsimp only at hSw); go_simp; (try with_reducible rfl))
  try simp only [Act.put, List.getElem_toArray, List.getElem_cons_zero, List.getElem_cons_succ, List.setIfInBounds_toArray, List.set_cons_zero, List.set_cons_succ]
  refine wpAnyH_take (i := 27) (v := ?v27_71) rfl (by kernel_rfl) (by kernel_rfl) (by kernel_rfl) (fun _ _ _ h => h) (Or.inl ⟨by rfl, ?hy27_71⟩) (by assumption) ?rest27_71
  case hy27_71 => (intro w hSw; (try dsimp only at hSw); go_simp; (try with_reducible rfl))
  try simp only [Act.put, List.getElem_toArray, List.getElem_cons_zero, List.getElem_cons_succ, List.setIfInBounds_toArray, List.set_cons_zero, List.set_cons_succ]
  refine wpAnyH_take (i := 28) (v := ?v28_72) rfl (by kernel_rfl) (by kernel_rfl) (by kernel_rfl) (fun _ _ _ h => h) (Or.inl ⟨by rfl, ?hy28_72⟩) (by assumption) ?rest28_72
  case hy28_72 => (intro w hSw; (try dsimp only at hSw); go_simp; (try with_reducible rfl))
  try simp only [Act.put, List.getElem_toArray, List.getElem_cons_zero, List.getElem_cons_succ, List.setIfInBounds_toArray, List.set_cons_zero, List.set_cons_succ]
  refine wpAnyH_take (i := 29) (v := ?v29_73) rfl (by kernel_rfl) (by kernel_rfl) (by kernel_rfl) (fun _ _ _ h => h) (Or.inl ⟨by rfl, ?hy29_73⟩) (by assumption) ?rest29_73
  case hy29_73 => (intro w hSw; (try dsimp only at hSw); go_simp; (try with_reducible rfl))
  try simp only [Act.put, List.getElem_toArray, List.getElem_cons_zero, List.getElem_cons_succ, List.setIfInBounds_toArray, List.set_cons_zero, List.set_cons_succ]
  refine wpAnyH_take (i := 30) (v := ?v30_74) rfl (by kernel_rfl) (by kernel_rfl) (by kernel_rfl) (fun _ _ _ h => h) (Or.inl ⟨by rfl, ?hy30_74⟩) (by assumption) ?rest30_74
  case hy30_74 => (intro w hSw; (try dsimp only at hSw); go_simp; (try with_reducible rfl))
  try simp only [Act.put, List.getElem_toArray, List.getElem_cons_zero, List.getElem_cons_succ, List.setIfInBounds_toArray, List.set_cons_zero, List.set_cons_succ]
  refine wpAnyH_take (i := 31) (v := ?v31_75) rfl (by kernel_rfl) (by kernel_rfl) (by kernel_rfl) (fun _ _ _ h => h) (Or.inl ⟨by rfl, ?hy31_75⟩) (by assumption) ?rest31_75
  case hy31_75 => (intro w hSw; (try dsimp only at hSw); go_simp; (try with_reducible rfl))
  try simp only [Act.put, List.getElem_toArray, List.getElem_cons_zero, List.getElem_cons_succ, List.setIfInBounds_toArray, List.set_cons_zero, List.set_cons_succ]
  refine wpAnyH_take (i := 32) (v := ?v32_76) rfl (by kernel_rfl) (by kernel_rfl) (by kernel_rfl) (fun _ _ _ h => h) (Or.inl ⟨by rfl, ?hy32_76⟩) (by assumption) ?rest32_76
  case hy32_76 => (intro w hSw; (try dsimp only at hSw); go_simp; (try with_reducible rfl))
  try simp only [Act.put, List.getElem_toArray, List.getElem_cons_zero, List.getElem_cons_succ, List.setIfInBounds_toArray, List.set_cons_zero, List.set_cons_succ]
  refine wpAnyH_take (i := 33) (v := ?v33_77) rfl (by kernel_rfl) (by kernel_rfl) (by kernel_rfl) (fun _ _ _ h => h) (Or.inl ⟨by rfl, ?hy33_77⟩) (by assumption) ?rest33_77
  case hy33_77 => (intro w hSw; (try dsimp only at hSw); go_simp; (try with_reducible rfl))
  try simp only [Act.put, List.getElem_toArray, List.getElem_cons_zero, List.getElem_cons_succ, List.setIfInBounds_toArray, List.set_cons_zero, List.set_cons_succ]
  refine wpAnyH_take (i := 34) (v := ?v34_78) rfl (by kernel_rfl) (by kernel_rfl) (by kernel_rfl) (fun _ _ _ h => h) (Or.inl ⟨by rfl, ?hy34_78⟩) (by assumption) ?rest34_78
  case hy34_78 => (intro w hSw; (try dsimp only at hSw); go_simp; (try with_reducible rfl))
  try simp only [Act.put, List.getElem_toArray, List.getElem_cons_zero, List.getElem_cons_succ, List.setIfInBounds_toArray, List.set_cons_zero, List.set_cons_succ]
  refine wpAnyH_done (by kernel_rfl) ?_ _
  change wpList _ _ _ _ _ _
  simp only [List.drop_succ_cons, List.drop_zero]
  have bD := BE.trans (hHeld.2.2.2.2.2.2.2.2.2.2.2.2.mono BE.size)
  replace s1 := s1.keep bD
  replace s3 := s3.keep bD
  replace s5 := s5.keep bD
  clear hHeld HS BE bD s12 s13 nl1 nl3 nl5 nt1 nt3 nt5 n112 n312 n512 n113 n313 n513 n1213
  go_wp2_with fail
  refine (point_any 360 _).mono ?_; rintro e V5 ⟨rfl, k⟩
  replace s1 := s1.keep k
  replace s3 := s3.keep k
  replace s5 := s5.keep k
  clear k
  go_wp2_with fail
  refine (point_any 720 _).mono ?_; rintro e V6 ⟨rfl, k⟩
  replace s1 := s1.keep k
  replace s3 := s3.keep k
  replace s5 := s5.keep k
  clear k
  have sm := rK_at V6 60
  have zm : V6.heap.size < (V6.alloc (.cells #[.int .i64 0, .int .i64 360, .int .i64 360, .int .i64 100, .int .i64 720, .int .i64 720] 60)).heap.size := by rw [World.size_alloc]; omega
  have k := below_alloc V6 (.cells #[.int .i64 0, .int .i64 360, .int .i64 360, .int .i64 100, .int .i64 720, .int .i64 720] 60)
  obtain ⟨C3, hC3⟩ : ∃ A, A = V6.alloc (.cells #[.int .i64 0, .int .i64 360, .int .i64 360, .int .i64 100, .int .i64 720, .int .i64 720] 60) := ⟨_, rfl⟩
  rw [← hC3] at sm zm k
  replace s1 := s1.keep k
  replace s3 := s3.keep k
  replace s5 := s5.keep k
  clear k
  go_wp2_with fail
  rw [← hC3]
  clear hC3
  refine (SumK _ _ sm zm).mono ?_; rintro e X9 ⟨rfl, k⟩
  replace s1 := s1.keep k
  replace s3 := s3.keep k
  replace s5 := s5.keep k
  clear k
  clear sm zm
  have g0 := s1.f0
  have g1 := s1.f1
  have g2 := s1.c0
  have g3 := s1.c1
  have g4 : (X9.setCell ⟨q1, 0, none⟩ (.int .i64 300)).cell? ⟨q1, 1, none⟩ = _ := set_other (by decide) s1.c1
  replace s3 := s3.far2 (u := .int .i64 300) (v := .int .i64 400) n13 s1.l
  replace s5 := s5.far2 (u := .int .i64 300) (v := .int .i64 400) n15 s1.l
  replace s1 := s1.put 300 400
  obtain ⟨Z7, hZ7⟩ : ∃ A, A = (X9.setCell ⟨q1, 0, none⟩ (.int .i64 300)).setCell ⟨q1, 1, none⟩ (.int .i64 400) := ⟨_, rfl⟩
  rw [← hZ7] at s1 s3 s5
  go_wp2_with fail
  rw [← hZ7]
  clear hZ7 g0 g1 g2 g3 g4 
  refine (FellK _).mono ?_; rintro e Y5 ⟨rfl, k⟩
  replace s1 := s1.keep k
  replace s3 := s3.keep k
  replace s5 := s5.keep k
  clear k
  have g0 := s3.f0
  have g1 := s3.f1
  have g2 := s3.c0
  have g3 := s3.c1
  have g4 : (Y5.setCell ⟨q3, 0, none⟩ (.int .i64 0)).cell? ⟨q3, 1, none⟩ = _ := set_other (by decide) s3.c1
  replace s1 := s1.far2 (u := .int .i64 0) (v := .int .i64 199) n13.symm s3.l
  replace s5 := s5.far2 (u := .int .i64 0) (v := .int .i64 199) n35 s3.l
  replace s3 := s3.put 0 199
  obtain ⟨Z8, hZ8⟩ : ∃ A, A = (Y5.setCell ⟨q3, 0, none⟩ (.int .i64 0)).setCell ⟨q3, 1, none⟩ (.int .i64 199) := ⟨_, rfl⟩
  rw [← hZ8] at s3 s1 s5
  go_upto_region 23 with fail
  rw [← hZ8]
  clear hZ8 g0 g1 g2 g3 g4 
  have s14 := PB.make s1.b 1000 2000 3 200 70
  have n114 := Nat.ne_of_lt s1.z
  have n314 := Nat.ne_of_lt s3.z
  have n514 := Nat.ne_of_lt s5.z
  have k := below_alloc Z8 (.cells #[.int .i64 1000, .int .i64 2000, .int .i64 3, .int .i64 200] 70)
  replace s1 := s1.keep k
  replace s3 := s3.keep k
  replace s5 := s5.keep k
  clear k
  obtain ⟨q14, hq14⟩ : ∃ q, q = Z8.heap.size := ⟨_, rfl⟩
  obtain ⟨A8, hA8⟩ : ∃ A, A = Z8.alloc (.cells #[.int .i64 1000, .int .i64 2000, .int .i64 3, .int .i64 200] 70) := ⟨_, rfl⟩
  rw [← hA8] at s1 s3 s5
  rw [← hA8, ← hq14] at s14
  rw [← hq14] at n114 n314 n514
  go_wp2_with fail
  rw [← hA8, ← hq14]
  clear hA8 hq14
  refine (point_any 4000 _).mono ?_; rintro e V7 ⟨rfl, k⟩
  replace s1 := s1.keep k
  replace s3 := s3.keep k
  replace s5 := s5.keep k
  replace s14 := s14.keep k
  clear k
  have s15 := PB.make s1.b 4000 4000 10 200 70
  have n115 := Nat.ne_of_lt s1.z
  have n315 := Nat.ne_of_lt s3.z
  have n515 := Nat.ne_of_lt s5.z
  have n1415 := Nat.ne_of_lt s14.z
  have k := below_alloc V7 (.cells #[.int .i64 4000, .int .i64 4000, .int .i64 10, .int .i64 200] 70)
  replace s1 := s1.keep k
  replace s3 := s3.keep k
  replace s5 := s5.keep k
  replace s14 := s14.keep k
  clear k
  obtain ⟨q15, hq15⟩ : ∃ q, q = V7.heap.size := ⟨_, rfl⟩
  obtain ⟨A9, hA9⟩ : ∃ A, A = V7.alloc (.cells #[.int .i64 4000, .int .i64 4000, .int .i64 10, .int .i64 200] 70) := ⟨_, rfl⟩
  rw [← hA9] at s1 s3 s5 s14
  rw [← hA9, ← hq15] at s15
  rw [← hq15] at n115 n315 n515 n1415
  go_upto_region 25 with fail
  rw [← hA9, ← hq15]
  clear hA9 hq15
  have sm := aK_at A9 70
  have zm : A9.heap.size < (A9.alloc (.cells #[.int .i64 1000, .int .i64 2000, .int .i64 3, .int .i64 200, .int .i64 4000, .int .i64 4000, .int .i64 10, .int .i64 200] 70)).heap.size := by rw [World.size_alloc]; omega
  have k := below_alloc A9 (.cells #[.int .i64 1000, .int .i64 2000, .int .i64 3, .int .i64 200, .int .i64 4000, .int .i64 4000, .int .i64 10, .int .i64 200] 70)
  have l140 := s14.c0
  have l141 := s14.c1
  have l142 := s14.c2
  have l143 := s14.c3
  have l150 := s15.c0
  have l151 := s15.c1
  have l152 := s15.c2
  have l153 := s15.c3
  obtain ⟨C4, hC4⟩ : ∃ A, A = A9.alloc (.cells #[.int .i64 1000, .int .i64 2000, .int .i64 3, .int .i64 200, .int .i64 4000, .int .i64 4000, .int .i64 10, .int .i64 200] 70) := ⟨_, rfl⟩
  rw [← hC4] at sm zm k
  replace s1 := s1.keep k
  replace s3 := s3.keep k
  replace s5 := s5.keep k
  replace s14 := s14.keep k
  replace s15 := s15.keep k
  clear k
  go_wp2_with fail
  rw [← hC4]
  clear hC4
  clear l140 l141 l142 l143 l150 l151 l152 l153
  refine (AdjK _ _ sm zm).mono ?_; rintro e Y6 ⟨rfl, k⟩
  replace s1 := s1.keep k
  replace s3 := s3.keep k
  replace s5 := s5.keep k
  replace s14 := s14.keep k
  replace s15 := s15.keep k
  clear k
  clear sm zm
  have s16 := NS.make s1.b 0 0 76
  have n116 := Nat.ne_of_lt s1.z
  have n316 := Nat.ne_of_lt s3.z
  have n516 := Nat.ne_of_lt s5.z
  have n1416 := Nat.ne_of_lt s14.z
  have n1516 := Nat.ne_of_lt s15.z
  have k := below_alloc Y6 (.cells #[.int .i64 0, .int .i64 0] 76)
  replace s1 := s1.keep k
  replace s3 := s3.keep k
  replace s5 := s5.keep k
  replace s14 := s14.keep k
  replace s15 := s15.keep k
  clear k
  have g0 := s5.f0
  have g1 := s5.f1
  have g2 := s5.c0
  have g3 := s5.c1
  have g4 : ((Y6.alloc (.cells #[.int .i64 0, .int .i64 0] 76)).setCell ⟨q5, 0, none⟩ (.int .i64 451)).cell? ⟨q5, 1, none⟩ = _ := set_other (by decide) s5.c1
  replace s1 := s1.far2 (u := .int .i64 451) (v := .int .i64 549) n15.symm s5.l
  replace s3 := s3.far2 (u := .int .i64 451) (v := .int .i64 549) n35.symm s5.l
  replace s14 := s14.far2 (t := .int .i64 451) (s' := .int .i64 549) n514 s5.l
  replace s15 := s15.far2 (t := .int .i64 451) (s' := .int .i64 549) n515 s5.l
  replace s16 := s16.far2 (u := .int .i64 451) (v := .int .i64 549) n516 s5.l
  have l5 := s5.l
  replace s5 := s5.put 451 549
  have g5 := s16.f0
  have g6 := s16.f1
  have g7 := s16.c0
  have g8 := s16.c1
  have g9 : ((((Y6.alloc (.cells #[.int .i64 0, .int .i64 0] 76)).setCell ⟨q5, 0, none⟩ (.int .i64 451)).setCell ⟨q5, 1, none⟩ (.int .i64 549)).setCell ⟨Y6.heap.size, 0, none⟩ (.int .i64 0)).cell? ⟨Y6.heap.size, 1, none⟩ = _ := set_other (by decide) s16.c1
  replace s1 := s1.far2 (u := .int .i64 0) (v := .int .i64 0) n116.symm s16.l
  replace s3 := s3.far2 (u := .int .i64 0) (v := .int .i64 0) n316.symm s16.l
  replace s5 := s5.far2 (u := .int .i64 0) (v := .int .i64 0) n516.symm s16.l
  replace s14 := s14.far2 (t := .int .i64 0) (s' := .int .i64 0) n1416.symm s16.l
  replace s15 := s15.far2 (t := .int .i64 0) (s' := .int .i64 0) n1516.symm s16.l
  replace s16 := s16.put 0 0
  go_upto_region 26 with fail
  obtain ⟨q16, hq16⟩ : ∃ q, q = Y6.heap.size := ⟨_, rfl⟩
  obtain ⟨Z9, hZ9⟩ : ∃ A, A = ((((Y6.alloc (.cells #[.int .i64 0, .int .i64 0] 76)).setCell ⟨q5, 0, none⟩ (.int .i64 451)).setCell ⟨q5, 1, none⟩ (.int .i64 549)).setCell ⟨q16, 0, none⟩ (.int .i64 0)).setCell ⟨q16, 1, none⟩ (.int .i64 0) := ⟨_, rfl⟩
  rw [← hq16] at s1 s3 s5 s14 s15 s16 n116 n316 n516 n1416 n1516 ⊢
  rw [← hZ9] at s1 s3 s5 s14 s15 s16 ⊢
  clear hZ9 hq16 g0 g1 g2 g3 g4 g5 g6 g7 g8 g9
  go_wp2_with fail
  refine (point_any 1000 _).mono ?_; rintro e V8 ⟨rfl, k⟩
  replace s1 := s1.keep k
  replace s3 := s3.keep k
  replace s5 := s5.keep k
  replace s14 := s14.keep k
  replace s15 := s15.keep k
  replace s16 := s16.keep k
  clear k
  have g0 := s14.f0
  have g1 := s14.f1
  have g2 := s14.c0
  have g3 := s14.c1
  have g4 : (V8.setCell ⟨q14, 0, none⟩ (.int .i64 1000)).cell? ⟨q14, 1, none⟩ = _ := set_other (by decide) s14.c1
  have g5 := s15.f2
  have g6 := s15.c2
  replace s1 := s1.far2 (u := .int .i64 1000) (v := .int .i64 1000) n114.symm s14.l
  replace s3 := s3.far2 (u := .int .i64 1000) (v := .int .i64 1000) n314.symm s14.l
  replace s5 := s5.far2 (u := .int .i64 1000) (v := .int .i64 1000) n514.symm s14.l
  replace s16 := s16.far2 (u := .int .i64 1000) (v := .int .i64 1000) n1416 s14.l
  replace s15 := s15.far2 (t := .int .i64 1000) (s' := .int .i64 1000) n1415 s14.l
  replace s14 := s14.put 1000 1000
  have g7 := s15.f2
  have g8 := s15.c2
  replace s1 := s1.far (j := 2) (v := .int .i64 100) n115.symm s15.l
  replace s3 := s3.far (j := 2) (v := .int .i64 100) n315.symm s15.l
  replace s5 := s5.far (j := 2) (v := .int .i64 100) n515.symm s15.l
  replace s14 := s14.far (j := 2) (t := .int .i64 100) n1415.symm s15.l
  replace s16 := s16.far (j := 2) (v := .int .i64 100) n1516 s15.l
  replace s15 := s15.put2 100
  go_upto_region 27 with fail
  obtain ⟨Z10, hZ10⟩ : ∃ A, A = ((V8.setCell ⟨q14, 0, none⟩ (.int .i64 1000)).setCell ⟨q14, 1, none⟩ (.int .i64 1000)).setCell ⟨q15, 2, none⟩ (.int .i64 100) := ⟨_, rfl⟩
  rw [← hZ10] at s1 s3 s5 s14 s15 s16 ⊢
  clear hZ10 g0 g1 g2 g3 g4 g5 g6 g7 g8
  have sm := aM_at Z10 70
  have zm : Z10.heap.size < (Z10.alloc (.cells #[.int .i64 1000, .int .i64 1000, .int .i64 3, .int .i64 200, .int .i64 4000, .int .i64 4000, .int .i64 100, .int .i64 200] 70)).heap.size := by rw [World.size_alloc]; omega
  have k := below_alloc Z10 (.cells #[.int .i64 1000, .int .i64 1000, .int .i64 3, .int .i64 200, .int .i64 4000, .int .i64 4000, .int .i64 100, .int .i64 200] 70)
  have l140 := s14.c0
  have l141 := s14.c1
  have l142 := s14.c2
  have l143 := s14.c3
  have l150 := s15.c0
  have l151 := s15.c1
  have l152 := s15.c2
  have l153 := s15.c3
  obtain ⟨C5, hC5⟩ : ∃ A, A = Z10.alloc (.cells #[.int .i64 1000, .int .i64 1000, .int .i64 3, .int .i64 200, .int .i64 4000, .int .i64 4000, .int .i64 100, .int .i64 200] 70) := ⟨_, rfl⟩
  rw [← hC5] at sm zm k
  replace s1 := s1.keep k
  replace s3 := s3.keep k
  replace s5 := s5.keep k
  replace s14 := s14.keep k
  replace s15 := s15.keep k
  replace s16 := s16.keep k
  clear k
  go_wp2_with fail
  rw [← hC5]
  clear hC5
  clear l140 l141 l142 l143 l150 l151 l152 l153
  refine (AdjM _ _ sm zm).mono ?_; rintro e Y7 ⟨rfl, k⟩
  replace s1 := s1.keep k
  replace s3 := s3.keep k
  replace s5 := s5.keep k
  replace s14 := s14.keep k
  replace s15 := s15.keep k
  replace s16 := s16.keep k
  clear k
  clear sm zm
  clear s14 s15
  have s17 := NS.make s1.b 0 0 24
  have n117 := Nat.ne_of_lt s1.z
  have n317 := Nat.ne_of_lt s3.z
  have n517 := Nat.ne_of_lt s5.z
  have n1617 := Nat.ne_of_lt s16.z
  have k := below_alloc Y7 (.cells #[.int .i64 0, .int .i64 0] 24)
  replace s1 := s1.keep k
  replace s3 := s3.keep k
  replace s5 := s5.keep k
  replace s16 := s16.keep k
  clear k
  have ez : (Y7.alloc (.cells #[.int .i64 0, .int .i64 0] 24)).heap.size = Y7.heap.size + 1 := World.size_alloc _ _
  have s18 := NS.make s1.b 0 0 76
  have r18 := NS.make s1.b 0 1 76
  have r1 := s1.keep (below_alloc (Y7.alloc (.cells #[.int .i64 0, .int .i64 0] 24)) (.cells #[.int .i64 0, .int .i64 1] 76))
  have r3 := s3.keep (below_alloc (Y7.alloc (.cells #[.int .i64 0, .int .i64 0] 24)) (.cells #[.int .i64 0, .int .i64 1] 76))
  have r5 := s5.keep (below_alloc (Y7.alloc (.cells #[.int .i64 0, .int .i64 0] 24)) (.cells #[.int .i64 0, .int .i64 1] 76))
  have r16 := s16.keep (below_alloc (Y7.alloc (.cells #[.int .i64 0, .int .i64 0] 24)) (.cells #[.int .i64 0, .int .i64 1] 76))
  have n118 := Nat.ne_of_lt s1.z
  have n318 := Nat.ne_of_lt s3.z
  have n518 := Nat.ne_of_lt s5.z
  have n1618 := Nat.ne_of_lt s16.z
  have n1718 := Nat.ne_of_lt s17.z
  have k := below_alloc (Y7.alloc (.cells #[.int .i64 0, .int .i64 0] 24)) (.cells #[.int .i64 0, .int .i64 0] 76)
  replace s1 := s1.keep k
  replace s3 := s3.keep k
  replace s5 := s5.keep k
  replace s16 := s16.keep k
  replace s17 := s17.keep k
  clear k
  rw [ez] at s18 r18 n118 n318 n518 n1618 n1718
  clear ez
  have g0 := s17.f0
  have g1 := s17.f1
  have g2 := s17.c0
  have g3 := s17.c1
  have g4 : (((Y7.alloc (.cells #[.int .i64 0, .int .i64 0] 24)).alloc (.cells #[.int .i64 0, .int .i64 0] 76)).setCell ⟨Y7.heap.size, 0, none⟩ (.int .i64 0)).cell? ⟨Y7.heap.size, 1, none⟩ = _ := set_other (by decide) s17.c1
  have i0 := s18.f0
  have i1 := s18.f1
  replace s1 := s1.far2 (u := .int .i64 0) (v := .int .i64 0) n117.symm s17.l
  replace s3 := s3.far2 (u := .int .i64 0) (v := .int .i64 0) n317.symm s17.l
  replace s5 := s5.far2 (u := .int .i64 0) (v := .int .i64 0) n517.symm s17.l
  replace s16 := s16.far2 (u := .int .i64 0) (v := .int .i64 0) n1617.symm s17.l
  replace s18 := s18.far2 (u := .int .i64 0) (v := .int .i64 0) n1718 s17.l
  replace s17 := s17.put 0 0
  have i2 := s18.c0
  have i3 := s18.c1
  have i4 : (((((Y7.alloc (.cells #[.int .i64 0, .int .i64 0] 24)).alloc (.cells #[.int .i64 0, .int .i64 0] 76)).setCell ⟨Y7.heap.size, 0, none⟩ (.int .i64 0)).setCell ⟨Y7.heap.size, 1, none⟩ (.int .i64 0)).setCell ⟨Y7.heap.size + 1, 0, none⟩ (.int .i64 0)).cell? ⟨Y7.heap.size + 1, 1, none⟩ = _ := set_other (by decide) s18.c1
  replace s1 := s1.far2 (u := .int .i64 0) (v := .int .i64 1) n118.symm s18.l
  replace s3 := s3.far2 (u := .int .i64 0) (v := .int .i64 1) n318.symm s18.l
  replace s5 := s5.far2 (u := .int .i64 0) (v := .int .i64 1) n518.symm s18.l
  replace s16 := s16.far2 (u := .int .i64 0) (v := .int .i64 1) n1618.symm s18.l
  replace s18 := s18.put 0 1
  go_upto_region 28 with fail
  clear s1 s3 s5 s16 s17 s18 g0 g1 g2 g3 g4 i0 i1 i2 i3 i4
  have s1 := r1
  have s3 := r3
  have s5 := r5
  have s16 := r16
  have s18 := r18
  clear r1 r3 r5 r16 r18
  obtain ⟨q18, hq18⟩ : ∃ q, q = Y7.heap.size + 1 := ⟨_, rfl⟩
  obtain ⟨ZF, hZF⟩ : ∃ A, A = (Y7.alloc (.cells #[.int .i64 0, .int .i64 0] 24)).alloc (.cells #[.int .i64 0, .int .i64 1] 76) := ⟨_, rfl⟩
  rw [← hq18] at s18 ⊢
  rw [← hZF] at s1 s3 s5 s16 s18 ⊢
  clear hZF hq18
  have l10 := s1.c0
  have l11 := s1.c1
  have l30 := s3.c0
  have l31 := s3.c1
  have l50 := s5.c0
  have l51 := s5.c1
  have l160 := s16.c0
  have l161 := s16.c1
  have l180 := s18.c0
  have l181 := s18.c1
  have bF := s1.b
  have e76 := fun W => eq76 0 0 0 0 W
  have f76 := fun W => eq76 0 1 0 1 W
  simp only [beq_self_eq_true, Bool.and_self] at e76 f76
  clear s1 s3 s5 s16 s18
  go_wp2_with fail
  refine (works_any _).mono ?_; rintro e XF ⟨rfl, k⟩
  replace bF := bF.trans (k.mono bF.size)
  go_wp2
  go_ret
  exact ⟨rfl, bF⟩

end Go.Proofs.Ytdmbkhmhaininaa
