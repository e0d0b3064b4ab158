/-
  Speeds: a whole turn more, and narrower steps: plain mathematics.
-/
import Derived.OpenShut
import Derived.Test.Ytmojnopgpgnfeaamg20
import Derived.Test.Ytmojnopgpgnfeaamg17
namespace Go.Proofs.Ytmojnopgpgnfeaa
set_option linter.unusedVariables false

theorem fl_add {x y d : Int} (hd : 1 ≤ d) : (x / d + y / d ≤ (x + y) / d) ∧ ((x + y) / d ≤ x / d + y / d + 1) := by
  have e1 := Int.mul_ediv_add_emod x d
  have e2 := Int.mul_ediv_add_emod y d
  have r1 := Int.emod_nonneg x (show d ≠ 0 by omega)
  have r2 := Int.emod_nonneg y (show d ≠ 0 by omega)
  have r3 := Int.emod_lt_of_pos x (show 0 < d by omega)
  have r4 := Int.emod_lt_of_pos y (show 0 < d by omega)
  by_cases h : x % d + y % d < d
  · have := ((Int.ediv_emod_unique (a := x + y) (b := d) (r := x % d + y % d) (q := x / d + y / d) (by omega)).2 ⟨by rw [Int.mul_add]; omega, by omega, h⟩).1
    omega
  · have := ((Int.ediv_emod_unique (a := x + y) (b := d) (r := x % d + y % d - d) (q := x / d + y / d + 1) (by omega)).2 ⟨by rw [Int.mul_add, Int.mul_add, Int.mul_one]; omega, by omega, by omega⟩).1
    omega
theorem fl_le {x y d : Int} (hd : 1 ≤ d) (h : x ≤ y) : x / d ≤ y / d := Int.ediv_le_ediv (by omega) h
theorem cl_le {x y d : Int} (hd : 1 ≤ d) (h : x ≤ y) : -(-x / d) ≤ -(-y / d) := by
  have := fl_le (x := -y) (y := -x) hd (by omega)
  omega
theorem fl_cl {x y d : Int} (hd : 1 ≤ d) (h : x ≤ y) : x / d ≤ -(-y / d) := by
  have e1 := Int.mul_ediv_add_emod x d
  have e2 := Int.mul_ediv_add_emod (-y) d
  have r1 := Int.emod_nonneg x (show d ≠ 0 by omega)
  have r2 := Int.emod_nonneg (-y) (show d ≠ 0 by omega)
  rcases Int.lt_or_le 0 (x / d + -y / d) with h4 | h4
  · have h5 := Int.mul_le_mul_of_nonneg_left (show 1 ≤ x / d + -y / d by omega) (show 0 ≤ d by omega)
    rw [Int.mul_add] at h5
    omega
  · omega
theorem spd_turn {l t : Int} (ht : 1 ≤ t) : 500 * l * 65536 / (t * 65536) = 500 * l / t := Int.mul_ediv_mul_of_pos_left _ _ (by decide)
theorem spd_exp (l a n : Int) : 500 * l * (a + (n + 1) * 65536) = 500 * l * (a + n * 65536) + 500 * l * 65536 := by
  rw [← Int.mul_add]
  congr 1
  rw [Int.add_mul]; omega
theorem spdL_more {l t a n : Int} (ht : 1 ≤ t) : spdL l t a n + 500 * l / t ≤ spdL l t a (n + 1) ∧ spdL l t a (n + 1) ≤ spdL l t a n + 500 * l / t + 1 := by
  unfold spdL
  have h := fl_add (x := 500 * l * (a + n * 65536)) (y := 500 * l * 65536) (d := t * 65536) (by omega)
  rw [spd_exp, ← spd_turn ht]
  exact h
theorem spdH_more {l t a n : Int} (ht : 1 ≤ t) : spdH l t a n + 500 * l / t ≤ spdH l t a (n + 1) ∧ spdH l t a (n + 1) ≤ spdH l t a n + 500 * l / t + 1 := by
  unfold spdH
  rw [spd_exp, ← spd_turn ht]
  have h := fl_add (x := -(500 * l * (a + n * 65536) + 500 * l * 65536)) (y := 500 * l * 65536) (d := t * 65536) (by omega)
  rw [show -(500 * l * (a + n * 65536) + 500 * l * 65536) + 500 * l * 65536 = -(500 * l * (a + n * 65536)) by omega] at h
  omega
theorem spd_mono {l a b n : Int} (hl : 0 ≤ l) (h : a ≤ b) : 500 * l * (a + n * 65536) ≤ 500 * l * (b + n * 65536) := Int.mul_le_mul_of_nonneg_left (by omega) (by omega)
theorem spd_in {l t a b c d n : Int} (hl : 0 ≤ l) (ht : 1 ≤ t) (h1 : a ≤ c) (h2 : c ≤ d) (h3 : d ≤ b) : spdL l t c n ≤ spdH l t d n ∧ spdL l t a n ≤ spdL l t c n ∧ spdH l t d n ≤ spdH l t b n := by
  unfold spdL spdH
  exact ⟨fl_cl (by omega) (spd_mono hl h2), fl_le (by omega) (spd_mono hl h1), cl_le (by omega) (spd_mono hl h3)⟩
theorem spd_bd {l t a n : Int} (l1 : 10000 ≤ l) (l2 : l ≤ 1000000) (ht : 1 ≤ t) (a1 : -131072 ≤ a) (a2 : a ≤ 131072) (n1 : -64 ≤ n) (n2 : n ≤ 64) : (-5000000000000000 ≤ spdL l t a n ∧ spdL l t a n ≤ 5000000000000000) ∧ (-5000000000000000 ≤ spdH l t a n ∧ spdH l t a n ≤ 5000000000000000) := by
  obtain ⟨m1, m2⟩ := prod_bd l1 l2 a1 a2 n1 n2
  have q : ∀ x : Int, -5000000000000000 ≤ x → x ≤ 5000000000000000 → -5000000000000000 ≤ x / (t * 65536) ∧ x / (t * 65536) ≤ 5000000000000000 := fun x h1 h2 => by
    constructor
    · exact Int.le_ediv_of_mul_le (by omega) (by
        have := Int.mul_le_mul_of_nonneg_left (show 1 ≤ t * 65536 by omega) (show (0:Int) ≤ 5000000000000000 by decide)
        omega)
    · have h : x / (t * 65536) < 5000000000000000 + 1 := Int.ediv_lt_of_lt_mul (by omega) (by
        have := Int.mul_le_mul_of_nonneg_left (show 1 ≤ t * 65536 by omega) (show (0:Int) ≤ 5000000000000000 + 1 by decide)
        omega)
      omega
  unfold spdL spdH
  have h1 := q _ m1 m2
  have h2 := q (-(500 * l * (a + n * 65536))) (by omega) (by omega)
  omega

end Go.Proofs.Ytmojnopgpgnfeaa

namespace Go.Proofs.Ytmojnopgpgnfeaa
open Go.RowKit
set_option linter.unusedVariables false
set_option linter.unusedSimpArgs false

structure FoB (w W : World) (l kd f s c lo hi : Int) : Prop where
  c0 : W.cell? ⟨w.heap.size, 0, none⟩ = some (.int .i64 l)
  c1 : W.cell? ⟨w.heap.size, 1, none⟩ = some (.int .i64 kd)
  c2 : W.cell? ⟨w.heap.size, 2, none⟩ = some (.int .i64 f)
  c3 : W.cell? ⟨w.heap.size, 3, none⟩ = some (.int .i64 s)
  c4 : W.cell? ⟨w.heap.size, 4, none⟩ = some (.int .i64 c)
  c5 : W.cell? ⟨w.heap.size + 1, 0, none⟩ = some (.int .i64 lo)
  c6 : W.cell? ⟨w.heap.size + 1, 1, none⟩ = some (.int .i64 hi)
  z : w.heap.size + 2 ≤ W.heap.size
  b : Below w.heap.size w W
theorem FoB.keep {w W w1 : World} {l kd f s c lo hi : Int} (x : FoB w W l kd f s c lo hi) (hb : Below W.heap.size W w1) : FoB w w1 l kd f s c lo hi :=
  ⟨keepW hb x.c0, keepW hb x.c1, keepW hb x.c2, keepW hb x.c3, keepW hb x.c4, keepW hb x.c5, keepW hb x.c6, Nat.le_trans x.z hb.size, x.b.trans (hb.mono x.b.size)⟩
theorem FoB.new (w : World) (l kd f s c lo hi : Int) : FoB w ((w.alloc (.cells #[.int .i64 l, .int .i64 kd, .int .i64 f, .int .i64 s, .int .i64 c] 23)).alloc (.cells #[.int .i64 lo, .int .i64 hi] 25)) l kd f s c lo hi := by
  obtain ⟨A1, e1⟩ : ∃ A, A = w.alloc (.cells #[.int .i64 l, .int .i64 kd, .int .i64 f, .int .i64 s, .int .i64 c] 23) := ⟨_, rfl⟩
  have s1 : A1.heap.size = w.heap.size + 1 := by rw [e1]; exact World.size_alloc _ _
  rw [← e1]
  have b1 : Below w.heap.size w A1 := by rw [e1]; exact below_alloc _ _
  have b2 : Below A1.heap.size A1 (A1.alloc (.cells #[.int .i64 lo, .int .i64 hi] 25)) := below_alloc _ _
  exact ⟨keepB b2 (by omega) (by rw [e1]; exact alloc_new rfl rfl), keepB b2 (by omega) (by rw [e1]; exact alloc_new rfl rfl), keepB b2 (by omega) (by rw [e1]; exact alloc_new rfl rfl), keepB b2 (by omega) (by rw [e1]; exact alloc_new rfl rfl), keepB b2 (by omega) (by rw [e1]; exact alloc_new rfl rfl), by rw [← s1]; exact alloc_new rfl rfl, by rw [← s1]; exact alloc_new rfl rfl, by rw [World.size_alloc]; omega, b1.trans (b2.mono (by omega))⟩
theorem pairN (X : World) (a b : Int) (T : TypeId) : (X.alloc (.cells #[.int .i64 a, .int .i64 b] T)).cell? ⟨X.heap.size, 0, none⟩ = some (.int .i64 a) ∧ (X.alloc (.cells #[.int .i64 a, .int .i64 b] T)).cell? ⟨X.heap.size, 1, none⟩ = some (.int .i64 b) := ⟨alloc_new rfl rfl, alloc_new rfl rfl⟩
theorem pairF (X : World) : (X.alloc (.cells #[.int .i64 0, .int .i64 0] 25)).cell? ⟨X.heap.size, 0, none⟩ = some (.int .i64 0) ∧ (X.alloc (.cells #[.int .i64 0, .int .i64 0] 25)).cell? ⟨X.heap.size, 1, none⟩ = some (.int .i64 0) ∧ (X.alloc (.cells #[.int .i64 0, .int .i64 0] 25)).frozen? ⟨X.heap.size, 0, none⟩ = false ∧ (X.alloc (.cells #[.int .i64 0, .int .i64 0] 25)).frozen? ⟨X.heap.size, 1, none⟩ = false := ⟨alloc_new rfl rfl, alloc_new rfl rfl, alloc_newF rfl, alloc_newF rfl⟩
theorem tmod64 {a : Int} (h : -128 ≤ a ∧ a ≤ 127) : -64 < a.tmod 64 ∧ a.tmod 64 < 64 := by
  by_cases h0 : 0 ≤ a
  · rw [Int.tmod_eq_emod_of_nonneg h0]; omega
  · have := tmod_neg_bd (a := a) (b := 64) (by decide) (by omega); omega
theorem tmod_in {x m : Int} (hx : 0 ≤ x) (hm : 1 ≤ m) : 0 ≤ x.tmod m ∧ x.tmod m ≤ m - 1 := by
  rw [Int.tmod_eq_emod_of_nonneg hx]
  have := Int.emod_nonneg x (show m ≠ 0 by omega)
  have := Int.emod_lt_of_pos x (show 0 < m by omega)
  omega
theorem tmod_in' {x m k : Int} (hx : 0 ≤ x) (hm : 1 ≤ m) (h : m = k + 1) : 0 ≤ x.tmod m ∧ x.tmod m ≤ k := by
  have := tmod_in hx hm; omega
theorem spE_ok {l k f s c wh lo hi n : Int} (h : spE l k f s c wh lo hi n = 0) : timE l k f s c wh = 0 ∧ spanB lo hi (-131072) 131072 = true := by
  unfold spE at h
  by_cases h1 : timE l k f s c wh = 0
  · rw [if_pos h1] at h
    split at h
    · rename_i h2; exact ⟨h1, h2.1⟩
    · omega
  · rw [if_neg h1] at h; exact absurd h h1
theorem spE_is {l k f s c wh lo hi n : Int} (h : timE l k f s c wh = 0) (h1 : -131072 ≤ lo) (h2 : lo ≤ hi) (h3 : hi ≤ 131072) (h4 : -64 ≤ n ∧ n ≤ 64) : spE l k f s c wh lo hi n = 0 := by
  unfold spE
  rw [if_pos h, if_pos ⟨spanB_true.2 ⟨h1, h2, h3⟩, inB_true.2 h4⟩]
set_option maxHeartbeats 400000 in
theorem lies_true (a b c d : Int) (w : World) (h1 : a ≤ b) (h2 : c ≤ a) (h3 : b ≤ d) : Calls Try.prog 43 #[.agg #[.int .i64 a, .int .i64 b], .agg #[.int .i64 c, .int .i64 d]] w fun e w' => e = .returned (.bool true) ∧ Below w.heap.size w w' := by
  go_enter Try.func43, Try.ntmps43
  go_wp2
  go_ret
  exact ⟨rfl, by repeat (first | exact Below.refl _ _ | (refine Below.alloc ?_ (by first | (simp; done) | (simp only [World.size_alloc]; omega) | (simp; omega)) _))⟩

set_option maxRecDepth 100000 in
set_option maxHeartbeats 8000000 in
theorem PF_err0 (l kd f s c lo hi a x y : Int) (w : World) (ha : -128 ≤ a ∧ a ≤ 127) (hx : 0 ≤ x ∧ x ≤ 4294967295) (hy : 0 ≤ y ∧ y ≤ 4294967295) (he : ¬ spE l kd f s c 0 lo hi (a.tmod 64) = 0) :
    Calls Try.prog 13 #[.agg #[.int .i64 l, .int .i64 kd, .int .i64 f, .int .i64 s, .int .i64 c], .bool false, .agg #[.int .i64 lo, .int .i64 hi], .int .i8 a, .int .u32 x, .int .u32 y] w fun e w' => e = .returned (.bool true) ∧ Below w.heap.size w w' := by
  have ja : IntKind.i64.wrap a = a := IntWalk.i64_in _ (by omega)
  obtain ⟨kk, hk⟩ : ∃ z, a.tmod 64 = z := ⟨_, rfl⟩
  rw [hk] at he
  obtain ⟨E, hE⟩ : ∃ z, z = spE l kd f s c 0 lo hi kk := ⟨_, rfl⟩
  have HS1 : Hid (∀ W : World, Calls Try.prog 32 #[.agg #[.int .i64 l, .int .i64 kd, .int .i64 f, .int .i64 s, .int .i64 c], .int .i64 0, .agg #[.int .i64 lo, .int .i64 hi], .int .i64 kk] W fun e w' => e = .returned (.tuple #[.agg #[.int .i64 0, .int .i64 0], .int .i64 E]) ∧ Below W.heap.size W w') := Lib.hid fun W => by
    have h := Speed_any l kd f s c 0 lo hi kk W
    rw [if_neg he, if_neg he, ← hE] at h; exact h
  rw [← hE] at he
  have hne : (E != 0) = true := bne_iff_ne.2 he
  clear hE he
  have B0 := Lib.hid (FoB.new w l kd f s c lo hi)
  go_enter Try.func13, Try.ntmps13
  obtain ⟨c0, c1, c2, c3, c4, c5, c6, hz, hbw⟩ := B0.out
  go_wp2_with fail
  refine (HS1.out _).mono ?_; rintro e' X1 ⟨rfl, hb1⟩
  have q := below_alloc X1 (.cells #[.int .i64 0, .int .i64 0] 25)
  have b1 := hbw.trans (hb1.mono hbw.size)
  have b2 := b1.trans (q.mono b1.size)
  clear c0 c1 c2 c3 c4 c5 c6 hz hbw hb1 b1 q B0
  go_wp2_with fail
  refine (works_any _).mono ?_; rintro e' X2 ⟨rfl, hb2⟩
  go_wp2
  go_ret
  exact ⟨rfl, b2.trans (hb2.mono b2.size)⟩

set_option maxRecDepth 100000 in
set_option maxHeartbeats 16000000 in
theorem PF_ok0 (l kd f s c lo hi a x y : Int) (w : World) (ha : -128 ≤ a ∧ a ≤ 127) (hx : 0 ≤ x ∧ x ≤ 4294967295) (hy : 0 ≤ y ∧ y ≤ 4294967295) (he : spE l kd f s c 0 lo hi (a.tmod 64) = 0) :
    Calls Try.prog 13 #[.agg #[.int .i64 l, .int .i64 kd, .int .i64 f, .int .i64 s, .int .i64 c], .bool false, .agg #[.int .i64 lo, .int .i64 hi], .int .i8 a, .int .u32 x, .int .u32 y] w fun e w' => e = .returned (.bool true) ∧ Below w.heap.size w w' := by
  have ja : IntKind.i64.wrap a = a := IntWalk.i64_in _ (by omega)
  have jx : IntKind.i64.wrap x = x := IntWalk.i64_in _ (by omega)
  have jy : IntKind.i64.wrap y = y := IntWalk.i64_in _ (by omega)
  have bk := tmod64 ha
  obtain ⟨kk, hk⟩ : ∃ z, a.tmod 64 = z := ⟨_, rfl⟩
  rw [hk] at he bk
  obtain ⟨hT, hSp⟩ := spE_ok he
  obtain ⟨⟨l1, l2⟩, v1, v2⟩ := tim_bd hT
  obtain ⟨g1, g2, g3⟩ := spanB_true.1 hSp
  have jk : IntKind.i64.wrap (kk + 1) = kk + 1 := IntWalk.i64_in _ (by omega)
  have he2 : spE l kd f s c 0 lo hi (kk + 1) = 0 := spE_is hT g1 g2 g3 (by omega)
  obtain ⟨N0, hN⟩ : ∃ z, 500 * l = z := ⟨_, rfl⟩
  obtain ⟨D0, hD⟩ : ∃ z, timV l kd f s c 0 = z := ⟨_, rfl⟩
  rw [hD] at v1 v2
  have m1 := spdL_more (l := l) (t := D0) (a := lo) (n := kk) (by omega)
  have m2 := spdH_more (l := l) (t := D0) (a := hi) (n := kk) (by omega)
  have d1 := (spd_bd (l := l) (t := D0) (a := lo) (n := kk) l1 l2 (by omega) (by omega) (by omega) (by omega) (by omega)).1
  have d2 := (spd_bd (l := l) (t := D0) (a := hi) (n := kk) l1 l2 (by omega) (by omega) (by omega) (by omega) (by omega)).2
  have d3 := (spd_bd (l := l) (t := D0) (a := lo) (n := kk + 1) l1 l2 (by omega) (by omega) (by omega) (by omega) (by omega)).1
  have d4 := (spd_bd (l := l) (t := D0) (a := hi) (n := kk + 1) l1 l2 (by omega) (by omega) (by omega) (by omega) (by omega)).2
  have o1 := (spd_in (l := l) (t := D0) (a := lo) (b := hi) (c := lo) (d := hi) (n := kk) (by omega) (by omega) (Int.le_refl _) g2 (Int.le_refl _)).1
  obtain ⟨p, hp⟩ : ∃ z, x.tmod (hi - lo + 1) = z := ⟨_, rfl⟩
  have bp : 0 ≤ p ∧ p ≤ hi - lo := by rw [← hp]; exact tmod_in' hx.1 (by omega) (by omega)
  obtain ⟨q, hq⟩ : ∃ z, y.tmod (hi - (lo + p) + 1) = z := ⟨_, rfl⟩
  have bq : 0 ≤ q ∧ q ≤ hi - (lo + p) := by rw [← hq]; exact tmod_in' hy.1 (by omega) (by omega)
  obtain ⟨n1, n2, n3⟩ := spd_in (l := l) (t := D0) (a := lo) (b := hi) (c := lo + p) (d := lo + p + q) (n := kk) (by omega) (by omega) (by omega) (by omega) (by omega)
  have he3 : spE l kd f s c 0 (lo + p) (lo + p + q) kk = 0 := spE_is hT (by omega) (by omega) (by omega) (by omega)
  obtain ⟨A1, hA1⟩ : ∃ z, spdL l D0 lo kk = z := ⟨_, rfl⟩
  obtain ⟨B1, hB1⟩ : ∃ z, spdH l D0 hi kk = z := ⟨_, rfl⟩
  obtain ⟨A2, hA2⟩ : ∃ z, spdL l D0 lo (kk + 1) = z := ⟨_, rfl⟩
  obtain ⟨B2, hB2⟩ : ∃ z, spdH l D0 hi (kk + 1) = z := ⟨_, rfl⟩
  obtain ⟨C1, hC1⟩ : ∃ z, spdL l D0 (lo + p) kk = z := ⟨_, rfl⟩
  obtain ⟨C2, hC2⟩ : ∃ z, spdH l D0 (lo + p + q) kk = z := ⟨_, rfl⟩
  have HS1 : Hid (∀ W : World, Calls Try.prog 32 #[.agg #[.int .i64 l, .int .i64 kd, .int .i64 f, .int .i64 s, .int .i64 c], .int .i64 0, .agg #[.int .i64 lo, .int .i64 hi], .int .i64 kk] W fun e w' => e = .returned (.tuple #[.agg #[.int .i64 A1, .int .i64 B1], .int .i64 0]) ∧ Below W.heap.size W w') := Lib.hid fun W => by
    have h := Speed_any l kd f s c 0 lo hi kk W
    rw [he, if_pos rfl, if_pos rfl, hD, hA1, hB1] at h; exact h
  have HS2 : Hid (∀ W : World, Calls Try.prog 32 #[.agg #[.int .i64 l, .int .i64 kd, .int .i64 f, .int .i64 s, .int .i64 c], .int .i64 0, .agg #[.int .i64 lo, .int .i64 hi], .int .i64 (kk + 1)] W fun e w' => e = .returned (.tuple #[.agg #[.int .i64 A2, .int .i64 B2], .int .i64 0]) ∧ Below W.heap.size W w') := Lib.hid fun W => by
    have h := Speed_any l kd f s c 0 lo hi (kk + 1) W
    rw [he2, if_pos rfl, if_pos rfl, hD, hA2, hB2] at h; exact h
  have HS3 : Hid (∀ W : World, Calls Try.prog 32 #[.agg #[.int .i64 l, .int .i64 kd, .int .i64 f, .int .i64 s, .int .i64 c], .int .i64 0, .agg #[.int .i64 (lo + p), .int .i64 (lo + p + q)], .int .i64 kk] W fun e w' => e = .returned (.tuple #[.agg #[.int .i64 C1, .int .i64 C2], .int .i64 0]) ∧ Below W.heap.size W w') := Lib.hid fun W => by
    have h := Speed_any l kd f s c 0 (lo + p) (lo + p + q) kk W
    rw [he3, if_pos rfl, if_pos rfl, hD, hC1, hC2] at h; exact h
  have HF1 : Hid (∀ W : World, Calls Try.prog 34 #[.agg #[.int .i64 l, .int .i64 kd, .int .i64 f, .int .i64 s, .int .i64 c], .int .i64 0] W fun e w' => e = .returned (.tuple #[.int .i64 N0, .int .i64 D0, .int .i64 0]) ∧ Below W.heap.size W w') := Lib.hid fun W => by
    have h := Fold_any l kd f s c 0 W
    rw [hT, if_pos rfl, hN, hD] at h; exact h
  have HR1 : Hid (∀ W : World, Calls Try.prog 36 #[.agg #[.int .i64 l, .int .i64 kd, .int .i64 f, .int .i64 s, .int .i64 c], .int .i64 0] W fun e w' => e = .returned (.tuple #[.int .i64 (150 * D0), .int .i64 0]) ∧ Below W.heap.size W w') := Lib.hid fun W => by
    have h := Reach_any l kd f s c 0 W
    rw [hT, hD] at h; exact h
  rw [hN] at m1 m2
  rw [hA1, hA2] at m1
  rw [hB1, hB2] at m2
  rw [hA1] at d1 n2
  rw [hA1, hB1] at o1
  rw [hB1] at d2 n3
  rw [hA2] at d3
  rw [hB2] at d4
  rw [hC1] at n1 n2
  rw [hC2] at n1 n3
  obtain ⟨Q0, hQ⟩ : ∃ z, N0.tdiv D0 = z := ⟨_, rfl⟩
  have hQ2 : N0 / D0 = Q0 := by rw [← hQ]; exact (Int.tdiv_eq_ediv_of_nonneg (by omega)).symm
  have bQ : 0 ≤ Q0 ∧ Q0 ≤ 1000000000 := by
    rw [← hQ2]
    exact ⟨Int.ediv_nonneg (by omega) (by omega), Int.le_trans (Int.ediv_le_self _ (by omega)) (by omega)⟩
  rw [hQ2] at m1 m2
  clear hA1 hB1 hA2 hB2 hC1 hC2 hN hD hQ2 he he2 he3 hT hSp
  have z1 : decide (hi < lo) = false := decide_eq_false (by omega)
  have z2 : decide (B1 < A1) = false := decide_eq_false (by omega)
  have z3 : decide (D0 < 1) = false := decide_eq_false (by omega)
  have hz0 : (D0 == 0) = false := beq_eq_false_iff_ne.2 (by omega)
  have i1 : IntKind.i64.wrap (150 * D0) = 150 * D0 := IntWalk.i64_in _ (by omega)
  have i2 : IntKind.i64.wrap Q0 = Q0 := IntWalk.i64_in _ (by omega)
  have i3 : IntKind.i64.wrap (A2 - A1) = A2 - A1 := IntWalk.i64_in _ (by omega)
  have i4 : IntKind.i64.wrap (B2 - B1) = B2 - B1 := IntWalk.i64_in _ (by omega)
  have i5 : IntKind.i64.wrap (Q0 - 1) = Q0 - 1 := IntWalk.i64_in _ (by omega)
  have i6 : IntKind.i64.wrap (Q0 + 2) = Q0 + 2 := IntWalk.i64_in _ (by omega)
  have z4 : decide (A2 - A1 < Q0 - 1) = false := decide_eq_false (by omega)
  have z5 : decide (Q0 + 2 < A2 - A1) = false := decide_eq_false (by omega)
  have z6 : decide (B2 - B1 < Q0 - 1) = false := decide_eq_false (by omega)
  have z7 : decide (Q0 + 2 < B2 - B1) = false := decide_eq_false (by omega)
  have i7 : IntKind.i64.wrap (hi - lo) = hi - lo := IntWalk.i64_in _ (by omega)
  have i8 : IntKind.i64.wrap (hi - lo + 1) = hi - lo + 1 := IntWalk.i64_in _ (by omega)
  have i9 : IntKind.i64.wrap (lo + p) = lo + p := IntWalk.i64_in _ (by omega)
  have i10 : IntKind.i64.wrap (hi - (lo + p)) = hi - (lo + p) := IntWalk.i64_in _ (by omega)
  have i11 : IntKind.i64.wrap (hi - (lo + p) + 1) = hi - (lo + p) + 1 := IntWalk.i64_in _ (by omega)
  have i12 : IntKind.i64.wrap (lo + p + q) = lo + p + q := IntWalk.i64_in _ (by omega)
  have ip : IntKind.i64.wrap p = p := IntWalk.i64_in _ (by omega)
  have iq : IntKind.i64.wrap q = q := IntWalk.i64_in _ (by omega)
  have nz1 : ¬ (hi - lo + 1 = 0) := by omega
  have nz2 : ¬ (hi - (lo + p) + 1 = 0) := by omega
  have HL := Lib.hid (fun W : World => lies_true C1 C2 A1 B1 W n1 n2 n3)
  have B0 := Lib.hid (FoB.new w l kd f s c lo hi)
  clear d1 d2 d3 d4 m1 m2 o1 n1 n2 n3
  go_enter Try.func13, Try.ntmps13
  obtain ⟨c0, c1, c2, c3, c4, c5, c6, hz, hbw⟩ := B0.out
  go_wp2_with fail
  refine (HS1.out _).mono ?_; rintro e' X1 ⟨rfl, hb1⟩
  have qa := below_alloc X1 (.cells #[.int .i64 A1, .int .i64 B1] 25)
  have BX := Lib.hid ((B0.out.keep hb1).keep qa)
  have PX := Lib.hid (pairN X1 A1 B1 25)
  clear c0 c1 c2 c3 c4 c5 c6 hz hbw hb1 qa B0
  obtain ⟨c0, c1, c2, c3, c4, c5, c6, hz, hbw⟩ := BX.out
  obtain ⟨pa, pb⟩ := PX.out
  go_wp2_with fail
  refine (HS2.out _).mono ?_; rintro e' X2 ⟨rfl, hb2⟩
  have qb := below_alloc X2 (.cells #[.int .i64 A2, .int .i64 B2] 25)
  have BY := Lib.hid ((BX.out.keep hb2).keep qb)
  have PY := Lib.hid (And.intro (keepW qb (keepW hb2 pa)) (keepW qb (keepW hb2 pb)))
  have PZ := Lib.hid (pairN X2 A2 B2 25)
  clear c0 c1 c2 c3 c4 c5 c6 hz hbw hb2 qb BX pa pb PX
  obtain ⟨c0, c1, c2, c3, c4, c5, c6, hz, hbw⟩ := BY.out
  go_wp2_with fail
  refine (HF1.out _).mono ?_; rintro e' X3 ⟨rfl, hb3⟩
  have BU := Lib.hid (BY.out.keep hb3)
  have PU := Lib.hid (And.intro (keepW hb3 PY.out.1) (keepW hb3 PY.out.2))
  have PV := Lib.hid (And.intro (keepW hb3 PZ.out.1) (keepW hb3 PZ.out.2))
  clear c0 c1 c2 c3 c4 c5 c6 hz hbw hb3 BY PY PZ
  obtain ⟨c0, c1, c2, c3, c4, c5, c6, hz, hbw⟩ := BU.out
  go_wp2_with fail
  refine (HR1.out _).mono ?_; rintro e' X4 ⟨rfl, hb4⟩
  have B4 := Lib.hid (BU.out.keep hb4)
  have P4 := Lib.hid (And.intro (keepW hb4 PU.out.1) (keepW hb4 PU.out.2))
  obtain ⟨pa, pb⟩ := P4.out
  obtain ⟨pc, pd⟩ : _ ∧ _ := And.intro (keepW hb4 PV.out.1) (keepW hb4 PV.out.2)
  clear c0 c1 c2 c3 c4 c5 c6 hz hbw hb4 BU PU PV
  obtain ⟨c0, c1, c2, c3, c4, c5, c6, hz, hbw⟩ := B4.out
  have HS := Lib.hid (show (fun w' : World => w'.cell? ⟨w.heap.size, 0, none⟩ = some (.int .i64 l) ∧ w'.cell? ⟨w.heap.size, 1, none⟩ = some (.int .i64 kd) ∧ w'.cell? ⟨w.heap.size, 2, none⟩ = some (.int .i64 f) ∧ w'.cell? ⟨w.heap.size, 3, none⟩ = some (.int .i64 s) ∧ w'.cell? ⟨w.heap.size, 4, none⟩ = some (.int .i64 c) ∧ w'.cell? ⟨w.heap.size + 1, 0, none⟩ = some (.int .i64 lo) ∧ w'.cell? ⟨w.heap.size + 1, 1, none⟩ = some (.int .i64 hi) ∧ w'.cell? ⟨X1.heap.size, 0, none⟩ = some (.int .i64 A1) ∧ w'.cell? ⟨X1.heap.size, 1, none⟩ = some (.int .i64 B1) ∧ Below X4.drew.heap.size X4.drew w') X4.drew from ⟨c0, c1, c2, c3, c4, c5, c6, pa, pb, Below.refl _ _⟩)
  go_wp2_with fail
  refine wp_region_held_tail (S := (fun w' : World => w'.cell? ⟨w.heap.size, 0, none⟩ = some (.int .i64 l) ∧ w'.cell? ⟨w.heap.size, 1, none⟩ = some (.int .i64 kd) ∧ w'.cell? ⟨w.heap.size, 2, none⟩ = some (.int .i64 f) ∧ w'.cell? ⟨w.heap.size, 3, none⟩ = some (.int .i64 s) ∧ w'.cell? ⟨w.heap.size, 4, none⟩ = some (.int .i64 c) ∧ w'.cell? ⟨w.heap.size + 1, 0, none⟩ = some (.int .i64 lo) ∧ w'.cell? ⟨w.heap.size + 1, 1, none⟩ = some (.int .i64 hi) ∧ w'.cell? ⟨X1.heap.size, 0, none⟩ = some (.int .i64 A1) ∧ w'.cell? ⟨X1.heap.size, 1, none⟩ = some (.int .i64 B1) ∧ Below X4.drew.heap.size X4.drew w')) 12 (by kernel_rfl) (by kernel_rfl) HS.out (fun hHeld => ?_)
  clear HS
  refine wpAnyH_take (i := 0) (v := ?v0_1) rfl (by kernel_rfl) (by kernel_rfl) (by kernel_rfl) (fun _ _ _ h => h) (Or.inl ⟨by rfl, ?hy0_1⟩) (by assumption) ?rest0_1
  case hy0_1 => (intro w hSw; (try dsimp only at hSw); go_simp; (try with_reducible rfl))
  try simp only [Act.put, List.setIfInBounds_toArray, List.set_cons_zero, List.set_cons_succ]
  refine wpAnyH_take (i := 1) (v := ?v1_2) rfl (by kernel_rfl) (by kernel_rfl) (by kernel_rfl) (fun _ _ _ h => h) (Or.inl ⟨by rfl, ?hy1_2⟩) (by assumption) ?rest1_2
  case hy1_2 => (intro w hSw; (try dsimp only at hSw); go_simp; (try with_reducible rfl))
  try simp only [Act.put, List.setIfInBounds_toArray, List.set_cons_zero, List.set_cons_succ]
  refine wpAnyH_take (i := 2) (v := ?v2_3) rfl (by kernel_rfl) (by kernel_rfl) (by kernel_rfl) (fun _ _ _ h => h) (Or.inl ⟨by rfl, ?hy2_3⟩) (by assumption) ?rest2_3
  case hy2_3 => (intro w hSw; (try dsimp only at hSw); go_simp; (try with_reducible rfl))
  try simp only [Act.put, List.setIfInBounds_toArray, List.set_cons_zero, List.set_cons_succ]
  refine wpAnyH_take (i := 3) (v := ?v3_4) rfl (by kernel_rfl) (by kernel_rfl) (by kernel_rfl) (fun _ _ _ h => h) (Or.inl ⟨by rfl, ?hy3_4⟩) (by assumption) ?rest3_4
  case hy3_4 => (intro w hSw; (try dsimp only at hSw); go_simp; (try with_reducible rfl))
  try simp only [Act.put, List.setIfInBounds_toArray, List.set_cons_zero, List.set_cons_succ]
  refine wpAnyH_take (i := 4) (v := ?v4_5) rfl (by kernel_rfl) (by kernel_rfl) (by kernel_rfl) (fun _ _ _ h => h) (Or.inl ⟨by rfl, ?hy4_5⟩) (by assumption) ?rest4_5
  case hy4_5 => (intro w hSw; (try dsimp only at hSw); go_simp; (try with_reducible rfl))
  try simp only [Act.put, List.setIfInBounds_toArray, List.set_cons_zero, List.set_cons_succ]
  refine wpAnyH_take (i := 5) (v := ?v5_6) rfl (by kernel_rfl) (by kernel_rfl) (by kernel_rfl) (fun _ _ _ h => h) (Or.inl ⟨by rfl, ?hy5_6⟩) (by assumption) ?rest5_6
  case hy5_6 => (intro w hSw; (try dsimp only at hSw); go_simp; (try with_reducible rfl))
  try simp only [Act.put, List.setIfInBounds_toArray, List.set_cons_zero, List.set_cons_succ]
  refine wpAnyH_take (i := 6) (v := ?v6_7) rfl (by kernel_rfl) (by kernel_rfl) (by kernel_rfl) (fun _ _ _ h => h) (Or.inl ⟨by rfl, ?hy6_7⟩) (by assumption) ?rest6_7
  case hy6_7 => (intro w hSw; (try dsimp only at hSw); go_simp; (try with_reducible rfl))
  try simp only [Act.put, List.setIfInBounds_toArray, List.set_cons_zero, List.set_cons_succ]
  refine wpAnyH_take (i := 7) (v := ?v7_8) rfl (by kernel_rfl) (by kernel_rfl) (by kernel_rfl) (fun _ _ _ h => h) (Or.inl ⟨by rfl, ?hy7_8⟩) (by assumption) ?rest7_8
  case hy7_8 => (intro w hSw; (try dsimp only at hSw); go_simp; (try with_reducible rfl))
  try simp only [Act.put, List.setIfInBounds_toArray, List.set_cons_zero, List.set_cons_succ]
  refine wpAnyH_take (i := 8) (v := ?v8_9) rfl (by kernel_rfl) (by kernel_rfl) (by kernel_rfl) (fun _ _ _ h => h) (Or.inl ⟨by rfl, ?hy8_9⟩) (by assumption) ?rest8_9
  case hy8_9 => (intro w hSw; (try dsimp only at hSw); go_simp; (try with_reducible rfl))
  try simp only [Act.put, List.setIfInBounds_toArray, List.set_cons_zero, List.set_cons_succ]
  refine wpAnyH_take (i := 9) (v := ?v9_10) rfl (by kernel_rfl) (by kernel_rfl) (by kernel_rfl) (fun _ _ _ h => h) (Or.inl ⟨by rfl, ?hy9_10⟩) (by assumption) ?rest9_10
  case hy9_10 => (intro w hSw; (try dsimp only at hSw); go_simp; (try with_reducible rfl))
  try simp only [Act.put, List.setIfInBounds_toArray, List.set_cons_zero, List.set_cons_succ]
  refine wpAnyH_take (i := 10) (v := ?v10_11) rfl (by kernel_rfl) (by kernel_rfl) (by kernel_rfl) (fun _ _ _ h => h) (Or.inl ⟨by rfl, ?hy10_11⟩) (by assumption) ?rest10_11
  case hy10_11 => (intro w hSw; (try dsimp only at hSw); go_simp; (try with_reducible rfl))
  try simp only [Act.put, List.setIfInBounds_toArray, List.set_cons_zero, List.set_cons_succ]
  refine wpAnyH_take (i := 11) (v := ?v11_12) rfl (by kernel_rfl) (by kernel_rfl) (by kernel_rfl) (fun _ _ _ h => h) (Or.inl ⟨by rfl, ?hy11_12⟩) (by assumption) ?rest11_12
  case hy11_12 => (intro w hSw; (try dsimp only at hSw); go_simp; (try with_reducible rfl))
  try simp only [Act.put, List.setIfInBounds_toArray, List.set_cons_zero, List.set_cons_succ]
  refine wpAnyH_done (by kernel_rfl) ?_ _
  change wpList _ _ _ _ _ _
  simp only [List.drop_succ_cons, List.drop_zero]
  go_wp2_with fail
  have HS := Lib.hid (show (fun w' : World => w'.cell? ⟨w.heap.size, 0, none⟩ = some (.int .i64 l) ∧ w'.cell? ⟨w.heap.size, 1, none⟩ = some (.int .i64 kd) ∧ w'.cell? ⟨w.heap.size, 2, none⟩ = some (.int .i64 f) ∧ w'.cell? ⟨w.heap.size, 3, none⟩ = some (.int .i64 s) ∧ w'.cell? ⟨w.heap.size, 4, none⟩ = some (.int .i64 c) ∧ w'.cell? ⟨w.heap.size + 1, 0, none⟩ = some (.int .i64 lo) ∧ w'.cell? ⟨w.heap.size + 1, 1, none⟩ = some (.int .i64 hi) ∧ w'.cell? ⟨X1.heap.size, 0, none⟩ = some (.int .i64 A1) ∧ w'.cell? ⟨X1.heap.size, 1, none⟩ = some (.int .i64 B1) ∧ Below X4.drew.drew.heap.size X4.drew.drew w') X4.drew.drew from ⟨c0, c1, c2, c3, c4, c5, c6, pa, pb, Below.refl _ _⟩)
  have bX : Below w.heap.size w X4.drew.drew := hbw.trans (((Below.refl X4.heap.size X4).drew.drew).mono hbw.size)
  have hv0 : w.heap.size < X4.drew.drew.heap.size := World.block_lt_of_cell? _ _ c0
  have hv1 : w.heap.size + 1 < X4.drew.drew.heap.size := World.block_lt_of_cell? _ _ c5
  have hzX : X1.heap.size < X4.drew.drew.heap.size := World.block_lt_of_cell? _ _ pa
  clear c0 c1 c2 c3 c4 c5 c6 hz hbw pa pb B4 P4 pc pd
  refine wp_region_held_tail (S := (fun w' : World => w'.cell? ⟨w.heap.size, 0, none⟩ = some (.int .i64 l) ∧ w'.cell? ⟨w.heap.size, 1, none⟩ = some (.int .i64 kd) ∧ w'.cell? ⟨w.heap.size, 2, none⟩ = some (.int .i64 f) ∧ w'.cell? ⟨w.heap.size, 3, none⟩ = some (.int .i64 s) ∧ w'.cell? ⟨w.heap.size, 4, none⟩ = some (.int .i64 c) ∧ w'.cell? ⟨w.heap.size + 1, 0, none⟩ = some (.int .i64 lo) ∧ w'.cell? ⟨w.heap.size + 1, 1, none⟩ = some (.int .i64 hi) ∧ w'.cell? ⟨X1.heap.size, 0, none⟩ = some (.int .i64 A1) ∧ w'.cell? ⟨X1.heap.size, 1, none⟩ = some (.int .i64 B1) ∧ Below X4.drew.drew.heap.size X4.drew.drew w')) 21 (by kernel_rfl) (by kernel_rfl) HS.out (fun hHeld => ?_)
  clear HS
  obtain ⟨D, hD⟩ : ∃ D, D = X4.drew.drew := ⟨_, rfl⟩
  rw [← hD] at hHeld bX hzX hv0 hv1 ⊢
  clear hD
  refine wpAnyH_take (i := 0) (v := ?v0_13) rfl (by kernel_rfl) (by kernel_rfl) (by kernel_rfl) (fun _ _ _ h => h) (Or.inl ⟨by rfl, ?hy0_13⟩) (by assumption) ?rest0_13
  case hy0_13 => (intro w hSw; (try dsimp only at hSw); go_simp; (try with_reducible rfl))
  try simp only [Act.put, List.setIfInBounds_toArray, List.set_cons_zero, List.set_cons_succ]
  refine wpAnyH_take (i := 1) (v := ?v1_14) rfl (by kernel_rfl) (by kernel_rfl) (by kernel_rfl) (fun _ _ _ h => h) (Or.inl ⟨by rfl, ?hy1_14⟩) (by assumption) ?rest1_14
  case hy1_14 => (intro w hSw; (try dsimp only at hSw); go_simp; (try with_reducible rfl))
  try simp only [Act.put, List.setIfInBounds_toArray, List.set_cons_zero, List.set_cons_succ]
  refine wpAnyH_take (i := 2) (v := ?v2_15) rfl (by kernel_rfl) (by kernel_rfl) (by kernel_rfl) (fun _ _ _ h => h) (Or.inl ⟨by rfl, ?hy2_15⟩) (by assumption) ?rest2_15
  case hy2_15 => (intro w hSw; (try dsimp only at hSw); go_simp; (try with_reducible rfl))
  try simp only [Act.put, List.setIfInBounds_toArray, List.set_cons_zero, List.set_cons_succ]
  refine wpAnyH_take (i := 3) (v := ?v3_16) rfl (by kernel_rfl) (by kernel_rfl) (by kernel_rfl) (fun _ _ _ h => h) (Or.inl ⟨by rfl, ?hy3_16⟩) (by assumption) ?rest3_16
  case hy3_16 => (intro w hSw; (try dsimp only at hSw); go_simp; (try with_reducible rfl))
  try simp only [Act.put, List.setIfInBounds_toArray, List.set_cons_zero, List.set_cons_succ]
  refine wpAnyH_take (i := 4) (v := ?v4_17) rfl (by kernel_rfl) (by kernel_rfl) (by kernel_rfl) (fun _ _ _ h => h) (Or.inl ⟨by rfl, ?hy4_17⟩) (by assumption) ?rest4_17
  case hy4_17 => (intro w hSw; (try dsimp only at hSw); go_simp; (try with_reducible rfl))
  try simp only [Act.put, List.setIfInBounds_toArray, List.set_cons_zero, List.set_cons_succ]
  refine wpAnyH_take (i := 5) (v := ?v5_18) rfl (by kernel_rfl) (by kernel_rfl) (by kernel_rfl) (fun _ _ _ h => h) (Or.inl ⟨by rfl, ?hy5_18⟩) (by assumption) ?rest5_18
  case hy5_18 => (intro w hSw; (try dsimp only at hSw); go_simp; (try with_reducible rfl))
  try simp only [Act.put, List.setIfInBounds_toArray, List.set_cons_zero, List.set_cons_succ]
  refine wpAnyH_take (i := 6) (v := ?v6_19) rfl (by kernel_rfl) (by kernel_rfl) (by kernel_rfl) (fun _ _ _ h => h) (Or.inl ⟨by rfl, ?hy6_19⟩) (by assumption) ?rest6_19
  case hy6_19 => (intro w hSw; (try dsimp only at hSw); go_simp; (try with_reducible rfl))
  try simp only [Act.put, List.setIfInBounds_toArray, List.set_cons_zero, List.set_cons_succ]
  refine wpAnyH_take (i := 7) (v := ?v7_20) rfl (by kernel_rfl) (by kernel_rfl) (by kernel_rfl) (fun _ _ _ h => h) (Or.inl ⟨by rfl, ?hy7_20⟩) (by assumption) ?rest7_20
  case hy7_20 => (intro w hSw; (try dsimp only at hSw); go_simp; (try with_reducible rfl))
  try simp only [Act.put, List.setIfInBounds_toArray, List.set_cons_zero, List.set_cons_succ]
  refine wpAnyH_take (i := 8) (v := ?v8_21) rfl (by kernel_rfl) (by kernel_rfl) (by kernel_rfl) (fun _ _ _ h => h) (Or.inl ⟨by rfl, ?hy8_21⟩) (by assumption) ?rest8_21
  case hy8_21 => (intro w hSw; (try dsimp only at hSw); go_simp; (try with_reducible rfl))
  try simp only [Act.put, List.setIfInBounds_toArray, List.set_cons_zero, List.set_cons_succ]
  refine wpAnyH_take (i := 9) (v := ?v9_22) rfl (by kernel_rfl) (by kernel_rfl) (by kernel_rfl) (fun _ _ _ h => h) (Or.inl ⟨by rfl, ?hy9_22⟩) (by assumption) ?rest9_22
  case hy9_22 => (intro w hSw; (try dsimp only at hSw); go_simp; (try with_reducible rfl))
  try simp only [Act.put, List.setIfInBounds_toArray, List.set_cons_zero, List.set_cons_succ]
  refine wpAnyH_take (i := 10) (v := ?v10_23) rfl (by kernel_rfl) (by kernel_rfl) (by kernel_rfl) (fun _ _ _ h => h) (Or.inl ⟨by rfl, ?hy10_23⟩) (by assumption) ?rest10_23
  case hy10_23 => (intro w hSw; (try dsimp only at hSw); go_simp; (try with_reducible rfl))
  try simp only [Act.put, List.setIfInBounds_toArray, List.set_cons_zero, List.set_cons_succ]
  refine wpAnyH_take (i := 11) (v := ?v11_24) rfl (by kernel_rfl) (by kernel_rfl) (by kernel_rfl) (fun _ _ _ h => h) (Or.inl ⟨by rfl, ?hy11_24⟩) (by assumption) ?rest11_24
  case hy11_24 => (intro w hSw; (try dsimp only at hSw); go_simp; (try with_reducible rfl))
  try simp only [Act.put, List.setIfInBounds_toArray, List.set_cons_zero, List.set_cons_succ]
  refine wpAnyH_take (i := 12) (v := ?v12_25) rfl (by kernel_rfl) (by kernel_rfl) (by kernel_rfl) (fun _ _ _ h => h) (Or.inl ⟨by rfl, ?hy12_25⟩) (by assumption) ?rest12_25
  case hy12_25 => (intro w hSw; (try dsimp only at hSw); go_simp; (try with_reducible rfl))
  try simp only [Act.put, List.setIfInBounds_toArray, List.set_cons_zero, List.set_cons_succ]
  refine wpAnyH_take (i := 13) (v := ?v13_26) rfl (by kernel_rfl) (by kernel_rfl) (by kernel_rfl) (fun _ _ _ h => h) (Or.inl ⟨by rfl, ?hy13_26⟩) (by assumption) ?rest13_26
  case hy13_26 => (intro w hSw; (try dsimp only at hSw); go_simp; (try with_reducible rfl))
  try simp only [Act.put, List.setIfInBounds_toArray, List.set_cons_zero, List.set_cons_succ]
  refine wpAnyH_take (i := 14) (v := ?v14_27) rfl (by kernel_rfl) (by kernel_rfl) (by kernel_rfl) (fun _ _ _ h => h) (Or.inl ⟨by rfl, ?hy14_27⟩) (by assumption) ?rest14_27
  case hy14_27 => (intro w hSw; (try dsimp only at hSw); go_simp; (try with_reducible rfl))
  try simp only [Act.put, List.setIfInBounds_toArray, List.set_cons_zero, List.set_cons_succ]
  refine wpAnyH_ready (rs := [15, 19]) (by kernel_rfl) (by simp) ?_
  refine AllReadyH.cons rfl (fun K hK => ?_) (AllReadyH.cons rfl (fun K hK => ?_) AllReadyH.nil)
  · go_simp
    go_at_call 32
    refine (HS3.out _).mono ?_; rintro e' w' ⟨rfl, hb'⟩
    refine hK.out _ _ (⟨keepW hb' hHeld.1, keepW hb' hHeld.2.1, keepW hb' hHeld.2.2.1, keepW hb' hHeld.2.2.2.1, keepW hb' hHeld.2.2.2.2.1, keepW hb' hHeld.2.2.2.2.2.1, keepW hb' hHeld.2.2.2.2.2.2.1, keepW hb' hHeld.2.2.2.2.2.2.2.1, keepW hb' hHeld.2.2.2.2.2.2.2.2.1, hHeld.2.2.2.2.2.2.2.2.2.trans (hb'.mono hHeld.2.2.2.2.2.2.2.2.2.size)⟩) (fun hHeld => ?_)
    clear hK K
    try simp only [Act.put, List.setIfInBounds_toArray, List.set_cons_zero, List.set_cons_succ]
    refine wpAnyH_take (i := 16) (v := ?v16_28) rfl (by kernel_rfl) (by kernel_rfl) (by kernel_rfl) (fun _ _ _ h => h) (Or.inl ⟨by rfl, ?hy16_28⟩) (by assumption) ?rest16_28
    case hy16_28 => (intro w hSw; (try dsimp only at hSw); go_simp; (try with_reducible rfl))
    try simp only [Act.put, List.setIfInBounds_toArray, List.set_cons_zero, List.set_cons_succ]
    refine wpAnyH_take (i := 17) (v := ?v17_29) rfl (by kernel_rfl) (by kernel_rfl) (by kernel_rfl) (fun _ _ _ h => h) (Or.inl ⟨by rfl, ?hy17_29⟩) (by assumption) ?rest17_29
    case hy17_29 => (intro w hSw; (try dsimp only at hSw); go_simp; (try with_reducible rfl))
    try simp only [Act.put, List.setIfInBounds_toArray, List.set_cons_zero, List.set_cons_succ]
    refine wpAnyH_take (i := 18) (v := ?v18_30) rfl (by kernel_rfl) (by kernel_rfl) (by kernel_rfl) (fun _ _ _ h => h) (Or.inl ⟨by rfl, ?hy18_30⟩) (by assumption) ?rest18_30
    case hy18_30 => (intro w hSw; (try dsimp only at hSw); go_simp; (try with_reducible rfl))
    try simp only [Act.put, List.setIfInBounds_toArray, List.set_cons_zero, List.set_cons_succ]
    refine wpAnyH_ready (rs := [19]) (by kernel_rfl) (by simp) ?_
    refine AllReadyH.cons rfl (fun K hK => ?_) AllReadyH.nil
    go_simp
    have hb2 : Below w'.heap.size w' (w'.alloc (.cells #[.int .i64 0, .int .i64 0] 25)) := below_alloc _ _
    have r := pairF w'
    obtain ⟨E, hE⟩ : ∃ E, E = w'.alloc (.cells #[.int .i64 0, .int .i64 0] 25) := ⟨_, rfl⟩
    rw [← hE] at hb2 r ⊢
    refine hK.out _ _ (⟨keepW hb2 hHeld.1, keepW hb2 hHeld.2.1, keepW hb2 hHeld.2.2.1, keepW hb2 hHeld.2.2.2.1, keepW hb2 hHeld.2.2.2.2.1, keepW hb2 hHeld.2.2.2.2.2.1, keepW hb2 hHeld.2.2.2.2.2.2.1, keepW hb2 hHeld.2.2.2.2.2.2.2.1, keepW hb2 hHeld.2.2.2.2.2.2.2.2.1, hHeld.2.2.2.2.2.2.2.2.2.trans (hb2.mono hHeld.2.2.2.2.2.2.2.2.2.size)⟩) (fun hHeld => ?_)
    clear hK K
    have bE := bX.trans ((hb'.trans (hb2.mono hb'.size)).mono bX.size)
    have hbs := hb'.size
    have hq : X1.heap.size < w'.heap.size := Nat.lt_of_lt_of_le hzX hb'.size
    have hl0 : w.heap.size < w'.heap.size := Nat.lt_of_lt_of_le hv0 hb'.size
    have hl1 : w.heap.size + 1 < w'.heap.size := Nat.lt_of_lt_of_le hv1 hb'.size
    have hqe := hb2.size
    try simp only [Act.put, List.setIfInBounds_toArray, List.set_cons_zero, List.set_cons_succ]
    clear hE hb2 hb'
    obtain ⟨r0, r1, f0, f1⟩ := r
    refine wpAnyH_ready (rs := [20]) (by kernel_rfl) (by simp) ?_
    refine AllReadyH.cons rfl (fun K hK => ?_) AllReadyH.nil
    go_simp
    have bS : Below w'.heap.size E ((E.setCell ⟨w'.heap.size, 0, none⟩ (.int .i64 C1)).setCell ⟨w'.heap.size, 1, none⟩ (.int .i64 C2)) := ((Below.refl w'.heap.size E).setCell (p := ⟨w'.heap.size, 0, none⟩) (by dsimp only; omega) _).setCell (p := ⟨w'.heap.size, 1, none⟩) (by dsimp only; omega) _
    have s0 : ((E.setCell ⟨w'.heap.size, 0, none⟩ (.int .i64 C1)).setCell ⟨w'.heap.size, 1, none⟩ (.int .i64 C2)).cell? ⟨w'.heap.size, 0, none⟩ = some (.int .i64 C1) := set_other (i := 1) (j := 0) (b := w'.heap.size) (by decide) (set_same (v := .int .i64 C1) r0)
    have s1 : ((E.setCell ⟨w'.heap.size, 0, none⟩ (.int .i64 C1)).setCell ⟨w'.heap.size, 1, none⟩ (.int .i64 C2)).cell? ⟨w'.heap.size, 1, none⟩ = some (.int .i64 C2) := set_same (v := .int .i64 C2) (set_other (i := 0) (j := 1) (b := w'.heap.size) (v := .int .i64 C1) (by decide) r1)
    have bZ : Below w.heap.size w ((E.setCell ⟨w'.heap.size, 0, none⟩ (.int .i64 C1)).setCell ⟨w'.heap.size, 1, none⟩ (.int .i64 C2)) := (bE.setCell (p := ⟨w'.heap.size, 0, none⟩) (by dsimp only; omega) _).setCell (p := ⟨w'.heap.size, 1, none⟩) (by dsimp only; omega) _
    have bD : Below D.heap.size D ((E.setCell ⟨w'.heap.size, 0, none⟩ (.int .i64 C1)).setCell ⟨w'.heap.size, 1, none⟩ (.int .i64 C2)) := (hHeld.2.2.2.2.2.2.2.2.2.setCell (p := ⟨w'.heap.size, 0, none⟩) (by dsimp only; omega) _).setCell (p := ⟨w'.heap.size, 1, none⟩) (by dsimp only; omega) _
    have hH2 := Lib.hid (show ((E.setCell ⟨w'.heap.size, 0, none⟩ (.int .i64 C1)).setCell ⟨w'.heap.size, 1, none⟩ (.int .i64 C2)).cell? ⟨w.heap.size, 0, none⟩ = some (.int .i64 l) ∧ ((E.setCell ⟨w'.heap.size, 0, none⟩ (.int .i64 C1)).setCell ⟨w'.heap.size, 1, none⟩ (.int .i64 C2)).cell? ⟨w.heap.size, 1, none⟩ = some (.int .i64 kd) ∧ ((E.setCell ⟨w'.heap.size, 0, none⟩ (.int .i64 C1)).setCell ⟨w'.heap.size, 1, none⟩ (.int .i64 C2)).cell? ⟨w.heap.size, 2, none⟩ = some (.int .i64 f) ∧ ((E.setCell ⟨w'.heap.size, 0, none⟩ (.int .i64 C1)).setCell ⟨w'.heap.size, 1, none⟩ (.int .i64 C2)).cell? ⟨w.heap.size, 3, none⟩ = some (.int .i64 s) ∧ ((E.setCell ⟨w'.heap.size, 0, none⟩ (.int .i64 C1)).setCell ⟨w'.heap.size, 1, none⟩ (.int .i64 C2)).cell? ⟨w.heap.size, 4, none⟩ = some (.int .i64 c) ∧ ((E.setCell ⟨w'.heap.size, 0, none⟩ (.int .i64 C1)).setCell ⟨w'.heap.size, 1, none⟩ (.int .i64 C2)).cell? ⟨w.heap.size + 1, 0, none⟩ = some (.int .i64 lo) ∧ ((E.setCell ⟨w'.heap.size, 0, none⟩ (.int .i64 C1)).setCell ⟨w'.heap.size, 1, none⟩ (.int .i64 C2)).cell? ⟨w.heap.size + 1, 1, none⟩ = some (.int .i64 hi) ∧ ((E.setCell ⟨w'.heap.size, 0, none⟩ (.int .i64 C1)).setCell ⟨w'.heap.size, 1, none⟩ (.int .i64 C2)).cell? ⟨X1.heap.size, 0, none⟩ = some (.int .i64 A1) ∧ ((E.setCell ⟨w'.heap.size, 0, none⟩ (.int .i64 C1)).setCell ⟨w'.heap.size, 1, none⟩ (.int .i64 C2)).cell? ⟨X1.heap.size, 1, none⟩ = some (.int .i64 B1) ∧ Below D.heap.size D ((E.setCell ⟨w'.heap.size, 0, none⟩ (.int .i64 C1)).setCell ⟨w'.heap.size, 1, none⟩ (.int .i64 C2)) from ⟨keepB bS hl0 hHeld.1, keepB bS hl0 hHeld.2.1, keepB bS hl0 hHeld.2.2.1, keepB bS hl0 hHeld.2.2.2.1, keepB bS hl0 hHeld.2.2.2.2.1, keepB bS hl1 hHeld.2.2.2.2.2.1, keepB bS hl1 hHeld.2.2.2.2.2.2.1, keepB bS hq hHeld.2.2.2.2.2.2.2.1, keepB bS hq hHeld.2.2.2.2.2.2.2.2.1, bD⟩)
    obtain ⟨Z, hZ⟩ : ∃ Z, Z = (E.setCell ⟨w'.heap.size, 0, none⟩ (.int .i64 C1)).setCell ⟨w'.heap.size, 1, none⟩ (.int .i64 C2) := ⟨_, rfl⟩
    rw [← hZ] at s0 s1 bZ hH2 ⊢
    clear hZ bS bD r0 r1 f0 f1 hHeld
    refine hK.out _ _ hH2.out (fun hHeld => ?_)
    clear hK K hH2
    try simp only [Act.put, List.setIfInBounds_toArray, List.set_cons_zero, List.set_cons_succ]
    refine wpAnyH_done (by kernel_rfl) ?_ _
    change wpList _ _ _ _ _ _
    simp only [List.drop_succ_cons, List.drop_zero]
    have pa := hHeld.2.2.2.2.2.2.2.1
    have pb := hHeld.2.2.2.2.2.2.2.2.1
    clear hHeld
    go_wp2_with fail
    refine (HL.out _).mono ?_; rintro e' X5 ⟨rfl, hb5⟩
    go_wp2_with fail
    refine (works_any _).mono ?_; rintro e' X6 ⟨rfl, hb6⟩
    go_wp2_with fail
    go_ret
    have b5 := bZ.trans (hb5.mono bZ.size)
    exact ⟨rfl, b5.trans (hb6.mono b5.size)⟩
  · go_simp
    have hb2 : Below D.heap.size D (D.alloc (.cells #[.int .i64 0, .int .i64 0] 25)) := below_alloc _ _
    have r := pairF D
    obtain ⟨E, hE⟩ : ∃ E, E = D.alloc (.cells #[.int .i64 0, .int .i64 0] 25) := ⟨_, rfl⟩
    have hzE : D.heap.size < (D.alloc (.cells #[.int .i64 0, .int .i64 0] 25)).heap.size := by rw [World.size_alloc]; omega
    rw [← hE] at hb2 r hzE ⊢
    refine hK.out _ _ (⟨keepW hb2 hHeld.1, keepW hb2 hHeld.2.1, keepW hb2 hHeld.2.2.1, keepW hb2 hHeld.2.2.2.1, keepW hb2 hHeld.2.2.2.2.1, keepW hb2 hHeld.2.2.2.2.2.1, keepW hb2 hHeld.2.2.2.2.2.2.1, keepW hb2 hHeld.2.2.2.2.2.2.2.1, keepW hb2 hHeld.2.2.2.2.2.2.2.2.1, hHeld.2.2.2.2.2.2.2.2.2.trans (hb2.mono hHeld.2.2.2.2.2.2.2.2.2.size)⟩) (fun hHeld => ?_)
    clear hK K hE
    try simp only [Act.put, List.setIfInBounds_toArray, List.set_cons_zero, List.set_cons_succ]
    refine wpAnyH_ready (rs := [15]) (by kernel_rfl) (by simp) ?_
    refine AllReadyH.cons rfl (fun K hK => ?_) AllReadyH.nil
    go_simp
    go_at_call 32
    refine (HS3.out _).mono ?_; rintro e' w' ⟨rfl, hb'⟩
    refine hK.out _ _ (⟨keepW hb' hHeld.1, keepW hb' hHeld.2.1, keepW hb' hHeld.2.2.1, keepW hb' hHeld.2.2.2.1, keepW hb' hHeld.2.2.2.2.1, keepW hb' hHeld.2.2.2.2.2.1, keepW hb' hHeld.2.2.2.2.2.2.1, keepW hb' hHeld.2.2.2.2.2.2.2.1, keepW hb' hHeld.2.2.2.2.2.2.2.2.1, hHeld.2.2.2.2.2.2.2.2.2.trans (hb'.mono hHeld.2.2.2.2.2.2.2.2.2.size)⟩) (fun hHeld => ?_)
    clear hK K
    have r : _ ∧ _ ∧ _ ∧ _ := And.intro (keepW hb' r.1) (And.intro (keepW hb' r.2.1) (And.intro (keepF hb' hzE r.2.2.1) (keepF hb' hzE r.2.2.2)))
    have bE := bX.trans ((hb2.trans (hb'.mono hb2.size)).mono bX.size)
    have hq : X1.heap.size < D.heap.size := hzX
    have hl0 := hv0
    have hl1 := hv1
    have hqe : D.heap.size ≤ w'.heap.size := Nat.le_trans hb2.size hb'.size
    try simp only [Act.put, List.setIfInBounds_toArray, List.set_cons_zero, List.set_cons_succ]
    refine wpAnyH_take (i := 16) (v := ?v16_31) rfl (by kernel_rfl) (by kernel_rfl) (by kernel_rfl) (fun _ _ _ h => h) (Or.inl ⟨by rfl, ?hy16_31⟩) (by assumption) ?rest16_31
    case hy16_31 => (intro w hSw; (try dsimp only at hSw); go_simp; (try with_reducible rfl))
    try simp only [Act.put, List.setIfInBounds_toArray, List.set_cons_zero, List.set_cons_succ]
    refine wpAnyH_take (i := 17) (v := ?v17_32) rfl (by kernel_rfl) (by kernel_rfl) (by kernel_rfl) (fun _ _ _ h => h) (Or.inl ⟨by rfl, ?hy17_32⟩) (by assumption) ?rest17_32
    case hy17_32 => (intro w hSw; (try dsimp only at hSw); go_simp; (try with_reducible rfl))
    try simp only [Act.put, List.setIfInBounds_toArray, List.set_cons_zero, List.set_cons_succ]
    refine wpAnyH_take (i := 18) (v := ?v18_33) rfl (by kernel_rfl) (by kernel_rfl) (by kernel_rfl) (fun _ _ _ h => h) (Or.inl ⟨by rfl, ?hy18_33⟩) (by assumption) ?rest18_33
    case hy18_33 => (intro w hSw; (try dsimp only at hSw); go_simp; (try with_reducible rfl))
    try simp only [Act.put, List.setIfInBounds_toArray, List.set_cons_zero, List.set_cons_succ]
    clear hb2 hb'
    obtain ⟨r0, r1, f0, f1⟩ := r
    refine wpAnyH_ready (rs := [20]) (by kernel_rfl) (by simp) ?_
    refine AllReadyH.cons rfl (fun K hK => ?_) AllReadyH.nil
    go_simp
    have bS : Below D.heap.size w' ((w'.setCell ⟨D.heap.size, 0, none⟩ (.int .i64 C1)).setCell ⟨D.heap.size, 1, none⟩ (.int .i64 C2)) := ((Below.refl D.heap.size w').setCell (p := ⟨D.heap.size, 0, none⟩) (by dsimp only; omega) _).setCell (p := ⟨D.heap.size, 1, none⟩) (by dsimp only; omega) _
    have s0 : ((w'.setCell ⟨D.heap.size, 0, none⟩ (.int .i64 C1)).setCell ⟨D.heap.size, 1, none⟩ (.int .i64 C2)).cell? ⟨D.heap.size, 0, none⟩ = some (.int .i64 C1) := set_other (i := 1) (j := 0) (b := D.heap.size) (by decide) (set_same (v := .int .i64 C1) r0)
    have s1 : ((w'.setCell ⟨D.heap.size, 0, none⟩ (.int .i64 C1)).setCell ⟨D.heap.size, 1, none⟩ (.int .i64 C2)).cell? ⟨D.heap.size, 1, none⟩ = some (.int .i64 C2) := set_same (v := .int .i64 C2) (set_other (i := 0) (j := 1) (b := D.heap.size) (v := .int .i64 C1) (by decide) r1)
    have bZ : Below w.heap.size w ((w'.setCell ⟨D.heap.size, 0, none⟩ (.int .i64 C1)).setCell ⟨D.heap.size, 1, none⟩ (.int .i64 C2)) := (bE.setCell (p := ⟨D.heap.size, 0, none⟩) (by dsimp only; omega) _).setCell (p := ⟨D.heap.size, 1, none⟩) (by dsimp only; omega) _
    have bD : Below D.heap.size D ((w'.setCell ⟨D.heap.size, 0, none⟩ (.int .i64 C1)).setCell ⟨D.heap.size, 1, none⟩ (.int .i64 C2)) := (hHeld.2.2.2.2.2.2.2.2.2.setCell (p := ⟨D.heap.size, 0, none⟩) (by dsimp only; omega) _).setCell (p := ⟨D.heap.size, 1, none⟩) (by dsimp only; omega) _
    have hH2 := Lib.hid (show ((w'.setCell ⟨D.heap.size, 0, none⟩ (.int .i64 C1)).setCell ⟨D.heap.size, 1, none⟩ (.int .i64 C2)).cell? ⟨w.heap.size, 0, none⟩ = some (.int .i64 l) ∧ ((w'.setCell ⟨D.heap.size, 0, none⟩ (.int .i64 C1)).setCell ⟨D.heap.size, 1, none⟩ (.int .i64 C2)).cell? ⟨w.heap.size, 1, none⟩ = some (.int .i64 kd) ∧ ((w'.setCell ⟨D.heap.size, 0, none⟩ (.int .i64 C1)).setCell ⟨D.heap.size, 1, none⟩ (.int .i64 C2)).cell? ⟨w.heap.size, 2, none⟩ = some (.int .i64 f) ∧ ((w'.setCell ⟨D.heap.size, 0, none⟩ (.int .i64 C1)).setCell ⟨D.heap.size, 1, none⟩ (.int .i64 C2)).cell? ⟨w.heap.size, 3, none⟩ = some (.int .i64 s) ∧ ((w'.setCell ⟨D.heap.size, 0, none⟩ (.int .i64 C1)).setCell ⟨D.heap.size, 1, none⟩ (.int .i64 C2)).cell? ⟨w.heap.size, 4, none⟩ = some (.int .i64 c) ∧ ((w'.setCell ⟨D.heap.size, 0, none⟩ (.int .i64 C1)).setCell ⟨D.heap.size, 1, none⟩ (.int .i64 C2)).cell? ⟨w.heap.size + 1, 0, none⟩ = some (.int .i64 lo) ∧ ((w'.setCell ⟨D.heap.size, 0, none⟩ (.int .i64 C1)).setCell ⟨D.heap.size, 1, none⟩ (.int .i64 C2)).cell? ⟨w.heap.size + 1, 1, none⟩ = some (.int .i64 hi) ∧ ((w'.setCell ⟨D.heap.size, 0, none⟩ (.int .i64 C1)).setCell ⟨D.heap.size, 1, none⟩ (.int .i64 C2)).cell? ⟨X1.heap.size, 0, none⟩ = some (.int .i64 A1) ∧ ((w'.setCell ⟨D.heap.size, 0, none⟩ (.int .i64 C1)).setCell ⟨D.heap.size, 1, none⟩ (.int .i64 C2)).cell? ⟨X1.heap.size, 1, none⟩ = some (.int .i64 B1) ∧ Below D.heap.size D ((w'.setCell ⟨D.heap.size, 0, none⟩ (.int .i64 C1)).setCell ⟨D.heap.size, 1, none⟩ (.int .i64 C2)) from ⟨keepB bS hl0 hHeld.1, keepB bS hl0 hHeld.2.1, keepB bS hl0 hHeld.2.2.1, keepB bS hl0 hHeld.2.2.2.1, keepB bS hl0 hHeld.2.2.2.2.1, keepB bS hl1 hHeld.2.2.2.2.2.1, keepB bS hl1 hHeld.2.2.2.2.2.2.1, keepB bS hq hHeld.2.2.2.2.2.2.2.1, keepB bS hq hHeld.2.2.2.2.2.2.2.2.1, bD⟩)
    obtain ⟨Z, hZ⟩ : ∃ Z, Z = (w'.setCell ⟨D.heap.size, 0, none⟩ (.int .i64 C1)).setCell ⟨D.heap.size, 1, none⟩ (.int .i64 C2) := ⟨_, rfl⟩
    rw [← hZ] at s0 s1 bZ hH2 ⊢
    clear hZ bS bD r0 r1 f0 f1 hHeld
    refine hK.out _ _ hH2.out (fun hHeld => ?_)
    clear hK K hH2
    try simp only [Act.put, List.setIfInBounds_toArray, List.set_cons_zero, List.set_cons_succ]
    refine wpAnyH_done (by kernel_rfl) ?_ _
    change wpList _ _ _ _ _ _
    simp only [List.drop_succ_cons, List.drop_zero]
    have pa := hHeld.2.2.2.2.2.2.2.1
    have pb := hHeld.2.2.2.2.2.2.2.2.1
    clear hHeld
    go_wp2_with fail
    refine (HL.out _).mono ?_; rintro e' X5 ⟨rfl, hb5⟩
    go_wp2_with fail
    refine (works_any _).mono ?_; rintro e' X6 ⟨rfl, hb6⟩
    go_wp2_with fail
    go_ret
    have b5 := bZ.trans (hb5.mono bZ.size)
    exact ⟨rfl, b5.trans (hb6.mono b5.size)⟩

set_option maxRecDepth 100000 in
set_option maxHeartbeats 8000000 in
theorem PF_err1 (l kd f s c lo hi a x y : Int) (w : World) (ha : -128 ≤ a ∧ a ≤ 127) (hx : 0 ≤ x ∧ x ≤ 4294967295) (hy : 0 ≤ y ∧ y ≤ 4294967295) (he : ¬ spE l kd f s c 1 lo hi (a.tmod 64) = 0) :
    Calls Try.prog 13 #[.agg #[.int .i64 l, .int .i64 kd, .int .i64 f, .int .i64 s, .int .i64 c], .bool true, .agg #[.int .i64 lo, .int .i64 hi], .int .i8 a, .int .u32 x, .int .u32 y] w fun e w' => e = .returned (.bool true) ∧ Below w.heap.size w w' := by
  have ja : IntKind.i64.wrap a = a := IntWalk.i64_in _ (by omega)
  obtain ⟨kk, hk⟩ : ∃ z, a.tmod 64 = z := ⟨_, rfl⟩
  rw [hk] at he
  obtain ⟨E, hE⟩ : ∃ z, z = spE l kd f s c 1 lo hi kk := ⟨_, rfl⟩
  have HS1 : Hid (∀ W : World, Calls Try.prog 32 #[.agg #[.int .i64 l, .int .i64 kd, .int .i64 f, .int .i64 s, .int .i64 c], .int .i64 1, .agg #[.int .i64 lo, .int .i64 hi], .int .i64 kk] W fun e w' => e = .returned (.tuple #[.agg #[.int .i64 0, .int .i64 0], .int .i64 E]) ∧ Below W.heap.size W w') := Lib.hid fun W => by
    have h := Speed_any l kd f s c 1 lo hi kk W
    rw [if_neg he, if_neg he, ← hE] at h; exact h
  rw [← hE] at he
  have hne : (E != 0) = true := bne_iff_ne.2 he
  clear hE he
  have B0 := Lib.hid (FoB.new w l kd f s c lo hi)
  go_enter Try.func13, Try.ntmps13
  obtain ⟨c0, c1, c2, c3, c4, c5, c6, hz, hbw⟩ := B0.out
  go_wp2_with fail
  refine (HS1.out _).mono ?_; rintro e' X1 ⟨rfl, hb1⟩
  have q := below_alloc X1 (.cells #[.int .i64 0, .int .i64 0] 25)
  have b1 := hbw.trans (hb1.mono hbw.size)
  have b2 := b1.trans (q.mono b1.size)
  clear c0 c1 c2 c3 c4 c5 c6 hz hbw hb1 b1 q B0
  go_wp2_with fail
  refine (works_any _).mono ?_; rintro e' X2 ⟨rfl, hb2⟩
  go_wp2
  go_ret
  exact ⟨rfl, b2.trans (hb2.mono b2.size)⟩

set_option maxRecDepth 100000 in
set_option maxHeartbeats 16000000 in
theorem PF_ok1 (l kd f s c lo hi a x y : Int) (w : World) (ha : -128 ≤ a ∧ a ≤ 127) (hx : 0 ≤ x ∧ x ≤ 4294967295) (hy : 0 ≤ y ∧ y ≤ 4294967295) (he : spE l kd f s c 1 lo hi (a.tmod 64) = 0) :
    Calls Try.prog 13 #[.agg #[.int .i64 l, .int .i64 kd, .int .i64 f, .int .i64 s, .int .i64 c], .bool true, .agg #[.int .i64 lo, .int .i64 hi], .int .i8 a, .int .u32 x, .int .u32 y] w fun e w' => e = .returned (.bool true) ∧ Below w.heap.size w w' := by
  have ja : IntKind.i64.wrap a = a := IntWalk.i64_in _ (by omega)
  have jx : IntKind.i64.wrap x = x := IntWalk.i64_in _ (by omega)
  have jy : IntKind.i64.wrap y = y := IntWalk.i64_in _ (by omega)
  have bk := tmod64 ha
  obtain ⟨kk, hk⟩ : ∃ z, a.tmod 64 = z := ⟨_, rfl⟩
  rw [hk] at he bk
  obtain ⟨hT, hSp⟩ := spE_ok he
  obtain ⟨⟨l1, l2⟩, v1, v2⟩ := tim_bd hT
  obtain ⟨g1, g2, g3⟩ := spanB_true.1 hSp
  have jk : IntKind.i64.wrap (kk + 1) = kk + 1 := IntWalk.i64_in _ (by omega)
  have he2 : spE l kd f s c 1 lo hi (kk + 1) = 0 := spE_is hT g1 g2 g3 (by omega)
  obtain ⟨N0, hN⟩ : ∃ z, 500 * l = z := ⟨_, rfl⟩
  obtain ⟨D0, hD⟩ : ∃ z, timV l kd f s c 1 = z := ⟨_, rfl⟩
  rw [hD] at v1 v2
  have m1 := spdL_more (l := l) (t := D0) (a := lo) (n := kk) (by omega)
  have m2 := spdH_more (l := l) (t := D0) (a := hi) (n := kk) (by omega)
  have d1 := (spd_bd (l := l) (t := D0) (a := lo) (n := kk) l1 l2 (by omega) (by omega) (by omega) (by omega) (by omega)).1
  have d2 := (spd_bd (l := l) (t := D0) (a := hi) (n := kk) l1 l2 (by omega) (by omega) (by omega) (by omega) (by omega)).2
  have d3 := (spd_bd (l := l) (t := D0) (a := lo) (n := kk + 1) l1 l2 (by omega) (by omega) (by omega) (by omega) (by omega)).1
  have d4 := (spd_bd (l := l) (t := D0) (a := hi) (n := kk + 1) l1 l2 (by omega) (by omega) (by omega) (by omega) (by omega)).2
  have o1 := (spd_in (l := l) (t := D0) (a := lo) (b := hi) (c := lo) (d := hi) (n := kk) (by omega) (by omega) (Int.le_refl _) g2 (Int.le_refl _)).1
  obtain ⟨p, hp⟩ : ∃ z, x.tmod (hi - lo + 1) = z := ⟨_, rfl⟩
  have bp : 0 ≤ p ∧ p ≤ hi - lo := by rw [← hp]; exact tmod_in' hx.1 (by omega) (by omega)
  obtain ⟨q, hq⟩ : ∃ z, y.tmod (hi - (lo + p) + 1) = z := ⟨_, rfl⟩
  have bq : 0 ≤ q ∧ q ≤ hi - (lo + p) := by rw [← hq]; exact tmod_in' hy.1 (by omega) (by omega)
  obtain ⟨n1, n2, n3⟩ := spd_in (l := l) (t := D0) (a := lo) (b := hi) (c := lo + p) (d := lo + p + q) (n := kk) (by omega) (by omega) (by omega) (by omega) (by omega)
  have he3 : spE l kd f s c 1 (lo + p) (lo + p + q) kk = 0 := spE_is hT (by omega) (by omega) (by omega) (by omega)
  obtain ⟨A1, hA1⟩ : ∃ z, spdL l D0 lo kk = z := ⟨_, rfl⟩
  obtain ⟨B1, hB1⟩ : ∃ z, spdH l D0 hi kk = z := ⟨_, rfl⟩
  obtain ⟨A2, hA2⟩ : ∃ z, spdL l D0 lo (kk + 1) = z := ⟨_, rfl⟩
  obtain ⟨B2, hB2⟩ : ∃ z, spdH l D0 hi (kk + 1) = z := ⟨_, rfl⟩
  obtain ⟨C1, hC1⟩ : ∃ z, spdL l D0 (lo + p) kk = z := ⟨_, rfl⟩
  obtain ⟨C2, hC2⟩ : ∃ z, spdH l D0 (lo + p + q) kk = z := ⟨_, rfl⟩
  have HS1 : Hid (∀ W : World, Calls Try.prog 32 #[.agg #[.int .i64 l, .int .i64 kd, .int .i64 f, .int .i64 s, .int .i64 c], .int .i64 1, .agg #[.int .i64 lo, .int .i64 hi], .int .i64 kk] W fun e w' => e = .returned (.tuple #[.agg #[.int .i64 A1, .int .i64 B1], .int .i64 0]) ∧ Below W.heap.size W w') := Lib.hid fun W => by
    have h := Speed_any l kd f s c 1 lo hi kk W
    rw [he, if_pos rfl, if_pos rfl, hD, hA1, hB1] at h; exact h
  have HS2 : Hid (∀ W : World, Calls Try.prog 32 #[.agg #[.int .i64 l, .int .i64 kd, .int .i64 f, .int .i64 s, .int .i64 c], .int .i64 1, .agg #[.int .i64 lo, .int .i64 hi], .int .i64 (kk + 1)] W fun e w' => e = .returned (.tuple #[.agg #[.int .i64 A2, .int .i64 B2], .int .i64 0]) ∧ Below W.heap.size W w') := Lib.hid fun W => by
    have h := Speed_any l kd f s c 1 lo hi (kk + 1) W
    rw [he2, if_pos rfl, if_pos rfl, hD, hA2, hB2] at h; exact h
  have HS3 : Hid (∀ W : World, Calls Try.prog 32 #[.agg #[.int .i64 l, .int .i64 kd, .int .i64 f, .int .i64 s, .int .i64 c], .int .i64 1, .agg #[.int .i64 (lo + p), .int .i64 (lo + p + q)], .int .i64 kk] W fun e w' => e = .returned (.tuple #[.agg #[.int .i64 C1, .int .i64 C2], .int .i64 0]) ∧ Below W.heap.size W w') := Lib.hid fun W => by
    have h := Speed_any l kd f s c 1 (lo + p) (lo + p + q) kk W
    rw [he3, if_pos rfl, if_pos rfl, hD, hC1, hC2] at h; exact h
  have HF1 : Hid (∀ W : World, Calls Try.prog 34 #[.agg #[.int .i64 l, .int .i64 kd, .int .i64 f, .int .i64 s, .int .i64 c], .int .i64 1] W fun e w' => e = .returned (.tuple #[.int .i64 N0, .int .i64 D0, .int .i64 0]) ∧ Below W.heap.size W w') := Lib.hid fun W => by
    have h := Fold_any l kd f s c 1 W
    rw [hT, if_pos rfl, hN, hD] at h; exact h
  have HR1 : Hid (∀ W : World, Calls Try.prog 36 #[.agg #[.int .i64 l, .int .i64 kd, .int .i64 f, .int .i64 s, .int .i64 c], .int .i64 1] W fun e w' => e = .returned (.tuple #[.int .i64 (150 * D0), .int .i64 0]) ∧ Below W.heap.size W w') := Lib.hid fun W => by
    have h := Reach_any l kd f s c 1 W
    rw [hT, hD] at h; exact h
  rw [hN] at m1 m2
  rw [hA1, hA2] at m1
  rw [hB1, hB2] at m2
  rw [hA1] at d1 n2
  rw [hA1, hB1] at o1
  rw [hB1] at d2 n3
  rw [hA2] at d3
  rw [hB2] at d4
  rw [hC1] at n1 n2
  rw [hC2] at n1 n3
  obtain ⟨Q0, hQ⟩ : ∃ z, N0.tdiv D0 = z := ⟨_, rfl⟩
  have hQ2 : N0 / D0 = Q0 := by rw [← hQ]; exact (Int.tdiv_eq_ediv_of_nonneg (by omega)).symm
  have bQ : 0 ≤ Q0 ∧ Q0 ≤ 1000000000 := by
    rw [← hQ2]
    exact ⟨Int.ediv_nonneg (by omega) (by omega), Int.le_trans (Int.ediv_le_self _ (by omega)) (by omega)⟩
  rw [hQ2] at m1 m2
  clear hA1 hB1 hA2 hB2 hC1 hC2 hN hD hQ2 he he2 he3 hT hSp
  have z1 : decide (hi < lo) = false := decide_eq_false (by omega)
  have z2 : decide (B1 < A1) = false := decide_eq_false (by omega)
  have z3 : decide (D0 < 1) = false := decide_eq_false (by omega)
  have hz0 : (D0 == 0) = false := beq_eq_false_iff_ne.2 (by omega)
  have i1 : IntKind.i64.wrap (150 * D0) = 150 * D0 := IntWalk.i64_in _ (by omega)
  have i2 : IntKind.i64.wrap Q0 = Q0 := IntWalk.i64_in _ (by omega)
  have i3 : IntKind.i64.wrap (A2 - A1) = A2 - A1 := IntWalk.i64_in _ (by omega)
  have i4 : IntKind.i64.wrap (B2 - B1) = B2 - B1 := IntWalk.i64_in _ (by omega)
  have i5 : IntKind.i64.wrap (Q0 - 1) = Q0 - 1 := IntWalk.i64_in _ (by omega)
  have i6 : IntKind.i64.wrap (Q0 + 2) = Q0 + 2 := IntWalk.i64_in _ (by omega)
  have z4 : decide (A2 - A1 < Q0 - 1) = false := decide_eq_false (by omega)
  have z5 : decide (Q0 + 2 < A2 - A1) = false := decide_eq_false (by omega)
  have z6 : decide (B2 - B1 < Q0 - 1) = false := decide_eq_false (by omega)
  have z7 : decide (Q0 + 2 < B2 - B1) = false := decide_eq_false (by omega)
  have i7 : IntKind.i64.wrap (hi - lo) = hi - lo := IntWalk.i64_in _ (by omega)
  have i8 : IntKind.i64.wrap (hi - lo + 1) = hi - lo + 1 := IntWalk.i64_in _ (by omega)
  have i9 : IntKind.i64.wrap (lo + p) = lo + p := IntWalk.i64_in _ (by omega)
  have i10 : IntKind.i64.wrap (hi - (lo + p)) = hi - (lo + p) := IntWalk.i64_in _ (by omega)
  have i11 : IntKind.i64.wrap (hi - (lo + p) + 1) = hi - (lo + p) + 1 := IntWalk.i64_in _ (by omega)
  have i12 : IntKind.i64.wrap (lo + p + q) = lo + p + q := IntWalk.i64_in _ (by omega)
  have ip : IntKind.i64.wrap p = p := IntWalk.i64_in _ (by omega)
  have iq : IntKind.i64.wrap q = q := IntWalk.i64_in _ (by omega)
  have nz1 : ¬ (hi - lo + 1 = 0) := by omega
  have nz2 : ¬ (hi - (lo + p) + 1 = 0) := by omega
  have HL := Lib.hid (fun W : World => lies_true C1 C2 A1 B1 W n1 n2 n3)
  have B0 := Lib.hid (FoB.new w l kd f s c lo hi)
  clear d1 d2 d3 d4 m1 m2 o1 n1 n2 n3
  go_enter Try.func13, Try.ntmps13
  obtain ⟨c0, c1, c2, c3, c4, c5, c6, hz, hbw⟩ := B0.out
  go_wp2_with fail
  refine (HS1.out _).mono ?_; rintro e' X1 ⟨rfl, hb1⟩
  have qa := below_alloc X1 (.cells #[.int .i64 A1, .int .i64 B1] 25)
  have BX := Lib.hid ((B0.out.keep hb1).keep qa)
  have PX := Lib.hid (pairN X1 A1 B1 25)
  clear c0 c1 c2 c3 c4 c5 c6 hz hbw hb1 qa B0
  obtain ⟨c0, c1, c2, c3, c4, c5, c6, hz, hbw⟩ := BX.out
  obtain ⟨pa, pb⟩ := PX.out
  go_wp2_with fail
  refine (HS2.out _).mono ?_; rintro e' X2 ⟨rfl, hb2⟩
  have qb := below_alloc X2 (.cells #[.int .i64 A2, .int .i64 B2] 25)
  have BY := Lib.hid ((BX.out.keep hb2).keep qb)
  have PY := Lib.hid (And.intro (keepW qb (keepW hb2 pa)) (keepW qb (keepW hb2 pb)))
  have PZ := Lib.hid (pairN X2 A2 B2 25)
  clear c0 c1 c2 c3 c4 c5 c6 hz hbw hb2 qb BX pa pb PX
  obtain ⟨c0, c1, c2, c3, c4, c5, c6, hz, hbw⟩ := BY.out
  go_wp2_with fail
  refine (HF1.out _).mono ?_; rintro e' X3 ⟨rfl, hb3⟩
  have BU := Lib.hid (BY.out.keep hb3)
  have PU := Lib.hid (And.intro (keepW hb3 PY.out.1) (keepW hb3 PY.out.2))
  have PV := Lib.hid (And.intro (keepW hb3 PZ.out.1) (keepW hb3 PZ.out.2))
  clear c0 c1 c2 c3 c4 c5 c6 hz hbw hb3 BY PY PZ
  obtain ⟨c0, c1, c2, c3, c4, c5, c6, hz, hbw⟩ := BU.out
  go_wp2_with fail
  refine (HR1.out _).mono ?_; rintro e' X4 ⟨rfl, hb4⟩
  have B4 := Lib.hid (BU.out.keep hb4)
  have P4 := Lib.hid (And.intro (keepW hb4 PU.out.1) (keepW hb4 PU.out.2))
  obtain ⟨pa, pb⟩ := P4.out
  obtain ⟨pc, pd⟩ : _ ∧ _ := And.intro (keepW hb4 PV.out.1) (keepW hb4 PV.out.2)
  clear c0 c1 c2 c3 c4 c5 c6 hz hbw hb4 BU PU PV
  obtain ⟨c0, c1, c2, c3, c4, c5, c6, hz, hbw⟩ := B4.out
  have HS := Lib.hid (show (fun w' : World => w'.cell? ⟨w.heap.size, 0, none⟩ = some (.int .i64 l) ∧ w'.cell? ⟨w.heap.size, 1, none⟩ = some (.int .i64 kd) ∧ w'.cell? ⟨w.heap.size, 2, none⟩ = some (.int .i64 f) ∧ w'.cell? ⟨w.heap.size, 3, none⟩ = some (.int .i64 s) ∧ w'.cell? ⟨w.heap.size, 4, none⟩ = some (.int .i64 c) ∧ w'.cell? ⟨w.heap.size + 1, 0, none⟩ = some (.int .i64 lo) ∧ w'.cell? ⟨w.heap.size + 1, 1, none⟩ = some (.int .i64 hi) ∧ w'.cell? ⟨X1.heap.size, 0, none⟩ = some (.int .i64 A1) ∧ w'.cell? ⟨X1.heap.size, 1, none⟩ = some (.int .i64 B1) ∧ Below X4.drew.heap.size X4.drew w') X4.drew from ⟨c0, c1, c2, c3, c4, c5, c6, pa, pb, Below.refl _ _⟩)
  go_wp2_with fail
  refine wp_region_held_tail (S := (fun w' : World => w'.cell? ⟨w.heap.size, 0, none⟩ = some (.int .i64 l) ∧ w'.cell? ⟨w.heap.size, 1, none⟩ = some (.int .i64 kd) ∧ w'.cell? ⟨w.heap.size, 2, none⟩ = some (.int .i64 f) ∧ w'.cell? ⟨w.heap.size, 3, none⟩ = some (.int .i64 s) ∧ w'.cell? ⟨w.heap.size, 4, none⟩ = some (.int .i64 c) ∧ w'.cell? ⟨w.heap.size + 1, 0, none⟩ = some (.int .i64 lo) ∧ w'.cell? ⟨w.heap.size + 1, 1, none⟩ = some (.int .i64 hi) ∧ w'.cell? ⟨X1.heap.size, 0, none⟩ = some (.int .i64 A1) ∧ w'.cell? ⟨X1.heap.size, 1, none⟩ = some (.int .i64 B1) ∧ Below X4.drew.heap.size X4.drew w')) 12 (by kernel_rfl) (by kernel_rfl) HS.out (fun hHeld => ?_)
  clear HS
  refine wpAnyH_take (i := 0) (v := ?v0_34) rfl (by kernel_rfl) (by kernel_rfl) (by kernel_rfl) (fun _ _ _ h => h) (Or.inl ⟨by rfl, ?hy0_34⟩) (by assumption) ?rest0_34
  case hy0_34 => (intro w hSw; (try dsimp only at hSw); go_simp; (try with_reducible rfl))
  try simp only [Act.put, List.setIfInBounds_toArray, List.set_cons_zero, List.set_cons_succ]
  refine wpAnyH_take (i := 1) (v := ?v1_35) rfl (by kernel_rfl) (by kernel_rfl) (by kernel_rfl) (fun _ _ _ h => h) (Or.inl ⟨by rfl, ?hy1_35⟩) (by assumption) ?rest1_35
  case hy1_35 => (intro w hSw; (try dsimp only at hSw); go_simp; (try with_reducible rfl))
  try simp only [Act.put, List.setIfInBounds_toArray, List.set_cons_zero, List.set_cons_succ]
  refine wpAnyH_take (i := 2) (v := ?v2_36) rfl (by kernel_rfl) (by kernel_rfl) (by kernel_rfl) (fun _ _ _ h => h) (Or.inl ⟨by rfl, ?hy2_36⟩) (by assumption) ?rest2_36
  case hy2_36 => (intro w hSw; (try dsimp only at hSw); go_simp; (try with_reducible rfl))
  try simp only [Act.put, List.setIfInBounds_toArray, List.set_cons_zero, List.set_cons_succ]
  refine wpAnyH_take (i := 3) (v := ?v3_37) rfl (by kernel_rfl) (by kernel_rfl) (by kernel_rfl) (fun _ _ _ h => h) (Or.inl ⟨by rfl, ?hy3_37⟩) (by assumption) ?rest3_37
  case hy3_37 => (intro w hSw; (try dsimp only at hSw); go_simp; (try with_reducible rfl))
  try simp only [Act.put, List.setIfInBounds_toArray, List.set_cons_zero, List.set_cons_succ]
  refine wpAnyH_take (i := 4) (v := ?v4_38) rfl (by kernel_rfl) (by kernel_rfl) (by kernel_rfl) (fun _ _ _ h => h) (Or.inl ⟨by rfl, ?hy4_38⟩) (by assumption) ?rest4_38
  case hy4_38 => (intro w hSw; (try dsimp only at hSw); go_simp; (try with_reducible rfl))
  try simp only [Act.put, List.setIfInBounds_toArray, List.set_cons_zero, List.set_cons_succ]
  refine wpAnyH_take (i := 5) (v := ?v5_39) rfl (by kernel_rfl) (by kernel_rfl) (by kernel_rfl) (fun _ _ _ h => h) (Or.inl ⟨by rfl, ?hy5_39⟩) (by assumption) ?rest5_39
  case hy5_39 => (intro w hSw; (try dsimp only at hSw); go_simp; (try with_reducible rfl))
  try simp only [Act.put, List.setIfInBounds_toArray, List.set_cons_zero, List.set_cons_succ]
  refine wpAnyH_take (i := 6) (v := ?v6_40) rfl (by kernel_rfl) (by kernel_rfl) (by kernel_rfl) (fun _ _ _ h => h) (Or.inl ⟨by rfl, ?hy6_40⟩) (by assumption) ?rest6_40
  case hy6_40 => (intro w hSw; (try dsimp only at hSw); go_simp; (try with_reducible rfl))
  try simp only [Act.put, List.setIfInBounds_toArray, List.set_cons_zero, List.set_cons_succ]
  refine wpAnyH_take (i := 7) (v := ?v7_41) rfl (by kernel_rfl) (by kernel_rfl) (by kernel_rfl) (fun _ _ _ h => h) (Or.inl ⟨by rfl, ?hy7_41⟩) (by assumption) ?rest7_41
  case hy7_41 => (intro w hSw; (try dsimp only at hSw); go_simp; (try with_reducible rfl))
  try simp only [Act.put, List.setIfInBounds_toArray, List.set_cons_zero, List.set_cons_succ]
  refine wpAnyH_take (i := 8) (v := ?v8_42) rfl (by kernel_rfl) (by kernel_rfl) (by kernel_rfl) (fun _ _ _ h => h) (Or.inl ⟨by rfl, ?hy8_42⟩) (by assumption) ?rest8_42
  case hy8_42 => (intro w hSw; (try dsimp only at hSw); go_simp; (try with_reducible rfl))
  try simp only [Act.put, List.setIfInBounds_toArray, List.set_cons_zero, List.set_cons_succ]
  refine wpAnyH_take (i := 9) (v := ?v9_43) rfl (by kernel_rfl) (by kernel_rfl) (by kernel_rfl) (fun _ _ _ h => h) (Or.inl ⟨by rfl, ?hy9_43⟩) (by assumption) ?rest9_43
  case hy9_43 => (intro w hSw; (try dsimp only at hSw); go_simp; (try with_reducible rfl))
  try simp only [Act.put, List.setIfInBounds_toArray, List.set_cons_zero, List.set_cons_succ]
  refine wpAnyH_take (i := 10) (v := ?v10_44) rfl (by kernel_rfl) (by kernel_rfl) (by kernel_rfl) (fun _ _ _ h => h) (Or.inl ⟨by rfl, ?hy10_44⟩) (by assumption) ?rest10_44
  case hy10_44 => (intro w hSw; (try dsimp only at hSw); go_simp; (try with_reducible rfl))
  try simp only [Act.put, List.setIfInBounds_toArray, List.set_cons_zero, List.set_cons_succ]
  refine wpAnyH_take (i := 11) (v := ?v11_45) rfl (by kernel_rfl) (by kernel_rfl) (by kernel_rfl) (fun _ _ _ h => h) (Or.inl ⟨by rfl, ?hy11_45⟩) (by assumption) ?rest11_45
  case hy11_45 => (intro w hSw; (try dsimp only at hSw); go_simp; (try with_reducible rfl))
  try simp only [Act.put, List.setIfInBounds_toArray, List.set_cons_zero, List.set_cons_succ]
  refine wpAnyH_done (by kernel_rfl) ?_ _
  change wpList _ _ _ _ _ _
  simp only [List.drop_succ_cons, List.drop_zero]
  go_wp2_with fail
  have HS := Lib.hid (show (fun w' : World => w'.cell? ⟨w.heap.size, 0, none⟩ = some (.int .i64 l) ∧ w'.cell? ⟨w.heap.size, 1, none⟩ = some (.int .i64 kd) ∧ w'.cell? ⟨w.heap.size, 2, none⟩ = some (.int .i64 f) ∧ w'.cell? ⟨w.heap.size, 3, none⟩ = some (.int .i64 s) ∧ w'.cell? ⟨w.heap.size, 4, none⟩ = some (.int .i64 c) ∧ w'.cell? ⟨w.heap.size + 1, 0, none⟩ = some (.int .i64 lo) ∧ w'.cell? ⟨w.heap.size + 1, 1, none⟩ = some (.int .i64 hi) ∧ w'.cell? ⟨X1.heap.size, 0, none⟩ = some (.int .i64 A1) ∧ w'.cell? ⟨X1.heap.size, 1, none⟩ = some (.int .i64 B1) ∧ Below X4.drew.drew.heap.size X4.drew.drew w') X4.drew.drew from ⟨c0, c1, c2, c3, c4, c5, c6, pa, pb, Below.refl _ _⟩)
  have bX : Below w.heap.size w X4.drew.drew := hbw.trans (((Below.refl X4.heap.size X4).drew.drew).mono hbw.size)
  have hv0 : w.heap.size < X4.drew.drew.heap.size := World.block_lt_of_cell? _ _ c0
  have hv1 : w.heap.size + 1 < X4.drew.drew.heap.size := World.block_lt_of_cell? _ _ c5
  have hzX : X1.heap.size < X4.drew.drew.heap.size := World.block_lt_of_cell? _ _ pa
  clear c0 c1 c2 c3 c4 c5 c6 hz hbw pa pb B4 P4 pc pd
  refine wp_region_held_tail (S := (fun w' : World => w'.cell? ⟨w.heap.size, 0, none⟩ = some (.int .i64 l) ∧ w'.cell? ⟨w.heap.size, 1, none⟩ = some (.int .i64 kd) ∧ w'.cell? ⟨w.heap.size, 2, none⟩ = some (.int .i64 f) ∧ w'.cell? ⟨w.heap.size, 3, none⟩ = some (.int .i64 s) ∧ w'.cell? ⟨w.heap.size, 4, none⟩ = some (.int .i64 c) ∧ w'.cell? ⟨w.heap.size + 1, 0, none⟩ = some (.int .i64 lo) ∧ w'.cell? ⟨w.heap.size + 1, 1, none⟩ = some (.int .i64 hi) ∧ w'.cell? ⟨X1.heap.size, 0, none⟩ = some (.int .i64 A1) ∧ w'.cell? ⟨X1.heap.size, 1, none⟩ = some (.int .i64 B1) ∧ Below X4.drew.drew.heap.size X4.drew.drew w')) 21 (by kernel_rfl) (by kernel_rfl) HS.out (fun hHeld => ?_)
  clear HS
  obtain ⟨D, hD⟩ : ∃ D, D = X4.drew.drew := ⟨_, rfl⟩
  rw [← hD] at hHeld bX hzX hv0 hv1 ⊢
  clear hD
  refine wpAnyH_take (i := 0) (v := ?v0_46) rfl (by kernel_rfl) (by kernel_rfl) (by kernel_rfl) (fun _ _ _ h => h) (Or.inl ⟨by rfl, ?hy0_46⟩) (by assumption) ?rest0_46
  case hy0_46 => (intro w hSw; (try dsimp only at hSw); go_simp; (try with_reducible rfl))
  try simp only [Act.put, List.setIfInBounds_toArray, List.set_cons_zero, List.set_cons_succ]
  refine wpAnyH_take (i := 1) (v := ?v1_47) rfl (by kernel_rfl) (by kernel_rfl) (by kernel_rfl) (fun _ _ _ h => h) (Or.inl ⟨by rfl, ?hy1_47⟩) (by assumption) ?rest1_47
  case hy1_47 => (intro w hSw; (try dsimp only at hSw); go_simp; (try with_reducible rfl))
  try simp only [Act.put, List.setIfInBounds_toArray, List.set_cons_zero, List.set_cons_succ]
  refine wpAnyH_take (i := 2) (v := ?v2_48) rfl (by kernel_rfl) (by kernel_rfl) (by kernel_rfl) (fun _ _ _ h => h) (Or.inl ⟨by rfl, ?hy2_48⟩) (by assumption) ?rest2_48
  case hy2_48 => (intro w hSw; (try dsimp only at hSw); go_simp; (try with_reducible rfl))
  try simp only [Act.put, List.setIfInBounds_toArray, List.set_cons_zero, List.set_cons_succ]
  refine wpAnyH_take (i := 3) (v := ?v3_49) rfl (by kernel_rfl) (by kernel_rfl) (by kernel_rfl) (fun _ _ _ h => h) (Or.inl ⟨by rfl, ?hy3_49⟩) (by assumption) ?rest3_49
  case hy3_49 => (intro w hSw; (try dsimp only at hSw); go_simp; (try with_reducible rfl))
  try simp only [Act.put, List.setIfInBounds_toArray, List.set_cons_zero, List.set_cons_succ]
  refine wpAnyH_take (i := 4) (v := ?v4_50) rfl (by kernel_rfl) (by kernel_rfl) (by kernel_rfl) (fun _ _ _ h => h) (Or.inl ⟨by rfl, ?hy4_50⟩) (by assumption) ?rest4_50
  case hy4_50 => (intro w hSw; (try dsimp only at hSw); go_simp; (try with_reducible rfl))
  try simp only [Act.put, List.setIfInBounds_toArray, List.set_cons_zero, List.set_cons_succ]
  refine wpAnyH_take (i := 5) (v := ?v5_51) rfl (by kernel_rfl) (by kernel_rfl) (by kernel_rfl) (fun _ _ _ h => h) (Or.inl ⟨by rfl, ?hy5_51⟩) (by assumption) ?rest5_51
  case hy5_51 => (intro w hSw; (try dsimp only at hSw); go_simp; (try with_reducible rfl))
  try simp only [Act.put, List.setIfInBounds_toArray, List.set_cons_zero, List.set_cons_succ]
  refine wpAnyH_take (i := 6) (v := ?v6_52) rfl (by kernel_rfl) (by kernel_rfl) (by kernel_rfl) (fun _ _ _ h => h) (Or.inl ⟨by rfl, ?hy6_52⟩) (by assumption) ?rest6_52
  case hy6_52 => (intro w hSw; (try dsimp only at hSw); go_simp; (try with_reducible rfl))
  try simp only [Act.put, List.setIfInBounds_toArray, List.set_cons_zero, List.set_cons_succ]
  refine wpAnyH_take (i := 7) (v := ?v7_53) rfl (by kernel_rfl) (by kernel_rfl) (by kernel_rfl) (fun _ _ _ h => h) (Or.inl ⟨by rfl, ?hy7_53⟩) (by assumption) ?rest7_53
  case hy7_53 => (intro w hSw; (try dsimp only at hSw); go_simp; (try with_reducible rfl))
  try simp only [Act.put, List.setIfInBounds_toArray, List.set_cons_zero, List.set_cons_succ]
  refine wpAnyH_take (i := 8) (v := ?v8_54) rfl (by kernel_rfl) (by kernel_rfl) (by kernel_rfl) (fun _ _ _ h => h) (Or.inl ⟨by rfl, ?hy8_54⟩) (by assumption) ?rest8_54
  case hy8_54 => (intro w hSw; (try dsimp only at hSw); go_simp; (try with_reducible rfl))
  try simp only [Act.put, List.setIfInBounds_toArray, List.set_cons_zero, List.set_cons_succ]
  refine wpAnyH_take (i := 9) (v := ?v9_55) rfl (by kernel_rfl) (by kernel_rfl) (by kernel_rfl) (fun _ _ _ h => h) (Or.inl ⟨by rfl, ?hy9_55⟩) (by assumption) ?rest9_55
  case hy9_55 => (intro w hSw; (try dsimp only at hSw); go_simp; (try with_reducible rfl))
  try simp only [Act.put, List.setIfInBounds_toArray, List.set_cons_zero, List.set_cons_succ]
  refine wpAnyH_take (i := 10) (v := ?v10_56) rfl (by kernel_rfl) (by kernel_rfl) (by kernel_rfl) (fun _ _ _ h => h) (Or.inl ⟨by rfl, ?hy10_56⟩) (by assumption) ?rest10_56
  case hy10_56 => (intro w hSw; (try dsimp only at hSw); go_simp; (try with_reducible rfl))
  try simp only [Act.put, List.setIfInBounds_toArray, List.set_cons_zero, List.set_cons_succ]
  refine wpAnyH_take (i := 11) (v := ?v11_57) rfl (by kernel_rfl) (by kernel_rfl) (by kernel_rfl) (fun _ _ _ h => h) (Or.inl ⟨by rfl, ?hy11_57⟩) (by assumption) ?rest11_57
  case hy11_57 => (intro w hSw; (try dsimp only at hSw); go_simp; (try with_reducible rfl))
  try simp only [Act.put, List.setIfInBounds_toArray, List.set_cons_zero, List.set_cons_succ]
  refine wpAnyH_take (i := 12) (v := ?v12_58) rfl (by kernel_rfl) (by kernel_rfl) (by kernel_rfl) (fun _ _ _ h => h) (Or.inl ⟨by rfl, ?hy12_58⟩) (by assumption) ?rest12_58
  case hy12_58 => (intro w hSw; (try dsimp only at hSw); go_simp; (try with_reducible rfl))
  try simp only [Act.put, List.setIfInBounds_toArray, List.set_cons_zero, List.set_cons_succ]
  refine wpAnyH_take (i := 13) (v := ?v13_59) rfl (by kernel_rfl) (by kernel_rfl) (by kernel_rfl) (fun _ _ _ h => h) (Or.inl ⟨by rfl, ?hy13_59⟩) (by assumption) ?rest13_59
  case hy13_59 => (intro w hSw; (try dsimp only at hSw); go_simp; (try with_reducible rfl))
  try simp only [Act.put, List.setIfInBounds_toArray, List.set_cons_zero, List.set_cons_succ]
  refine wpAnyH_take (i := 14) (v := ?v14_60) rfl (by kernel_rfl) (by kernel_rfl) (by kernel_rfl) (fun _ _ _ h => h) (Or.inl ⟨by rfl, ?hy14_60⟩) (by assumption) ?rest14_60
  case hy14_60 => (intro w hSw; (try dsimp only at hSw); go_simp; (try with_reducible rfl))
  try simp only [Act.put, List.setIfInBounds_toArray, List.set_cons_zero, List.set_cons_succ]
  refine wpAnyH_ready (rs := [15, 19]) (by kernel_rfl) (by simp) ?_
  refine AllReadyH.cons rfl (fun K hK => ?_) (AllReadyH.cons rfl (fun K hK => ?_) AllReadyH.nil)
  · go_simp
    go_at_call 32
    refine (HS3.out _).mono ?_; rintro e' w' ⟨rfl, hb'⟩
    refine hK.out _ _ (⟨keepW hb' hHeld.1, keepW hb' hHeld.2.1, keepW hb' hHeld.2.2.1, keepW hb' hHeld.2.2.2.1, keepW hb' hHeld.2.2.2.2.1, keepW hb' hHeld.2.2.2.2.2.1, keepW hb' hHeld.2.2.2.2.2.2.1, keepW hb' hHeld.2.2.2.2.2.2.2.1, keepW hb' hHeld.2.2.2.2.2.2.2.2.1, hHeld.2.2.2.2.2.2.2.2.2.trans (hb'.mono hHeld.2.2.2.2.2.2.2.2.2.size)⟩) (fun hHeld => ?_)
    clear hK K
    try simp only [Act.put, List.setIfInBounds_toArray, List.set_cons_zero, List.set_cons_succ]
    refine wpAnyH_take (i := 16) (v := ?v16_61) rfl (by kernel_rfl) (by kernel_rfl) (by kernel_rfl) (fun _ _ _ h => h) (Or.inl ⟨by rfl, ?hy16_61⟩) (by assumption) ?rest16_61
    case hy16_61 => (intro w hSw; (try dsimp only at hSw); go_simp; (try with_reducible rfl))
    try simp only [Act.put, List.setIfInBounds_toArray, List.set_cons_zero, List.set_cons_succ]
    refine wpAnyH_take (i := 17) (v := ?v17_62) rfl (by kernel_rfl) (by kernel_rfl) (by kernel_rfl) (fun _ _ _ h => h) (Or.inl ⟨by rfl, ?hy17_62⟩) (by assumption) ?rest17_62
    case hy17_62 => (intro w hSw; (try dsimp only at hSw); go_simp; (try with_reducible rfl))
    try simp only [Act.put, List.setIfInBounds_toArray, List.set_cons_zero, List.set_cons_succ]
    refine wpAnyH_take (i := 18) (v := ?v18_63) rfl (by kernel_rfl) (by kernel_rfl) (by kernel_rfl) (fun _ _ _ h => h) (Or.inl ⟨by rfl, ?hy18_63⟩) (by assumption) ?rest18_63
    case hy18_63 => (intro w hSw; (try dsimp only at hSw); go_simp; (try with_reducible rfl))
    try simp only [Act.put, List.setIfInBounds_toArray, List.set_cons_zero, List.set_cons_succ]
    refine wpAnyH_ready (rs := [19]) (by kernel_rfl) (by simp) ?_
    refine AllReadyH.cons rfl (fun K hK => ?_) AllReadyH.nil
    go_simp
    have hb2 : Below w'.heap.size w' (w'.alloc (.cells #[.int .i64 0, .int .i64 0] 25)) := below_alloc _ _
    have r := pairF w'
    obtain ⟨E, hE⟩ : ∃ E, E = w'.alloc (.cells #[.int .i64 0, .int .i64 0] 25) := ⟨_, rfl⟩
    rw [← hE] at hb2 r ⊢
    refine hK.out _ _ (⟨keepW hb2 hHeld.1, keepW hb2 hHeld.2.1, keepW hb2 hHeld.2.2.1, keepW hb2 hHeld.2.2.2.1, keepW hb2 hHeld.2.2.2.2.1, keepW hb2 hHeld.2.2.2.2.2.1, keepW hb2 hHeld.2.2.2.2.2.2.1, keepW hb2 hHeld.2.2.2.2.2.2.2.1, keepW hb2 hHeld.2.2.2.2.2.2.2.2.1, hHeld.2.2.2.2.2.2.2.2.2.trans (hb2.mono hHeld.2.2.2.2.2.2.2.2.2.size)⟩) (fun hHeld => ?_)
    clear hK K
    have bE := bX.trans ((hb'.trans (hb2.mono hb'.size)).mono bX.size)
    have hbs := hb'.size
    have hq : X1.heap.size < w'.heap.size := Nat.lt_of_lt_of_le hzX hb'.size
    have hl0 : w.heap.size < w'.heap.size := Nat.lt_of_lt_of_le hv0 hb'.size
    have hl1 : w.heap.size + 1 < w'.heap.size := Nat.lt_of_lt_of_le hv1 hb'.size
    have hqe := hb2.size
    try simp only [Act.put, List.setIfInBounds_toArray, List.set_cons_zero, List.set_cons_succ]
    clear hE hb2 hb'
    obtain ⟨r0, r1, f0, f1⟩ := r
    refine wpAnyH_ready (rs := [20]) (by kernel_rfl) (by simp) ?_
    refine AllReadyH.cons rfl (fun K hK => ?_) AllReadyH.nil
    go_simp
    have bS : Below w'.heap.size E ((E.setCell ⟨w'.heap.size, 0, none⟩ (.int .i64 C1)).setCell ⟨w'.heap.size, 1, none⟩ (.int .i64 C2)) := ((Below.refl w'.heap.size E).setCell (p := ⟨w'.heap.size, 0, none⟩) (by dsimp only; omega) _).setCell (p := ⟨w'.heap.size, 1, none⟩) (by dsimp only; omega) _
    have s0 : ((E.setCell ⟨w'.heap.size, 0, none⟩ (.int .i64 C1)).setCell ⟨w'.heap.size, 1, none⟩ (.int .i64 C2)).cell? ⟨w'.heap.size, 0, none⟩ = some (.int .i64 C1) := set_other (i := 1) (j := 0) (b := w'.heap.size) (by decide) (set_same (v := .int .i64 C1) r0)
    have s1 : ((E.setCell ⟨w'.heap.size, 0, none⟩ (.int .i64 C1)).setCell ⟨w'.heap.size, 1, none⟩ (.int .i64 C2)).cell? ⟨w'.heap.size, 1, none⟩ = some (.int .i64 C2) := set_same (v := .int .i64 C2) (set_other (i := 0) (j := 1) (b := w'.heap.size) (v := .int .i64 C1) (by decide) r1)
    have bZ : Below w.heap.size w ((E.setCell ⟨w'.heap.size, 0, none⟩ (.int .i64 C1)).setCell ⟨w'.heap.size, 1, none⟩ (.int .i64 C2)) := (bE.setCell (p := ⟨w'.heap.size, 0, none⟩) (by dsimp only; omega) _).setCell (p := ⟨w'.heap.size, 1, none⟩) (by dsimp only; omega) _
    have bD : Below D.heap.size D ((E.setCell ⟨w'.heap.size, 0, none⟩ (.int .i64 C1)).setCell ⟨w'.heap.size, 1, none⟩ (.int .i64 C2)) := (hHeld.2.2.2.2.2.2.2.2.2.setCell (p := ⟨w'.heap.size, 0, none⟩) (by dsimp only; omega) _).setCell (p := ⟨w'.heap.size, 1, none⟩) (by dsimp only; omega) _
    have hH2 := Lib.hid (show ((E.setCell ⟨w'.heap.size, 0, none⟩ (.int .i64 C1)).setCell ⟨w'.heap.size, 1, none⟩ (.int .i64 C2)).cell? ⟨w.heap.size, 0, none⟩ = some (.int .i64 l) ∧ ((E.setCell ⟨w'.heap.size, 0, none⟩ (.int .i64 C1)).setCell ⟨w'.heap.size, 1, none⟩ (.int .i64 C2)).cell? ⟨w.heap.size, 1, none⟩ = some (.int .i64 kd) ∧ ((E.setCell ⟨w'.heap.size, 0, none⟩ (.int .i64 C1)).setCell ⟨w'.heap.size, 1, none⟩ (.int .i64 C2)).cell? ⟨w.heap.size, 2, none⟩ = some (.int .i64 f) ∧ ((E.setCell ⟨w'.heap.size, 0, none⟩ (.int .i64 C1)).setCell ⟨w'.heap.size, 1, none⟩ (.int .i64 C2)).cell? ⟨w.heap.size, 3, none⟩ = some (.int .i64 s) ∧ ((E.setCell ⟨w'.heap.size, 0, none⟩ (.int .i64 C1)).setCell ⟨w'.heap.size, 1, none⟩ (.int .i64 C2)).cell? ⟨w.heap.size, 4, none⟩ = some (.int .i64 c) ∧ ((E.setCell ⟨w'.heap.size, 0, none⟩ (.int .i64 C1)).setCell ⟨w'.heap.size, 1, none⟩ (.int .i64 C2)).cell? ⟨w.heap.size + 1, 0, none⟩ = some (.int .i64 lo) ∧ ((E.setCell ⟨w'.heap.size, 0, none⟩ (.int .i64 C1)).setCell ⟨w'.heap.size, 1, none⟩ (.int .i64 C2)).cell? ⟨w.heap.size + 1, 1, none⟩ = some (.int .i64 hi) ∧ ((E.setCell ⟨w'.heap.size, 0, none⟩ (.int .i64 C1)).setCell ⟨w'.heap.size, 1, none⟩ (.int .i64 C2)).cell? ⟨X1.heap.size, 0, none⟩ = some (.int .i64 A1) ∧ ((E.setCell ⟨w'.heap.size, 0, none⟩ (.int .i64 C1)).setCell ⟨w'.heap.size, 1, none⟩ (.int .i64 C2)).cell? ⟨X1.heap.size, 1, none⟩ = some (.int .i64 B1) ∧ Below D.heap.size D ((E.setCell ⟨w'.heap.size, 0, none⟩ (.int .i64 C1)).setCell ⟨w'.heap.size, 1, none⟩ (.int .i64 C2)) from ⟨keepB bS hl0 hHeld.1, keepB bS hl0 hHeld.2.1, keepB bS hl0 hHeld.2.2.1, keepB bS hl0 hHeld.2.2.2.1, keepB bS hl0 hHeld.2.2.2.2.1, keepB bS hl1 hHeld.2.2.2.2.2.1, keepB bS hl1 hHeld.2.2.2.2.2.2.1, keepB bS hq hHeld.2.2.2.2.2.2.2.1, keepB bS hq hHeld.2.2.2.2.2.2.2.2.1, bD⟩)
    obtain ⟨Z, hZ⟩ : ∃ Z, Z = (E.setCell ⟨w'.heap.size, 0, none⟩ (.int .i64 C1)).setCell ⟨w'.heap.size, 1, none⟩ (.int .i64 C2) := ⟨_, rfl⟩
    rw [← hZ] at s0 s1 bZ hH2 ⊢
    clear hZ bS bD r0 r1 f0 f1 hHeld
    refine hK.out _ _ hH2.out (fun hHeld => ?_)
    clear hK K hH2
    try simp only [Act.put, List.setIfInBounds_toArray, List.set_cons_zero, List.set_cons_succ]
    refine wpAnyH_done (by kernel_rfl) ?_ _
    change wpList _ _ _ _ _ _
    simp only [List.drop_succ_cons, List.drop_zero]
    have pa := hHeld.2.2.2.2.2.2.2.1
    have pb := hHeld.2.2.2.2.2.2.2.2.1
    clear hHeld
    go_wp2_with fail
    refine (HL.out _).mono ?_; rintro e' X5 ⟨rfl, hb5⟩
    go_wp2_with fail
    refine (works_any _).mono ?_; rintro e' X6 ⟨rfl, hb6⟩
    go_wp2_with fail
    go_ret
    have b5 := bZ.trans (hb5.mono bZ.size)
    exact ⟨rfl, b5.trans (hb6.mono b5.size)⟩
  · go_simp
    have hb2 : Below D.heap.size D (D.alloc (.cells #[.int .i64 0, .int .i64 0] 25)) := below_alloc _ _
    have r := pairF D
    obtain ⟨E, hE⟩ : ∃ E, E = D.alloc (.cells #[.int .i64 0, .int .i64 0] 25) := ⟨_, rfl⟩
    have hzE : D.heap.size < (D.alloc (.cells #[.int .i64 0, .int .i64 0] 25)).heap.size := by rw [World.size_alloc]; omega
    rw [← hE] at hb2 r hzE ⊢
    refine hK.out _ _ (⟨keepW hb2 hHeld.1, keepW hb2 hHeld.2.1, keepW hb2 hHeld.2.2.1, keepW hb2 hHeld.2.2.2.1, keepW hb2 hHeld.2.2.2.2.1, keepW hb2 hHeld.2.2.2.2.2.1, keepW hb2 hHeld.2.2.2.2.2.2.1, keepW hb2 hHeld.2.2.2.2.2.2.2.1, keepW hb2 hHeld.2.2.2.2.2.2.2.2.1, hHeld.2.2.2.2.2.2.2.2.2.trans (hb2.mono hHeld.2.2.2.2.2.2.2.2.2.size)⟩) (fun hHeld => ?_)
    clear hK K hE
    try simp only [Act.put, List.setIfInBounds_toArray, List.set_cons_zero, List.set_cons_succ]
    refine wpAnyH_ready (rs := [15]) (by kernel_rfl) (by simp) ?_
    refine AllReadyH.cons rfl (fun K hK => ?_) AllReadyH.nil
    go_simp
    go_at_call 32
    refine (HS3.out _).mono ?_; rintro e' w' ⟨rfl, hb'⟩
    refine hK.out _ _ (⟨keepW hb' hHeld.1, keepW hb' hHeld.2.1, keepW hb' hHeld.2.2.1, keepW hb' hHeld.2.2.2.1, keepW hb' hHeld.2.2.2.2.1, keepW hb' hHeld.2.2.2.2.2.1, keepW hb' hHeld.2.2.2.2.2.2.1, keepW hb' hHeld.2.2.2.2.2.2.2.1, keepW hb' hHeld.2.2.2.2.2.2.2.2.1, hHeld.2.2.2.2.2.2.2.2.2.trans (hb'.mono hHeld.2.2.2.2.2.2.2.2.2.size)⟩) (fun hHeld => ?_)
    clear hK K
    have r : _ ∧ _ ∧ _ ∧ _ := And.intro (keepW hb' r.1) (And.intro (keepW hb' r.2.1) (And.intro (keepF hb' hzE r.2.2.1) (keepF hb' hzE r.2.2.2)))
    have bE := bX.trans ((hb2.trans (hb'.mono hb2.size)).mono bX.size)
    have hq : X1.heap.size < D.heap.size := hzX
    have hl0 := hv0
    have hl1 := hv1
    have hqe : D.heap.size ≤ w'.heap.size := Nat.le_trans hb2.size hb'.size
    try simp only [Act.put, List.setIfInBounds_toArray, List.set_cons_zero, List.set_cons_succ]
    refine wpAnyH_take (i := 16) (v := ?v16_64) rfl (by kernel_rfl) (by kernel_rfl) (by kernel_rfl) (fun _ _ _ h => h) (Or.inl ⟨by rfl, ?hy16_64⟩) (by assumption) ?rest16_64
    case hy16_64 => (intro w hSw; (try dsimp only at hSw); go_simp; (try with_reducible rfl))
    try simp only [Act.put, List.setIfInBounds_toArray, List.set_cons_zero, List.set_cons_succ]
    refine wpAnyH_take (i := 17) (v := ?v17_65) rfl (by kernel_rfl) (by kernel_rfl) (by kernel_rfl) (fun _ _ _ h => h) (Or.inl ⟨by rfl, ?hy17_65⟩) (by assumption) ?rest17_65
    case hy17_65 => (intro w hSw; (try dsimp only at hSw); go_simp; (try with_reducible rfl))
    try simp only [Act.put, List.setIfInBounds_toArray, List.set_cons_zero, List.set_cons_succ]
    refine wpAnyH_take (i := 18) (v := ?v18_66) rfl (by kernel_rfl) (by kernel_rfl) (by kernel_rfl) (fun _ _ _ h => h) (Or.inl ⟨by rfl, ?hy18_66⟩) (by assumption) ?rest18_66
    case hy18_66 => (intro w hSw; (try dsimp only at hSw); go_simp; (try with_reducible rfl))
    try simp only [Act.put, List.setIfInBounds_toArray, List.set_cons_zero, List.set_cons_succ]
    clear hb2 hb'
    obtain ⟨r0, r1, f0, f1⟩ := r
    refine wpAnyH_ready (rs := [20]) (by kernel_rfl) (by simp) ?_
    refine AllReadyH.cons rfl (fun K hK => ?_) AllReadyH.nil
    go_simp
    have bS : Below D.heap.size w' ((w'.setCell ⟨D.heap.size, 0, none⟩ (.int .i64 C1)).setCell ⟨D.heap.size, 1, none⟩ (.int .i64 C2)) := ((Below.refl D.heap.size w').setCell (p := ⟨D.heap.size, 0, none⟩) (by dsimp only; omega) _).setCell (p := ⟨D.heap.size, 1, none⟩) (by dsimp only; omega) _
    have s0 : ((w'.setCell ⟨D.heap.size, 0, none⟩ (.int .i64 C1)).setCell ⟨D.heap.size, 1, none⟩ (.int .i64 C2)).cell? ⟨D.heap.size, 0, none⟩ = some (.int .i64 C1) := set_other (i := 1) (j := 0) (b := D.heap.size) (by decide) (set_same (v := .int .i64 C1) r0)
    have s1 : ((w'.setCell ⟨D.heap.size, 0, none⟩ (.int .i64 C1)).setCell ⟨D.heap.size, 1, none⟩ (.int .i64 C2)).cell? ⟨D.heap.size, 1, none⟩ = some (.int .i64 C2) := set_same (v := .int .i64 C2) (set_other (i := 0) (j := 1) (b := D.heap.size) (v := .int .i64 C1) (by decide) r1)
    have bZ : Below w.heap.size w ((w'.setCell ⟨D.heap.size, 0, none⟩ (.int .i64 C1)).setCell ⟨D.heap.size, 1, none⟩ (.int .i64 C2)) := (bE.setCell (p := ⟨D.heap.size, 0, none⟩) (by dsimp only; omega) _).setCell (p := ⟨D.heap.size, 1, none⟩) (by dsimp only; omega) _
    have bD : Below D.heap.size D ((w'.setCell ⟨D.heap.size, 0, none⟩ (.int .i64 C1)).setCell ⟨D.heap.size, 1, none⟩ (.int .i64 C2)) := (hHeld.2.2.2.2.2.2.2.2.2.setCell (p := ⟨D.heap.size, 0, none⟩) (by dsimp only; omega) _).setCell (p := ⟨D.heap.size, 1, none⟩) (by dsimp only; omega) _
    have hH2 := Lib.hid (show ((w'.setCell ⟨D.heap.size, 0, none⟩ (.int .i64 C1)).setCell ⟨D.heap.size, 1, none⟩ (.int .i64 C2)).cell? ⟨w.heap.size, 0, none⟩ = some (.int .i64 l) ∧ ((w'.setCell ⟨D.heap.size, 0, none⟩ (.int .i64 C1)).setCell ⟨D.heap.size, 1, none⟩ (.int .i64 C2)).cell? ⟨w.heap.size, 1, none⟩ = some (.int .i64 kd) ∧ ((w'.setCell ⟨D.heap.size, 0, none⟩ (.int .i64 C1)).setCell ⟨D.heap.size, 1, none⟩ (.int .i64 C2)).cell? ⟨w.heap.size, 2, none⟩ = some (.int .i64 f) ∧ ((w'.setCell ⟨D.heap.size, 0, none⟩ (.int .i64 C1)).setCell ⟨D.heap.size, 1, none⟩ (.int .i64 C2)).cell? ⟨w.heap.size, 3, none⟩ = some (.int .i64 s) ∧ ((w'.setCell ⟨D.heap.size, 0, none⟩ (.int .i64 C1)).setCell ⟨D.heap.size, 1, none⟩ (.int .i64 C2)).cell? ⟨w.heap.size, 4, none⟩ = some (.int .i64 c) ∧ ((w'.setCell ⟨D.heap.size, 0, none⟩ (.int .i64 C1)).setCell ⟨D.heap.size, 1, none⟩ (.int .i64 C2)).cell? ⟨w.heap.size + 1, 0, none⟩ = some (.int .i64 lo) ∧ ((w'.setCell ⟨D.heap.size, 0, none⟩ (.int .i64 C1)).setCell ⟨D.heap.size, 1, none⟩ (.int .i64 C2)).cell? ⟨w.heap.size + 1, 1, none⟩ = some (.int .i64 hi) ∧ ((w'.setCell ⟨D.heap.size, 0, none⟩ (.int .i64 C1)).setCell ⟨D.heap.size, 1, none⟩ (.int .i64 C2)).cell? ⟨X1.heap.size, 0, none⟩ = some (.int .i64 A1) ∧ ((w'.setCell ⟨D.heap.size, 0, none⟩ (.int .i64 C1)).setCell ⟨D.heap.size, 1, none⟩ (.int .i64 C2)).cell? ⟨X1.heap.size, 1, none⟩ = some (.int .i64 B1) ∧ Below D.heap.size D ((w'.setCell ⟨D.heap.size, 0, none⟩ (.int .i64 C1)).setCell ⟨D.heap.size, 1, none⟩ (.int .i64 C2)) from ⟨keepB bS hl0 hHeld.1, keepB bS hl0 hHeld.2.1, keepB bS hl0 hHeld.2.2.1, keepB bS hl0 hHeld.2.2.2.1, keepB bS hl0 hHeld.2.2.2.2.1, keepB bS hl1 hHeld.2.2.2.2.2.1, keepB bS hl1 hHeld.2.2.2.2.2.2.1, keepB bS hq hHeld.2.2.2.2.2.2.2.1, keepB bS hq hHeld.2.2.2.2.2.2.2.2.1, bD⟩)
    obtain ⟨Z, hZ⟩ : ∃ Z, Z = (w'.setCell ⟨D.heap.size, 0, none⟩ (.int .i64 C1)).setCell ⟨D.heap.size, 1, none⟩ (.int .i64 C2) := ⟨_, rfl⟩
    rw [← hZ] at s0 s1 bZ hH2 ⊢
    clear hZ bS bD r0 r1 f0 f1 hHeld
    refine hK.out _ _ hH2.out (fun hHeld => ?_)
    clear hK K hH2
    try simp only [Act.put, List.setIfInBounds_toArray, List.set_cons_zero, List.set_cons_succ]
    refine wpAnyH_done (by kernel_rfl) ?_ _
    change wpList _ _ _ _ _ _
    simp only [List.drop_succ_cons, List.drop_zero]
    have pa := hHeld.2.2.2.2.2.2.2.1
    have pb := hHeld.2.2.2.2.2.2.2.2.1
    clear hHeld
    go_wp2_with fail
    refine (HL.out _).mono ?_; rintro e' X5 ⟨rfl, hb5⟩
    go_wp2_with fail
    refine (works_any _).mono ?_; rintro e' X6 ⟨rfl, hb6⟩
    go_wp2_with fail
    go_ret
    have b5 := bZ.trans (hb5.mono bZ.size)
    exact ⟨rfl, b5.trans (hb6.mono b5.size)⟩

theorem PulseFolds_walk (l kd f s c : Int) (bb : Bool) (lo hi a x y : Int) (w : World) (wa : (Lit.int .i8 a).wf = true) (wx : (Lit.int .u32 x).wf = true) (wy : (Lit.int .u32 y).wf = true) :
    Calls Try.prog 13 #[.agg #[.int .i64 l, .int .i64 kd, .int .i64 f, .int .i64 s, .int .i64 c], .bool bb, .agg #[.int .i64 lo, .int .i64 hi], .int .i8 a, .int .u32 x, .int .u32 y] w fun e w' => e = .returned (.bool true) ∧ Below w.heap.size w w' := by
  have ha := bounds_i8 wa
  have hx := bounds_u32 wx
  have hy := bounds_u32 wy
  cases bb
  · by_cases h : spE l kd f s c 0 lo hi (a.tmod 64) = 0
    · exact PF_ok0 l kd f s c lo hi a x y w ha hx hy h
    · exact PF_err0 l kd f s c lo hi a x y w ha hx hy h
  · by_cases h : spE l kd f s c 1 lo hi (a.tmod 64) = 0
    · exact PF_ok1 l kd f s c lo hi a x y w ha hx hy h
    · exact PF_err1 l kd f s c lo hi a x y w ha hx hy h

end Go.Proofs.Ytmojnopgpgnfeaa
