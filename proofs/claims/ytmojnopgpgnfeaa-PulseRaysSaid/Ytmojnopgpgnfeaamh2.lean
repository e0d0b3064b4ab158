/-
  What lesser errors make of sums, ratios and matches: plain mathematics.
-/
import Derived.Test.Ytmojnopgpgnfeaamg3
import Derived.Test.Ytmojnopgpgnfeaamg13
import Derived.Test.Ytmojnopgpgnfeaamg6
import Derived.Test.Ytmojnopgpgnfeaamg22
import Derived.Test.Ytmojnopgpgnfeaamh1
import Derived.Test.Ytmojnopgpgnfeaamg11
import Derived.Test.Ytmojnopgpgnfeaamg8
import Derived.Test.Ytmojnopgpgnfeaamg2
namespace Go.Proofs.Ytmojnopgpgnfeaa
set_option linter.unusedVariables false

theorem amgm {X Y Z : Int} (hx : 0 ≤ X) (hy : 0 ≤ Y) (h : Z * Z ≤ X * Y) : 2 * Z ≤ X + Y := by
  refine Int.not_lt.1 fun h2 => ?_
  have h3 : (X + Y) * (X + Y) < (2 * Z) * (2 * Z) := Int.mul_self_lt_mul_self (by omega) h2
  have h4 : 0 ≤ (X - Y) * (X - Y) := by
    by_cases c : X ≤ Y
    · have := Int.mul_nonneg (show 0 ≤ Y - X by omega) (show 0 ≤ Y - X by omega); grind
    · exact Int.mul_nonneg (by omega) (by omega)
  grind
theorem cs_step {A B C a b : Int} (hA : 0 ≤ A) (hB : 0 ≤ B) (ha : 0 ≤ a) (hb : 0 ≤ b) (h : C * C ≤ A * B) : (C + a * b) * (C + a * b) ≤ (A + a * a) * (B + b * b) := by
  have h1 : 0 ≤ A * (b * b) := Int.mul_nonneg hA (Int.mul_nonneg hb hb)
  have h2 : 0 ≤ B * (a * a) := Int.mul_nonneg hB (Int.mul_nonneg ha ha)
  have h3 : (C * (a * b)) * (C * (a * b)) ≤ (A * (b * b)) * (B * (a * a)) := by
    have := Int.mul_le_mul_of_nonneg_right h (Int.mul_nonneg (Int.mul_nonneg ha hb) (Int.mul_nonneg ha hb))
    grind
  have h4 := amgm h1 h2 h3
  grind
theorem div_mono {a a' b b' : Int} (h0 : 0 ≤ a) (h1 : a ≤ a') (h2 : 0 < b') (h3 : b' ≤ b) : a / b ≤ a' / b' := by
  refine Int.le_ediv_of_mul_le h2 ?_
  have q0 : 0 ≤ a / b := Int.ediv_nonneg h0 (by omega)
  have q1 : a / b * b ≤ a := Int.ediv_mul_le a (by omega)
  have q2 := Int.mul_le_mul_of_nonneg_left h3 q0
  omega
theorem up_mono {a a' b b' : Int} (h0 : 0 ≤ a) (h1 : a ≤ a') (h2 : 0 < b') (h3 : b' ≤ b) : -(-a / b) ≤ -(-a' / b') := by
  have : -a' / b' ≤ -a / b := by
    refine Int.le_ediv_of_mul_le (by omega) ?_
    have q1 : -a' / b' * b' ≤ -a' := Int.ediv_mul_le _ (by omega)
    have q0 : -a' / b' ≤ 0 := by
      have : 0 ≤ -(-a' / b') := by
        have := Int.ediv_mul_le (-a') (show b' ≠ 0 by omega)
        refine Int.not_lt.1 fun h => ?_
        have h5 : 1 ≤ -a' / b' := by omega
        have := Int.mul_le_mul_of_nonneg_right h5 (show 0 ≤ b' by omega)
        omega
      omega
    have q2 := Int.mul_le_mul_of_nonneg_left h3 (show 0 ≤ -(-a' / b') by omega)
    have e1 : -(-a' / b') * b' = -(-a' / b' * b') := Int.neg_mul ..
    have e2 : -(-a' / b') * b = -(-a' / b' * b) := Int.neg_mul ..
    omega
  omega
theorem down_up {a b : Int} (h : 0 < b) : a / b ≤ -(-a / b) := by
  have h1 := Int.ediv_mul_le a (show b ≠ 0 by omega)
  have h2 := Int.ediv_mul_le (-a) (show b ≠ 0 by omega)
  refine Int.not_lt.1 fun h3 => ?_
  have h4 : 1 ≤ a / b + -a / b := by omega
  have h5 := Int.mul_le_mul_of_nonneg_right h4 (show 0 ≤ b by omega)
  have e : (a / b + -a / b) * b = a / b * b + -a / b * b := Int.add_mul ..
  omega
theorem up_nonneg {a b : Int} (h0 : 0 ≤ a) (h : 0 < b) : 0 ≤ -(-a / b) := by
  have := down_up (a := a) h
  have := Int.ediv_nonneg h0 (show 0 ≤ b by omega)
  omega
theorem div_le_of {a b m : Int} (hb : 0 < b) (h : a ≤ m * b) : a / b ≤ m := by
  have h1 := Int.ediv_mul_le a (show b ≠ 0 by omega)
  refine Int.not_lt.1 fun h3 => ?_
  have h5 := Int.mul_le_mul_of_nonneg_right (show m + 1 ≤ a / b by omega) (show 0 ≤ b by omega)
  have e : (m + 1) * b = m * b + b := by rw [Int.add_mul, Int.one_mul]
  omega
theorem sq_le {a b : Int} (h0 : 0 ≤ a) (h : a ≤ b) : a * a ≤ b * b := Int.mul_le_mul h h h0 (by omega)
theorem sq_pos0 {a : Int} (h0 : 0 ≤ a) (h : a * a ≤ 0) : a = 0 := by
  refine Int.le_antisymm (Int.not_lt.1 fun h2 => ?_) h0
  have := Int.mul_pos h2 h2
  omega
/-- a number between others, less its quotient's whole part -/
theorem unw_move {x y : Int} (h : -65536 ≤ x - y ∧ x - y ≤ 65536) : ∃ k : Int, -1 ≤ k ∧ k ≤ 1 ∧ ((x + 32768) % 65536 - 32768) + k * 65536 - ((y + 32768) % 65536 - 32768) = x - y := by
  refine ⟨(x + 32768) / 65536 - (y + 32768) / 65536, ?_, ?_, ?_⟩ <;> omega

theorem sumF_nn {f : Nat → Int} : ∀ {k : Nat}, (∀ i, i < k → 0 ≤ f i) → 0 ≤ sumF f k
  | 0, _ => by simp [sumF]
  | k + 1, h => by
    have h1 := sumF_nn (k := k) fun i hi => h i (by omega)
    have h2 := h k (by omega)
    rw [sumF]; omega
theorem sumF_mono {f g : Nat → Int} : ∀ {k : Nat}, (∀ i, i < k → f i ≤ g i) → sumF f k ≤ sumF g k
  | 0, _ => by simp [sumF]
  | k + 1, h => by
    have h1 := sumF_mono (k := k) fun i hi => h i (by omega)
    have h2 := h k (by omega)
    rw [sumF, sumF]; omega
theorem mx_nn (x : Int) : 0 ≤ mx x := by unfold mx; split <;> omega
theorem mx_mono {x y : Int} (h : x ≤ y) : mx x ≤ mx y := by unfold mx; split <;> split <;> omega
theorem mn_mono {m x y : Int} (h : x ≤ y) : mn m x ≤ mn m y := by unfold mn; split <;> split <;> omega
theorem mn_bd {m x : Int} (h : 0 ≤ x) (hm : 0 ≤ m) : 0 ≤ mn m x ∧ mn m x ≤ m := by unfold mn; split <;> omega
theorem cs_sum (zs : Nat → Smp) (e : Int) : ∀ n, sumF (prd zs e) n * sumF (prd zs e) n ≤ sumF (sqH zs e) n * sumF (sqV zs e) n
  | 0 => by simp [sumF]
  | n + 1 => by
    have h := cs_sum zs e n
    have a0 : 0 ≤ mg e (zs n).h := mx_nn _
    have b0 : 0 ≤ mg e (zs n).v := mx_nn _
    have hA : 0 ≤ sumF (sqH zs e) n := sumF_nn fun i _ => Int.mul_nonneg (mx_nn _) (mx_nn _)
    have hB : 0 ≤ sumF (sqV zs e) n := sumF_nn fun i _ => Int.mul_nonneg (mx_nn _) (mx_nn _)
    rw [sumF, sumF, sumF]
    exact cs_step hA hB a0 b0 h
/-- what the sums of one train, least and greatest, are to those of a wider one -/
structure Sums (A B C D E F : Int) : Prop where
  a : 0 ≤ A ∧ A ≤ D
  b : 0 ≤ B ∧ B ≤ E
  c : 0 ≤ C ∧ C ≤ F
  s : C * C ≤ A * B
  t : F * F ≤ D * E
theorem Sums.of {zs : Nat → Smp} {lv : Int} {n : Nat} (h0 : 0 ≤ lv) : Sums (sumF (sqH zs (-lv)) n) (sumF (sqV zs (-lv)) n) (sumF (prd zs (-lv)) n) (sumF (sqH zs lv) n) (sumF (sqV zs lv) n) (sumF (prd zs lv) n) := by
  have m : ∀ x : Int, mg (-lv) x ≤ mg lv x := fun x => mx_mono (by omega)
  exact ⟨⟨sumF_nn fun i _ => Int.mul_nonneg (mx_nn _) (mx_nn _), sumF_mono fun i _ => sq_le (mx_nn _) (m _)⟩,
    ⟨sumF_nn fun i _ => Int.mul_nonneg (mx_nn _) (mx_nn _), sumF_mono fun i _ => sq_le (mx_nn _) (m _)⟩,
    ⟨sumF_nn fun i _ => Int.mul_nonneg (mx_nn _) (mx_nn _), sumF_mono fun i _ => Int.mul_le_mul (m _) (m _) (mx_nn _) (mx_nn _)⟩, cs_sum zs (-lv) n, cs_sum zs lv n⟩
theorem prod_zero {A B C : Int} (hC : 0 ≤ C) (h : C * C ≤ A * B) (h0 : ¬ 0 < A * B) : C = 0 := sq_pos0 hC (by omega)
theorem matLo_bd {A B C D E F : Int} (s : Sums A B C D E F) : 0 ≤ matLo C D E ∧ matLo C D E ≤ 1000 := by
  unfold matLo
  split
  · rename_i h
    have h1 : C * C ≤ D * E := Int.le_trans s.s (Int.mul_le_mul s.a.2 s.b.2 s.b.1 (by have := s.a; omega))
    have h2 := Int.mul_nonneg s.c.1 s.c.1
    have e : 1000 * C * C = 1000 * (C * C) := Int.mul_assoc ..
    exact ⟨Int.ediv_nonneg (by omega) (by omega), div_le_of h (by omega)⟩
  · omega
theorem matHi_bd {A B C D E F : Int} (s : Sums A B C D E F) : 0 ≤ matHi F A B ∧ matHi F A B ≤ 1000 := by
  unfold matHi
  split
  · rename_i h
    have hF : 0 ≤ F := by have := s.c; omega
    have h2 := Int.mul_nonneg hF hF
    have e : 1000 * F * F = 1000 * (F * F) := Int.mul_assoc ..
    exact mn_bd (up_nonneg (by omega) h) (by decide)
  · omega
theorem mat_le {A B C D E F : Int} (s : Sums A B C D E F) : matLo C D E ≤ matHi F A B := by
  have hb := matLo_bd s
  have hF : 0 ≤ F := by have := s.c; omega
  have hDE : A * B ≤ D * E := Int.mul_le_mul s.a.2 s.b.2 s.b.1 (by have := s.a; omega)
  by_cases h : 0 < A * B
  · unfold matHi
    rw [if_pos h]
    have h1 : matLo C D E ≤ -(-(1000 * F * F) / (A * B)) := by
      unfold matLo
      rw [if_pos (by omega)]
      have c2 := sq_le s.c.1 s.c.2
      have c0 := Int.mul_nonneg s.c.1 s.c.1
      have e1 : 1000 * C * C = 1000 * (C * C) := Int.mul_assoc ..
      have e2 : 1000 * F * F = 1000 * (F * F) := Int.mul_assoc ..
      have := down_up (a := 1000 * C * C) (show 0 < D * E by omega)
      have := up_mono (a := 1000 * C * C) (a' := 1000 * F * F) (b := D * E) (b' := A * B) (by omega) (by omega) h hDE
      omega
    unfold mn; split <;> omega
  · unfold matHi
    rw [if_neg h]; omega
/-- the sums of one train lie between those of another one -/
structure Nest (A B C D E F A' B' C' D' E' F' : Int) : Prop where
  x : Sums A' B' C' D' E' F'
  y : Sums A B C D E F
  a : A ≤ A' ∧ D' ≤ D
  b : B ≤ B' ∧ E' ≤ E
  c : C ≤ C' ∧ F' ≤ F
theorem matLo_nest {A B C D E F A' B' C' D' E' F' : Int} (s : Nest A B C D E F A' B' C' D' E' F') : matLo C D E ≤ matLo C' D' E' := by
  have hD : 0 ≤ D' := by have := s.x.a; omega
  have hE : 0 ≤ E' := by have := s.x.b; omega
  have hDE : D' * E' ≤ D * E := Int.mul_le_mul s.a.2 s.b.2 hE (by have := s.a; omega)
  by_cases h : 0 < D' * E'
  · unfold matLo
    rw [if_pos h, if_pos (by omega)]
    have c2 := sq_le s.y.c.1 s.c.1
    have c0 := Int.mul_nonneg s.y.c.1 s.y.c.1
    have e1 : 1000 * C * C = 1000 * (C * C) := Int.mul_assoc ..
    have e2 : 1000 * C' * C' = 1000 * (C' * C') := Int.mul_assoc ..
    exact div_mono (by omega) (by omega) h hDE
  · have h1 : C' * C' ≤ D' * E' := Int.le_trans s.x.s (Int.mul_le_mul s.x.a.2 s.x.b.2 s.x.b.1 hD)
    have hC' := prod_zero s.x.c.1 h1 h
    have hC : C = 0 := by have := s.c; have := s.y.c; omega
    subst hC
    have : matLo 0 D E = 0 := by unfold matLo; split <;> simp
    rw [this]; exact (matLo_bd s.x).1
theorem matHi_nest {A B C D E F A' B' C' D' E' F' : Int} (s : Nest A B C D E F A' B' C' D' E' F') : matHi F' A' B' ≤ matHi F A B := by
  by_cases h : 0 < A * B
  · have hAB : A * B ≤ A' * B' := Int.mul_le_mul s.a.1 s.b.1 s.y.b.1 (by have := s.x.a; omega)
    unfold matHi
    rw [if_pos h, if_pos (by omega)]
    have hF : 0 ≤ F' := by have := s.x.c; omega
    have c2 := sq_le hF s.c.2
    have c0 := Int.mul_nonneg hF hF
    have e1 : 1000 * F' * F' = 1000 * (F' * F') := Int.mul_assoc ..
    have e2 : 1000 * F * F = 1000 * (F * F) := Int.mul_assoc ..
    exact mn_mono (up_mono (by omega) (by omega) h hAB)
  · have e : matHi F A B = 1000 := by unfold matHi; rw [if_neg h]
    rw [e]; exact (matHi_bd s.x).2

/-- powers of two channels, the weakest and the strongest -/
structure Pows (a b c d : Int) : Prop where
  a : 0 < a ∧ a ≤ c
  b : 0 ≤ b ∧ b ≤ d
theorem rat_ok {a b c d : Int} (h : Pows a b c d) : 0 ≤ ratLo b c ∧ ratLo b c ≤ ratHi d a ∧ ratHi d a ≤ 1000000 := by
  have ha := h.a
  have hb := h.b
  unfold ratLo ratHi
  have q1 := Int.ediv_nonneg (show 0 ≤ 1000 * b by omega) (show 0 ≤ c by omega)
  have q2 := down_up (a := 1000 * b) (show 0 < c by omega)
  have q3 := up_mono (a := 1000 * b) (a' := 1000 * d) (b := c) (b' := a) (by omega) (by omega) ha.1 ha.2
  have m1 := mn_bd (m := 1000000) q1 (by decide)
  have m2 := mn_mono (m := 1000000) (show 1000 * b / c ≤ -(-(1000 * d) / a) by omega)
  have m3 := mn_bd (m := 1000000) (show 0 ≤ -(-(1000 * d) / a) by omega) (by decide)
  omega
theorem rat_nest {a b c d a' b' c' d' : Int} (x : Pows a' b' c' d') (y : Pows a b c d) (ha : a ≤ a' ∧ c' ≤ c) (hb : b ≤ b' ∧ d' ≤ d) : ratLo b c ≤ ratLo b' c' ∧ ratHi d' a' ≤ ratHi d a := by
  have xa := x.a
  have xb := x.b
  have ya := y.a
  have yb := y.b
  unfold ratLo ratHi
  exact ⟨mn_mono (div_mono (by omega) (by omega) (by omega) ha.2), mn_mono (up_mono (by omega) (by omega) ya.1 ha.1)⟩
/-- a power: least and greatest -/
theorem pow_nest {S T S' T' c n0 n1 n0' n1' : Int} (hc : 1 ≤ c) (h0 : 0 ≤ S) (h1 : S ≤ S') (h2 : S' ≤ T') (h3 : T' ≤ T) (m1 : n0 ≤ n0') (m2 : n0' ≤ n1') (m3 : n1' ≤ n1) :
    0 ≤ mx (S / c - n1) ∧ mx (S / c - n1) ≤ mx (S' / c - n1') ∧ mx (S' / c - n1') ≤ mx (-(-T' / c) - n0') ∧ mx (-(-T' / c) - n0') ≤ mx (-(-T / c) - n0) := by
  have q1 := div_mono h0 h1 (show 0 < c by omega) (Int.le_refl c)
  have q2 := down_up (a := S') (show 0 < c by omega)
  have q3 := up_mono (a := S') (a' := T') (b := c) (b' := c) (by omega) h2 (by omega) (Int.le_refl c)
  have q4 := up_mono (a := T') (a' := T) (b := c) (b' := c) (by omega) h3 (by omega) (Int.le_refl c)
  exact ⟨mx_nn _, mx_mono (by omega), mx_mono (by omega), mx_mono (by omega)⟩
end Go.Proofs.Ytmojnopgpgnfeaa

namespace Go.Proofs.Ytmojnopgpgnfeaa
open Go.RowKit
set_option linter.unusedVariables false
set_option linter.unusedSimpArgs false

theorem rchk_boxes (l kd f s c lv ph n0 n1 : Int) (w : World) : ∃ W, W = (w.alloc (.cells #[.int .i64 l, .int .i64 kd, .int .i64 f, .int .i64 s, .int .i64 c] 34)).alloc (.cells #[.int .i64 lv, .int .i64 ph, .int .i64 n0, .int .i64 n1] 37) ∧ Below w.heap.size w W ∧ W.heap.size = w.heap.size + 2 ∧ W.cell? ⟨w.heap.size + 1, 0, none⟩ = some (.int .i64 lv) ∧ W.cell? ⟨w.heap.size + 1, 1, none⟩ = some (.int .i64 ph) ∧ W.cell? ⟨w.heap.size + 1, 2, none⟩ = some (.int .i64 n0) ∧ W.cell? ⟨w.heap.size + 1, 3, none⟩ = some (.int .i64 n1) := by
  obtain ⟨A1, e1⟩ : ∃ A, A = w.alloc (.cells #[.int .i64 l, .int .i64 kd, .int .i64 f, .int .i64 s, .int .i64 c] 34) := ⟨_, rfl⟩
  have s1 : A1.heap.size = w.heap.size + 1 := by rw [e1]; exact World.size_alloc _ _
  have b1 : Below w.heap.size w A1 := by rw [e1]; exact below_alloc _ _
  rw [← e1]
  refine ⟨_, rfl, b1.trans ((below_alloc _ _).mono (by omega)), by rw [World.size_alloc]; omega, ?_, ?_, ?_, ?_⟩ <;> rw [← s1] <;> exact alloc_new rfl rfl
set_option maxHeartbeats 800000 in
theorem both_any (l kd f s c lv ph n0 n1 : Int) (w : World) :
    Calls Try.prog 64 #[.agg #[.int .i64 l, .int .i64 kd, .int .i64 f, .int .i64 s, .int .i64 c], .agg #[.int .i64 lv, .int .i64 ph, .int .i64 n0, .int .i64 n1]] w fun e w' => e = .returned (.int .i64 (ckC l kd f s c lv ph n0 n1)) ∧ Below w.heap.size w w' := by
  unfold ckC
  by_cases h : trainC l kd f s c = 0
  · rw [if_pos h]
    have HT := Lib.hid (show ∀ w : World, Calls Try.prog 16 #[.agg #[.int .i64 l, .int .i64 kd, .int .i64 f, .int .i64 s, .int .i64 c]] w fun e w' => e = .returned (.int .i64 0) ∧ Below w.heap.size w w' from fun w => by rw [← h]; exact refCheckTrain_any l kd f s c w)
    clear h
    obtain ⟨W, hW, hb, hz, c0, c1, c2, c3⟩ := rchk_boxes l kd f s c lv ph n0 n1 w
    go_enter Try.func64, Try.ntmps64
    go_wp2_with fail
    rw [← hW]
    refine (HT.out _).mono ?_; rintro e X ⟨rfl, hbX⟩
    have d0 := keepB hbX (by omega) c0
    have d1 := keepB hbX (by omega) c1
    have d2 := keepB hbX (by omega) c2
    have d3 := keepB hbX (by omega) c3
    have bX := hb.trans (hbX.mono (by omega))
    clear hbX c0 c1 c2 c3 hW
    go_wp2_with fail
    refine (refCheckReceiver_any _ _ _ _ _).mono ?_; rintro e Y ⟨rfl, hbY⟩
    go_wp2
    go_ret
    exact ⟨rfl, bX.trans (hbY.mono bX.size)⟩
  · rw [if_neg h]
    have hne : (trainC l kd f s c != 0) = true := bne_iff_ne.2 h
    have hne2 : (trainC l kd f s c == 0) = false := beq_eq_false_iff_ne.2 h
    obtain ⟨e0, he⟩ : ∃ x, x = trainC l kd f s c := ⟨_, rfl⟩
    have HT := Lib.hid (show ∀ w : World, Calls Try.prog 16 #[.agg #[.int .i64 l, .int .i64 kd, .int .i64 f, .int .i64 s, .int .i64 c]] w fun e w' => e = .returned (.int .i64 e0) ∧ Below w.heap.size w w' from fun w => by rw [he]; exact refCheckTrain_any l kd f s c w)
    rw [← he] at hne hne2 ⊢
    clear h he
    obtain ⟨W, hW, hb, hz, c0, c1, c2, c3⟩ := rchk_boxes l kd f s c lv ph n0 n1 w
    go_enter Try.func64, Try.ntmps64
    go_wp2_with fail
    rw [← hW]
    refine (HT.out _).mono ?_; rintro e X ⟨rfl, hbX⟩
    have bX := hb.trans (hbX.mono (by omega))
    clear hbX c0 c1 c2 c3 hW
    go_wp2
    go_ret
    exact ⟨rfl, bX⟩

theorem allP_parts {zs : List Int} {n : Nat} (hn : zs.length = n) (hp : ∀ x, x ∈ zs → 0 ≤ x ∧ x < 65536) : allP (fun j => zs[j]?.getD 0) n = true := allP_true.2 fun j hj => by
  rw [List.getElem?_eq_getElem (by omega)]
  have := hp _ (List.getElem_mem (show j < zs.length by omega))
  exact ⟨this.1, by show zs[j] ≤ 65535; omega⟩
set_option maxRecDepth 100000 in
set_option maxHeartbeats 1600000 in
theorem together_any (b off n cap : Nat) (zs : List Int) (w : World) (hn : zs.length = n) (h0 : 1 ≤ n) (hlen : n ≤ 64) (hb : b < w.heap.size) (hc : ∀ j, j < n → w.cell? ⟨b, off + j, none⟩ = some (.int .i64 (zs[j]?.getD 0))) (hp : ∀ x, x ∈ zs → 0 ≤ x ∧ x < 65536) (ph : Int) (hph : 0 ≤ ph ∧ ph ≤ 4096) :
    Calls Try.prog 69 #[.slice (some ⟨b, off, none⟩) n cap, .int .i64 ph] w fun e w' => e = .returned (.bool (decide (arcW zs + 4 * ph < 32768))) ∧ Below w.heap.size w w' := by
  have HA : Hid (Calls Try.prog 26 #[.slice (some ⟨b, off, none⟩) n cap] w fun e w' => e = .returned (.tuple #[.int .i64 (arcB zs), .int .i64 (arcW zs), .int .i64 0]) ∧ Below w.heap.size w w') := Lib.hid (refArc_ok b off n cap zs w hn h0 (by omega) hb hc (allP_parts hn hp))
  have bw := arcW_bd zs
  obtain ⟨aW, haW⟩ : ∃ x, x = arcW zs := ⟨_, rfl⟩
  obtain ⟨aB, haB⟩ : ∃ x, x = arcB zs := ⟨_, rfl⟩
  rw [← haW] at HA bw ⊢
  rw [← haB] at HA
  have i1 : IntKind.i64.wrap (4 * ph) = 4 * ph := IntWalk.i64_in _ (by omega)
  have i2 : IntKind.i64.wrap (aW + 4 * ph) = aW + 4 * ph := IntWalk.i64_in _ (by omega)
  clear haW haB hc hp hn
  go_enter Try.func69, Try.ntmps69
  go_wp2_with fail
  refine HA.out.mono ?_; rintro e X ⟨rfl, hbX⟩
  go_wp2
  go_ret
  exact ⟨rfl, hbX⟩
set_option maxRecDepth 100000 in
set_option maxHeartbeats 3200000 in
theorem Sum_any (b off n cap : Nat) (zs : List Int) (w : World) (hn : zs.length = n) (h0 : 1 ≤ n) (hlen : n ≤ 64) (hb : b < w.heap.size) (hc : ∀ j, j < n → w.cell? ⟨b, off + j, none⟩ = some (.int .i64 (zs[j]?.getD 0))) (hp : ∀ x, x ∈ zs → 0 ≤ x ∧ x < 65536) :
    Calls Try.prog 93 #[.slice (some ⟨b, off, none⟩) n cap] w fun e w' => e = .returned (.int .i64 (sumT (arcB zs) zs n)) ∧ Below w.heap.size w w' := by
  have HA : Hid (Calls Try.prog 26 #[.slice (some ⟨b, off, none⟩) n cap] w fun e w' => e = .returned (.tuple #[.int .i64 (arcB zs), .int .i64 (arcW zs), .int .i64 0]) ∧ Below w.heap.size w w') := Lib.hid (refArc_ok b off n cap zs w hn h0 (by omega) hb hc (allP_parts hn hp))
  have hne : zs ≠ [] := by intro e; rw [e] at hn; simp at hn; omega
  have bB : 0 ≤ arcB zs ∧ arcB zs < 65536 := hp _ (arcB_in hne)
  obtain ⟨aW, haW⟩ : ∃ x, x = arcW zs := ⟨_, rfl⟩
  obtain ⟨aB, haB⟩ : ∃ x, x = arcB zs := ⟨_, rfl⟩
  rw [← haW] at HA
  rw [← haB] at HA bB ⊢
  have HS := Lib.hid (fun k => sumT_bd (xs := zs) bB k)
  have HC := Lib.hid hc
  have HP := Lib.hid (show ∀ j, j < n → 0 ≤ zs[j]?.getD 0 ∧ zs[j]?.getD 0 < 65536 from fun j hj => by
    rw [List.getElem?_eq_getElem (by omega)]
    exact hp _ (List.getElem_mem (show j < zs.length by omega)))
  obtain ⟨g, hg⟩ : ∃ g : Nat → Int, g = fun j => zs[j]?.getD 0 := ⟨_, rfl⟩
  have HG := Lib.hid (show ∀ k, sumT aB zs (k + 1) = sumT aB zs k + (aB + (g k - aB) % 65536) from fun k => by rw [hg]; rfl)
  have HC2 := Lib.hid (show ∀ j, j < n → w.cell? ⟨b, off + j, none⟩ = some (.int .i64 (g j)) from fun j hj => by rw [hg]; exact HC.out j hj)
  have HP2 := Lib.hid (show ∀ j, j < n → 0 ≤ g j ∧ g j < 65536 from fun j hj => by rw [hg]; exact HP.out j hj)
  clear haW haB hc hp hn hne hg HC HP
  go_enter Try.func93, Try.ntmps93
  go_wp2_with fail
  refine HA.out.mono ?_; rintro e X ⟨rfl, hbX⟩
  have HX := Lib.hid hbX
  clear hbX HA
  go_wp2
  go_loopw [6, 7] (fun v6 v7 wr => ∃ k : Nat, k ≤ n ∧ v7 = .int .i64 k ∧ v6 = .int .i64 (sumT aB zs k) ∧ Below w.heap.size w wr) (fun _ v7 _ => n - (intOf v7).toNat)
  case atStart => exact ⟨0, Nat.zero_le _, rfl, rfl, HX.out⟩
  case round =>
    obtain ⟨k, hk, rfl, rfl, hbw⟩ := hrel
    have HW := Lib.hid hbw
    have hbr : b < wr.heap.size := Nat.lt_of_lt_of_le hb hbw.size
    have bs := HS.out k
    obtain ⟨S, hS⟩ : ∃ S, S = sumT aB zs k := ⟨_, rfl⟩
    rw [← hS] at bs ⊢
    by_cases hlt : k < n
    · have z := keepB hbw hb (HC2.out k hlt)
      have bg := HP2.out k hlt
      obtain ⟨x, hx⟩ : ∃ x, x = g k := ⟨_, rfl⟩
      rw [← hx] at z bg
      obtain ⟨d, hd⟩ : ∃ d, d = (x - aB) % 65536 := ⟨_, rfl⟩
      have bd : 0 ≤ d ∧ d < 65536 := by omega
      have HN := Lib.hid (show sumT aB zs (k + 1) = S + (aB + d) by rw [HG.out k, ← hS, ← hx, hd])
      have HWr : Hid (∀ W : World, Calls Try.prog 60 #[.int .i64 (x - aB)] W fun e w' => e = .returned (.int .i64 d) ∧ W = w') := Lib.hid fun W => by rw [hd]; exact Wrap_any (x - aB) W (by omega) (by omega)
      clear hS hx hd hbw
      go_wp2_with (go_at_call 60; refine (HWr.out _).mono ?_; rintro e w' ⟨rfl, rfl⟩)
      go_roundw
      case rel => exact ⟨k + 1, by omega, by go_num, by rw [HN.out], HW.out⟩
      case measure => simp [intOf]; omega
    · obtain rfl : n = k := by omega
      clear hbw hlt
      go_wp2
      go_ret
      rw [← hS]
      exact ⟨rfl, HW.out⟩
set_option maxRecDepth 100000 in
set_option maxHeartbeats 3200000 in
theorem refmean_any (b off n cap : Nat) (zs : List Int) (w : World) (hn : zs.length = n) (h0 : 1 ≤ n) (hlen : n ≤ 64) (hb : b < w.heap.size) (hc : ∀ j, j < n → w.cell? ⟨b, off + j, none⟩ = some (.int .i64 (zs[j]?.getD 0))) (hp : ∀ x, x ∈ zs → 0 ≤ x ∧ x < 65536) (sl : Int) (hs : 0 ≤ sl ∧ sl ≤ 1000000) :
    Calls Try.prog 70 #[.slice (some ⟨b, off, none⟩) n cap, .int .i64 sl] w fun e w' => e = .returned (.agg #[.int .i64 (meanLo (arcB zs) zs sl), .int .i64 (meanHi (arcB zs) zs sl)]) ∧ Below w.heap.size w w' := by
  have hne : zs ≠ [] := by intro e; rw [e] at hn; simp at hn; omega
  have bB : 0 ≤ arcB zs ∧ arcB zs < 65536 := hp _ (arcB_in hne)
  have bs := sumT_bd (xs := zs) bB n
  have HA : Hid (∀ W : World, Below w.heap.size w W → Calls Try.prog 93 #[.slice (some ⟨b, off, none⟩) n cap] W fun e w' => e = .returned (.int .i64 (sumT (arcB zs) zs n)) ∧ Below W.heap.size W w') := Lib.hid fun W hW => Sum_any b off n cap zs W hn h0 hlen (Nat.lt_of_lt_of_le hb hW.size) (fun j hj => keepB hW hb (hc j hj)) hp
  unfold meanLo meanHi
  rw [if_neg hne, if_neg hne, hn]
  obtain ⟨S, hS⟩ : ∃ S, S = sumT (arcB zs) zs n := ⟨_, rfl⟩
  rw [← hS] at HA bs ⊢
  obtain ⟨lo, hlo⟩ : ∃ z, z = (S - sl) / (n : Int) := ⟨_, rfl⟩
  obtain ⟨hi, hhi⟩ : ∃ z, z = -(-(S + sl) / (n : Int)) := ⟨_, rfl⟩
  have bl : -1000000000 ≤ lo ∧ lo ≤ 1000000000 := by rw [hlo]; exact quo_bd (by omega) (by omega) (by omega)
  have bh : -1000000000 ≤ hi ∧ hi ≤ 1000000000 := by
    have := quo_bd (a := -(S + sl)) (c := n) (by omega) (by omega) (by omega)
    rw [hhi]; omega
  have HD : Hid (∀ W : World, Calls Try.prog 74 #[.int .i64 (S - sl), .int .i64 n] W fun e w' => e = .returned (.int .i64 lo) ∧ W = w') := Lib.hid fun W => by rw [hlo]; exact Down_any (S - sl) n W (by omega) (by omega) (by omega)
  have HU : Hid (∀ W : World, Calls Try.prog 66 #[.int .i64 (S + sl), .int .i64 n] W fun e w' => e = .returned (.int .i64 hi) ∧ W = w') := Lib.hid fun W => by rw [hhi]; exact Up_any (S + sl) n W (by omega) (by omega) (by omega)
  rw [← hlo, ← hhi]
  obtain ⟨m, hm⟩ : ∃ m, m = (lo + 32768) % 65536 := ⟨_, rfl⟩
  have bm : 0 ≤ m ∧ m < 65536 := by omega
  have HWr : Hid (∀ W : World, Calls Try.prog 60 #[.int .i64 (lo + 32768)] W fun e w' => e = .returned (.int .i64 m) ∧ w' = W) := Lib.hid fun W => (Wrap_any (lo + 32768) W (by omega) (by omega)).mono (by rintro e w' ⟨rfl, rfl⟩; exact ⟨by rw [hm], rfl⟩)
  have HU2 := Lib.hid (show unw lo = m - 32768 by unfold unw; rw [hm])
  have i0 : IntKind.i64.wrap (lo + 32768) = lo + 32768 := IntWalk.i64_in _ (by omega)
  have i1 : IntKind.i64.wrap (m - 32768) = m - 32768 := IntWalk.i64_in _ (by omega)
  have i2 : IntKind.i64.wrap (m - 32768 - lo) = m - 32768 - lo := IntWalk.i64_in _ (by omega)
  have i3 : IntKind.i64.wrap (lo + (m - 32768 - lo)) = m - 32768 := by rw [show lo + (m - 32768 - lo) = m - 32768 by omega]; exact i1
  have i4 : IntKind.i64.wrap (hi + (m - 32768 - lo)) = m - 32768 + hi - lo := by rw [show hi + (m - 32768 - lo) = m - 32768 + hi - lo by omega]; exact IntWalk.i64_in _ (by omega)
  have i5 : lo + (m - 32768 - lo) = m - 32768 := by omega
  have i6 : hi + (m - 32768 - lo) = m - 32768 + hi - lo := by omega
  rw [HU2.out]
  have I5 := Lib.hid (And.intro i5 i6)
  clear hS hlo hhi hm hc hp hn hne bB i5 i6 i3 i4
  have pz : (w.alloc (.cells #[.int .i64 0, .int .i64 0] 25)).cell? ⟨w.heap.size, 0, none⟩ = some (.int .i64 0) ∧ (w.alloc (.cells #[.int .i64 0, .int .i64 0] 25)).cell? ⟨w.heap.size, 1, none⟩ = some (.int .i64 0) ∧ (w.alloc (.cells #[.int .i64 0, .int .i64 0] 25)).frozen? ⟨w.heap.size, 0, none⟩ = false ∧ (w.alloc (.cells #[.int .i64 0, .int .i64 0] 25)).frozen? ⟨w.heap.size, 1, none⟩ = false := ⟨alloc_new rfl rfl, alloc_new rfl rfl, alloc_newF rfl, alloc_newF rfl⟩
  have hz : w.heap.size < (w.alloc (.cells #[.int .i64 0, .int .i64 0] 25)).heap.size := by rw [World.size_alloc]; omega
  have bw0 : Below w.heap.size w (w.alloc (.cells #[.int .i64 0, .int .i64 0] 25)) := below_alloc _ _
  go_enter Try.func70, Try.ntmps70
  go_wp2_with fail
  refine (HA.out _ bw0).mono ?_; rintro e X ⟨rfl, hbX⟩
  have r0 := keepB hbX hz pz.1
  have r1 := keepB hbX hz pz.2.1
  have f0 := keepF hbX hz pz.2.2.1
  have f1 := keepF hbX hz pz.2.2.2
  have bX := bw0.trans (hbX.mono bw0.size)
  have y0 : w.heap.size < X.heap.size := Nat.lt_of_lt_of_le hz hbX.size
  clear hbX pz hz bw0
  go_wp2_with (first | (go_at_call 74; refine (HD.out _).mono ?_; rintro e w' ⟨rfl, rfl⟩) | (go_at_call 66; refine (HU.out _).mono ?_; rintro e w' ⟨rfl, rfl⟩))
  go_quiet ((go_at_call 60; exact Calls.quiet_of_same (HWr.out _)))
  have bA : Below X.heap.size X ((X.alloc (.cells #[.int .i64 lo, .int .i64 hi] 25)).drewN nq) := drewN_below (below_alloc _ _) nq
  have k0 : ((X.alloc (.cells #[.int .i64 lo, .int .i64 hi] 25)).drewN nq).cell? ⟨X.heap.size, 0, none⟩ = some (.int .i64 lo) := keepB (drewN_below (Below.refl (X.heap.size + 1) _) nq) (by omega) (alloc_new rfl rfl)
  have k1 : ((X.alloc (.cells #[.int .i64 lo, .int .i64 hi] 25)).drewN nq).cell? ⟨X.heap.size, 1, none⟩ = some (.int .i64 hi) := keepB (drewN_below (Below.refl (X.heap.size + 1) _) nq) (by omega) (alloc_new rfl rfl)
  obtain ⟨Y, hY⟩ : ∃ Y, Y = (X.alloc (.cells #[.int .i64 lo, .int .i64 hi] 25)).drewN nq := ⟨_, rfl⟩
  rw [← hY] at bA k0 k1 ⊢
  have r0 := keepB bA y0 r0
  have r1 := keepB bA y0 r1
  have f0 := keepF bA y0 f0
  have f1 := keepF bA y0 f1
  have bY := bX.trans (bA.mono bX.size)
  have y1 : w.heap.size < Y.heap.size := Nat.lt_of_lt_of_le y0 bA.size
  clear hY bA bX HA HD HU HWr
  go_wp2
  exact bodyPost_ret (v := .agg #[.int .i64 (m - 32768), .int .i64 (m - 32768 + hi - lo)]) (by simp [results, Try.results70, go_sem, set_same (i := 0) (v := .int .i64 (m - 32768)) r0, set_other (i := 1) (j := 0) (v := .int .i64 (m - 32768 + hi - lo)) (by decide) (set_same (i := 0) (v := .int .i64 (m - 32768)) r0), set_same (i := 1) (v := .int .i64 (m - 32768 + hi - lo)) (set_other (i := 0) (j := 1) (v := .int .i64 (m - 32768)) (by decide) r1), I5.out.1, I5.out.2]) rfl ⟨rfl, ((bY.setCell (p := ⟨w.heap.size, 0, none⟩) (by dsimp only; omega) _).setCell (p := ⟨w.heap.size, 1, none⟩) (by dsimp only; omega) _)⟩

end Go.Proofs.Ytmojnopgpgnfeaa

namespace Go.Proofs.Ytmojnopgpgnfeaa
open Go.RowKit
set_option linter.unusedVariables false
set_option linter.unusedSimpArgs false

/-- between two steps: the slices of both times, in their box -/
structure SpI (w W : World) (kd : Int) (pre : List (Bool × Int)) (v0 v1 : Value) : Prop where
  q0 : W.cell? ⟨w.heap.size + 1 + 1, 0, none⟩ = some v0
  q1 : W.cell? ⟨w.heap.size + 1 + 1, 1, none⟩ = some v1
  e0 : W.frozen? ⟨w.heap.size + 1 + 1, 0, none⟩ = false
  e1 : W.frozen? ⟨w.heap.size + 1 + 1, 1, none⟩ = false
  r0 : W.ownsRow (w.heap.size + 3) 3 1 v0 (valsB pre false).length ((valsB pre false).map (Value.int .i64))
  r1 : W.ownsRow (w.heap.size + 3) 3 1 v1 (valsB pre true).length ((valsB pre true).map (Value.int .i64))
  d : Apart v0 v1
  t : W.cell? ⟨w.heap.size, 1, none⟩ = some (.int .i64 kd)
  c0 : W.cell? ⟨w.heap.size + 1, 0, none⟩ = some (.slice none 0 0)
  c1 : W.cell? ⟨w.heap.size + 1, 1, none⟩ = some (.slice none 0 0)
  f0 : W.frozen? ⟨w.heap.size + 1, 0, none⟩ = false
  f1 : W.frozen? ⟨w.heap.size + 1, 1, none⟩ = false
  z : w.heap.size + 3 ≤ W.heap.size
  b : Below w.heap.size w W

theorem SpI.step0 {w W w1 : World} {kd : Int} {pre : List (Bool × Int)} {st : Int} {v0 v1 v' : Value} {tmp : Obj} (hI : SpI w W kd pre v0 v1) (hgrow : (W.alloc tmp).grownBy w1 v0.ownBlock) (hown : w1.ownsRow (w.heap.size + 3) 3 1 v' ((valsB pre false).length + 1) ((valsB pre false).map (Value.int .i64) ++ [.int .i64 st])) (hat : v'.ownBlock = v0.ownBlock ∨ v'.ownBlock = some (W.alloc tmp).heap.size) :
    Below (w.heap.size + 3) W w1 ∧ SpI w (w1.setCell ⟨w.heap.size + 1 + 1, 0, none⟩ v') kd (pre ++ [(false, st)]) v' v1 := by
  have hz := hI.z
  obtain ⟨g1, g2, _, g4⟩ := pair_grown hI.r0 hI.r1 hI.d.symm hz hgrow hown hat
  have e1 : valsB (pre ++ [(false, st)]) false = valsB pre false ++ [st] := valsB_hit pre st false
  have e2 : valsB (pre ++ [(false, st)]) true = valsB pre true := valsB_miss pre st (by decide)
  have hown' : w1.ownsRow (w.heap.size + 3) 3 1 v' (valsB (pre ++ [(false, st)]) false).length ((valsB (pre ++ [(false, st)]) false).map (Value.int .i64)) := by rw [e1]; simpa using hown
  have hr2 : w1.ownsRow (w.heap.size + 3) 3 1 v1 (valsB (pre ++ [(false, st)]) true).length ((valsB (pre ++ [(false, st)]) true).map (Value.int .i64)) := by rw [e2]; exact g1
  have k0 := keepB g4 (by omega) hI.q0
  have k1 := keepB g4 (by omega) hI.q1
  refine ⟨g4, set_same k0, set_other (by decide) k1, frz (keepF g4 (by omega) hI.e0), frz (keepF g4 (by omega) hI.e1), row_set (by omega) hown', row_set (by omega) hr2, g2.symm, cell_far (by omega) (keepB g4 (by omega) hI.t), cell_far (by omega) (keepB g4 (by omega) hI.c0), cell_far (by omega) (keepB g4 (by omega) hI.c1), frz (keepF g4 (by omega) hI.f0), frz (keepF g4 (by omega) hI.f1), ?_, (hI.b.trans (g4.mono (by omega))).setCell (p := ⟨w.heap.size + 1 + 1, 0, none⟩) (by dsimp only; omega) _⟩
  have := g4.size
  simp; omega

theorem SpI.step1 {w W w1 : World} {kd : Int} {pre : List (Bool × Int)} {st : Int} {v0 v1 v' : Value} {tmp : Obj} (hI : SpI w W kd pre v0 v1) (hgrow : (W.alloc tmp).grownBy w1 v1.ownBlock) (hown : w1.ownsRow (w.heap.size + 3) 3 1 v' ((valsB pre true).length + 1) ((valsB pre true).map (Value.int .i64) ++ [.int .i64 st])) (hat : v'.ownBlock = v1.ownBlock ∨ v'.ownBlock = some (W.alloc tmp).heap.size) :
    Below (w.heap.size + 3) W w1 ∧ SpI w (w1.setCell ⟨w.heap.size + 1 + 1, 1, none⟩ v') kd (pre ++ [(true, st)]) v0 v' := by
  have hz := hI.z
  obtain ⟨g1, g2, _, g4⟩ := pair_grown hI.r1 hI.r0 hI.d hz hgrow hown hat
  have e1 : valsB (pre ++ [(true, st)]) true = valsB pre true ++ [st] := valsB_hit pre st true
  have e2 : valsB (pre ++ [(true, st)]) false = valsB pre false := valsB_miss pre st (by decide)
  have hown' : w1.ownsRow (w.heap.size + 3) 3 1 v' (valsB (pre ++ [(true, st)]) true).length ((valsB (pre ++ [(true, st)]) true).map (Value.int .i64)) := by rw [e1]; simpa using hown
  have hr2 : w1.ownsRow (w.heap.size + 3) 3 1 v0 (valsB (pre ++ [(true, st)]) false).length ((valsB (pre ++ [(true, st)]) false).map (Value.int .i64)) := by rw [e2]; exact g1
  have k0 := keepB g4 (by omega) hI.q0
  have k1 := keepB g4 (by omega) hI.q1
  refine ⟨g4, set_other (by decide) k0, set_same k1, frz (keepF g4 (by omega) hI.e0), frz (keepF g4 (by omega) hI.e1), row_set (by omega) hr2, row_set (by omega) hown', g2, cell_far (by omega) (keepB g4 (by omega) hI.t), cell_far (by omega) (keepB g4 (by omega) hI.c0), cell_far (by omega) (keepB g4 (by omega) hI.c1), frz (keepF g4 (by omega) hI.f0), frz (keepF g4 (by omega) hI.f1), ?_, (hI.b.trans (g4.mono (by omega))).setCell (p := ⟨w.heap.size + 1 + 1, 1, none⟩) (by dsimp only; omega) _⟩
  have := g4.size
  simp; omega

theorem SpI.drewN {w W : World} {kd : Int} {pre : List (Bool × Int)} {v0 v1 : Value} (h : SpI w W kd pre v0 v1) (q : Nat) : SpI w (W.drewN q) kd pre v0 v1 := by
  have hb : Below W.heap.size W (W.drewN q) := drewN_below (Below.refl _ _) q
  have hz := h.z
  have hrow : ∀ {m : Nat} {v : Value} {xs : List Value}, W.ownsRow (w.heap.size + 3) 3 1 v m xs → (W.drewN q).ownsRow (w.heap.size + 3) 3 1 v m xs := fun h => h.kept (grown_below hb) (by
    rename_i v xs
    cases hv : v.ownBlock with
    | none => exact .inl rfl
    | some q => exact .inr (by simp))
  exact ⟨keepB hb (by omega) h.q0, keepB hb (by omega) h.q1, keepF hb (by omega) h.e0, keepF hb (by omega) h.e1, hrow h.r0, hrow h.r1, h.d, keepB hb (by omega) h.t, keepB hb (by omega) h.c0, keepB hb (by omega) h.c1, keepF hb (by omega) h.f0, keepF hb (by omega) h.f1, Nat.le_trans hz hb.size, h.b.trans (hb.mono h.b.size)⟩
theorem SpI.new (w : World) (l kd f s c : Int) : SpI w (((w.alloc (.cells #[.int .i64 l, .int .i64 kd, .int .i64 f, .int .i64 s, .int .i64 c] 34)).alloc (.cells #[.slice none 0 0, .slice none 0 0] 117)).alloc (.cells #[.slice none 0 0, .slice none 0 0] 117)) kd [] (.slice none 0 0) (.slice none 0 0) := by
  obtain ⟨A1, a1⟩ : ∃ A, A = w.alloc (.cells #[.int .i64 l, .int .i64 kd, .int .i64 f, .int .i64 s, .int .i64 c] 34) := ⟨_, rfl⟩
  obtain ⟨A2, a2⟩ : ∃ A, A = A1.alloc (.cells #[.slice none 0 0, .slice none 0 0] 117) := ⟨_, rfl⟩
  obtain ⟨A3, a3⟩ : ∃ A, A = A2.alloc (.cells #[.slice none 0 0, .slice none 0 0] 117) := ⟨_, rfl⟩
  have s1 : A1.heap.size = w.heap.size + 1 := by rw [a1]; exact World.size_alloc _ _
  have s2 : A2.heap.size = w.heap.size + 1 + 1 := by rw [a2, World.size_alloc, s1]
  have s3 : A3.heap.size = w.heap.size + 3 := by rw [a3, World.size_alloc, s2]
  rw [← a1, ← a2, ← a3]
  have b1 : Below w.heap.size w A1 := by rw [a1]; exact below_alloc _ _
  have b2 : Below A1.heap.size A1 A2 := by rw [a2]; exact below_alloc _ _
  have b3 : Below A2.heap.size A2 A3 := by rw [a3]; exact below_alloc _ _
  have c13 : Below A1.heap.size A1 A3 := b2.trans (b3.mono (by omega))
  exact ⟨by rw [a3, ← s2]; exact alloc_new rfl rfl, by rw [a3, ← s2]; exact alloc_new rfl rfl, by rw [a3, ← s2]; exact alloc_newF rfl, by rw [a3, ← s2]; exact alloc_newF rfl, World.ownsRow_nil _ _ _ _, World.ownsRow_nil _ _ _ _, fun k h => by simp [Value.ownBlock] at h, keepB c13 (by omega) (by rw [a1]; exact alloc_new rfl rfl), keepB b3 (by omega) (by rw [a2, ← s1]; exact alloc_new rfl rfl), keepB b3 (by omega) (by rw [a2, ← s1]; exact alloc_new rfl rfl), keepF b3 (by omega) (by rw [a2, ← s1]; exact alloc_newF rfl), keepF b3 (by omega) (by rw [a2, ← s1]; exact alloc_newF rfl), by omega, b1.trans (c13.mono (by omega))⟩
/-- what the reference's Steps returns -/
def StRet (w : World) (zs : Nat → Smp) (kd c : Int) (n : Nat) (e : Ending) (w' : World) : Prop := ∃ v0 v1, e = .returned (.agg #[v0, v1]) ∧ RowL (w.heap.size + 3) w' v0 (valsB (stpTo zs kd c (n - 1)) false) ∧ RowL (w.heap.size + 3) w' v1 (valsB (stpTo zs kd c (n - 1)) true) ∧ Below w.heap.size w w'

set_option maxRecDepth 100000 in
set_option maxHeartbeats 16000000 in
theorem Steps_any (l kd f s c : Int) (b off n cap : Nat) (zs : Nat → Smp) (w : World) (hkd : kd = 1 ∨ kd = 2 ∨ kd = 3) (hn1 : 2 ≤ n) (hn2 : n ≤ 64) (hnc : (n : Int) = c) (hc2 : kd = 2 → 4 ≤ c ∧ c ≤ 64 ∧ c % 2 = 0) (hb : b < w.heap.size) (hS : SmpsAt w b off n zs) (hP : ∀ i, i < n → 0 ≤ (zs i).p ∧ (zs i).p < 65536) :
    Calls Try.prog 68 #[.agg #[.int .i64 l, .int .i64 kd, .int .i64 f, .int .i64 s, .int .i64 c], .slice (some ⟨b, off, none⟩) n cap] w (StRet w zs kd c n) := by
  subst hnc
  have HS := Lib.hid hS
  have HP := Lib.hid hP
  clear hS hP
  obtain ⟨i0, hi, hz0, hz1, hz2⟩ := info_parts info3
  have hmaxl : maxLen = 9223372036854775807 := rfl
  have P0 := Lib.hid (SpI.new w l kd f s n)
  obtain ⟨U, hU⟩ : ∃ U, U = (((w.alloc (.cells #[.int .i64 l, .int .i64 kd, .int .i64 f, .int .i64 s, .int .i64 (n : Int)] 34)).alloc (.cells #[.slice none 0 0, .slice none 0 0] 117)).alloc (.cells #[.slice none 0 0, .slice none 0 0] 117)) := ⟨_, rfl⟩
  rw [← hU] at P0
  go_enter Try.func68, Try.ntmps68
  go_wp2_with fail
  rw [← hU]
  clear hU
  go_loopw [6] (fun v6 wr => ∃ k : Nat, k ≤ n - 1 ∧ v6 = .int .i64 k ∧ ∃ v0 v1, SpI w wr kd (stpTo zs kd n k) v0 v1) (fun v6 _ => n - (intOf v6).toNat)
  case atStart => exact ⟨0, Nat.zero_le _, rfl, _, _, P0.out⟩
  case round =>
    obtain ⟨k, hk, rfl, v0, v1, hI⟩ := hrel
    have HI := Lib.hid hI
    by_cases hlt : k < n - 1
    · have hbw := hI.b
      have hz := hI.z
      have hbr : b < wr.heap.size := Nat.lt_of_lt_of_le hb hbw.size
      have z0 := keepB hbw hb (HS.out.c1 k (by omega))
      have z1 := keepB hbw hb (HS.out.c1 (k + 1) (by omega))
      obtain ⟨p0, p1⟩ := HP.out k (by omega)
      obtain ⟨p2, p3⟩ := HP.out (k + 1) (by omega)
      obtain ⟨x, hx⟩ : ∃ x, x = (zs k).p := ⟨_, rfl⟩
      obtain ⟨y, hy⟩ : ∃ y, y = (zs (k + 1)).p := ⟨_, rfl⟩
      rw [← hx] at z0 p0 p1
      rw [← hy] at z1 p2 p3
      obtain ⟨st, hst⟩ : ∃ d, d = (y - x) % 65536 := ⟨_, rfl⟩
      have HW : Hid (∀ W : World, Calls Try.prog 60 #[.int .i64 (y - x)] W fun e w' => e = .returned (.int .i64 st) ∧ w' = W) := Lib.hid fun W => (Wrap_any (y - x) W (by omega) (by omega)).mono (by rintro e w' ⟨rfl, rfl⟩; exact ⟨by rw [hst], rfl⟩)
      have i1 : IntKind.i64.wrap (y - x) = y - x := IntWalk.i64_in _ (by omega)
      have i2 : IntKind.i64.wrap ((k : Int) + 1) = (k : Int) + 1 := IntWalk.i64_in _ (by omega)
      have i3 : 0 ≤ (k : Int) + 1 := by omega
      have i4 : ((k : Int) + 1).toNat = k + 1 := by omega
      have hs1 : stpTo zs kd n (k + 1) = stpTo zs kd n k ++ stp zs kd n k := rfl
      have hs2 : stp zs kd n k = if kd = 2 ∧ (k : Int) = (n : Int) / 2 - 1 then [] else [(tbB kd n k, st)] := by unfold stp; rw [← hx, ← hy, ← hst]
      have HS1 := Lib.hid (And.intro hs1 hs2)
      have d0 : decide ((k : Int) + 1 < (n : Int)) = true := decide_eq_true (by omega)
      obtain ⟨q0, q1, e0, e1, r0, r1, dd, t, c0, c1, f0, f1, _, _⟩ := hI
      clear hx hy hst hs1 hs2 hbw r0 r1 dd c0 c1 f0 f1
      go_wp2
      go_quiet ((go_at_call 60; exact Calls.quiet_of_same (HW.out _)))
      have HDD := Lib.hid (HI.out.drewN nq)
      obtain ⟨D, hD⟩ : ∃ D, D = wr.drewN nq := ⟨_, rfl⟩
      rw [← hD] at HDD ⊢
      clear hD q0 q1 e0 e1 t HI z0 z1
      obtain ⟨q0, q1, e0, e1, _, _, _, t, _, _, _, _, hz, _⟩ := HDD.out
      have l0 := valsB_len (stpTo zs kd n k) false
      have l1 := valsB_len (stpTo zs kd n k) true
      have l2 := stpTo_len zs kd n k
      rcases hkd with hk1 | hk2 | hk3
      · skip
        have HE := Lib.hid (show stpTo zs kd n (k + 1) = stpTo zs kd n k ++ [(false, st)] by rw [HS1.out.1, HS1.out.2, if_neg (by omega), show tbB kd n k = false by unfold tbB; rw [if_neg (by omega), if_neg (by omega)]])
        subst hk1
        go_wp2_with (at_builtin; refine wpList_append_own_at _ rfl _ _ 50 rfl (w.heap.size + 3) 3 i0 (.int .i64 0) 1 8 Try.underlying50 hi hz0 hz1 hz2 rfl (by decide) _ _ _ rfl (HDD.out.r0.alloc _) ⟨D.heap.size, 0, none⟩ 1 1 [.int .i64 st] rfl rfl (cell_one_new _ _ _) (by simp [Value.oneCell']) (by omega) (by omega) (by simp only [World.size_alloc]; omega) ?_; intro v' w1 hown hgrow _ hat; obtain ⟨g', cap', rfl⟩ := ownsRow_succ hown; have HG := HDD.out.step0 hgrow hown hat; obtain ⟨hb1, HG⟩ := HG; have HN := Lib.hid HG; have q0 := keepB hb1 (by omega) q0; have q1 := keepB hb1 (by omega) q1; have e0 := keepF hb1 (by omega) e0; have e1 := keepF hb1 (by omega) e1; have y1 : w.heap.size + 1 + 1 < w1.heap.size := (by have := hb1.size; omega); clear hb1 HG hown hgrow hat)
        go_roundw
        case rel => exact ⟨k + 1, by omega, by go_num, _, _, by rw [HE.out]; exact HN.out⟩
        case measure => simp [intOf]; omega
      · have hc := hc2 hk2
        by_cases g1 : (k : Int) + 1 < (n : Int) / 2
        · skip
          have d1 : decide ((k : Int) + 1 < (n : Int) / 2) = true := decide_eq_true (by omega)
          have HE := Lib.hid (show stpTo zs kd n (k + 1) = stpTo zs kd n k ++ [(false, st)] by rw [HS1.out.1, HS1.out.2, if_neg (by omega), show tbB kd n k = false by unfold tbB; rw [if_pos hk2, decide_eq_false (by omega)]])
          subst hk2
          go_wp2_with (at_builtin; refine wpList_append_own_at _ rfl _ _ 50 rfl (w.heap.size + 3) 3 i0 (.int .i64 0) 1 8 Try.underlying50 hi hz0 hz1 hz2 rfl (by decide) _ _ _ rfl (HDD.out.r0.alloc _) ⟨D.heap.size, 0, none⟩ 1 1 [.int .i64 st] rfl rfl (cell_one_new _ _ _) (by simp [Value.oneCell']) (by omega) (by omega) (by simp only [World.size_alloc]; omega) ?_; intro v' w1 hown hgrow _ hat; obtain ⟨g', cap', rfl⟩ := ownsRow_succ hown; have HG := HDD.out.step0 hgrow hown hat; obtain ⟨hb1, HG⟩ := HG; have HN := Lib.hid HG; have q0 := keepB hb1 (by omega) q0; have q1 := keepB hb1 (by omega) q1; have e0 := keepF hb1 (by omega) e0; have e1 := keepF hb1 (by omega) e1; have y1 : w.heap.size + 1 + 1 < w1.heap.size := (by have := hb1.size; omega); clear hb1 HG hown hgrow hat)
          go_roundw
          case rel => exact ⟨k + 1, by omega, by go_num, _, _, by rw [HE.out]; exact HN.out⟩
          case measure => simp [intOf]; omega
        by_cases g2 : (n : Int) / 2 ≤ (k : Int)
        · skip
          have d1 : decide ((k : Int) + 1 < (n : Int) / 2) = false := decide_eq_false (by omega)
          have d2 : decide ((n : Int) / 2 ≤ (k : Int)) = true := decide_eq_true (by omega)
          have HE := Lib.hid (show stpTo zs kd n (k + 1) = stpTo zs kd n k ++ [(true, st)] by rw [HS1.out.1, HS1.out.2, if_neg (by omega), show tbB kd n k = true by unfold tbB; rw [if_pos hk2, decide_eq_true (by omega)]])
          subst hk2
          go_wp2_with (at_builtin; refine wpList_append_own_at _ rfl _ _ 50 rfl (w.heap.size + 3) 3 i0 (.int .i64 0) 1 8 Try.underlying50 hi hz0 hz1 hz2 rfl (by decide) _ _ _ rfl (HDD.out.r1.alloc _) ⟨D.heap.size, 0, none⟩ 1 1 [.int .i64 st] rfl rfl (cell_one_new _ _ _) (by simp [Value.oneCell']) (by omega) (by omega) (by simp only [World.size_alloc]; omega) ?_; intro v' w1 hown hgrow _ hat; obtain ⟨g', cap', rfl⟩ := ownsRow_succ hown; have HG := HDD.out.step1 hgrow hown hat; obtain ⟨hb1, HG⟩ := HG; have HN := Lib.hid HG; have q0 := keepB hb1 (by omega) q0; have q1 := keepB hb1 (by omega) q1; have e0 := keepF hb1 (by omega) e0; have e1 := keepF hb1 (by omega) e1; have y1 : w.heap.size + 1 + 1 < w1.heap.size := (by have := hb1.size; omega); clear hb1 HG hown hgrow hat)
          go_roundw
          case rel => exact ⟨k + 1, by omega, by go_num, _, _, by rw [HE.out]; exact HN.out⟩
          case measure => simp [intOf]; omega
        · skip
          have d1 : decide ((k : Int) + 1 < (n : Int) / 2) = false := decide_eq_false (by omega)
          have d2 : decide ((n : Int) / 2 ≤ (k : Int)) = false := decide_eq_false (by omega)
          have HE := Lib.hid (show stpTo zs kd n (k + 1) = stpTo zs kd n k by rw [HS1.out.1, HS1.out.2, if_pos ⟨hk2, by omega⟩, List.append_nil])
          subst hk2
          go_wp2
          go_roundw
          case rel => exact ⟨k + 1, by omega, by go_num, _, _, by rw [HE.out]; exact HDD.out⟩
          case measure => simp [intOf]; omega
      · by_cases g1 : (k : Int) % 2 = 0
        · skip
          have d1 : ((k : Int) % 2 == 0) = true := beq_iff_eq.2 g1
          have HE := Lib.hid (show stpTo zs kd n (k + 1) = stpTo zs kd n k ++ [(false, st)] by rw [HS1.out.1, HS1.out.2, if_neg (by omega), show tbB kd n k = false by unfold tbB; rw [if_neg (by omega), if_pos hk3, decide_eq_false (by omega)]])
          subst hk3
          go_wp2_with (at_builtin; refine wpList_append_own_at _ rfl _ _ 50 rfl (w.heap.size + 3) 3 i0 (.int .i64 0) 1 8 Try.underlying50 hi hz0 hz1 hz2 rfl (by decide) _ _ _ rfl (HDD.out.r0.alloc _) ⟨D.heap.size, 0, none⟩ 1 1 [.int .i64 st] rfl rfl (cell_one_new _ _ _) (by simp [Value.oneCell']) (by omega) (by omega) (by simp only [World.size_alloc]; omega) ?_; intro v' w1 hown hgrow _ hat; obtain ⟨g', cap', rfl⟩ := ownsRow_succ hown; have HG := HDD.out.step0 hgrow hown hat; obtain ⟨hb1, HG⟩ := HG; have HN := Lib.hid HG; have q0 := keepB hb1 (by omega) q0; have q1 := keepB hb1 (by omega) q1; have e0 := keepF hb1 (by omega) e0; have e1 := keepF hb1 (by omega) e1; have y1 : w.heap.size + 1 + 1 < w1.heap.size := (by have := hb1.size; omega); clear hb1 HG hown hgrow hat)
          go_roundw
          case rel => exact ⟨k + 1, by omega, by go_num, _, _, by rw [HE.out]; exact HN.out⟩
          case measure => simp [intOf]; omega
        · skip
          have d1 : ((k : Int) % 2 == 0) = false := beq_eq_false_iff_ne.2 g1
          have HE := Lib.hid (show stpTo zs kd n (k + 1) = stpTo zs kd n k ++ [(true, st)] by rw [HS1.out.1, HS1.out.2, if_neg (by omega), show tbB kd n k = true by unfold tbB; rw [if_neg (by omega), if_pos hk3, decide_eq_true (by omega)]])
          subst hk3
          go_wp2_with (at_builtin; refine wpList_append_own_at _ rfl _ _ 50 rfl (w.heap.size + 3) 3 i0 (.int .i64 0) 1 8 Try.underlying50 hi hz0 hz1 hz2 rfl (by decide) _ _ _ rfl (HDD.out.r1.alloc _) ⟨D.heap.size, 0, none⟩ 1 1 [.int .i64 st] rfl rfl (cell_one_new _ _ _) (by simp [Value.oneCell']) (by omega) (by omega) (by simp only [World.size_alloc]; omega) ?_; intro v' w1 hown hgrow _ hat; obtain ⟨g', cap', rfl⟩ := ownsRow_succ hown; have HG := HDD.out.step1 hgrow hown hat; obtain ⟨hb1, HG⟩ := HG; have HN := Lib.hid HG; have q0 := keepB hb1 (by omega) q0; have q1 := keepB hb1 (by omega) q1; have e0 := keepF hb1 (by omega) e0; have e1 := keepF hb1 (by omega) e1; have y1 : w.heap.size + 1 + 1 < w1.heap.size := (by have := hb1.size; omega); clear hb1 HG hown hgrow hat)
          go_roundw
          case rel => exact ⟨k + 1, by omega, by go_num, _, _, by rw [HE.out]; exact HN.out⟩
          case measure => simp [intOf]; omega
    · have hkn : k = n - 1 := by omega
      subst hkn
      have H0 := Lib.hid (RowL.of hI.r0)
      have H1 := Lib.hid (RowL.of hI.r1)
      obtain ⟨q0, q1, e0, e1, _, _, _, t, c0, c1, f0, f1, hz, hbw⟩ := hI
      have i5 : ((n - 1 : Nat) : Int) + 1 = (n : Int) := by omega
      have d0 : decide ((n : Int) < (n : Int)) = false := decide_eq_false (by omega)
      clear hlt hk HI
      obtain ⟨a0, g0, u0⟩ := H0.out.ints.slice
      obtain ⟨a1, g1, u1⟩ := H1.out.ints.slice
      subst u0
      subst u1
      go_wp2
      exact bodyPost_ret (v := .agg #[(Value.slice a0 (valsB (stpTo zs kd n (n - 1)) false).length g0), (Value.slice a1 (valsB (stpTo zs kd n (n - 1)) true).length g1)]) (by simp [results, Try.results68, go_sem, set_same (i := 0) (v := (Value.slice a0 (valsB (stpTo zs kd n (n - 1)) false).length g0)) c0, set_other (i := 1) (j := 0) (v := (Value.slice a1 (valsB (stpTo zs kd n (n - 1)) true).length g1)) (by decide) (set_same (i := 0) (v := (Value.slice a0 (valsB (stpTo zs kd n (n - 1)) false).length g0)) c0), set_same (i := 1) (v := (Value.slice a1 (valsB (stpTo zs kd n (n - 1)) true).length g1)) (set_other (i := 0) (j := 1) (v := (Value.slice a0 (valsB (stpTo zs kd n (n - 1)) false).length g0)) (by decide) c1)]) rfl ⟨_, _, rfl, (H0.out.set (by omega)).set (by omega), (H1.out.set (by omega)).set (by omega), ((hbw.setCell (p := ⟨w.heap.size + 1, 0, none⟩) (by dsimp only; omega) _).setCell (p := ⟨w.heap.size + 1, 1, none⟩) (by dsimp only; omega) _)⟩


end Go.Proofs.Ytmojnopgpgnfeaa

namespace Go.Proofs.Ytmojnopgpgnfeaa
open Go.RowKit
set_option linter.unusedVariables false
set_option linter.unusedSimpArgs false

/-- squares of levels that are wrong by so much -/
def sqL (f : Nat → Int) (e : Int) (i : Nat) : Int := mg e (f i) * mg e (f i)
/-- boxes of the reference's power, and of its match -/
structure PwB (w W : World) (lv ph n0 n1 : Int) : Prop where
  c0 : W.cell? ⟨w.heap.size, 0, none⟩ = some (.int .i64 lv)
  c1 : W.cell? ⟨w.heap.size, 1, none⟩ = some (.int .i64 ph)
  c2 : W.cell? ⟨w.heap.size, 2, none⟩ = some (.int .i64 n0)
  c3 : W.cell? ⟨w.heap.size, 3, none⟩ = some (.int .i64 n1)
  r0 : W.cell? ⟨w.heap.size + 1, 0, none⟩ = some (.int .i64 0)
  r1 : W.cell? ⟨w.heap.size + 1, 1, none⟩ = some (.int .i64 0)
  f0 : W.frozen? ⟨w.heap.size + 1, 0, none⟩ = false
  f1 : W.frozen? ⟨w.heap.size + 1, 1, none⟩ = false
  z : w.heap.size + 2 ≤ W.heap.size
  b : Below w.heap.size w W
theorem PwB.keep {w W w1 : World} {lv ph n0 n1 : Int} (x : PwB w W lv ph n0 n1) (hb : Below W.heap.size W w1) : PwB w w1 lv ph n0 n1 :=
  ⟨keepW hb x.c0, keepW hb x.c1, keepW hb x.c2, keepW hb x.c3, keepW hb x.r0, keepW hb x.r1, keepF hb (by have := x.z; omega) x.f0, keepF hb (by have := x.z; omega) x.f1, Nat.le_trans x.z hb.size, x.b.trans (hb.mono x.b.size)⟩
theorem PwB.drewN {w W : World} {lv ph n0 n1 : Int} (x : PwB w W lv ph n0 n1) (q : Nat) : PwB w (W.drewN q) lv ph n0 n1 := x.keep (drewN_below (Below.refl _ _) q)
theorem PwB.new (w : World) (lv ph n0 n1 : Int) : PwB w ((w.alloc (.cells #[.int .i64 lv, .int .i64 ph, .int .i64 n0, .int .i64 n1] 37)).alloc (.cells #[.int .i64 0, .int .i64 0] 25)) lv ph n0 n1 := by
  obtain ⟨A1, e1⟩ : ∃ A, A = w.alloc (.cells #[.int .i64 lv, .int .i64 ph, .int .i64 n0, .int .i64 n1] 37) := ⟨_, rfl⟩
  obtain ⟨A2, e2⟩ : ∃ A, A = A1.alloc (.cells #[.int .i64 0, .int .i64 0] 25) := ⟨_, rfl⟩
  have s1 : A1.heap.size = w.heap.size + 1 := by rw [e1]; exact World.size_alloc _ _
  have s2 : A2.heap.size = w.heap.size + 2 := by rw [e2, World.size_alloc, s1]
  rw [← e1, ← e2]
  have b1 : Below w.heap.size w A1 := by rw [e1]; exact below_alloc _ _
  have b2 : Below A1.heap.size A1 A2 := by rw [e2]; exact below_alloc _ _
  exact ⟨keepB b2 (by omega) (by rw [e1]; exact alloc_new rfl rfl), keepB b2 (by omega) (by rw [e1]; exact alloc_new rfl rfl), keepB b2 (by omega) (by rw [e1]; exact alloc_new rfl rfl), keepB b2 (by omega) (by rw [e1]; exact alloc_new rfl rfl), by rw [e2, ← s1]; exact alloc_new rfl rfl, by rw [e2, ← s1]; exact alloc_new rfl rfl, by rw [e2, ← s1]; exact alloc_newF rfl, by rw [e2, ← s1]; exact alloc_newF rfl, by omega, b1.trans (b2.mono (by omega))⟩

set_option maxRecDepth 100000 in
set_option maxHeartbeats 8000000 in
theorem power_any (lv ph n0 n1 : Int) (b off n cap : Nat) (f : Nat → Int) (w : World) (h1 : 1 ≤ n) (hn : n ≤ 64) (hl : 0 ≤ lv ∧ lv ≤ 64) (hno : 0 ≤ n0 ∧ n0 ≤ n1 ∧ n1 ≤ 1048576) (hb : b < w.heap.size) (hc : ∀ j, j < n → w.cell? ⟨b, off + j, none⟩ = some (.int .i64 (f j))) (hf : ∀ j, j < n → 0 ≤ f j ∧ f j ≤ 1023) :
    Calls Try.prog 65 #[.agg #[.int .i64 lv, .int .i64 ph, .int .i64 n0, .int .i64 n1], .slice (some ⟨b, off, none⟩) n cap] w fun e w' => e = .returned (.agg #[.int .i64 (mx (sumF (sqL f (-lv)) n / n - n1)), .int .i64 (mx (-(-sumF (sqL f lv) n / n) - n0))]) ∧ Below w.heap.size w w' := by
  have HC := Lib.hid hc
  have HF := Lib.hid hf
  have HB1 := Lib.hid (show ∀ k, k ≤ n → 0 ≤ sumF (sqL f (-lv)) k ∧ sumF (sqL f (-lv)) k ≤ 1181569 * k from fun k hk => sumF_bd fun i hi => sq_bd (mg_bd (by omega) (hf i (by omega)).2) (mg_bd (by omega) (hf i (by omega)).2))
  have HB2 := Lib.hid (show ∀ k, k ≤ n → 0 ≤ sumF (sqL f lv) k ∧ sumF (sqL f lv) k ≤ 1181569 * k from fun k hk => sumF_bd fun i hi => sq_bd (mg_bd (by omega) (hf i (by omega)).2) (mg_bd (by omega) (hf i (by omega)).2))
  clear hc hf
  have P0 := Lib.hid (PwB.new w lv ph n0 n1)
  obtain ⟨U, hU⟩ : ∃ U, U = ((w.alloc (.cells #[.int .i64 lv, .int .i64 ph, .int .i64 n0, .int .i64 n1] 37)).alloc (.cells #[.int .i64 0, .int .i64 0] 25)) := ⟨_, rfl⟩
  rw [← hU] at P0
  go_enter Try.func65, Try.ntmps65
  go_wp2_with fail
  rw [← hU]
  clear hU
  go_loopw [5, 6, 7] (fun v5 v6 v7 wr => ∃ k : Nat, k ≤ n ∧ v7 = .int .i64 k ∧ v5 = .int .i64 (sumF (sqL f (-lv)) k) ∧ v6 = .int .i64 (sumF (sqL f lv) k) ∧ PwB w wr lv ph n0 n1) (fun _ _ v7 _ => n - (intOf v7).toNat)
  case atStart => exact ⟨0, Nat.zero_le _, rfl, rfl, rfl, P0.out⟩
  case round =>
    obtain ⟨k, hk, rfl, rfl, rfl, hP⟩ := hrel
    have HP := Lib.hid hP
    obtain ⟨c0, c1, c2, c3, r0, r1, g0, g1, hz, hbw⟩ := hP
    have b1 := HB1.out k hk
    have b2 := HB2.out k hk
    obtain ⟨S, hS⟩ : ∃ S, S = sumF (sqL f (-lv)) k := ⟨_, rfl⟩
    obtain ⟨T, hT⟩ : ∃ T, T = sumF (sqL f lv) k := ⟨_, rfl⟩
    rw [← hS] at b1 ⊢
    rw [← hT] at b2 ⊢
    by_cases hlt : k < n
    · have hbr : b < wr.heap.size := Nat.lt_of_lt_of_le hb hbw.size
      have z := keepB hbw hb (HC.out k hlt)
      have bf := HF.out k hlt
      obtain ⟨x, hx⟩ : ∃ x, x = f k := ⟨_, rfl⟩
      rw [← hx] at z bf
      obtain ⟨p, hp⟩ : ∃ p, p = mg (-lv) x := ⟨_, rfl⟩
      obtain ⟨q, hq⟩ : ∃ q, q = x + lv := ⟨_, rfl⟩
      have bp : 0 ≤ p ∧ p ≤ 1087 := by rw [hp]; exact mg_bd (by omega) (by omega)
      have bq : 0 ≤ q ∧ q ≤ 1087 := by omega
      have HN1 := Lib.hid (show sumF (sqL f (-lv)) (k + 1) = S + p * p by rw [sumF, ← hS]; show S + mg (-lv) (f k) * mg (-lv) (f k) = _; rw [← hx, ← hp])
      have HN2 := Lib.hid (show sumF (sqL f lv) (k + 1) = T + q * q by rw [sumF, ← hT]; show T + mg lv (f k) * mg lv (f k) = _; rw [← hx, hq, show mg lv x = x + lv by unfold mg mx; split <;> omega])
      have e1 : max 0 (x - lv) = p := by rw [hp]; unfold mg mx; split <;> omega
      have e2 : (if 0 < x - lv then x - lv else 0) = p := by rw [hp]; unfold mg mx; split <;> split <;> omega
      have e3 : x + lv = q := hq.symm
      have pp := sq_bd bp bp
      have qq := sq_bd bq bq
      have i0 : IntKind.i64.wrap (x - lv) = x - lv := IntWalk.i64_in _ (by omega)
      have i1 : IntKind.i64.wrap (x + lv) = q := by rw [e3]; exact IntWalk.i64_in _ (by omega)
      have i2 : IntKind.i64.wrap (p * p) = p * p := IntWalk.i64_in _ (by omega)
      have i3 : IntKind.i64.wrap (q * q) = q * q := IntWalk.i64_in _ (by omega)
      have i4 : IntKind.i64.wrap (S + p * p) = S + p * p := IntWalk.i64_in _ (by omega)
      have i5 : IntKind.i64.wrap (T + q * q) = T + q * q := IntWalk.i64_in _ (by omega)
      have i6 : IntKind.i64.wrap q = q := IntWalk.i64_in _ (by omega)
      clear hS hT hx hp hq hbw r0 r1 g0 g1
      go_wp2
      go_quiet (fail)
      go_wp2
      go_quiet (fail)
      go_wp2
      go_roundw
      case rel => exact ⟨k + 1, by omega, by go_num, by rw [HN1.out], by rw [HN2.out], HP.out.drewN _⟩
      case measure => simp [intOf]; omega
    · obtain rfl : n = k := by omega
      obtain ⟨lo, hlo⟩ : ∃ z, z = S / (n : Int) := ⟨_, rfl⟩
      obtain ⟨hi, hhi⟩ : ∃ z, z = -(-T / (n : Int)) := ⟨_, rfl⟩
      have HD : Hid (∀ W : World, Calls Try.prog 74 #[.int .i64 S, .int .i64 n] W fun e w' => e = .returned (.int .i64 lo) ∧ W = w') := Lib.hid fun W => by rw [hlo]; exact Down_any S n W (by omega) (by omega) (by omega)
      have HU : Hid (∀ W : World, Calls Try.prog 66 #[.int .i64 T, .int .i64 n] W fun e w' => e = .returned (.int .i64 hi) ∧ W = w') := Lib.hid fun W => by rw [hhi]; exact Up_any T n W (by omega) (by omega) (by omega)
      have bl := (div_bd b1.1 (show S ≤ 1000000000 by omega) (show (1 : Int) ≤ n by omega)).1
      have bh := (div_bd b2.1 (show T ≤ 1000000000 by omega) (show (1 : Int) ≤ n by omega)).2
      rw [← hlo] at bl
      rw [← hhi] at bh
      obtain ⟨u, hu⟩ : ∃ u, u = mx (lo - n1) := ⟨_, rfl⟩
      obtain ⟨v, hv⟩ : ∃ v, v = mx (hi - n0) := ⟨_, rfl⟩
      have HR := Lib.hid (show mx (sumF (sqL f (-lv)) n / n - n1) = u ∧ mx (-(-sumF (sqL f lv) n / n) - n0) = v by rw [← hS, ← hT, ← hlo, ← hhi, hu, hv]; exact ⟨rfl, rfl⟩)
      have e1 : max 0 (lo - n1) = u := by rw [hu]; unfold mx; split <;> omega
      have e2 : (if 0 < lo - n1 then lo - n1 else 0) = u := by rw [hu]; rfl
      have e3 : max 0 (hi - n0) = v := by rw [hv]; unfold mx; split <;> omega
      have e4 : (if 0 < hi - n0 then hi - n0 else 0) = v := by rw [hv]; rfl
      have i1 : IntKind.i64.wrap (lo - n1) = lo - n1 := IntWalk.i64_in _ (by omega)
      have i2 : IntKind.i64.wrap (hi - n0) = hi - n0 := IntWalk.i64_in _ (by omega)
      have HSS := Lib.hid (show (fun w' : World => w'.cell? ⟨w.heap.size, 0, none⟩ = some (.int .i64 lv) ∧ w'.cell? ⟨w.heap.size, 1, none⟩ = some (.int .i64 ph) ∧ w'.cell? ⟨w.heap.size, 2, none⟩ = some (.int .i64 n0) ∧ w'.cell? ⟨w.heap.size, 3, none⟩ = some (.int .i64 n1) ∧ Below wr.drew.heap.size wr.drew w') wr.drew from ⟨c0, c1, c2, c3, Below.refl _ _⟩)
      clear hS hT hlo hhi hu hv c0 c1 c2 c3 r0 r1 g0 g1 hbw hlt hk HB1 HB2 HC HF
      go_wp2_with fail
      refine wp_region_held_tail (S := (fun w' : World => w'.cell? ⟨w.heap.size, 0, none⟩ = some (.int .i64 lv) ∧ w'.cell? ⟨w.heap.size, 1, none⟩ = some (.int .i64 ph) ∧ w'.cell? ⟨w.heap.size, 2, none⟩ = some (.int .i64 n0) ∧ w'.cell? ⟨w.heap.size, 3, none⟩ = some (.int .i64 n1) ∧ Below wr.drew.heap.size wr.drew w')) 19 (by kernel_rfl) (by kernel_rfl) HSS.out (fun hHeld => ?_)
      refine wpAnyH_take (i := 0) (v := ?v0_1) rfl (by kernel_rfl) (by kernel_rfl) (by kernel_rfl) (fun _ _ _ h => h) (Or.inl ⟨by rfl, ?hy0_1⟩) (by assumption) ?rest0_1
      case hy0_1 => (intro w hSw; (try dsimp only at hSw); go_simp; (try with_reducible rfl))
      try simp only [Act.put, List.setIfInBounds_toArray, List.set_cons_zero, List.set_cons_succ]
      refine wpAnyH_take (i := 1) (v := ?v1_2) rfl (by kernel_rfl) (by kernel_rfl) (by kernel_rfl) (fun _ _ _ h => h) (Or.inl ⟨by rfl, ?hy1_2⟩) (by assumption) ?rest1_2
      case hy1_2 => (intro w hSw; (try dsimp only at hSw); go_simp; (try with_reducible rfl))
      try simp only [Act.put, List.setIfInBounds_toArray, List.set_cons_zero, List.set_cons_succ]
      refine wpAnyH_take (i := 2) (v := ?v2_3) rfl (by kernel_rfl) (by kernel_rfl) (by kernel_rfl) (fun _ _ _ h => h) (Or.inl ⟨by rfl, ?hy2_3⟩) (by assumption) ?rest2_3
      case hy2_3 => (intro w hSw; (try dsimp only at hSw); go_simp; (try with_reducible rfl))
      try simp only [Act.put, List.setIfInBounds_toArray, List.set_cons_zero, List.set_cons_succ]
      refine wpAnyH_take (i := 4) (v := ?v4_4) rfl (by kernel_rfl) (by kernel_rfl) (by kernel_rfl) (fun _ _ _ h => h) (Or.inl ⟨by rfl, ?hy4_4⟩) (by assumption) ?rest4_4
      case hy4_4 => (intro w hSw; (try dsimp only at hSw); go_simp; (try with_reducible rfl))
      try simp only [Act.put, List.setIfInBounds_toArray, List.set_cons_zero, List.set_cons_succ]
      refine wpAnyH_take (i := 5) (v := ?v5_5) rfl (by kernel_rfl) (by kernel_rfl) (by kernel_rfl) (fun _ _ _ h => h) (Or.inl ⟨by rfl, ?hy5_5⟩) (by assumption) ?rest5_5
      case hy5_5 => (intro w hSw; (try dsimp only at hSw); go_simp; (try with_reducible rfl))
      try simp only [Act.put, List.setIfInBounds_toArray, List.set_cons_zero, List.set_cons_succ]
      refine wpAnyH_take (i := 6) (v := ?v6_6) rfl (by kernel_rfl) (by kernel_rfl) (by kernel_rfl) (fun _ _ _ h => h) (Or.inl ⟨by rfl, ?hy6_6⟩) (by assumption) ?rest6_6
      case hy6_6 => (intro w hSw; (try dsimp only at hSw); go_simp; (try with_reducible rfl))
      try simp only [Act.put, List.setIfInBounds_toArray, List.set_cons_zero, List.set_cons_succ]
      refine wpAnyH_take (i := 9) (v := ?v9_7) rfl (by kernel_rfl) (by kernel_rfl) (by kernel_rfl) (fun _ _ _ h => h) (Or.inl ⟨by rfl, ?hy9_7⟩) (by assumption) ?rest9_7
      case hy9_7 => (intro w hSw; (try dsimp only at hSw); go_simp; (try with_reducible rfl))
      try simp only [Act.put, List.setIfInBounds_toArray, List.set_cons_zero, List.set_cons_succ]
      refine wpAnyH_take (i := 10) (v := ?v10_8) rfl (by kernel_rfl) (by kernel_rfl) (by kernel_rfl) (fun _ _ _ h => h) (Or.inl ⟨by rfl, ?hy10_8⟩) (by assumption) ?rest10_8
      case hy10_8 => (intro w hSw; (try dsimp only at hSw); go_simp; (try with_reducible rfl))
      try simp only [Act.put, List.setIfInBounds_toArray, List.set_cons_zero, List.set_cons_succ]
      refine wpAnyH_take (i := 11) (v := ?v11_9) rfl (by kernel_rfl) (by kernel_rfl) (by kernel_rfl) (fun _ _ _ h => h) (Or.inl ⟨by rfl, ?hy11_9⟩) (by assumption) ?rest11_9
      case hy11_9 => (intro w hSw; (try dsimp only at hSw); go_simp; (try with_reducible rfl))
      try simp only [Act.put, List.setIfInBounds_toArray, List.set_cons_zero, List.set_cons_succ]
      refine wpAnyH_take (i := 13) (v := ?v13_10) rfl (by kernel_rfl) (by kernel_rfl) (by kernel_rfl) (fun _ _ _ h => h) (Or.inl ⟨by rfl, ?hy13_10⟩) (by assumption) ?rest13_10
      case hy13_10 => (intro w hSw; (try dsimp only at hSw); go_simp; (try with_reducible rfl))
      try simp only [Act.put, List.setIfInBounds_toArray, List.set_cons_zero, List.set_cons_succ]
      refine wpAnyH_take (i := 14) (v := ?v14_11) rfl (by kernel_rfl) (by kernel_rfl) (by kernel_rfl) (fun _ _ _ h => h) (Or.inl ⟨by rfl, ?hy14_11⟩) (by assumption) ?rest14_11
      case hy14_11 => (intro w hSw; (try dsimp only at hSw); go_simp; (try with_reducible rfl))
      try simp only [Act.put, List.setIfInBounds_toArray, List.set_cons_zero, List.set_cons_succ]
      refine wpAnyH_take (i := 15) (v := ?v15_12) rfl (by kernel_rfl) (by kernel_rfl) (by kernel_rfl) (fun _ _ _ h => h) (Or.inl ⟨by rfl, ?hy15_12⟩) (by assumption) ?rest15_12
      case hy15_12 => (intro w hSw; (try dsimp only at hSw); go_simp; (try with_reducible rfl))
      try simp only [Act.put, List.setIfInBounds_toArray, List.set_cons_zero, List.set_cons_succ]
      refine wpAnyH_ready (rs := [3]) (by kernel_rfl) (by simp) ?_
      refine AllReadyH.cons rfl (fun K hK => ?_) AllReadyH.nil
      go_simp; refine (HD.out _).mono ?_; rintro e' w' ⟨rfl, rfl⟩
      refine hK.out _ _ hHeld (fun hHeld => ?_)
      clear hK K
      try simp only [Act.put, List.setIfInBounds_toArray, List.set_cons_zero, List.set_cons_succ]
      refine wpAnyH_take (i := 7) (v := ?v7_13) rfl (by kernel_rfl) (by kernel_rfl) (by kernel_rfl) (fun _ _ _ h => h) (Or.inl ⟨by rfl, ?hy7_13⟩) (by assumption) ?rest7_13
      case hy7_13 => (intro w hSw; (try dsimp only at hSw); go_simp; (try with_reducible rfl))
      try simp only [Act.put, List.setIfInBounds_toArray, List.set_cons_zero, List.set_cons_succ]
      refine wpAnyH_take (i := 8) (v := ?v8_14) rfl (by kernel_rfl) (by kernel_rfl) (by kernel_rfl) (fun _ _ _ h => h) (Or.inl ⟨by rfl, ?hy8_14⟩) (by assumption) ?rest8_14
      case hy8_14 => (intro w hSw; (try dsimp only at hSw); go_simp; (try with_reducible rfl))
      try simp only [Act.put, List.setIfInBounds_toArray, List.set_cons_zero, List.set_cons_succ]
      refine wpAnyH_ready (rs := [12]) (by kernel_rfl) (by simp) ?_
      refine AllReadyH.cons rfl (fun K hK => ?_) AllReadyH.nil
      go_simp; refine (HU.out _).mono ?_; rintro e' w' ⟨rfl, rfl⟩
      refine hK.out _ _ hHeld (fun hHeld => ?_)
      clear hK K
      try simp only [Act.put, List.setIfInBounds_toArray, List.set_cons_zero, List.set_cons_succ]
      refine wpAnyH_take (i := 16) (v := ?v16_15) rfl (by kernel_rfl) (by kernel_rfl) (by kernel_rfl) (fun _ _ _ h => h) (Or.inl ⟨by rfl, ?hy16_15⟩) (by assumption) ?rest16_15
      case hy16_15 => (intro w hSw; (try dsimp only at hSw); go_simp; (try with_reducible rfl))
      try simp only [Act.put, List.setIfInBounds_toArray, List.set_cons_zero, List.set_cons_succ]
      refine wpAnyH_take (i := 17) (v := ?v17_16) rfl (by kernel_rfl) (by kernel_rfl) (by kernel_rfl) (fun _ _ _ h => h) (Or.inl ⟨by rfl, ?hy17_16⟩) (by assumption) ?rest17_16
      case hy17_16 => (intro w hSw; (try dsimp only at hSw); go_simp; (try with_reducible rfl))
      try simp only [Act.put, List.setIfInBounds_toArray, List.set_cons_zero, List.set_cons_succ]
      refine wpAnyH_take (i := 18) (v := ?v18_17) rfl (by kernel_rfl) (by kernel_rfl) (by kernel_rfl) (fun _ _ _ h => h) (Or.inl ⟨by rfl, ?hy18_17⟩) (by assumption) ?rest18_17
      case hy18_17 => (intro w hSw; (try dsimp only at hSw); go_simp; (try with_reducible rfl))
      try simp only [Act.put, List.setIfInBounds_toArray, List.set_cons_zero, List.set_cons_succ]
      refine wpAnyH_done (by kernel_rfl) ?_ _
      change wpList _ _ _ _ _ _
      simp only [List.drop_succ_cons, List.drop_zero]
      have PD := HP.out.keep (Below.refl wr.heap.size wr).drew
      clear hHeld HSS HP
      generalize wr.drew = D at PD ⊢
      obtain ⟨_, _, _, _, r0, r1, g0, g1, hz, hbD⟩ := PD
      go_wp2
      exact bodyPost_ret (v := .agg #[.int .i64 u, .int .i64 v]) (by simp [results, Try.results65, go_sem, set_same (i := 0) (v := .int .i64 u) r0, set_other (i := 1) (j := 0) (v := .int .i64 v) (by decide) (set_same (i := 0) (v := .int .i64 u) r0), set_same (i := 1) (v := .int .i64 v) (set_other (i := 0) (j := 1) (v := .int .i64 u) (by decide) r1)]) rfl ⟨(by rw [HR.out.1, HR.out.2]), ((hbD.setCell (p := ⟨w.heap.size + 1, 0, none⟩) (by dsimp only; omega) _).setCell (p := ⟨w.heap.size + 1, 1, none⟩) (by dsimp only; omega) _)⟩

end Go.Proofs.Ytmojnopgpgnfeaa

namespace Go.Proofs.Ytmojnopgpgnfeaa
open Go.RowKit
set_option linter.unusedVariables false
set_option linter.unusedSimpArgs false

/-- products of levels that are wrong by so much -/
def prL (f g : Nat → Int) (e : Int) (i : Nat) : Int := mg e (f i) * mg e (g i)

set_option maxRecDepth 100000 in
set_option maxHeartbeats 16000000 in
theorem refmatch_any (lv ph n0 n1 : Int) (b off n cap b' off' cap' : Nat) (f g : Nat → Int) (w : World) (h1 : 1 ≤ n) (hn : n ≤ 64) (hl : 0 ≤ lv ∧ lv ≤ 64) (hb : b < w.heap.size) (hc : ∀ j, j < n → w.cell? ⟨b, off + j, none⟩ = some (.int .i64 (f j))) (hf : ∀ j, j < n → 0 ≤ f j ∧ f j ≤ 1023) (hb' : b' < w.heap.size) (hc' : ∀ j, j < n → w.cell? ⟨b', off' + j, none⟩ = some (.int .i64 (g j))) (hg : ∀ j, j < n → 0 ≤ g j ∧ g j ≤ 1023) :
    Calls Try.prog 67 #[.agg #[.int .i64 lv, .int .i64 ph, .int .i64 n0, .int .i64 n1], .slice (some ⟨b, off, none⟩) n cap, .slice (some ⟨b', off', none⟩) n cap'] w fun e w' => e = .returned (.agg #[.int .i64 (matLo (sumF (prL f g (-lv)) n) (sumF (sqL f lv) n) (sumF (sqL g lv) n)), .int .i64 (matHi (sumF (prL f g lv) n) (sumF (sqL f (-lv)) n) (sumF (sqL g (-lv)) n))]) ∧ Below w.heap.size w w' := by
  have HC := Lib.hid hc
  have HF := Lib.hid hf
  have HC' := Lib.hid hc'
  have HG := Lib.hid hg
  have HBA := Lib.hid (show ∀ k, k ≤ n → 0 ≤ sumF (prL f g (-lv)) k ∧ sumF (prL f g (-lv)) k ≤ 1181569 * k from fun k hk => sumF_bd fun i hi => sq_bd (mg_bd (by omega) (hf i (by omega)).2) (mg_bd (by omega) (hg i (by omega)).2))
  have HBB := Lib.hid (show ∀ k, k ≤ n → 0 ≤ sumF (prL f g lv) k ∧ sumF (prL f g lv) k ≤ 1181569 * k from fun k hk => sumF_bd fun i hi => sq_bd (mg_bd (by omega) (hf i (by omega)).2) (mg_bd (by omega) (hg i (by omega)).2))
  have HBC := Lib.hid (show ∀ k, k ≤ n → 0 ≤ sumF (sqL f (-lv)) k ∧ sumF (sqL f (-lv)) k ≤ 1181569 * k from fun k hk => sumF_bd fun i hi => sq_bd (mg_bd (by omega) (hf i (by omega)).2) (mg_bd (by omega) (hf i (by omega)).2))
  have HBD := Lib.hid (show ∀ k, k ≤ n → 0 ≤ sumF (sqL g (-lv)) k ∧ sumF (sqL g (-lv)) k ≤ 1181569 * k from fun k hk => sumF_bd fun i hi => sq_bd (mg_bd (by omega) (hg i (by omega)).2) (mg_bd (by omega) (hg i (by omega)).2))
  have HBE := Lib.hid (show ∀ k, k ≤ n → 0 ≤ sumF (sqL f lv) k ∧ sumF (sqL f lv) k ≤ 1181569 * k from fun k hk => sumF_bd fun i hi => sq_bd (mg_bd (by omega) (hf i (by omega)).2) (mg_bd (by omega) (hf i (by omega)).2))
  have HBF := Lib.hid (show ∀ k, k ≤ n → 0 ≤ sumF (sqL g lv) k ∧ sumF (sqL g lv) k ≤ 1181569 * k from fun k hk => sumF_bd fun i hi => sq_bd (mg_bd (by omega) (hg i (by omega)).2) (mg_bd (by omega) (hg i (by omega)).2))
  clear hc hf hc' hg
  have P0 := Lib.hid (PwB.new w lv ph n0 n1)
  obtain ⟨U, hU⟩ : ∃ U, U = ((w.alloc (.cells #[.int .i64 lv, .int .i64 ph, .int .i64 n0, .int .i64 n1] 37)).alloc (.cells #[.int .i64 0, .int .i64 0] 25)) := ⟨_, rfl⟩
  rw [← hU] at P0
  go_enter Try.func67, Try.ntmps67
  go_wp2_with fail
  rw [← hU]
  clear hU
  go_loopw [7, 8, 9, 10, 11, 12, 13] (fun v7 v8 v9 v10 v11 v12 v13 wr => ∃ k : Nat, k ≤ n ∧ v13 = .int .i64 k ∧ v7 = .int .i64 (sumF (prL f g (-lv)) k) ∧ v8 = .int .i64 (sumF (prL f g lv) k) ∧ v9 = .int .i64 (sumF (sqL f (-lv)) k) ∧ v10 = .int .i64 (sumF (sqL g (-lv)) k) ∧ v11 = .int .i64 (sumF (sqL f lv) k) ∧ v12 = .int .i64 (sumF (sqL g lv) k) ∧ PwB w wr lv ph n0 n1) (fun _ _ _ _ _ _ v13 _ => n - (intOf v13).toNat)
  case atStart => exact ⟨0, Nat.zero_le _, rfl, rfl, rfl, rfl, rfl, rfl, rfl, P0.out⟩
  case round =>
    obtain ⟨k, hk, rfl, rfl, rfl, rfl, rfl, rfl, rfl, hP⟩ := hrel
    have HP := Lib.hid hP
    obtain ⟨c0, c1, c2, c3, r0, r1, g0, g1, hz, hbw⟩ := hP
    have bA := HBA.out k hk
    obtain ⟨A, hA⟩ : ∃ x, x = sumF (prL f g (-lv)) k := ⟨_, rfl⟩
    rw [← hA] at bA ⊢
    have bB := HBB.out k hk
    obtain ⟨B, hB⟩ : ∃ x, x = sumF (prL f g lv) k := ⟨_, rfl⟩
    rw [← hB] at bB ⊢
    have bC := HBC.out k hk
    obtain ⟨C, hC⟩ : ∃ x, x = sumF (sqL f (-lv)) k := ⟨_, rfl⟩
    rw [← hC] at bC ⊢
    have bD := HBD.out k hk
    obtain ⟨D, hD⟩ : ∃ x, x = sumF (sqL g (-lv)) k := ⟨_, rfl⟩
    rw [← hD] at bD ⊢
    have bE := HBE.out k hk
    obtain ⟨E, hE⟩ : ∃ x, x = sumF (sqL f lv) k := ⟨_, rfl⟩
    rw [← hE] at bE ⊢
    have bF := HBF.out k hk
    obtain ⟨F, hF⟩ : ∃ x, x = sumF (sqL g lv) k := ⟨_, rfl⟩
    rw [← hF] at bF ⊢
    by_cases hlt : k < n
    · have hbr : b < wr.heap.size := Nat.lt_of_lt_of_le hb hbw.size
      have hbr' : b' < wr.heap.size := Nat.lt_of_lt_of_le hb' hbw.size
      have z := keepB hbw hb (HC.out k hlt)
      have z' := keepB hbw hb' (HC'.out k hlt)
      have bf := HF.out k hlt
      have bg := HG.out k hlt
      obtain ⟨x, hx⟩ : ∃ x, x = f k := ⟨_, rfl⟩
      obtain ⟨y, hy⟩ : ∃ y, y = g k := ⟨_, rfl⟩
      rw [← hx] at z bf
      rw [← hy] at z' bg
      obtain ⟨p, hp⟩ : ∃ p, p = mg (-lv) x := ⟨_, rfl⟩
      obtain ⟨q, hq⟩ : ∃ q, q = mg (-lv) y := ⟨_, rfl⟩
      obtain ⟨r, hr⟩ : ∃ r, r = x + lv := ⟨_, rfl⟩
      obtain ⟨s, hs⟩ : ∃ s, s = y + lv := ⟨_, rfl⟩
      have bp : 0 ≤ p ∧ p ≤ 1087 := by rw [hp]; exact mg_bd (by omega) (by omega)
      have bq : 0 ≤ q ∧ q ≤ 1087 := by rw [hq]; exact mg_bd (by omega) (by omega)
      have br : 0 ≤ r ∧ r ≤ 1087 := by omega
      have bs : 0 ≤ s ∧ s ≤ 1087 := by omega
      have er : mg lv x = r := by unfold mg mx; split <;> omega
      have es : mg lv y = s := by unfold mg mx; split <;> omega
      have HNA := Lib.hid (show sumF (prL f g (-lv)) (k + 1) = A + p * q by rw [sumF, ← hA]; show A + mg (-lv) (f k) * mg (-lv) (g k) = _; rw [← hx, ← hy, ← hp, ← hq])
      have HNB := Lib.hid (show sumF (prL f g lv) (k + 1) = B + r * s by rw [sumF, ← hB]; show B + mg lv (f k) * mg lv (g k) = _; rw [← hx, ← hy, er, es])
      have HNC := Lib.hid (show sumF (sqL f (-lv)) (k + 1) = C + p * p by rw [sumF, ← hC]; show C + mg (-lv) (f k) * mg (-lv) (f k) = _; rw [← hx, ← hp])
      have HND := Lib.hid (show sumF (sqL g (-lv)) (k + 1) = D + q * q by rw [sumF, ← hD]; show D + mg (-lv) (g k) * mg (-lv) (g k) = _; rw [← hy, ← hq])
      have HNE := Lib.hid (show sumF (sqL f lv) (k + 1) = E + r * r by rw [sumF, ← hE]; show E + mg lv (f k) * mg lv (f k) = _; rw [← hx, er])
      have HNF := Lib.hid (show sumF (sqL g lv) (k + 1) = F + s * s by rw [sumF, ← hF]; show F + mg lv (g k) * mg lv (g k) = _; rw [← hy, es])
      have e1 : max 0 (x - lv) = p := by rw [hp]; unfold mg mx; split <;> omega
      have e2 : (if 0 < x - lv then x - lv else 0) = p := by rw [hp]; unfold mg mx; split <;> split <;> omega
      have e3 : max 0 (y - lv) = q := by rw [hq]; unfold mg mx; split <;> omega
      have e4 : (if 0 < y - lv then y - lv else 0) = q := by rw [hq]; unfold mg mx; split <;> split <;> omega
      have e5 : x + lv = r := hr.symm
      have e6 : y + lv = s := hs.symm
      have p1 := sq_bd bp bq
      have p2 := sq_bd br bs
      have p3 := sq_bd bp bp
      have p4 := sq_bd bq bq
      have p5 := sq_bd br br
      have p6 := sq_bd bs bs
      have i0 : IntKind.i64.wrap (x - lv) = x - lv := IntWalk.i64_in _ (by omega)
      have i1 : IntKind.i64.wrap (y - lv) = y - lv := IntWalk.i64_in _ (by omega)
      have i2 : IntKind.i64.wrap r = r := IntWalk.i64_in _ (by omega)
      have i3 : IntKind.i64.wrap s = s := IntWalk.i64_in _ (by omega)
      have j0 : IntKind.i64.wrap (p * q) = p * q := IntWalk.i64_in _ (by omega)
      have k0 : IntKind.i64.wrap (A + p * q) = A + p * q := IntWalk.i64_in _ (by omega)
      have j1 : IntKind.i64.wrap (r * s) = r * s := IntWalk.i64_in _ (by omega)
      have k1 : IntKind.i64.wrap (B + r * s) = B + r * s := IntWalk.i64_in _ (by omega)
      have j2 : IntKind.i64.wrap (p * p) = p * p := IntWalk.i64_in _ (by omega)
      have k2 : IntKind.i64.wrap (C + p * p) = C + p * p := IntWalk.i64_in _ (by omega)
      have j3 : IntKind.i64.wrap (q * q) = q * q := IntWalk.i64_in _ (by omega)
      have k3 : IntKind.i64.wrap (D + q * q) = D + q * q := IntWalk.i64_in _ (by omega)
      have j4 : IntKind.i64.wrap (r * r) = r * r := IntWalk.i64_in _ (by omega)
      have k4 : IntKind.i64.wrap (E + r * r) = E + r * r := IntWalk.i64_in _ (by omega)
      have j5 : IntKind.i64.wrap (s * s) = s * s := IntWalk.i64_in _ (by omega)
      have k5 : IntKind.i64.wrap (F + s * s) = F + s * s := IntWalk.i64_in _ (by omega)
      clear hA hB hC hD hE hF hx hy hp hq hr hs hbw r0 r1 g0 g1 er es
      go_wp2
      go_quiet (fail)
      go_wp2
      go_quiet (fail)
      go_wp2
      go_roundw
      case rel => exact ⟨k + 1, by omega, by go_num, by rw [HNA.out], by rw [HNB.out], by rw [HNC.out], by rw [HND.out], by rw [HNE.out], by rw [HNF.out], HP.out.drewN _⟩
      case measure => simp [intOf]; omega
    · obtain rfl : n = k := by omega
      obtain ⟨lo, hlo⟩ : ∃ z, z = matLo A E F := ⟨_, rfl⟩
      obtain ⟨hi, hhi⟩ : ∃ z, z = matHi B C D := ⟨_, rfl⟩
      have HR := Lib.hid (show matLo (sumF (prL f g (-lv)) n) (sumF (sqL f lv) n) (sumF (sqL g lv) n) = lo ∧ matHi (sumF (prL f g lv) n) (sumF (sqL f (-lv)) n) (sumF (sqL g (-lv)) n) = hi by rw [← hA, ← hB, ← hC, ← hD, ← hE, ← hF, hlo, hhi]; exact ⟨rfl, rfl⟩)
      clear hA hB hC hD hE hF
      have hA8 : 0 ≤ A ∧ A ≤ 80000000 := by omega
      have hB8 : 0 ≤ B ∧ B ≤ 80000000 := by omega
      have qA := sq18 hA8
      have qB := sq18 hB8
      have qEF := sq_bd (m := 80000000) (show 0 ≤ E ∧ E ≤ 80000000 by omega) (show 0 ≤ F ∧ F ≤ 80000000 by omega)
      have qCD := sq_bd (m := 80000000) (show 0 ≤ C ∧ C ≤ 80000000 by omega) (show 0 ≤ D ∧ D ≤ 80000000 by omega)
      obtain ⟨P, hPP⟩ : ∃ z, z = 1000 * A * A := ⟨_, rfl⟩
      obtain ⟨Q, hQQ⟩ : ∃ z, z = 1000 * B * B := ⟨_, rfl⟩
      obtain ⟨X, hXX⟩ : ∃ z, z = E * F := ⟨_, rfl⟩
      obtain ⟨Y, hYY⟩ : ∃ z, z = C * D := ⟨_, rfl⟩
      have m1 : 1000 * A * A = P := hPP.symm
      have m2 : 1000 * B * B = Q := hQQ.symm
      have m3 : E * F = X := hXX.symm
      have m4 : C * D = Y := hYY.symm
      rw [m1] at qA
      rw [m2] at qB
      rw [m3] at qEF
      rw [m4] at qCD
      have i1 : IntKind.i64.wrap (1000 * A) = 1000 * A := IntWalk.i64_in _ (by omega)
      have i2 : IntKind.i64.wrap (1000 * B) = 1000 * B := IntWalk.i64_in _ (by omega)
      have i3 : IntKind.i64.wrap P = P := IntWalk.i64_in _ (by omega)
      have i4 : IntKind.i64.wrap Q = Q := IntWalk.i64_in _ (by omega)
      have i5 : IntKind.i64.wrap X = X := IntWalk.i64_in _ (by omega)
      have i6 : IntKind.i64.wrap Y = Y := IntWalk.i64_in _ (by omega)
      have HX1 := Lib.hid (And.intro hPP (And.intro hQQ (And.intro hXX hYY)))
      clear hPP hQQ hXX hYY hlt hk HBA HBB HBC HBD HBE HBF HC HF HC' HG hA8 hB8
      by_cases d1 : 0 < X
      · by_cases d2 : 0 < Y
        · skip
          have g1' : decide (0 < X) = true := decide_eq_true d1
          have gz : (X == 0) = false := beq_eq_false_iff_ne.2 (by omega)
          have gz2 : ¬ X = 0 := by omega
          have hl1 : lo = P / X := by rw [hlo, HX1.out.1, HX1.out.2.2.1]; unfold matLo; rw [if_pos (by rw [← HX1.out.2.2.1]; exact d1)]
          have t2 : P / X = lo := hl1.symm
          have t1 : P.tdiv X = lo := by rw [Int.tdiv_eq_ediv_of_nonneg (by omega)]; exact t2
          have bl : 0 ≤ lo ∧ lo ≤ 6400000000000000000 := by rw [hl1]; exact ⟨Int.ediv_nonneg (by omega) (by omega), Int.le_trans (Int.ediv_le_self _ (by omega)) (by omega)⟩
          have i7 : IntKind.i64.wrap lo = lo := IntWalk.i64_in _ (by omega)
          clear hl1 hlo
          have g2' : decide (0 < Y) = true := decide_eq_true d2
          obtain ⟨up, hup⟩ : ∃ z, z = -(-Q / Y) := ⟨_, rfl⟩
          have hh1 : hi = mn 1000 up := by rw [hhi, hup, HX1.out.2.1, HX1.out.2.2.2]; unfold matHi; rw [if_pos (by rw [← HX1.out.2.2.2]; exact d2)]
          have HU : Hid (∀ W : World, Calls Try.prog 66 #[.int .i64 Q, .int .i64 Y] W fun e w' => e = .returned (.int .i64 up) ∧ W = w') := Lib.hid fun W => by rw [hup]; exact Up_big Q Y W (by omega) (by omega) (by omega)
          have u1 : min 1000 up = hi := by rw [hh1]; unfold mn; split <;> omega
          have u2 : (if up < 1000 then up else 1000) = hi := by rw [hh1]; rfl
          clear hh1 hhi hup
          have bA : Below wr.heap.size wr (wr.alloc (.cells #[.int .i64 lo, .int .i64 hi] 25)) := below_alloc _ _
          have r0' : (wr.alloc (.cells #[.int .i64 lo, .int .i64 hi] 25)).cell? ⟨w.heap.size + 1, 0, none⟩ = some (.int .i64 0) := keepB bA (by omega) r0
          have r1' : (wr.alloc (.cells #[.int .i64 lo, .int .i64 hi] 25)).cell? ⟨w.heap.size + 1, 1, none⟩ = some (.int .i64 0) := keepB bA (by omega) r1
          have fz0 : (wr.alloc (.cells #[.int .i64 lo, .int .i64 hi] 25)).frozen? ⟨w.heap.size + 1, 0, none⟩ = false := keepF bA (by omega) g0
          have fz1 : (wr.alloc (.cells #[.int .i64 lo, .int .i64 hi] 25)).frozen? ⟨w.heap.size + 1, 1, none⟩ = false := keepF bA (by omega) g1
          have bW := hbw.trans (bA.mono hbw.size)
          clear bA d1 d2
          go_wp2_with (go_at_call 66; refine (HU.out _).mono ?_; rintro e w' ⟨rfl, rfl⟩)
          exact bodyPost_ret (v := .agg #[.int .i64 lo, .int .i64 hi]) (by simp [results, Try.results67, go_sem, set_same (i := 0) (v := .int .i64 lo) r0', set_other (i := 1) (j := 0) (v := .int .i64 hi) (by decide) (set_same (i := 0) (v := .int .i64 lo) r0'), set_same (i := 1) (v := .int .i64 hi) (set_other (i := 0) (j := 1) (v := .int .i64 lo) (by decide) r1')]) rfl ⟨(by rw [HR.out.1, HR.out.2]), ((bW.setCell (p := ⟨w.heap.size + 1, 0, none⟩) (by dsimp only; omega) _).setCell (p := ⟨w.heap.size + 1, 1, none⟩) (by dsimp only; omega) _)⟩
        · skip
          have g1' : decide (0 < X) = true := decide_eq_true d1
          have gz : (X == 0) = false := beq_eq_false_iff_ne.2 (by omega)
          have gz2 : ¬ X = 0 := by omega
          have hl1 : lo = P / X := by rw [hlo, HX1.out.1, HX1.out.2.2.1]; unfold matLo; rw [if_pos (by rw [← HX1.out.2.2.1]; exact d1)]
          have t2 : P / X = lo := hl1.symm
          have t1 : P.tdiv X = lo := by rw [Int.tdiv_eq_ediv_of_nonneg (by omega)]; exact t2
          have bl : 0 ≤ lo ∧ lo ≤ 6400000000000000000 := by rw [hl1]; exact ⟨Int.ediv_nonneg (by omega) (by omega), Int.le_trans (Int.ediv_le_self _ (by omega)) (by omega)⟩
          have i7 : IntKind.i64.wrap lo = lo := IntWalk.i64_in _ (by omega)
          clear hl1 hlo
          have g2' : decide (0 < Y) = false := decide_eq_false d2
          have hh1 : hi = 1000 := by rw [hhi]; unfold matHi; rw [if_neg (by rw [← HX1.out.2.2.2]; exact d2)]
          clear hhi
          subst hh1
          have bA : Below wr.heap.size wr (wr.alloc (.cells #[.int .i64 lo, .int .i64 1000] 25)) := below_alloc _ _
          have r0' : (wr.alloc (.cells #[.int .i64 lo, .int .i64 1000] 25)).cell? ⟨w.heap.size + 1, 0, none⟩ = some (.int .i64 0) := keepB bA (by omega) r0
          have r1' : (wr.alloc (.cells #[.int .i64 lo, .int .i64 1000] 25)).cell? ⟨w.heap.size + 1, 1, none⟩ = some (.int .i64 0) := keepB bA (by omega) r1
          have fz0 : (wr.alloc (.cells #[.int .i64 lo, .int .i64 1000] 25)).frozen? ⟨w.heap.size + 1, 0, none⟩ = false := keepF bA (by omega) g0
          have fz1 : (wr.alloc (.cells #[.int .i64 lo, .int .i64 1000] 25)).frozen? ⟨w.heap.size + 1, 1, none⟩ = false := keepF bA (by omega) g1
          have bW := hbw.trans (bA.mono hbw.size)
          clear bA d1 d2
          go_wp2
          exact bodyPost_ret (v := .agg #[.int .i64 lo, .int .i64 1000]) (by simp [results, Try.results67, go_sem, set_same (i := 0) (v := .int .i64 lo) r0', set_other (i := 1) (j := 0) (v := .int .i64 1000) (by decide) (set_same (i := 0) (v := .int .i64 lo) r0'), set_same (i := 1) (v := .int .i64 1000) (set_other (i := 0) (j := 1) (v := .int .i64 lo) (by decide) r1')]) rfl ⟨(by rw [HR.out.1, HR.out.2]), ((bW.setCell (p := ⟨w.heap.size + 1, 0, none⟩) (by dsimp only; omega) _).setCell (p := ⟨w.heap.size + 1, 1, none⟩) (by dsimp only; omega) _)⟩
      · by_cases d2 : 0 < Y
        · skip
          have g1' : decide (0 < X) = false := decide_eq_false d1
          have hl1 : lo = 0 := by rw [hlo]; unfold matLo; rw [if_neg (by rw [← HX1.out.2.2.1]; exact d1)]
          clear hlo
          subst hl1
          have g2' : decide (0 < Y) = true := decide_eq_true d2
          obtain ⟨up, hup⟩ : ∃ z, z = -(-Q / Y) := ⟨_, rfl⟩
          have hh1 : hi = mn 1000 up := by rw [hhi, hup, HX1.out.2.1, HX1.out.2.2.2]; unfold matHi; rw [if_pos (by rw [← HX1.out.2.2.2]; exact d2)]
          have HU : Hid (∀ W : World, Calls Try.prog 66 #[.int .i64 Q, .int .i64 Y] W fun e w' => e = .returned (.int .i64 up) ∧ W = w') := Lib.hid fun W => by rw [hup]; exact Up_big Q Y W (by omega) (by omega) (by omega)
          have u1 : min 1000 up = hi := by rw [hh1]; unfold mn; split <;> omega
          have u2 : (if up < 1000 then up else 1000) = hi := by rw [hh1]; rfl
          clear hh1 hhi hup
          have bA : Below wr.heap.size wr (wr.alloc (.cells #[.int .i64 0, .int .i64 hi] 25)) := below_alloc _ _
          have r0' : (wr.alloc (.cells #[.int .i64 0, .int .i64 hi] 25)).cell? ⟨w.heap.size + 1, 0, none⟩ = some (.int .i64 0) := keepB bA (by omega) r0
          have r1' : (wr.alloc (.cells #[.int .i64 0, .int .i64 hi] 25)).cell? ⟨w.heap.size + 1, 1, none⟩ = some (.int .i64 0) := keepB bA (by omega) r1
          have fz0 : (wr.alloc (.cells #[.int .i64 0, .int .i64 hi] 25)).frozen? ⟨w.heap.size + 1, 0, none⟩ = false := keepF bA (by omega) g0
          have fz1 : (wr.alloc (.cells #[.int .i64 0, .int .i64 hi] 25)).frozen? ⟨w.heap.size + 1, 1, none⟩ = false := keepF bA (by omega) g1
          have bW := hbw.trans (bA.mono hbw.size)
          clear bA d1 d2
          go_wp2_with (go_at_call 66; refine (HU.out _).mono ?_; rintro e w' ⟨rfl, rfl⟩)
          exact bodyPost_ret (v := .agg #[.int .i64 0, .int .i64 hi]) (by simp [results, Try.results67, go_sem, set_same (i := 0) (v := .int .i64 0) r0', set_other (i := 1) (j := 0) (v := .int .i64 hi) (by decide) (set_same (i := 0) (v := .int .i64 0) r0'), set_same (i := 1) (v := .int .i64 hi) (set_other (i := 0) (j := 1) (v := .int .i64 0) (by decide) r1')]) rfl ⟨(by rw [HR.out.1, HR.out.2]), ((bW.setCell (p := ⟨w.heap.size + 1, 0, none⟩) (by dsimp only; omega) _).setCell (p := ⟨w.heap.size + 1, 1, none⟩) (by dsimp only; omega) _)⟩
        · skip
          have g1' : decide (0 < X) = false := decide_eq_false d1
          have hl1 : lo = 0 := by rw [hlo]; unfold matLo; rw [if_neg (by rw [← HX1.out.2.2.1]; exact d1)]
          clear hlo
          subst hl1
          have g2' : decide (0 < Y) = false := decide_eq_false d2
          have hh1 : hi = 1000 := by rw [hhi]; unfold matHi; rw [if_neg (by rw [← HX1.out.2.2.2]; exact d2)]
          clear hhi
          subst hh1
          have bA : Below wr.heap.size wr (wr.alloc (.cells #[.int .i64 0, .int .i64 1000] 25)) := below_alloc _ _
          have r0' : (wr.alloc (.cells #[.int .i64 0, .int .i64 1000] 25)).cell? ⟨w.heap.size + 1, 0, none⟩ = some (.int .i64 0) := keepB bA (by omega) r0
          have r1' : (wr.alloc (.cells #[.int .i64 0, .int .i64 1000] 25)).cell? ⟨w.heap.size + 1, 1, none⟩ = some (.int .i64 0) := keepB bA (by omega) r1
          have fz0 : (wr.alloc (.cells #[.int .i64 0, .int .i64 1000] 25)).frozen? ⟨w.heap.size + 1, 0, none⟩ = false := keepF bA (by omega) g0
          have fz1 : (wr.alloc (.cells #[.int .i64 0, .int .i64 1000] 25)).frozen? ⟨w.heap.size + 1, 1, none⟩ = false := keepF bA (by omega) g1
          have bW := hbw.trans (bA.mono hbw.size)
          clear bA d1 d2
          go_wp2
          exact bodyPost_ret (v := .agg #[.int .i64 0, .int .i64 1000]) (by simp [results, Try.results67, go_sem, set_same (i := 0) (v := .int .i64 0) r0', set_other (i := 1) (j := 0) (v := .int .i64 1000) (by decide) (set_same (i := 0) (v := .int .i64 0) r0'), set_same (i := 1) (v := .int .i64 1000) (set_other (i := 0) (j := 1) (v := .int .i64 0) (by decide) r1')]) rfl ⟨(by rw [HR.out.1, HR.out.2]), ((bW.setCell (p := ⟨w.heap.size + 1, 0, none⟩) (by dsimp only; omega) _).setCell (p := ⟨w.heap.size + 1, 1, none⟩) (by dsimp only; omega) _)⟩

end Go.Proofs.Ytmojnopgpgnfeaa
