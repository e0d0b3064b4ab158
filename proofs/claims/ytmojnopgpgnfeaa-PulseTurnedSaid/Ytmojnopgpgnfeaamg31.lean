/-
  What lesser errors make of sums, ratios and matches: plain mathematics.
-/
import Derived.Test.Ytmojnopgpgnfeaamg3
import Derived.Test.Ytmojnopgpgnfeaamg13
import Derived.Test.Ytmojnopgpgnfeaamg6
import Derived.Test.Ytmojnopgpgnfeaamg18
import Derived.Test.Ytmojnopgpgnfeaamg14
namespace Go.Proofs.Ytmojnopgpgnfeaa
set_option linter.unusedVariables false

theorem amgm {X Y Z : Int} (hx : 0 ≤ X) (hy : 0 ≤ Y) (h : Z * Z ≤ X * Y) : 2 * Z ≤ X + Y := by
  refine Int.not_lt.1 fun h2 => ?_
  have h3 : (X + Y) * (X + Y) < (2 * Z) * (2 * Z) := Int.mul_self_lt_mul_self (by omega) h2
  have h4 : 0 ≤ (X - Y) * (X - Y) := by
    by_cases c : X ≤ Y
    · have := Int.mul_nonneg (show 0 ≤ Y - X by omega) (show 0 ≤ Y - X by omega); grind
    · exact Int.mul_nonneg (by omega) (by omega)
  grind
theorem cs_step {A B C a b : Int} (hA : 0 ≤ A) (hB : 0 ≤ B) (ha : 0 ≤ a) (hb : 0 ≤ b) (h : C * C ≤ A * B) : (C + a * b) * (C + a * b) ≤ (A + a * a) * (B + b * b) := by
  have h1 : 0 ≤ A * (b * b) := Int.mul_nonneg hA (Int.mul_nonneg hb hb)
  have h2 : 0 ≤ B * (a * a) := Int.mul_nonneg hB (Int.mul_nonneg ha ha)
  have h3 : (C * (a * b)) * (C * (a * b)) ≤ (A * (b * b)) * (B * (a * a)) := by
    have := Int.mul_le_mul_of_nonneg_right h (Int.mul_nonneg (Int.mul_nonneg ha hb) (Int.mul_nonneg ha hb))
    grind
  have h4 := amgm h1 h2 h3
  grind
theorem div_mono {a a' b b' : Int} (h0 : 0 ≤ a) (h1 : a ≤ a') (h2 : 0 < b') (h3 : b' ≤ b) : a / b ≤ a' / b' := by
  refine Int.le_ediv_of_mul_le h2 ?_
  have q0 : 0 ≤ a / b := Int.ediv_nonneg h0 (by omega)
  have q1 : a / b * b ≤ a := Int.ediv_mul_le a (by omega)
  have q2 := Int.mul_le_mul_of_nonneg_left h3 q0
  omega
theorem up_mono {a a' b b' : Int} (h0 : 0 ≤ a) (h1 : a ≤ a') (h2 : 0 < b') (h3 : b' ≤ b) : -(-a / b) ≤ -(-a' / b') := by
  have : -a' / b' ≤ -a / b := by
    refine Int.le_ediv_of_mul_le (by omega) ?_
    have q1 : -a' / b' * b' ≤ -a' := Int.ediv_mul_le _ (by omega)
    have q0 : -a' / b' ≤ 0 := by
      have : 0 ≤ -(-a' / b') := by
        have := Int.ediv_mul_le (-a') (show b' ≠ 0 by omega)
        refine Int.not_lt.1 fun h => ?_
        have h5 : 1 ≤ -a' / b' := by omega
        have := Int.mul_le_mul_of_nonneg_right h5 (show 0 ≤ b' by omega)
        omega
      omega
    have q2 := Int.mul_le_mul_of_nonneg_left h3 (show 0 ≤ -(-a' / b') by omega)
    have e1 : -(-a' / b') * b' = -(-a' / b' * b') := Int.neg_mul ..
    have e2 : -(-a' / b') * b = -(-a' / b' * b) := Int.neg_mul ..
    omega
  omega
theorem down_up {a b : Int} (h : 0 < b) : a / b ≤ -(-a / b) := by
  have h1 := Int.ediv_mul_le a (show b ≠ 0 by omega)
  have h2 := Int.ediv_mul_le (-a) (show b ≠ 0 by omega)
  refine Int.not_lt.1 fun h3 => ?_
  have h4 : 1 ≤ a / b + -a / b := by omega
  have h5 := Int.mul_le_mul_of_nonneg_right h4 (show 0 ≤ b by omega)
  have e : (a / b + -a / b) * b = a / b * b + -a / b * b := Int.add_mul ..
  omega
theorem up_nonneg {a b : Int} (h0 : 0 ≤ a) (h : 0 < b) : 0 ≤ -(-a / b) := by
  have := down_up (a := a) h
  have := Int.ediv_nonneg h0 (show 0 ≤ b by omega)
  omega
theorem div_le_of {a b m : Int} (hb : 0 < b) (h : a ≤ m * b) : a / b ≤ m := by
  have h1 := Int.ediv_mul_le a (show b ≠ 0 by omega)
  refine Int.not_lt.1 fun h3 => ?_
  have h5 := Int.mul_le_mul_of_nonneg_right (show m + 1 ≤ a / b by omega) (show 0 ≤ b by omega)
  have e : (m + 1) * b = m * b + b := by rw [Int.add_mul, Int.one_mul]
  omega
theorem sq_le {a b : Int} (h0 : 0 ≤ a) (h : a ≤ b) : a * a ≤ b * b := Int.mul_le_mul h h h0 (by omega)
theorem sq_pos0 {a : Int} (h0 : 0 ≤ a) (h : a * a ≤ 0) : a = 0 := by
  refine Int.le_antisymm (Int.not_lt.1 fun h2 => ?_) h0
  have := Int.mul_pos h2 h2
  omega
/-- a number between others, less its quotient's whole part -/
theorem unw_move {x y : Int} (h : -65536 ≤ x - y ∧ x - y ≤ 65536) : ∃ k : Int, -1 ≤ k ∧ k ≤ 1 ∧ ((x + 32768) % 65536 - 32768) + k * 65536 - ((y + 32768) % 65536 - 32768) = x - y := by
  refine ⟨(x + 32768) / 65536 - (y + 32768) / 65536, ?_, ?_, ?_⟩ <;> omega

theorem sumF_nn {f : Nat → Int} : ∀ {k : Nat}, (∀ i, i < k → 0 ≤ f i) → 0 ≤ sumF f k
  | 0, _ => by simp [sumF]
  | k + 1, h => by
    have h1 := sumF_nn (k := k) fun i hi => h i (by omega)
    have h2 := h k (by omega)
    rw [sumF]; omega
theorem sumF_mono {f g : Nat → Int} : ∀ {k : Nat}, (∀ i, i < k → f i ≤ g i) → sumF f k ≤ sumF g k
  | 0, _ => by simp [sumF]
  | k + 1, h => by
    have h1 := sumF_mono (k := k) fun i hi => h i (by omega)
    have h2 := h k (by omega)
    rw [sumF, sumF]; omega
theorem mx_nn (x : Int) : 0 ≤ mx x := by unfold mx; split <;> omega
theorem mx_mono {x y : Int} (h : x ≤ y) : mx x ≤ mx y := by unfold mx; split <;> split <;> omega
theorem mn_mono {m x y : Int} (h : x ≤ y) : mn m x ≤ mn m y := by unfold mn; split <;> split <;> omega
theorem mn_bd {m x : Int} (h : 0 ≤ x) (hm : 0 ≤ m) : 0 ≤ mn m x ∧ mn m x ≤ m := by unfold mn; split <;> omega
theorem cs_sum (zs : Nat → Smp) (e : Int) : ∀ n, sumF (prd zs e) n * sumF (prd zs e) n ≤ sumF (sqH zs e) n * sumF (sqV zs e) n
  | 0 => by simp [sumF]
  | n + 1 => by
    have h := cs_sum zs e n
    have a0 : 0 ≤ mg e (zs n).h := mx_nn _
    have b0 : 0 ≤ mg e (zs n).v := mx_nn _
    have hA : 0 ≤ sumF (sqH zs e) n := sumF_nn fun i _ => Int.mul_nonneg (mx_nn _) (mx_nn _)
    have hB : 0 ≤ sumF (sqV zs e) n := sumF_nn fun i _ => Int.mul_nonneg (mx_nn _) (mx_nn _)
    rw [sumF, sumF, sumF]
    exact cs_step hA hB a0 b0 h
/-- what the sums of one train, least and greatest, are to those of a wider one -/
structure Sums (A B C D E F : Int) : Prop where
  a : 0 ≤ A ∧ A ≤ D
  b : 0 ≤ B ∧ B ≤ E
  c : 0 ≤ C ∧ C ≤ F
  s : C * C ≤ A * B
  t : F * F ≤ D * E
theorem Sums.of {zs : Nat → Smp} {lv : Int} {n : Nat} (h0 : 0 ≤ lv) : Sums (sumF (sqH zs (-lv)) n) (sumF (sqV zs (-lv)) n) (sumF (prd zs (-lv)) n) (sumF (sqH zs lv) n) (sumF (sqV zs lv) n) (sumF (prd zs lv) n) := by
  have m : ∀ x : Int, mg (-lv) x ≤ mg lv x := fun x => mx_mono (by omega)
  exact ⟨⟨sumF_nn fun i _ => Int.mul_nonneg (mx_nn _) (mx_nn _), sumF_mono fun i _ => sq_le (mx_nn _) (m _)⟩,
    ⟨sumF_nn fun i _ => Int.mul_nonneg (mx_nn _) (mx_nn _), sumF_mono fun i _ => sq_le (mx_nn _) (m _)⟩,
    ⟨sumF_nn fun i _ => Int.mul_nonneg (mx_nn _) (mx_nn _), sumF_mono fun i _ => Int.mul_le_mul (m _) (m _) (mx_nn _) (mx_nn _)⟩, cs_sum zs (-lv) n, cs_sum zs lv n⟩
theorem prod_zero {A B C : Int} (hC : 0 ≤ C) (h : C * C ≤ A * B) (h0 : ¬ 0 < A * B) : C = 0 := sq_pos0 hC (by omega)
theorem matLo_bd {A B C D E F : Int} (s : Sums A B C D E F) : 0 ≤ matLo C D E ∧ matLo C D E ≤ 1000 := by
  unfold matLo
  split
  · rename_i h
    have h1 : C * C ≤ D * E := Int.le_trans s.s (Int.mul_le_mul s.a.2 s.b.2 s.b.1 (by have := s.a; omega))
    have h2 := Int.mul_nonneg s.c.1 s.c.1
    have e : 1000 * C * C = 1000 * (C * C) := Int.mul_assoc ..
    exact ⟨Int.ediv_nonneg (by omega) (by omega), div_le_of h (by omega)⟩
  · omega
theorem matHi_bd {A B C D E F : Int} (s : Sums A B C D E F) : 0 ≤ matHi F A B ∧ matHi F A B ≤ 1000 := by
  unfold matHi
  split
  · rename_i h
    have hF : 0 ≤ F := by have := s.c; omega
    have h2 := Int.mul_nonneg hF hF
    have e : 1000 * F * F = 1000 * (F * F) := Int.mul_assoc ..
    exact mn_bd (up_nonneg (by omega) h) (by decide)
  · omega
theorem mat_le {A B C D E F : Int} (s : Sums A B C D E F) : matLo C D E ≤ matHi F A B := by
  have hb := matLo_bd s
  have hF : 0 ≤ F := by have := s.c; omega
  have hDE : A * B ≤ D * E := Int.mul_le_mul s.a.2 s.b.2 s.b.1 (by have := s.a; omega)
  by_cases h : 0 < A * B
  · unfold matHi
    rw [if_pos h]
    have h1 : matLo C D E ≤ -(-(1000 * F * F) / (A * B)) := by
      unfold matLo
      rw [if_pos (by omega)]
      have c2 := sq_le s.c.1 s.c.2
      have c0 := Int.mul_nonneg s.c.1 s.c.1
      have e1 : 1000 * C * C = 1000 * (C * C) := Int.mul_assoc ..
      have e2 : 1000 * F * F = 1000 * (F * F) := Int.mul_assoc ..
      have := down_up (a := 1000 * C * C) (show 0 < D * E by omega)
      have := up_mono (a := 1000 * C * C) (a' := 1000 * F * F) (b := D * E) (b' := A * B) (by omega) (by omega) h hDE
      omega
    unfold mn; split <;> omega
  · unfold matHi
    rw [if_neg h]; omega
/-- the sums of one train lie between those of another one -/
structure Nest (A B C D E F A' B' C' D' E' F' : Int) : Prop where
  x : Sums A' B' C' D' E' F'
  y : Sums A B C D E F
  a : A ≤ A' ∧ D' ≤ D
  b : B ≤ B' ∧ E' ≤ E
  c : C ≤ C' ∧ F' ≤ F
theorem matLo_nest {A B C D E F A' B' C' D' E' F' : Int} (s : Nest A B C D E F A' B' C' D' E' F') : matLo C D E ≤ matLo C' D' E' := by
  have hD : 0 ≤ D' := by have := s.x.a; omega
  have hE : 0 ≤ E' := by have := s.x.b; omega
  have hDE : D' * E' ≤ D * E := Int.mul_le_mul s.a.2 s.b.2 hE (by have := s.a; omega)
  by_cases h : 0 < D' * E'
  · unfold matLo
    rw [if_pos h, if_pos (by omega)]
    have c2 := sq_le s.y.c.1 s.c.1
    have c0 := Int.mul_nonneg s.y.c.1 s.y.c.1
    have e1 : 1000 * C * C = 1000 * (C * C) := Int.mul_assoc ..
    have e2 : 1000 * C' * C' = 1000 * (C' * C') := Int.mul_assoc ..
    exact div_mono (by omega) (by omega) h hDE
  · have h1 : C' * C' ≤ D' * E' := Int.le_trans s.x.s (Int.mul_le_mul s.x.a.2 s.x.b.2 s.x.b.1 hD)
    have hC' := prod_zero s.x.c.1 h1 h
    have hC : C = 0 := by have := s.c; have := s.y.c; omega
    subst hC
    have : matLo 0 D E = 0 := by unfold matLo; split <;> simp
    rw [this]; exact (matLo_bd s.x).1
theorem matHi_nest {A B C D E F A' B' C' D' E' F' : Int} (s : Nest A B C D E F A' B' C' D' E' F') : matHi F' A' B' ≤ matHi F A B := by
  by_cases h : 0 < A * B
  · have hAB : A * B ≤ A' * B' := Int.mul_le_mul s.a.1 s.b.1 s.y.b.1 (by have := s.x.a; omega)
    unfold matHi
    rw [if_pos h, if_pos (by omega)]
    have hF : 0 ≤ F' := by have := s.x.c; omega
    have c2 := sq_le hF s.c.2
    have c0 := Int.mul_nonneg hF hF
    have e1 : 1000 * F' * F' = 1000 * (F' * F') := Int.mul_assoc ..
    have e2 : 1000 * F * F = 1000 * (F * F) := Int.mul_assoc ..
    exact mn_mono (up_mono (by omega) (by omega) h hAB)
  · have e : matHi F A B = 1000 := by unfold matHi; rw [if_neg h]
    rw [e]; exact (matHi_bd s.x).2

/-- powers of two channels, the weakest and the strongest -/
structure Pows (a b c d : Int) : Prop where
  a : 0 < a ∧ a ≤ c
  b : 0 ≤ b ∧ b ≤ d
theorem rat_ok {a b c d : Int} (h : Pows a b c d) : 0 ≤ ratLo b c ∧ ratLo b c ≤ ratHi d a ∧ ratHi d a ≤ 1000000 := by
  have ha := h.a
  have hb := h.b
  unfold ratLo ratHi
  have q1 := Int.ediv_nonneg (show 0 ≤ 1000 * b by omega) (show 0 ≤ c by omega)
  have q2 := down_up (a := 1000 * b) (show 0 < c by omega)
  have q3 := up_mono (a := 1000 * b) (a' := 1000 * d) (b := c) (b' := a) (by omega) (by omega) ha.1 ha.2
  have m1 := mn_bd (m := 1000000) q1 (by decide)
  have m2 := mn_mono (m := 1000000) (show 1000 * b / c ≤ -(-(1000 * d) / a) by omega)
  have m3 := mn_bd (m := 1000000) (show 0 ≤ -(-(1000 * d) / a) by omega) (by decide)
  omega
theorem rat_nest {a b c d a' b' c' d' : Int} (x : Pows a' b' c' d') (y : Pows a b c d) (ha : a ≤ a' ∧ c' ≤ c) (hb : b ≤ b' ∧ d' ≤ d) : ratLo b c ≤ ratLo b' c' ∧ ratHi d' a' ≤ ratHi d a := by
  have xa := x.a
  have xb := x.b
  have ya := y.a
  have yb := y.b
  unfold ratLo ratHi
  exact ⟨mn_mono (div_mono (by omega) (by omega) (by omega) ha.2), mn_mono (up_mono (by omega) (by omega) ya.1 ha.1)⟩
/-- a power: least and greatest -/
theorem pow_nest {S T S' T' c n0 n1 n0' n1' : Int} (hc : 1 ≤ c) (h0 : 0 ≤ S) (h1 : S ≤ S') (h2 : S' ≤ T') (h3 : T' ≤ T) (m1 : n0 ≤ n0') (m2 : n0' ≤ n1') (m3 : n1' ≤ n1) :
    0 ≤ mx (S / c - n1) ∧ mx (S / c - n1) ≤ mx (S' / c - n1') ∧ mx (S' / c - n1') ≤ mx (-(-T' / c) - n0') ∧ mx (-(-T' / c) - n0') ≤ mx (-(-T / c) - n0) := by
  have q1 := div_mono h0 h1 (show 0 < c by omega) (Int.le_refl c)
  have q2 := down_up (a := S') (show 0 < c by omega)
  have q3 := up_mono (a := S') (a' := T') (b := c) (b' := c) (by omega) h2 (by omega) (Int.le_refl c)
  have q4 := up_mono (a := T') (a' := T) (b := c) (b' := c) (by omega) h3 (by omega) (Int.le_refl c)
  exact ⟨mx_nn _, mx_mono (by omega), mx_mono (by omega), mx_mono (by omega)⟩
end Go.Proofs.Ytmojnopgpgnfeaa

namespace Go.Proofs.Ytmojnopgpgnfeaa
open Go.RowKit
set_option linter.unusedVariables false
set_option linter.unusedSimpArgs false

def liesB (a b c d : Int) : Bool := decide (a ≤ b) && decide (c ≤ a) && decide (b ≤ d)
theorem liesB_true {a b c d : Int} : liesB a b c d = true ↔ a ≤ b ∧ c ≤ a ∧ b ≤ d := by unfold liesB; simp [and_assoc]
set_option maxHeartbeats 800000 in
theorem lies_any (a b c d : Int) (w : World) :
    Calls Try.prog 43 #[.agg #[.int .i64 a, .int .i64 b], .agg #[.int .i64 c, .int .i64 d]] w fun e w' => e = .returned (.bool (liesB a b c d)) ∧ Below w.heap.size w w' := by
  by_cases h1 : a ≤ b
  · by_cases h2 : c ≤ a
    · have e : liesB a b c d = decide (b ≤ d) := by unfold liesB; rw [decide_eq_true h1, decide_eq_true h2]; simp
      rw [e]; clear e
      have d1 : decide (a ≤ b) = true := decide_eq_true h1
      have d2 : decide (c ≤ a) = true := decide_eq_true h2
      clear h1 h2
      go_enter Try.func43, Try.ntmps43
      go_wp2
      go_ret
      exact ⟨rfl, by repeat (first | exact Below.refl _ _ | (refine Below.alloc ?_ (by first | (simp; done) | (simp only [World.size_alloc]; omega) | (simp; omega)) _))⟩
    · have e : liesB a b c d = false := by unfold liesB; rw [decide_eq_false h2]; simp
      rw [e]; clear e
      have d1 : decide (a ≤ b) = true := decide_eq_true h1
      have d2 : decide (c ≤ a) = false := decide_eq_false h2
      clear h1 h2
      go_enter Try.func43, Try.ntmps43
      go_wp2
      go_ret
      exact ⟨rfl, by repeat (first | exact Below.refl _ _ | (refine Below.alloc ?_ (by first | (simp; done) | (simp only [World.size_alloc]; omega) | (simp; omega)) _))⟩
  · have e : liesB a b c d = false := by unfold liesB; rw [decide_eq_false h1]; simp
    rw [e]; clear e
    have d1 : decide (a ≤ b) = false := decide_eq_false h1
    clear h1
    go_enter Try.func43, Try.ntmps43
    go_wp2
    go_ret
    exact ⟨rfl, by repeat (first | exact Below.refl _ _ | (refine Below.alloc ?_ (by first | (simp; done) | (simp only [World.size_alloc]; omega) | (simp; omega)) _))⟩

/-- a span, moved by whole turns, lies within another one -/
def turnP (a b c d : Int) : Prop := ∃ k : Int, -2 ≤ k ∧ k ≤ 2 ∧ a ≤ b ∧ c ≤ a + k * 65536 ∧ b + k * 65536 ≤ d
set_option maxRecDepth 100000 in
set_option maxHeartbeats 1600000 in
theorem turned_true (a b c d : Int) (w : World) (ha : -1000000000 ≤ a ∧ a ≤ 1000000000) (hb : -1000000000 ≤ b ∧ b ≤ 1000000000) (h : turnP a b c d) :
    Calls Try.prog 77 #[.agg #[.int .i64 a, .int .i64 b], .agg #[.int .i64 c, .int .i64 d]] w fun e w' => e = .returned (.bool true) ∧ Below w.heap.size w w' := by
  obtain ⟨q, q1, q2, q3, q4, q5⟩ := h
  obtain ⟨A1, e1⟩ : ∃ A, A = w.alloc (.cells #[.int .i64 a, .int .i64 b] 25) := ⟨_, rfl⟩
  obtain ⟨U, e2⟩ : ∃ A, A = A1.alloc (.cells #[.int .i64 c, .int .i64 d] 25) := ⟨_, rfl⟩
  have s1 : A1.heap.size = w.heap.size + 1 := by rw [e1]; exact World.size_alloc _ _
  have s2 : U.heap.size = w.heap.size + 1 + 1 := by rw [e2, World.size_alloc, s1]
  have b1 : Below w.heap.size w A1 := by rw [e1]; exact below_alloc _ _
  have b2 : Below A1.heap.size A1 U := by rw [e2]; exact below_alloc _ _
  have bU := b1.trans (b2.mono b1.size)
  have k0 : U.cell? ⟨w.heap.size, 0, none⟩ = some (.int .i64 a) := keepB b2 (by omega) (by rw [e1]; exact alloc_new rfl rfl)
  have k1 : U.cell? ⟨w.heap.size, 1, none⟩ = some (.int .i64 b) := keepB b2 (by omega) (by rw [e1]; exact alloc_new rfl rfl)
  have k2 : U.cell? ⟨w.heap.size + 1, 0, none⟩ = some (.int .i64 c) := by rw [e2, ← s1]; exact alloc_new rfl rfl
  have k3 : U.cell? ⟨w.heap.size + 1, 1, none⟩ = some (.int .i64 d) := by rw [e2, ← s1]; exact alloc_new rfl rfl
  have K0 := Lib.hid k0
  have K1 := Lib.hid k1
  have K2 := Lib.hid k2
  have K3 := Lib.hid k3
  have HB := Lib.hid bU
  have HS := Lib.hid s2
  rw [e1] at e2
  clear k0 k1 k2 k3 e1 b1 b2 bU s1 s2
  go_enter Try.func77, Try.ntmps77
  go_wp2_with fail
  rw [← e2]
  clear e2
  go_loopw [5] (fun i wr => ∃ k : Int, -2 ≤ k ∧ k ≤ q ∧ i = .int .i64 k ∧ Below U.heap.size U wr) (fun i _ => (3 - intOf i).toNat)
  case atStart => exact ⟨-2, by omega, by omega, rfl, Below.refl _ _⟩
  case round =>
    obtain ⟨k, hk1, hk2, rfl, hbw⟩ := hrel
    have k0 := keepB hbw (by have := HS.out; omega) K0.out
    have k1 := keepB hbw (by have := HS.out; omega) K1.out
    have k2 := keepB hbw (by have := HS.out; omega) K2.out
    have k3 := keepB hbw (by have := HS.out; omega) K3.out
    have HW := Lib.hid hbw
    have hk3 : decide (k ≤ 2) = true := decide_eq_true (by omega)
    clear hbw
    by_cases hl : liesB (a + k * 65536) (b + k * 65536) c d = true
    · have HL : Hid (∀ W : World, Calls Try.prog 43 #[.agg #[.int .i64 (a + k * 65536), .int .i64 (b + k * 65536)], .agg #[.int .i64 c, .int .i64 d]] W fun e w' => e = .returned (.bool true) ∧ Below W.heap.size W w') := Lib.hid fun W => by
        have h := lies_any (a + k * 65536) (b + k * 65536) c d W
        rw [hl] at h; exact h
      clear hl
      go_wp2_with fail
      refine (HL.out _).mono ?_; rintro e' X ⟨rfl, hbX⟩
      go_wp2
      go_ret
      exact ⟨rfl, HB.out.trans ((HW.out.trans (hbX.mono HW.out.size)).mono HB.out.size)⟩
    · have hne : k ≠ q := by
        intro e; subst e
        exact hl (liesB_true.2 ⟨by omega, q4, q5⟩)
      have HL : Hid (∀ W : World, Calls Try.prog 43 #[.agg #[.int .i64 (a + k * 65536), .int .i64 (b + k * 65536)], .agg #[.int .i64 c, .int .i64 d]] W fun e w' => e = .returned (.bool false) ∧ Below W.heap.size W w') := Lib.hid fun W => by
        have h := lies_any (a + k * 65536) (b + k * 65536) c d W
        rw [show liesB (a + k * 65536) (b + k * 65536) c d = false by simpa using hl] at h; exact h
      clear hl
      go_wp2_with fail
      refine (HL.out _).mono ?_; rintro e' X ⟨rfl, hbX⟩
      go_wp2
      go_roundw
      case rel => exact ⟨k + 1, by omega, by omega, by go_num, HW.out.trans (hbX.mono HW.out.size)⟩
      case measure => simp [intOf]; omega

structure TwoE (w w' : World) (kdx p0x p1x s0x s1x s2x s3x spx r0x r1x m0x m1x t0x t1x kdy p0y p1y s0y s1y s2y s3y spy r0y r1y m0y m1y t0y t1y : Int) : Prop where
  c0 : w'.cell? ⟨w.heap.size, 0, none⟩ = some (.int .i64 kdx)
  c1 : w'.cell? ⟨w.heap.size, 1, none⟩ = some (.int .i64 p0x)
  c2 : w'.cell? ⟨w.heap.size, 2, none⟩ = some (.int .i64 p1x)
  c3 : w'.cell? ⟨w.heap.size, 3, none⟩ = some (.int .i64 s0x)
  c4 : w'.cell? ⟨w.heap.size, 4, none⟩ = some (.int .i64 s1x)
  c5 : w'.cell? ⟨w.heap.size, 5, none⟩ = some (.int .i64 s2x)
  c6 : w'.cell? ⟨w.heap.size, 6, none⟩ = some (.int .i64 s3x)
  c7 : w'.cell? ⟨w.heap.size, 7, none⟩ = some (.int .i64 spx)
  c8 : w'.cell? ⟨w.heap.size, 8, none⟩ = some (.int .i64 r0x)
  c9 : w'.cell? ⟨w.heap.size, 9, none⟩ = some (.int .i64 r1x)
  c10 : w'.cell? ⟨w.heap.size, 10, none⟩ = some (.int .i64 m0x)
  c11 : w'.cell? ⟨w.heap.size, 11, none⟩ = some (.int .i64 m1x)
  c12 : w'.cell? ⟨w.heap.size, 12, none⟩ = some (.int .i64 t0x)
  c13 : w'.cell? ⟨w.heap.size, 13, none⟩ = some (.int .i64 t1x)
  c14 : w'.cell? ⟨w.heap.size + 1, 0, none⟩ = some (.int .i64 kdy)
  c15 : w'.cell? ⟨w.heap.size + 1, 1, none⟩ = some (.int .i64 p0y)
  c16 : w'.cell? ⟨w.heap.size + 1, 2, none⟩ = some (.int .i64 p1y)
  c17 : w'.cell? ⟨w.heap.size + 1, 3, none⟩ = some (.int .i64 s0y)
  c18 : w'.cell? ⟨w.heap.size + 1, 4, none⟩ = some (.int .i64 s1y)
  c19 : w'.cell? ⟨w.heap.size + 1, 5, none⟩ = some (.int .i64 s2y)
  c20 : w'.cell? ⟨w.heap.size + 1, 6, none⟩ = some (.int .i64 s3y)
  c21 : w'.cell? ⟨w.heap.size + 1, 7, none⟩ = some (.int .i64 spy)
  c22 : w'.cell? ⟨w.heap.size + 1, 8, none⟩ = some (.int .i64 r0y)
  c23 : w'.cell? ⟨w.heap.size + 1, 9, none⟩ = some (.int .i64 r1y)
  c24 : w'.cell? ⟨w.heap.size + 1, 10, none⟩ = some (.int .i64 m0y)
  c25 : w'.cell? ⟨w.heap.size + 1, 11, none⟩ = some (.int .i64 m1y)
  c26 : w'.cell? ⟨w.heap.size + 1, 12, none⟩ = some (.int .i64 t0y)
  c27 : w'.cell? ⟨w.heap.size + 1, 13, none⟩ = some (.int .i64 t1y)
  z : w.heap.size + 2 ≤ w'.heap.size
  b : Below w.heap.size w w'
theorem TwoE.keep {w W w1 : World} {kdx p0x p1x s0x s1x s2x s3x spx r0x r1x m0x m1x t0x t1x kdy p0y p1y s0y s1y s2y s3y spy r0y r1y m0y m1y t0y t1y : Int} (s : TwoE w W kdx p0x p1x s0x s1x s2x s3x spx r0x r1x m0x m1x t0x t1x kdy p0y p1y s0y s1y s2y s3y spy r0y r1y m0y m1y t0y t1y) (hb : Below W.heap.size W w1) : TwoE w w1 kdx p0x p1x s0x s1x s2x s3x spx r0x r1x m0x m1x t0x t1x kdy p0y p1y s0y s1y s2y s3y spy r0y r1y m0y m1y t0y t1y :=
  ⟨keepW hb s.c0, keepW hb s.c1, keepW hb s.c2, keepW hb s.c3, keepW hb s.c4, keepW hb s.c5, keepW hb s.c6, keepW hb s.c7, keepW hb s.c8, keepW hb s.c9, keepW hb s.c10, keepW hb s.c11, keepW hb s.c12, keepW hb s.c13, keepW hb s.c14, keepW hb s.c15, keepW hb s.c16, keepW hb s.c17, keepW hb s.c18, keepW hb s.c19, keepW hb s.c20, keepW hb s.c21, keepW hb s.c22, keepW hb s.c23, keepW hb s.c24, keepW hb s.c25, keepW hb s.c26, keepW hb s.c27, Nat.le_trans s.z hb.size, s.b.trans (hb.mono s.b.size)⟩
theorem TwoE.new (w : World) (kdx p0x p1x s0x s1x s2x s3x spx r0x r1x m0x m1x t0x t1x kdy p0y p1y s0y s1y s2y s3y spy r0y r1y m0y m1y t0y t1y : Int) : TwoE w ((w.alloc (.cells #[.int .i64 kdx, .int .i64 p0x, .int .i64 p1x, .int .i64 s0x, .int .i64 s1x, .int .i64 s2x, .int .i64 s3x, .int .i64 spx, .int .i64 r0x, .int .i64 r1x, .int .i64 m0x, .int .i64 m1x, .int .i64 t0x, .int .i64 t1x] 30)).alloc (.cells #[.int .i64 kdy, .int .i64 p0y, .int .i64 p1y, .int .i64 s0y, .int .i64 s1y, .int .i64 s2y, .int .i64 s3y, .int .i64 spy, .int .i64 r0y, .int .i64 r1y, .int .i64 m0y, .int .i64 m1y, .int .i64 t0y, .int .i64 t1y] 30)) kdx p0x p1x s0x s1x s2x s3x spx r0x r1x m0x m1x t0x t1x kdy p0y p1y s0y s1y s2y s3y spy r0y r1y m0y m1y t0y t1y := by
  obtain ⟨A1, e1⟩ : ∃ A, A = w.alloc (.cells #[.int .i64 kdx, .int .i64 p0x, .int .i64 p1x, .int .i64 s0x, .int .i64 s1x, .int .i64 s2x, .int .i64 s3x, .int .i64 spx, .int .i64 r0x, .int .i64 r1x, .int .i64 m0x, .int .i64 m1x, .int .i64 t0x, .int .i64 t1x] 30) := ⟨_, rfl⟩
  obtain ⟨A2, e2⟩ : ∃ A, A = A1.alloc (.cells #[.int .i64 kdy, .int .i64 p0y, .int .i64 p1y, .int .i64 s0y, .int .i64 s1y, .int .i64 s2y, .int .i64 s3y, .int .i64 spy, .int .i64 r0y, .int .i64 r1y, .int .i64 m0y, .int .i64 m1y, .int .i64 t0y, .int .i64 t1y] 30) := ⟨_, rfl⟩
  have s1 : A1.heap.size = w.heap.size + 1 := by rw [e1]; exact World.size_alloc _ _
  have s2 : A2.heap.size = w.heap.size + 1 + 1 := by rw [e2, World.size_alloc, s1]
  have b1 : Below w.heap.size w A1 := by rw [e1]; exact below_alloc _ _
  have b2 : Below A1.heap.size A1 A2 := by rw [e2]; exact below_alloc _ _
  rw [← e1, ← e2]
  exact ⟨keepB b2 (by omega) (by rw [e1]; exact alloc_new rfl rfl), keepB b2 (by omega) (by rw [e1]; exact alloc_new rfl rfl), keepB b2 (by omega) (by rw [e1]; exact alloc_new rfl rfl), keepB b2 (by omega) (by rw [e1]; exact alloc_new rfl rfl), keepB b2 (by omega) (by rw [e1]; exact alloc_new rfl rfl), keepB b2 (by omega) (by rw [e1]; exact alloc_new rfl rfl), keepB b2 (by omega) (by rw [e1]; exact alloc_new rfl rfl), keepB b2 (by omega) (by rw [e1]; exact alloc_new rfl rfl), keepB b2 (by omega) (by rw [e1]; exact alloc_new rfl rfl), keepB b2 (by omega) (by rw [e1]; exact alloc_new rfl rfl), keepB b2 (by omega) (by rw [e1]; exact alloc_new rfl rfl), keepB b2 (by omega) (by rw [e1]; exact alloc_new rfl rfl), keepB b2 (by omega) (by rw [e1]; exact alloc_new rfl rfl), keepB b2 (by omega) (by rw [e1]; exact alloc_new rfl rfl), by rw [e2, ← s1]; exact alloc_new rfl rfl, by rw [e2, ← s1]; exact alloc_new rfl rfl, by rw [e2, ← s1]; exact alloc_new rfl rfl, by rw [e2, ← s1]; exact alloc_new rfl rfl, by rw [e2, ← s1]; exact alloc_new rfl rfl, by rw [e2, ← s1]; exact alloc_new rfl rfl, by rw [e2, ← s1]; exact alloc_new rfl rfl, by rw [e2, ← s1]; exact alloc_new rfl rfl, by rw [e2, ← s1]; exact alloc_new rfl rfl, by rw [e2, ← s1]; exact alloc_new rfl rfl, by rw [e2, ← s1]; exact alloc_new rfl rfl, by rw [e2, ← s1]; exact alloc_new rfl rfl, by rw [e2, ← s1]; exact alloc_new rfl rfl, by rw [e2, ← s1]; exact alloc_new rfl rfl, by omega, b1.trans (b2.mono b1.size)⟩

set_option maxRecDepth 100000 in
set_option maxHeartbeats 8000000 in
theorem within_quiet (kdx p0x p1x s0x s1x s2x s3x spx r0x r1x m0x m1x t0x t1x kdy p0y p1y s0y s1y s2y s3y spy r0y r1y m0y m1y t0y t1y : Int) (w : World) (hx : echoC kdx p0x p1x s0x s1x s2x s3x spx r0x r1x m0x m1x t0x t1x = 0) (hy : echoC kdy p0y p1y s0y s1y s2y s3y spy r0y r1y m0y m1y t0y t1y = 0) (hp : liesB p0x p1x p0y p1y = true) (hk : kdy = 1) :
    Calls Try.prog 40 #[.agg #[.int .i64 kdx, .int .i64 p0x, .int .i64 p1x, .int .i64 s0x, .int .i64 s1x, .int .i64 s2x, .int .i64 s3x, .int .i64 spx, .int .i64 r0x, .int .i64 r1x, .int .i64 m0x, .int .i64 m1x, .int .i64 t0x, .int .i64 t1x], .agg #[.int .i64 kdy, .int .i64 p0y, .int .i64 p1y, .int .i64 s0y, .int .i64 s1y, .int .i64 s2y, .int .i64 s3y, .int .i64 spy, .int .i64 r0y, .int .i64 r1y, .int .i64 m0y, .int .i64 m1y, .int .i64 t0y, .int .i64 t1y]] w fun e w' => e = .returned (.bool true) ∧ Below w.heap.size w w' := by
  have HX : Hid (∀ W : World, Calls Try.prog 19 #[.agg #[.int .i64 kdx, .int .i64 p0x, .int .i64 p1x, .int .i64 s0x, .int .i64 s1x, .int .i64 s2x, .int .i64 s3x, .int .i64 spx, .int .i64 r0x, .int .i64 r1x, .int .i64 m0x, .int .i64 m1x, .int .i64 t0x, .int .i64 t1x]] W fun e w' => e = .returned (.int .i64 0) ∧ Below W.heap.size W w') := Lib.hid fun W => by
    have h := CheckEcho_any kdx p0x p1x s0x s1x s2x s3x spx r0x r1x m0x m1x t0x t1x W
    rw [hx] at h; exact h
  have HY : Hid (∀ W : World, Calls Try.prog 19 #[.agg #[.int .i64 kdy, .int .i64 p0y, .int .i64 p1y, .int .i64 s0y, .int .i64 s1y, .int .i64 s2y, .int .i64 s3y, .int .i64 spy, .int .i64 r0y, .int .i64 r1y, .int .i64 m0y, .int .i64 m1y, .int .i64 t0y, .int .i64 t1y]] W fun e w' => e = .returned (.int .i64 0) ∧ Below W.heap.size W w') := Lib.hid fun W => by
    have h := CheckEcho_any kdy p0y p1y s0y s1y s2y s3y spy r0y r1y m0y m1y t0y t1y W
    rw [hy] at h; exact h
  have HP : Hid (∀ W : World, Calls Try.prog 43 #[.agg #[.int .i64 p0x, .int .i64 p1x], .agg #[.int .i64 p0y, .int .i64 p1y]] W fun e w' => e = .returned (.bool true) ∧ Below W.heap.size W w') := Lib.hid fun W => by
    have h := lies_any p0x p1x p0y p1y W
    rw [hp] at h; exact h
  have ek : (kdy == 1) = true := beq_iff_eq.2 hk
  clear hk
  clear hx hy hp
  have T0 := Lib.hid (TwoE.new w kdx p0x p1x s0x s1x s2x s3x spx r0x r1x m0x m1x t0x t1x kdy p0y p1y s0y s1y s2y s3y spy r0y r1y m0y m1y t0y t1y)
  obtain ⟨U, hU⟩ : ∃ U, U = (w.alloc (.cells #[.int .i64 kdx, .int .i64 p0x, .int .i64 p1x, .int .i64 s0x, .int .i64 s1x, .int .i64 s2x, .int .i64 s3x, .int .i64 spx, .int .i64 r0x, .int .i64 r1x, .int .i64 m0x, .int .i64 m1x, .int .i64 t0x, .int .i64 t1x] 30)).alloc (.cells #[.int .i64 kdy, .int .i64 p0y, .int .i64 p1y, .int .i64 s0y, .int .i64 s1y, .int .i64 s2y, .int .i64 s3y, .int .i64 spy, .int .i64 r0y, .int .i64 r1y, .int .i64 m0y, .int .i64 m1y, .int .i64 t0y, .int .i64 t1y] 30) := ⟨_, rfl⟩
  rw [← hU] at T0
  go_enter Try.func40, Try.ntmps40
  go_wp2_with fail
  rw [← hU]
  clear hU
  obtain ⟨c0, c1, c2, c3, c4, c5, c6, c7, c8, c9, c10, c11, c12, c13, c14, c15, c16, c17, c18, c19, c20, c21, c22, c23, c24, c25, c26, c27, hz, hbw⟩ := T0.out
  refine (HP.out _).mono ?_; rintro e' X1 ⟨rfl, hb1⟩
  have T1 := Lib.hid (T0.out.keep hb1)
  clear c0 c1 c2 c3 c4 c5 c6 c7 c8 c9 c10 c11 c12 c13 c14 c15 c16 c17 c18 c19 c20 c21 c22 c23 c24 c25 c26 c27 hz hbw hb1 T0
  obtain ⟨c0, c1, c2, c3, c4, c5, c6, c7, c8, c9, c10, c11, c12, c13, c14, c15, c16, c17, c18, c19, c20, c21, c22, c23, c24, c25, c26, c27, hz, hbw⟩ := T1.out
  go_wp2_with fail
  refine (HX.out _).mono ?_; rintro e' X2 ⟨rfl, hb2⟩
  have T2 := Lib.hid (T1.out.keep hb2)
  clear c0 c1 c2 c3 c4 c5 c6 c7 c8 c9 c10 c11 c12 c13 c14 c15 c16 c17 c18 c19 c20 c21 c22 c23 c24 c25 c26 c27 hz hbw hb2 T1
  obtain ⟨c0, c1, c2, c3, c4, c5, c6, c7, c8, c9, c10, c11, c12, c13, c14, c15, c16, c17, c18, c19, c20, c21, c22, c23, c24, c25, c26, c27, hz, hbw⟩ := T2.out
  go_wp2_with fail
  refine (HY.out _).mono ?_; rintro e' X3 ⟨rfl, hb3⟩
  have T3 := Lib.hid (T2.out.keep hb3)
  clear c0 c1 c2 c3 c4 c5 c6 c7 c8 c9 c10 c11 c12 c13 c14 c15 c16 c17 c18 c19 c20 c21 c22 c23 c24 c25 c26 c27 hz hbw hb3 T2
  obtain ⟨c0, c1, c2, c3, c4, c5, c6, c7, c8, c9, c10, c11, c12, c13, c14, c15, c16, c17, c18, c19, c20, c21, c22, c23, c24, c25, c26, c27, hz, hbw⟩ := T3.out
  go_wp2
  go_ret
  exact ⟨rfl, hbw⟩

set_option maxRecDepth 100000 in
set_option maxHeartbeats 8000000 in
theorem within_mixed (kdx p0x p1x s0x s1x s2x s3x spx r0x r1x m0x m1x t0x t1x kdy p0y p1y s0y s1y s2y s3y spy r0y r1y m0y m1y t0y t1y : Int) (w : World) (hx : echoC kdx p0x p1x s0x s1x s2x s3x spx r0x r1x m0x m1x t0x t1x = 0) (hy : echoC kdy p0y p1y s0y s1y s2y s3y spy r0y r1y m0y m1y t0y t1y = 0) (hp : liesB p0x p1x p0y p1y = true) (hk : kdy = 2) (hkx : kdx ≠ 1) (hr : liesB r0x r1x r0y r1y = true) (hm : liesB m0x m1x m0y m1y = true) :
    Calls Try.prog 40 #[.agg #[.int .i64 kdx, .int .i64 p0x, .int .i64 p1x, .int .i64 s0x, .int .i64 s1x, .int .i64 s2x, .int .i64 s3x, .int .i64 spx, .int .i64 r0x, .int .i64 r1x, .int .i64 m0x, .int .i64 m1x, .int .i64 t0x, .int .i64 t1x], .agg #[.int .i64 kdy, .int .i64 p0y, .int .i64 p1y, .int .i64 s0y, .int .i64 s1y, .int .i64 s2y, .int .i64 s3y, .int .i64 spy, .int .i64 r0y, .int .i64 r1y, .int .i64 m0y, .int .i64 m1y, .int .i64 t0y, .int .i64 t1y]] w fun e w' => e = .returned (.bool true) ∧ Below w.heap.size w w' := by
  have HX : Hid (∀ W : World, Calls Try.prog 19 #[.agg #[.int .i64 kdx, .int .i64 p0x, .int .i64 p1x, .int .i64 s0x, .int .i64 s1x, .int .i64 s2x, .int .i64 s3x, .int .i64 spx, .int .i64 r0x, .int .i64 r1x, .int .i64 m0x, .int .i64 m1x, .int .i64 t0x, .int .i64 t1x]] W fun e w' => e = .returned (.int .i64 0) ∧ Below W.heap.size W w') := Lib.hid fun W => by
    have h := CheckEcho_any kdx p0x p1x s0x s1x s2x s3x spx r0x r1x m0x m1x t0x t1x W
    rw [hx] at h; exact h
  have HY : Hid (∀ W : World, Calls Try.prog 19 #[.agg #[.int .i64 kdy, .int .i64 p0y, .int .i64 p1y, .int .i64 s0y, .int .i64 s1y, .int .i64 s2y, .int .i64 s3y, .int .i64 spy, .int .i64 r0y, .int .i64 r1y, .int .i64 m0y, .int .i64 m1y, .int .i64 t0y, .int .i64 t1y]] W fun e w' => e = .returned (.int .i64 0) ∧ Below W.heap.size W w') := Lib.hid fun W => by
    have h := CheckEcho_any kdy p0y p1y s0y s1y s2y s3y spy r0y r1y m0y m1y t0y t1y W
    rw [hy] at h; exact h
  have HP : Hid (∀ W : World, Calls Try.prog 43 #[.agg #[.int .i64 p0x, .int .i64 p1x], .agg #[.int .i64 p0y, .int .i64 p1y]] W fun e w' => e = .returned (.bool true) ∧ Below W.heap.size W w') := Lib.hid fun W => by
    have h := lies_any p0x p1x p0y p1y W
    rw [hp] at h; exact h
  have ek : (kdy == 1) = false := beq_eq_false_iff_ne.2 (by omega)
  have ek2 : (kdy == 2) = true := beq_iff_eq.2 hk
  have ex : (kdx == 1) = false := beq_eq_false_iff_ne.2 hkx
  clear hk hkx
  have HR : Hid (∀ W : World, Calls Try.prog 43 #[.agg #[.int .i64 r0x, .int .i64 r1x], .agg #[.int .i64 r0y, .int .i64 r1y]] W fun e w' => e = .returned (.bool true) ∧ Below W.heap.size W w') := Lib.hid fun W => by
    have h := lies_any r0x r1x r0y r1y W
    rw [hr] at h; exact h
  have HM : Hid (∀ W : World, Calls Try.prog 43 #[.agg #[.int .i64 m0x, .int .i64 m1x], .agg #[.int .i64 m0y, .int .i64 m1y]] W fun e w' => e = .returned (.bool true) ∧ Below W.heap.size W w') := Lib.hid fun W => by
    have h := lies_any m0x m1x m0y m1y W
    rw [hm] at h; exact h
  clear hr hm
  clear hx hy hp
  have T0 := Lib.hid (TwoE.new w kdx p0x p1x s0x s1x s2x s3x spx r0x r1x m0x m1x t0x t1x kdy p0y p1y s0y s1y s2y s3y spy r0y r1y m0y m1y t0y t1y)
  obtain ⟨U, hU⟩ : ∃ U, U = (w.alloc (.cells #[.int .i64 kdx, .int .i64 p0x, .int .i64 p1x, .int .i64 s0x, .int .i64 s1x, .int .i64 s2x, .int .i64 s3x, .int .i64 spx, .int .i64 r0x, .int .i64 r1x, .int .i64 m0x, .int .i64 m1x, .int .i64 t0x, .int .i64 t1x] 30)).alloc (.cells #[.int .i64 kdy, .int .i64 p0y, .int .i64 p1y, .int .i64 s0y, .int .i64 s1y, .int .i64 s2y, .int .i64 s3y, .int .i64 spy, .int .i64 r0y, .int .i64 r1y, .int .i64 m0y, .int .i64 m1y, .int .i64 t0y, .int .i64 t1y] 30) := ⟨_, rfl⟩
  rw [← hU] at T0
  go_enter Try.func40, Try.ntmps40
  go_wp2_with fail
  rw [← hU]
  clear hU
  obtain ⟨c0, c1, c2, c3, c4, c5, c6, c7, c8, c9, c10, c11, c12, c13, c14, c15, c16, c17, c18, c19, c20, c21, c22, c23, c24, c25, c26, c27, hz, hbw⟩ := T0.out
  refine (HP.out _).mono ?_; rintro e' X1 ⟨rfl, hb1⟩
  have T1 := Lib.hid (T0.out.keep hb1)
  clear c0 c1 c2 c3 c4 c5 c6 c7 c8 c9 c10 c11 c12 c13 c14 c15 c16 c17 c18 c19 c20 c21 c22 c23 c24 c25 c26 c27 hz hbw hb1 T0
  obtain ⟨c0, c1, c2, c3, c4, c5, c6, c7, c8, c9, c10, c11, c12, c13, c14, c15, c16, c17, c18, c19, c20, c21, c22, c23, c24, c25, c26, c27, hz, hbw⟩ := T1.out
  go_wp2_with fail
  refine (HX.out _).mono ?_; rintro e' X2 ⟨rfl, hb2⟩
  have T2 := Lib.hid (T1.out.keep hb2)
  clear c0 c1 c2 c3 c4 c5 c6 c7 c8 c9 c10 c11 c12 c13 c14 c15 c16 c17 c18 c19 c20 c21 c22 c23 c24 c25 c26 c27 hz hbw hb2 T1
  obtain ⟨c0, c1, c2, c3, c4, c5, c6, c7, c8, c9, c10, c11, c12, c13, c14, c15, c16, c17, c18, c19, c20, c21, c22, c23, c24, c25, c26, c27, hz, hbw⟩ := T2.out
  go_wp2_with fail
  refine (HY.out _).mono ?_; rintro e' X3 ⟨rfl, hb3⟩
  have T3 := Lib.hid (T2.out.keep hb3)
  clear c0 c1 c2 c3 c4 c5 c6 c7 c8 c9 c10 c11 c12 c13 c14 c15 c16 c17 c18 c19 c20 c21 c22 c23 c24 c25 c26 c27 hz hbw hb3 T2
  obtain ⟨c0, c1, c2, c3, c4, c5, c6, c7, c8, c9, c10, c11, c12, c13, c14, c15, c16, c17, c18, c19, c20, c21, c22, c23, c24, c25, c26, c27, hz, hbw⟩ := T3.out
  go_wp2_with fail
  refine (HR.out _).mono ?_; rintro e' X4 ⟨rfl, hb4⟩
  have T4 := Lib.hid (T3.out.keep hb4)
  clear c0 c1 c2 c3 c4 c5 c6 c7 c8 c9 c10 c11 c12 c13 c14 c15 c16 c17 c18 c19 c20 c21 c22 c23 c24 c25 c26 c27 hz hbw hb4 T3
  obtain ⟨c0, c1, c2, c3, c4, c5, c6, c7, c8, c9, c10, c11, c12, c13, c14, c15, c16, c17, c18, c19, c20, c21, c22, c23, c24, c25, c26, c27, hz, hbw⟩ := T4.out
  go_wp2_with fail
  refine (HM.out _).mono ?_; rintro e' X5 ⟨rfl, hb5⟩
  have T5 := Lib.hid (T4.out.keep hb5)
  clear c0 c1 c2 c3 c4 c5 c6 c7 c8 c9 c10 c11 c12 c13 c14 c15 c16 c17 c18 c19 c20 c21 c22 c23 c24 c25 c26 c27 hz hbw hb5 T4
  obtain ⟨c0, c1, c2, c3, c4, c5, c6, c7, c8, c9, c10, c11, c12, c13, c14, c15, c16, c17, c18, c19, c20, c21, c22, c23, c24, c25, c26, c27, hz, hbw⟩ := T5.out
  go_wp2
  go_ret
  exact ⟨rfl, hbw⟩

set_option maxRecDepth 100000 in
set_option maxHeartbeats 8000000 in
theorem within_clear (kdx p0x p1x s0x s1x s2x s3x spx r0x r1x m0x m1x t0x t1x kdy p0y p1y s0y s1y s2y s3y spy r0y r1y m0y m1y t0y t1y : Int) (w : World) (hx : echoC kdx p0x p1x s0x s1x s2x s3x spx r0x r1x m0x m1x t0x t1x = 0) (hy : echoC kdy p0y p1y s0y s1y s2y s3y spy r0y r1y m0y m1y t0y t1y = 0) (hp : liesB p0x p1x p0y p1y = true) (hk : kdy = 3) (hkx : kdx = 3) (hr : liesB r0x r1x r0y r1y = true) (hm : liesB m0x m1x m0y m1y = true) (hs : turnP s0x s1x s0y s1y) (hq : turnP s2x s3x s2y s3y) (ht : turnP t0x t1x t0y t1y) (hb : (-1000000000 ≤ s0x ∧ s0x ≤ 1000000000) ∧ (-1000000000 ≤ s1x ∧ s1x ≤ 1000000000) ∧ (-1000000000 ≤ s2x ∧ s2x ≤ 1000000000) ∧ (-1000000000 ≤ s3x ∧ s3x ≤ 1000000000) ∧ (-1000000000 ≤ t0x ∧ t0x ≤ 1000000000) ∧ (-1000000000 ≤ t1x ∧ t1x ≤ 1000000000)) :
    Calls Try.prog 40 #[.agg #[.int .i64 kdx, .int .i64 p0x, .int .i64 p1x, .int .i64 s0x, .int .i64 s1x, .int .i64 s2x, .int .i64 s3x, .int .i64 spx, .int .i64 r0x, .int .i64 r1x, .int .i64 m0x, .int .i64 m1x, .int .i64 t0x, .int .i64 t1x], .agg #[.int .i64 kdy, .int .i64 p0y, .int .i64 p1y, .int .i64 s0y, .int .i64 s1y, .int .i64 s2y, .int .i64 s3y, .int .i64 spy, .int .i64 r0y, .int .i64 r1y, .int .i64 m0y, .int .i64 m1y, .int .i64 t0y, .int .i64 t1y]] w fun e w' => e = .returned (.bool true) ∧ Below w.heap.size w w' := by
  have HX : Hid (∀ W : World, Calls Try.prog 19 #[.agg #[.int .i64 kdx, .int .i64 p0x, .int .i64 p1x, .int .i64 s0x, .int .i64 s1x, .int .i64 s2x, .int .i64 s3x, .int .i64 spx, .int .i64 r0x, .int .i64 r1x, .int .i64 m0x, .int .i64 m1x, .int .i64 t0x, .int .i64 t1x]] W fun e w' => e = .returned (.int .i64 0) ∧ Below W.heap.size W w') := Lib.hid fun W => by
    have h := CheckEcho_any kdx p0x p1x s0x s1x s2x s3x spx r0x r1x m0x m1x t0x t1x W
    rw [hx] at h; exact h
  have HY : Hid (∀ W : World, Calls Try.prog 19 #[.agg #[.int .i64 kdy, .int .i64 p0y, .int .i64 p1y, .int .i64 s0y, .int .i64 s1y, .int .i64 s2y, .int .i64 s3y, .int .i64 spy, .int .i64 r0y, .int .i64 r1y, .int .i64 m0y, .int .i64 m1y, .int .i64 t0y, .int .i64 t1y]] W fun e w' => e = .returned (.int .i64 0) ∧ Below W.heap.size W w') := Lib.hid fun W => by
    have h := CheckEcho_any kdy p0y p1y s0y s1y s2y s3y spy r0y r1y m0y m1y t0y t1y W
    rw [hy] at h; exact h
  have HP : Hid (∀ W : World, Calls Try.prog 43 #[.agg #[.int .i64 p0x, .int .i64 p1x], .agg #[.int .i64 p0y, .int .i64 p1y]] W fun e w' => e = .returned (.bool true) ∧ Below W.heap.size W w') := Lib.hid fun W => by
    have h := lies_any p0x p1x p0y p1y W
    rw [hp] at h; exact h
  have ek : (kdy == 1) = false := beq_eq_false_iff_ne.2 (by omega)
  have ek2 : (kdy == 2) = false := beq_eq_false_iff_ne.2 (by omega)
  have ex : (kdx == 1) = false := beq_eq_false_iff_ne.2 (by omega)
  have ex3 : (kdx == 3) = true := beq_iff_eq.2 hkx
  clear hk hkx
  have HR : Hid (∀ W : World, Calls Try.prog 43 #[.agg #[.int .i64 r0x, .int .i64 r1x], .agg #[.int .i64 r0y, .int .i64 r1y]] W fun e w' => e = .returned (.bool true) ∧ Below W.heap.size W w') := Lib.hid fun W => by
    have h := lies_any r0x r1x r0y r1y W
    rw [hr] at h; exact h
  have HM : Hid (∀ W : World, Calls Try.prog 43 #[.agg #[.int .i64 m0x, .int .i64 m1x], .agg #[.int .i64 m0y, .int .i64 m1y]] W fun e w' => e = .returned (.bool true) ∧ Below W.heap.size W w') := Lib.hid fun W => by
    have h := lies_any m0x m1x m0y m1y W
    rw [hm] at h; exact h
  clear hr hm
  have HS : Hid (∀ W : World, Calls Try.prog 77 #[.agg #[.int .i64 s0x, .int .i64 s1x], .agg #[.int .i64 s0y, .int .i64 s1y]] W fun e w' => e = .returned (.bool true) ∧ Below W.heap.size W w') := Lib.hid fun W => turned_true s0x s1x s0y s1y W hb.1 hb.2.1 hs
  have HQ : Hid (∀ W : World, Calls Try.prog 77 #[.agg #[.int .i64 s2x, .int .i64 s3x], .agg #[.int .i64 s2y, .int .i64 s3y]] W fun e w' => e = .returned (.bool true) ∧ Below W.heap.size W w') := Lib.hid fun W => turned_true s2x s3x s2y s3y W hb.2.2.1 hb.2.2.2.1 hq
  have HT : Hid (∀ W : World, Calls Try.prog 77 #[.agg #[.int .i64 t0x, .int .i64 t1x], .agg #[.int .i64 t0y, .int .i64 t1y]] W fun e w' => e = .returned (.bool true) ∧ Below W.heap.size W w') := Lib.hid fun W => turned_true t0x t1x t0y t1y W hb.2.2.2.2.1 hb.2.2.2.2.2 ht
  clear hs hq ht hb
  clear hx hy hp
  have T0 := Lib.hid (TwoE.new w kdx p0x p1x s0x s1x s2x s3x spx r0x r1x m0x m1x t0x t1x kdy p0y p1y s0y s1y s2y s3y spy r0y r1y m0y m1y t0y t1y)
  obtain ⟨U, hU⟩ : ∃ U, U = (w.alloc (.cells #[.int .i64 kdx, .int .i64 p0x, .int .i64 p1x, .int .i64 s0x, .int .i64 s1x, .int .i64 s2x, .int .i64 s3x, .int .i64 spx, .int .i64 r0x, .int .i64 r1x, .int .i64 m0x, .int .i64 m1x, .int .i64 t0x, .int .i64 t1x] 30)).alloc (.cells #[.int .i64 kdy, .int .i64 p0y, .int .i64 p1y, .int .i64 s0y, .int .i64 s1y, .int .i64 s2y, .int .i64 s3y, .int .i64 spy, .int .i64 r0y, .int .i64 r1y, .int .i64 m0y, .int .i64 m1y, .int .i64 t0y, .int .i64 t1y] 30) := ⟨_, rfl⟩
  rw [← hU] at T0
  go_enter Try.func40, Try.ntmps40
  go_wp2_with fail
  rw [← hU]
  clear hU
  obtain ⟨c0, c1, c2, c3, c4, c5, c6, c7, c8, c9, c10, c11, c12, c13, c14, c15, c16, c17, c18, c19, c20, c21, c22, c23, c24, c25, c26, c27, hz, hbw⟩ := T0.out
  refine (HP.out _).mono ?_; rintro e' X1 ⟨rfl, hb1⟩
  have T1 := Lib.hid (T0.out.keep hb1)
  clear c0 c1 c2 c3 c4 c5 c6 c7 c8 c9 c10 c11 c12 c13 c14 c15 c16 c17 c18 c19 c20 c21 c22 c23 c24 c25 c26 c27 hz hbw hb1 T0
  obtain ⟨c0, c1, c2, c3, c4, c5, c6, c7, c8, c9, c10, c11, c12, c13, c14, c15, c16, c17, c18, c19, c20, c21, c22, c23, c24, c25, c26, c27, hz, hbw⟩ := T1.out
  go_wp2_with fail
  refine (HX.out _).mono ?_; rintro e' X2 ⟨rfl, hb2⟩
  have T2 := Lib.hid (T1.out.keep hb2)
  clear c0 c1 c2 c3 c4 c5 c6 c7 c8 c9 c10 c11 c12 c13 c14 c15 c16 c17 c18 c19 c20 c21 c22 c23 c24 c25 c26 c27 hz hbw hb2 T1
  obtain ⟨c0, c1, c2, c3, c4, c5, c6, c7, c8, c9, c10, c11, c12, c13, c14, c15, c16, c17, c18, c19, c20, c21, c22, c23, c24, c25, c26, c27, hz, hbw⟩ := T2.out
  go_wp2_with fail
  refine (HY.out _).mono ?_; rintro e' X3 ⟨rfl, hb3⟩
  have T3 := Lib.hid (T2.out.keep hb3)
  clear c0 c1 c2 c3 c4 c5 c6 c7 c8 c9 c10 c11 c12 c13 c14 c15 c16 c17 c18 c19 c20 c21 c22 c23 c24 c25 c26 c27 hz hbw hb3 T2
  obtain ⟨c0, c1, c2, c3, c4, c5, c6, c7, c8, c9, c10, c11, c12, c13, c14, c15, c16, c17, c18, c19, c20, c21, c22, c23, c24, c25, c26, c27, hz, hbw⟩ := T3.out
  go_wp2_with fail
  refine (HR.out _).mono ?_; rintro e' X4 ⟨rfl, hb4⟩
  have T4 := Lib.hid (T3.out.keep hb4)
  clear c0 c1 c2 c3 c4 c5 c6 c7 c8 c9 c10 c11 c12 c13 c14 c15 c16 c17 c18 c19 c20 c21 c22 c23 c24 c25 c26 c27 hz hbw hb4 T3
  obtain ⟨c0, c1, c2, c3, c4, c5, c6, c7, c8, c9, c10, c11, c12, c13, c14, c15, c16, c17, c18, c19, c20, c21, c22, c23, c24, c25, c26, c27, hz, hbw⟩ := T4.out
  go_wp2_with fail
  refine (HM.out _).mono ?_; rintro e' X5 ⟨rfl, hb5⟩
  have T5 := Lib.hid (T4.out.keep hb5)
  clear c0 c1 c2 c3 c4 c5 c6 c7 c8 c9 c10 c11 c12 c13 c14 c15 c16 c17 c18 c19 c20 c21 c22 c23 c24 c25 c26 c27 hz hbw hb5 T4
  obtain ⟨c0, c1, c2, c3, c4, c5, c6, c7, c8, c9, c10, c11, c12, c13, c14, c15, c16, c17, c18, c19, c20, c21, c22, c23, c24, c25, c26, c27, hz, hbw⟩ := T5.out
  go_wp2_with fail
  refine (HS.out _).mono ?_; rintro e' X6 ⟨rfl, hb6⟩
  have T6 := Lib.hid (T5.out.keep hb6)
  clear c0 c1 c2 c3 c4 c5 c6 c7 c8 c9 c10 c11 c12 c13 c14 c15 c16 c17 c18 c19 c20 c21 c22 c23 c24 c25 c26 c27 hz hbw hb6 T5
  obtain ⟨c0, c1, c2, c3, c4, c5, c6, c7, c8, c9, c10, c11, c12, c13, c14, c15, c16, c17, c18, c19, c20, c21, c22, c23, c24, c25, c26, c27, hz, hbw⟩ := T6.out
  go_wp2_with fail
  refine (HQ.out _).mono ?_; rintro e' X7 ⟨rfl, hb7⟩
  have T7 := Lib.hid (T6.out.keep hb7)
  clear c0 c1 c2 c3 c4 c5 c6 c7 c8 c9 c10 c11 c12 c13 c14 c15 c16 c17 c18 c19 c20 c21 c22 c23 c24 c25 c26 c27 hz hbw hb7 T6
  obtain ⟨c0, c1, c2, c3, c4, c5, c6, c7, c8, c9, c10, c11, c12, c13, c14, c15, c16, c17, c18, c19, c20, c21, c22, c23, c24, c25, c26, c27, hz, hbw⟩ := T7.out
  go_wp2_with fail
  refine (HT.out _).mono ?_; rintro e' X8 ⟨rfl, hb8⟩
  have T8 := Lib.hid (T7.out.keep hb8)
  clear c0 c1 c2 c3 c4 c5 c6 c7 c8 c9 c10 c11 c12 c13 c14 c15 c16 c17 c18 c19 c20 c21 c22 c23 c24 c25 c26 c27 hz hbw hb8 T7
  obtain ⟨c0, c1, c2, c3, c4, c5, c6, c7, c8, c9, c10, c11, c12, c13, c14, c15, c16, c17, c18, c19, c20, c21, c22, c23, c24, c25, c26, c27, hz, hbw⟩ := T8.out
  go_wp2
  go_ret
  exact ⟨rfl, hbw⟩

end Go.Proofs.Ytmojnopgpgnfeaa

namespace Go.Proofs.Ytmojnopgpgnfeaa
open Go.RowKit
set_option linter.unusedVariables false
set_option linter.unusedSimpArgs false

/-- what P2.6 and P2.7 allow for an echo -/
def WithinP (gx gy : Nat → Int) : Prop :=
  echoC (gx 0) (gx 1) (gx 2) (gx 3) (gx 4) (gx 5) (gx 6) (gx 7) (gx 8) (gx 9) (gx 10) (gx 11) (gx 12) (gx 13) = 0 ∧ echoC (gy 0) (gy 1) (gy 2) (gy 3) (gy 4) (gy 5) (gy 6) (gy 7) (gy 8) (gy 9) (gy 10) (gy 11) (gy 12) (gy 13) = 0 ∧ liesB (gx 1) (gx 2) (gy 1) (gy 2) = true ∧
  (gy 0 = 1 ∨ (gy 0 = 2 ∧ gx 0 ≠ 1 ∧ liesB (gx 8) (gx 9) (gy 8) (gy 9) = true ∧ liesB (gx 10) (gx 11) (gy 10) (gy 11) = true) ∨
   (gy 0 = 3 ∧ gx 0 = 3 ∧ liesB (gx 8) (gx 9) (gy 8) (gy 9) = true ∧ liesB (gx 10) (gx 11) (gy 10) (gy 11) = true ∧ turnP (gx 3) (gx 4) (gy 3) (gy 4) ∧ turnP (gx 5) (gx 6) (gy 5) (gy 6) ∧ turnP (gx 12) (gx 13) (gy 12) (gy 13)))
theorem turnB_bd {a b : Int} (h : turnB a b = true) : (-1000000000 ≤ a ∧ a ≤ 1000000000) ∧ (-1000000000 ≤ b ∧ b ≤ 1000000000) := by
  unfold turnB at h
  rw [Bool.and_eq_true, inB_true, inB_true] at h
  omega
theorem within_any (gx gy : Nat → Int) (w : World) (h : WithinP gx gy) :
    Calls Try.prog 40 #[.agg #[.int .i64 (gx 0), .int .i64 (gx 1), .int .i64 (gx 2), .int .i64 (gx 3), .int .i64 (gx 4), .int .i64 (gx 5), .int .i64 (gx 6), .int .i64 (gx 7), .int .i64 (gx 8), .int .i64 (gx 9), .int .i64 (gx 10), .int .i64 (gx 11), .int .i64 (gx 12), .int .i64 (gx 13)], .agg #[.int .i64 (gy 0), .int .i64 (gy 1), .int .i64 (gy 2), .int .i64 (gy 3), .int .i64 (gy 4), .int .i64 (gy 5), .int .i64 (gy 6), .int .i64 (gy 7), .int .i64 (gy 8), .int .i64 (gy 9), .int .i64 (gy 10), .int .i64 (gy 11), .int .i64 (gy 12), .int .i64 (gy 13)]] w fun e w' => e = .returned (.bool true) ∧ Below w.heap.size w w' := by
  obtain ⟨h1, h2, h3, h4 | ⟨h4, h5, h6, h7⟩ | ⟨h4, h5, h6, h7, h8, h9, h10⟩⟩ := h
  · exact within_quiet _ _ _ _ _ _ _ _ _ _ _ _ _ _ _ _ _ _ _ _ _ _ _ _ _ _ _ _ w h1 h2 h3 h4
  · exact within_mixed _ _ _ _ _ _ _ _ _ _ _ _ _ _ _ _ _ _ _ _ _ _ _ _ _ _ _ _ w h1 h2 h3 h4 h5 h6 h7
  · have hc : clearB (gx 0) (gx 1) (gx 2) (gx 3) (gx 4) (gx 5) (gx 6) (gx 7) (gx 8) (gx 9) (gx 10) (gx 11) (gx 12) (gx 13) = true := by
      have h := h1
      unfold echoC at h
      rw [if_neg (by omega), if_neg (by omega), if_pos h5] at h
      by_cases c : clearB (gx 0) (gx 1) (gx 2) (gx 3) (gx 4) (gx 5) (gx 6) (gx 7) (gx 8) (gx 9) (gx 10) (gx 11) (gx 12) (gx 13) = true
      · exact c
      · rw [if_neg c] at h; omega
    unfold clearB at hc
    rw [Bool.and_eq_true, Bool.and_eq_true, Bool.and_eq_true] at hc
    have b1 := turnB_bd hc.2.1.1
    have b2 := turnB_bd hc.2.1.2
    have b3 := turnB_bd hc.2.2
    exact within_clear _ _ _ _ _ _ _ _ _ _ _ _ _ _ _ _ _ _ _ _ _ _ _ _ _ _ _ _ w h1 h2 h3 h4 h5 h6 h7 h8 h9 h10 ⟨b1.1, b1.2, b2.1, b2.2, b3.1, b3.2⟩

theorem hearE_eq {wH wV sH sV A1 B1 C1 A2 B2 C2 kd ph c : Int} {x0 x1 x2 : List Int} (h : 0 ≤ wH ∧ wH ≤ sH) : hearE wH wV sH sV A1 B1 C1 A2 B2 C2 kd ph c x0 x1 x2 = if wH = 0 then qE sH else phG (baseE wH sH (ratLo wV sH) (ratHi sV wH) (matLo C1 A2 B2) (matHi C2 A1 B1)) kd ph c x0 x1 x2 := by
  unfold hearE
  by_cases h1 : sH = 0 ∧ sV = 0
  · rw [if_pos h1, if_pos (by omega), h1.1]
  · rw [if_neg h1]
theorem qE_ok {s : Int} (h : 0 ≤ s ∧ s ≤ 1073741824) : echoC ((qE s) 0) ((qE s) 1) ((qE s) 2) ((qE s) 3) ((qE s) 4) ((qE s) 5) ((qE s) 6) ((qE s) 7) ((qE s) 8) ((qE s) 9) ((qE s) 10) ((qE s) 11) ((qE s) 12) ((qE s) 13) = 0 := by
  show echoC 1 0 s 0 0 0 0 0 0 0 0 0 0 0 = 0
  unfold echoC
  rw [if_pos rfl, if_pos]
  unfold quietB
  rw [Bool.and_eq_true, decide_eq_true_eq, spanB_true]
  omega
/-- do the numbers go together? -/
def togB (ph : Int) (x0 x1 x2 : List Int) : Bool := decide (arcW x0 + 4 * ph < 32768) && decide (arcW x1 + 4 * ph < 32768) && decide (arcW x2 + 4 * ph < 32768)
theorem togB_true {ph : Int} {x0 x1 x2 : List Int} : togB ph x0 x1 x2 = true ↔ arcW x0 + 4 * ph < 32768 ∧ arcW x1 + 4 * ph < 32768 ∧ arcW x2 + 4 * ph < 32768 := by unfold togB; simp [and_assoc]
/-- the numbers of an echo that is heard, mixed -/
def mixE (wH sH r0 r1 m0 m1 sp : Int) : Nat → Int := upd (upd (baseE wH sH r0 r1 m0 m1) 7 sp) 0 2
def clrE (wH sH r0 r1 m0 m1 sp a0 a1 b0 b1 t0 t1 : Int) : Nat → Int := upd (upd (upd (upd (upd (upd (upd (upd (baseE wH sH r0 r1 m0 m1) 7 sp) 0 3) 3 a0) 4 a1) 5 b0) 6 b1) 12 t0) 13 t1
theorem phG_eq {wH sH r0 r1 m0 m1 kd ph c : Int} {x0 x1 x2 : List Int} : phG (baseE wH sH r0 r1 m0 m1) kd ph c x0 x1 x2 = if togB ph x0 x1 x2 = true then clrE wH sH r0 r1 m0 m1 (mxx (arcW x0) (arcW x1)) (meanLo (arcB x0) x0 (slk kd ph x0)) (meanHi (arcB x0) x0 (slk kd ph x0)) (meanLo (arcB x1) x1 (slk kd ph x1)) (meanHi (arcB x1) x1 (slk kd ph x1)) (meanLo (arcB x2) x2 (2 * ph * c)) (meanHi (arcB x2) x2 (2 * ph * c)) else mixE wH sH r0 r1 m0 m1 (mxx (arcW x0) (arcW x1)) := rfl
theorem heardB_of {wH sH r0 r1 m0 m1 sp : Int} (h1 : 0 < wH ∧ wH ≤ sH ∧ sH ≤ 1073741824) (h2 : 0 ≤ r0 ∧ r0 ≤ r1 ∧ r1 ≤ 1000000) (h3 : 0 ≤ m0 ∧ m0 ≤ m1 ∧ m1 ≤ 1000) (h4 : 0 ≤ sp ∧ sp ≤ 65535) : heardB wH sH sp r0 r1 m0 m1 = true := by
  unfold heardB
  rw [Bool.and_eq_true, Bool.and_eq_true, Bool.and_eq_true, Bool.and_eq_true, spanB_true, spanB_true, spanB_true, decide_eq_true_eq, inB_true]
  omega
theorem mixE_ok {wH sH r0 r1 m0 m1 sp : Int} (h1 : 0 < wH ∧ wH ≤ sH ∧ sH ≤ 1073741824) (h2 : 0 ≤ r0 ∧ r0 ≤ r1 ∧ r1 ≤ 1000000) (h3 : 0 ≤ m0 ∧ m0 ≤ m1 ∧ m1 ≤ 1000) (h4 : 0 ≤ sp ∧ sp ≤ 65535) : echoC ((mixE wH sH r0 r1 m0 m1 sp) 0) ((mixE wH sH r0 r1 m0 m1 sp) 1) ((mixE wH sH r0 r1 m0 m1 sp) 2) ((mixE wH sH r0 r1 m0 m1 sp) 3) ((mixE wH sH r0 r1 m0 m1 sp) 4) ((mixE wH sH r0 r1 m0 m1 sp) 5) ((mixE wH sH r0 r1 m0 m1 sp) 6) ((mixE wH sH r0 r1 m0 m1 sp) 7) ((mixE wH sH r0 r1 m0 m1 sp) 8) ((mixE wH sH r0 r1 m0 m1 sp) 9) ((mixE wH sH r0 r1 m0 m1 sp) 10) ((mixE wH sH r0 r1 m0 m1 sp) 11) ((mixE wH sH r0 r1 m0 m1 sp) 12) ((mixE wH sH r0 r1 m0 m1 sp) 13) = 0 := by
  show echoC 2 wH sH 0 0 0 0 sp r0 r1 m0 m1 0 0 = 0
  unfold echoC
  rw [if_neg (by decide), if_pos rfl, if_pos]
  unfold mixedB
  rw [heardB_of h1 h2 h3 h4]
  simp
theorem clrE_ok {wH sH r0 r1 m0 m1 sp a0 a1 b0 b1 t0 t1 : Int} (h1 : 0 < wH ∧ wH ≤ sH ∧ sH ≤ 1073741824) (h2 : 0 ≤ r0 ∧ r0 ≤ r1 ∧ r1 ≤ 1000000) (h3 : 0 ≤ m0 ∧ m0 ≤ m1 ∧ m1 ≤ 1000) (h4 : 0 ≤ sp ∧ sp ≤ 65535) (ha : turnB a0 a1 = true) (hb : turnB b0 b1 = true) (ht : turnB t0 t1 = true) : echoC ((clrE wH sH r0 r1 m0 m1 sp a0 a1 b0 b1 t0 t1) 0) ((clrE wH sH r0 r1 m0 m1 sp a0 a1 b0 b1 t0 t1) 1) ((clrE wH sH r0 r1 m0 m1 sp a0 a1 b0 b1 t0 t1) 2) ((clrE wH sH r0 r1 m0 m1 sp a0 a1 b0 b1 t0 t1) 3) ((clrE wH sH r0 r1 m0 m1 sp a0 a1 b0 b1 t0 t1) 4) ((clrE wH sH r0 r1 m0 m1 sp a0 a1 b0 b1 t0 t1) 5) ((clrE wH sH r0 r1 m0 m1 sp a0 a1 b0 b1 t0 t1) 6) ((clrE wH sH r0 r1 m0 m1 sp a0 a1 b0 b1 t0 t1) 7) ((clrE wH sH r0 r1 m0 m1 sp a0 a1 b0 b1 t0 t1) 8) ((clrE wH sH r0 r1 m0 m1 sp a0 a1 b0 b1 t0 t1) 9) ((clrE wH sH r0 r1 m0 m1 sp a0 a1 b0 b1 t0 t1) 10) ((clrE wH sH r0 r1 m0 m1 sp a0 a1 b0 b1 t0 t1) 11) ((clrE wH sH r0 r1 m0 m1 sp a0 a1 b0 b1 t0 t1) 12) ((clrE wH sH r0 r1 m0 m1 sp a0 a1 b0 b1 t0 t1) 13) = 0 := by
  show echoC 3 wH sH a0 a1 b0 b1 sp r0 r1 m0 m1 t0 t1 = 0
  unfold echoC
  rw [if_neg (by decide), if_neg (by decide), if_pos rfl, if_pos]
  unfold clearB
  rw [heardB_of h1 h2 h3 h4, ha, hb, ht]
  rfl
theorem mxx_bd (x0 x1 : List Int) : 0 ≤ mxx (arcW x0) (arcW x1) ∧ mxx (arcW x0) (arcW x1) ≤ 65535 := by
  have h0 := arcW_bd x0
  have h1 := arcW_bd x1
  unfold mxx; omega

/-- what there is of a train's numbers: the weakest and strongest powers, and sums -/
structure Amt (wH wV sH sV A1 B1 C1 A2 B2 C2 : Int) : Prop where
  h : 0 ≤ wH ∧ wH ≤ sH ∧ sH ≤ 1073741824
  v : 0 ≤ wV ∧ wV ≤ sV
  s : Sums A1 B1 C1 A2 B2 C2
/-- the spans of the means are as in an echo -/
structure Means (kd ph c : Int) (x0 x1 x2 : List Int) : Prop where
  a : turnB (meanLo (arcB x0) x0 (slk kd ph x0)) (meanHi (arcB x0) x0 (slk kd ph x0)) = true
  b : turnB (meanLo (arcB x1) x1 (slk kd ph x1)) (meanHi (arcB x1) x1 (slk kd ph x1)) = true
  t : turnB (meanLo (arcB x2) x2 (2 * ph * c)) (meanHi (arcB x2) x2 (2 * ph * c)) = true
theorem hearE_ok {wH wV sH sV A1 B1 C1 A2 B2 C2 kd ph c : Int} {x0 x1 x2 : List Int} (h : Amt wH wV sH sV A1 B1 C1 A2 B2 C2) (m : togB ph x0 x1 x2 = true → Means kd ph c x0 x1 x2) : echoC ((hearE wH wV sH sV A1 B1 C1 A2 B2 C2 kd ph c x0 x1 x2) 0) ((hearE wH wV sH sV A1 B1 C1 A2 B2 C2 kd ph c x0 x1 x2) 1) ((hearE wH wV sH sV A1 B1 C1 A2 B2 C2 kd ph c x0 x1 x2) 2) ((hearE wH wV sH sV A1 B1 C1 A2 B2 C2 kd ph c x0 x1 x2) 3) ((hearE wH wV sH sV A1 B1 C1 A2 B2 C2 kd ph c x0 x1 x2) 4) ((hearE wH wV sH sV A1 B1 C1 A2 B2 C2 kd ph c x0 x1 x2) 5) ((hearE wH wV sH sV A1 B1 C1 A2 B2 C2 kd ph c x0 x1 x2) 6) ((hearE wH wV sH sV A1 B1 C1 A2 B2 C2 kd ph c x0 x1 x2) 7) ((hearE wH wV sH sV A1 B1 C1 A2 B2 C2 kd ph c x0 x1 x2) 8) ((hearE wH wV sH sV A1 B1 C1 A2 B2 C2 kd ph c x0 x1 x2) 9) ((hearE wH wV sH sV A1 B1 C1 A2 B2 C2 kd ph c x0 x1 x2) 10) ((hearE wH wV sH sV A1 B1 C1 A2 B2 C2 kd ph c x0 x1 x2) 11) ((hearE wH wV sH sV A1 B1 C1 A2 B2 C2 kd ph c x0 x1 x2) 12) ((hearE wH wV sH sV A1 B1 C1 A2 B2 C2 kd ph c x0 x1 x2) 13) = 0 := by
  rw [hearE_eq ⟨h.h.1, h.h.2.1⟩]
  by_cases h0 : wH = 0
  · rw [if_pos h0]; exact qE_ok ⟨by have := h.h; omega, h.h.2.2⟩
  · rw [if_neg h0, phG_eq]
    have hh := h.h
    have hp : Pows wH wV sH sV := ⟨⟨by omega, by omega⟩, h.v⟩
    have hr := rat_ok hp
    have m0 := matLo_bd h.s
    have m1 := matHi_bd h.s
    have m2 := mat_le h.s
    by_cases ht : togB ph x0 x1 x2 = true
    · rw [if_pos ht]
      exact clrE_ok ⟨by omega, by omega, by omega⟩ hr ⟨by omega, by omega, by omega⟩ (mxx_bd _ _) (m ht).a (m ht).b (m ht).t
    · rw [if_neg ht]
      exact mixE_ok ⟨by omega, by omega, by omega⟩ hr ⟨by omega, by omega, by omega⟩ (mxx_bd _ _)
/-- what phases say, within what they say by others -/
structure PhW (kd ph c : Int) (x0 x1 x2 : List Int) (ph' : Int) (x0' x1' x2' : List Int) : Prop where
  t : togB ph' x0' x1' x2' = true
  a : turnP (meanLo (arcB x0') x0' (slk kd ph' x0')) (meanHi (arcB x0') x0' (slk kd ph' x0')) (meanLo (arcB x0) x0 (slk kd ph x0)) (meanHi (arcB x0) x0 (slk kd ph x0))
  b : turnP (meanLo (arcB x1') x1' (slk kd ph' x1')) (meanHi (arcB x1') x1' (slk kd ph' x1')) (meanLo (arcB x1) x1 (slk kd ph x1)) (meanHi (arcB x1) x1 (slk kd ph x1))
  c : turnP (meanLo (arcB x2') x2' (2 * ph' * c)) (meanHi (arcB x2') x2' (2 * ph' * c)) (meanLo (arcB x2) x2 (2 * ph * c)) (meanHi (arcB x2) x2 (2 * ph * c))
theorem within_nest {wH wV sH sV A1 B1 C1 A2 B2 C2 wH' wV' sH' sV' A1' B1' C1' A2' B2' C2' kd ph ph' c : Int} {x0 x1 x2 x0' x1' x2' : List Int} (hy : Amt wH wV sH sV A1 B1 C1 A2 B2 C2) (hx : Amt wH' wV' sH' sV' A1' B1' C1' A2' B2' C2')
    (n1 : wH ≤ wH' ∧ sH' ≤ sH) (n2 : wV ≤ wV' ∧ sV' ≤ sV) (n3 : Nest A1 B1 C1 A2 B2 C2 A1' B1' C1' A2' B2' C2')
    (my : togB ph x0 x1 x2 = true → Means kd ph c x0 x1 x2) (mx' : togB ph' x0' x1' x2' = true → Means kd ph' c x0' x1' x2')
    (hp : togB ph x0 x1 x2 = true → PhW kd ph c x0 x1 x2 ph' x0' x1' x2') :
    WithinP (hearE wH' wV' sH' sV' A1' B1' C1' A2' B2' C2' kd ph' c x0' x1' x2') (hearE wH wV sH sV A1 B1 C1 A2 B2 C2 kd ph c x0 x1 x2) := by
  have k1 := hearE_ok hy my
  have k2 := hearE_ok hx mx'
  refine ⟨k2, k1, ?_⟩
  clear k1 k2
  have hhy := hy.h
  have hhx := hx.h
  rw [hearE_eq ⟨hy.h.1, hy.h.2.1⟩, hearE_eq ⟨hx.h.1, hx.h.2.1⟩]
  by_cases h0 : wH = 0
  · rw [if_pos h0]
    refine ⟨?_, .inl rfl⟩
    by_cases h1 : wH' = 0
    · rw [if_pos h1]
      show liesB 0 sH' 0 sH = true
      rw [liesB_true]; omega
    · rw [if_neg h1, phG_eq]
      have e : liesB wH' sH' 0 sH = true := by rw [liesB_true]; omega
      split <;> exact e
  · have h1 : wH' ≠ 0 := by omega
    rw [if_neg h0, if_neg h1, phG_eq, phG_eq]
    have py : Pows wH wV sH sV := ⟨⟨by omega, by omega⟩, hy.v⟩
    have px : Pows wH' wV' sH' sV' := ⟨⟨by omega, by omega⟩, hx.v⟩
    have r1 := rat_nest px py n1 n2
    have r2 := rat_ok px
    have eP : liesB wH' sH' wH sH = true := by rw [liesB_true]; omega
    have eR : liesB (ratLo wV' sH') (ratHi sV' wH') (ratLo wV sH) (ratHi sV wH) = true := by rw [liesB_true]; omega
    have eM : liesB (matLo C1' A2' B2') (matHi C2' A1' B1') (matLo C1 A2 B2) (matHi C2 A1 B1) = true := by
      rw [liesB_true]; exact ⟨mat_le hx.s, matLo_nest n3, matHi_nest n3⟩
    by_cases ht : togB ph x0 x1 x2 = true
    · obtain ⟨q1, q2, q3, q4⟩ := hp ht
      rw [if_pos ht, if_pos q1]
      exact ⟨eP, .inr (.inr ⟨rfl, rfl, eR, eM, q2, q3, q4⟩)⟩
    · rw [if_neg ht]
      split
      · exact ⟨eP, .inr (.inl ⟨rfl, (by show (3 : Int) ≠ 1; decide), eR, eM⟩)⟩
      · exact ⟨eP, .inr (.inl ⟨rfl, (by show (2 : Int) ≠ 1; decide), eR, eM⟩)⟩

end Go.Proofs.Ytmojnopgpgnfeaa
