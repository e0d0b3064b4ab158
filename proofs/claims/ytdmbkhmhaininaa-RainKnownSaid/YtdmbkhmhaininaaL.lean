/-
  The factor of a band.
-/
import Derived.Test.YtdmbkhmhaininaaK
import Derived.Test.YtdmbkhmhaininaaP
import Derived.Test.YtdmbkhmhaininaaG
import Derived.Test.YtdmbkhmhaininaaI
import Derived.Deep.Cut
import Derived.Deep.CutRange
namespace Go.Proofs.Ytdmbkhmhaininaa
open Go.RowKit
set_option linter.unusedVariables false
set_option linter.unusedSimpArgs false

/-- the boxes of factor -/
structure FW (w W : World) (la : Option Addr) (ln lc : Nat) (ra : Option Addr) (rn rc : Nat) (ml mh il ih al ah : Int) (lo hi : Int) : Prop where
  m0 : W.cell? ⟨w.heap.size, 0, none⟩ = some (.slice la ln lc)
  m1 : W.cell? ⟨w.heap.size, 1, none⟩ = some (.slice ra rn rc)
  m2 : W.cell? ⟨w.heap.size, 2, none⟩ = some (.int .i64 ml)
  m3 : W.cell? ⟨w.heap.size, 3, none⟩ = some (.int .i64 mh)
  m4 : W.cell? ⟨w.heap.size, 4, none⟩ = some (.int .i64 il)
  m5 : W.cell? ⟨w.heap.size, 5, none⟩ = some (.int .i64 ih)
  m6 : W.cell? ⟨w.heap.size, 6, none⟩ = some (.int .i64 al)
  m7 : W.cell? ⟨w.heap.size, 7, none⟩ = some (.int .i64 ah)
  b0 : W.cell? ⟨w.heap.size + 1, 0, none⟩ = some (.int .i64 lo)
  b1 : W.cell? ⟨w.heap.size + 1, 1, none⟩ = some (.int .i64 hi)
  r0 : W.cell? ⟨w.heap.size + 1 + 1, 0, none⟩ = some (.int .i64 0)
  r1 : W.cell? ⟨w.heap.size + 1 + 1, 1, none⟩ = some (.int .i64 0)
  g0 : W.frozen? ⟨w.heap.size + 1 + 1, 0, none⟩ = false
  g1 : W.frozen? ⟨w.heap.size + 1 + 1, 1, none⟩ = false
  z : w.heap.size + 1 + 1 < W.heap.size
  b : Below w.heap.size w W
theorem FW.keep {w W w1 : World} {la : Option Addr} {ln lc : Nat} {ra : Option Addr} {rn rc : Nat} {ml mh il ih al ah lo hi : Int} {C : Nat} (R : FW w W la ln lc ra rn rc ml mh il ih al ah lo hi) (hb : Below C W w1) (hC : w.heap.size + 1 + 1 < C) : FW w w1 la ln lc ra rn rc ml mh il ih al ah lo hi :=
  ⟨keepB hb (by omega) R.m0, keepB hb (by omega) R.m1, keepB hb (by omega) R.m2, keepB hb (by omega) R.m3, keepB hb (by omega) R.m4, keepB hb (by omega) R.m5, keepB hb (by omega) R.m6, keepB hb (by omega) R.m7, keepB hb (by omega) R.b0, keepB hb (by omega) R.b1, keepB hb (by omega) R.r0, keepB hb (by omega) R.r1, keepF hb (by omega) R.g0, keepF hb (by omega) R.g1, Nat.lt_of_lt_of_le R.z hb.size, R.b.trans (hb.mono (by omega))⟩
theorem row_form {w : World} {base T n : Nat} {v : Value} {xs : List Value} (h : w.ownsRow base T 2 v n xs) (hn : 0 < n) : ∃ q cap, v = .slice (some ⟨q, 0, none⟩) n cap ∧ base ≤ q ∧ q < w.heap.size ∧ n ≤ cap ∧ cap ≤ maxLen := by
  have hf := h.form hn
  rcases h.2 with ⟨_, h0⟩ | ⟨g, cap, cur, rfl, h1, h2, h3, h4, _⟩
  · omega
  · obtain ⟨b, c, e, _, h5⟩ := hf
    injection e with e1 e2 e3
    injection e1 with e1
    injection e1 with e1
    subst e1
    exact ⟨g, cap, rfl, h1, h5, h3, h4⟩
/-- the factor of a band -/
def facR (ml mh il ih al ah lo hi : Int) : Int × Int :=
  if lo < ml then (if ml ≤ hi then (if mh < hi then (min (min 1000 il) al, max (max 1000 ih) ah) else (min 1000 il, max 1000 ih)) else (1000, 1000))
  else if lo ≤ mh then (if mh < hi then (min il al, max ih ah) else (il, ih)) else (al, ah)
def consZ (x : Int × Int) (f : Nat → Int × Int) : Nat → Int × Int
  | 0 => x
  | i + 1 => f i
theorem fac_boxes26 (w : World) (la : Option Addr) (ln lc : Nat) (ra : Option Addr) (rn rc : Nat) (ml mh il ih al ah : Int) (lo hi : Int) : ∃ A, A = ((w.alloc (.cells #[.slice la ln lc, .slice ra rn rc, .int .i64 ml, .int .i64 mh, .int .i64 il, .int .i64 ih, .int .i64 al, .int .i64 ah] 26)).alloc (.cells #[.int .i64 lo, .int .i64 hi] 24)).alloc (.cells #[.int .i64 0, .int .i64 0] 24) ∧ Below w.heap.size w A ∧ A.heap.size = w.heap.size + 3 ∧ A.cell? ⟨w.heap.size, 0, none⟩ = some (.slice la ln lc) ∧ A.cell? ⟨w.heap.size, 1, none⟩ = some (.slice ra rn rc) ∧ A.cell? ⟨w.heap.size, 2, none⟩ = some (.int .i64 ml) ∧ A.cell? ⟨w.heap.size, 3, none⟩ = some (.int .i64 mh) ∧ A.cell? ⟨w.heap.size, 4, none⟩ = some (.int .i64 il) ∧ A.cell? ⟨w.heap.size, 5, none⟩ = some (.int .i64 ih) ∧ A.cell? ⟨w.heap.size, 6, none⟩ = some (.int .i64 al) ∧ A.cell? ⟨w.heap.size, 7, none⟩ = some (.int .i64 ah) ∧ A.cell? ⟨w.heap.size + 1, 0, none⟩ = some (.int .i64 lo) ∧ A.cell? ⟨w.heap.size + 1, 1, none⟩ = some (.int .i64 hi) ∧ A.cell? ⟨w.heap.size + 1 + 1, 0, none⟩ = some (.int .i64 0) ∧ A.cell? ⟨w.heap.size + 1 + 1, 1, none⟩ = some (.int .i64 0) ∧ A.frozen? ⟨w.heap.size + 1 + 1, 0, none⟩ = false ∧ A.frozen? ⟨w.heap.size + 1 + 1, 1, none⟩ = false := by
  obtain ⟨A0, e0⟩ : ∃ A, A = w.alloc (.cells #[.slice la ln lc, .slice ra rn rc, .int .i64 ml, .int .i64 mh, .int .i64 il, .int .i64 ih, .int .i64 al, .int .i64 ah] 26) := ⟨_, rfl⟩
  have s0 : A0.heap.size = w.heap.size + 1 := by rw [e0, World.size_alloc]
  have b0 : Below w.heap.size w A0 := by rw [e0]; exact below_alloc _ _
  have c0_0_0 : A0.cell? ⟨w.heap.size, 0, none⟩ = some (.slice la ln lc) := by rw [e0]; exact alloc_new rfl rfl
  have c0_1_0 : A0.cell? ⟨w.heap.size, 1, none⟩ = some (.slice ra rn rc) := by rw [e0]; exact alloc_new rfl rfl
  have c0_2_0 : A0.cell? ⟨w.heap.size, 2, none⟩ = some (.int .i64 ml) := by rw [e0]; exact alloc_new rfl rfl
  have c0_3_0 : A0.cell? ⟨w.heap.size, 3, none⟩ = some (.int .i64 mh) := by rw [e0]; exact alloc_new rfl rfl
  have c0_4_0 : A0.cell? ⟨w.heap.size, 4, none⟩ = some (.int .i64 il) := by rw [e0]; exact alloc_new rfl rfl
  have c0_5_0 : A0.cell? ⟨w.heap.size, 5, none⟩ = some (.int .i64 ih) := by rw [e0]; exact alloc_new rfl rfl
  have c0_6_0 : A0.cell? ⟨w.heap.size, 6, none⟩ = some (.int .i64 al) := by rw [e0]; exact alloc_new rfl rfl
  have c0_7_0 : A0.cell? ⟨w.heap.size, 7, none⟩ = some (.int .i64 ah) := by rw [e0]; exact alloc_new rfl rfl
  rw [← e0]
  obtain ⟨A1, e1⟩ : ∃ A, A = A0.alloc (.cells #[.int .i64 lo, .int .i64 hi] 24) := ⟨_, rfl⟩
  have s1 : A1.heap.size = w.heap.size + 2 := by rw [e1, World.size_alloc]; omega
  have b1 : Below w.heap.size w A1 := by rw [e1]; exact b0.trans ((below_alloc _ _).mono (by omega))
  have c0_0_1 : A1.cell? ⟨w.heap.size, 0, none⟩ = some (.slice la ln lc) := by rw [e1]; exact alloc_keep (by omega) c0_0_0
  have c0_1_1 : A1.cell? ⟨w.heap.size, 1, none⟩ = some (.slice ra rn rc) := by rw [e1]; exact alloc_keep (by omega) c0_1_0
  have c0_2_1 : A1.cell? ⟨w.heap.size, 2, none⟩ = some (.int .i64 ml) := by rw [e1]; exact alloc_keep (by omega) c0_2_0
  have c0_3_1 : A1.cell? ⟨w.heap.size, 3, none⟩ = some (.int .i64 mh) := by rw [e1]; exact alloc_keep (by omega) c0_3_0
  have c0_4_1 : A1.cell? ⟨w.heap.size, 4, none⟩ = some (.int .i64 il) := by rw [e1]; exact alloc_keep (by omega) c0_4_0
  have c0_5_1 : A1.cell? ⟨w.heap.size, 5, none⟩ = some (.int .i64 ih) := by rw [e1]; exact alloc_keep (by omega) c0_5_0
  have c0_6_1 : A1.cell? ⟨w.heap.size, 6, none⟩ = some (.int .i64 al) := by rw [e1]; exact alloc_keep (by omega) c0_6_0
  have c0_7_1 : A1.cell? ⟨w.heap.size, 7, none⟩ = some (.int .i64 ah) := by rw [e1]; exact alloc_keep (by omega) c0_7_0
  have c1_0_1 : A1.cell? ⟨w.heap.size + 1, 0, none⟩ = some (.int .i64 lo) := by rw [e1]; exact alloc_new s0.symm rfl
  have c1_1_1 : A1.cell? ⟨w.heap.size + 1, 1, none⟩ = some (.int .i64 hi) := by rw [e1]; exact alloc_new s0.symm rfl
  rw [← e1]
  exact ⟨_, rfl, b1.trans ((below_alloc _ _).mono (by omega)), by rw [World.size_alloc]; omega, alloc_keep (by omega) c0_0_1, alloc_keep (by omega) c0_1_1, alloc_keep (by omega) c0_2_1, alloc_keep (by omega) c0_3_1, alloc_keep (by omega) c0_4_1, alloc_keep (by omega) c0_5_1, alloc_keep (by omega) c0_6_1, alloc_keep (by omega) c0_7_1, alloc_keep (by omega) c1_0_1, alloc_keep (by omega) c1_1_1, alloc_new s1.symm rfl, alloc_new s1.symm rfl, alloc_newF s1.symm, alloc_newF s1.symm⟩
theorem fac_boxes36 (w : World) (la : Option Addr) (ln lc : Nat) (ra : Option Addr) (rn rc : Nat) (ml mh il ih al ah : Int) (lo hi : Int) : ∃ A, A = ((w.alloc (.cells #[.slice la ln lc, .slice ra rn rc, .int .i64 ml, .int .i64 mh, .int .i64 il, .int .i64 ih, .int .i64 al, .int .i64 ah] 36)).alloc (.cells #[.int .i64 lo, .int .i64 hi] 24)).alloc (.cells #[.int .i64 0, .int .i64 0] 24) ∧ Below w.heap.size w A ∧ A.heap.size = w.heap.size + 3 ∧ A.cell? ⟨w.heap.size, 0, none⟩ = some (.slice la ln lc) ∧ A.cell? ⟨w.heap.size, 1, none⟩ = some (.slice ra rn rc) ∧ A.cell? ⟨w.heap.size, 2, none⟩ = some (.int .i64 ml) ∧ A.cell? ⟨w.heap.size, 3, none⟩ = some (.int .i64 mh) ∧ A.cell? ⟨w.heap.size, 4, none⟩ = some (.int .i64 il) ∧ A.cell? ⟨w.heap.size, 5, none⟩ = some (.int .i64 ih) ∧ A.cell? ⟨w.heap.size, 6, none⟩ = some (.int .i64 al) ∧ A.cell? ⟨w.heap.size, 7, none⟩ = some (.int .i64 ah) ∧ A.cell? ⟨w.heap.size + 1, 0, none⟩ = some (.int .i64 lo) ∧ A.cell? ⟨w.heap.size + 1, 1, none⟩ = some (.int .i64 hi) ∧ A.cell? ⟨w.heap.size + 1 + 1, 0, none⟩ = some (.int .i64 0) ∧ A.cell? ⟨w.heap.size + 1 + 1, 1, none⟩ = some (.int .i64 0) ∧ A.frozen? ⟨w.heap.size + 1 + 1, 0, none⟩ = false ∧ A.frozen? ⟨w.heap.size + 1 + 1, 1, none⟩ = false := by
  obtain ⟨A0, e0⟩ : ∃ A, A = w.alloc (.cells #[.slice la ln lc, .slice ra rn rc, .int .i64 ml, .int .i64 mh, .int .i64 il, .int .i64 ih, .int .i64 al, .int .i64 ah] 36) := ⟨_, rfl⟩
  have s0 : A0.heap.size = w.heap.size + 1 := by rw [e0, World.size_alloc]
  have b0 : Below w.heap.size w A0 := by rw [e0]; exact below_alloc _ _
  have c0_0_0 : A0.cell? ⟨w.heap.size, 0, none⟩ = some (.slice la ln lc) := by rw [e0]; exact alloc_new rfl rfl
  have c0_1_0 : A0.cell? ⟨w.heap.size, 1, none⟩ = some (.slice ra rn rc) := by rw [e0]; exact alloc_new rfl rfl
  have c0_2_0 : A0.cell? ⟨w.heap.size, 2, none⟩ = some (.int .i64 ml) := by rw [e0]; exact alloc_new rfl rfl
  have c0_3_0 : A0.cell? ⟨w.heap.size, 3, none⟩ = some (.int .i64 mh) := by rw [e0]; exact alloc_new rfl rfl
  have c0_4_0 : A0.cell? ⟨w.heap.size, 4, none⟩ = some (.int .i64 il) := by rw [e0]; exact alloc_new rfl rfl
  have c0_5_0 : A0.cell? ⟨w.heap.size, 5, none⟩ = some (.int .i64 ih) := by rw [e0]; exact alloc_new rfl rfl
  have c0_6_0 : A0.cell? ⟨w.heap.size, 6, none⟩ = some (.int .i64 al) := by rw [e0]; exact alloc_new rfl rfl
  have c0_7_0 : A0.cell? ⟨w.heap.size, 7, none⟩ = some (.int .i64 ah) := by rw [e0]; exact alloc_new rfl rfl
  rw [← e0]
  obtain ⟨A1, e1⟩ : ∃ A, A = A0.alloc (.cells #[.int .i64 lo, .int .i64 hi] 24) := ⟨_, rfl⟩
  have s1 : A1.heap.size = w.heap.size + 2 := by rw [e1, World.size_alloc]; omega
  have b1 : Below w.heap.size w A1 := by rw [e1]; exact b0.trans ((below_alloc _ _).mono (by omega))
  have c0_0_1 : A1.cell? ⟨w.heap.size, 0, none⟩ = some (.slice la ln lc) := by rw [e1]; exact alloc_keep (by omega) c0_0_0
  have c0_1_1 : A1.cell? ⟨w.heap.size, 1, none⟩ = some (.slice ra rn rc) := by rw [e1]; exact alloc_keep (by omega) c0_1_0
  have c0_2_1 : A1.cell? ⟨w.heap.size, 2, none⟩ = some (.int .i64 ml) := by rw [e1]; exact alloc_keep (by omega) c0_2_0
  have c0_3_1 : A1.cell? ⟨w.heap.size, 3, none⟩ = some (.int .i64 mh) := by rw [e1]; exact alloc_keep (by omega) c0_3_0
  have c0_4_1 : A1.cell? ⟨w.heap.size, 4, none⟩ = some (.int .i64 il) := by rw [e1]; exact alloc_keep (by omega) c0_4_0
  have c0_5_1 : A1.cell? ⟨w.heap.size, 5, none⟩ = some (.int .i64 ih) := by rw [e1]; exact alloc_keep (by omega) c0_5_0
  have c0_6_1 : A1.cell? ⟨w.heap.size, 6, none⟩ = some (.int .i64 al) := by rw [e1]; exact alloc_keep (by omega) c0_6_0
  have c0_7_1 : A1.cell? ⟨w.heap.size, 7, none⟩ = some (.int .i64 ah) := by rw [e1]; exact alloc_keep (by omega) c0_7_0
  have c1_0_1 : A1.cell? ⟨w.heap.size + 1, 0, none⟩ = some (.int .i64 lo) := by rw [e1]; exact alloc_new s0.symm rfl
  have c1_1_1 : A1.cell? ⟨w.heap.size + 1, 1, none⟩ = some (.int .i64 hi) := by rw [e1]; exact alloc_new s0.symm rfl
  rw [← e1]
  exact ⟨_, rfl, b1.trans ((below_alloc _ _).mono (by omega)), by rw [World.size_alloc]; omega, alloc_keep (by omega) c0_0_1, alloc_keep (by omega) c0_1_1, alloc_keep (by omega) c0_2_1, alloc_keep (by omega) c0_3_1, alloc_keep (by omega) c0_4_1, alloc_keep (by omega) c0_5_1, alloc_keep (by omega) c0_6_1, alloc_keep (by omega) c0_7_1, alloc_keep (by omega) c1_0_1, alloc_keep (by omega) c1_1_1, alloc_new s1.symm rfl, alloc_new s1.symm rfl, alloc_newF s1.symm, alloc_newF s1.symm⟩

set_option maxRecDepth 100000 in
set_option maxHeartbeats 6400000 in
theorem factor_TFF (la : Option Addr) (ln lc : Nat) (ra : Option Addr) (rn rc : Nat) (ml mh il ih al ah : Int) (lo hi : Int) (w : World) (h1 : lo < ml) (h2 : ¬ ml ≤ hi) (h3 : ¬ mh < hi) (hm : ml ≤ mh) (hb : lo ≤ hi) :
    Calls Try.prog 68 #[.agg #[.slice la ln lc, .slice ra rn rc, .int .i64 ml, .int .i64 mh, .int .i64 il, .int .i64 ih, .int .i64 al, .int .i64 ah], .agg #[.int .i64 lo, .int .i64 hi]] w fun e w' => e = .returned (.agg #[.int .i64 1000, .int .i64 1000]) ∧ Below w.heap.size w w' := by
  obtain ⟨i0, hi0, hz0, hz1, hz2⟩ := info_parts info24
  have d1 : decide (lo < ml) = true := by exact decide_eq_true h1
  have d2 : decide (lo ≤ mh) = true := by first | exact decide_eq_true (by omega) | exact decide_eq_false (by omega)
  have d3 : decide (ml ≤ hi) = false := by first | exact decide_eq_true (by omega) | exact decide_eq_false (by omega)
  have d4 : decide (mh < hi) = false := by exact decide_eq_false h3
  obtain ⟨A, hA, bA, zA, m0, m1, m2, m3, m4, m5, m6, m7, b0, b1, r0, r1, g0, g1⟩ := fac_boxes26 w la ln lc ra rn rc ml mh il ih al ah lo hi
  have R := Lib.hid (show FW w A la ln lc ra rn rc ml mh il ih al ah lo hi from ⟨m0, m1, m2, m3, m4, m5, m6, m7, b0, b1, r0, r1, g0, g1, by omega, bA⟩)
  have HW := Lib.hid (World.ownsRow_nil A (w.heap.size + 1 + 1 + 1) 24 2)
  clear m0 m1 m2 m3 m4 m5 m6 m7 b0 b1 r0 r1 g0 g1 bA zA h1 h2 h3 hm hb
  go_enter Try.func68, Try.ntmps68
  go_wp2_with fail
  rw [← hA]
  clear hA
  refine (only_any 1000 _).mono ?_; rintro e X ⟨rfl, hbX⟩
  have HW := Lib.hid (owns_keep HW.out hbX)
  have R := Lib.hid (R.out.keep hbX R.out.z)
  clear hbX
  obtain ⟨m0, m1, m2, m3, m4, m5, m6, m7, b0, b1, r0, r1, g0, g1, hz, hbw⟩ := R.out
  have hown := HW.out
  go_wp2_with (first | (at_builtin; refine wpList_append_own _ rfl _ _ 44 rfl (w.heap.size + 1 + 1 + 1) 24 i0 (.agg #[.int .i64 0, .int .i64 0]) 2 16 Try.underlying44 hi0 hz0 hz1 hz2 rfl (by decide) _ _ _ rfl (hown.alloc _) ⟨X.heap.size, 0, none⟩ 1 1 [.int .i64 1000, .int .i64 1000] rfl rfl (cell_two_new _ _ _ _) ?c20 ?c30 ?c40 ?c50 ?_) | go_in)
  case c20 => intro u hu; simp at hu; rcases hu with rfl | rfl <;> rfl
  case c30 => unfold maxLen; omega
  case c40 => omega
  case c50 => simp; omega
  intro v0 W0 hown' hgrow _
  have B7 : Below (w.heap.size + 1 + 1 + 1) X W0 := Below.grown ((Below.refl _ X).alloc (by omega) _) hgrow (by simp; omega) (fun k hk => (HW.out.lt k hk).1)
  have R := Lib.hid (R.out.keep B7 (by omega))
  have HW := Lib.hid hown'
  clear hown hown' hgrow B7 m0 m1 m2 m3 m4 m5 m6 m7 b0 b1 r0 r1 g0 g1 hz hbw
  obtain ⟨m0, m1, m2, m3, m4, m5, m6, m7, b0, b1, r0, r1, g0, g1, hz, hbw⟩ := R.out
  have zz : w.heap.size + 1 + 1 < W0.heap.size := hz
  obtain ⟨q, cap, rfl, hq1, hq2, hq3, hq4⟩ := row_form HW.out (by decide)
  unfold maxLen at hq4
  have e00 : W0.cell? ⟨q, 0, none⟩ = some (.int .i64 1000) := HW.out.cellAt 0 (by decide)
  have e01 : W0.cell? ⟨q, 1, none⟩ = some (.int .i64 1000) := HW.out.cellAt 1 (by decide)
  have HE := Lib.hid HW.out
  clear HW
  have HS := Lib.hid (show (fun w' : World => w'.cell? ⟨q, 0, none⟩ = some (.int .i64 1000) ∧ w'.cell? ⟨q, 1, none⟩ = some (.int .i64 1000) ∧ w'.cell? ⟨w.heap.size + 1 + 1, 0, none⟩ = some (.int .i64 0) ∧ w'.cell? ⟨w.heap.size + 1 + 1, 1, none⟩ = some (.int .i64 0) ∧ Below W0.drew.heap.size W0.drew w') W0.drew from ⟨e00, e01, r0, r1, Below.refl _ _⟩)
  by_cases c1 : cap = 1
  · skip
    obtain rfl : cap = 1 := c1
    go_wp2_with fail
    refine wp_region_held_tail (S := (fun w' : World => w'.cell? ⟨q, 0, none⟩ = some (.int .i64 1000) ∧ w'.cell? ⟨q, 1, none⟩ = some (.int .i64 1000) ∧ w'.cell? ⟨w.heap.size + 1 + 1, 0, none⟩ = some (.int .i64 0) ∧ w'.cell? ⟨w.heap.size + 1 + 1, 1, none⟩ = some (.int .i64 0) ∧ Below W0.drew.heap.size W0.drew w')) 6 (by kernel_rfl) (by kernel_rfl) HS.out (fun hHeld => ?_)
    refine wpAnyH_take (i := 0) (v := ?v0_6) rfl (by kernel_rfl) (by kernel_rfl) (by kernel_rfl) (fun _ _ _ h => h) (Or.inl ⟨by rfl, ?hy0_6⟩) (by assumption) ?rest0_6
    case hy0_6 => (intro w hSw; (try dsimp only at hSw); go_simp; (try with_reducible rfl))
    try simp only [Act.put, List.getElem_toArray, List.getElem_cons_zero, List.getElem_cons_succ, List.setIfInBounds_toArray, List.set_cons_zero, List.set_cons_succ]
    refine wpAnyH_take (i := 1) (v := ?v1_7) rfl (by kernel_rfl) (by kernel_rfl) (by kernel_rfl) (fun _ _ _ h => h) (Or.inl ⟨by rfl, ?hy1_7⟩) (by assumption) ?rest1_7
    case hy1_7 => (intro w hSw; (try dsimp only at hSw); go_simp; (try with_reducible rfl))
    try simp only [Act.put, List.getElem_toArray, List.getElem_cons_zero, List.getElem_cons_succ, List.setIfInBounds_toArray, List.set_cons_zero, List.set_cons_succ]
    refine wpAnyH_take (i := 2) (v := ?v2_8) rfl (by kernel_rfl) (by kernel_rfl) (by kernel_rfl) (fun _ _ _ h => h) (Or.inl ⟨by rfl, ?hy2_8⟩) (by assumption) ?rest2_8
    case hy2_8 => (intro w hSw; (try dsimp only at hSw); go_simp; (try with_reducible rfl))
    try simp only [Act.put, List.getElem_toArray, List.getElem_cons_zero, List.getElem_cons_succ, List.setIfInBounds_toArray, List.set_cons_zero, List.set_cons_succ]
    refine wpAnyH_take (i := 3) (v := ?v3_9) rfl (by kernel_rfl) (by kernel_rfl) (by kernel_rfl) (fun _ _ _ h => h) (Or.inl ⟨by rfl, ?hy3_9⟩) (by assumption) ?rest3_9
    case hy3_9 => (intro w hSw; (try dsimp only at hSw); go_simp; (try with_reducible rfl))
    try simp only [Act.put, List.getElem_toArray, List.getElem_cons_zero, List.getElem_cons_succ, List.setIfInBounds_toArray, List.set_cons_zero, List.set_cons_succ]
    refine wpAnyH_take (i := 4) (v := ?v4_10) rfl (by kernel_rfl) (by kernel_rfl) (by kernel_rfl) (fun _ _ _ h => h) (Or.inl ⟨by rfl, ?hy4_10⟩) (by assumption) ?rest4_10
    case hy4_10 => (intro w hSw; (try dsimp only at hSw); go_simp; (try with_reducible rfl))
    try simp only [Act.put, List.getElem_toArray, List.getElem_cons_zero, List.getElem_cons_succ, List.setIfInBounds_toArray, List.set_cons_zero, List.set_cons_succ]
    refine wpAnyH_ready (rs := [5]) (by kernel_rfl) (by simp) ?_
    refine AllReadyH.cons rfl (fun K hK => ?_) AllReadyH.nil
    go_simp; go_at_call 98; refine (hull_nil 1000 1000 _ _ _).mono ?_; rintro e' w' ⟨rfl, hb'⟩
    refine hK.out _ _ (⟨keepW hb' hHeld.1, keepW hb' hHeld.2.1, keepW hb' hHeld.2.2.1, keepW hb' hHeld.2.2.2.1, hHeld.2.2.2.2.trans (hb'.mono hHeld.2.2.2.2.size)⟩) (fun hHeld2 => ?_)
    clear hK K hHeld hb'
    have hHeld := hHeld2
    clear hHeld2
    try simp only [Act.put, List.getElem_toArray, List.getElem_cons_zero, List.getElem_cons_succ, List.setIfInBounds_toArray, List.set_cons_zero, List.set_cons_succ]
    refine wpAnyH_done (by kernel_rfl) ?_ _
    change wpList _ _ _ _ _ _
    simp only [List.drop_succ_cons, List.drop_zero]
    obtain ⟨p0, p1, p2, p3, pb⟩ := hHeld
    rename World => V
    have x0 : V.frozen? ⟨w.heap.size + 1 + 1, 0, none⟩ = false := by rw [pb.frozen (p := ⟨w.heap.size + 1 + 1, 0, none⟩) (show w.heap.size + 1 + 1 < W0.drew.heap.size by have : W0.drew.heap.size = W0.heap.size := rfl; omega)]; exact g0
    have x1 : V.frozen? ⟨w.heap.size + 1 + 1, 1, none⟩ = false := by rw [pb.frozen (p := ⟨w.heap.size + 1 + 1, 1, none⟩) (show w.heap.size + 1 + 1 < W0.drew.heap.size by have : W0.drew.heap.size = W0.heap.size := rfl; omega)]; exact g1
    have bV := hbw.drew.trans (pb.mono hbw.drew.size)
    have zV : w.heap.size + 1 + 1 < V.heap.size := Nat.lt_of_lt_of_le hz pb.size
    clear pb HS g0 g1
    go_wp2
    exact bodyPost_ret (v := .agg #[.int .i64 1000, .int .i64 1000]) (by simp [results, Try.results68, go_sem, set_same (i := 0) (v := .int .i64 1000) p2, set_other (i := 1) (j := 0) (v := .int .i64 1000) (by decide) (set_same (i := 0) (v := .int .i64 1000) p2), set_same (i := 1) (v := .int .i64 1000) (set_other (i := 0) (j := 1) (v := .int .i64 1000) (by decide) p3)]) rfl ⟨rfl, ((bV.setCell (p := ⟨w.heap.size + 1 + 1, 0, none⟩) (by dsimp only; omega) _).setCell (p := ⟨w.heap.size + 1 + 1, 1, none⟩) (by dsimp only; omega) _)⟩
  · skip
    go_wp2_with fail
    refine wp_region_held_tail (S := (fun w' : World => w'.cell? ⟨q, 0, none⟩ = some (.int .i64 1000) ∧ w'.cell? ⟨q, 1, none⟩ = some (.int .i64 1000) ∧ w'.cell? ⟨w.heap.size + 1 + 1, 0, none⟩ = some (.int .i64 0) ∧ w'.cell? ⟨w.heap.size + 1 + 1, 1, none⟩ = some (.int .i64 0) ∧ Below W0.drew.heap.size W0.drew w')) 6 (by kernel_rfl) (by kernel_rfl) HS.out (fun hHeld => ?_)
    refine wpAnyH_take (i := 0) (v := ?v0_11) rfl (by kernel_rfl) (by kernel_rfl) (by kernel_rfl) (fun _ _ _ h => h) (Or.inl ⟨by rfl, ?hy0_11⟩) (by assumption) ?rest0_11
    case hy0_11 => (intro w hSw; (try dsimp only at hSw); go_simp; (try with_reducible rfl))
    try simp only [Act.put, List.getElem_toArray, List.getElem_cons_zero, List.getElem_cons_succ, List.setIfInBounds_toArray, List.set_cons_zero, List.set_cons_succ]
    refine wpAnyH_take (i := 1) (v := ?v1_12) rfl (by kernel_rfl) (by kernel_rfl) (by kernel_rfl) (fun _ _ _ h => h) (Or.inl ⟨by rfl, ?hy1_12⟩) (by assumption) ?rest1_12
    case hy1_12 => (intro w hSw; (try dsimp only at hSw); go_simp; (try with_reducible rfl))
    try simp only [Act.put, List.getElem_toArray, List.getElem_cons_zero, List.getElem_cons_succ, List.setIfInBounds_toArray, List.set_cons_zero, List.set_cons_succ]
    refine wpAnyH_take (i := 2) (v := ?v2_13) rfl (by kernel_rfl) (by kernel_rfl) (by kernel_rfl) (fun _ _ _ h => h) (Or.inl ⟨by rfl, ?hy2_13⟩) (by assumption) ?rest2_13
    case hy2_13 => (intro w hSw; (try dsimp only at hSw); go_simp; (try with_reducible rfl))
    try simp only [Act.put, List.getElem_toArray, List.getElem_cons_zero, List.getElem_cons_succ, List.setIfInBounds_toArray, List.set_cons_zero, List.set_cons_succ]
    refine wpAnyH_take (i := 3) (v := ?v3_14) rfl (by kernel_rfl) (by kernel_rfl) (by kernel_rfl) (fun _ _ _ h => h) (Or.inl ⟨by rfl, ?hy3_14⟩) (by assumption) ?rest3_14
    case hy3_14 => (intro w hSw; (try dsimp only at hSw); go_simp; (try with_reducible rfl))
    try simp only [Act.put, List.getElem_toArray, List.getElem_cons_zero, List.getElem_cons_succ, List.setIfInBounds_toArray, List.set_cons_zero, List.set_cons_succ]
    refine wpAnyH_take (i := 4) (v := ?v4_15) rfl (by kernel_rfl) (by kernel_rfl) (by kernel_rfl) (fun _ _ _ h => h) (Or.inl ⟨by rfl, ?hy4_15⟩) (by assumption) ?rest4_15
    case hy4_15 => (intro w hSw; (try dsimp only at hSw); go_simp; (try with_reducible rfl))
    try simp only [Act.put, List.getElem_toArray, List.getElem_cons_zero, List.getElem_cons_succ, List.setIfInBounds_toArray, List.set_cons_zero, List.set_cons_succ]
    refine wpAnyH_ready (rs := [5]) (by kernel_rfl) (by simp) ?_
    refine AllReadyH.cons rfl (fun K hK => ?_) AllReadyH.nil
    go_simp; go_at_call 98; refine (hull_nil 1000 1000 _ _ _).mono ?_; rintro e' w' ⟨rfl, hb'⟩
    refine hK.out _ _ (⟨keepW hb' hHeld.1, keepW hb' hHeld.2.1, keepW hb' hHeld.2.2.1, keepW hb' hHeld.2.2.2.1, hHeld.2.2.2.2.trans (hb'.mono hHeld.2.2.2.2.size)⟩) (fun hHeld2 => ?_)
    clear hK K hHeld hb'
    have hHeld := hHeld2
    clear hHeld2
    try simp only [Act.put, List.getElem_toArray, List.getElem_cons_zero, List.getElem_cons_succ, List.setIfInBounds_toArray, List.set_cons_zero, List.set_cons_succ]
    refine wpAnyH_done (by kernel_rfl) ?_ _
    change wpList _ _ _ _ _ _
    simp only [List.drop_succ_cons, List.drop_zero]
    obtain ⟨p0, p1, p2, p3, pb⟩ := hHeld
    rename World => V
    have x0 : V.frozen? ⟨w.heap.size + 1 + 1, 0, none⟩ = false := by rw [pb.frozen (p := ⟨w.heap.size + 1 + 1, 0, none⟩) (show w.heap.size + 1 + 1 < W0.drew.heap.size by have : W0.drew.heap.size = W0.heap.size := rfl; omega)]; exact g0
    have x1 : V.frozen? ⟨w.heap.size + 1 + 1, 1, none⟩ = false := by rw [pb.frozen (p := ⟨w.heap.size + 1 + 1, 1, none⟩) (show w.heap.size + 1 + 1 < W0.drew.heap.size by have : W0.drew.heap.size = W0.heap.size := rfl; omega)]; exact g1
    have bV := hbw.drew.trans (pb.mono hbw.drew.size)
    have zV : w.heap.size + 1 + 1 < V.heap.size := Nat.lt_of_lt_of_le hz pb.size
    clear pb HS g0 g1
    go_wp2
    exact bodyPost_ret (v := .agg #[.int .i64 1000, .int .i64 1000]) (by simp [results, Try.results68, go_sem, set_same (i := 0) (v := .int .i64 1000) p2, set_other (i := 1) (j := 0) (v := .int .i64 1000) (by decide) (set_same (i := 0) (v := .int .i64 1000) p2), set_same (i := 1) (v := .int .i64 1000) (set_other (i := 0) (j := 1) (v := .int .i64 1000) (by decide) p3)]) rfl ⟨rfl, ((bV.setCell (p := ⟨w.heap.size + 1 + 1, 0, none⟩) (by dsimp only; omega) _).setCell (p := ⟨w.heap.size + 1 + 1, 1, none⟩) (by dsimp only; omega) _)⟩

set_option maxRecDepth 100000 in
set_option maxHeartbeats 6400000 in
theorem factor_TTF (la : Option Addr) (ln lc : Nat) (ra : Option Addr) (rn rc : Nat) (ml mh il ih al ah : Int) (lo hi : Int) (w : World) (h1 : lo < ml) (h2 : ml ≤ hi) (h3 : ¬ mh < hi) (hm : ml ≤ mh) (hb : lo ≤ hi) :
    Calls Try.prog 68 #[.agg #[.slice la ln lc, .slice ra rn rc, .int .i64 ml, .int .i64 mh, .int .i64 il, .int .i64 ih, .int .i64 al, .int .i64 ah], .agg #[.int .i64 lo, .int .i64 hi]] w fun e w' => e = .returned (.agg #[.int .i64 (min 1000 il), .int .i64 (max 1000 ih)]) ∧ Below w.heap.size w w' := by
  obtain ⟨i0, hi0, hz0, hz1, hz2⟩ := info_parts info24
  have d1 : decide (lo < ml) = true := by exact decide_eq_true h1
  have d2 : decide (lo ≤ mh) = true := by first | exact decide_eq_true (by omega) | exact decide_eq_false (by omega)
  have d3 : decide (ml ≤ hi) = true := by first | exact decide_eq_true (by omega) | exact decide_eq_false (by omega)
  have d4 : decide (mh < hi) = false := by exact decide_eq_false h3
  obtain ⟨A, hA, bA, zA, m0, m1, m2, m3, m4, m5, m6, m7, b0, b1, r0, r1, g0, g1⟩ := fac_boxes26 w la ln lc ra rn rc ml mh il ih al ah lo hi
  have R := Lib.hid (show FW w A la ln lc ra rn rc ml mh il ih al ah lo hi from ⟨m0, m1, m2, m3, m4, m5, m6, m7, b0, b1, r0, r1, g0, g1, by omega, bA⟩)
  have HW := Lib.hid (World.ownsRow_nil A (w.heap.size + 1 + 1 + 1) 24 2)
  clear m0 m1 m2 m3 m4 m5 m6 m7 b0 b1 r0 r1 g0 g1 bA zA h1 h2 h3 hm hb
  go_enter Try.func68, Try.ntmps68
  go_wp2_with fail
  rw [← hA]
  clear hA
  refine (only_any 1000 _).mono ?_; rintro e X ⟨rfl, hbX⟩
  have HW := Lib.hid (owns_keep HW.out hbX)
  have R := Lib.hid (R.out.keep hbX R.out.z)
  clear hbX
  obtain ⟨m0, m1, m2, m3, m4, m5, m6, m7, b0, b1, r0, r1, g0, g1, hz, hbw⟩ := R.out
  have hown := HW.out
  go_wp2_with (first | (at_builtin; refine wpList_append_own _ rfl _ _ 44 rfl (w.heap.size + 1 + 1 + 1) 24 i0 (.agg #[.int .i64 0, .int .i64 0]) 2 16 Try.underlying44 hi0 hz0 hz1 hz2 rfl (by decide) _ _ _ rfl (hown.alloc _) ⟨X.heap.size, 0, none⟩ 1 1 [.int .i64 1000, .int .i64 1000] rfl rfl (cell_two_new _ _ _ _) ?c20 ?c30 ?c40 ?c50 ?_) | go_in)
  case c20 => intro u hu; simp at hu; rcases hu with rfl | rfl <;> rfl
  case c30 => unfold maxLen; omega
  case c40 => omega
  case c50 => simp; omega
  intro v0 W0 hown' hgrow _
  have B7 : Below (w.heap.size + 1 + 1 + 1) X W0 := Below.grown ((Below.refl _ X).alloc (by omega) _) hgrow (by simp; omega) (fun k hk => (HW.out.lt k hk).1)
  have R := Lib.hid (R.out.keep B7 (by omega))
  have HW := Lib.hid hown'
  clear hown hown' hgrow B7 m0 m1 m2 m3 m4 m5 m6 m7 b0 b1 r0 r1 g0 g1 hz hbw
  obtain ⟨m0, m1, m2, m3, m4, m5, m6, m7, b0, b1, r0, r1, g0, g1, hz, hbw⟩ := R.out
  have zz : w.heap.size + 1 + 1 < W0.heap.size := hz
  have hown := HW.out
  go_wp2_with (first | (at_builtin; refine wpList_append_own _ rfl _ _ 44 rfl (w.heap.size + 1 + 1 + 1) 24 i0 (.agg #[.int .i64 0, .int .i64 0]) 2 16 Try.underlying44 hi0 hz0 hz1 hz2 rfl (by decide) _ _ _ rfl (hown.alloc _) ⟨W0.heap.size, 0, none⟩ 1 1 [.int .i64 il, .int .i64 ih] rfl rfl (cell_two_new _ _ _ _) ?c21 ?c31 ?c41 ?c51 ?_) | go_in)
  case c21 => intro u hu; simp at hu; rcases hu with rfl | rfl <;> rfl
  case c31 => unfold maxLen; omega
  case c41 => omega
  case c51 => simp; omega
  intro v1 W1 hown' hgrow _
  have B7 : Below (w.heap.size + 1 + 1 + 1) W0 W1 := Below.grown ((Below.refl _ W0).alloc (by omega) _) hgrow (by simp; omega) (fun k hk => (HW.out.lt k hk).1)
  have R := Lib.hid (R.out.keep B7 (by omega))
  have HW := Lib.hid hown'
  clear hown hown' hgrow B7 m0 m1 m2 m3 m4 m5 m6 m7 b0 b1 r0 r1 g0 g1 hz hbw
  obtain ⟨m0, m1, m2, m3, m4, m5, m6, m7, b0, b1, r0, r1, g0, g1, hz, hbw⟩ := R.out
  have zz : w.heap.size + 1 + 1 < W1.heap.size := hz
  obtain ⟨q, cap, rfl, hq1, hq2, hq3, hq4⟩ := row_form HW.out (by decide)
  unfold maxLen at hq4
  have e00 : W1.cell? ⟨q, 0, none⟩ = some (.int .i64 1000) := HW.out.cellAt 0 (by decide)
  have e01 : W1.cell? ⟨q, 1, none⟩ = some (.int .i64 1000) := HW.out.cellAt 1 (by decide)
  have e10 : W1.cell? ⟨q, 2, none⟩ = some (.int .i64 il) := HW.out.cellAt 2 (by decide)
  have e11 : W1.cell? ⟨q, 3, none⟩ = some (.int .i64 ih) := HW.out.cellAt 3 (by decide)
  obtain ⟨RX, hRX⟩ : ∃ x, x = (min 1000 il) := ⟨_, rfl⟩
  obtain ⟨RY, hRY⟩ : ∃ x, x = (max 1000 ih) := ⟨_, rfl⟩
  have HRX := Lib.hid (And.intro hRX hRY)
  have HU := Lib.hid (fun (sc : Nat) V (hW : Below W1.heap.size W1 V) => show Calls Try.prog 98 #[.agg #[.int .i64 1000, .int .i64 1000], .slice (some ⟨q, 2, none⟩) 1 sc] V fun e w' => e = .returned (.agg #[.int .i64 RX, .int .i64 RY]) ∧ Below V.heap.size V w' from by rw [hRX, hRY]; exact hull_any 1000 1000 (some ⟨q, 2, none⟩) 1 sc (fun i => (il, ih)) V (by decide) (.inr ⟨q, 2, rfl, Nat.lt_of_lt_of_le hq2 hW.size, fun i hi => by
    match i, hi with
    | 0, _ => exact ⟨keepB hW hq2 e10, keepB hW hq2 e11⟩⟩))
  clear hRX hRY
  have HE := Lib.hid HW.out
  clear HW
  have c1 : ¬ cap = 1 := by omega
  have c2 : (1 : Int) ≤ (cap : Int) := by omega
  have HS := Lib.hid (show (fun w' : World => w'.cell? ⟨q, 0, none⟩ = some (.int .i64 1000) ∧ w'.cell? ⟨q, 1, none⟩ = some (.int .i64 1000) ∧ w'.cell? ⟨w.heap.size + 1 + 1, 0, none⟩ = some (.int .i64 0) ∧ w'.cell? ⟨w.heap.size + 1 + 1, 1, none⟩ = some (.int .i64 0) ∧ Below W1.drew.heap.size W1.drew w') W1.drew from ⟨e00, e01, r0, r1, Below.refl _ _⟩)
  go_wp2_with fail
  refine wp_region_held_tail (S := (fun w' : World => w'.cell? ⟨q, 0, none⟩ = some (.int .i64 1000) ∧ w'.cell? ⟨q, 1, none⟩ = some (.int .i64 1000) ∧ w'.cell? ⟨w.heap.size + 1 + 1, 0, none⟩ = some (.int .i64 0) ∧ w'.cell? ⟨w.heap.size + 1 + 1, 1, none⟩ = some (.int .i64 0) ∧ Below W1.drew.heap.size W1.drew w')) 6 (by kernel_rfl) (by kernel_rfl) HS.out (fun hHeld => ?_)
  refine wpAnyH_take (i := 0) (v := ?v0_16) rfl (by kernel_rfl) (by kernel_rfl) (by kernel_rfl) (fun _ _ _ h => h) (Or.inl ⟨by rfl, ?hy0_16⟩) (by assumption) ?rest0_16
  case hy0_16 => (intro w hSw; (try dsimp only at hSw); go_simp; (try with_reducible rfl))
  try simp only [Act.put, List.getElem_toArray, List.getElem_cons_zero, List.getElem_cons_succ, List.setIfInBounds_toArray, List.set_cons_zero, List.set_cons_succ]
  refine wpAnyH_take (i := 1) (v := ?v1_17) rfl (by kernel_rfl) (by kernel_rfl) (by kernel_rfl) (fun _ _ _ h => h) (Or.inl ⟨by rfl, ?hy1_17⟩) (by assumption) ?rest1_17
  case hy1_17 => (intro w hSw; (try dsimp only at hSw); go_simp; (try with_reducible rfl))
  try simp only [Act.put, List.getElem_toArray, List.getElem_cons_zero, List.getElem_cons_succ, List.setIfInBounds_toArray, List.set_cons_zero, List.set_cons_succ]
  refine wpAnyH_take (i := 2) (v := ?v2_18) rfl (by kernel_rfl) (by kernel_rfl) (by kernel_rfl) (fun _ _ _ h => h) (Or.inl ⟨by rfl, ?hy2_18⟩) (by assumption) ?rest2_18
  case hy2_18 => (intro w hSw; (try dsimp only at hSw); go_simp; (try with_reducible rfl))
  try simp only [Act.put, List.getElem_toArray, List.getElem_cons_zero, List.getElem_cons_succ, List.setIfInBounds_toArray, List.set_cons_zero, List.set_cons_succ]
  refine wpAnyH_take (i := 3) (v := ?v3_19) rfl (by kernel_rfl) (by kernel_rfl) (by kernel_rfl) (fun _ _ _ h => h) (Or.inl ⟨by rfl, ?hy3_19⟩) (by assumption) ?rest3_19
  case hy3_19 => (intro w hSw; (try dsimp only at hSw); go_simp; (try with_reducible rfl))
  try simp only [Act.put, List.getElem_toArray, List.getElem_cons_zero, List.getElem_cons_succ, List.setIfInBounds_toArray, List.set_cons_zero, List.set_cons_succ]
  refine wpAnyH_take (i := 4) (v := ?v4_20) rfl (by kernel_rfl) (by kernel_rfl) (by kernel_rfl) (fun _ _ _ h => h) (Or.inl ⟨by rfl, ?hy4_20⟩) (by assumption) ?rest4_20
  case hy4_20 => (intro w hSw; (try dsimp only at hSw); go_simp; (try with_reducible rfl))
  try simp only [Act.put, List.getElem_toArray, List.getElem_cons_zero, List.getElem_cons_succ, List.setIfInBounds_toArray, List.set_cons_zero, List.set_cons_succ]
  refine wpAnyH_ready (rs := [5]) (by kernel_rfl) (by simp) ?_
  refine AllReadyH.cons rfl (fun K hK => ?_) AllReadyH.nil
  go_simp; go_at_call 98; refine (HU.out _ _ ((Below.refl W1.heap.size W1).drew.trans (hHeld.2.2.2.2.mono (Nat.le_refl _)))).mono ?_; rintro e' w' ⟨rfl, hb'⟩
  refine hK.out _ _ (⟨keepW hb' hHeld.1, keepW hb' hHeld.2.1, keepW hb' hHeld.2.2.1, keepW hb' hHeld.2.2.2.1, hHeld.2.2.2.2.trans (hb'.mono hHeld.2.2.2.2.size)⟩) (fun hHeld2 => ?_)
  clear hK K hHeld hb'
  have hHeld := hHeld2
  clear hHeld2
  try simp only [Act.put, List.getElem_toArray, List.getElem_cons_zero, List.getElem_cons_succ, List.setIfInBounds_toArray, List.set_cons_zero, List.set_cons_succ]
  refine wpAnyH_done (by kernel_rfl) ?_ _
  change wpList _ _ _ _ _ _
  simp only [List.drop_succ_cons, List.drop_zero]
  obtain ⟨p0, p1, p2, p3, pb⟩ := hHeld
  rename World => V
  have x0 : V.frozen? ⟨w.heap.size + 1 + 1, 0, none⟩ = false := by rw [pb.frozen (p := ⟨w.heap.size + 1 + 1, 0, none⟩) (show w.heap.size + 1 + 1 < W1.drew.heap.size by have : W1.drew.heap.size = W1.heap.size := rfl; omega)]; exact g0
  have x1 : V.frozen? ⟨w.heap.size + 1 + 1, 1, none⟩ = false := by rw [pb.frozen (p := ⟨w.heap.size + 1 + 1, 1, none⟩) (show w.heap.size + 1 + 1 < W1.drew.heap.size by have : W1.drew.heap.size = W1.heap.size := rfl; omega)]; exact g1
  have bV := hbw.drew.trans (pb.mono hbw.drew.size)
  have zV : w.heap.size + 1 + 1 < V.heap.size := Nat.lt_of_lt_of_le hz pb.size
  clear pb HS g0 g1
  go_wp2
  exact bodyPost_ret (v := .agg #[.int .i64 RX, .int .i64 RY]) (by simp [results, Try.results68, go_sem, set_same (i := 0) (v := .int .i64 RX) p2, set_other (i := 1) (j := 0) (v := .int .i64 RY) (by decide) (set_same (i := 0) (v := .int .i64 RX) p2), set_same (i := 1) (v := .int .i64 RY) (set_other (i := 0) (j := 1) (v := .int .i64 RX) (by decide) p3)]) rfl ⟨by rw [HRX.out.1, HRX.out.2], ((bV.setCell (p := ⟨w.heap.size + 1 + 1, 0, none⟩) (by dsimp only; omega) _).setCell (p := ⟨w.heap.size + 1 + 1, 1, none⟩) (by dsimp only; omega) _)⟩

set_option maxRecDepth 100000 in
set_option maxHeartbeats 6400000 in
theorem factor_TTT (la : Option Addr) (ln lc : Nat) (ra : Option Addr) (rn rc : Nat) (ml mh il ih al ah : Int) (lo hi : Int) (w : World) (h1 : lo < ml) (h2 : ml ≤ hi) (h3 : mh < hi) (hm : ml ≤ mh) (hb : lo ≤ hi) :
    Calls Try.prog 68 #[.agg #[.slice la ln lc, .slice ra rn rc, .int .i64 ml, .int .i64 mh, .int .i64 il, .int .i64 ih, .int .i64 al, .int .i64 ah], .agg #[.int .i64 lo, .int .i64 hi]] w fun e w' => e = .returned (.agg #[.int .i64 (min (min 1000 il) al), .int .i64 (max (max 1000 ih) ah)]) ∧ Below w.heap.size w w' := by
  obtain ⟨i0, hi0, hz0, hz1, hz2⟩ := info_parts info24
  have d1 : decide (lo < ml) = true := by exact decide_eq_true h1
  have d2 : decide (lo ≤ mh) = true := by first | exact decide_eq_true (by omega) | exact decide_eq_false (by omega)
  have d3 : decide (ml ≤ hi) = true := by first | exact decide_eq_true (by omega) | exact decide_eq_false (by omega)
  have d4 : decide (mh < hi) = true := by exact decide_eq_true h3
  obtain ⟨A, hA, bA, zA, m0, m1, m2, m3, m4, m5, m6, m7, b0, b1, r0, r1, g0, g1⟩ := fac_boxes26 w la ln lc ra rn rc ml mh il ih al ah lo hi
  have R := Lib.hid (show FW w A la ln lc ra rn rc ml mh il ih al ah lo hi from ⟨m0, m1, m2, m3, m4, m5, m6, m7, b0, b1, r0, r1, g0, g1, by omega, bA⟩)
  have HW := Lib.hid (World.ownsRow_nil A (w.heap.size + 1 + 1 + 1) 24 2)
  clear m0 m1 m2 m3 m4 m5 m6 m7 b0 b1 r0 r1 g0 g1 bA zA h1 h2 h3 hm hb
  go_enter Try.func68, Try.ntmps68
  go_wp2_with fail
  rw [← hA]
  clear hA
  refine (only_any 1000 _).mono ?_; rintro e X ⟨rfl, hbX⟩
  have HW := Lib.hid (owns_keep HW.out hbX)
  have R := Lib.hid (R.out.keep hbX R.out.z)
  clear hbX
  obtain ⟨m0, m1, m2, m3, m4, m5, m6, m7, b0, b1, r0, r1, g0, g1, hz, hbw⟩ := R.out
  have hown := HW.out
  go_wp2_with (first | (at_builtin; refine wpList_append_own _ rfl _ _ 44 rfl (w.heap.size + 1 + 1 + 1) 24 i0 (.agg #[.int .i64 0, .int .i64 0]) 2 16 Try.underlying44 hi0 hz0 hz1 hz2 rfl (by decide) _ _ _ rfl (hown.alloc _) ⟨X.heap.size, 0, none⟩ 1 1 [.int .i64 1000, .int .i64 1000] rfl rfl (cell_two_new _ _ _ _) ?c20 ?c30 ?c40 ?c50 ?_) | go_in)
  case c20 => intro u hu; simp at hu; rcases hu with rfl | rfl <;> rfl
  case c30 => unfold maxLen; omega
  case c40 => omega
  case c50 => simp; omega
  intro v0 W0 hown' hgrow _
  have B7 : Below (w.heap.size + 1 + 1 + 1) X W0 := Below.grown ((Below.refl _ X).alloc (by omega) _) hgrow (by simp; omega) (fun k hk => (HW.out.lt k hk).1)
  have R := Lib.hid (R.out.keep B7 (by omega))
  have HW := Lib.hid hown'
  clear hown hown' hgrow B7 m0 m1 m2 m3 m4 m5 m6 m7 b0 b1 r0 r1 g0 g1 hz hbw
  obtain ⟨m0, m1, m2, m3, m4, m5, m6, m7, b0, b1, r0, r1, g0, g1, hz, hbw⟩ := R.out
  have zz : w.heap.size + 1 + 1 < W0.heap.size := hz
  have hown := HW.out
  go_wp2_with (first | (at_builtin; refine wpList_append_own _ rfl _ _ 44 rfl (w.heap.size + 1 + 1 + 1) 24 i0 (.agg #[.int .i64 0, .int .i64 0]) 2 16 Try.underlying44 hi0 hz0 hz1 hz2 rfl (by decide) _ _ _ rfl (hown.alloc _) ⟨W0.heap.size, 0, none⟩ 1 1 [.int .i64 il, .int .i64 ih] rfl rfl (cell_two_new _ _ _ _) ?c21 ?c31 ?c41 ?c51 ?_) | go_in)
  case c21 => intro u hu; simp at hu; rcases hu with rfl | rfl <;> rfl
  case c31 => unfold maxLen; omega
  case c41 => omega
  case c51 => simp; omega
  intro v1 W1 hown' hgrow _
  have B7 : Below (w.heap.size + 1 + 1 + 1) W0 W1 := Below.grown ((Below.refl _ W0).alloc (by omega) _) hgrow (by simp; omega) (fun k hk => (HW.out.lt k hk).1)
  have R := Lib.hid (R.out.keep B7 (by omega))
  have HW := Lib.hid hown'
  clear hown hown' hgrow B7 m0 m1 m2 m3 m4 m5 m6 m7 b0 b1 r0 r1 g0 g1 hz hbw
  obtain ⟨m0, m1, m2, m3, m4, m5, m6, m7, b0, b1, r0, r1, g0, g1, hz, hbw⟩ := R.out
  have zz : w.heap.size + 1 + 1 < W1.heap.size := hz
  have hown := HW.out
  go_wp2_with (first | (at_builtin; refine wpList_append_own _ rfl _ _ 44 rfl (w.heap.size + 1 + 1 + 1) 24 i0 (.agg #[.int .i64 0, .int .i64 0]) 2 16 Try.underlying44 hi0 hz0 hz1 hz2 rfl (by decide) _ _ _ rfl (hown.alloc _) ⟨W1.heap.size, 0, none⟩ 1 1 [.int .i64 al, .int .i64 ah] rfl rfl (cell_two_new _ _ _ _) ?c22 ?c32 ?c42 ?c52 ?_) | go_in)
  case c22 => intro u hu; simp at hu; rcases hu with rfl | rfl <;> rfl
  case c32 => unfold maxLen; omega
  case c42 => omega
  case c52 => simp; omega
  intro v2 W2 hown' hgrow _
  have B7 : Below (w.heap.size + 1 + 1 + 1) W1 W2 := Below.grown ((Below.refl _ W1).alloc (by omega) _) hgrow (by simp; omega) (fun k hk => (HW.out.lt k hk).1)
  have R := Lib.hid (R.out.keep B7 (by omega))
  have HW := Lib.hid hown'
  clear hown hown' hgrow B7 m0 m1 m2 m3 m4 m5 m6 m7 b0 b1 r0 r1 g0 g1 hz hbw
  obtain ⟨m0, m1, m2, m3, m4, m5, m6, m7, b0, b1, r0, r1, g0, g1, hz, hbw⟩ := R.out
  have zz : w.heap.size + 1 + 1 < W2.heap.size := hz
  obtain ⟨q, cap, rfl, hq1, hq2, hq3, hq4⟩ := row_form HW.out (by decide)
  unfold maxLen at hq4
  have e00 : W2.cell? ⟨q, 0, none⟩ = some (.int .i64 1000) := HW.out.cellAt 0 (by decide)
  have e01 : W2.cell? ⟨q, 1, none⟩ = some (.int .i64 1000) := HW.out.cellAt 1 (by decide)
  have e10 : W2.cell? ⟨q, 2, none⟩ = some (.int .i64 il) := HW.out.cellAt 2 (by decide)
  have e11 : W2.cell? ⟨q, 3, none⟩ = some (.int .i64 ih) := HW.out.cellAt 3 (by decide)
  have e20 : W2.cell? ⟨q, 4, none⟩ = some (.int .i64 al) := HW.out.cellAt 4 (by decide)
  have e21 : W2.cell? ⟨q, 5, none⟩ = some (.int .i64 ah) := HW.out.cellAt 5 (by decide)
  obtain ⟨RX, hRX⟩ : ∃ x, x = (min (min 1000 il) al) := ⟨_, rfl⟩
  obtain ⟨RY, hRY⟩ : ∃ x, x = (max (max 1000 ih) ah) := ⟨_, rfl⟩
  have HRX := Lib.hid (And.intro hRX hRY)
  have HU := Lib.hid (fun (sc : Nat) V (hW : Below W2.heap.size W2 V) => show Calls Try.prog 98 #[.agg #[.int .i64 1000, .int .i64 1000], .slice (some ⟨q, 2, none⟩) 2 sc] V fun e w' => e = .returned (.agg #[.int .i64 RX, .int .i64 RY]) ∧ Below V.heap.size V w' from by rw [hRX, hRY]; exact hull_any 1000 1000 (some ⟨q, 2, none⟩) 2 sc (fun i => if i = 0 then (il, ih) else (al, ah)) V (by decide) (.inr ⟨q, 2, rfl, Nat.lt_of_lt_of_le hq2 hW.size, fun i hi => by
    match i, hi with
    | 0, _ => exact ⟨keepB hW hq2 e10, keepB hW hq2 e11⟩
    | 1, _ => exact ⟨keepB hW hq2 e20, keepB hW hq2 e21⟩⟩))
  clear hRX hRY
  have HE := Lib.hid HW.out
  clear HW
  have c1 : ¬ cap = 1 := by omega
  have c2 : (1 : Int) ≤ (cap : Int) := by omega
  have HS := Lib.hid (show (fun w' : World => w'.cell? ⟨q, 0, none⟩ = some (.int .i64 1000) ∧ w'.cell? ⟨q, 1, none⟩ = some (.int .i64 1000) ∧ w'.cell? ⟨w.heap.size + 1 + 1, 0, none⟩ = some (.int .i64 0) ∧ w'.cell? ⟨w.heap.size + 1 + 1, 1, none⟩ = some (.int .i64 0) ∧ Below W2.drew.heap.size W2.drew w') W2.drew from ⟨e00, e01, r0, r1, Below.refl _ _⟩)
  go_wp2_with fail
  refine wp_region_held_tail (S := (fun w' : World => w'.cell? ⟨q, 0, none⟩ = some (.int .i64 1000) ∧ w'.cell? ⟨q, 1, none⟩ = some (.int .i64 1000) ∧ w'.cell? ⟨w.heap.size + 1 + 1, 0, none⟩ = some (.int .i64 0) ∧ w'.cell? ⟨w.heap.size + 1 + 1, 1, none⟩ = some (.int .i64 0) ∧ Below W2.drew.heap.size W2.drew w')) 6 (by kernel_rfl) (by kernel_rfl) HS.out (fun hHeld => ?_)
  refine wpAnyH_take (i := 0) (v := ?v0_21) rfl (by kernel_rfl) (by kernel_rfl) (by kernel_rfl) (fun _ _ _ h => h) (Or.inl ⟨by rfl, ?hy0_21⟩) (by assumption) ?rest0_21
  case hy0_21 => (intro w hSw; (try dsimp only at hSw); go_simp; (try with_reducible rfl))
  try simp only [Act.put, List.getElem_toArray, List.getElem_cons_zero, List.getElem_cons_succ, List.setIfInBounds_toArray, List.set_cons_zero, List.set_cons_succ]
  refine wpAnyH_take (i := 1) (v := ?v1_22) rfl (by kernel_rfl) (by kernel_rfl) (by kernel_rfl) (fun _ _ _ h => h) (Or.inl ⟨by rfl, ?hy1_22⟩) (by assumption) ?rest1_22
  case hy1_22 => (intro w hSw; (try dsimp only at hSw); go_simp; (try with_reducible rfl))
  try simp only [Act.put, List.getElem_toArray, List.getElem_cons_zero, List.getElem_cons_succ, List.setIfInBounds_toArray, List.set_cons_zero, List.set_cons_succ]
  refine wpAnyH_take (i := 2) (v := ?v2_23) rfl (by kernel_rfl) (by kernel_rfl) (by kernel_rfl) (fun _ _ _ h => h) (Or.inl ⟨by rfl, ?hy2_23⟩) (by assumption) ?rest2_23
  case hy2_23 => (intro w hSw; (try dsimp only at hSw); go_simp; (try with_reducible rfl))
  try simp only [Act.put, List.getElem_toArray, List.getElem_cons_zero, List.getElem_cons_succ, List.setIfInBounds_toArray, List.set_cons_zero, List.set_cons_succ]
  refine wpAnyH_take (i := 3) (v := ?v3_24) rfl (by kernel_rfl) (by kernel_rfl) (by kernel_rfl) (fun _ _ _ h => h) (Or.inl ⟨by rfl, ?hy3_24⟩) (by assumption) ?rest3_24
  case hy3_24 => (intro w hSw; (try dsimp only at hSw); go_simp; (try with_reducible rfl))
  try simp only [Act.put, List.getElem_toArray, List.getElem_cons_zero, List.getElem_cons_succ, List.setIfInBounds_toArray, List.set_cons_zero, List.set_cons_succ]
  refine wpAnyH_take (i := 4) (v := ?v4_25) rfl (by kernel_rfl) (by kernel_rfl) (by kernel_rfl) (fun _ _ _ h => h) (Or.inl ⟨by rfl, ?hy4_25⟩) (by assumption) ?rest4_25
  case hy4_25 => (intro w hSw; (try dsimp only at hSw); go_simp; (try with_reducible rfl))
  try simp only [Act.put, List.getElem_toArray, List.getElem_cons_zero, List.getElem_cons_succ, List.setIfInBounds_toArray, List.set_cons_zero, List.set_cons_succ]
  refine wpAnyH_ready (rs := [5]) (by kernel_rfl) (by simp) ?_
  refine AllReadyH.cons rfl (fun K hK => ?_) AllReadyH.nil
  go_simp; go_at_call 98; refine (HU.out _ _ ((Below.refl W2.heap.size W2).drew.trans (hHeld.2.2.2.2.mono (Nat.le_refl _)))).mono ?_; rintro e' w' ⟨rfl, hb'⟩
  refine hK.out _ _ (⟨keepW hb' hHeld.1, keepW hb' hHeld.2.1, keepW hb' hHeld.2.2.1, keepW hb' hHeld.2.2.2.1, hHeld.2.2.2.2.trans (hb'.mono hHeld.2.2.2.2.size)⟩) (fun hHeld2 => ?_)
  clear hK K hHeld hb'
  have hHeld := hHeld2
  clear hHeld2
  try simp only [Act.put, List.getElem_toArray, List.getElem_cons_zero, List.getElem_cons_succ, List.setIfInBounds_toArray, List.set_cons_zero, List.set_cons_succ]
  refine wpAnyH_done (by kernel_rfl) ?_ _
  change wpList _ _ _ _ _ _
  simp only [List.drop_succ_cons, List.drop_zero]
  obtain ⟨p0, p1, p2, p3, pb⟩ := hHeld
  rename World => V
  have x0 : V.frozen? ⟨w.heap.size + 1 + 1, 0, none⟩ = false := by rw [pb.frozen (p := ⟨w.heap.size + 1 + 1, 0, none⟩) (show w.heap.size + 1 + 1 < W2.drew.heap.size by have : W2.drew.heap.size = W2.heap.size := rfl; omega)]; exact g0
  have x1 : V.frozen? ⟨w.heap.size + 1 + 1, 1, none⟩ = false := by rw [pb.frozen (p := ⟨w.heap.size + 1 + 1, 1, none⟩) (show w.heap.size + 1 + 1 < W2.drew.heap.size by have : W2.drew.heap.size = W2.heap.size := rfl; omega)]; exact g1
  have bV := hbw.drew.trans (pb.mono hbw.drew.size)
  have zV : w.heap.size + 1 + 1 < V.heap.size := Nat.lt_of_lt_of_le hz pb.size
  clear pb HS g0 g1
  go_wp2
  exact bodyPost_ret (v := .agg #[.int .i64 RX, .int .i64 RY]) (by simp [results, Try.results68, go_sem, set_same (i := 0) (v := .int .i64 RX) p2, set_other (i := 1) (j := 0) (v := .int .i64 RY) (by decide) (set_same (i := 0) (v := .int .i64 RX) p2), set_same (i := 1) (v := .int .i64 RY) (set_other (i := 0) (j := 1) (v := .int .i64 RX) (by decide) p3)]) rfl ⟨by rw [HRX.out.1, HRX.out.2], ((bV.setCell (p := ⟨w.heap.size + 1 + 1, 0, none⟩) (by dsimp only; omega) _).setCell (p := ⟨w.heap.size + 1 + 1, 1, none⟩) (by dsimp only; omega) _)⟩

set_option maxRecDepth 100000 in
set_option maxHeartbeats 6400000 in
theorem factor_FTF (la : Option Addr) (ln lc : Nat) (ra : Option Addr) (rn rc : Nat) (ml mh il ih al ah : Int) (lo hi : Int) (w : World) (h1 : ¬ lo < ml) (h2 : lo ≤ mh) (h3 : ¬ mh < hi) (hm : ml ≤ mh) (hb : lo ≤ hi) :
    Calls Try.prog 68 #[.agg #[.slice la ln lc, .slice ra rn rc, .int .i64 ml, .int .i64 mh, .int .i64 il, .int .i64 ih, .int .i64 al, .int .i64 ah], .agg #[.int .i64 lo, .int .i64 hi]] w fun e w' => e = .returned (.agg #[.int .i64 il, .int .i64 ih]) ∧ Below w.heap.size w w' := by
  obtain ⟨i0, hi0, hz0, hz1, hz2⟩ := info_parts info24
  have d1 : decide (lo < ml) = false := by exact decide_eq_false h1
  have d2 : decide (lo ≤ mh) = true := by first | exact decide_eq_true (by omega) | exact decide_eq_false (by omega)
  have d3 : decide (ml ≤ hi) = true := by first | exact decide_eq_true (by omega) | exact decide_eq_false (by omega)
  have d4 : decide (mh < hi) = false := by exact decide_eq_false h3
  obtain ⟨A, hA, bA, zA, m0, m1, m2, m3, m4, m5, m6, m7, b0, b1, r0, r1, g0, g1⟩ := fac_boxes26 w la ln lc ra rn rc ml mh il ih al ah lo hi
  have R := Lib.hid (show FW w A la ln lc ra rn rc ml mh il ih al ah lo hi from ⟨m0, m1, m2, m3, m4, m5, m6, m7, b0, b1, r0, r1, g0, g1, by omega, bA⟩)
  have HW := Lib.hid (World.ownsRow_nil A (w.heap.size + 1 + 1 + 1) 24 2)
  clear m0 m1 m2 m3 m4 m5 m6 m7 b0 b1 r0 r1 g0 g1 bA zA h1 h2 h3 hm hb
  go_enter Try.func68, Try.ntmps68
  go_upto_region 4 with fail
  rw [← hA]
  clear hA
  obtain ⟨m0, m1, m2, m3, m4, m5, m6, m7, b0, b1, r0, r1, g0, g1, hz, hbw⟩ := R.out
  have hown := HW.out
  go_wp2_with (first | (at_builtin; refine wpList_append_own _ rfl _ _ 44 rfl (w.heap.size + 1 + 1 + 1) 24 i0 (.agg #[.int .i64 0, .int .i64 0]) 2 16 Try.underlying44 hi0 hz0 hz1 hz2 rfl (by decide) _ _ _ rfl (hown.alloc _) ⟨A.heap.size, 0, none⟩ 1 1 [.int .i64 il, .int .i64 ih] rfl rfl (cell_two_new _ _ _ _) ?c20 ?c30 ?c40 ?c50 ?_) | go_in)
  case c20 => intro u hu; simp at hu; rcases hu with rfl | rfl <;> rfl
  case c30 => unfold maxLen; omega
  case c40 => omega
  case c50 => simp; omega
  intro v0 W0 hown' hgrow _
  have B7 : Below (w.heap.size + 1 + 1 + 1) A W0 := Below.grown ((Below.refl _ A).alloc (by omega) _) hgrow (by simp; omega) (fun k hk => (HW.out.lt k hk).1)
  have R := Lib.hid (R.out.keep B7 (by omega))
  have HW := Lib.hid hown'
  clear hown hown' hgrow B7 m0 m1 m2 m3 m4 m5 m6 m7 b0 b1 r0 r1 g0 g1 hz hbw
  obtain ⟨m0, m1, m2, m3, m4, m5, m6, m7, b0, b1, r0, r1, g0, g1, hz, hbw⟩ := R.out
  have zz : w.heap.size + 1 + 1 < W0.heap.size := hz
  obtain ⟨q, cap, rfl, hq1, hq2, hq3, hq4⟩ := row_form HW.out (by decide)
  unfold maxLen at hq4
  have e00 : W0.cell? ⟨q, 0, none⟩ = some (.int .i64 il) := HW.out.cellAt 0 (by decide)
  have e01 : W0.cell? ⟨q, 1, none⟩ = some (.int .i64 ih) := HW.out.cellAt 1 (by decide)
  have HE := Lib.hid HW.out
  clear HW
  have HS := Lib.hid (show (fun w' : World => w'.cell? ⟨q, 0, none⟩ = some (.int .i64 il) ∧ w'.cell? ⟨q, 1, none⟩ = some (.int .i64 ih) ∧ w'.cell? ⟨w.heap.size + 1 + 1, 0, none⟩ = some (.int .i64 0) ∧ w'.cell? ⟨w.heap.size + 1 + 1, 1, none⟩ = some (.int .i64 0) ∧ Below W0.drew.heap.size W0.drew w') W0.drew from ⟨e00, e01, r0, r1, Below.refl _ _⟩)
  by_cases c1 : cap = 1
  · skip
    obtain rfl : cap = 1 := c1
    go_wp2_with fail
    refine wp_region_held_tail (S := (fun w' : World => w'.cell? ⟨q, 0, none⟩ = some (.int .i64 il) ∧ w'.cell? ⟨q, 1, none⟩ = some (.int .i64 ih) ∧ w'.cell? ⟨w.heap.size + 1 + 1, 0, none⟩ = some (.int .i64 0) ∧ w'.cell? ⟨w.heap.size + 1 + 1, 1, none⟩ = some (.int .i64 0) ∧ Below W0.drew.heap.size W0.drew w')) 6 (by kernel_rfl) (by kernel_rfl) HS.out (fun hHeld => ?_)
    refine wpAnyH_take (i := 0) (v := ?v0_31) rfl (by kernel_rfl) (by kernel_rfl) (by kernel_rfl) (fun _ _ _ h => h) (Or.inl ⟨by rfl, ?hy0_31⟩) (by assumption) ?rest0_31
    case hy0_31 => (intro w hSw; (try dsimp only at hSw); go_simp; (try with_reducible rfl))
    try simp only [Act.put, List.getElem_toArray, List.getElem_cons_zero, List.getElem_cons_succ, List.setIfInBounds_toArray, List.set_cons_zero, List.set_cons_succ]
    refine wpAnyH_take (i := 1) (v := ?v1_32) rfl (by kernel_rfl) (by kernel_rfl) (by kernel_rfl) (fun _ _ _ h => h) (Or.inl ⟨by rfl, ?hy1_32⟩) (by assumption) ?rest1_32
    case hy1_32 => (intro w hSw; (try dsimp only at hSw); go_simp; (try with_reducible rfl))
    try simp only [Act.put, List.getElem_toArray, List.getElem_cons_zero, List.getElem_cons_succ, List.setIfInBounds_toArray, List.set_cons_zero, List.set_cons_succ]
    refine wpAnyH_take (i := 2) (v := ?v2_33) rfl (by kernel_rfl) (by kernel_rfl) (by kernel_rfl) (fun _ _ _ h => h) (Or.inl ⟨by rfl, ?hy2_33⟩) (by assumption) ?rest2_33
    case hy2_33 => (intro w hSw; (try dsimp only at hSw); go_simp; (try with_reducible rfl))
    try simp only [Act.put, List.getElem_toArray, List.getElem_cons_zero, List.getElem_cons_succ, List.setIfInBounds_toArray, List.set_cons_zero, List.set_cons_succ]
    refine wpAnyH_take (i := 3) (v := ?v3_34) rfl (by kernel_rfl) (by kernel_rfl) (by kernel_rfl) (fun _ _ _ h => h) (Or.inl ⟨by rfl, ?hy3_34⟩) (by assumption) ?rest3_34
    case hy3_34 => (intro w hSw; (try dsimp only at hSw); go_simp; (try with_reducible rfl))
    try simp only [Act.put, List.getElem_toArray, List.getElem_cons_zero, List.getElem_cons_succ, List.setIfInBounds_toArray, List.set_cons_zero, List.set_cons_succ]
    refine wpAnyH_take (i := 4) (v := ?v4_35) rfl (by kernel_rfl) (by kernel_rfl) (by kernel_rfl) (fun _ _ _ h => h) (Or.inl ⟨by rfl, ?hy4_35⟩) (by assumption) ?rest4_35
    case hy4_35 => (intro w hSw; (try dsimp only at hSw); go_simp; (try with_reducible rfl))
    try simp only [Act.put, List.getElem_toArray, List.getElem_cons_zero, List.getElem_cons_succ, List.setIfInBounds_toArray, List.set_cons_zero, List.set_cons_succ]
    refine wpAnyH_ready (rs := [5]) (by kernel_rfl) (by simp) ?_
    refine AllReadyH.cons rfl (fun K hK => ?_) AllReadyH.nil
    go_simp; go_at_call 98; refine (hull_nil il ih _ _ _).mono ?_; rintro e' w' ⟨rfl, hb'⟩
    refine hK.out _ _ (⟨keepW hb' hHeld.1, keepW hb' hHeld.2.1, keepW hb' hHeld.2.2.1, keepW hb' hHeld.2.2.2.1, hHeld.2.2.2.2.trans (hb'.mono hHeld.2.2.2.2.size)⟩) (fun hHeld2 => ?_)
    clear hK K hHeld hb'
    have hHeld := hHeld2
    clear hHeld2
    try simp only [Act.put, List.getElem_toArray, List.getElem_cons_zero, List.getElem_cons_succ, List.setIfInBounds_toArray, List.set_cons_zero, List.set_cons_succ]
    refine wpAnyH_done (by kernel_rfl) ?_ _
    change wpList _ _ _ _ _ _
    simp only [List.drop_succ_cons, List.drop_zero]
    obtain ⟨p0, p1, p2, p3, pb⟩ := hHeld
    rename World => V
    have x0 : V.frozen? ⟨w.heap.size + 1 + 1, 0, none⟩ = false := by rw [pb.frozen (p := ⟨w.heap.size + 1 + 1, 0, none⟩) (show w.heap.size + 1 + 1 < W0.drew.heap.size by have : W0.drew.heap.size = W0.heap.size := rfl; omega)]; exact g0
    have x1 : V.frozen? ⟨w.heap.size + 1 + 1, 1, none⟩ = false := by rw [pb.frozen (p := ⟨w.heap.size + 1 + 1, 1, none⟩) (show w.heap.size + 1 + 1 < W0.drew.heap.size by have : W0.drew.heap.size = W0.heap.size := rfl; omega)]; exact g1
    have bV := hbw.drew.trans (pb.mono hbw.drew.size)
    have zV : w.heap.size + 1 + 1 < V.heap.size := Nat.lt_of_lt_of_le hz pb.size
    clear pb HS g0 g1
    go_wp2
    exact bodyPost_ret (v := .agg #[.int .i64 il, .int .i64 ih]) (by simp [results, Try.results68, go_sem, set_same (i := 0) (v := .int .i64 il) p2, set_other (i := 1) (j := 0) (v := .int .i64 ih) (by decide) (set_same (i := 0) (v := .int .i64 il) p2), set_same (i := 1) (v := .int .i64 ih) (set_other (i := 0) (j := 1) (v := .int .i64 il) (by decide) p3)]) rfl ⟨rfl, ((bV.setCell (p := ⟨w.heap.size + 1 + 1, 0, none⟩) (by dsimp only; omega) _).setCell (p := ⟨w.heap.size + 1 + 1, 1, none⟩) (by dsimp only; omega) _)⟩
  · skip
    go_wp2_with fail
    refine wp_region_held_tail (S := (fun w' : World => w'.cell? ⟨q, 0, none⟩ = some (.int .i64 il) ∧ w'.cell? ⟨q, 1, none⟩ = some (.int .i64 ih) ∧ w'.cell? ⟨w.heap.size + 1 + 1, 0, none⟩ = some (.int .i64 0) ∧ w'.cell? ⟨w.heap.size + 1 + 1, 1, none⟩ = some (.int .i64 0) ∧ Below W0.drew.heap.size W0.drew w')) 6 (by kernel_rfl) (by kernel_rfl) HS.out (fun hHeld => ?_)
    refine wpAnyH_take (i := 0) (v := ?v0_36) rfl (by kernel_rfl) (by kernel_rfl) (by kernel_rfl) (fun _ _ _ h => h) (Or.inl ⟨by rfl, ?hy0_36⟩) (by assumption) ?rest0_36
    case hy0_36 => (intro w hSw; (try dsimp only at hSw); go_simp; (try with_reducible rfl))
    try simp only [Act.put, List.getElem_toArray, List.getElem_cons_zero, List.getElem_cons_succ, List.setIfInBounds_toArray, List.set_cons_zero, List.set_cons_succ]
    refine wpAnyH_take (i := 1) (v := ?v1_37) rfl (by kernel_rfl) (by kernel_rfl) (by kernel_rfl) (fun _ _ _ h => h) (Or.inl ⟨by rfl, ?hy1_37⟩) (by assumption) ?rest1_37
    case hy1_37 => (intro w hSw; (try dsimp only at hSw); go_simp; (try with_reducible rfl))
    try simp only [Act.put, List.getElem_toArray, List.getElem_cons_zero, List.getElem_cons_succ, List.setIfInBounds_toArray, List.set_cons_zero, List.set_cons_succ]
    refine wpAnyH_take (i := 2) (v := ?v2_38) rfl (by kernel_rfl) (by kernel_rfl) (by kernel_rfl) (fun _ _ _ h => h) (Or.inl ⟨by rfl, ?hy2_38⟩) (by assumption) ?rest2_38
    case hy2_38 => (intro w hSw; (try dsimp only at hSw); go_simp; (try with_reducible rfl))
    try simp only [Act.put, List.getElem_toArray, List.getElem_cons_zero, List.getElem_cons_succ, List.setIfInBounds_toArray, List.set_cons_zero, List.set_cons_succ]
    refine wpAnyH_take (i := 3) (v := ?v3_39) rfl (by kernel_rfl) (by kernel_rfl) (by kernel_rfl) (fun _ _ _ h => h) (Or.inl ⟨by rfl, ?hy3_39⟩) (by assumption) ?rest3_39
    case hy3_39 => (intro w hSw; (try dsimp only at hSw); go_simp; (try with_reducible rfl))
    try simp only [Act.put, List.getElem_toArray, List.getElem_cons_zero, List.getElem_cons_succ, List.setIfInBounds_toArray, List.set_cons_zero, List.set_cons_succ]
    refine wpAnyH_take (i := 4) (v := ?v4_40) rfl (by kernel_rfl) (by kernel_rfl) (by kernel_rfl) (fun _ _ _ h => h) (Or.inl ⟨by rfl, ?hy4_40⟩) (by assumption) ?rest4_40
    case hy4_40 => (intro w hSw; (try dsimp only at hSw); go_simp; (try with_reducible rfl))
    try simp only [Act.put, List.getElem_toArray, List.getElem_cons_zero, List.getElem_cons_succ, List.setIfInBounds_toArray, List.set_cons_zero, List.set_cons_succ]
    refine wpAnyH_ready (rs := [5]) (by kernel_rfl) (by simp) ?_
    refine AllReadyH.cons rfl (fun K hK => ?_) AllReadyH.nil
    go_simp; go_at_call 98; refine (hull_nil il ih _ _ _).mono ?_; rintro e' w' ⟨rfl, hb'⟩
    refine hK.out _ _ (⟨keepW hb' hHeld.1, keepW hb' hHeld.2.1, keepW hb' hHeld.2.2.1, keepW hb' hHeld.2.2.2.1, hHeld.2.2.2.2.trans (hb'.mono hHeld.2.2.2.2.size)⟩) (fun hHeld2 => ?_)
    clear hK K hHeld hb'
    have hHeld := hHeld2
    clear hHeld2
    try simp only [Act.put, List.getElem_toArray, List.getElem_cons_zero, List.getElem_cons_succ, List.setIfInBounds_toArray, List.set_cons_zero, List.set_cons_succ]
    refine wpAnyH_done (by kernel_rfl) ?_ _
    change wpList _ _ _ _ _ _
    simp only [List.drop_succ_cons, List.drop_zero]
    obtain ⟨p0, p1, p2, p3, pb⟩ := hHeld
    rename World => V
    have x0 : V.frozen? ⟨w.heap.size + 1 + 1, 0, none⟩ = false := by rw [pb.frozen (p := ⟨w.heap.size + 1 + 1, 0, none⟩) (show w.heap.size + 1 + 1 < W0.drew.heap.size by have : W0.drew.heap.size = W0.heap.size := rfl; omega)]; exact g0
    have x1 : V.frozen? ⟨w.heap.size + 1 + 1, 1, none⟩ = false := by rw [pb.frozen (p := ⟨w.heap.size + 1 + 1, 1, none⟩) (show w.heap.size + 1 + 1 < W0.drew.heap.size by have : W0.drew.heap.size = W0.heap.size := rfl; omega)]; exact g1
    have bV := hbw.drew.trans (pb.mono hbw.drew.size)
    have zV : w.heap.size + 1 + 1 < V.heap.size := Nat.lt_of_lt_of_le hz pb.size
    clear pb HS g0 g1
    go_wp2
    exact bodyPost_ret (v := .agg #[.int .i64 il, .int .i64 ih]) (by simp [results, Try.results68, go_sem, set_same (i := 0) (v := .int .i64 il) p2, set_other (i := 1) (j := 0) (v := .int .i64 ih) (by decide) (set_same (i := 0) (v := .int .i64 il) p2), set_same (i := 1) (v := .int .i64 ih) (set_other (i := 0) (j := 1) (v := .int .i64 il) (by decide) p3)]) rfl ⟨rfl, ((bV.setCell (p := ⟨w.heap.size + 1 + 1, 0, none⟩) (by dsimp only; omega) _).setCell (p := ⟨w.heap.size + 1 + 1, 1, none⟩) (by dsimp only; omega) _)⟩

set_option maxRecDepth 100000 in
set_option maxHeartbeats 6400000 in
theorem factor_FTT (la : Option Addr) (ln lc : Nat) (ra : Option Addr) (rn rc : Nat) (ml mh il ih al ah : Int) (lo hi : Int) (w : World) (h1 : ¬ lo < ml) (h2 : lo ≤ mh) (h3 : mh < hi) (hm : ml ≤ mh) (hb : lo ≤ hi) :
    Calls Try.prog 68 #[.agg #[.slice la ln lc, .slice ra rn rc, .int .i64 ml, .int .i64 mh, .int .i64 il, .int .i64 ih, .int .i64 al, .int .i64 ah], .agg #[.int .i64 lo, .int .i64 hi]] w fun e w' => e = .returned (.agg #[.int .i64 (min il al), .int .i64 (max ih ah)]) ∧ Below w.heap.size w w' := by
  obtain ⟨i0, hi0, hz0, hz1, hz2⟩ := info_parts info24
  have d1 : decide (lo < ml) = false := by exact decide_eq_false h1
  have d2 : decide (lo ≤ mh) = true := by first | exact decide_eq_true (by omega) | exact decide_eq_false (by omega)
  have d3 : decide (ml ≤ hi) = true := by first | exact decide_eq_true (by omega) | exact decide_eq_false (by omega)
  have d4 : decide (mh < hi) = true := by exact decide_eq_true h3
  obtain ⟨A, hA, bA, zA, m0, m1, m2, m3, m4, m5, m6, m7, b0, b1, r0, r1, g0, g1⟩ := fac_boxes26 w la ln lc ra rn rc ml mh il ih al ah lo hi
  have R := Lib.hid (show FW w A la ln lc ra rn rc ml mh il ih al ah lo hi from ⟨m0, m1, m2, m3, m4, m5, m6, m7, b0, b1, r0, r1, g0, g1, by omega, bA⟩)
  have HW := Lib.hid (World.ownsRow_nil A (w.heap.size + 1 + 1 + 1) 24 2)
  clear m0 m1 m2 m3 m4 m5 m6 m7 b0 b1 r0 r1 g0 g1 bA zA h1 h2 h3 hm hb
  go_enter Try.func68, Try.ntmps68
  go_upto_region 4 with fail
  rw [← hA]
  clear hA
  obtain ⟨m0, m1, m2, m3, m4, m5, m6, m7, b0, b1, r0, r1, g0, g1, hz, hbw⟩ := R.out
  have hown := HW.out
  go_wp2_with (first | (at_builtin; refine wpList_append_own _ rfl _ _ 44 rfl (w.heap.size + 1 + 1 + 1) 24 i0 (.agg #[.int .i64 0, .int .i64 0]) 2 16 Try.underlying44 hi0 hz0 hz1 hz2 rfl (by decide) _ _ _ rfl (hown.alloc _) ⟨A.heap.size, 0, none⟩ 1 1 [.int .i64 il, .int .i64 ih] rfl rfl (cell_two_new _ _ _ _) ?c20 ?c30 ?c40 ?c50 ?_) | go_in)
  case c20 => intro u hu; simp at hu; rcases hu with rfl | rfl <;> rfl
  case c30 => unfold maxLen; omega
  case c40 => omega
  case c50 => simp; omega
  intro v0 W0 hown' hgrow _
  have B7 : Below (w.heap.size + 1 + 1 + 1) A W0 := Below.grown ((Below.refl _ A).alloc (by omega) _) hgrow (by simp; omega) (fun k hk => (HW.out.lt k hk).1)
  have R := Lib.hid (R.out.keep B7 (by omega))
  have HW := Lib.hid hown'
  clear hown hown' hgrow B7 m0 m1 m2 m3 m4 m5 m6 m7 b0 b1 r0 r1 g0 g1 hz hbw
  obtain ⟨m0, m1, m2, m3, m4, m5, m6, m7, b0, b1, r0, r1, g0, g1, hz, hbw⟩ := R.out
  have zz : w.heap.size + 1 + 1 < W0.heap.size := hz
  have hown := HW.out
  go_wp2_with (first | (at_builtin; refine wpList_append_own _ rfl _ _ 44 rfl (w.heap.size + 1 + 1 + 1) 24 i0 (.agg #[.int .i64 0, .int .i64 0]) 2 16 Try.underlying44 hi0 hz0 hz1 hz2 rfl (by decide) _ _ _ rfl (hown.alloc _) ⟨W0.heap.size, 0, none⟩ 1 1 [.int .i64 al, .int .i64 ah] rfl rfl (cell_two_new _ _ _ _) ?c21 ?c31 ?c41 ?c51 ?_) | go_in)
  case c21 => intro u hu; simp at hu; rcases hu with rfl | rfl <;> rfl
  case c31 => unfold maxLen; omega
  case c41 => omega
  case c51 => simp; omega
  intro v1 W1 hown' hgrow _
  have B7 : Below (w.heap.size + 1 + 1 + 1) W0 W1 := Below.grown ((Below.refl _ W0).alloc (by omega) _) hgrow (by simp; omega) (fun k hk => (HW.out.lt k hk).1)
  have R := Lib.hid (R.out.keep B7 (by omega))
  have HW := Lib.hid hown'
  clear hown hown' hgrow B7 m0 m1 m2 m3 m4 m5 m6 m7 b0 b1 r0 r1 g0 g1 hz hbw
  obtain ⟨m0, m1, m2, m3, m4, m5, m6, m7, b0, b1, r0, r1, g0, g1, hz, hbw⟩ := R.out
  have zz : w.heap.size + 1 + 1 < W1.heap.size := hz
  obtain ⟨q, cap, rfl, hq1, hq2, hq3, hq4⟩ := row_form HW.out (by decide)
  unfold maxLen at hq4
  have e00 : W1.cell? ⟨q, 0, none⟩ = some (.int .i64 il) := HW.out.cellAt 0 (by decide)
  have e01 : W1.cell? ⟨q, 1, none⟩ = some (.int .i64 ih) := HW.out.cellAt 1 (by decide)
  have e10 : W1.cell? ⟨q, 2, none⟩ = some (.int .i64 al) := HW.out.cellAt 2 (by decide)
  have e11 : W1.cell? ⟨q, 3, none⟩ = some (.int .i64 ah) := HW.out.cellAt 3 (by decide)
  obtain ⟨RX, hRX⟩ : ∃ x, x = (min il al) := ⟨_, rfl⟩
  obtain ⟨RY, hRY⟩ : ∃ x, x = (max ih ah) := ⟨_, rfl⟩
  have HRX := Lib.hid (And.intro hRX hRY)
  have HU := Lib.hid (fun (sc : Nat) V (hW : Below W1.heap.size W1 V) => show Calls Try.prog 98 #[.agg #[.int .i64 il, .int .i64 ih], .slice (some ⟨q, 2, none⟩) 1 sc] V fun e w' => e = .returned (.agg #[.int .i64 RX, .int .i64 RY]) ∧ Below V.heap.size V w' from by rw [hRX, hRY]; exact hull_any il ih (some ⟨q, 2, none⟩) 1 sc (fun i => (al, ah)) V (by decide) (.inr ⟨q, 2, rfl, Nat.lt_of_lt_of_le hq2 hW.size, fun i hi => by
    match i, hi with
    | 0, _ => exact ⟨keepB hW hq2 e10, keepB hW hq2 e11⟩⟩))
  clear hRX hRY
  have HE := Lib.hid HW.out
  clear HW
  have c1 : ¬ cap = 1 := by omega
  have c2 : (1 : Int) ≤ (cap : Int) := by omega
  have HS := Lib.hid (show (fun w' : World => w'.cell? ⟨q, 0, none⟩ = some (.int .i64 il) ∧ w'.cell? ⟨q, 1, none⟩ = some (.int .i64 ih) ∧ w'.cell? ⟨w.heap.size + 1 + 1, 0, none⟩ = some (.int .i64 0) ∧ w'.cell? ⟨w.heap.size + 1 + 1, 1, none⟩ = some (.int .i64 0) ∧ Below W1.drew.heap.size W1.drew w') W1.drew from ⟨e00, e01, r0, r1, Below.refl _ _⟩)
  go_wp2_with fail
  refine wp_region_held_tail (S := (fun w' : World => w'.cell? ⟨q, 0, none⟩ = some (.int .i64 il) ∧ w'.cell? ⟨q, 1, none⟩ = some (.int .i64 ih) ∧ w'.cell? ⟨w.heap.size + 1 + 1, 0, none⟩ = some (.int .i64 0) ∧ w'.cell? ⟨w.heap.size + 1 + 1, 1, none⟩ = some (.int .i64 0) ∧ Below W1.drew.heap.size W1.drew w')) 6 (by kernel_rfl) (by kernel_rfl) HS.out (fun hHeld => ?_)
  refine wpAnyH_take (i := 0) (v := ?v0_41) rfl (by kernel_rfl) (by kernel_rfl) (by kernel_rfl) (fun _ _ _ h => h) (Or.inl ⟨by rfl, ?hy0_41⟩) (by assumption) ?rest0_41
  case hy0_41 => (intro w hSw; (try dsimp only at hSw); go_simp; (try with_reducible rfl))
  try simp only [Act.put, List.getElem_toArray, List.getElem_cons_zero, List.getElem_cons_succ, List.setIfInBounds_toArray, List.set_cons_zero, List.set_cons_succ]
  refine wpAnyH_take (i := 1) (v := ?v1_42) rfl (by kernel_rfl) (by kernel_rfl) (by kernel_rfl) (fun _ _ _ h => h) (Or.inl ⟨by rfl, ?hy1_42⟩) (by assumption) ?rest1_42
  case hy1_42 => (intro w hSw; (try dsimp only at hSw); go_simp; (try with_reducible rfl))
  try simp only [Act.put, List.getElem_toArray, List.getElem_cons_zero, List.getElem_cons_succ, List.setIfInBounds_toArray, List.set_cons_zero, List.set_cons_succ]
  refine wpAnyH_take (i := 2) (v := ?v2_43) rfl (by kernel_rfl) (by kernel_rfl) (by kernel_rfl) (fun _ _ _ h => h) (Or.inl ⟨by rfl, ?hy2_43⟩) (by assumption) ?rest2_43
  case hy2_43 => (intro w hSw; (try dsimp only at hSw); go_simp; (try with_reducible rfl))
  try simp only [Act.put, List.getElem_toArray, List.getElem_cons_zero, List.getElem_cons_succ, List.setIfInBounds_toArray, List.set_cons_zero, List.set_cons_succ]
  refine wpAnyH_take (i := 3) (v := ?v3_44) rfl (by kernel_rfl) (by kernel_rfl) (by kernel_rfl) (fun _ _ _ h => h) (Or.inl ⟨by rfl, ?hy3_44⟩) (by assumption) ?rest3_44
  case hy3_44 => (intro w hSw; (try dsimp only at hSw); go_simp; (try with_reducible rfl))
  try simp only [Act.put, List.getElem_toArray, List.getElem_cons_zero, List.getElem_cons_succ, List.setIfInBounds_toArray, List.set_cons_zero, List.set_cons_succ]
  refine wpAnyH_take (i := 4) (v := ?v4_45) rfl (by kernel_rfl) (by kernel_rfl) (by kernel_rfl) (fun _ _ _ h => h) (Or.inl ⟨by rfl, ?hy4_45⟩) (by assumption) ?rest4_45
  case hy4_45 => (intro w hSw; (try dsimp only at hSw); go_simp; (try with_reducible rfl))
  try simp only [Act.put, List.getElem_toArray, List.getElem_cons_zero, List.getElem_cons_succ, List.setIfInBounds_toArray, List.set_cons_zero, List.set_cons_succ]
  refine wpAnyH_ready (rs := [5]) (by kernel_rfl) (by simp) ?_
  refine AllReadyH.cons rfl (fun K hK => ?_) AllReadyH.nil
  go_simp; go_at_call 98; refine (HU.out _ _ ((Below.refl W1.heap.size W1).drew.trans (hHeld.2.2.2.2.mono (Nat.le_refl _)))).mono ?_; rintro e' w' ⟨rfl, hb'⟩
  refine hK.out _ _ (⟨keepW hb' hHeld.1, keepW hb' hHeld.2.1, keepW hb' hHeld.2.2.1, keepW hb' hHeld.2.2.2.1, hHeld.2.2.2.2.trans (hb'.mono hHeld.2.2.2.2.size)⟩) (fun hHeld2 => ?_)
  clear hK K hHeld hb'
  have hHeld := hHeld2
  clear hHeld2
  try simp only [Act.put, List.getElem_toArray, List.getElem_cons_zero, List.getElem_cons_succ, List.setIfInBounds_toArray, List.set_cons_zero, List.set_cons_succ]
  refine wpAnyH_done (by kernel_rfl) ?_ _
  change wpList _ _ _ _ _ _
  simp only [List.drop_succ_cons, List.drop_zero]
  obtain ⟨p0, p1, p2, p3, pb⟩ := hHeld
  rename World => V
  have x0 : V.frozen? ⟨w.heap.size + 1 + 1, 0, none⟩ = false := by rw [pb.frozen (p := ⟨w.heap.size + 1 + 1, 0, none⟩) (show w.heap.size + 1 + 1 < W1.drew.heap.size by have : W1.drew.heap.size = W1.heap.size := rfl; omega)]; exact g0
  have x1 : V.frozen? ⟨w.heap.size + 1 + 1, 1, none⟩ = false := by rw [pb.frozen (p := ⟨w.heap.size + 1 + 1, 1, none⟩) (show w.heap.size + 1 + 1 < W1.drew.heap.size by have : W1.drew.heap.size = W1.heap.size := rfl; omega)]; exact g1
  have bV := hbw.drew.trans (pb.mono hbw.drew.size)
  have zV : w.heap.size + 1 + 1 < V.heap.size := Nat.lt_of_lt_of_le hz pb.size
  clear pb HS g0 g1
  go_wp2
  exact bodyPost_ret (v := .agg #[.int .i64 RX, .int .i64 RY]) (by simp [results, Try.results68, go_sem, set_same (i := 0) (v := .int .i64 RX) p2, set_other (i := 1) (j := 0) (v := .int .i64 RY) (by decide) (set_same (i := 0) (v := .int .i64 RX) p2), set_same (i := 1) (v := .int .i64 RY) (set_other (i := 0) (j := 1) (v := .int .i64 RX) (by decide) p3)]) rfl ⟨by rw [HRX.out.1, HRX.out.2], ((bV.setCell (p := ⟨w.heap.size + 1 + 1, 0, none⟩) (by dsimp only; omega) _).setCell (p := ⟨w.heap.size + 1 + 1, 1, none⟩) (by dsimp only; omega) _)⟩

set_option maxRecDepth 100000 in
set_option maxHeartbeats 6400000 in
theorem factor_FFT (la : Option Addr) (ln lc : Nat) (ra : Option Addr) (rn rc : Nat) (ml mh il ih al ah : Int) (lo hi : Int) (w : World) (h1 : ¬ lo < ml) (h2 : ¬ lo ≤ mh) (h3 : mh < hi) (hm : ml ≤ mh) (hb : lo ≤ hi) :
    Calls Try.prog 68 #[.agg #[.slice la ln lc, .slice ra rn rc, .int .i64 ml, .int .i64 mh, .int .i64 il, .int .i64 ih, .int .i64 al, .int .i64 ah], .agg #[.int .i64 lo, .int .i64 hi]] w fun e w' => e = .returned (.agg #[.int .i64 al, .int .i64 ah]) ∧ Below w.heap.size w w' := by
  obtain ⟨i0, hi0, hz0, hz1, hz2⟩ := info_parts info24
  have d1 : decide (lo < ml) = false := by exact decide_eq_false h1
  have d2 : decide (lo ≤ mh) = false := by first | exact decide_eq_true (by omega) | exact decide_eq_false (by omega)
  have d3 : decide (ml ≤ hi) = true := by first | exact decide_eq_true (by omega) | exact decide_eq_false (by omega)
  have d4 : decide (mh < hi) = true := by exact decide_eq_true h3
  obtain ⟨A, hA, bA, zA, m0, m1, m2, m3, m4, m5, m6, m7, b0, b1, r0, r1, g0, g1⟩ := fac_boxes26 w la ln lc ra rn rc ml mh il ih al ah lo hi
  have R := Lib.hid (show FW w A la ln lc ra rn rc ml mh il ih al ah lo hi from ⟨m0, m1, m2, m3, m4, m5, m6, m7, b0, b1, r0, r1, g0, g1, by omega, bA⟩)
  have HW := Lib.hid (World.ownsRow_nil A (w.heap.size + 1 + 1 + 1) 24 2)
  clear m0 m1 m2 m3 m4 m5 m6 m7 b0 b1 r0 r1 g0 g1 bA zA h1 h2 h3 hm hb
  go_enter Try.func68, Try.ntmps68
  go_upto_region 4 with fail
  rw [← hA]
  clear hA
  obtain ⟨m0, m1, m2, m3, m4, m5, m6, m7, b0, b1, r0, r1, g0, g1, hz, hbw⟩ := R.out
  have hown := HW.out
  go_wp2_with (first | (at_builtin; refine wpList_append_own _ rfl _ _ 44 rfl (w.heap.size + 1 + 1 + 1) 24 i0 (.agg #[.int .i64 0, .int .i64 0]) 2 16 Try.underlying44 hi0 hz0 hz1 hz2 rfl (by decide) _ _ _ rfl (hown.alloc _) ⟨A.heap.size, 0, none⟩ 1 1 [.int .i64 al, .int .i64 ah] rfl rfl (cell_two_new _ _ _ _) ?c20 ?c30 ?c40 ?c50 ?_) | go_in)
  case c20 => intro u hu; simp at hu; rcases hu with rfl | rfl <;> rfl
  case c30 => unfold maxLen; omega
  case c40 => omega
  case c50 => simp; omega
  intro v0 W0 hown' hgrow _
  have B7 : Below (w.heap.size + 1 + 1 + 1) A W0 := Below.grown ((Below.refl _ A).alloc (by omega) _) hgrow (by simp; omega) (fun k hk => (HW.out.lt k hk).1)
  have R := Lib.hid (R.out.keep B7 (by omega))
  have HW := Lib.hid hown'
  clear hown hown' hgrow B7 m0 m1 m2 m3 m4 m5 m6 m7 b0 b1 r0 r1 g0 g1 hz hbw
  obtain ⟨m0, m1, m2, m3, m4, m5, m6, m7, b0, b1, r0, r1, g0, g1, hz, hbw⟩ := R.out
  have zz : w.heap.size + 1 + 1 < W0.heap.size := hz
  obtain ⟨q, cap, rfl, hq1, hq2, hq3, hq4⟩ := row_form HW.out (by decide)
  unfold maxLen at hq4
  have e00 : W0.cell? ⟨q, 0, none⟩ = some (.int .i64 al) := HW.out.cellAt 0 (by decide)
  have e01 : W0.cell? ⟨q, 1, none⟩ = some (.int .i64 ah) := HW.out.cellAt 1 (by decide)
  have HE := Lib.hid HW.out
  clear HW
  have HS := Lib.hid (show (fun w' : World => w'.cell? ⟨q, 0, none⟩ = some (.int .i64 al) ∧ w'.cell? ⟨q, 1, none⟩ = some (.int .i64 ah) ∧ w'.cell? ⟨w.heap.size + 1 + 1, 0, none⟩ = some (.int .i64 0) ∧ w'.cell? ⟨w.heap.size + 1 + 1, 1, none⟩ = some (.int .i64 0) ∧ Below W0.drew.heap.size W0.drew w') W0.drew from ⟨e00, e01, r0, r1, Below.refl _ _⟩)
  by_cases c1 : cap = 1
  · skip
    obtain rfl : cap = 1 := c1
    go_wp2_with fail
    refine wp_region_held_tail (S := (fun w' : World => w'.cell? ⟨q, 0, none⟩ = some (.int .i64 al) ∧ w'.cell? ⟨q, 1, none⟩ = some (.int .i64 ah) ∧ w'.cell? ⟨w.heap.size + 1 + 1, 0, none⟩ = some (.int .i64 0) ∧ w'.cell? ⟨w.heap.size + 1 + 1, 1, none⟩ = some (.int .i64 0) ∧ Below W0.drew.heap.size W0.drew w')) 6 (by kernel_rfl) (by kernel_rfl) HS.out (fun hHeld => ?_)
    refine wpAnyH_take (i := 0) (v := ?v0_51) rfl (by kernel_rfl) (by kernel_rfl) (by kernel_rfl) (fun _ _ _ h => h) (Or.inl ⟨by rfl, ?hy0_51⟩) (by assumption) ?rest0_51
    case hy0_51 => (intro w hSw; (try dsimp only at hSw); go_simp; (try with_reducible rfl))
    try simp only [Act.put, List.getElem_toArray, List.getElem_cons_zero, List.getElem_cons_succ, List.setIfInBounds_toArray, List.set_cons_zero, List.set_cons_succ]
    refine wpAnyH_take (i := 1) (v := ?v1_52) rfl (by kernel_rfl) (by kernel_rfl) (by kernel_rfl) (fun _ _ _ h => h) (Or.inl ⟨by rfl, ?hy1_52⟩) (by assumption) ?rest1_52
    case hy1_52 => (intro w hSw; (try dsimp only at hSw); go_simp; (try with_reducible rfl))
    try simp only [Act.put, List.getElem_toArray, List.getElem_cons_zero, List.getElem_cons_succ, List.setIfInBounds_toArray, List.set_cons_zero, List.set_cons_succ]
    refine wpAnyH_take (i := 2) (v := ?v2_53) rfl (by kernel_rfl) (by kernel_rfl) (by kernel_rfl) (fun _ _ _ h => h) (Or.inl ⟨by rfl, ?hy2_53⟩) (by assumption) ?rest2_53
    case hy2_53 => (intro w hSw; (try dsimp only at hSw); go_simp; (try with_reducible rfl))
    try simp only [Act.put, List.getElem_toArray, List.getElem_cons_zero, List.getElem_cons_succ, List.setIfInBounds_toArray, List.set_cons_zero, List.set_cons_succ]
    refine wpAnyH_take (i := 3) (v := ?v3_54) rfl (by kernel_rfl) (by kernel_rfl) (by kernel_rfl) (fun _ _ _ h => h) (Or.inl ⟨by rfl, ?hy3_54⟩) (by assumption) ?rest3_54
    case hy3_54 => (intro w hSw; (try dsimp only at hSw); go_simp; (try with_reducible rfl))
    try simp only [Act.put, List.getElem_toArray, List.getElem_cons_zero, List.getElem_cons_succ, List.setIfInBounds_toArray, List.set_cons_zero, List.set_cons_succ]
    refine wpAnyH_take (i := 4) (v := ?v4_55) rfl (by kernel_rfl) (by kernel_rfl) (by kernel_rfl) (fun _ _ _ h => h) (Or.inl ⟨by rfl, ?hy4_55⟩) (by assumption) ?rest4_55
    case hy4_55 => (intro w hSw; (try dsimp only at hSw); go_simp; (try with_reducible rfl))
    try simp only [Act.put, List.getElem_toArray, List.getElem_cons_zero, List.getElem_cons_succ, List.setIfInBounds_toArray, List.set_cons_zero, List.set_cons_succ]
    refine wpAnyH_ready (rs := [5]) (by kernel_rfl) (by simp) ?_
    refine AllReadyH.cons rfl (fun K hK => ?_) AllReadyH.nil
    go_simp; go_at_call 98; refine (hull_nil al ah _ _ _).mono ?_; rintro e' w' ⟨rfl, hb'⟩
    refine hK.out _ _ (⟨keepW hb' hHeld.1, keepW hb' hHeld.2.1, keepW hb' hHeld.2.2.1, keepW hb' hHeld.2.2.2.1, hHeld.2.2.2.2.trans (hb'.mono hHeld.2.2.2.2.size)⟩) (fun hHeld2 => ?_)
    clear hK K hHeld hb'
    have hHeld := hHeld2
    clear hHeld2
    try simp only [Act.put, List.getElem_toArray, List.getElem_cons_zero, List.getElem_cons_succ, List.setIfInBounds_toArray, List.set_cons_zero, List.set_cons_succ]
    refine wpAnyH_done (by kernel_rfl) ?_ _
    change wpList _ _ _ _ _ _
    simp only [List.drop_succ_cons, List.drop_zero]
    obtain ⟨p0, p1, p2, p3, pb⟩ := hHeld
    rename World => V
    have x0 : V.frozen? ⟨w.heap.size + 1 + 1, 0, none⟩ = false := by rw [pb.frozen (p := ⟨w.heap.size + 1 + 1, 0, none⟩) (show w.heap.size + 1 + 1 < W0.drew.heap.size by have : W0.drew.heap.size = W0.heap.size := rfl; omega)]; exact g0
    have x1 : V.frozen? ⟨w.heap.size + 1 + 1, 1, none⟩ = false := by rw [pb.frozen (p := ⟨w.heap.size + 1 + 1, 1, none⟩) (show w.heap.size + 1 + 1 < W0.drew.heap.size by have : W0.drew.heap.size = W0.heap.size := rfl; omega)]; exact g1
    have bV := hbw.drew.trans (pb.mono hbw.drew.size)
    have zV : w.heap.size + 1 + 1 < V.heap.size := Nat.lt_of_lt_of_le hz pb.size
    clear pb HS g0 g1
    go_wp2
    exact bodyPost_ret (v := .agg #[.int .i64 al, .int .i64 ah]) (by simp [results, Try.results68, go_sem, set_same (i := 0) (v := .int .i64 al) p2, set_other (i := 1) (j := 0) (v := .int .i64 ah) (by decide) (set_same (i := 0) (v := .int .i64 al) p2), set_same (i := 1) (v := .int .i64 ah) (set_other (i := 0) (j := 1) (v := .int .i64 al) (by decide) p3)]) rfl ⟨rfl, ((bV.setCell (p := ⟨w.heap.size + 1 + 1, 0, none⟩) (by dsimp only; omega) _).setCell (p := ⟨w.heap.size + 1 + 1, 1, none⟩) (by dsimp only; omega) _)⟩
  · skip
    go_wp2_with fail
    refine wp_region_held_tail (S := (fun w' : World => w'.cell? ⟨q, 0, none⟩ = some (.int .i64 al) ∧ w'.cell? ⟨q, 1, none⟩ = some (.int .i64 ah) ∧ w'.cell? ⟨w.heap.size + 1 + 1, 0, none⟩ = some (.int .i64 0) ∧ w'.cell? ⟨w.heap.size + 1 + 1, 1, none⟩ = some (.int .i64 0) ∧ Below W0.drew.heap.size W0.drew w')) 6 (by kernel_rfl) (by kernel_rfl) HS.out (fun hHeld => ?_)
    refine wpAnyH_take (i := 0) (v := ?v0_56) rfl (by kernel_rfl) (by kernel_rfl) (by kernel_rfl) (fun _ _ _ h => h) (Or.inl ⟨by rfl, ?hy0_56⟩) (by assumption) ?rest0_56
    case hy0_56 => (intro w hSw; (try dsimp only at hSw); go_simp; (try with_reducible rfl))
    try simp only [Act.put, List.getElem_toArray, List.getElem_cons_zero, List.getElem_cons_succ, List.setIfInBounds_toArray, List.set_cons_zero, List.set_cons_succ]
    refine wpAnyH_take (i := 1) (v := ?v1_57) rfl (by kernel_rfl) (by kernel_rfl) (by kernel_rfl) (fun _ _ _ h => h) (Or.inl ⟨by rfl, ?hy1_57⟩) (by assumption) ?rest1_57
    case hy1_57 => (intro w hSw; (try dsimp only at hSw); go_simp; (try with_reducible rfl))
    try simp only [Act.put, List.getElem_toArray, List.getElem_cons_zero, List.getElem_cons_succ, List.setIfInBounds_toArray, List.set_cons_zero, List.set_cons_succ]
    refine wpAnyH_take (i := 2) (v := ?v2_58) rfl (by kernel_rfl) (by kernel_rfl) (by kernel_rfl) (fun _ _ _ h => h) (Or.inl ⟨by rfl, ?hy2_58⟩) (by assumption) ?rest2_58
    case hy2_58 => (intro w hSw; (try dsimp only at hSw); go_simp; (try with_reducible rfl))
    try simp only [Act.put, List.getElem_toArray, List.getElem_cons_zero, List.getElem_cons_succ, List.setIfInBounds_toArray, List.set_cons_zero, List.set_cons_succ]
    refine wpAnyH_take (i := 3) (v := ?v3_59) rfl (by kernel_rfl) (by kernel_rfl) (by kernel_rfl) (fun _ _ _ h => h) (Or.inl ⟨by rfl, ?hy3_59⟩) (by assumption) ?rest3_59
    case hy3_59 => (intro w hSw; (try dsimp only at hSw); go_simp; (try with_reducible rfl))
    try simp only [Act.put, List.getElem_toArray, List.getElem_cons_zero, List.getElem_cons_succ, List.setIfInBounds_toArray, List.set_cons_zero, List.set_cons_succ]
    refine wpAnyH_take (i := 4) (v := ?v4_60) rfl (by kernel_rfl) (by kernel_rfl) (by kernel_rfl) (fun _ _ _ h => h) (Or.inl ⟨by rfl, ?hy4_60⟩) (by assumption) ?rest4_60
    case hy4_60 => (intro w hSw; (try dsimp only at hSw); go_simp; (try with_reducible rfl))
    try simp only [Act.put, List.getElem_toArray, List.getElem_cons_zero, List.getElem_cons_succ, List.setIfInBounds_toArray, List.set_cons_zero, List.set_cons_succ]
    refine wpAnyH_ready (rs := [5]) (by kernel_rfl) (by simp) ?_
    refine AllReadyH.cons rfl (fun K hK => ?_) AllReadyH.nil
    go_simp; go_at_call 98; refine (hull_nil al ah _ _ _).mono ?_; rintro e' w' ⟨rfl, hb'⟩
    refine hK.out _ _ (⟨keepW hb' hHeld.1, keepW hb' hHeld.2.1, keepW hb' hHeld.2.2.1, keepW hb' hHeld.2.2.2.1, hHeld.2.2.2.2.trans (hb'.mono hHeld.2.2.2.2.size)⟩) (fun hHeld2 => ?_)
    clear hK K hHeld hb'
    have hHeld := hHeld2
    clear hHeld2
    try simp only [Act.put, List.getElem_toArray, List.getElem_cons_zero, List.getElem_cons_succ, List.setIfInBounds_toArray, List.set_cons_zero, List.set_cons_succ]
    refine wpAnyH_done (by kernel_rfl) ?_ _
    change wpList _ _ _ _ _ _
    simp only [List.drop_succ_cons, List.drop_zero]
    obtain ⟨p0, p1, p2, p3, pb⟩ := hHeld
    rename World => V
    have x0 : V.frozen? ⟨w.heap.size + 1 + 1, 0, none⟩ = false := by rw [pb.frozen (p := ⟨w.heap.size + 1 + 1, 0, none⟩) (show w.heap.size + 1 + 1 < W0.drew.heap.size by have : W0.drew.heap.size = W0.heap.size := rfl; omega)]; exact g0
    have x1 : V.frozen? ⟨w.heap.size + 1 + 1, 1, none⟩ = false := by rw [pb.frozen (p := ⟨w.heap.size + 1 + 1, 1, none⟩) (show w.heap.size + 1 + 1 < W0.drew.heap.size by have : W0.drew.heap.size = W0.heap.size := rfl; omega)]; exact g1
    have bV := hbw.drew.trans (pb.mono hbw.drew.size)
    have zV : w.heap.size + 1 + 1 < V.heap.size := Nat.lt_of_lt_of_le hz pb.size
    clear pb HS g0 g1
    go_wp2
    exact bodyPost_ret (v := .agg #[.int .i64 al, .int .i64 ah]) (by simp [results, Try.results68, go_sem, set_same (i := 0) (v := .int .i64 al) p2, set_other (i := 1) (j := 0) (v := .int .i64 ah) (by decide) (set_same (i := 0) (v := .int .i64 al) p2), set_same (i := 1) (v := .int .i64 ah) (set_other (i := 0) (j := 1) (v := .int .i64 al) (by decide) p3)]) rfl ⟨rfl, ((bV.setCell (p := ⟨w.heap.size + 1 + 1, 0, none⟩) (by dsimp only; omega) _).setCell (p := ⟨w.heap.size + 1 + 1, 1, none⟩) (by dsimp only; omega) _)⟩

end Go.Proofs.Ytdmbkhmhaininaa
