/-
  What phases say of an echo: clear.
-/
import Derived.Test.Ytmojnopgpgnfeaamg10
import Derived.Test.Ytmojnopgpgnfeaamg2
namespace Go.Proofs.Ytmojnopgpgnfeaa
open Go.RowKit
set_option linter.unusedVariables false
set_option linter.unusedSimpArgs false

/-- by how much a sum of steps can be wrong -/
def slk (kd ph : Int) (xs : List Int) : Int := if kd = 3 then 2 * ph * xs.length else 2 * ph
theorem slk_bd {kd ph : Int} {xs : List Int} (hp : 0 ≤ ph ∧ ph ≤ 4096) (hl : xs.length ≤ 64) : 0 ≤ slk kd ph xs ∧ slk kd ph xs ≤ 1000000 := by
  unfold slk
  have p1 := Int.mul_le_mul_of_nonneg_left (show (xs.length : Int) ≤ 64 by omega) (show 0 ≤ 2 * ph by omega)
  have p2 := Int.mul_nonneg (show 0 ≤ 2 * ph by omega) (show 0 ≤ (xs.length : Int) by omega)
  split <;> omega
theorem mean_any (v : Value) (xs : List Int) (x sl : Int) (w : World) (h : IntsL w v xs) (hl : xs.length ≤ 64) (hp : ∀ y, y ∈ xs → 0 ≤ y ∧ y < 65536) (hs : 0 ≤ sl ∧ sl ≤ 1000000) :
    Calls Try.prog 105 #[.agg #[v, .int .i64 (arcB xs), .int .i64 x], .int .i64 sl] w fun e w' => e = .returned (.agg #[.int .i64 (meanLo (arcB xs) xs sl), .int .i64 (meanHi (arcB xs) xs sl)]) ∧ Below w.heap.size w w' := by
  by_cases hne : xs = []
  · subst hne
    obtain ⟨a, cap, rfl⟩ := h.slice
    exact mean_none a cap _ x sl w
  · rcases h with ⟨_, h⟩ | ⟨g, off, cap, rfl, hg, hc⟩
    · exact absurd h hne
    · exact mean_some g off xs.length cap xs _ x sl w rfl (by cases xs with | nil => exact absurd rfl hne | cons _ _ => simp) hl (hp _ (arcB_in hne)) hp hs hg hc

set_option maxRecDepth 100000 in
set_option maxHeartbeats 8000000 in
theorem wp_clear (e : Nat → Int) (l kd f s c lv ph n0 n1 : Int) (b off n cap : Nat) (zs : Nat → Smp) (w : World) (hn : 1 ≤ n) (hn2 : n ≤ 64) (hc : kd = 2 → 4 ≤ c ∧ c ≤ 64 ∧ c % 2 = 0) (hcn : (n : Int) = c) (hzs : ∀ i, i < n → (0 ≤ (zs i).p ∧ (zs i).p < 65536) ∧ (0 ≤ (zs i).q ∧ (zs i).q < 65536)) (hph : 0 ≤ ph ∧ ph ≤ 4096) (hS : SmpsAt w b off n zs) (hb : b < w.heap.size) (x0 x1 x2 : List Int) (h0 : x0 = (valsB (stpTo zs kd c (n - 1)) false)) (h1 : x1 = (valsB (stpTo zs kd c (n - 1)) true)) (h2 : x2 = (trnTo zs n)) (t0 : decide (arcW x0 + 4 * ph < 32768) = true) (t1 : decide (arcW x1 + 4 * ph < 32768) = true) (t2 : decide (arcW x2 + 4 * ph < 32768) = true) :
    Calls Try.prog 92 #[.agg #[.int .i64 (e 0), .int .i64 (e 1), .int .i64 (e 2), .int .i64 (e 3), .int .i64 (e 4), .int .i64 (e 5), .int .i64 (e 6), .int .i64 (e 7), .int .i64 (e 8), .int .i64 (e 9), .int .i64 (e 10), .int .i64 (e 11), .int .i64 (e 12), .int .i64 (e 13)], .agg #[.int .i64 l, .int .i64 kd, .int .i64 f, .int .i64 s, .int .i64 c], .agg #[.int .i64 lv, .int .i64 ph, .int .i64 n0, .int .i64 n1], .slice (some ⟨b, off, none⟩) n cap] w fun e' w' => e' = .returned (.agg #[.int .i64 ((upd (upd (upd (upd (upd (upd (upd (upd e 7 (mxx (arcW x0) (arcW x1))) 0 3) 3 (meanLo (arcB x0) x0 (slk kd ph x0))) 4 (meanHi (arcB x0) x0 (slk kd ph x0))) 5 (meanLo (arcB x1) x1 (slk kd ph x1))) 6 (meanHi (arcB x1) x1 (slk kd ph x1))) 12 (meanLo (arcB x2) x2 (2 * ph * c))) 13 (meanHi (arcB x2) x2 (2 * ph * c))) 0), .int .i64 ((upd (upd (upd (upd (upd (upd (upd (upd e 7 (mxx (arcW x0) (arcW x1))) 0 3) 3 (meanLo (arcB x0) x0 (slk kd ph x0))) 4 (meanHi (arcB x0) x0 (slk kd ph x0))) 5 (meanLo (arcB x1) x1 (slk kd ph x1))) 6 (meanHi (arcB x1) x1 (slk kd ph x1))) 12 (meanLo (arcB x2) x2 (2 * ph * c))) 13 (meanHi (arcB x2) x2 (2 * ph * c))) 1), .int .i64 ((upd (upd (upd (upd (upd (upd (upd (upd e 7 (mxx (arcW x0) (arcW x1))) 0 3) 3 (meanLo (arcB x0) x0 (slk kd ph x0))) 4 (meanHi (arcB x0) x0 (slk kd ph x0))) 5 (meanLo (arcB x1) x1 (slk kd ph x1))) 6 (meanHi (arcB x1) x1 (slk kd ph x1))) 12 (meanLo (arcB x2) x2 (2 * ph * c))) 13 (meanHi (arcB x2) x2 (2 * ph * c))) 2), .int .i64 ((upd (upd (upd (upd (upd (upd (upd (upd e 7 (mxx (arcW x0) (arcW x1))) 0 3) 3 (meanLo (arcB x0) x0 (slk kd ph x0))) 4 (meanHi (arcB x0) x0 (slk kd ph x0))) 5 (meanLo (arcB x1) x1 (slk kd ph x1))) 6 (meanHi (arcB x1) x1 (slk kd ph x1))) 12 (meanLo (arcB x2) x2 (2 * ph * c))) 13 (meanHi (arcB x2) x2 (2 * ph * c))) 3), .int .i64 ((upd (upd (upd (upd (upd (upd (upd (upd e 7 (mxx (arcW x0) (arcW x1))) 0 3) 3 (meanLo (arcB x0) x0 (slk kd ph x0))) 4 (meanHi (arcB x0) x0 (slk kd ph x0))) 5 (meanLo (arcB x1) x1 (slk kd ph x1))) 6 (meanHi (arcB x1) x1 (slk kd ph x1))) 12 (meanLo (arcB x2) x2 (2 * ph * c))) 13 (meanHi (arcB x2) x2 (2 * ph * c))) 4), .int .i64 ((upd (upd (upd (upd (upd (upd (upd (upd e 7 (mxx (arcW x0) (arcW x1))) 0 3) 3 (meanLo (arcB x0) x0 (slk kd ph x0))) 4 (meanHi (arcB x0) x0 (slk kd ph x0))) 5 (meanLo (arcB x1) x1 (slk kd ph x1))) 6 (meanHi (arcB x1) x1 (slk kd ph x1))) 12 (meanLo (arcB x2) x2 (2 * ph * c))) 13 (meanHi (arcB x2) x2 (2 * ph * c))) 5), .int .i64 ((upd (upd (upd (upd (upd (upd (upd (upd e 7 (mxx (arcW x0) (arcW x1))) 0 3) 3 (meanLo (arcB x0) x0 (slk kd ph x0))) 4 (meanHi (arcB x0) x0 (slk kd ph x0))) 5 (meanLo (arcB x1) x1 (slk kd ph x1))) 6 (meanHi (arcB x1) x1 (slk kd ph x1))) 12 (meanLo (arcB x2) x2 (2 * ph * c))) 13 (meanHi (arcB x2) x2 (2 * ph * c))) 6), .int .i64 ((upd (upd (upd (upd (upd (upd (upd (upd e 7 (mxx (arcW x0) (arcW x1))) 0 3) 3 (meanLo (arcB x0) x0 (slk kd ph x0))) 4 (meanHi (arcB x0) x0 (slk kd ph x0))) 5 (meanLo (arcB x1) x1 (slk kd ph x1))) 6 (meanHi (arcB x1) x1 (slk kd ph x1))) 12 (meanLo (arcB x2) x2 (2 * ph * c))) 13 (meanHi (arcB x2) x2 (2 * ph * c))) 7), .int .i64 ((upd (upd (upd (upd (upd (upd (upd (upd e 7 (mxx (arcW x0) (arcW x1))) 0 3) 3 (meanLo (arcB x0) x0 (slk kd ph x0))) 4 (meanHi (arcB x0) x0 (slk kd ph x0))) 5 (meanLo (arcB x1) x1 (slk kd ph x1))) 6 (meanHi (arcB x1) x1 (slk kd ph x1))) 12 (meanLo (arcB x2) x2 (2 * ph * c))) 13 (meanHi (arcB x2) x2 (2 * ph * c))) 8), .int .i64 ((upd (upd (upd (upd (upd (upd (upd (upd e 7 (mxx (arcW x0) (arcW x1))) 0 3) 3 (meanLo (arcB x0) x0 (slk kd ph x0))) 4 (meanHi (arcB x0) x0 (slk kd ph x0))) 5 (meanLo (arcB x1) x1 (slk kd ph x1))) 6 (meanHi (arcB x1) x1 (slk kd ph x1))) 12 (meanLo (arcB x2) x2 (2 * ph * c))) 13 (meanHi (arcB x2) x2 (2 * ph * c))) 9), .int .i64 ((upd (upd (upd (upd (upd (upd (upd (upd e 7 (mxx (arcW x0) (arcW x1))) 0 3) 3 (meanLo (arcB x0) x0 (slk kd ph x0))) 4 (meanHi (arcB x0) x0 (slk kd ph x0))) 5 (meanLo (arcB x1) x1 (slk kd ph x1))) 6 (meanHi (arcB x1) x1 (slk kd ph x1))) 12 (meanLo (arcB x2) x2 (2 * ph * c))) 13 (meanHi (arcB x2) x2 (2 * ph * c))) 10), .int .i64 ((upd (upd (upd (upd (upd (upd (upd (upd e 7 (mxx (arcW x0) (arcW x1))) 0 3) 3 (meanLo (arcB x0) x0 (slk kd ph x0))) 4 (meanHi (arcB x0) x0 (slk kd ph x0))) 5 (meanLo (arcB x1) x1 (slk kd ph x1))) 6 (meanHi (arcB x1) x1 (slk kd ph x1))) 12 (meanLo (arcB x2) x2 (2 * ph * c))) 13 (meanHi (arcB x2) x2 (2 * ph * c))) 11), .int .i64 ((upd (upd (upd (upd (upd (upd (upd (upd e 7 (mxx (arcW x0) (arcW x1))) 0 3) 3 (meanLo (arcB x0) x0 (slk kd ph x0))) 4 (meanHi (arcB x0) x0 (slk kd ph x0))) 5 (meanLo (arcB x1) x1 (slk kd ph x1))) 6 (meanHi (arcB x1) x1 (slk kd ph x1))) 12 (meanLo (arcB x2) x2 (2 * ph * c))) 13 (meanHi (arcB x2) x2 (2 * ph * c))) 12), .int .i64 ((upd (upd (upd (upd (upd (upd (upd (upd e 7 (mxx (arcW x0) (arcW x1))) 0 3) 3 (meanLo (arcB x0) x0 (slk kd ph x0))) 4 (meanHi (arcB x0) x0 (slk kd ph x0))) 5 (meanLo (arcB x1) x1 (slk kd ph x1))) 6 (meanHi (arcB x1) x1 (slk kd ph x1))) 12 (meanLo (arcB x2) x2 (2 * ph * c))) 13 (meanHi (arcB x2) x2 (2 * ph * c))) 13)]) ∧ Below w.heap.size w w' := by
  have L0 : x0.length ≤ 64 := by rw [h0]; have := valsB_len (stpTo zs kd c (n - 1)) false; have := stpTo_len zs kd c (n - 1); omega
  have L1 : x1.length ≤ 64 := by rw [h1]; have := valsB_len (stpTo zs kd c (n - 1)) true; have := stpTo_len zs kd c (n - 1); omega
  have L2 : x2.length ≤ 64 := by rw [h2, trnTo_len]; omega
  obtain ⟨sl0, hs0⟩ : ∃ x, x = slk kd ph x0 := ⟨_, rfl⟩
  obtain ⟨sl1, hs1⟩ : ∃ x, x = slk kd ph x1 := ⟨_, rfl⟩
  have s0 : 0 ≤ sl0 ∧ sl0 ≤ 1000000 := by rw [hs0]; exact slk_bd hph L0
  have s1 : 0 ≤ sl1 ∧ sl1 ≤ 1000000 := by rw [hs1]; exact slk_bd hph L1
  have m1 := Int.mul_le_mul_of_nonneg_left (show c ≤ 64 by omega) (show 0 ≤ 2 * ph by omega)
  have m2 := Int.mul_nonneg (show 0 ≤ 2 * ph by omega) (show 0 ≤ c by omega)
  have j1 : IntKind.i64.wrap (2 * ph) = 2 * ph := IntWalk.i64_in _ (by omega)
  have j2 : IntKind.i64.wrap (2 * ph * c) = 2 * ph * c := IntWalk.i64_in _ (by omega)
  have P0 : ∀ y, y ∈ x0 → 0 ≤ y ∧ y < 65536 := by rw [h0]; exact valsB_part (n - 1)
  have P1 : ∀ y, y ∈ x1 → 0 ≤ y ∧ y < 65536 := by rw [h1]; exact valsB_part (n - 1)
  have P2 : ∀ y, y ∈ x2 → 0 ≤ y ∧ y < 65536 := by rw [h2]; exact trnTo_part n
  obtain ⟨lo0, hlo0⟩ : ∃ x, x = meanLo (arcB x0) x0 sl0 := ⟨_, rfl⟩
  obtain ⟨hi0, hhi0⟩ : ∃ x, x = meanHi (arcB x0) x0 sl0 := ⟨_, rfl⟩
  have HM0 : Hid (∀ W : World, ∀ {q : Option Addr} {k : Nat}, IntsL W (.slice q x0.length k) x0 → Calls Try.prog 105 #[.agg #[.slice q x0.length k, .int .i64 (arcB x0), .int .i64 (arcW x0)], .int .i64 sl0] W fun e w' => e = .returned (.agg #[.int .i64 lo0, .int .i64 hi0]) ∧ Below W.heap.size W w') := Lib.hid fun W q k h => by rw [hlo0, hhi0]; exact mean_any _ x0 _ _ W h L0 P0 (by omega)
  have HSL0 : Hid (∀ W : World, ∀ {q : Option Addr} {k : Nat}, Calls Try.prog 106 #[.agg #[.int .i64 l, .int .i64 kd, .int .i64 f, .int .i64 s, .int .i64 c], .agg #[.int .i64 lv, .int .i64 ph, .int .i64 n0, .int .i64 n1], .agg #[.slice q x0.length k, .int .i64 (arcB x0), .int .i64 (arcW x0)]] W fun e w' => e = .returned (.int .i64 sl0) ∧ Below W.heap.size W w') := Lib.hid fun W q k => by rw [hs0]; unfold slk; exact slack_any l kd f s c lv ph n0 n1 q x0.length k _ _ W hph L0
  obtain ⟨lo1, hlo1⟩ : ∃ x, x = meanLo (arcB x1) x1 sl1 := ⟨_, rfl⟩
  obtain ⟨hi1, hhi1⟩ : ∃ x, x = meanHi (arcB x1) x1 sl1 := ⟨_, rfl⟩
  have HM1 : Hid (∀ W : World, ∀ {q : Option Addr} {k : Nat}, IntsL W (.slice q x1.length k) x1 → Calls Try.prog 105 #[.agg #[.slice q x1.length k, .int .i64 (arcB x1), .int .i64 (arcW x1)], .int .i64 sl1] W fun e w' => e = .returned (.agg #[.int .i64 lo1, .int .i64 hi1]) ∧ Below W.heap.size W w') := Lib.hid fun W q k h => by rw [hlo1, hhi1]; exact mean_any _ x1 _ _ W h L1 P1 (by omega)
  have HSL1 : Hid (∀ W : World, ∀ {q : Option Addr} {k : Nat}, Calls Try.prog 106 #[.agg #[.int .i64 l, .int .i64 kd, .int .i64 f, .int .i64 s, .int .i64 c], .agg #[.int .i64 lv, .int .i64 ph, .int .i64 n0, .int .i64 n1], .agg #[.slice q x1.length k, .int .i64 (arcB x1), .int .i64 (arcW x1)]] W fun e w' => e = .returned (.int .i64 sl1) ∧ Below W.heap.size W w') := Lib.hid fun W q k => by rw [hs1]; unfold slk; exact slack_any l kd f s c lv ph n0 n1 q x1.length k _ _ W hph L1
  obtain ⟨lo2, hlo2⟩ : ∃ x, x = meanLo (arcB x2) x2 (2 * ph * c) := ⟨_, rfl⟩
  obtain ⟨hi2, hhi2⟩ : ∃ x, x = meanHi (arcB x2) x2 (2 * ph * c) := ⟨_, rfl⟩
  have HM2 : Hid (∀ W : World, ∀ {q : Option Addr} {k : Nat}, IntsL W (.slice q x2.length k) x2 → Calls Try.prog 105 #[.agg #[.slice q x2.length k, .int .i64 (arcB x2), .int .i64 (arcW x2)], .int .i64 (2 * ph * c)] W fun e w' => e = .returned (.agg #[.int .i64 lo2, .int .i64 hi2]) ∧ Below W.heap.size W w') := Lib.hid fun W q k h => by rw [hlo2, hhi2]; exact mean_any _ x2 _ _ W h L2 P2 (by omega)
  obtain ⟨g, hg⟩ : ∃ g, g = (upd (upd (upd (upd (upd (upd (upd (upd e 7 (mxx (arcW x0) (arcW x1))) 0 3) 3 (meanLo (arcB x0) x0 (slk kd ph x0))) 4 (meanHi (arcB x0) x0 (slk kd ph x0))) 5 (meanLo (arcB x1) x1 (slk kd ph x1))) 6 (meanHi (arcB x1) x1 (slk kd ph x1))) 12 (meanLo (arcB x2) x2 (2 * ph * c))) 13 (meanHi (arcB x2) x2 (2 * ph * c))) := ⟨_, rfl⟩
  rw [← hg]
  have HGG : Hid (g = upd (upd (upd (upd (upd (upd (upd (upd e 7 (mxx (arcW x0) (arcW x1))) 0 3) 3 lo0) 4 hi0) 5 lo1) 6 hi1) 12 lo2) 13 hi2) := Lib.hid (by rw [hg, hlo0, hhi0, hlo1, hhi1, hlo2, hhi2, hs0, hs1])
  clear hg hlo0 hhi0 hlo1 hhi1 hlo2 hhi2 hs0 hs1 P0 P1 P2
  have HC1 := Lib.hid (steps_call l kd f s c b off n cap zs w hn hn2 hc hcn (fun i hi => (hzs i hi).1) hS hb x0 x1 h0 h1)
  have HC2 := Lib.hid (turns_call b off n cap zs w hn2 hzs hS hb x2 h2)
  have HB0 := Lib.hid (WpB.new w e l kd f s c lv ph n0 n1)
  have w0 := arcW_bd x0
  have w1 := arcW_bd x1
  have w2 := arcW_bd x2
  obtain ⟨sp, hsp⟩ : ∃ x, max (arcW x0) (arcW x1) = x := ⟨_, rfl⟩
  obtain ⟨e1, he1⟩ : ∃ g, g = upd e 7 sp := ⟨_, rfl⟩
  clear h0 h1 h2 hS hzs hc
  go_enter Try.func92, Try.ntmps92
  go_wp2_with fail
  refine (HC1.out _ HB0.out.b HB0.out.z).mono ?_; rintro e' X ⟨q0, k0, q1, k1, rfl, i0, i1, hbX⟩
  have B1 := HB0.out.keep hbX HB0.out.z
  have zX := B1.z
  have I0 := Lib.hid i0
  have I1 := Lib.hid i1
  clear HB0 hbX i0 i1
  have HA : Hid (∃ A, A = (X.alloc (.cells #[.slice q0 x0.length k0, .int .i64 (arcB x0), .int .i64 (arcW x0)] 107)).alloc (.cells #[.slice q1 x1.length k1, .int .i64 (arcB x1), .int .i64 (arcW x1)] 107) ∧ WpB w A e l kd f s c lv ph n0 n1 ∧ ArcAt A X.heap.size (.slice q0 x0.length k0) (arcB x0) (arcW x0) ∧ ArcAt A (X.heap.size + 1) (.slice q1 x1.length k1) (arcB x1) (arcW x1) ∧ RowL (w.heap.size + 4) A (.slice q0 x0.length k0) x0 ∧ RowL (w.heap.size + 4) A (.slice q1 x1.length k1) x1 ∧ A.heap.size = X.heap.size + 2) := Lib.hid (arcs2 X B1 I0.out I1.out)
  clear B1 I0 I1
  go_wp2_with fail
  obtain ⟨A, hA, B2, A0, A1, I0, I1, zA⟩ := HA.out
  rw [← hA]
  refine (HC2.out _ B2.b B2.z).mono ?_; rintro e' Y ⟨q2, k2, rfl, i2, hbY⟩
  have HR : Hid (∃ R, R = Y.alloc (.cells #[.slice q2 x2.length k2, .int .i64 (arcB x2), .int .i64 (arcW x2)] 107) ∧ WpB w R e l kd f s c lv ph n0 n1 ∧ Arcs (w.heap.size + 4) R X.heap.size Y.heap.size (.slice q0 x0.length k0) (.slice q1 x1.length k1) (.slice q2 x2.length k2) x0 x1 x2) := Lib.hid (arcs3 X Y B2 A0 A1 I0 I1 zA hbY i2)
  have zX2 := zA
  clear hA HA B2 A0 A1 I0 I1 i2
  obtain ⟨R, hR, B3, A3⟩ := HR.out
  have B4 := Lib.hid (B3.set (k := 7) (v := sp))
  have A4 := Lib.hid (A3.set (k := 7) (u := .int .i64 sp) (d := w.heap.size) (by omega) (by have := hbY.size; omega) (by omega))
  subst hR
  have ec0 := B3.e.c 0 (by decide)
  have ec1 := B3.e.c 1 (by decide)
  have ec2 := B3.e.c 2 (by decide)
  have ec3 := B3.e.c 3 (by decide)
  have ec4 := B3.e.c 4 (by decide)
  have ec5 := B3.e.c 5 (by decide)
  have ec6 := B3.e.c 6 (by decide)
  have ec7 := B3.e.c 7 (by decide)
  have ec8 := B3.e.c 8 (by decide)
  have ec9 := B3.e.c 9 (by decide)
  have ec10 := B3.e.c 10 (by decide)
  have ec11 := B3.e.c 11 (by decide)
  have ec12 := B3.e.c 12 (by decide)
  have ec13 := B3.e.c 13 (by decide)
  have ef0 := B3.e.f 0 (by decide)
  have ef1 := B3.e.f 1 (by decide)
  have ef2 := B3.e.f 2 (by decide)
  have ef3 := B3.e.f 3 (by decide)
  have ef4 := B3.e.f 4 (by decide)
  have ef5 := B3.e.f 5 (by decide)
  have ef6 := B3.e.f 6 (by decide)
  have ef7 := B3.e.f 7 (by decide)
  have ef8 := B3.e.f 8 (by decide)
  have ef9 := B3.e.f 9 (by decide)
  have ef10 := B3.e.f 10 (by decide)
  have ef11 := B3.e.f 11 (by decide)
  have ef12 := B3.e.f 12 (by decide)
  have ef13 := B3.e.f 13 (by decide)
  have tt0 := B3.t0
  have tt1 := B3.t1
  have tt2 := B3.t2
  have tt3 := B3.t3
  have tt4 := B3.t4
  have rr0 := B3.r0
  have rr1 := B3.r1
  have rr2 := B3.r2
  have rr3 := B3.r3
  have y0 : w.heap.size < (Y.alloc (.cells #[.slice q2 x2.length k2, .int .i64 (arcB x2), .int .i64 (arcW x2)] 107)).heap.size := by have := B3.z; omega
  have y1 : w.heap.size + 1 < (Y.alloc (.cells #[.slice q2 x2.length k2, .int .i64 (arcB x2), .int .i64 (arcW x2)] 107)).heap.size := by have := B3.z; omega
  have y2 : w.heap.size + 1 + 1 < (Y.alloc (.cells #[.slice q2 x2.length k2, .int .i64 (arcB x2), .int .i64 (arcW x2)] 107)).heap.size := by have := B3.z; omega
  have y3 : w.heap.size + 1 + 1 + 1 < (Y.alloc (.cells #[.slice q2 x2.length k2, .int .i64 (arcB x2), .int .i64 (arcW x2)] 107)).heap.size := by have := B3.z; omega
  have k00 := A3.a0.c0
  have k10 := A3.a1.c0
  have k20 := A3.a2.c0
  have k01 := A3.a0.c1
  have k11 := A3.a1.c1
  have k21 := A3.a2.c1
  have k02 := A3.a0.c2
  have k12 := A3.a1.c2
  have k22 := A3.a2.c2
  have u9 := A3.z9
  have u11 := A3.z11
  skip
  have zY := hbY.size
  clear HR A3 B3 hbY
  rw [← he1] at B4
  go_wp2_with fail
  obtain ⟨S, hS⟩ : ∃ S, S = (Y.alloc (.cells #[.slice q2 x2.length k2, .int .i64 (arcB x2), .int .i64 (arcW x2)] 107)).setCell ⟨w.heap.size, 7, none⟩ (.int .i64 sp) := ⟨_, rfl⟩
  rw [← hS] at B4 A4 ⊢
  have BS := B4
  have AS := A4
  clear ec0 ec1 ec2 ec3 ec4 ec5 ec6 ec7 ec8 ec9 ec10 ec11 ec12 ec13 ef0 ef1 ef2 ef3 ef4 ef5 ef6 ef7 ef8 ef9 ef10 ef11 ef12 ef13 tt0 tt1 tt2 tt3 tt4 rr0 rr1 rr2 rr3 y0 y1 y2 y3 k00 k01 k02 k10 k11 k12 k20 k21 k22 u9 u11 hS B4 A4
  have ec0 := BS.out.e.c 0 (by decide)
  have ec1 := BS.out.e.c 1 (by decide)
  have ec2 := BS.out.e.c 2 (by decide)
  have ec3 := BS.out.e.c 3 (by decide)
  have ec4 := BS.out.e.c 4 (by decide)
  have ec5 := BS.out.e.c 5 (by decide)
  have ec6 := BS.out.e.c 6 (by decide)
  have ec7 := BS.out.e.c 7 (by decide)
  have ec8 := BS.out.e.c 8 (by decide)
  have ec9 := BS.out.e.c 9 (by decide)
  have ec10 := BS.out.e.c 10 (by decide)
  have ec11 := BS.out.e.c 11 (by decide)
  have ec12 := BS.out.e.c 12 (by decide)
  have ec13 := BS.out.e.c 13 (by decide)
  have ef0 := BS.out.e.f 0 (by decide)
  have ef1 := BS.out.e.f 1 (by decide)
  have ef2 := BS.out.e.f 2 (by decide)
  have ef3 := BS.out.e.f 3 (by decide)
  have ef4 := BS.out.e.f 4 (by decide)
  have ef5 := BS.out.e.f 5 (by decide)
  have ef6 := BS.out.e.f 6 (by decide)
  have ef7 := BS.out.e.f 7 (by decide)
  have ef8 := BS.out.e.f 8 (by decide)
  have ef9 := BS.out.e.f 9 (by decide)
  have ef10 := BS.out.e.f 10 (by decide)
  have ef11 := BS.out.e.f 11 (by decide)
  have ef12 := BS.out.e.f 12 (by decide)
  have ef13 := BS.out.e.f 13 (by decide)
  have tt0 := BS.out.t0
  have tt1 := BS.out.t1
  have tt2 := BS.out.t2
  have tt3 := BS.out.t3
  have tt4 := BS.out.t4
  have rr0 := BS.out.r0
  have rr1 := BS.out.r1
  have rr2 := BS.out.r2
  have rr3 := BS.out.r3
  have y0 : w.heap.size < S.heap.size := by have := BS.out.z; omega
  have y1 : w.heap.size + 1 < S.heap.size := by have := BS.out.z; omega
  have y2 : w.heap.size + 1 + 1 < S.heap.size := by have := BS.out.z; omega
  have y3 : w.heap.size + 1 + 1 + 1 < S.heap.size := by have := BS.out.z; omega
  have k00 := AS.out.a0.c0
  have k10 := AS.out.a1.c0
  have k20 := AS.out.a2.c0
  have k01 := AS.out.a0.c1
  have k11 := AS.out.a1.c1
  have k21 := AS.out.a2.c1
  have k02 := AS.out.a0.c2
  have k12 := AS.out.a1.c2
  have k22 := AS.out.a2.c2
  have u9 := AS.out.z9
  have u11 := AS.out.z11
  skip
  refine (isTogether_any (.slice q0 x0.length k0) (arcB x0) (arcW x0) ph _ rfl (by omega) hph).mono ?_; rw [t0]; rintro e' S1 ⟨rfl, hbS1⟩
  have BS1 := Lib.hid (BS.out.keep hbS1 BS.out.z)
  have AS1 := Lib.hid (AS.out.keep hbS1)
  clear hbS1 ec0 ec1 ec2 ec3 ec4 ec5 ec6 ec7 ec8 ec9 ec10 ec11 ec12 ec13 ef0 ef1 ef2 ef3 ef4 ef5 ef6 ef7 ef8 ef9 ef10 ef11 ef12 ef13 tt0 tt1 tt2 tt3 tt4 rr0 rr1 rr2 rr3 y0 y1 y2 y3 k00 k01 k02 k10 k11 k12 k20 k21 k22 u9 u11 BS AS
  have ec0 := BS1.out.e.c 0 (by decide)
  have ec1 := BS1.out.e.c 1 (by decide)
  have ec2 := BS1.out.e.c 2 (by decide)
  have ec3 := BS1.out.e.c 3 (by decide)
  have ec4 := BS1.out.e.c 4 (by decide)
  have ec5 := BS1.out.e.c 5 (by decide)
  have ec6 := BS1.out.e.c 6 (by decide)
  have ec7 := BS1.out.e.c 7 (by decide)
  have ec8 := BS1.out.e.c 8 (by decide)
  have ec9 := BS1.out.e.c 9 (by decide)
  have ec10 := BS1.out.e.c 10 (by decide)
  have ec11 := BS1.out.e.c 11 (by decide)
  have ec12 := BS1.out.e.c 12 (by decide)
  have ec13 := BS1.out.e.c 13 (by decide)
  have ef0 := BS1.out.e.f 0 (by decide)
  have ef1 := BS1.out.e.f 1 (by decide)
  have ef2 := BS1.out.e.f 2 (by decide)
  have ef3 := BS1.out.e.f 3 (by decide)
  have ef4 := BS1.out.e.f 4 (by decide)
  have ef5 := BS1.out.e.f 5 (by decide)
  have ef6 := BS1.out.e.f 6 (by decide)
  have ef7 := BS1.out.e.f 7 (by decide)
  have ef8 := BS1.out.e.f 8 (by decide)
  have ef9 := BS1.out.e.f 9 (by decide)
  have ef10 := BS1.out.e.f 10 (by decide)
  have ef11 := BS1.out.e.f 11 (by decide)
  have ef12 := BS1.out.e.f 12 (by decide)
  have ef13 := BS1.out.e.f 13 (by decide)
  have tt0 := BS1.out.t0
  have tt1 := BS1.out.t1
  have tt2 := BS1.out.t2
  have tt3 := BS1.out.t3
  have tt4 := BS1.out.t4
  have rr0 := BS1.out.r0
  have rr1 := BS1.out.r1
  have rr2 := BS1.out.r2
  have rr3 := BS1.out.r3
  have y0 : w.heap.size < S1.heap.size := by have := BS1.out.z; omega
  have y1 : w.heap.size + 1 < S1.heap.size := by have := BS1.out.z; omega
  have y2 : w.heap.size + 1 + 1 < S1.heap.size := by have := BS1.out.z; omega
  have y3 : w.heap.size + 1 + 1 + 1 < S1.heap.size := by have := BS1.out.z; omega
  have k00 := AS1.out.a0.c0
  have k10 := AS1.out.a1.c0
  have k20 := AS1.out.a2.c0
  have k01 := AS1.out.a0.c1
  have k11 := AS1.out.a1.c1
  have k21 := AS1.out.a2.c1
  have k02 := AS1.out.a0.c2
  have k12 := AS1.out.a1.c2
  have k22 := AS1.out.a2.c2
  have u9 := AS1.out.z9
  have u11 := AS1.out.z11
  skip
  go_wp2_with fail
  refine (isTogether_any (.slice q1 x1.length k1) (arcB x1) (arcW x1) ph _ rfl (by omega) hph).mono ?_; rw [t1]; rintro e' S2 ⟨rfl, hbS2⟩
  have BS2 := Lib.hid (BS1.out.keep hbS2 BS1.out.z)
  have AS2 := Lib.hid (AS1.out.keep hbS2)
  clear hbS2 ec0 ec1 ec2 ec3 ec4 ec5 ec6 ec7 ec8 ec9 ec10 ec11 ec12 ec13 ef0 ef1 ef2 ef3 ef4 ef5 ef6 ef7 ef8 ef9 ef10 ef11 ef12 ef13 tt0 tt1 tt2 tt3 tt4 rr0 rr1 rr2 rr3 y0 y1 y2 y3 k00 k01 k02 k10 k11 k12 k20 k21 k22 u9 u11 BS1 AS1
  have ec0 := BS2.out.e.c 0 (by decide)
  have ec1 := BS2.out.e.c 1 (by decide)
  have ec2 := BS2.out.e.c 2 (by decide)
  have ec3 := BS2.out.e.c 3 (by decide)
  have ec4 := BS2.out.e.c 4 (by decide)
  have ec5 := BS2.out.e.c 5 (by decide)
  have ec6 := BS2.out.e.c 6 (by decide)
  have ec7 := BS2.out.e.c 7 (by decide)
  have ec8 := BS2.out.e.c 8 (by decide)
  have ec9 := BS2.out.e.c 9 (by decide)
  have ec10 := BS2.out.e.c 10 (by decide)
  have ec11 := BS2.out.e.c 11 (by decide)
  have ec12 := BS2.out.e.c 12 (by decide)
  have ec13 := BS2.out.e.c 13 (by decide)
  have ef0 := BS2.out.e.f 0 (by decide)
  have ef1 := BS2.out.e.f 1 (by decide)
  have ef2 := BS2.out.e.f 2 (by decide)
  have ef3 := BS2.out.e.f 3 (by decide)
  have ef4 := BS2.out.e.f 4 (by decide)
  have ef5 := BS2.out.e.f 5 (by decide)
  have ef6 := BS2.out.e.f 6 (by decide)
  have ef7 := BS2.out.e.f 7 (by decide)
  have ef8 := BS2.out.e.f 8 (by decide)
  have ef9 := BS2.out.e.f 9 (by decide)
  have ef10 := BS2.out.e.f 10 (by decide)
  have ef11 := BS2.out.e.f 11 (by decide)
  have ef12 := BS2.out.e.f 12 (by decide)
  have ef13 := BS2.out.e.f 13 (by decide)
  have tt0 := BS2.out.t0
  have tt1 := BS2.out.t1
  have tt2 := BS2.out.t2
  have tt3 := BS2.out.t3
  have tt4 := BS2.out.t4
  have rr0 := BS2.out.r0
  have rr1 := BS2.out.r1
  have rr2 := BS2.out.r2
  have rr3 := BS2.out.r3
  have y0 : w.heap.size < S2.heap.size := by have := BS2.out.z; omega
  have y1 : w.heap.size + 1 < S2.heap.size := by have := BS2.out.z; omega
  have y2 : w.heap.size + 1 + 1 < S2.heap.size := by have := BS2.out.z; omega
  have y3 : w.heap.size + 1 + 1 + 1 < S2.heap.size := by have := BS2.out.z; omega
  have k00 := AS2.out.a0.c0
  have k10 := AS2.out.a1.c0
  have k20 := AS2.out.a2.c0
  have k01 := AS2.out.a0.c1
  have k11 := AS2.out.a1.c1
  have k21 := AS2.out.a2.c1
  have k02 := AS2.out.a0.c2
  have k12 := AS2.out.a1.c2
  have k22 := AS2.out.a2.c2
  have u9 := AS2.out.z9
  have u11 := AS2.out.z11
  skip
  go_wp2_with fail
  refine (isTogether_any (.slice q2 x2.length k2) (arcB x2) (arcW x2) ph _ rfl (by omega) hph).mono ?_; rw [t2]; rintro e' S3 ⟨rfl, hbS3⟩
  have BS3 := Lib.hid (BS2.out.keep hbS3 BS2.out.z)
  have AS3 := Lib.hid (AS2.out.keep hbS3)
  clear hbS3 ec0 ec1 ec2 ec3 ec4 ec5 ec6 ec7 ec8 ec9 ec10 ec11 ec12 ec13 ef0 ef1 ef2 ef3 ef4 ef5 ef6 ef7 ef8 ef9 ef10 ef11 ef12 ef13 tt0 tt1 tt2 tt3 tt4 rr0 rr1 rr2 rr3 y0 y1 y2 y3 k00 k01 k02 k10 k11 k12 k20 k21 k22 u9 u11 BS2 AS2
  have ec0 := BS3.out.e.c 0 (by decide)
  have ec1 := BS3.out.e.c 1 (by decide)
  have ec2 := BS3.out.e.c 2 (by decide)
  have ec3 := BS3.out.e.c 3 (by decide)
  have ec4 := BS3.out.e.c 4 (by decide)
  have ec5 := BS3.out.e.c 5 (by decide)
  have ec6 := BS3.out.e.c 6 (by decide)
  have ec7 := BS3.out.e.c 7 (by decide)
  have ec8 := BS3.out.e.c 8 (by decide)
  have ec9 := BS3.out.e.c 9 (by decide)
  have ec10 := BS3.out.e.c 10 (by decide)
  have ec11 := BS3.out.e.c 11 (by decide)
  have ec12 := BS3.out.e.c 12 (by decide)
  have ec13 := BS3.out.e.c 13 (by decide)
  have ef0 := BS3.out.e.f 0 (by decide)
  have ef1 := BS3.out.e.f 1 (by decide)
  have ef2 := BS3.out.e.f 2 (by decide)
  have ef3 := BS3.out.e.f 3 (by decide)
  have ef4 := BS3.out.e.f 4 (by decide)
  have ef5 := BS3.out.e.f 5 (by decide)
  have ef6 := BS3.out.e.f 6 (by decide)
  have ef7 := BS3.out.e.f 7 (by decide)
  have ef8 := BS3.out.e.f 8 (by decide)
  have ef9 := BS3.out.e.f 9 (by decide)
  have ef10 := BS3.out.e.f 10 (by decide)
  have ef11 := BS3.out.e.f 11 (by decide)
  have ef12 := BS3.out.e.f 12 (by decide)
  have ef13 := BS3.out.e.f 13 (by decide)
  have tt0 := BS3.out.t0
  have tt1 := BS3.out.t1
  have tt2 := BS3.out.t2
  have tt3 := BS3.out.t3
  have tt4 := BS3.out.t4
  have rr0 := BS3.out.r0
  have rr1 := BS3.out.r1
  have rr2 := BS3.out.r2
  have rr3 := BS3.out.r3
  have y0 : w.heap.size < S3.heap.size := by have := BS3.out.z; omega
  have y1 : w.heap.size + 1 < S3.heap.size := by have := BS3.out.z; omega
  have y2 : w.heap.size + 1 + 1 < S3.heap.size := by have := BS3.out.z; omega
  have y3 : w.heap.size + 1 + 1 + 1 < S3.heap.size := by have := BS3.out.z; omega
  have k00 := AS3.out.a0.c0
  have k10 := AS3.out.a1.c0
  have k20 := AS3.out.a2.c0
  have k01 := AS3.out.a0.c1
  have k11 := AS3.out.a1.c1
  have k21 := AS3.out.a2.c1
  have k02 := AS3.out.a0.c2
  have k12 := AS3.out.a1.c2
  have k22 := AS3.out.a2.c2
  have u9 := AS3.out.z9
  have u11 := AS3.out.z11
  skip
  have hXS : w.heap.size < X.heap.size := by omega
  have hYS : w.heap.size < Y.heap.size := by omega
  clear k00 k01 k02 k10 k11 k12 k20 k21 k22 u9 u11 tt0
  go_wp2_with fail
  obtain ⟨U, hU⟩ : ∃ U, U = S3.setCell ⟨w.heap.size, 0, none⟩ (.int .i64 3) := ⟨_, rfl⟩
  have BU := Lib.hid (BS3.out.set (k := 0) (v := 3))
  have AU := Lib.hid (AS3.out.set (d := w.heap.size) (k := 0) (u := .int .i64 3) (by omega) (by omega) (by omega))
  obtain ⟨e2, h2⟩ : ∃ g, g = upd e1 0 3 := ⟨_, rfl⟩
  have H2 := Lib.hid h2
  rw [← hU] at BU AU ⊢
  rw [← h2] at BU
  clear ec0 ec1 ec2 ec3 ec4 ec5 ec6 ec7 ec8 ec9 ec10 ec11 ec12 ec13 ef0 ef1 ef2 ef3 ef4 ef5 ef6 ef7 ef8 ef9 ef10 ef11 ef12 ef13 tt1 tt2 tt3 tt4 rr0 rr1 rr2 rr3 y0 y1 y2 y3 hU h2 BS3 AS3
  have HS0 := Lib.hid (show (fun w' : World => w'.cell? ⟨X.heap.size, 0, none⟩ = some (.slice q0 x0.length k0) ∧ w'.cell? ⟨X.heap.size, 1, none⟩ = some (.int .i64 (arcB x0)) ∧ w'.cell? ⟨X.heap.size, 2, none⟩ = some (.int .i64 (arcW x0)) ∧ w'.cell? ⟨w.heap.size + 1, 0, none⟩ = some (.int .i64 l) ∧ w'.cell? ⟨w.heap.size + 1, 1, none⟩ = some (.int .i64 kd) ∧ w'.cell? ⟨w.heap.size + 1, 2, none⟩ = some (.int .i64 f) ∧ w'.cell? ⟨w.heap.size + 1, 3, none⟩ = some (.int .i64 s) ∧ w'.cell? ⟨w.heap.size + 1, 4, none⟩ = some (.int .i64 c) ∧ w'.cell? ⟨w.heap.size + 1 + 1, 0, none⟩ = some (.int .i64 lv) ∧ w'.cell? ⟨w.heap.size + 1 + 1, 1, none⟩ = some (.int .i64 ph) ∧ w'.cell? ⟨w.heap.size + 1 + 1, 2, none⟩ = some (.int .i64 n0) ∧ w'.cell? ⟨w.heap.size + 1 + 1, 3, none⟩ = some (.int .i64 n1) ∧ Below U.drew.heap.size U.drew w') U.drew from ⟨AU.out.a0.c0, AU.out.a0.c1, AU.out.a0.c2, BU.out.t0, BU.out.t1, BU.out.t2, BU.out.t3, BU.out.t4, BU.out.r0, BU.out.r1, BU.out.r2, BU.out.r3, Below.refl _ _⟩)
  refine wp_region_held_tail (S := (fun w' : World => w'.cell? ⟨X.heap.size, 0, none⟩ = some (.slice q0 x0.length k0) ∧ w'.cell? ⟨X.heap.size, 1, none⟩ = some (.int .i64 (arcB x0)) ∧ w'.cell? ⟨X.heap.size, 2, none⟩ = some (.int .i64 (arcW x0)) ∧ w'.cell? ⟨w.heap.size + 1, 0, none⟩ = some (.int .i64 l) ∧ w'.cell? ⟨w.heap.size + 1, 1, none⟩ = some (.int .i64 kd) ∧ w'.cell? ⟨w.heap.size + 1, 2, none⟩ = some (.int .i64 f) ∧ w'.cell? ⟨w.heap.size + 1, 3, none⟩ = some (.int .i64 s) ∧ w'.cell? ⟨w.heap.size + 1, 4, none⟩ = some (.int .i64 c) ∧ w'.cell? ⟨w.heap.size + 1 + 1, 0, none⟩ = some (.int .i64 lv) ∧ w'.cell? ⟨w.heap.size + 1 + 1, 1, none⟩ = some (.int .i64 ph) ∧ w'.cell? ⟨w.heap.size + 1 + 1, 2, none⟩ = some (.int .i64 n0) ∧ w'.cell? ⟨w.heap.size + 1 + 1, 3, none⟩ = some (.int .i64 n1) ∧ Below U.drew.heap.size U.drew w')) 7 (by kernel_rfl) (by kernel_rfl) HS0.out (fun hHeld => ?_)
  refine wpAnyH_take (i := 0) (v := ?v0_1) rfl (by kernel_rfl) (by kernel_rfl) (by kernel_rfl) (fun _ _ _ h => h) (Or.inl ⟨by rfl, ?hy0_1⟩) (by assumption) ?rest0_1
  case hy0_1 => (intro w hSw; (try dsimp only at hSw); go_simp; (try with_reducible rfl))
  try simp only [Act.put, List.setIfInBounds_toArray, List.set_cons_zero, List.set_cons_succ]
  refine wpAnyH_take (i := 1) (v := ?v1_2) rfl (by kernel_rfl) (by kernel_rfl) (by kernel_rfl) (fun _ _ _ h => h) (Or.inl ⟨by rfl, ?hy1_2⟩) (by assumption) ?rest1_2
  case hy1_2 => (intro w hSw; (try dsimp only at hSw); go_simp; (try with_reducible rfl))
  try simp only [Act.put, List.setIfInBounds_toArray, List.set_cons_zero, List.set_cons_succ]
  refine wpAnyH_take (i := 2) (v := ?v2_3) rfl (by kernel_rfl) (by kernel_rfl) (by kernel_rfl) (fun _ _ _ h => h) (Or.inl ⟨by rfl, ?hy2_3⟩) (by assumption) ?rest2_3
  case hy2_3 => (intro w hSw; (try dsimp only at hSw); go_simp; (try with_reducible rfl))
  try simp only [Act.put, List.setIfInBounds_toArray, List.set_cons_zero, List.set_cons_succ]
  refine wpAnyH_take (i := 3) (v := ?v3_4) rfl (by kernel_rfl) (by kernel_rfl) (by kernel_rfl) (fun _ _ _ h => h) (Or.inl ⟨by rfl, ?hy3_4⟩) (by assumption) ?rest3_4
  case hy3_4 => (intro w hSw; (try dsimp only at hSw); go_simp; (try with_reducible rfl))
  try simp only [Act.put, List.setIfInBounds_toArray, List.set_cons_zero, List.set_cons_succ]
  refine wpAnyH_take (i := 6) (v := ?v6_5) rfl (by kernel_rfl) (by kernel_rfl) (by kernel_rfl) (fun _ _ _ h => h) (Or.inl ⟨by rfl, ?hy6_5⟩) (by assumption) ?rest6_5
  case hy6_5 => (intro w hSw; (try dsimp only at hSw); go_simp; (try with_reducible rfl))
  try simp only [Act.put, List.setIfInBounds_toArray, List.set_cons_zero, List.set_cons_succ]
  refine wpAnyH_ready (rs := [4]) (by kernel_rfl) (by simp) ?_
  refine AllReadyH.cons rfl (fun K hK => ?_) AllReadyH.nil
  go_simp; go_at_call 106; refine (HSL0.out _).mono ?_; rintro e' w' ⟨rfl, hb'⟩
  refine hK.out _ _ (⟨keepW hb' hHeld.1, keepW hb' hHeld.2.1, keepW hb' hHeld.2.2.1, keepW hb' hHeld.2.2.2.1, keepW hb' hHeld.2.2.2.2.1, keepW hb' hHeld.2.2.2.2.2.1, keepW hb' hHeld.2.2.2.2.2.2.1, keepW hb' hHeld.2.2.2.2.2.2.2.1, keepW hb' hHeld.2.2.2.2.2.2.2.2.1, keepW hb' hHeld.2.2.2.2.2.2.2.2.2.1, keepW hb' hHeld.2.2.2.2.2.2.2.2.2.2.1, keepW hb' hHeld.2.2.2.2.2.2.2.2.2.2.2.1, hHeld.2.2.2.2.2.2.2.2.2.2.2.2.trans (hb'.mono hHeld.2.2.2.2.2.2.2.2.2.2.2.2.size)⟩) (fun hHeld => ?_)
  clear hK K
  try simp only [Act.put, List.setIfInBounds_toArray, List.set_cons_zero, List.set_cons_succ]
  refine wpAnyH_ready (rs := [5]) (by kernel_rfl) (by simp) ?_
  refine AllReadyH.cons rfl (fun K hK => ?_) AllReadyH.nil
  go_simp; go_at_call 105; refine (HM0.out _ (((AU.out.i0.ints.keep (Below.refl U.heap.size U).drew)).keep hHeld.2.2.2.2.2.2.2.2.2.2.2.2)).mono ?_; rintro e' w' ⟨rfl, hb'⟩
  refine hK.out _ _ (⟨keepW hb' hHeld.1, keepW hb' hHeld.2.1, keepW hb' hHeld.2.2.1, keepW hb' hHeld.2.2.2.1, keepW hb' hHeld.2.2.2.2.1, keepW hb' hHeld.2.2.2.2.2.1, keepW hb' hHeld.2.2.2.2.2.2.1, keepW hb' hHeld.2.2.2.2.2.2.2.1, keepW hb' hHeld.2.2.2.2.2.2.2.2.1, keepW hb' hHeld.2.2.2.2.2.2.2.2.2.1, keepW hb' hHeld.2.2.2.2.2.2.2.2.2.2.1, keepW hb' hHeld.2.2.2.2.2.2.2.2.2.2.2.1, hHeld.2.2.2.2.2.2.2.2.2.2.2.2.trans (hb'.mono hHeld.2.2.2.2.2.2.2.2.2.2.2.2.size)⟩) (fun hHeld => ?_)
  clear hK K
  try simp only [Act.put, List.setIfInBounds_toArray, List.set_cons_zero, List.set_cons_succ]
  refine wpAnyH_done (by kernel_rfl) ?_ _
  change wpList _ _ _ _ _ _
  simp only [List.drop_succ_cons, List.drop_zero]
  obtain ⟨V0, hV0⟩ : ∃ V, V = w' := ⟨_, rfl⟩
  rw [← hV0] at hHeld ⊢
  clear hV0
  have hbV : Below U.heap.size U V0 := (Below.refl _ _).drew.trans hHeld.2.2.2.2.2.2.2.2.2.2.2.2
  have BV := Lib.hid (BU.out.keep hbV BU.out.z)
  have AV := Lib.hid (AU.out.keep hbV)
  clear hHeld HS0 hbV BU AU
  have ec0 := BV.out.e.c 0 (by decide)
  have ec1 := BV.out.e.c 1 (by decide)
  have ec2 := BV.out.e.c 2 (by decide)
  have ec3 := BV.out.e.c 3 (by decide)
  have ec4 := BV.out.e.c 4 (by decide)
  have ec5 := BV.out.e.c 5 (by decide)
  have ec6 := BV.out.e.c 6 (by decide)
  have ec7 := BV.out.e.c 7 (by decide)
  have ec8 := BV.out.e.c 8 (by decide)
  have ec9 := BV.out.e.c 9 (by decide)
  have ec10 := BV.out.e.c 10 (by decide)
  have ec11 := BV.out.e.c 11 (by decide)
  have ec12 := BV.out.e.c 12 (by decide)
  have ec13 := BV.out.e.c 13 (by decide)
  have ef0 := BV.out.e.f 0 (by decide)
  have ef1 := BV.out.e.f 1 (by decide)
  have ef2 := BV.out.e.f 2 (by decide)
  have ef3 := BV.out.e.f 3 (by decide)
  have ef4 := BV.out.e.f 4 (by decide)
  have ef5 := BV.out.e.f 5 (by decide)
  have ef6 := BV.out.e.f 6 (by decide)
  have ef7 := BV.out.e.f 7 (by decide)
  have ef8 := BV.out.e.f 8 (by decide)
  have ef9 := BV.out.e.f 9 (by decide)
  have ef10 := BV.out.e.f 10 (by decide)
  have ef11 := BV.out.e.f 11 (by decide)
  have ef12 := BV.out.e.f 12 (by decide)
  have ef13 := BV.out.e.f 13 (by decide)
  have tt0 := BV.out.t0
  have tt1 := BV.out.t1
  have tt2 := BV.out.t2
  have tt3 := BV.out.t3
  have tt4 := BV.out.t4
  have rr0 := BV.out.r0
  have rr1 := BV.out.r1
  have rr2 := BV.out.r2
  have rr3 := BV.out.r3
  have y0 : w.heap.size < V0.heap.size := by have := BV.out.z; omega
  have y1 : w.heap.size + 1 < V0.heap.size := by have := BV.out.z; omega
  have y2 : w.heap.size + 1 + 1 < V0.heap.size := by have := BV.out.z; omega
  have y3 : w.heap.size + 1 + 1 + 1 < V0.heap.size := by have := BV.out.z; omega
  go_wp2_with fail
  obtain ⟨U0, hU0⟩ : ∃ U, U = (V0.setCell ⟨w.heap.size, 3, none⟩ (.int .i64 lo0)).setCell ⟨w.heap.size, 4, none⟩ (.int .i64 hi0) := ⟨_, rfl⟩
  have BU0 := Lib.hid ((BV.out.set (k := 3) (v := lo0)).set (k := 4) (v := hi0))
  have AU0 := Lib.hid ((AV.out.set (d := w.heap.size) (k := 3) (u := .int .i64 lo0) (by omega) (by omega) (by omega)).set (d := w.heap.size) (k := 4) (u := .int .i64 hi0) (by omega) (by omega) (by omega))
  obtain ⟨e3, he3⟩ : ∃ g, g = upd (upd e2 3 lo0) 4 hi0 := ⟨_, rfl⟩
  have He3 := Lib.hid he3
  rw [← hU0] at BU0 AU0 ⊢
  rw [← he3] at BU0
  clear ec0 ec1 ec2 ec3 ec4 ec5 ec6 ec7 ec8 ec9 ec10 ec11 ec12 ec13 ef0 ef1 ef2 ef3 ef4 ef5 ef6 ef7 ef8 ef9 ef10 ef11 ef12 ef13 tt0 tt1 tt2 tt3 tt4 rr0 rr1 rr2 rr3 y0 y1 y2 y3 hU0 he3 BV AV
  have HS1 := Lib.hid (show (fun w' : World => w'.cell? ⟨(X.heap.size + 1), 0, none⟩ = some (.slice q1 x1.length k1) ∧ w'.cell? ⟨(X.heap.size + 1), 1, none⟩ = some (.int .i64 (arcB x1)) ∧ w'.cell? ⟨(X.heap.size + 1), 2, none⟩ = some (.int .i64 (arcW x1)) ∧ w'.cell? ⟨w.heap.size + 1, 0, none⟩ = some (.int .i64 l) ∧ w'.cell? ⟨w.heap.size + 1, 1, none⟩ = some (.int .i64 kd) ∧ w'.cell? ⟨w.heap.size + 1, 2, none⟩ = some (.int .i64 f) ∧ w'.cell? ⟨w.heap.size + 1, 3, none⟩ = some (.int .i64 s) ∧ w'.cell? ⟨w.heap.size + 1, 4, none⟩ = some (.int .i64 c) ∧ w'.cell? ⟨w.heap.size + 1 + 1, 0, none⟩ = some (.int .i64 lv) ∧ w'.cell? ⟨w.heap.size + 1 + 1, 1, none⟩ = some (.int .i64 ph) ∧ w'.cell? ⟨w.heap.size + 1 + 1, 2, none⟩ = some (.int .i64 n0) ∧ w'.cell? ⟨w.heap.size + 1 + 1, 3, none⟩ = some (.int .i64 n1) ∧ Below U0.drew.heap.size U0.drew w') U0.drew from ⟨AU0.out.a1.c0, AU0.out.a1.c1, AU0.out.a1.c2, BU0.out.t0, BU0.out.t1, BU0.out.t2, BU0.out.t3, BU0.out.t4, BU0.out.r0, BU0.out.r1, BU0.out.r2, BU0.out.r3, Below.refl _ _⟩)
  refine wp_region_held_tail (S := (fun w' : World => w'.cell? ⟨(X.heap.size + 1), 0, none⟩ = some (.slice q1 x1.length k1) ∧ w'.cell? ⟨(X.heap.size + 1), 1, none⟩ = some (.int .i64 (arcB x1)) ∧ w'.cell? ⟨(X.heap.size + 1), 2, none⟩ = some (.int .i64 (arcW x1)) ∧ w'.cell? ⟨w.heap.size + 1, 0, none⟩ = some (.int .i64 l) ∧ w'.cell? ⟨w.heap.size + 1, 1, none⟩ = some (.int .i64 kd) ∧ w'.cell? ⟨w.heap.size + 1, 2, none⟩ = some (.int .i64 f) ∧ w'.cell? ⟨w.heap.size + 1, 3, none⟩ = some (.int .i64 s) ∧ w'.cell? ⟨w.heap.size + 1, 4, none⟩ = some (.int .i64 c) ∧ w'.cell? ⟨w.heap.size + 1 + 1, 0, none⟩ = some (.int .i64 lv) ∧ w'.cell? ⟨w.heap.size + 1 + 1, 1, none⟩ = some (.int .i64 ph) ∧ w'.cell? ⟨w.heap.size + 1 + 1, 2, none⟩ = some (.int .i64 n0) ∧ w'.cell? ⟨w.heap.size + 1 + 1, 3, none⟩ = some (.int .i64 n1) ∧ Below U0.drew.heap.size U0.drew w')) 7 (by kernel_rfl) (by kernel_rfl) HS1.out (fun hHeld => ?_)
  refine wpAnyH_take (i := 0) (v := ?v0_6) rfl (by kernel_rfl) (by kernel_rfl) (by kernel_rfl) (fun _ _ _ h => h) (Or.inl ⟨by rfl, ?hy0_6⟩) (by assumption) ?rest0_6
  case hy0_6 => (intro w hSw; (try dsimp only at hSw); go_simp; (try with_reducible rfl))
  try simp only [Act.put, List.setIfInBounds_toArray, List.set_cons_zero, List.set_cons_succ]
  refine wpAnyH_take (i := 1) (v := ?v1_7) rfl (by kernel_rfl) (by kernel_rfl) (by kernel_rfl) (fun _ _ _ h => h) (Or.inl ⟨by rfl, ?hy1_7⟩) (by assumption) ?rest1_7
  case hy1_7 => (intro w hSw; (try dsimp only at hSw); go_simp; (try with_reducible rfl))
  try simp only [Act.put, List.setIfInBounds_toArray, List.set_cons_zero, List.set_cons_succ]
  refine wpAnyH_take (i := 2) (v := ?v2_8) rfl (by kernel_rfl) (by kernel_rfl) (by kernel_rfl) (fun _ _ _ h => h) (Or.inl ⟨by rfl, ?hy2_8⟩) (by assumption) ?rest2_8
  case hy2_8 => (intro w hSw; (try dsimp only at hSw); go_simp; (try with_reducible rfl))
  try simp only [Act.put, List.setIfInBounds_toArray, List.set_cons_zero, List.set_cons_succ]
  refine wpAnyH_take (i := 3) (v := ?v3_9) rfl (by kernel_rfl) (by kernel_rfl) (by kernel_rfl) (fun _ _ _ h => h) (Or.inl ⟨by rfl, ?hy3_9⟩) (by assumption) ?rest3_9
  case hy3_9 => (intro w hSw; (try dsimp only at hSw); go_simp; (try with_reducible rfl))
  try simp only [Act.put, List.setIfInBounds_toArray, List.set_cons_zero, List.set_cons_succ]
  refine wpAnyH_take (i := 6) (v := ?v6_10) rfl (by kernel_rfl) (by kernel_rfl) (by kernel_rfl) (fun _ _ _ h => h) (Or.inl ⟨by rfl, ?hy6_10⟩) (by assumption) ?rest6_10
  case hy6_10 => (intro w hSw; (try dsimp only at hSw); go_simp; (try with_reducible rfl))
  try simp only [Act.put, List.setIfInBounds_toArray, List.set_cons_zero, List.set_cons_succ]
  refine wpAnyH_ready (rs := [4]) (by kernel_rfl) (by simp) ?_
  refine AllReadyH.cons rfl (fun K hK => ?_) AllReadyH.nil
  go_simp; go_at_call 106; refine (HSL1.out _).mono ?_; rintro e' w' ⟨rfl, hb'⟩
  refine hK.out _ _ (⟨keepW hb' hHeld.1, keepW hb' hHeld.2.1, keepW hb' hHeld.2.2.1, keepW hb' hHeld.2.2.2.1, keepW hb' hHeld.2.2.2.2.1, keepW hb' hHeld.2.2.2.2.2.1, keepW hb' hHeld.2.2.2.2.2.2.1, keepW hb' hHeld.2.2.2.2.2.2.2.1, keepW hb' hHeld.2.2.2.2.2.2.2.2.1, keepW hb' hHeld.2.2.2.2.2.2.2.2.2.1, keepW hb' hHeld.2.2.2.2.2.2.2.2.2.2.1, keepW hb' hHeld.2.2.2.2.2.2.2.2.2.2.2.1, hHeld.2.2.2.2.2.2.2.2.2.2.2.2.trans (hb'.mono hHeld.2.2.2.2.2.2.2.2.2.2.2.2.size)⟩) (fun hHeld => ?_)
  clear hK K
  try simp only [Act.put, List.setIfInBounds_toArray, List.set_cons_zero, List.set_cons_succ]
  refine wpAnyH_ready (rs := [5]) (by kernel_rfl) (by simp) ?_
  refine AllReadyH.cons rfl (fun K hK => ?_) AllReadyH.nil
  go_simp; go_at_call 105; refine (HM1.out _ (((AU0.out.i1.ints.keep (Below.refl U0.heap.size U0).drew)).keep hHeld.2.2.2.2.2.2.2.2.2.2.2.2)).mono ?_; rintro e' w' ⟨rfl, hb'⟩
  refine hK.out _ _ (⟨keepW hb' hHeld.1, keepW hb' hHeld.2.1, keepW hb' hHeld.2.2.1, keepW hb' hHeld.2.2.2.1, keepW hb' hHeld.2.2.2.2.1, keepW hb' hHeld.2.2.2.2.2.1, keepW hb' hHeld.2.2.2.2.2.2.1, keepW hb' hHeld.2.2.2.2.2.2.2.1, keepW hb' hHeld.2.2.2.2.2.2.2.2.1, keepW hb' hHeld.2.2.2.2.2.2.2.2.2.1, keepW hb' hHeld.2.2.2.2.2.2.2.2.2.2.1, keepW hb' hHeld.2.2.2.2.2.2.2.2.2.2.2.1, hHeld.2.2.2.2.2.2.2.2.2.2.2.2.trans (hb'.mono hHeld.2.2.2.2.2.2.2.2.2.2.2.2.size)⟩) (fun hHeld => ?_)
  clear hK K
  try simp only [Act.put, List.setIfInBounds_toArray, List.set_cons_zero, List.set_cons_succ]
  refine wpAnyH_done (by kernel_rfl) ?_ _
  change wpList _ _ _ _ _ _
  simp only [List.drop_succ_cons, List.drop_zero]
  obtain ⟨V1, hV1⟩ : ∃ V, V = w' := ⟨_, rfl⟩
  rw [← hV1] at hHeld ⊢
  clear hV1
  have hbV : Below U0.heap.size U0 V1 := (Below.refl _ _).drew.trans hHeld.2.2.2.2.2.2.2.2.2.2.2.2
  have BV := Lib.hid (BU0.out.keep hbV BU0.out.z)
  have AV := Lib.hid (AU0.out.keep hbV)
  clear hHeld HS1 hbV BU0 AU0
  have ec0 := BV.out.e.c 0 (by decide)
  have ec1 := BV.out.e.c 1 (by decide)
  have ec2 := BV.out.e.c 2 (by decide)
  have ec3 := BV.out.e.c 3 (by decide)
  have ec4 := BV.out.e.c 4 (by decide)
  have ec5 := BV.out.e.c 5 (by decide)
  have ec6 := BV.out.e.c 6 (by decide)
  have ec7 := BV.out.e.c 7 (by decide)
  have ec8 := BV.out.e.c 8 (by decide)
  have ec9 := BV.out.e.c 9 (by decide)
  have ec10 := BV.out.e.c 10 (by decide)
  have ec11 := BV.out.e.c 11 (by decide)
  have ec12 := BV.out.e.c 12 (by decide)
  have ec13 := BV.out.e.c 13 (by decide)
  have ef0 := BV.out.e.f 0 (by decide)
  have ef1 := BV.out.e.f 1 (by decide)
  have ef2 := BV.out.e.f 2 (by decide)
  have ef3 := BV.out.e.f 3 (by decide)
  have ef4 := BV.out.e.f 4 (by decide)
  have ef5 := BV.out.e.f 5 (by decide)
  have ef6 := BV.out.e.f 6 (by decide)
  have ef7 := BV.out.e.f 7 (by decide)
  have ef8 := BV.out.e.f 8 (by decide)
  have ef9 := BV.out.e.f 9 (by decide)
  have ef10 := BV.out.e.f 10 (by decide)
  have ef11 := BV.out.e.f 11 (by decide)
  have ef12 := BV.out.e.f 12 (by decide)
  have ef13 := BV.out.e.f 13 (by decide)
  have tt0 := BV.out.t0
  have tt1 := BV.out.t1
  have tt2 := BV.out.t2
  have tt3 := BV.out.t3
  have tt4 := BV.out.t4
  have rr0 := BV.out.r0
  have rr1 := BV.out.r1
  have rr2 := BV.out.r2
  have rr3 := BV.out.r3
  have y0 : w.heap.size < V1.heap.size := by have := BV.out.z; omega
  have y1 : w.heap.size + 1 < V1.heap.size := by have := BV.out.z; omega
  have y2 : w.heap.size + 1 + 1 < V1.heap.size := by have := BV.out.z; omega
  have y3 : w.heap.size + 1 + 1 + 1 < V1.heap.size := by have := BV.out.z; omega
  have BU1 := Lib.hid ((BV.out.set (k := 5) (v := lo1)).set (k := 6) (v := hi1))
  have AU1 := Lib.hid ((AV.out.set (d := w.heap.size) (k := 5) (u := .int .i64 lo1) (by omega) (by omega) (by omega)).set (d := w.heap.size) (k := 6) (u := .int .i64 hi1) (by omega) (by omega) (by omega))
  have zec0 := BU1.out.e.c 0 (by decide)
  have zec1 := BU1.out.e.c 1 (by decide)
  have zec2 := BU1.out.e.c 2 (by decide)
  have zec3 := BU1.out.e.c 3 (by decide)
  have zec4 := BU1.out.e.c 4 (by decide)
  have zec5 := BU1.out.e.c 5 (by decide)
  have zec6 := BU1.out.e.c 6 (by decide)
  have zec7 := BU1.out.e.c 7 (by decide)
  have zec8 := BU1.out.e.c 8 (by decide)
  have zec9 := BU1.out.e.c 9 (by decide)
  have zec10 := BU1.out.e.c 10 (by decide)
  have zec11 := BU1.out.e.c 11 (by decide)
  have zec12 := BU1.out.e.c 12 (by decide)
  have zec13 := BU1.out.e.c 13 (by decide)
  have zef0 := BU1.out.e.f 0 (by decide)
  have zef1 := BU1.out.e.f 1 (by decide)
  have zef2 := BU1.out.e.f 2 (by decide)
  have zef3 := BU1.out.e.f 3 (by decide)
  have zef4 := BU1.out.e.f 4 (by decide)
  have zef5 := BU1.out.e.f 5 (by decide)
  have zef6 := BU1.out.e.f 6 (by decide)
  have zef7 := BU1.out.e.f 7 (by decide)
  have zef8 := BU1.out.e.f 8 (by decide)
  have zef9 := BU1.out.e.f 9 (by decide)
  have zef10 := BU1.out.e.f 10 (by decide)
  have zef11 := BU1.out.e.f 11 (by decide)
  have zef12 := BU1.out.e.f 12 (by decide)
  have zef13 := BU1.out.e.f 13 (by decide)
  have ztt0 := BU1.out.t0
  have ztt1 := BU1.out.t1
  have ztt2 := BU1.out.t2
  have ztt3 := BU1.out.t3
  have ztt4 := BU1.out.t4
  have zrr0 := BU1.out.r0
  have zrr1 := BU1.out.r1
  have zrr2 := BU1.out.r2
  have zrr3 := BU1.out.r3
  have zy0 : w.heap.size < ((V1.setCell ⟨w.heap.size, 5, none⟩ (.int .i64 lo1)).setCell ⟨w.heap.size, 6, none⟩ (.int .i64 hi1)).heap.size := by have := BU1.out.z; omega
  have zy1 : w.heap.size + 1 < ((V1.setCell ⟨w.heap.size, 5, none⟩ (.int .i64 lo1)).setCell ⟨w.heap.size, 6, none⟩ (.int .i64 hi1)).heap.size := by have := BU1.out.z; omega
  have zy2 : w.heap.size + 1 + 1 < ((V1.setCell ⟨w.heap.size, 5, none⟩ (.int .i64 lo1)).setCell ⟨w.heap.size, 6, none⟩ (.int .i64 hi1)).heap.size := by have := BU1.out.z; omega
  have zy3 : w.heap.size + 1 + 1 + 1 < ((V1.setCell ⟨w.heap.size, 5, none⟩ (.int .i64 lo1)).setCell ⟨w.heap.size, 6, none⟩ (.int .i64 hi1)).heap.size := by have := BU1.out.z; omega
  have zk00 := AU1.out.a0.c0
  have zk10 := AU1.out.a1.c0
  have zk20 := AU1.out.a2.c0
  have zk01 := AU1.out.a0.c1
  have zk11 := AU1.out.a1.c1
  have zk21 := AU1.out.a2.c1
  have zk02 := AU1.out.a0.c2
  have zk12 := AU1.out.a1.c2
  have zk22 := AU1.out.a2.c2
  have zu9 := AU1.out.z9
  have zu11 := AU1.out.z11
  skip
  go_wp2_with fail
  obtain ⟨U1, hU1⟩ : ∃ U, U = (V1.setCell ⟨w.heap.size, 5, none⟩ (.int .i64 lo1)).setCell ⟨w.heap.size, 6, none⟩ (.int .i64 hi1) := ⟨_, rfl⟩
  obtain ⟨e4, he4⟩ : ∃ g, g = upd (upd e3 5 lo1) 6 hi1 := ⟨_, rfl⟩
  have He4 := Lib.hid he4
  rw [← hU1] at BU1 AU1 ⊢
  rw [← he4] at BU1
  clear ec0 ec1 ec2 ec3 ec4 ec5 ec6 ec7 ec8 ec9 ec10 ec11 ec12 ec13 ef0 ef1 ef2 ef3 ef4 ef5 ef6 ef7 ef8 ef9 ef10 ef11 ef12 ef13 tt0 tt1 tt2 tt3 tt4 rr0 rr1 rr2 rr3 y0 y1 y2 y3 zec0 zec1 zec2 zec3 zec4 zec5 zec6 zec7 zec8 zec9 zec10 zec11 zec12 zec13 zef0 zef1 zef2 zef3 zef4 zef5 zef6 zef7 zef8 zef9 zef10 zef11 zef12 zef13 ztt0 ztt1 ztt2 ztt3 ztt4 zrr0 zrr1 zrr2 zrr3 zy0 zy1 zy2 zy3 zk00 zk01 zk02 zk10 zk11 zk12 zk20 zk21 zk22 zu9 zu11 hU1 he4 BV AV
  refine (HM2.out _ AU1.out.i2.ints).mono ?_; rintro e' V2 ⟨rfl, hbV⟩
  have BV := Lib.hid (BU1.out.keep hbV BU1.out.z)
  clear hbV BU1 AU1
  have ec0 := BV.out.e.c 0 (by decide)
  have ec1 := BV.out.e.c 1 (by decide)
  have ec2 := BV.out.e.c 2 (by decide)
  have ec3 := BV.out.e.c 3 (by decide)
  have ec4 := BV.out.e.c 4 (by decide)
  have ec5 := BV.out.e.c 5 (by decide)
  have ec6 := BV.out.e.c 6 (by decide)
  have ec7 := BV.out.e.c 7 (by decide)
  have ec8 := BV.out.e.c 8 (by decide)
  have ec9 := BV.out.e.c 9 (by decide)
  have ec10 := BV.out.e.c 10 (by decide)
  have ec11 := BV.out.e.c 11 (by decide)
  have ec12 := BV.out.e.c 12 (by decide)
  have ec13 := BV.out.e.c 13 (by decide)
  have ef0 := BV.out.e.f 0 (by decide)
  have ef1 := BV.out.e.f 1 (by decide)
  have ef2 := BV.out.e.f 2 (by decide)
  have ef3 := BV.out.e.f 3 (by decide)
  have ef4 := BV.out.e.f 4 (by decide)
  have ef5 := BV.out.e.f 5 (by decide)
  have ef6 := BV.out.e.f 6 (by decide)
  have ef7 := BV.out.e.f 7 (by decide)
  have ef8 := BV.out.e.f 8 (by decide)
  have ef9 := BV.out.e.f 9 (by decide)
  have ef10 := BV.out.e.f 10 (by decide)
  have ef11 := BV.out.e.f 11 (by decide)
  have ef12 := BV.out.e.f 12 (by decide)
  have ef13 := BV.out.e.f 13 (by decide)
  have tt0 := BV.out.t0
  have tt1 := BV.out.t1
  have tt2 := BV.out.t2
  have tt3 := BV.out.t3
  have tt4 := BV.out.t4
  have rr0 := BV.out.r0
  have rr1 := BV.out.r1
  have rr2 := BV.out.r2
  have rr3 := BV.out.r3
  have y0 : w.heap.size < V2.heap.size := by have := BV.out.z; omega
  have y1 : w.heap.size + 1 < V2.heap.size := by have := BV.out.z; omega
  have y2 : w.heap.size + 1 + 1 < V2.heap.size := by have := BV.out.z; omega
  have y3 : w.heap.size + 1 + 1 + 1 < V2.heap.size := by have := BV.out.z; omega
  have BW := Lib.hid ((BV.out.set (k := 12) (v := lo2)).set (k := 13) (v := hi2))
  have HG := Lib.hid (show EchoG ((V2.setCell ⟨w.heap.size, 12, none⟩ (.int .i64 lo2)).setCell ⟨w.heap.size, 13, none⟩ (.int .i64 hi2)) w.heap.size g by rw [HGG.out]; have h := BW.out.e; rw [He4.out, He3.out, H2.out, he1, ← hsp] at h; exact h)
  have HO := Lib.hid BW.out.o
  have hbw := BW.out.b
  have hzz := BW.out.z
  have EG1 := HG.out
  have gc0 := EG1.c 0 (by decide)
  have gc1 := EG1.c 1 (by decide)
  have gc2 := EG1.c 2 (by decide)
  have gc3 := EG1.c 3 (by decide)
  have gc4 := EG1.c 4 (by decide)
  have gc5 := EG1.c 5 (by decide)
  have gc6 := EG1.c 6 (by decide)
  have gc7 := EG1.c 7 (by decide)
  have gc8 := EG1.c 8 (by decide)
  have gc9 := EG1.c 9 (by decide)
  have gc10 := EG1.c 10 (by decide)
  have gc11 := EG1.c 11 (by decide)
  have gc12 := EG1.c 12 (by decide)
  have gc13 := EG1.c 13 (by decide)
  have oc0 := HO.out.c 0 (by decide)
  have of0 := HO.out.f 0 (by decide)
  have oc1 := HO.out.c 1 (by decide)
  have of1 := HO.out.f 1 (by decide)
  have oc2 := HO.out.c 2 (by decide)
  have of2 := HO.out.f 2 (by decide)
  have oc3 := HO.out.c 3 (by decide)
  have of3 := HO.out.f 3 (by decide)
  have oc4 := HO.out.c 4 (by decide)
  have of4 := HO.out.f 4 (by decide)
  have oc5 := HO.out.c 5 (by decide)
  have of5 := HO.out.f 5 (by decide)
  have oc6 := HO.out.c 6 (by decide)
  have of6 := HO.out.f 6 (by decide)
  have oc7 := HO.out.c 7 (by decide)
  have of7 := HO.out.f 7 (by decide)
  have oc8 := HO.out.c 8 (by decide)
  have of8 := HO.out.f 8 (by decide)
  have oc9 := HO.out.c 9 (by decide)
  have of9 := HO.out.f 9 (by decide)
  have oc10 := HO.out.c 10 (by decide)
  have of10 := HO.out.f 10 (by decide)
  have oc11 := HO.out.c 11 (by decide)
  have of11 := HO.out.f 11 (by decide)
  have oc12 := HO.out.c 12 (by decide)
  have of12 := HO.out.f 12 (by decide)
  have oc13 := HO.out.c 13 (by decide)
  have of13 := HO.out.f 13 (by decide)
  clear EG1 HGG hsp he1 BV BW He4 He3 H2
  go_wp2
  obtain ⟨Z, hZ⟩ : ∃ Z, Z = ((((((((((((((((V2.setCell ⟨w.heap.size, 12, none⟩ (.int .i64 lo2)).setCell ⟨w.heap.size, 13, none⟩ (.int .i64 hi2)).setCell ⟨w.heap.size + 1 + 1 + 1, 0, none⟩ (.int .i64 (g 0))).setCell ⟨w.heap.size + 1 + 1 + 1, 1, none⟩ (.int .i64 (g 1))).setCell ⟨w.heap.size + 1 + 1 + 1, 2, none⟩ (.int .i64 (g 2))).setCell ⟨w.heap.size + 1 + 1 + 1, 3, none⟩ (.int .i64 (g 3))).setCell ⟨w.heap.size + 1 + 1 + 1, 4, none⟩ (.int .i64 (g 4))).setCell ⟨w.heap.size + 1 + 1 + 1, 5, none⟩ (.int .i64 (g 5))).setCell ⟨w.heap.size + 1 + 1 + 1, 6, none⟩ (.int .i64 (g 6))).setCell ⟨w.heap.size + 1 + 1 + 1, 7, none⟩ (.int .i64 (g 7))).setCell ⟨w.heap.size + 1 + 1 + 1, 8, none⟩ (.int .i64 (g 8))).setCell ⟨w.heap.size + 1 + 1 + 1, 9, none⟩ (.int .i64 (g 9))).setCell ⟨w.heap.size + 1 + 1 + 1, 10, none⟩ (.int .i64 (g 10))).setCell ⟨w.heap.size + 1 + 1 + 1, 11, none⟩ (.int .i64 (g 11))).setCell ⟨w.heap.size + 1 + 1 + 1, 12, none⟩ (.int .i64 (g 12))).setCell ⟨w.heap.size + 1 + 1 + 1, 13, none⟩ (.int .i64 (g 13))) := ⟨_, rfl⟩
  rw [← hZ]
  have EZ := ((((((((((((((HO.out.set (k := 0) (v := g 0)).set (k := 1) (v := g 1)).set (k := 2) (v := g 2)).set (k := 3) (v := g 3)).set (k := 4) (v := g 4)).set (k := 5) (v := g 5)).set (k := 6) (v := g 6)).set (k := 7) (v := g 7)).set (k := 8) (v := g 8)).set (k := 9) (v := g 9)).set (k := 10) (v := g 10)).set (k := 11) (v := g 11)).set (k := 12) (v := g 12)).set (k := 13) (v := g 13))
  rw [← hZ] at EZ
  have bZ : Below w.heap.size w Z := by rw [hZ]; exact ((((((((((((((hbw.setCell (p := ⟨w.heap.size + 1 + 1 + 1, 0, none⟩) (by dsimp only; omega) _).setCell (p := ⟨w.heap.size + 1 + 1 + 1, 1, none⟩) (by dsimp only; omega) _).setCell (p := ⟨w.heap.size + 1 + 1 + 1, 2, none⟩) (by dsimp only; omega) _).setCell (p := ⟨w.heap.size + 1 + 1 + 1, 3, none⟩) (by dsimp only; omega) _).setCell (p := ⟨w.heap.size + 1 + 1 + 1, 4, none⟩) (by dsimp only; omega) _).setCell (p := ⟨w.heap.size + 1 + 1 + 1, 5, none⟩) (by dsimp only; omega) _).setCell (p := ⟨w.heap.size + 1 + 1 + 1, 6, none⟩) (by dsimp only; omega) _).setCell (p := ⟨w.heap.size + 1 + 1 + 1, 7, none⟩) (by dsimp only; omega) _).setCell (p := ⟨w.heap.size + 1 + 1 + 1, 8, none⟩) (by dsimp only; omega) _).setCell (p := ⟨w.heap.size + 1 + 1 + 1, 9, none⟩) (by dsimp only; omega) _).setCell (p := ⟨w.heap.size + 1 + 1 + 1, 10, none⟩) (by dsimp only; omega) _).setCell (p := ⟨w.heap.size + 1 + 1 + 1, 11, none⟩) (by dsimp only; omega) _).setCell (p := ⟨w.heap.size + 1 + 1 + 1, 12, none⟩) (by dsimp only; omega) _).setCell (p := ⟨w.heap.size + 1 + 1 + 1, 13, none⟩) (by dsimp only; omega) _)
  clear hZ
  have h0 : Z.cell? ⟨w.heap.size + 1 + 1 + 1, 0, none⟩ = some (.int .i64 (g 0)) := EZ.c 0 (by decide)
  have h1 : Z.cell? ⟨w.heap.size + 1 + 1 + 1, 1, none⟩ = some (.int .i64 (g 1)) := EZ.c 1 (by decide)
  have h2 : Z.cell? ⟨w.heap.size + 1 + 1 + 1, 2, none⟩ = some (.int .i64 (g 2)) := EZ.c 2 (by decide)
  have h3 : Z.cell? ⟨w.heap.size + 1 + 1 + 1, 3, none⟩ = some (.int .i64 (g 3)) := EZ.c 3 (by decide)
  have h4 : Z.cell? ⟨w.heap.size + 1 + 1 + 1, 4, none⟩ = some (.int .i64 (g 4)) := EZ.c 4 (by decide)
  have h5 : Z.cell? ⟨w.heap.size + 1 + 1 + 1, 5, none⟩ = some (.int .i64 (g 5)) := EZ.c 5 (by decide)
  have h6 : Z.cell? ⟨w.heap.size + 1 + 1 + 1, 6, none⟩ = some (.int .i64 (g 6)) := EZ.c 6 (by decide)
  have h7 : Z.cell? ⟨w.heap.size + 1 + 1 + 1, 7, none⟩ = some (.int .i64 (g 7)) := EZ.c 7 (by decide)
  have h8 : Z.cell? ⟨w.heap.size + 1 + 1 + 1, 8, none⟩ = some (.int .i64 (g 8)) := EZ.c 8 (by decide)
  have h9 : Z.cell? ⟨w.heap.size + 1 + 1 + 1, 9, none⟩ = some (.int .i64 (g 9)) := EZ.c 9 (by decide)
  have h10 : Z.cell? ⟨w.heap.size + 1 + 1 + 1, 10, none⟩ = some (.int .i64 (g 10)) := EZ.c 10 (by decide)
  have h11 : Z.cell? ⟨w.heap.size + 1 + 1 + 1, 11, none⟩ = some (.int .i64 (g 11)) := EZ.c 11 (by decide)
  have h12 : Z.cell? ⟨w.heap.size + 1 + 1 + 1, 12, none⟩ = some (.int .i64 (g 12)) := EZ.c 12 (by decide)
  have h13 : Z.cell? ⟨w.heap.size + 1 + 1 + 1, 13, none⟩ = some (.int .i64 (g 13)) := EZ.c 13 (by decide)
  clear EZ
  exact bodyPost_ret (v := .agg #[.int .i64 (g 0), .int .i64 (g 1), .int .i64 (g 2), .int .i64 (g 3), .int .i64 (g 4), .int .i64 (g 5), .int .i64 (g 6), .int .i64 (g 7), .int .i64 (g 8), .int .i64 (g 9), .int .i64 (g 10), .int .i64 (g 11), .int .i64 (g 12), .int .i64 (g 13)]) (by simp [results, Try.results92, go_sem, h0, h1, h2, h3, h4, h5, h6, h7, h8, h9, h10, h11, h12, h13]) rfl ⟨rfl, bZ⟩

end Go.Proofs.Ytmojnopgpgnfeaa

namespace Go.Proofs.Ytmojnopgpgnfeaa
open Go.RowKit
set_option linter.unusedVariables false

/-- an echo that surely is one, with what phases say of it -/
def phG (e : Nat → Int) (kd ph c : Int) (x0 x1 x2 : List Int) : Nat → Int :=
  if (decide (arcW x0 + 4 * ph < 32768) && decide (arcW x1 + 4 * ph < 32768) && decide (arcW x2 + 4 * ph < 32768)) = true then (upd (upd (upd (upd (upd (upd (upd (upd e 7 (mxx (arcW x0) (arcW x1))) 0 3) 3 (meanLo (arcB x0) x0 (slk kd ph x0))) 4 (meanHi (arcB x0) x0 (slk kd ph x0))) 5 (meanLo (arcB x1) x1 (slk kd ph x1))) 6 (meanHi (arcB x1) x1 (slk kd ph x1))) 12 (meanLo (arcB x2) x2 (2 * ph * c))) 13 (meanHi (arcB x2) x2 (2 * ph * c))) else (upd (upd e 7 (mxx (arcW x0) (arcW x1))) 0 2)
theorem wp_any (e : Nat → Int) (l kd f s c lv ph n0 n1 : Int) (b off n cap : Nat) (zs : Nat → Smp) (w : World) (hn : 1 ≤ n) (hn2 : n ≤ 64) (hc : kd = 2 → 4 ≤ c ∧ c ≤ 64 ∧ c % 2 = 0) (hcn : (n : Int) = c) (hzs : ∀ i, i < n → (0 ≤ (zs i).p ∧ (zs i).p < 65536) ∧ (0 ≤ (zs i).q ∧ (zs i).q < 65536)) (hph : 0 ≤ ph ∧ ph ≤ 4096) (hS : SmpsAt w b off n zs) (hb : b < w.heap.size) (x0 x1 x2 : List Int) (h0 : x0 = (valsB (stpTo zs kd c (n - 1)) false)) (h1 : x1 = (valsB (stpTo zs kd c (n - 1)) true)) (h2 : x2 = (trnTo zs n)) :
    Calls Try.prog 92 #[.agg #[.int .i64 (e 0), .int .i64 (e 1), .int .i64 (e 2), .int .i64 (e 3), .int .i64 (e 4), .int .i64 (e 5), .int .i64 (e 6), .int .i64 (e 7), .int .i64 (e 8), .int .i64 (e 9), .int .i64 (e 10), .int .i64 (e 11), .int .i64 (e 12), .int .i64 (e 13)], .agg #[.int .i64 l, .int .i64 kd, .int .i64 f, .int .i64 s, .int .i64 c], .agg #[.int .i64 lv, .int .i64 ph, .int .i64 n0, .int .i64 n1], .slice (some ⟨b, off, none⟩) n cap] w fun e' w' => e' = .returned (.agg #[.int .i64 ((phG e kd ph c x0 x1 x2) 0), .int .i64 ((phG e kd ph c x0 x1 x2) 1), .int .i64 ((phG e kd ph c x0 x1 x2) 2), .int .i64 ((phG e kd ph c x0 x1 x2) 3), .int .i64 ((phG e kd ph c x0 x1 x2) 4), .int .i64 ((phG e kd ph c x0 x1 x2) 5), .int .i64 ((phG e kd ph c x0 x1 x2) 6), .int .i64 ((phG e kd ph c x0 x1 x2) 7), .int .i64 ((phG e kd ph c x0 x1 x2) 8), .int .i64 ((phG e kd ph c x0 x1 x2) 9), .int .i64 ((phG e kd ph c x0 x1 x2) 10), .int .i64 ((phG e kd ph c x0 x1 x2) 11), .int .i64 ((phG e kd ph c x0 x1 x2) 12), .int .i64 ((phG e kd ph c x0 x1 x2) 13)]) ∧ Below w.heap.size w w' := by
  unfold phG
  rcases (Bool.eq_false_or_eq_true (decide (arcW x0 + 4 * ph < 32768))).symm with t0 | t0
  · rw [t0, if_neg (by simp)]
    exact wp_mixed0 e l kd f s c lv ph n0 n1 b off n cap zs w hn hn2 hc hcn hzs hph hS hb x0 x1 x2 h0 h1 h2 t0
  · rcases (Bool.eq_false_or_eq_true (decide (arcW x1 + 4 * ph < 32768))).symm with t1 | t1
    · rw [t0, t1, if_neg (by simp)]
      exact wp_mixed1 e l kd f s c lv ph n0 n1 b off n cap zs w hn hn2 hc hcn hzs hph hS hb x0 x1 x2 h0 h1 h2 t0 t1
    · rcases (Bool.eq_false_or_eq_true (decide (arcW x2 + 4 * ph < 32768))).symm with t2 | t2
      · rw [t0, t1, t2, if_neg (by simp)]
        exact wp_mixed2 e l kd f s c lv ph n0 n1 b off n cap zs w hn hn2 hc hcn hzs hph hS hb x0 x1 x2 h0 h1 h2 t0 t1 t2
      · rw [t0, t1, t2, if_pos (by simp)]
        exact wp_clear e l kd f s c lv ph n0 n1 b off n cap zs w hn hn2 hc hcn hzs hph hS hb x0 x1 x2 h0 h1 h2 t0 t1 t2

end Go.Proofs.Ytmojnopgpgnfeaa
