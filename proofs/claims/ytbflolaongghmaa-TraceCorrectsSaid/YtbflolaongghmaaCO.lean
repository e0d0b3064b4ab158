/-
  TraceCorrects: both corrections, in every case, by signs.
-/
import Derived.Test.YtbflolaongghmaaWK
import Derived.KernelRfl
namespace Go.Proofs.Ytbflolaongghmaa
open Go.RowKit
set_option linter.unusedVariables false
set_option linter.unusedSimpArgs false
def cσ (a b g h : Int) : Nat → Int
  | 0 => a
  | 1 => b
  | 2 => g
  | 3 => h
  | 4 => 1000 * a
  | 5 => 1000 * b
  | 6 => (1000 * a).tdiv h
  | 7 => 1000 * b + g
  | 8 => 1000 * b + g - 1
  | 9 => (1000 * b + g - 1).tdiv g
  | 10 => min ((1000 * a).tdiv h) 1073741824
  | 11 => min ((1000 * b + g - 1).tdiv g) 1073741824
  | 12 => (1000 * a).tmod h
  | 13 => 0 - 1000 * b
  | 14 => (0 - 1000 * b).tdiv g
  | 15 => (0 - 1000 * b).tmod g
  | 16 => (0 - 1000 * b).tdiv g - 1
  | _ => 0
abbrev cs (a b g h : Int) : Nat → Value := fun k => cI (cσ a b g h k)
def cmps (b1 b2 b3 c1 c2 c3 : Bool) : List (BinOp × Value × Value × Value) :=
  [(.leq, cI 0, sg 0, .bool b1), (.geq, sg 0, cI 0, .bool b1), (.leq, sg 0, sg 1, .bool b2), (.leq, sg 1, cI 1073741824, .bool b3),
   (.leq, cI 1, sg 2, .bool c1), (.geq, sg 2, cI 1, .bool c1), (.leq, sg 2, sg 3, .bool c2), (.leq, sg 3, cI 1000000, .bool c3)]
def sums (d : Bool) : List (BinOp × Value × Value × Value) :=
  [(.mul, cI 1000, sg 0, sg 4), (.mul, cI 1000, sg 1, sg 5), (.quo, sg 4, sg 3, sg 6), (.add, sg 5, sg 2, sg 7), (.sub, sg 7, cI 1, sg 8), (.quo, sg 8, sg 2, sg 9),
   (.rem, sg 4, sg 3, sg 12), (.lss, sg 12, cI 0, .bool false), (.sub, cI 0, sg 5, sg 13), (.quo, sg 13, sg 2, sg 14), (.rem, sg 13, sg 2, sg 15), (.lss, sg 15, cI 0, .bool d),
   (.sub, sg 14, cI 1, sg 16), (.sub, cI 0, if d then sg 16 else sg 14, sg 9)]
def ends : List (Bool × Value × Value × Value) :=
  [(false, sg 6, cI 1073741824, sg 10), (false, cI 1073741824, sg 6, sg 10), (false, sg 9, cI 1073741824, sg 11), (false, cI 1073741824, sg 9, sg 11)]
theorem cmps_ok (a b g h : Int) {b1 b2 b3 c1 c2 c3 : Bool} (h1 : decide (0 ≤ a) = b1) (h2 : decide (a ≤ b) = b2) (h3 : decide (b ≤ 1073741824) = b3)
    (k1 : decide (1 ≤ g) = c1) (k2 : decide (g ≤ h) = c2) (k3 : decide (h ≤ 1000000) = c3) : ∀ e ∈ cmps b1 b2 b3 c1 c2 c3, FactB (cs a b g h) e := by
  have i0 : Is (cs a b g h) (sg 0) a := rfl
  have i1 : Is (cs a b g h) (sg 1) b := rfl
  have i2 : Is (cs a b g h) (sg 2) g := rfl
  have i3 : Is (cs a b g h) (sg 3) h := rfl
  exact consF (leqF (.lit 0) i0 h1) <| consF (geqF i0 (.lit 0) h1) <| consF (leqF i0 i1 h2) <| consF (leqF i1 (.lit _) h3) <|
    consF (leqF (.lit 1) i2 k1) <| consF (geqF i2 (.lit 1) k1) <| consF (leqF i2 i3 k2) <| consF (leqF i3 (.lit _) k3) nilF
/-- the least whole number not below a quotient, said in two ways -/
theorem up_two {n g : Int} (hn : 0 ≤ n) (hg : 1 ≤ g) : (n + g - 1).tdiv g = if (0 - n).tmod g < 0 then 0 - ((0 - n).tdiv g - 1) else 0 - (0 - n).tdiv g := by
  rw [Int.tdiv_eq_ediv_of_nonneg (by omega), Int.zero_sub, Int.neg_tdiv, Int.neg_tmod, Int.tdiv_eq_ediv_of_nonneg hn, Int.tmod_eq_emod_of_nonneg hn]
  have e1 := Int.emod_add_mul_ediv n g
  have e2 := Int.emod_nonneg n (b := g) (by omega)
  have e3 := Int.emod_lt_of_pos n (b := g) (by omega)
  generalize hq : n / g = q at *
  generalize hr : n % g = r at *
  split
  · rename_i hs
    have : (n + g - 1) = (r - 1) + g * (q + 1) := by rw [Int.mul_add]; omega
    rw [this, Int.add_mul_ediv_left _ _ (by omega), Int.ediv_eq_zero_of_lt (by omega) (by omega)]; omega
  · rename_i hs
    have : (n + g - 1) = (g - 1) + g * q := by omega
    rw [this, Int.add_mul_ediv_left _ _ (by omega), Int.ediv_eq_zero_of_lt (by omega) (by omega)]; omega
theorem tdiv_in {n g : Int} (hn : 0 ≤ n) (hg : 1 ≤ g) : 0 ≤ n.tdiv g ∧ n.tdiv g ≤ n := by
  rw [Int.tdiv_eq_ediv_of_nonneg hn]; exact IntWalk.tdiv_le n g hn hg
theorem sums_ok {a b g h : Int} (h1 : 0 ≤ a) (h2 : a ≤ b) (h3 : b ≤ 1073741824) (k1 : 1 ≤ g) (k2 : g ≤ h) (k3 : h ≤ 1000000) : ∀ e ∈ sums (decide ((0 - 1000 * b).tmod g < 0)), FactB (cs a b g h) e := by
  have i (k : Nat) : Is (cs a b g h) (sg k) (cσ a b g h k) := rfl
  have q1 := tdiv_in (n := 1000 * a) (g := h) (by omega) (by omega)
  have q2 := tdiv_in (n := 1000 * b + g - 1) (g := g) (by omega) (by omega)
  have q3 := tdiv_in (n := 1000 * b) (g := g) (by omega) (by omega)
  have q4 : (0 - 1000 * b).tdiv g = - (1000 * b).tdiv g := by rw [Int.zero_sub, Int.neg_tdiv]
  have q5 : 0 ≤ (1000 * a).tmod h := by rw [Int.tmod_eq_emod_of_nonneg (by omega)]; exact Int.emod_nonneg _ (by omega)
  have u := up_two (n := 1000 * b) (g := g) (by omega) k1
  refine consF (mulF (.lit _) (i 0) (i 4) rfl ?_) <| consF (mulF (.lit _) (i 1) (i 5) rfl ?_) <| consF (quoF (i 4) (i 3) (i 6) rfl ?_ ?_) <| consF (addF (i 5) (i 2) (i 7) rfl ?_) <|
    consF (subF (i 7) (.lit _) (i 8) rfl ?_) <| consF (quoF (i 8) (i 2) (i 9) rfl ?_ ?_) <| consF (remF (i 4) (i 3) (i 12) rfl ?_) <| consF (lssF (i 12) (.lit _) ?_) <|
    consF (subF (.lit _) (i 5) (i 13) rfl ?_) <| consF (quoF (i 13) (i 2) (i 14) rfl ?_ ?_) <| consF (remF (i 13) (i 2) (i 15) rfl ?_) <| consF (lssF (i 15) (.lit _) rfl) <|
    consF (subF (i 14) (.lit _) (i 16) rfl ?_) <| consF ?last nilF
  case last =>
    by_cases d : (0 - 1000 * b).tmod g < 0
    · rw [if_pos d] at u
      rw [decide_eq_true d, if_pos rfl]
      exact subF (.lit _) (i 16) (i 9) u.symm (by simp only [cσ, In64]; omega)
    · rw [if_neg d] at u
      rw [decide_eq_false d, if_neg (by simp)]
      exact subF (.lit _) (i 14) (i 9) u.symm (by simp only [cσ, In64]; omega)
  all_goals try simp only [cσ, In64, decide_eq_false_iff_not]
  all_goals omega
theorem ends_ok (a b g h : Int) : ∀ e ∈ ends, FactM (cs a b g h) e := by
  have i (k : Nat) : Is (cs a b g h) (sg k) (cσ a b g h k) := rfl
  exact consF (minF (i 6) (.lit _) (i 10) rfl) <| consF (minF (.lit _) (i 6) (i 10) (Int.min_comm _ _)) <| consF (minF (i 9) (.lit _) (i 11) rfl) <| consF (minF (.lit _) (i 9) (i 11) (Int.min_comm _ _)) nilF
def AG : Array Value := #[.agg #[sg 0, sg 1], .agg #[sg 2, sg 3]]
theorem within (a b g h : Int) (d : Bool) (hl : ∀ e ∈ cmps true true true true true true ++ sums d, FactB (cs a b g h) e) (hm : ∀ e ∈ ends, FactM (cs a b g h) e) :
    isTrue (@answer (intEnv (cσ a b g h) _ _ hl hm) Try.prog KK 100000 60 4 AG) = true := by
  cases d
  · kernel_rfl
  · kernel_rfl
set_option maxHeartbeats 4000000 in
theorem outside (a b g h : Int) (b1 b2 b3 c1 c2 c3 : Bool) (hn : (b1 && b2 && b3 && c1 && c2 && c3) = false) (hl : ∀ e ∈ cmps b1 b2 b3 c1 c2 c3, FactB (cs a b g h) e) :
    isTrue (@answer (intEnv (cσ a b g h) _ [] hl nilF) Try.prog KK 100000 60 4 AG) = true := by
  cases b1 <;> cases b2 <;> cases b3 <;> cases c1 <;> cases c2 <;> cases c3 <;> first | exact absurd hn (by decide) | kernel_rfl
theorem TraceCorrects_walk (a b g h : Int) (w : World) :
    Calls Try.prog 4 #[.agg #[.int .i64 a, .int .i64 b], .agg #[.int .i64 g, .int .i64 h]] w fun e w' => e = .returned (.bool true) ∧ Below w.heap.size w w' := by
  by_cases hv : (decide (0 ≤ a) && decide (a ≤ b) && decide (b ≤ 1073741824) && decide (1 ≤ g) && decide (g ≤ h) && decide (h ≤ 1000000)) = true
  · simp only [Bool.and_eq_true, decide_eq_true_eq] at hv
    obtain ⟨⟨⟨⟨⟨h1, h2⟩, h3⟩, k1⟩, k2⟩, k3⟩ := hv
    have hl := appF (cmps_ok a b g h (decide_eq_true h1) (decide_eq_true h2) (decide_eq_true h3) (decide_eq_true k1) (decide_eq_true k2) (decide_eq_true k3)) (sums_ok h1 h2 h3 k1 k2 k3)
    exact @calls_signs (intEnv (cσ a b g h) _ _ hl (ends_ok a b g h)) Try.prog mixed KK (@KK_ok (intEnv (cσ a b g h) _ _ hl (ends_ok a b g h))) 100000 60 4 AG (.bool true) rfl rfl (isTrue_spec (within a b g h _ hl (ends_ok a b g h))) w
  · have hl := cmps_ok a b g h rfl rfl rfl rfl rfl rfl
    exact @calls_signs (intEnv (cσ a b g h) _ [] hl nilF) Try.prog mixed KK (@KK_ok (intEnv (cσ a b g h) _ [] hl nilF)) 100000 60 4 AG (.bool true) rfl rfl (isTrue_spec (outside a b g h _ _ _ _ _ _ (Bool.eq_false_iff.2 hv) hl)) w
end Go.Proofs.Ytbflolaongghmaa
