/-
  Small functions of the statements.
-/
import Derived.Test.YtdmbkhmhaininaaY0
import Derived.Test.YtdmbkhmhaininaaUC
import Derived.Deep.Cut
namespace Go.Proofs.Ytdmbkhmhaininaa
open Go.RowKit
set_option linter.unusedVariables false
set_option linter.unusedSimpArgs false

set_option maxHeartbeats 1600000 in
theorem lies_true (a1 a2 b1 b2 : Int) (w : World) (h1 : a1 ≤ a2) (h2 : b1 ≤ a1) (h3 : a2 ≤ b2) :
    Calls Try.prog 39 #[.agg #[.int .i64 a1, .int .i64 a2], .agg #[.int .i64 b1, .int .i64 b2]] w fun e w' => e = .returned (.bool true) ∧ Below w.heap.size w w' := by
  have d1 : decide (a1 ≤ a2) = true := decide_eq_true h1
  have d2 : decide (b1 ≤ a1) = true := decide_eq_true h2
  have d3 : decide (a2 ≤ b2) = true := decide_eq_true h3
  clear h1 h2 h3
  go_enter Try.func39, Try.ntmps39
  go_wp2
  go_ret
  exact ⟨rfl, by repeat (first | exact Below.refl _ _ | (refine Below.alloc ?_ (by first | (simp; done) | (simp only [World.size_alloc]; omega) | (simp; omega)) _))⟩
/-- a span within another one, by two numbers -/
def inL (lo hi c : Int) : Int := lo + c % (hi - lo + 1)
def inH (lo hi c d : Int) : Int := inL lo hi c + d % (hi - inL lo hi c + 1)
theorem in_bd {lo hi c d : Int} (h : lo ≤ hi) : lo ≤ inL lo hi c ∧ inL lo hi c ≤ inH lo hi c d ∧ inH lo hi c d ≤ hi := by
  have a := Int.emod_nonneg c (b := hi - lo + 1) (by omega)
  have b := Int.emod_lt_of_pos c (b := hi - lo + 1) (by omega)
  unfold inH inL
  have a2 := Int.emod_nonneg d (b := hi - (lo + c % (hi - lo + 1)) + 1) (by omega)
  have b2 := Int.emod_lt_of_pos d (b := hi - (lo + c % (hi - lo + 1)) + 1) (by omega)
  omega
theorem inner_boxes (w : World) (lo hi : Int) : ∃ A, A = (w.alloc (.cells #[.int .i64 lo, .int .i64 hi] 24)).alloc (.cells #[.int .i64 0, .int .i64 0] 24) ∧ Below w.heap.size w A ∧ A.heap.size = w.heap.size + 2 ∧ A.cell? ⟨w.heap.size, 0, none⟩ = some (.int .i64 lo) ∧ A.cell? ⟨w.heap.size, 1, none⟩ = some (.int .i64 hi) ∧ A.cell? ⟨w.heap.size + 1, 0, none⟩ = some (.int .i64 0) ∧ A.cell? ⟨w.heap.size + 1, 1, none⟩ = some (.int .i64 0) ∧ A.frozen? ⟨w.heap.size + 1, 0, none⟩ = false ∧ A.frozen? ⟨w.heap.size + 1, 1, none⟩ = false := by
  obtain ⟨A0, e0⟩ : ∃ A, A = w.alloc (.cells #[.int .i64 lo, .int .i64 hi] 24) := ⟨_, rfl⟩
  have s0 : A0.heap.size = w.heap.size + 1 := by rw [e0, World.size_alloc]
  have b0 : Below w.heap.size w A0 := by rw [e0]; exact below_alloc _ _
  have c0_0_0 : A0.cell? ⟨w.heap.size, 0, none⟩ = some (.int .i64 lo) := by rw [e0]; exact alloc_new rfl rfl
  have c0_1_0 : A0.cell? ⟨w.heap.size, 1, none⟩ = some (.int .i64 hi) := by rw [e0]; exact alloc_new rfl rfl
  rw [← e0]
  exact ⟨_, rfl, b0.trans ((below_alloc _ _).mono (by omega)), by rw [World.size_alloc]; omega, alloc_keep (by omega) c0_0_0, alloc_keep (by omega) c0_1_0, alloc_new s0.symm rfl, alloc_new s0.symm rfl, alloc_newF s0.symm, alloc_newF s0.symm⟩

set_option maxRecDepth 100000 in
set_option maxHeartbeats 3200000 in
theorem inner_any (lo hi c d : Int) (w : World) (h : lo ≤ hi) (h1 : -2147483648 ≤ lo) (h2 : hi ≤ 2147483648) (c0 : 0 ≤ c) (c1 : c < 4294967296) (d0 : 0 ≤ d) (d1 : d < 4294967296) :
    Calls Try.prog 46 #[.agg #[.int .i64 lo, .int .i64 hi], .int .u32 c, .int .u32 d] w fun e w' => e = .returned (.agg #[.int .i64 (inL lo hi c), .int .i64 (inH lo hi c d)]) ∧ Below w.heap.size w w' := by
  obtain ⟨E, hE, bE, zE, a0, a1, r0, r1, g0, g1⟩ := inner_boxes w lo hi
  have hin := in_bd (c := c) (d := d) h
  obtain ⟨A, hA⟩ : ∃ A, A = inL lo hi c := ⟨_, rfl⟩
  obtain ⟨B, hB⟩ : ∃ B, B = inH lo hi c d := ⟨_, rfl⟩
  have m1 := Int.emod_nonneg c (b := hi - lo + 1) (by omega)
  have m2 := Int.emod_lt_of_pos c (b := hi - lo + 1) (by omega)
  have e1 : lo + c % (hi - lo + 1) = A := by rw [hA]; rfl
  have e2 : A + d % (hi - A + 1) = B := by rw [hB, hA]; rfl
  have e3 : c.tmod (hi - lo + 1) = c % (hi - lo + 1) := Int.tmod_eq_emod_of_nonneg c0
  rw [← hA, ← hB] at hin
  have m3 := Int.emod_nonneg d (b := hi - A + 1) (by omega)
  have m4 := Int.emod_lt_of_pos d (b := hi - A + 1) (by omega)
  have e4 : d.tmod (hi - A + 1) = d % (hi - A + 1) := Int.tmod_eq_emod_of_nonneg d0
  have HAB := Lib.hid (And.intro hA hB)
  have w1 : IntKind.i64.wrap c = c := IntWalk.i64_in _ (by omega)
  have w2 : IntKind.i64.wrap d = d := IntWalk.i64_in _ (by omega)
  have w3 : IntKind.i64.wrap (hi - lo) = hi - lo := IntWalk.i64_in _ (by omega)
  have w4 : IntKind.i64.wrap (hi - lo + 1) = hi - lo + 1 := IntWalk.i64_in _ (by omega)
  have w5 : IntKind.i64.wrap (c.tmod (hi - lo + 1)) = c.tmod (hi - lo + 1) := by rw [e3]; exact IntWalk.i64_in _ (by omega)
  have w6 : IntKind.i64.wrap A = A := IntWalk.i64_in _ (by omega)
  have w7 : IntKind.i64.wrap (lo + c % (hi - lo + 1)) = A := by rw [e1]; exact w6
  have w8 : IntKind.i64.wrap (hi - A) = hi - A := IntWalk.i64_in _ (by omega)
  have w9 : IntKind.i64.wrap (hi - A + 1) = hi - A + 1 := IntWalk.i64_in _ (by omega)
  have wa : IntKind.i64.wrap (d.tmod (hi - A + 1)) = d.tmod (hi - A + 1) := by rw [e4]; exact IntWalk.i64_in _ (by omega)
  have wb : IntKind.i64.wrap (A + d % (hi - A + 1)) = B := by rw [e2]; exact IntWalk.i64_in _ (by omega)
  have z1 : ¬ hi - lo + 1 = 0 := by omega
  have z2 : (hi - lo + 1 == 0) = false := beq_eq_false_iff_ne.2 z1
  have z3 : ¬ hi - A + 1 = 0 := by omega
  have z4 : (hi - A + 1 == 0) = false := beq_eq_false_iff_ne.2 z3
  have y0 : w.heap.size < E.heap.size := by omega
  have y1 : w.heap.size + 1 < E.heap.size := by omega
  clear hA hB hin zE
  go_enter Try.func46, Try.ntmps46
  go_wp2_with fail
  rw [← hE]
  clear hE
  go_quiet (fail)
  have bD := drewN_below bE nq
  have hb : Below E.heap.size E (E.drewN nq) := drewN_below (Below.refl _ _) nq
  have a0 := keepB hb y0 a0
  have a1 := keepB hb y0 a1
  have r0 := keepB hb y1 r0
  have r1 := keepB hb y1 r1
  have g0 := keepF hb y1 g0
  have g1 := keepF hb y1 g1
  have y1 := Nat.lt_of_lt_of_le y1 hb.size
  clear hb
  generalize E.drewN nq = D at *
  go_wp2
  exact bodyPost_ret (v := .agg #[.int .i64 A, .int .i64 B]) (by simp [results, Try.results46, go_sem, set_same (i := 0) (v := .int .i64 A) r0, set_other (i := 1) (j := 0) (v := .int .i64 B) (by decide) (set_same (i := 0) (v := .int .i64 A) r0), set_same (i := 1) (v := .int .i64 B) (set_other (i := 0) (j := 1) (v := .int .i64 A) (by decide) r1)]) rfl ⟨by rw [HAB.out.1, HAB.out.2], ((bD.setCell (p := ⟨w.heap.size + 1, 0, none⟩) (by dsimp only; omega) _).setCell (p := ⟨w.heap.size + 1, 1, none⟩) (by dsimp only; omega) _)⟩

/-- an element, as often as it is needed -/
def nthC (n : Nat) (cs : Nat → Int) (i : Nat) : Int := if n = 0 then 0 else cs (i % n)
theorem u32_bd {v : Int} (h : (Lit.int .u32 v).wf = true) : 0 ≤ v ∧ v < 4294967296 := by
  have h1 : (decide (IntKind.u32.min ≤ v) && decide (v ≤ IntKind.u32.max)) = true := h
  rw [Bool.and_eq_true, decide_eq_true_eq, decide_eq_true_eq, show IntKind.u32.min = 0 by decide, show IntKind.u32.max = 4294967295 by decide] at h1
  omega
theorem nthC_bd {n : Nat} {cs : Nat → Int} (h : ∀ i, (Lit.int .u32 (cs i)).wf = true) (i : Nat) : 0 ≤ nthC n cs i ∧ nthC n cs i < 4294967296 := by
  unfold nthC
  split
  · omega
  · have := h (i % n)
    exact u32_bd this
set_option maxHeartbeats 1600000 in
theorem nth_any (a : Option Addr) (n cap : Nat) (cs : Nat → Int) (i : Nat) (w : World) (hn : n ≤ maxLen) (hi : i ≤ 1000000) (hs : NumsIs .u32 w a n cs) :
    Calls Try.prog 40 #[.slice a n cap, .int .i64 (i : Int)] w fun e w' => e = .returned (.int .u32 (nthC n cs i)) ∧ w = w' := by
  unfold maxLen at hn
  by_cases h0 : n = 0
  · subst h0
    have e : nthC 0 cs i = 0 := rfl
    rw [e]
    go_enter Try.func40, Try.ntmps40
    go_wp2
    go_ret
    exact ⟨rfl, rfl⟩
  · rcases hs with h | ⟨b, off, rfl, hb, hs⟩
    · exact absurd h h0
    have hlt : i % n < n := Nat.mod_lt _ (by omega)
    have c0 := hs (i % n) hlt
    have e : nthC n cs i = cs (i % n) := by unfold nthC; rw [if_neg h0]
    rw [e]
    have d0 : ((n : Int) == 0) = false := by rw [beq_eq_false_iff_ne]; omega
    have d1 : ¬ (n : Int) = 0 := by omega
    have e1 : ((i : Int)).tmod (n : Int) = ((i % n : Nat) : Int) := by rw [Int.tmod_eq_emod_of_nonneg (by omega), ← Int.natCast_emod]
    obtain ⟨r, hr⟩ : ∃ r, r = i % n := ⟨_, rfl⟩
    rw [← hr] at hlt c0 e1 ⊢
    have e2 : IntKind.i64.wrap (r : Int) = (r : Int) := IntWalk.i64_in _ (by omega)
    have q0 : (0 : Int) ≤ (r : Int) := by omega
    have q1 : (r : Int) < (n : Int) := by omega
    clear hr hs e
    generalize cs r = v at *
    go_enter Try.func40, Try.ntmps40
    go_wp2
    go_ret
    exact ⟨rfl, rfl⟩

end Go.Proofs.Ytdmbkhmhaininaa
