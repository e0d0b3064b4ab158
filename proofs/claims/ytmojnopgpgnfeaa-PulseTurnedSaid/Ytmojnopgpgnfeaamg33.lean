/-
  PulseBetter, walked.
-/
import Derived.Test.Ytmojnopgpgnfeaamg32
import Derived.Test.Ytmojnopgpgnfeaamg17
import Derived.Test.Ytmojnopgpgnfeaamg25
namespace Go.Proofs.Ytmojnopgpgnfeaa
open Go.RowKit
set_option linter.unusedVariables false
set_option linter.unusedSimpArgs false

structure BtB (w W : World) (l kd f s c lv ph n0 n1 d0 d1 d2 d3 : Int) : Prop where
  c0 : W.cell? ⟨w.heap.size, 0, none⟩ = some (.int .i64 l)
  c1 : W.cell? ⟨w.heap.size, 1, none⟩ = some (.int .i64 kd)
  c2 : W.cell? ⟨w.heap.size, 2, none⟩ = some (.int .i64 f)
  c3 : W.cell? ⟨w.heap.size, 3, none⟩ = some (.int .i64 s)
  c4 : W.cell? ⟨w.heap.size, 4, none⟩ = some (.int .i64 c)
  c5 : W.cell? ⟨w.heap.size + 1, 0, none⟩ = some (.int .i64 lv)
  c6 : W.cell? ⟨w.heap.size + 1, 1, none⟩ = some (.int .i64 ph)
  c7 : W.cell? ⟨w.heap.size + 1, 2, none⟩ = some (.int .i64 n0)
  c8 : W.cell? ⟨w.heap.size + 1, 3, none⟩ = some (.int .i64 n1)
  c9 : W.cell? ⟨w.heap.size + 1 + 1, 0, none⟩ = some (.int .u16 d0)
  c10 : W.cell? ⟨w.heap.size + 1 + 1, 1, none⟩ = some (.int .u16 d1)
  c11 : W.cell? ⟨w.heap.size + 1 + 1, 2, none⟩ = some (.int .u16 d2)
  c12 : W.cell? ⟨w.heap.size + 1 + 1, 3, none⟩ = some (.int .u16 d3)
  z : w.heap.size + 3 ≤ W.heap.size
  b : Below w.heap.size w W
theorem BtB.keep {w W w1 : World} {l kd f s c lv ph n0 n1 d0 d1 d2 d3 : Int} (x : BtB w W l kd f s c lv ph n0 n1 d0 d1 d2 d3) (hb : Below W.heap.size W w1) : BtB w w1 l kd f s c lv ph n0 n1 d0 d1 d2 d3 :=
  ⟨keepW hb x.c0, keepW hb x.c1, keepW hb x.c2, keepW hb x.c3, keepW hb x.c4, keepW hb x.c5, keepW hb x.c6, keepW hb x.c7, keepW hb x.c8, keepW hb x.c9, keepW hb x.c10, keepW hb x.c11, keepW hb x.c12, Nat.le_trans x.z hb.size, x.b.trans (hb.mono x.b.size)⟩
theorem BtB.new (w : World) (l kd f s c lv ph n0 n1 d0 d1 d2 d3 : Int) : BtB w (((w.alloc (.cells #[.int .i64 l, .int .i64 kd, .int .i64 f, .int .i64 s, .int .i64 c] 23)).alloc (.cells #[.int .i64 lv, .int .i64 ph, .int .i64 n0, .int .i64 n1] 27)).alloc (.cells #[.int .u16 d0, .int .u16 d1, .int .u16 d2, .int .u16 d3] 88)) l kd f s c lv ph n0 n1 d0 d1 d2 d3 := by
  obtain ⟨A1, e1⟩ : ∃ A, A = w.alloc (.cells #[.int .i64 l, .int .i64 kd, .int .i64 f, .int .i64 s, .int .i64 c] 23) := ⟨_, rfl⟩
  obtain ⟨A2, e2⟩ : ∃ A, A = A1.alloc (.cells #[.int .i64 lv, .int .i64 ph, .int .i64 n0, .int .i64 n1] 27) := ⟨_, rfl⟩
  obtain ⟨A3, e3⟩ : ∃ A, A = A2.alloc (.cells #[.int .u16 d0, .int .u16 d1, .int .u16 d2, .int .u16 d3] 88) := ⟨_, rfl⟩
  have s1 : A1.heap.size = w.heap.size + 1 := by rw [e1]; exact World.size_alloc _ _
  have s2 : A2.heap.size = w.heap.size + 1 + 1 := by rw [e2, World.size_alloc, s1]
  have s3 : A3.heap.size = w.heap.size + 3 := by rw [e3, World.size_alloc, s2]
  rw [← e1, ← e2, ← e3]
  have b1 : Below w.heap.size w A1 := by rw [e1]; exact below_alloc _ _
  have b2 : Below A1.heap.size A1 A2 := by rw [e2]; exact below_alloc _ _
  have b3 : Below A2.heap.size A2 A3 := by rw [e3]; exact below_alloc _ _
  have c13 : Below A1.heap.size A1 A3 := b2.trans (b3.mono (by omega))
  exact ⟨keepB c13 (by omega) (by rw [e1]; exact alloc_new rfl rfl), keepB c13 (by omega) (by rw [e1]; exact alloc_new rfl rfl), keepB c13 (by omega) (by rw [e1]; exact alloc_new rfl rfl), keepB c13 (by omega) (by rw [e1]; exact alloc_new rfl rfl), keepB c13 (by omega) (by rw [e1]; exact alloc_new rfl rfl), keepB b3 (by omega) (by rw [e2, ← s1]; exact alloc_new rfl rfl), keepB b3 (by omega) (by rw [e2, ← s1]; exact alloc_new rfl rfl), keepB b3 (by omega) (by rw [e2, ← s1]; exact alloc_new rfl rfl), keepB b3 (by omega) (by rw [e2, ← s1]; exact alloc_new rfl rfl), by rw [e3, ← s2]; exact alloc_new rfl rfl, by rw [e3, ← s2]; exact alloc_new rfl rfl, by rw [e3, ← s2]; exact alloc_new rfl rfl, by rw [e3, ← s2]; exact alloc_new rfl rfl, by omega, b1.trans (c13.mono (by omega))⟩
/-- an echo in its box -/
structure EchB (W : World) (q : Nat) (g : Nat → Int) : Prop where
  e0 : W.cell? ⟨q, 0, none⟩ = some (.int .i64 (g 0))
  e1 : W.cell? ⟨q, 1, none⟩ = some (.int .i64 (g 1))
  e2 : W.cell? ⟨q, 2, none⟩ = some (.int .i64 (g 2))
  e3 : W.cell? ⟨q, 3, none⟩ = some (.int .i64 (g 3))
  e4 : W.cell? ⟨q, 4, none⟩ = some (.int .i64 (g 4))
  e5 : W.cell? ⟨q, 5, none⟩ = some (.int .i64 (g 5))
  e6 : W.cell? ⟨q, 6, none⟩ = some (.int .i64 (g 6))
  e7 : W.cell? ⟨q, 7, none⟩ = some (.int .i64 (g 7))
  e8 : W.cell? ⟨q, 8, none⟩ = some (.int .i64 (g 8))
  e9 : W.cell? ⟨q, 9, none⟩ = some (.int .i64 (g 9))
  e10 : W.cell? ⟨q, 10, none⟩ = some (.int .i64 (g 10))
  e11 : W.cell? ⟨q, 11, none⟩ = some (.int .i64 (g 11))
  e12 : W.cell? ⟨q, 12, none⟩ = some (.int .i64 (g 12))
  e13 : W.cell? ⟨q, 13, none⟩ = some (.int .i64 (g 13))
theorem EchB.new (W : World) (g : Nat → Int) : EchB (W.alloc (.cells #[.int .i64 (g 0), .int .i64 (g 1), .int .i64 (g 2), .int .i64 (g 3), .int .i64 (g 4), .int .i64 (g 5), .int .i64 (g 6), .int .i64 (g 7), .int .i64 (g 8), .int .i64 (g 9), .int .i64 (g 10), .int .i64 (g 11), .int .i64 (g 12), .int .i64 (g 13)] 30)) W.heap.size g := ⟨alloc_new rfl rfl, alloc_new rfl rfl, alloc_new rfl rfl, alloc_new rfl rfl, alloc_new rfl rfl, alloc_new rfl rfl, alloc_new rfl rfl, alloc_new rfl rfl, alloc_new rfl rfl, alloc_new rfl rfl, alloc_new rfl rfl, alloc_new rfl rfl, alloc_new rfl rfl, alloc_new rfl rfl⟩
theorem EchB.keep {W w1 : World} {q : Nat} {g : Nat → Int} (s : EchB W q g) (hb : Below W.heap.size W w1) : EchB w1 q g := ⟨keepW hb s.e0, keepW hb s.e1, keepW hb s.e2, keepW hb s.e3, keepW hb s.e4, keepW hb s.e5, keepW hb s.e6, keepW hb s.e7, keepW hb s.e8, keepW hb s.e9, keepW hb s.e10, keepW hb s.e11, keepW hb s.e12, keepW hb s.e13⟩

set_option maxRecDepth 100000 in
set_option maxHeartbeats 16000000 in
theorem PulseBetter_walk (l kd f s c lv ph n0 n1 d0 d1 d2 d3 : Int) (a : Option Addr) (n cap : Nat) (zs : Nat → Smp) (w : World) (hn : n ≤ maxLen) (hS : SmpsIs w a n zs) (hd : (0 ≤ d0 ∧ d0 < 65536) ∧ (0 ≤ d1 ∧ d1 < 65536) ∧ (0 ≤ d2 ∧ d2 < 65536) ∧ (0 ≤ d3 ∧ d3 < 65536)) :
    Calls Try.prog 10 #[.agg #[.int .i64 l, .int .i64 kd, .int .i64 f, .int .i64 s, .int .i64 c], .agg #[.int .i64 lv, .int .i64 ph, .int .i64 n0, .int .i64 n1], .slice a n cap, .agg #[.int .u16 d0, .int .u16 d1, .int .u16 d2, .int .u16 d3]] w fun e w' => e = .returned (.bool true) ∧ Below w.heap.size w w' := by
  have hmaxl : maxLen = 9223372036854775807 := rfl
  have P0 := Lib.hid (BtB.new w l kd f s c lv ph n0 n1 d0 d1 d2 d3)
  obtain ⟨U, hU⟩ : ∃ U, U = (((w.alloc (.cells #[.int .i64 l, .int .i64 kd, .int .i64 f, .int .i64 s, .int .i64 c] 23)).alloc (.cells #[.int .i64 lv, .int .i64 ph, .int .i64 n0, .int .i64 n1] 27)).alloc (.cells #[.int .u16 d0, .int .u16 d1, .int .u16 d2, .int .u16 d3] 88)) := ⟨_, rfl⟩
  rw [← hU] at P0
  by_cases h64 : 64 < n
  · have e1 : decide (64 < (n : Int)) = true := decide_eq_true (by omega)
    go_enter Try.func10, Try.ntmps10
    go_wp2_with fail
    rw [← hU]
    clear hU
    refine (works_any _).mono ?_; rintro e' X ⟨rfl, hb⟩
    go_wp2
    go_ret
    exact ⟨rfl, P0.out.b.trans (hb.mono P0.out.b.size)⟩
  have e1 : decide (64 < (n : Int)) = false := decide_eq_false (by omega)
  obtain ⟨E, hE⟩ : ∃ E, E = herE l kd f s c lv ph n0 n1 n zs := ⟨_, rfl⟩
  obtain ⟨g, hg⟩ : ∃ g, g = herV l kd f s c lv ph n0 n1 n zs := ⟨_, rfl⟩
  have H1 : Hid (∀ W : World, Below w.heap.size w W → Calls Try.prog 27 #[.agg #[.int .i64 l, .int .i64 kd, .int .i64 f, .int .i64 s, .int .i64 c], .agg #[.int .i64 lv, .int .i64 ph, .int .i64 n0, .int .i64 n1], .slice a n cap] W fun e w' => e = .returned (.tuple #[.agg #[.int .i64 (g 0), .int .i64 (g 1), .int .i64 (g 2), .int .i64 (g 3), .int .i64 (g 4), .int .i64 (g 5), .int .i64 (g 6), .int .i64 (g 7), .int .i64 (g 8), .int .i64 (g 9), .int .i64 (g 10), .int .i64 (g 11), .int .i64 (g 12), .int .i64 (g 13)], .int .i64 E]) ∧ Below W.heap.size W w') := Lib.hid fun W hW => by rw [hE, hg]; exact Hear_any _ _ _ _ _ _ _ _ _ a n cap zs W (hS.keep hW)
  by_cases hE0 : E = 0
  case neg =>
    have e2 : (E == 0) = false := beq_eq_false_iff_ne.2 hE0
    have e3 : (E != 0) = true := by simpa using hE0
    clear hE hg hE0 hS
    go_enter Try.func10, Try.ntmps10
    go_wp2_with fail
    rw [← hU]
    clear hU
    obtain ⟨c0, c1, c2, c3, c4, c5, c6, c7, c8, c9, c10, c11, c12, hz, hbw⟩ := P0.out
    refine (H1.out _ hbw).mono ?_; rintro e' X1 ⟨rfl, hb1⟩
    have b2 := hbw.trans ((hb1.trans ((below_alloc X1 (.cells #[.int .i64 (g 0), .int .i64 (g 1), .int .i64 (g 2), .int .i64 (g 3), .int .i64 (g 4), .int .i64 (g 5), .int .i64 (g 6), .int .i64 (g 7), .int .i64 (g 8), .int .i64 (g 9), .int .i64 (g 10), .int .i64 (g 11), .int .i64 (g 12), .int .i64 (g 13)] 30)).mono hb1.size)).mono hbw.size)
    clear c0 c1 c2 c3 c4 c5 c6 c7 c8 c9 c10 c11 c12 hz hbw hb1 P0
    go_wp2_with fail
    refine (works_any _).mono ?_; rintro e' X ⟨rfl, hb⟩
    go_wp2
    go_ret
    exact ⟨rfl, b2.trans (hb.mono b2.size)⟩
  obtain ⟨k1, k2, k3, k4⟩ := herE_0 (hE.symm.trans hE0)
  obtain ⟨r1, r2, r3⟩ := recv_ok k2
  have hg2 : g = hearOf l kd c lv ph n0 n1 n zs := by rw [hg]; unfold herV; rw [if_pos (hE.symm.trans hE0)]
  obtain ⟨l2, hl2⟩ : ∃ x, max 0 (lv - d0) = x := ⟨_, rfl⟩
  obtain ⟨p2, hp2⟩ : ∃ x, max 0 (ph - d1) = x := ⟨_, rfl⟩
  obtain ⟨a2, ha2⟩ : ∃ x, min n1 (n0 + d2) = x := ⟨_, rfl⟩
  obtain ⟨b2, hb2⟩ : ∃ x, max a2 (n1 - d3) = x := ⟨_, rfl⟩
  have q1 : 0 ≤ l2 ∧ l2 ≤ lv := by omega
  have q2 : 0 ≤ p2 ∧ p2 ≤ ph := by omega
  have q3 : n0 ≤ a2 ∧ a2 ≤ b2 ∧ b2 ≤ n1 := by omega
  obtain ⟨m1, m2, m3⟩ := better (l := l) (kd := kd) (f := f) (s := s) (c := c) (zs := zs) k1 k2 k3 k4 q1 q2 q3
  rw [← hg2] at m2 m3
  obtain ⟨g2, hg3⟩ : ∃ g, g = hearOf l kd c l2 p2 a2 b2 n zs := ⟨_, rfl⟩
  rw [← hg3] at m2 m3
  have HW := Lib.hid (fun W : World => within_any g2 g W m2)
  have H2 : Hid (∀ W : World, Below w.heap.size w W → Calls Try.prog 27 #[.agg #[.int .i64 l, .int .i64 kd, .int .i64 f, .int .i64 s, .int .i64 c], .agg #[.int .i64 l2, .int .i64 p2, .int .i64 a2, .int .i64 b2], .slice a n cap] W fun e w' => e = .returned (.tuple #[.agg #[.int .i64 (g2 0), .int .i64 (g2 1), .int .i64 (g2 2), .int .i64 (g2 3), .int .i64 (g2 4), .int .i64 (g2 5), .int .i64 (g2 6), .int .i64 (g2 7), .int .i64 (g2 8), .int .i64 (g2 9), .int .i64 (g2 10), .int .i64 (g2 11), .int .i64 (g2 12), .int .i64 (g2 13)], .int .i64 0]) ∧ Below W.heap.size W w') := Lib.hid fun W hW => by
    have h := Hear_any l kd f s c l2 p2 a2 b2 a n cap zs W (hS.keep hW)
    have e : herE l kd f s c l2 p2 a2 b2 n zs = 0 := by unfold herE ckC samC; rw [if_pos k1, m1, if_pos rfl, if_pos k3, if_pos k4]
    have e2 : herV l kd f s c l2 p2 a2 b2 n zs = g2 := by rw [hg3]; unfold herV; rw [if_pos e]
    rw [e, e2] at h
    exact h
  subst hE0
  clear hE hg hg2 hg3 m1 m2 hS k1 k2 k3 k4
  have M3 := Lib.hid m3
  have Q3 := Lib.hid q3
  have j1 : IntKind.i64.wrap (lv - d0) = lv - d0 := IntWalk.i64_in _ (by omega)
  have j2 : IntKind.i64.wrap (ph - d1) = ph - d1 := IntWalk.i64_in _ (by omega)
  have j3 : IntKind.i64.wrap (n0 + d2) = n0 + d2 := IntWalk.i64_in _ (by omega)
  have j4 : IntKind.i64.wrap (n1 - d3) = n1 - d3 := IntWalk.i64_in _ (by omega)
  clear m3 q3
  go_enter Try.func10, Try.ntmps10
  go_wp2_with fail
  rw [← hU]
  clear hU
  obtain ⟨c0, c1, c2, c3, c4, c5, c6, c7, c8, c9, c10, c11, c12, hz, hbw⟩ := P0.out
  refine (H1.out _ hbw).mono ?_; rintro e' X1 ⟨rfl, hb1⟩
  have P1 := Lib.hid (P0.out.keep hb1)
  have G1 := Lib.hid (EchB.new X1 g)
  clear c0 c1 c2 c3 c4 c5 c6 c7 c8 c9 c10 c11 c12 hz hbw hb1 P0
  obtain ⟨c0, c1, c2, c3, c4, c5, c6, c7, c8, c9, c10, c11, c12, hz, hbw⟩ := P1.out
  have y0 : w.heap.size < X1.heap.size := by omega
  have y1 : w.heap.size + 1 < X1.heap.size := by omega
  have y2 : w.heap.size + 1 + 1 < X1.heap.size := by omega
  have Z1 : X1.heap.size < (X1.alloc (.cells #[.int .i64 (g 0), .int .i64 (g 1), .int .i64 (g 2), .int .i64 (g 3), .int .i64 (g 4), .int .i64 (g 5), .int .i64 (g 6), .int .i64 (g 7), .int .i64 (g 8), .int .i64 (g 9), .int .i64 (g 10), .int .i64 (g 11), .int .i64 (g 12), .int .i64 (g 13)] 30)).heap.size := by rw [World.size_alloc]; omega
  have YY := Lib.hid (And.intro y0 Z1)
  have BX := Lib.hid hbw
  go_wp2_with fail
  obtain ⟨A2, hA2⟩ : ∃ A, A = (X1.alloc (.cells #[.int .i64 (g 0), .int .i64 (g 1), .int .i64 (g 2), .int .i64 (g 3), .int .i64 (g 4), .int .i64 (g 5), .int .i64 (g 6), .int .i64 (g 7), .int .i64 (g 8), .int .i64 (g 9), .int .i64 (g 10), .int .i64 (g 11), .int .i64 (g 12), .int .i64 (g 13)] 30)).alloc (.cells #[.int .i64 l2, .int .i64 p2, .int .i64 a2, .int .i64 b2] 27) := ⟨_, rfl⟩
  have bA2 : Below (X1.alloc (.cells #[.int .i64 (g 0), .int .i64 (g 1), .int .i64 (g 2), .int .i64 (g 3), .int .i64 (g 4), .int .i64 (g 5), .int .i64 (g 6), .int .i64 (g 7), .int .i64 (g 8), .int .i64 (g 9), .int .i64 (g 10), .int .i64 (g 11), .int .i64 (g 12), .int .i64 (g 13)] 30)).heap.size (X1.alloc (.cells #[.int .i64 (g 0), .int .i64 (g 1), .int .i64 (g 2), .int .i64 (g 3), .int .i64 (g 4), .int .i64 (g 5), .int .i64 (g 6), .int .i64 (g 7), .int .i64 (g 8), .int .i64 (g 9), .int .i64 (g 10), .int .i64 (g 11), .int .i64 (g 12), .int .i64 (g 13)] 30)) A2 := by rw [hA2]; exact below_alloc _ _
  have bw2 : Below w.heap.size w A2 := BX.out.trans (((below_alloc X1 (.cells #[.int .i64 (g 0), .int .i64 (g 1), .int .i64 (g 2), .int .i64 (g 3), .int .i64 (g 4), .int .i64 (g 5), .int .i64 (g 6), .int .i64 (g 7), .int .i64 (g 8), .int .i64 (g 9), .int .i64 (g 10), .int .i64 (g 11), .int .i64 (g 12), .int .i64 (g 13)] 30)).trans (bA2.mono (by omega))).mono BX.out.size)
  have G2 := Lib.hid (G1.out.keep bA2)
  rw [← hA2]
  clear c0 c1 c2 c3 c4 c5 c6 c7 c8 c9 c10 c11 c12 hz hbw y0 y1 y2 hA2 P1
  refine (H2.out _ bw2).mono ?_; rintro e' X2 ⟨rfl, hb2'⟩
  have G3 := Lib.hid (G2.out.keep hb2')
  have y3 : X1.heap.size < X2.heap.size := by have := bA2.size; have := hb2'.size; omega
  have bw3 := Lib.hid (bw2.trans (hb2'.mono bw2.size))
  have GN := Lib.hid (EchB.new X2 g2)
  clear bA2 bw2 hb2' G1 G2 Z1
  obtain ⟨f0, f1, f2, f3, f4, f5, f6, f7, f8, f9, f10, f11, f12, f13⟩ := G3.out
  go_wp2_with fail
  obtain ⟨A3, hA3⟩ : ∃ A, A = X2.alloc (.cells #[.int .i64 (g2 0), .int .i64 (g2 1), .int .i64 (g2 2), .int .i64 (g2 3), .int .i64 (g2 4), .int .i64 (g2 5), .int .i64 (g2 6), .int .i64 (g2 7), .int .i64 (g2 8), .int .i64 (g2 9), .int .i64 (g2 10), .int .i64 (g2 11), .int .i64 (g2 12), .int .i64 (g2 13)] 30) := ⟨_, rfl⟩
  have bA3 : Below X2.heap.size X2 A3 := by rw [hA3]; exact below_alloc _ _
  have G4 := Lib.hid (G3.out.keep bA3)
  rw [← hA3] at GN ⊢
  have y4 : X2.heap.size < A3.heap.size := by rw [hA3, World.size_alloc]; omega
  clear hA3 f0 f1 f2 f3 f4 f5 f6 f7 f8 f9 f10 f11 f12 f13 G3
  refine (HW.out _).mono ?_; rintro e' X3 ⟨rfl, hb3⟩
  have G5 := G4.out.keep hb3
  have GM := GN.out.keep hb3
  have bw4 : Below w.heap.size w X3 := bw3.out.trans ((bA3.trans (hb3.mono bA3.size)).mono bw3.out.size)
  have h1 := G5.e0
  have h2 := G5.e7
  have h3 := GM.e7
  clear G5 GM hb3 bA3 G4 GN y4 y3
  by_cases k0 : g 0 = 1
  · have e5 : (g 0 == 1) = true := beq_iff_eq.2 k0
    clear k0
    go_wp2_with fail
    refine (works_any _).mono ?_; rintro e' X ⟨rfl, hb⟩
    go_wp2
    go_ret
    exact ⟨rfl, bw4.trans (hb.mono bw4.size)⟩
  · have e5 : (g 0 == 1) = false := beq_eq_false_iff_ne.2 k0
    have e6 : (g2 7 == g 7) = true := beq_iff_eq.2 (M3.out.resolve_left k0)
    clear k0
    go_wp2_with fail
    refine (works_any _).mono ?_; rintro e' X ⟨rfl, hb⟩
    go_wp2
    go_ret
    exact ⟨rfl, bw4.trans (hb.mono bw4.size)⟩

end Go.Proofs.Ytmojnopgpgnfeaa

namespace Go.Proofs.Ytmojnopgpgnfeaa
open Go.ChangeShapes Go.WideShapes Go.ChangeAt Go.RowKit
set_option linter.unusedVariables false
set_option linter.unusedSimpArgs false

theorem cells84 : Try.prog.cellsOf 84 = 4 := by kernel_rfl
theorem cells80 : Try.prog.cellsOf 80 = 1 := by kernel_rfl
theorem cells82 : Try.prog.cellsOf 82 = 4 := by kernel_rfl
theorem cells88 : Try.prog.cellsOf 88 = 4 := by kernel_rfl
theorem wf_u16 {c : Int} (h : (Lit.int .u16 c).wf = true) : 0 ≤ c ∧ c < 65536 := by
  have h1 : (decide (IntKind.u16.min ≤ c) && decide (c ≤ IntKind.u16.max)) = true := h
  rw [Bool.and_eq_true, decide_eq_true_eq, decide_eq_true_eq, show IntKind.u16.min = 0 by decide, show IntKind.u16.max = 65535 by decide] at h1
  omega

set_option maxRecDepth 100000 in
theorem smp_trod {H : Type} {enc : TypeId × Value → H} {w : World} {base : Nat} {spare : Nat → Bool} {held : Bool} {fuel : Nat} {v0 v1 v2 v3 : Value} {y : DataW H × List MemPlace}
    (hf : DataW.trod enc Try.prog w base spare held fuel 84 [v0, v1, v2, v3] = some y) : ∃ z : Smp, v0 = .int .i64 z.h ∧ v1 = .int .i64 z.p ∧ v2 = .int .i64 z.v ∧ v3 = .int .i64 z.q := by
  obtain ⟨xs, m, _, _, _, hlen, hg⟩ := DataW.trod_struct Try.underlying84 hf
  match xs, hlen with
  | [y0, y1, y2, y3], _ =>
    have g0 := hg 0 _ rfl
    simp [Value.cells, cells3] at g0
    obtain ⟨a, e0, _, _⟩ := DataW.trod_int Try.underlying3 g0
    have g1 := hg 1 _ rfl
    simp [Value.cells, cells3] at g1
    obtain ⟨b, e1, _, _⟩ := DataW.trod_int Try.underlying3 g1
    have g2 := hg 2 _ rfl
    simp [Value.cells, cells3] at g2
    obtain ⟨c, e2, _, _⟩ := DataW.trod_int Try.underlying3 g2
    have g3 := hg 3 _ rfl
    simp [Value.cells, cells3] at g3
    obtain ⟨d, e3, _, _⟩ := DataW.trod_int Try.underlying3 g3
    simp only [List.cons.injEq, and_true] at e0 e1 e2 e3
    exact ⟨⟨a, b, c, d⟩, e0, e1, e2, e3⟩

set_option maxRecDepth 100000 in
theorem smps_open {H : Type} {enc : TypeId × Value → H} {w : World} {r : Reach} {b0 base : Nat} {spare : Nat → Bool} {held : Bool} {v : Value} {d : DataW H} {p : List MemPlace}
    (hv : Value.okWide Try.prog w r b0 54 v) (hh : DataW.Trod enc Try.prog w base spare held 54 v d p) :
    ∃ (a : Option Addr) (n cap : Nat) (zs : Nat → Smp), v = .slice a n cap ∧ n ≤ maxLen ∧ SmpsIs w a n zs := by
  obtain ⟨a0, n0, c0, rfl⟩ := okWide_slice Try.underlying54 hv
  obtain ⟨fuel, h⟩ := hh
  rcases Go.Deep.open_slice Try.underlying54 h with ⟨hc, _⟩ | ⟨a, len, cap, m, k, D, Pl, hc, _, hl, hm, hmm, _, hi⟩
  · have hc2 : [Value.slice a0 n0 c0] = [Value.slice none 0 0] := hc
    simp only [List.cons.injEq, and_true] at hc2
    exact ⟨none, 0, 0, fun _ => ⟨0, 0, 0, 0⟩, hc2, by decide, .inl rfl⟩
  · have hc2 : [Value.slice a0 n0 c0] = [Value.slice (some a) len cap] := hc
    simp only [List.cons.injEq, and_true] at hc2
    have hle : len ≤ m := by rw [hmm]; split <;> omega
    have key : ∀ i, ∃ z : Smp, i < len → w.cell? (a.add (i * 4)) = some (.int .i64 z.h) ∧ w.cell? ((a.add (i * 4)).add 1) = some (.int .i64 z.p) ∧ w.cell? ((a.add (i * 4)).add 2) = some (.int .i64 z.v) ∧ w.cell? ((a.add (i * 4)).add 3) = some (.int .i64 z.q) := by
      intro i
      by_cases hil : i < len
      · obtain ⟨cs', hcs, ht⟩ := hi i (by omega)
        rw [cells84] at hcs
        obtain ⟨_, hcl, hat⟩ := World.cells?_some hcs
        match cs', hcl with
        | [v0, v1, v2, v3], _ =>
          obtain ⟨z, rfl, rfl, rfl, rfl⟩ := smp_trod ht
          refine ⟨z, fun _ => ⟨?_, hat 1 (by decide), hat 2 (by decide), hat 3 (by decide)⟩⟩
          have h0 := hat 0 (by decide)
          have e : (a.add (i * 4)).add 0 = a.add (i * 4) := by rw [Go.Deep.add_add]; rfl
          rw [e] at h0; exact h0
      · exact ⟨⟨0, 0, 0, 0⟩, fun h => absurd h hil⟩
    obtain ⟨zs, hz⟩ := Classical.axiomOfChoice key
    refine ⟨some a, len, cap, zs, hc2, Nat.le_trans hl hm, ?_⟩
    by_cases h0 : len = 0
    · exact .inl h0
    · have h1 := (hz 0 (by omega)).1
      have hsp : a.spot = none := World.cell?_spot h1
      refine .inr ⟨a.block, a.off, ?_, ?_, fun i hil => ?_, fun i hil => ?_, fun i hil => ?_, fun i hil => ?_⟩
      · obtain ⟨b, off, spot⟩ := a
        simp only at hsp
        rw [hsp]
      · rw [add_at hsp] at h1
        exact World.block_lt_of_cell? w ⟨a.block, a.off + 0 * 4, none⟩ h1
      · have h2 := (hz i hil).1
        rw [add_at hsp] at h2; exact h2
      · have h2 := (hz i hil).2.1
        rw [add_at2 hsp] at h2; exact h2
      · have h2 := (hz i hil).2.2.1
        rw [add_at2 hsp] at h2; exact h2
      · have h2 := (hz i hil).2.2.2
        rw [add_at2 hsp] at h2; exact h2

set_option maxRecDepth 100000 in
theorem four_open {H : Type} {enc : TypeId × Value → H} {w : World} {r : Reach} {b0 base : Nat} {spare : Nat → Bool} {held : Bool} {v : Value} {d : DataW H} {p : List MemPlace}
    (hv : Value.okWide Try.prog w r b0 88 v) (h : DataW.Trod enc Try.prog w base spare held 88 v d p) :
    ∃ (d0 d1 d2 d3 : Int), v = .agg #[.int .u16 d0, .int .u16 d1, .int .u16 d2, .int .u16 d3] ∧ (0 ≤ d0 ∧ d0 < 65536) ∧ (0 ≤ d1 ∧ d1 < 65536) ∧ (0 ≤ d2 ∧ d2 < 65536) ∧ (0 ≤ d3 ∧ d3 < 65536) := by
  simp only [Value.okWide, Try.underlying88] at hv
  obtain ⟨cs, rfl, hsz, _⟩ := hv
  have hsz2 := hsz.trans cells88
  obtain ⟨l⟩ := cs
  have hl : l.length = 4 := hsz2
  clear hsz hsz2
  match l, hl with
  | [v0, v1, v2, v3], _ =>
    obtain ⟨fuel, hf⟩ := h
    obtain ⟨xs, m, _, _, _, hlen, hg⟩ := DataW.trod_array Try.underlying88 hf
    match xs, hlen with
    | [y0, y1, y2, y3], _ =>
      have g0 := hg 0 (by decide)
      simp [cells80, Value.cells] at g0
      have g1 := hg 1 (by decide)
      simp [cells80, Value.cells] at g1
      have g2 := hg 2 (by decide)
      simp [cells80, Value.cells] at g2
      have g3 := hg 3 (by decide)
      simp [cells80, Value.cells] at g3
      obtain ⟨a, e0, _, w0⟩ := DataW.trod_int Try.underlying80 g0
      obtain ⟨b, e1, _, w1⟩ := DataW.trod_int Try.underlying80 g1
      obtain ⟨c, e2, _, w2⟩ := DataW.trod_int Try.underlying80 g2
      obtain ⟨d, e3, _, w3⟩ := DataW.trod_int Try.underlying80 g3
      simp only [List.cons.injEq, and_true] at e0 e1 e2 e3
      subst e0 e1 e2 e3
      exact ⟨a, b, c, d, rfl, wf_u16 w0, wf_u16 w1, wf_u16 w2, wf_u16 w3⟩

end Go.Proofs.Ytmojnopgpgnfeaa
