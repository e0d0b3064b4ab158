/-
  What phases say of an echo: the walks.
-/
import Derived.Test.Ytmojnopgpgnfeaamg9
namespace Go.Proofs.Ytmojnopgpgnfeaa
open Go.RowKit
set_option linter.unusedVariables false
set_option linter.unusedSimpArgs false

theorem steps_call (l kd f s c : Int) (b off n cap : Nat) (zs : Nat → Smp) (w : World) (hn : 1 ≤ n) (hn2 : n ≤ 64) (hc : kd = 2 → 4 ≤ c ∧ c ≤ 64 ∧ c % 2 = 0) (hcn : (n : Int) = c) (hzs : ∀ i, i < n → 0 ≤ (zs i).p ∧ (zs i).p < 65536) (hS : SmpsAt w b off n zs) (hb : b < w.heap.size) (x0 x1 : List Int) (h0 : x0 = (valsB (stpTo zs kd c (n - 1)) false)) (h1 : x1 = (valsB (stpTo zs kd c (n - 1)) true)) :
    ∀ W : World, Below w.heap.size w W → w.heap.size + 4 ≤ W.heap.size → Calls Try.prog 102 #[.agg #[.int .i64 l, .int .i64 kd, .int .i64 f, .int .i64 s, .int .i64 c], .slice (some ⟨b, off, none⟩) n cap] W fun e w' => ∃ q0 k0 q1 k1, e = .returned (.tuple #[.agg #[.slice q0 x0.length k0, .int .i64 (arcB x0), .int .i64 (arcW x0)], .agg #[.slice q1 x1.length k1, .int .i64 (arcB x1), .int .i64 (arcW x1)]]) ∧ RowL (w.heap.size + 4) w' (.slice q0 x0.length k0) x0 ∧ RowL (w.heap.size + 4) w' (.slice q1 x1.length k1) x1 ∧ Below W.heap.size W w' := by
  intro W hW hz
  subst h0 h1
  refine (stepsOf_any l kd f s c b off n cap zs W hn hn2 hc hcn hzs (hS.keep hW hb) (Nat.lt_of_lt_of_le hb hW.size)).mono ?_
  rintro e w' ⟨v0, v1, rfl, i0, i1, hb'⟩
  obtain ⟨q0, k0, rfl⟩ := i0.ints.slice
  obtain ⟨q1, k1, rfl⟩ := i1.ints.slice
  exact ⟨q0, k0, q1, k1, rfl, i0.mono hz, i1.mono hz, hb'⟩
theorem turns_call (b off n cap : Nat) (zs : Nat → Smp) (w : World) (hn2 : n ≤ 64) (hzs : ∀ i, i < n → (0 ≤ (zs i).p ∧ (zs i).p < 65536) ∧ (0 ≤ (zs i).q ∧ (zs i).q < 65536)) (hS : SmpsAt w b off n zs) (hb : b < w.heap.size) (x2 : List Int) (h2 : x2 = (trnTo zs n)) :
    ∀ W : World, Below w.heap.size w W → w.heap.size + 4 ≤ W.heap.size → Calls Try.prog 103 #[.slice (some ⟨b, off, none⟩) n cap] W fun e w' => ∃ q2 k2, e = .returned (.agg #[.slice q2 x2.length k2, .int .i64 (arcB x2), .int .i64 (arcW x2)]) ∧ RowL (w.heap.size + 4) w' (.slice q2 x2.length k2) x2 ∧ Below W.heap.size W w' := by
  intro W hW hz
  subst h2
  refine (turnsOf_any b off n cap zs W hn2 hzs (hS.keep hW hb) (Nat.lt_of_lt_of_le hb hW.size)).mono ?_
  rintro e w' ⟨v2, rfl, i2, hb'⟩
  obtain ⟨q2, k2, rfl⟩ := i2.ints.slice
  exact ⟨q2, k2, rfl, i2.mono hz, hb'⟩

/-- the greater one -/
def mxx (a b : Int) : Int := max a b
theorem Arcs.set {n0 : Nat} {W : World} {B9 B11 d k : Nat} {v0 v1 v2 u : Value} {x0 x1 x2 : List Int} (h : Arcs n0 W B9 B11 v0 v1 v2 x0 x1 x2) (h9 : d < B9) (h11 : d < B11) (hd : d < n0) : Arcs n0 (W.setCell ⟨d, k, none⟩ u) B9 B11 v0 v1 v2 x0 x1 x2 :=
  ⟨⟨cell_far (by omega) h.a0.c0, cell_far (by omega) h.a0.c1, cell_far (by omega) h.a0.c2, frz h.a0.f0, frz h.a0.f1, frz h.a0.f2⟩, ⟨cell_far (by omega) h.a1.c0, cell_far (by omega) h.a1.c1, cell_far (by omega) h.a1.c2, frz h.a1.f0, frz h.a1.f1, frz h.a1.f2⟩, ⟨cell_far (by omega) h.a2.c0, cell_far (by omega) h.a2.c1, cell_far (by omega) h.a2.c2, frz h.a2.f0, frz h.a2.f1, frz h.a2.f2⟩, h.i0.set hd, h.i1.set hd, h.i2.set hd, by simpa using h.z9, by simpa using h.z11⟩
theorem arcs2 {w : World} {e : Nat → Int} {l kd f s c lv ph n0 n1 : Int} {x0 x1 : List Int} {q0 q1 : Option Addr} {k0 k1 : Nat} (X : World) (B : WpB w X e l kd f s c lv ph n0 n1) (i0 : RowL (w.heap.size + 4) X (.slice q0 x0.length k0) x0) (i1 : RowL (w.heap.size + 4) X (.slice q1 x1.length k1) x1) :
    ∃ A, A = (X.alloc (.cells #[.slice q0 x0.length k0, .int .i64 (arcB x0), .int .i64 (arcW x0)] 107)).alloc (.cells #[.slice q1 x1.length k1, .int .i64 (arcB x1), .int .i64 (arcW x1)] 107) ∧ WpB w A e l kd f s c lv ph n0 n1 ∧ ArcAt A X.heap.size (.slice q0 x0.length k0) (arcB x0) (arcW x0) ∧ ArcAt A (X.heap.size + 1) (.slice q1 x1.length k1) (arcB x1) (arcW x1) ∧ RowL (w.heap.size + 4) A (.slice q0 x0.length k0) x0 ∧ RowL (w.heap.size + 4) A (.slice q1 x1.length k1) x1 ∧ A.heap.size = X.heap.size + 2 := by
  obtain ⟨A1, e1⟩ : ∃ A, A = X.alloc (.cells #[.slice q0 x0.length k0, .int .i64 (arcB x0), .int .i64 (arcW x0)] 107) := ⟨_, rfl⟩
  obtain ⟨A2, e2⟩ : ∃ A, A = A1.alloc (.cells #[.slice q1 x1.length k1, .int .i64 (arcB x1), .int .i64 (arcW x1)] 107) := ⟨_, rfl⟩
  have s1 : A1.heap.size = X.heap.size + 1 := by rw [e1]; exact World.size_alloc _ _
  have s2 : A2.heap.size = X.heap.size + 2 := by rw [e2, World.size_alloc, s1]
  have b1 : Below X.heap.size X A1 := by rw [e1]; exact below_alloc _ _
  have b2 : Below A1.heap.size A1 A2 := by rw [e2]; exact below_alloc _ _
  have b12 : Below X.heap.size X A2 := b1.trans (b2.mono (by omega))
  exact ⟨A2, by rw [e2, e1], B.keep b12 B.z, ArcAt.keep (by rw [e1]; exact ArcAt.new _ _ _ _ _) b2 (by omega), by rw [e2, ← s1]; exact ArcAt.new _ _ _ _ _, i0.keep b12, i1.keep b12, s2⟩
theorem arcs3 {w A : World} {e : Nat → Int} {l kd f s c lv ph n0 n1 : Int} {x0 x1 x2 : List Int} {q0 q1 q2 : Option Addr} {k0 k1 k2 : Nat} (X Y : World) (B : WpB w A e l kd f s c lv ph n0 n1) (a0 : ArcAt A X.heap.size (.slice q0 x0.length k0) (arcB x0) (arcW x0)) (a1 : ArcAt A (X.heap.size + 1) (.slice q1 x1.length k1) (arcB x1) (arcW x1)) (i0 : RowL (w.heap.size + 4) A (.slice q0 x0.length k0) x0) (i1 : RowL (w.heap.size + 4) A (.slice q1 x1.length k1) x1) (zA : A.heap.size = X.heap.size + 2) (hY : Below A.heap.size A Y) (i2 : RowL (w.heap.size + 4) Y (.slice q2 x2.length k2) x2) :
    ∃ R, R = Y.alloc (.cells #[.slice q2 x2.length k2, .int .i64 (arcB x2), .int .i64 (arcW x2)] 107) ∧ WpB w R e l kd f s c lv ph n0 n1 ∧ Arcs (w.heap.size + 4) R X.heap.size Y.heap.size (.slice q0 x0.length k0) (.slice q1 x1.length k1) (.slice q2 x2.length k2) x0 x1 x2 := by
  have bR : Below Y.heap.size Y (Y.alloc (.cells #[.slice q2 x2.length k2, .int .i64 (arcB x2), .int .i64 (arcW x2)] 107)) := below_alloc _ _
  have hz := hY.size
  have bA : Below A.heap.size A (Y.alloc (.cells #[.slice q2 x2.length k2, .int .i64 (arcB x2), .int .i64 (arcW x2)] 107)) := hY.trans (bR.mono hz)
  refine ⟨_, rfl, B.keep bA B.z, a0.keep bA (by omega), a1.keep bA (by omega), ArcAt.new _ _ _ _ _, i0.keep bA, i1.keep bA, i2.keep bR, ?_, ?_⟩
  · rw [World.size_alloc]; omega
  · rw [World.size_alloc]; omega


set_option maxRecDepth 100000 in
set_option maxHeartbeats 6400000 in
theorem wp_mixed0 (e : Nat → Int) (l kd f s c lv ph n0 n1 : Int) (b off n cap : Nat) (zs : Nat → Smp) (w : World) (hn : 1 ≤ n) (hn2 : n ≤ 64) (hc : kd = 2 → 4 ≤ c ∧ c ≤ 64 ∧ c % 2 = 0) (hcn : (n : Int) = c) (hzs : ∀ i, i < n → (0 ≤ (zs i).p ∧ (zs i).p < 65536) ∧ (0 ≤ (zs i).q ∧ (zs i).q < 65536)) (hph : 0 ≤ ph ∧ ph ≤ 4096) (hS : SmpsAt w b off n zs) (hb : b < w.heap.size) (x0 x1 x2 : List Int) (h0 : x0 = (valsB (stpTo zs kd c (n - 1)) false)) (h1 : x1 = (valsB (stpTo zs kd c (n - 1)) true)) (h2 : x2 = (trnTo zs n)) (t0 : decide (arcW x0 + 4 * ph < 32768) = false) :
    Calls Try.prog 92 #[.agg #[.int .i64 (e 0), .int .i64 (e 1), .int .i64 (e 2), .int .i64 (e 3), .int .i64 (e 4), .int .i64 (e 5), .int .i64 (e 6), .int .i64 (e 7), .int .i64 (e 8), .int .i64 (e 9), .int .i64 (e 10), .int .i64 (e 11), .int .i64 (e 12), .int .i64 (e 13)], .agg #[.int .i64 l, .int .i64 kd, .int .i64 f, .int .i64 s, .int .i64 c], .agg #[.int .i64 lv, .int .i64 ph, .int .i64 n0, .int .i64 n1], .slice (some ⟨b, off, none⟩) n cap] w fun e' w' => e' = .returned (.agg #[.int .i64 ((upd (upd e 7 (mxx (arcW x0) (arcW x1))) 0 2) 0), .int .i64 ((upd (upd e 7 (mxx (arcW x0) (arcW x1))) 0 2) 1), .int .i64 ((upd (upd e 7 (mxx (arcW x0) (arcW x1))) 0 2) 2), .int .i64 ((upd (upd e 7 (mxx (arcW x0) (arcW x1))) 0 2) 3), .int .i64 ((upd (upd e 7 (mxx (arcW x0) (arcW x1))) 0 2) 4), .int .i64 ((upd (upd e 7 (mxx (arcW x0) (arcW x1))) 0 2) 5), .int .i64 ((upd (upd e 7 (mxx (arcW x0) (arcW x1))) 0 2) 6), .int .i64 ((upd (upd e 7 (mxx (arcW x0) (arcW x1))) 0 2) 7), .int .i64 ((upd (upd e 7 (mxx (arcW x0) (arcW x1))) 0 2) 8), .int .i64 ((upd (upd e 7 (mxx (arcW x0) (arcW x1))) 0 2) 9), .int .i64 ((upd (upd e 7 (mxx (arcW x0) (arcW x1))) 0 2) 10), .int .i64 ((upd (upd e 7 (mxx (arcW x0) (arcW x1))) 0 2) 11), .int .i64 ((upd (upd e 7 (mxx (arcW x0) (arcW x1))) 0 2) 12), .int .i64 ((upd (upd e 7 (mxx (arcW x0) (arcW x1))) 0 2) 13)]) ∧ Below w.heap.size w w' := by
  obtain ⟨g, hg⟩ : ∃ g, g = (upd (upd e 7 (mxx (arcW x0) (arcW x1))) 0 2) := ⟨_, rfl⟩
  rw [← hg]
  have HGG := Lib.hid hg
  clear hg
  have HC1 := Lib.hid (steps_call l kd f s c b off n cap zs w hn hn2 hc hcn (fun i hi => (hzs i hi).1) hS hb x0 x1 h0 h1)
  have HC2 := Lib.hid (turns_call b off n cap zs w hn2 hzs hS hb x2 h2)
  have HB0 := Lib.hid (WpB.new w e l kd f s c lv ph n0 n1)
  have w0 := arcW_bd x0
  have w1 := arcW_bd x1
  have w2 := arcW_bd x2
  obtain ⟨sp, hsp⟩ : ∃ x, max (arcW x0) (arcW x1) = x := ⟨_, rfl⟩
  obtain ⟨e1, he1⟩ : ∃ g, g = upd e 7 sp := ⟨_, rfl⟩
  clear h0 h1 h2 hS hzs hc
  go_enter Try.func92, Try.ntmps92
  go_wp2_with fail
  refine (HC1.out _ HB0.out.b HB0.out.z).mono ?_; rintro e' X ⟨q0, k0, q1, k1, rfl, i0, i1, hbX⟩
  have B1 := HB0.out.keep hbX HB0.out.z
  have zX := B1.z
  have I0 := Lib.hid i0
  have I1 := Lib.hid i1
  clear HB0 hbX i0 i1
  have HA : Hid (∃ A, A = (X.alloc (.cells #[.slice q0 x0.length k0, .int .i64 (arcB x0), .int .i64 (arcW x0)] 107)).alloc (.cells #[.slice q1 x1.length k1, .int .i64 (arcB x1), .int .i64 (arcW x1)] 107) ∧ WpB w A e l kd f s c lv ph n0 n1 ∧ ArcAt A X.heap.size (.slice q0 x0.length k0) (arcB x0) (arcW x0) ∧ ArcAt A (X.heap.size + 1) (.slice q1 x1.length k1) (arcB x1) (arcW x1) ∧ RowL (w.heap.size + 4) A (.slice q0 x0.length k0) x0 ∧ RowL (w.heap.size + 4) A (.slice q1 x1.length k1) x1 ∧ A.heap.size = X.heap.size + 2) := Lib.hid (arcs2 X B1 I0.out I1.out)
  clear B1 I0 I1
  go_wp2_with fail
  obtain ⟨A, hA, B2, A0, A1, I0, I1, zA⟩ := HA.out
  rw [← hA]
  refine (HC2.out _ B2.b B2.z).mono ?_; rintro e' Y ⟨q2, k2, rfl, i2, hbY⟩
  have HR : Hid (∃ R, R = Y.alloc (.cells #[.slice q2 x2.length k2, .int .i64 (arcB x2), .int .i64 (arcW x2)] 107) ∧ WpB w R e l kd f s c lv ph n0 n1 ∧ Arcs (w.heap.size + 4) R X.heap.size Y.heap.size (.slice q0 x0.length k0) (.slice q1 x1.length k1) (.slice q2 x2.length k2) x0 x1 x2) := Lib.hid (arcs3 X Y B2 A0 A1 I0 I1 zA hbY i2)
  have zX2 := zA
  clear hA HA B2 A0 A1 I0 I1 i2
  obtain ⟨R, hR, B3, A3⟩ := HR.out
  have B4 := Lib.hid (B3.set (k := 7) (v := sp))
  have A4 := Lib.hid (A3.set (k := 7) (u := .int .i64 sp) (d := w.heap.size) (by omega) (by have := hbY.size; omega) (by omega))
  subst hR
  have ec0 := B3.e.c 0 (by decide)
  have ec1 := B3.e.c 1 (by decide)
  have ec2 := B3.e.c 2 (by decide)
  have ec3 := B3.e.c 3 (by decide)
  have ec4 := B3.e.c 4 (by decide)
  have ec5 := B3.e.c 5 (by decide)
  have ec6 := B3.e.c 6 (by decide)
  have ec7 := B3.e.c 7 (by decide)
  have ec8 := B3.e.c 8 (by decide)
  have ec9 := B3.e.c 9 (by decide)
  have ec10 := B3.e.c 10 (by decide)
  have ec11 := B3.e.c 11 (by decide)
  have ec12 := B3.e.c 12 (by decide)
  have ec13 := B3.e.c 13 (by decide)
  have ef0 := B3.e.f 0 (by decide)
  have ef1 := B3.e.f 1 (by decide)
  have ef2 := B3.e.f 2 (by decide)
  have ef3 := B3.e.f 3 (by decide)
  have ef4 := B3.e.f 4 (by decide)
  have ef5 := B3.e.f 5 (by decide)
  have ef6 := B3.e.f 6 (by decide)
  have ef7 := B3.e.f 7 (by decide)
  have ef8 := B3.e.f 8 (by decide)
  have ef9 := B3.e.f 9 (by decide)
  have ef10 := B3.e.f 10 (by decide)
  have ef11 := B3.e.f 11 (by decide)
  have ef12 := B3.e.f 12 (by decide)
  have ef13 := B3.e.f 13 (by decide)
  have tt0 := B3.t0
  have tt1 := B3.t1
  have tt2 := B3.t2
  have tt3 := B3.t3
  have tt4 := B3.t4
  have rr0 := B3.r0
  have rr1 := B3.r1
  have rr2 := B3.r2
  have rr3 := B3.r3
  have y0 : w.heap.size < (Y.alloc (.cells #[.slice q2 x2.length k2, .int .i64 (arcB x2), .int .i64 (arcW x2)] 107)).heap.size := by have := B3.z; omega
  have y1 : w.heap.size + 1 < (Y.alloc (.cells #[.slice q2 x2.length k2, .int .i64 (arcB x2), .int .i64 (arcW x2)] 107)).heap.size := by have := B3.z; omega
  have y2 : w.heap.size + 1 + 1 < (Y.alloc (.cells #[.slice q2 x2.length k2, .int .i64 (arcB x2), .int .i64 (arcW x2)] 107)).heap.size := by have := B3.z; omega
  have y3 : w.heap.size + 1 + 1 + 1 < (Y.alloc (.cells #[.slice q2 x2.length k2, .int .i64 (arcB x2), .int .i64 (arcW x2)] 107)).heap.size := by have := B3.z; omega
  have k00 := A3.a0.c0
  have k10 := A3.a1.c0
  have k20 := A3.a2.c0
  have k01 := A3.a0.c1
  have k11 := A3.a1.c1
  have k21 := A3.a2.c1
  have k02 := A3.a0.c2
  have k12 := A3.a1.c2
  have k22 := A3.a2.c2
  have u9 := A3.z9
  have u11 := A3.z11
  skip
  clear HR A3 B3 hbY
  rw [← he1] at B4
  go_wp2_with fail
  obtain ⟨S, hS⟩ : ∃ S, S = (Y.alloc (.cells #[.slice q2 x2.length k2, .int .i64 (arcB x2), .int .i64 (arcW x2)] 107)).setCell ⟨w.heap.size, 7, none⟩ (.int .i64 sp) := ⟨_, rfl⟩
  rw [← hS] at B4 A4 ⊢
  have BS := B4
  have AS := A4
  clear ec0 ec1 ec2 ec3 ec4 ec5 ec6 ec7 ec8 ec9 ec10 ec11 ec12 ec13 ef0 ef1 ef2 ef3 ef4 ef5 ef6 ef7 ef8 ef9 ef10 ef11 ef12 ef13 tt0 tt1 tt2 tt3 tt4 rr0 rr1 rr2 rr3 y0 y1 y2 y3 k00 k01 k02 k10 k11 k12 k20 k21 k22 u9 u11 hS B4 A4
  have ec0 := BS.out.e.c 0 (by decide)
  have ec1 := BS.out.e.c 1 (by decide)
  have ec2 := BS.out.e.c 2 (by decide)
  have ec3 := BS.out.e.c 3 (by decide)
  have ec4 := BS.out.e.c 4 (by decide)
  have ec5 := BS.out.e.c 5 (by decide)
  have ec6 := BS.out.e.c 6 (by decide)
  have ec7 := BS.out.e.c 7 (by decide)
  have ec8 := BS.out.e.c 8 (by decide)
  have ec9 := BS.out.e.c 9 (by decide)
  have ec10 := BS.out.e.c 10 (by decide)
  have ec11 := BS.out.e.c 11 (by decide)
  have ec12 := BS.out.e.c 12 (by decide)
  have ec13 := BS.out.e.c 13 (by decide)
  have ef0 := BS.out.e.f 0 (by decide)
  have ef1 := BS.out.e.f 1 (by decide)
  have ef2 := BS.out.e.f 2 (by decide)
  have ef3 := BS.out.e.f 3 (by decide)
  have ef4 := BS.out.e.f 4 (by decide)
  have ef5 := BS.out.e.f 5 (by decide)
  have ef6 := BS.out.e.f 6 (by decide)
  have ef7 := BS.out.e.f 7 (by decide)
  have ef8 := BS.out.e.f 8 (by decide)
  have ef9 := BS.out.e.f 9 (by decide)
  have ef10 := BS.out.e.f 10 (by decide)
  have ef11 := BS.out.e.f 11 (by decide)
  have ef12 := BS.out.e.f 12 (by decide)
  have ef13 := BS.out.e.f 13 (by decide)
  have tt0 := BS.out.t0
  have tt1 := BS.out.t1
  have tt2 := BS.out.t2
  have tt3 := BS.out.t3
  have tt4 := BS.out.t4
  have rr0 := BS.out.r0
  have rr1 := BS.out.r1
  have rr2 := BS.out.r2
  have rr3 := BS.out.r3
  have y0 : w.heap.size < S.heap.size := by have := BS.out.z; omega
  have y1 : w.heap.size + 1 < S.heap.size := by have := BS.out.z; omega
  have y2 : w.heap.size + 1 + 1 < S.heap.size := by have := BS.out.z; omega
  have y3 : w.heap.size + 1 + 1 + 1 < S.heap.size := by have := BS.out.z; omega
  have k00 := AS.out.a0.c0
  have k10 := AS.out.a1.c0
  have k20 := AS.out.a2.c0
  have k01 := AS.out.a0.c1
  have k11 := AS.out.a1.c1
  have k21 := AS.out.a2.c1
  have k02 := AS.out.a0.c2
  have k12 := AS.out.a1.c2
  have k22 := AS.out.a2.c2
  have u9 := AS.out.z9
  have u11 := AS.out.z11
  skip
  refine (isTogether_any (.slice q0 x0.length k0) (arcB x0) (arcW x0) ph _ rfl (by omega) hph).mono ?_; rw [t0]; rintro e' S1 ⟨rfl, hbS1⟩
  have BS1 := Lib.hid (BS.out.keep hbS1 BS.out.z)
  have AS1 := Lib.hid (AS.out.keep hbS1)
  clear hbS1 ec0 ec1 ec2 ec3 ec4 ec5 ec6 ec7 ec8 ec9 ec10 ec11 ec12 ec13 ef0 ef1 ef2 ef3 ef4 ef5 ef6 ef7 ef8 ef9 ef10 ef11 ef12 ef13 tt0 tt1 tt2 tt3 tt4 rr0 rr1 rr2 rr3 y0 y1 y2 y3 k00 k01 k02 k10 k11 k12 k20 k21 k22 u9 u11 BS AS
  have ec0 := BS1.out.e.c 0 (by decide)
  have ec1 := BS1.out.e.c 1 (by decide)
  have ec2 := BS1.out.e.c 2 (by decide)
  have ec3 := BS1.out.e.c 3 (by decide)
  have ec4 := BS1.out.e.c 4 (by decide)
  have ec5 := BS1.out.e.c 5 (by decide)
  have ec6 := BS1.out.e.c 6 (by decide)
  have ec7 := BS1.out.e.c 7 (by decide)
  have ec8 := BS1.out.e.c 8 (by decide)
  have ec9 := BS1.out.e.c 9 (by decide)
  have ec10 := BS1.out.e.c 10 (by decide)
  have ec11 := BS1.out.e.c 11 (by decide)
  have ec12 := BS1.out.e.c 12 (by decide)
  have ec13 := BS1.out.e.c 13 (by decide)
  have ef0 := BS1.out.e.f 0 (by decide)
  have ef1 := BS1.out.e.f 1 (by decide)
  have ef2 := BS1.out.e.f 2 (by decide)
  have ef3 := BS1.out.e.f 3 (by decide)
  have ef4 := BS1.out.e.f 4 (by decide)
  have ef5 := BS1.out.e.f 5 (by decide)
  have ef6 := BS1.out.e.f 6 (by decide)
  have ef7 := BS1.out.e.f 7 (by decide)
  have ef8 := BS1.out.e.f 8 (by decide)
  have ef9 := BS1.out.e.f 9 (by decide)
  have ef10 := BS1.out.e.f 10 (by decide)
  have ef11 := BS1.out.e.f 11 (by decide)
  have ef12 := BS1.out.e.f 12 (by decide)
  have ef13 := BS1.out.e.f 13 (by decide)
  have tt0 := BS1.out.t0
  have tt1 := BS1.out.t1
  have tt2 := BS1.out.t2
  have tt3 := BS1.out.t3
  have tt4 := BS1.out.t4
  have rr0 := BS1.out.r0
  have rr1 := BS1.out.r1
  have rr2 := BS1.out.r2
  have rr3 := BS1.out.r3
  have y0 : w.heap.size < S1.heap.size := by have := BS1.out.z; omega
  have y1 : w.heap.size + 1 < S1.heap.size := by have := BS1.out.z; omega
  have y2 : w.heap.size + 1 + 1 < S1.heap.size := by have := BS1.out.z; omega
  have y3 : w.heap.size + 1 + 1 + 1 < S1.heap.size := by have := BS1.out.z; omega
  have k00 := AS1.out.a0.c0
  have k10 := AS1.out.a1.c0
  have k20 := AS1.out.a2.c0
  have k01 := AS1.out.a0.c1
  have k11 := AS1.out.a1.c1
  have k21 := AS1.out.a2.c1
  have k02 := AS1.out.a0.c2
  have k12 := AS1.out.a1.c2
  have k22 := AS1.out.a2.c2
  have u9 := AS1.out.z9
  have u11 := AS1.out.z11
  skip
  have HG := Lib.hid (show EchoG (S1.setCell ⟨w.heap.size, 0, none⟩ (.int .i64 2)) w.heap.size g by rw [HGG.out]; have h := (BS1.out.e.set (k := 0) (v := 2)); rw [he1, ← hsp] at h; exact h)
  have HO := Lib.hid ((BS1.out.set (k := 0) (v := 2)).o)
  have hbw := (BS1.out.set (k := 0) (v := 2)).b
  have hzz := (BS1.out.set (k := 0) (v := 2)).z
  have EG1 := HG.out
  have gc0 := EG1.c 0 (by decide)
  have gc1 := EG1.c 1 (by decide)
  have gc2 := EG1.c 2 (by decide)
  have gc3 := EG1.c 3 (by decide)
  have gc4 := EG1.c 4 (by decide)
  have gc5 := EG1.c 5 (by decide)
  have gc6 := EG1.c 6 (by decide)
  have gc7 := EG1.c 7 (by decide)
  have gc8 := EG1.c 8 (by decide)
  have gc9 := EG1.c 9 (by decide)
  have gc10 := EG1.c 10 (by decide)
  have gc11 := EG1.c 11 (by decide)
  have gc12 := EG1.c 12 (by decide)
  have gc13 := EG1.c 13 (by decide)
  have oc0 := HO.out.c 0 (by decide)
  have of0 := HO.out.f 0 (by decide)
  have oc1 := HO.out.c 1 (by decide)
  have of1 := HO.out.f 1 (by decide)
  have oc2 := HO.out.c 2 (by decide)
  have of2 := HO.out.f 2 (by decide)
  have oc3 := HO.out.c 3 (by decide)
  have of3 := HO.out.f 3 (by decide)
  have oc4 := HO.out.c 4 (by decide)
  have of4 := HO.out.f 4 (by decide)
  have oc5 := HO.out.c 5 (by decide)
  have of5 := HO.out.f 5 (by decide)
  have oc6 := HO.out.c 6 (by decide)
  have of6 := HO.out.f 6 (by decide)
  have oc7 := HO.out.c 7 (by decide)
  have of7 := HO.out.f 7 (by decide)
  have oc8 := HO.out.c 8 (by decide)
  have of8 := HO.out.f 8 (by decide)
  have oc9 := HO.out.c 9 (by decide)
  have of9 := HO.out.f 9 (by decide)
  have oc10 := HO.out.c 10 (by decide)
  have of10 := HO.out.f 10 (by decide)
  have oc11 := HO.out.c 11 (by decide)
  have of11 := HO.out.f 11 (by decide)
  have oc12 := HO.out.c 12 (by decide)
  have of12 := HO.out.f 12 (by decide)
  have oc13 := HO.out.c 13 (by decide)
  have of13 := HO.out.f 13 (by decide)
  clear EG1 HGG hsp he1 AS1 BS1
  go_wp2
  obtain ⟨Z, hZ⟩ : ∃ Z, Z = (((((((((((((((S1.setCell ⟨w.heap.size, 0, none⟩ (.int .i64 2)).setCell ⟨w.heap.size + 1 + 1 + 1, 0, none⟩ (.int .i64 (g 0))).setCell ⟨w.heap.size + 1 + 1 + 1, 1, none⟩ (.int .i64 (g 1))).setCell ⟨w.heap.size + 1 + 1 + 1, 2, none⟩ (.int .i64 (g 2))).setCell ⟨w.heap.size + 1 + 1 + 1, 3, none⟩ (.int .i64 (g 3))).setCell ⟨w.heap.size + 1 + 1 + 1, 4, none⟩ (.int .i64 (g 4))).setCell ⟨w.heap.size + 1 + 1 + 1, 5, none⟩ (.int .i64 (g 5))).setCell ⟨w.heap.size + 1 + 1 + 1, 6, none⟩ (.int .i64 (g 6))).setCell ⟨w.heap.size + 1 + 1 + 1, 7, none⟩ (.int .i64 (g 7))).setCell ⟨w.heap.size + 1 + 1 + 1, 8, none⟩ (.int .i64 (g 8))).setCell ⟨w.heap.size + 1 + 1 + 1, 9, none⟩ (.int .i64 (g 9))).setCell ⟨w.heap.size + 1 + 1 + 1, 10, none⟩ (.int .i64 (g 10))).setCell ⟨w.heap.size + 1 + 1 + 1, 11, none⟩ (.int .i64 (g 11))).setCell ⟨w.heap.size + 1 + 1 + 1, 12, none⟩ (.int .i64 (g 12))).setCell ⟨w.heap.size + 1 + 1 + 1, 13, none⟩ (.int .i64 (g 13))) := ⟨_, rfl⟩
  rw [← hZ]
  have EZ := ((((((((((((((HO.out.set (k := 0) (v := g 0)).set (k := 1) (v := g 1)).set (k := 2) (v := g 2)).set (k := 3) (v := g 3)).set (k := 4) (v := g 4)).set (k := 5) (v := g 5)).set (k := 6) (v := g 6)).set (k := 7) (v := g 7)).set (k := 8) (v := g 8)).set (k := 9) (v := g 9)).set (k := 10) (v := g 10)).set (k := 11) (v := g 11)).set (k := 12) (v := g 12)).set (k := 13) (v := g 13))
  rw [← hZ] at EZ
  have bZ : Below w.heap.size w Z := by rw [hZ]; exact ((((((((((((((hbw.setCell (p := ⟨w.heap.size + 1 + 1 + 1, 0, none⟩) (by dsimp only; omega) _).setCell (p := ⟨w.heap.size + 1 + 1 + 1, 1, none⟩) (by dsimp only; omega) _).setCell (p := ⟨w.heap.size + 1 + 1 + 1, 2, none⟩) (by dsimp only; omega) _).setCell (p := ⟨w.heap.size + 1 + 1 + 1, 3, none⟩) (by dsimp only; omega) _).setCell (p := ⟨w.heap.size + 1 + 1 + 1, 4, none⟩) (by dsimp only; omega) _).setCell (p := ⟨w.heap.size + 1 + 1 + 1, 5, none⟩) (by dsimp only; omega) _).setCell (p := ⟨w.heap.size + 1 + 1 + 1, 6, none⟩) (by dsimp only; omega) _).setCell (p := ⟨w.heap.size + 1 + 1 + 1, 7, none⟩) (by dsimp only; omega) _).setCell (p := ⟨w.heap.size + 1 + 1 + 1, 8, none⟩) (by dsimp only; omega) _).setCell (p := ⟨w.heap.size + 1 + 1 + 1, 9, none⟩) (by dsimp only; omega) _).setCell (p := ⟨w.heap.size + 1 + 1 + 1, 10, none⟩) (by dsimp only; omega) _).setCell (p := ⟨w.heap.size + 1 + 1 + 1, 11, none⟩) (by dsimp only; omega) _).setCell (p := ⟨w.heap.size + 1 + 1 + 1, 12, none⟩) (by dsimp only; omega) _).setCell (p := ⟨w.heap.size + 1 + 1 + 1, 13, none⟩) (by dsimp only; omega) _)
  clear hZ
  have h0 : Z.cell? ⟨w.heap.size + 1 + 1 + 1, 0, none⟩ = some (.int .i64 (g 0)) := EZ.c 0 (by decide)
  have h1 : Z.cell? ⟨w.heap.size + 1 + 1 + 1, 1, none⟩ = some (.int .i64 (g 1)) := EZ.c 1 (by decide)
  have h2 : Z.cell? ⟨w.heap.size + 1 + 1 + 1, 2, none⟩ = some (.int .i64 (g 2)) := EZ.c 2 (by decide)
  have h3 : Z.cell? ⟨w.heap.size + 1 + 1 + 1, 3, none⟩ = some (.int .i64 (g 3)) := EZ.c 3 (by decide)
  have h4 : Z.cell? ⟨w.heap.size + 1 + 1 + 1, 4, none⟩ = some (.int .i64 (g 4)) := EZ.c 4 (by decide)
  have h5 : Z.cell? ⟨w.heap.size + 1 + 1 + 1, 5, none⟩ = some (.int .i64 (g 5)) := EZ.c 5 (by decide)
  have h6 : Z.cell? ⟨w.heap.size + 1 + 1 + 1, 6, none⟩ = some (.int .i64 (g 6)) := EZ.c 6 (by decide)
  have h7 : Z.cell? ⟨w.heap.size + 1 + 1 + 1, 7, none⟩ = some (.int .i64 (g 7)) := EZ.c 7 (by decide)
  have h8 : Z.cell? ⟨w.heap.size + 1 + 1 + 1, 8, none⟩ = some (.int .i64 (g 8)) := EZ.c 8 (by decide)
  have h9 : Z.cell? ⟨w.heap.size + 1 + 1 + 1, 9, none⟩ = some (.int .i64 (g 9)) := EZ.c 9 (by decide)
  have h10 : Z.cell? ⟨w.heap.size + 1 + 1 + 1, 10, none⟩ = some (.int .i64 (g 10)) := EZ.c 10 (by decide)
  have h11 : Z.cell? ⟨w.heap.size + 1 + 1 + 1, 11, none⟩ = some (.int .i64 (g 11)) := EZ.c 11 (by decide)
  have h12 : Z.cell? ⟨w.heap.size + 1 + 1 + 1, 12, none⟩ = some (.int .i64 (g 12)) := EZ.c 12 (by decide)
  have h13 : Z.cell? ⟨w.heap.size + 1 + 1 + 1, 13, none⟩ = some (.int .i64 (g 13)) := EZ.c 13 (by decide)
  clear EZ
  exact bodyPost_ret (v := .agg #[.int .i64 (g 0), .int .i64 (g 1), .int .i64 (g 2), .int .i64 (g 3), .int .i64 (g 4), .int .i64 (g 5), .int .i64 (g 6), .int .i64 (g 7), .int .i64 (g 8), .int .i64 (g 9), .int .i64 (g 10), .int .i64 (g 11), .int .i64 (g 12), .int .i64 (g 13)]) (by simp [results, Try.results92, go_sem, h0, h1, h2, h3, h4, h5, h6, h7, h8, h9, h10, h11, h12, h13]) rfl ⟨rfl, bZ⟩

end Go.Proofs.Ytmojnopgpgnfeaa

namespace Go.Proofs.Ytmojnopgpgnfeaa
open Go.RowKit
set_option linter.unusedVariables false
set_option linter.unusedSimpArgs false

set_option maxRecDepth 100000 in
set_option maxHeartbeats 6400000 in
theorem wp_mixed1 (e : Nat → Int) (l kd f s c lv ph n0 n1 : Int) (b off n cap : Nat) (zs : Nat → Smp) (w : World) (hn : 1 ≤ n) (hn2 : n ≤ 64) (hc : kd = 2 → 4 ≤ c ∧ c ≤ 64 ∧ c % 2 = 0) (hcn : (n : Int) = c) (hzs : ∀ i, i < n → (0 ≤ (zs i).p ∧ (zs i).p < 65536) ∧ (0 ≤ (zs i).q ∧ (zs i).q < 65536)) (hph : 0 ≤ ph ∧ ph ≤ 4096) (hS : SmpsAt w b off n zs) (hb : b < w.heap.size) (x0 x1 x2 : List Int) (h0 : x0 = (valsB (stpTo zs kd c (n - 1)) false)) (h1 : x1 = (valsB (stpTo zs kd c (n - 1)) true)) (h2 : x2 = (trnTo zs n)) (t0 : decide (arcW x0 + 4 * ph < 32768) = true) (t1 : decide (arcW x1 + 4 * ph < 32768) = false) :
    Calls Try.prog 92 #[.agg #[.int .i64 (e 0), .int .i64 (e 1), .int .i64 (e 2), .int .i64 (e 3), .int .i64 (e 4), .int .i64 (e 5), .int .i64 (e 6), .int .i64 (e 7), .int .i64 (e 8), .int .i64 (e 9), .int .i64 (e 10), .int .i64 (e 11), .int .i64 (e 12), .int .i64 (e 13)], .agg #[.int .i64 l, .int .i64 kd, .int .i64 f, .int .i64 s, .int .i64 c], .agg #[.int .i64 lv, .int .i64 ph, .int .i64 n0, .int .i64 n1], .slice (some ⟨b, off, none⟩) n cap] w fun e' w' => e' = .returned (.agg #[.int .i64 ((upd (upd e 7 (mxx (arcW x0) (arcW x1))) 0 2) 0), .int .i64 ((upd (upd e 7 (mxx (arcW x0) (arcW x1))) 0 2) 1), .int .i64 ((upd (upd e 7 (mxx (arcW x0) (arcW x1))) 0 2) 2), .int .i64 ((upd (upd e 7 (mxx (arcW x0) (arcW x1))) 0 2) 3), .int .i64 ((upd (upd e 7 (mxx (arcW x0) (arcW x1))) 0 2) 4), .int .i64 ((upd (upd e 7 (mxx (arcW x0) (arcW x1))) 0 2) 5), .int .i64 ((upd (upd e 7 (mxx (arcW x0) (arcW x1))) 0 2) 6), .int .i64 ((upd (upd e 7 (mxx (arcW x0) (arcW x1))) 0 2) 7), .int .i64 ((upd (upd e 7 (mxx (arcW x0) (arcW x1))) 0 2) 8), .int .i64 ((upd (upd e 7 (mxx (arcW x0) (arcW x1))) 0 2) 9), .int .i64 ((upd (upd e 7 (mxx (arcW x0) (arcW x1))) 0 2) 10), .int .i64 ((upd (upd e 7 (mxx (arcW x0) (arcW x1))) 0 2) 11), .int .i64 ((upd (upd e 7 (mxx (arcW x0) (arcW x1))) 0 2) 12), .int .i64 ((upd (upd e 7 (mxx (arcW x0) (arcW x1))) 0 2) 13)]) ∧ Below w.heap.size w w' := by
  obtain ⟨g, hg⟩ : ∃ g, g = (upd (upd e 7 (mxx (arcW x0) (arcW x1))) 0 2) := ⟨_, rfl⟩
  rw [← hg]
  have HGG := Lib.hid hg
  clear hg
  have HC1 := Lib.hid (steps_call l kd f s c b off n cap zs w hn hn2 hc hcn (fun i hi => (hzs i hi).1) hS hb x0 x1 h0 h1)
  have HC2 := Lib.hid (turns_call b off n cap zs w hn2 hzs hS hb x2 h2)
  have HB0 := Lib.hid (WpB.new w e l kd f s c lv ph n0 n1)
  have w0 := arcW_bd x0
  have w1 := arcW_bd x1
  have w2 := arcW_bd x2
  obtain ⟨sp, hsp⟩ : ∃ x, max (arcW x0) (arcW x1) = x := ⟨_, rfl⟩
  obtain ⟨e1, he1⟩ : ∃ g, g = upd e 7 sp := ⟨_, rfl⟩
  clear h0 h1 h2 hS hzs hc
  go_enter Try.func92, Try.ntmps92
  go_wp2_with fail
  refine (HC1.out _ HB0.out.b HB0.out.z).mono ?_; rintro e' X ⟨q0, k0, q1, k1, rfl, i0, i1, hbX⟩
  have B1 := HB0.out.keep hbX HB0.out.z
  have zX := B1.z
  have I0 := Lib.hid i0
  have I1 := Lib.hid i1
  clear HB0 hbX i0 i1
  have HA : Hid (∃ A, A = (X.alloc (.cells #[.slice q0 x0.length k0, .int .i64 (arcB x0), .int .i64 (arcW x0)] 107)).alloc (.cells #[.slice q1 x1.length k1, .int .i64 (arcB x1), .int .i64 (arcW x1)] 107) ∧ WpB w A e l kd f s c lv ph n0 n1 ∧ ArcAt A X.heap.size (.slice q0 x0.length k0) (arcB x0) (arcW x0) ∧ ArcAt A (X.heap.size + 1) (.slice q1 x1.length k1) (arcB x1) (arcW x1) ∧ RowL (w.heap.size + 4) A (.slice q0 x0.length k0) x0 ∧ RowL (w.heap.size + 4) A (.slice q1 x1.length k1) x1 ∧ A.heap.size = X.heap.size + 2) := Lib.hid (arcs2 X B1 I0.out I1.out)
  clear B1 I0 I1
  go_wp2_with fail
  obtain ⟨A, hA, B2, A0, A1, I0, I1, zA⟩ := HA.out
  rw [← hA]
  refine (HC2.out _ B2.b B2.z).mono ?_; rintro e' Y ⟨q2, k2, rfl, i2, hbY⟩
  have HR : Hid (∃ R, R = Y.alloc (.cells #[.slice q2 x2.length k2, .int .i64 (arcB x2), .int .i64 (arcW x2)] 107) ∧ WpB w R e l kd f s c lv ph n0 n1 ∧ Arcs (w.heap.size + 4) R X.heap.size Y.heap.size (.slice q0 x0.length k0) (.slice q1 x1.length k1) (.slice q2 x2.length k2) x0 x1 x2) := Lib.hid (arcs3 X Y B2 A0 A1 I0 I1 zA hbY i2)
  have zX2 := zA
  clear hA HA B2 A0 A1 I0 I1 i2
  obtain ⟨R, hR, B3, A3⟩ := HR.out
  have B4 := Lib.hid (B3.set (k := 7) (v := sp))
  have A4 := Lib.hid (A3.set (k := 7) (u := .int .i64 sp) (d := w.heap.size) (by omega) (by have := hbY.size; omega) (by omega))
  subst hR
  have ec0 := B3.e.c 0 (by decide)
  have ec1 := B3.e.c 1 (by decide)
  have ec2 := B3.e.c 2 (by decide)
  have ec3 := B3.e.c 3 (by decide)
  have ec4 := B3.e.c 4 (by decide)
  have ec5 := B3.e.c 5 (by decide)
  have ec6 := B3.e.c 6 (by decide)
  have ec7 := B3.e.c 7 (by decide)
  have ec8 := B3.e.c 8 (by decide)
  have ec9 := B3.e.c 9 (by decide)
  have ec10 := B3.e.c 10 (by decide)
  have ec11 := B3.e.c 11 (by decide)
  have ec12 := B3.e.c 12 (by decide)
  have ec13 := B3.e.c 13 (by decide)
  have ef0 := B3.e.f 0 (by decide)
  have ef1 := B3.e.f 1 (by decide)
  have ef2 := B3.e.f 2 (by decide)
  have ef3 := B3.e.f 3 (by decide)
  have ef4 := B3.e.f 4 (by decide)
  have ef5 := B3.e.f 5 (by decide)
  have ef6 := B3.e.f 6 (by decide)
  have ef7 := B3.e.f 7 (by decide)
  have ef8 := B3.e.f 8 (by decide)
  have ef9 := B3.e.f 9 (by decide)
  have ef10 := B3.e.f 10 (by decide)
  have ef11 := B3.e.f 11 (by decide)
  have ef12 := B3.e.f 12 (by decide)
  have ef13 := B3.e.f 13 (by decide)
  have tt0 := B3.t0
  have tt1 := B3.t1
  have tt2 := B3.t2
  have tt3 := B3.t3
  have tt4 := B3.t4
  have rr0 := B3.r0
  have rr1 := B3.r1
  have rr2 := B3.r2
  have rr3 := B3.r3
  have y0 : w.heap.size < (Y.alloc (.cells #[.slice q2 x2.length k2, .int .i64 (arcB x2), .int .i64 (arcW x2)] 107)).heap.size := by have := B3.z; omega
  have y1 : w.heap.size + 1 < (Y.alloc (.cells #[.slice q2 x2.length k2, .int .i64 (arcB x2), .int .i64 (arcW x2)] 107)).heap.size := by have := B3.z; omega
  have y2 : w.heap.size + 1 + 1 < (Y.alloc (.cells #[.slice q2 x2.length k2, .int .i64 (arcB x2), .int .i64 (arcW x2)] 107)).heap.size := by have := B3.z; omega
  have y3 : w.heap.size + 1 + 1 + 1 < (Y.alloc (.cells #[.slice q2 x2.length k2, .int .i64 (arcB x2), .int .i64 (arcW x2)] 107)).heap.size := by have := B3.z; omega
  have k00 := A3.a0.c0
  have k10 := A3.a1.c0
  have k20 := A3.a2.c0
  have k01 := A3.a0.c1
  have k11 := A3.a1.c1
  have k21 := A3.a2.c1
  have k02 := A3.a0.c2
  have k12 := A3.a1.c2
  have k22 := A3.a2.c2
  have u9 := A3.z9
  have u11 := A3.z11
  skip
  clear HR A3 B3 hbY
  rw [← he1] at B4
  go_wp2_with fail
  obtain ⟨S, hS⟩ : ∃ S, S = (Y.alloc (.cells #[.slice q2 x2.length k2, .int .i64 (arcB x2), .int .i64 (arcW x2)] 107)).setCell ⟨w.heap.size, 7, none⟩ (.int .i64 sp) := ⟨_, rfl⟩
  rw [← hS] at B4 A4 ⊢
  have BS := B4
  have AS := A4
  clear ec0 ec1 ec2 ec3 ec4 ec5 ec6 ec7 ec8 ec9 ec10 ec11 ec12 ec13 ef0 ef1 ef2 ef3 ef4 ef5 ef6 ef7 ef8 ef9 ef10 ef11 ef12 ef13 tt0 tt1 tt2 tt3 tt4 rr0 rr1 rr2 rr3 y0 y1 y2 y3 k00 k01 k02 k10 k11 k12 k20 k21 k22 u9 u11 hS B4 A4
  have ec0 := BS.out.e.c 0 (by decide)
  have ec1 := BS.out.e.c 1 (by decide)
  have ec2 := BS.out.e.c 2 (by decide)
  have ec3 := BS.out.e.c 3 (by decide)
  have ec4 := BS.out.e.c 4 (by decide)
  have ec5 := BS.out.e.c 5 (by decide)
  have ec6 := BS.out.e.c 6 (by decide)
  have ec7 := BS.out.e.c 7 (by decide)
  have ec8 := BS.out.e.c 8 (by decide)
  have ec9 := BS.out.e.c 9 (by decide)
  have ec10 := BS.out.e.c 10 (by decide)
  have ec11 := BS.out.e.c 11 (by decide)
  have ec12 := BS.out.e.c 12 (by decide)
  have ec13 := BS.out.e.c 13 (by decide)
  have ef0 := BS.out.e.f 0 (by decide)
  have ef1 := BS.out.e.f 1 (by decide)
  have ef2 := BS.out.e.f 2 (by decide)
  have ef3 := BS.out.e.f 3 (by decide)
  have ef4 := BS.out.e.f 4 (by decide)
  have ef5 := BS.out.e.f 5 (by decide)
  have ef6 := BS.out.e.f 6 (by decide)
  have ef7 := BS.out.e.f 7 (by decide)
  have ef8 := BS.out.e.f 8 (by decide)
  have ef9 := BS.out.e.f 9 (by decide)
  have ef10 := BS.out.e.f 10 (by decide)
  have ef11 := BS.out.e.f 11 (by decide)
  have ef12 := BS.out.e.f 12 (by decide)
  have ef13 := BS.out.e.f 13 (by decide)
  have tt0 := BS.out.t0
  have tt1 := BS.out.t1
  have tt2 := BS.out.t2
  have tt3 := BS.out.t3
  have tt4 := BS.out.t4
  have rr0 := BS.out.r0
  have rr1 := BS.out.r1
  have rr2 := BS.out.r2
  have rr3 := BS.out.r3
  have y0 : w.heap.size < S.heap.size := by have := BS.out.z; omega
  have y1 : w.heap.size + 1 < S.heap.size := by have := BS.out.z; omega
  have y2 : w.heap.size + 1 + 1 < S.heap.size := by have := BS.out.z; omega
  have y3 : w.heap.size + 1 + 1 + 1 < S.heap.size := by have := BS.out.z; omega
  have k00 := AS.out.a0.c0
  have k10 := AS.out.a1.c0
  have k20 := AS.out.a2.c0
  have k01 := AS.out.a0.c1
  have k11 := AS.out.a1.c1
  have k21 := AS.out.a2.c1
  have k02 := AS.out.a0.c2
  have k12 := AS.out.a1.c2
  have k22 := AS.out.a2.c2
  have u9 := AS.out.z9
  have u11 := AS.out.z11
  skip
  refine (isTogether_any (.slice q0 x0.length k0) (arcB x0) (arcW x0) ph _ rfl (by omega) hph).mono ?_; rw [t0]; rintro e' S1 ⟨rfl, hbS1⟩
  have BS1 := Lib.hid (BS.out.keep hbS1 BS.out.z)
  have AS1 := Lib.hid (AS.out.keep hbS1)
  clear hbS1 ec0 ec1 ec2 ec3 ec4 ec5 ec6 ec7 ec8 ec9 ec10 ec11 ec12 ec13 ef0 ef1 ef2 ef3 ef4 ef5 ef6 ef7 ef8 ef9 ef10 ef11 ef12 ef13 tt0 tt1 tt2 tt3 tt4 rr0 rr1 rr2 rr3 y0 y1 y2 y3 k00 k01 k02 k10 k11 k12 k20 k21 k22 u9 u11 BS AS
  have ec0 := BS1.out.e.c 0 (by decide)
  have ec1 := BS1.out.e.c 1 (by decide)
  have ec2 := BS1.out.e.c 2 (by decide)
  have ec3 := BS1.out.e.c 3 (by decide)
  have ec4 := BS1.out.e.c 4 (by decide)
  have ec5 := BS1.out.e.c 5 (by decide)
  have ec6 := BS1.out.e.c 6 (by decide)
  have ec7 := BS1.out.e.c 7 (by decide)
  have ec8 := BS1.out.e.c 8 (by decide)
  have ec9 := BS1.out.e.c 9 (by decide)
  have ec10 := BS1.out.e.c 10 (by decide)
  have ec11 := BS1.out.e.c 11 (by decide)
  have ec12 := BS1.out.e.c 12 (by decide)
  have ec13 := BS1.out.e.c 13 (by decide)
  have ef0 := BS1.out.e.f 0 (by decide)
  have ef1 := BS1.out.e.f 1 (by decide)
  have ef2 := BS1.out.e.f 2 (by decide)
  have ef3 := BS1.out.e.f 3 (by decide)
  have ef4 := BS1.out.e.f 4 (by decide)
  have ef5 := BS1.out.e.f 5 (by decide)
  have ef6 := BS1.out.e.f 6 (by decide)
  have ef7 := BS1.out.e.f 7 (by decide)
  have ef8 := BS1.out.e.f 8 (by decide)
  have ef9 := BS1.out.e.f 9 (by decide)
  have ef10 := BS1.out.e.f 10 (by decide)
  have ef11 := BS1.out.e.f 11 (by decide)
  have ef12 := BS1.out.e.f 12 (by decide)
  have ef13 := BS1.out.e.f 13 (by decide)
  have tt0 := BS1.out.t0
  have tt1 := BS1.out.t1
  have tt2 := BS1.out.t2
  have tt3 := BS1.out.t3
  have tt4 := BS1.out.t4
  have rr0 := BS1.out.r0
  have rr1 := BS1.out.r1
  have rr2 := BS1.out.r2
  have rr3 := BS1.out.r3
  have y0 : w.heap.size < S1.heap.size := by have := BS1.out.z; omega
  have y1 : w.heap.size + 1 < S1.heap.size := by have := BS1.out.z; omega
  have y2 : w.heap.size + 1 + 1 < S1.heap.size := by have := BS1.out.z; omega
  have y3 : w.heap.size + 1 + 1 + 1 < S1.heap.size := by have := BS1.out.z; omega
  have k00 := AS1.out.a0.c0
  have k10 := AS1.out.a1.c0
  have k20 := AS1.out.a2.c0
  have k01 := AS1.out.a0.c1
  have k11 := AS1.out.a1.c1
  have k21 := AS1.out.a2.c1
  have k02 := AS1.out.a0.c2
  have k12 := AS1.out.a1.c2
  have k22 := AS1.out.a2.c2
  have u9 := AS1.out.z9
  have u11 := AS1.out.z11
  skip
  go_wp2_with fail
  refine (isTogether_any (.slice q1 x1.length k1) (arcB x1) (arcW x1) ph _ rfl (by omega) hph).mono ?_; rw [t1]; rintro e' S2 ⟨rfl, hbS2⟩
  have BS2 := Lib.hid (BS1.out.keep hbS2 BS1.out.z)
  have AS2 := Lib.hid (AS1.out.keep hbS2)
  clear hbS2 ec0 ec1 ec2 ec3 ec4 ec5 ec6 ec7 ec8 ec9 ec10 ec11 ec12 ec13 ef0 ef1 ef2 ef3 ef4 ef5 ef6 ef7 ef8 ef9 ef10 ef11 ef12 ef13 tt0 tt1 tt2 tt3 tt4 rr0 rr1 rr2 rr3 y0 y1 y2 y3 k00 k01 k02 k10 k11 k12 k20 k21 k22 u9 u11 BS1 AS1
  have ec0 := BS2.out.e.c 0 (by decide)
  have ec1 := BS2.out.e.c 1 (by decide)
  have ec2 := BS2.out.e.c 2 (by decide)
  have ec3 := BS2.out.e.c 3 (by decide)
  have ec4 := BS2.out.e.c 4 (by decide)
  have ec5 := BS2.out.e.c 5 (by decide)
  have ec6 := BS2.out.e.c 6 (by decide)
  have ec7 := BS2.out.e.c 7 (by decide)
  have ec8 := BS2.out.e.c 8 (by decide)
  have ec9 := BS2.out.e.c 9 (by decide)
  have ec10 := BS2.out.e.c 10 (by decide)
  have ec11 := BS2.out.e.c 11 (by decide)
  have ec12 := BS2.out.e.c 12 (by decide)
  have ec13 := BS2.out.e.c 13 (by decide)
  have ef0 := BS2.out.e.f 0 (by decide)
  have ef1 := BS2.out.e.f 1 (by decide)
  have ef2 := BS2.out.e.f 2 (by decide)
  have ef3 := BS2.out.e.f 3 (by decide)
  have ef4 := BS2.out.e.f 4 (by decide)
  have ef5 := BS2.out.e.f 5 (by decide)
  have ef6 := BS2.out.e.f 6 (by decide)
  have ef7 := BS2.out.e.f 7 (by decide)
  have ef8 := BS2.out.e.f 8 (by decide)
  have ef9 := BS2.out.e.f 9 (by decide)
  have ef10 := BS2.out.e.f 10 (by decide)
  have ef11 := BS2.out.e.f 11 (by decide)
  have ef12 := BS2.out.e.f 12 (by decide)
  have ef13 := BS2.out.e.f 13 (by decide)
  have tt0 := BS2.out.t0
  have tt1 := BS2.out.t1
  have tt2 := BS2.out.t2
  have tt3 := BS2.out.t3
  have tt4 := BS2.out.t4
  have rr0 := BS2.out.r0
  have rr1 := BS2.out.r1
  have rr2 := BS2.out.r2
  have rr3 := BS2.out.r3
  have y0 : w.heap.size < S2.heap.size := by have := BS2.out.z; omega
  have y1 : w.heap.size + 1 < S2.heap.size := by have := BS2.out.z; omega
  have y2 : w.heap.size + 1 + 1 < S2.heap.size := by have := BS2.out.z; omega
  have y3 : w.heap.size + 1 + 1 + 1 < S2.heap.size := by have := BS2.out.z; omega
  have k00 := AS2.out.a0.c0
  have k10 := AS2.out.a1.c0
  have k20 := AS2.out.a2.c0
  have k01 := AS2.out.a0.c1
  have k11 := AS2.out.a1.c1
  have k21 := AS2.out.a2.c1
  have k02 := AS2.out.a0.c2
  have k12 := AS2.out.a1.c2
  have k22 := AS2.out.a2.c2
  have u9 := AS2.out.z9
  have u11 := AS2.out.z11
  skip
  have HG := Lib.hid (show EchoG (S2.setCell ⟨w.heap.size, 0, none⟩ (.int .i64 2)) w.heap.size g by rw [HGG.out]; have h := (BS2.out.e.set (k := 0) (v := 2)); rw [he1, ← hsp] at h; exact h)
  have HO := Lib.hid ((BS2.out.set (k := 0) (v := 2)).o)
  have hbw := (BS2.out.set (k := 0) (v := 2)).b
  have hzz := (BS2.out.set (k := 0) (v := 2)).z
  have EG1 := HG.out
  have gc0 := EG1.c 0 (by decide)
  have gc1 := EG1.c 1 (by decide)
  have gc2 := EG1.c 2 (by decide)
  have gc3 := EG1.c 3 (by decide)
  have gc4 := EG1.c 4 (by decide)
  have gc5 := EG1.c 5 (by decide)
  have gc6 := EG1.c 6 (by decide)
  have gc7 := EG1.c 7 (by decide)
  have gc8 := EG1.c 8 (by decide)
  have gc9 := EG1.c 9 (by decide)
  have gc10 := EG1.c 10 (by decide)
  have gc11 := EG1.c 11 (by decide)
  have gc12 := EG1.c 12 (by decide)
  have gc13 := EG1.c 13 (by decide)
  have oc0 := HO.out.c 0 (by decide)
  have of0 := HO.out.f 0 (by decide)
  have oc1 := HO.out.c 1 (by decide)
  have of1 := HO.out.f 1 (by decide)
  have oc2 := HO.out.c 2 (by decide)
  have of2 := HO.out.f 2 (by decide)
  have oc3 := HO.out.c 3 (by decide)
  have of3 := HO.out.f 3 (by decide)
  have oc4 := HO.out.c 4 (by decide)
  have of4 := HO.out.f 4 (by decide)
  have oc5 := HO.out.c 5 (by decide)
  have of5 := HO.out.f 5 (by decide)
  have oc6 := HO.out.c 6 (by decide)
  have of6 := HO.out.f 6 (by decide)
  have oc7 := HO.out.c 7 (by decide)
  have of7 := HO.out.f 7 (by decide)
  have oc8 := HO.out.c 8 (by decide)
  have of8 := HO.out.f 8 (by decide)
  have oc9 := HO.out.c 9 (by decide)
  have of9 := HO.out.f 9 (by decide)
  have oc10 := HO.out.c 10 (by decide)
  have of10 := HO.out.f 10 (by decide)
  have oc11 := HO.out.c 11 (by decide)
  have of11 := HO.out.f 11 (by decide)
  have oc12 := HO.out.c 12 (by decide)
  have of12 := HO.out.f 12 (by decide)
  have oc13 := HO.out.c 13 (by decide)
  have of13 := HO.out.f 13 (by decide)
  clear EG1 HGG hsp he1 AS2 BS2
  go_wp2
  obtain ⟨Z, hZ⟩ : ∃ Z, Z = (((((((((((((((S2.setCell ⟨w.heap.size, 0, none⟩ (.int .i64 2)).setCell ⟨w.heap.size + 1 + 1 + 1, 0, none⟩ (.int .i64 (g 0))).setCell ⟨w.heap.size + 1 + 1 + 1, 1, none⟩ (.int .i64 (g 1))).setCell ⟨w.heap.size + 1 + 1 + 1, 2, none⟩ (.int .i64 (g 2))).setCell ⟨w.heap.size + 1 + 1 + 1, 3, none⟩ (.int .i64 (g 3))).setCell ⟨w.heap.size + 1 + 1 + 1, 4, none⟩ (.int .i64 (g 4))).setCell ⟨w.heap.size + 1 + 1 + 1, 5, none⟩ (.int .i64 (g 5))).setCell ⟨w.heap.size + 1 + 1 + 1, 6, none⟩ (.int .i64 (g 6))).setCell ⟨w.heap.size + 1 + 1 + 1, 7, none⟩ (.int .i64 (g 7))).setCell ⟨w.heap.size + 1 + 1 + 1, 8, none⟩ (.int .i64 (g 8))).setCell ⟨w.heap.size + 1 + 1 + 1, 9, none⟩ (.int .i64 (g 9))).setCell ⟨w.heap.size + 1 + 1 + 1, 10, none⟩ (.int .i64 (g 10))).setCell ⟨w.heap.size + 1 + 1 + 1, 11, none⟩ (.int .i64 (g 11))).setCell ⟨w.heap.size + 1 + 1 + 1, 12, none⟩ (.int .i64 (g 12))).setCell ⟨w.heap.size + 1 + 1 + 1, 13, none⟩ (.int .i64 (g 13))) := ⟨_, rfl⟩
  rw [← hZ]
  have EZ := ((((((((((((((HO.out.set (k := 0) (v := g 0)).set (k := 1) (v := g 1)).set (k := 2) (v := g 2)).set (k := 3) (v := g 3)).set (k := 4) (v := g 4)).set (k := 5) (v := g 5)).set (k := 6) (v := g 6)).set (k := 7) (v := g 7)).set (k := 8) (v := g 8)).set (k := 9) (v := g 9)).set (k := 10) (v := g 10)).set (k := 11) (v := g 11)).set (k := 12) (v := g 12)).set (k := 13) (v := g 13))
  rw [← hZ] at EZ
  have bZ : Below w.heap.size w Z := by rw [hZ]; exact ((((((((((((((hbw.setCell (p := ⟨w.heap.size + 1 + 1 + 1, 0, none⟩) (by dsimp only; omega) _).setCell (p := ⟨w.heap.size + 1 + 1 + 1, 1, none⟩) (by dsimp only; omega) _).setCell (p := ⟨w.heap.size + 1 + 1 + 1, 2, none⟩) (by dsimp only; omega) _).setCell (p := ⟨w.heap.size + 1 + 1 + 1, 3, none⟩) (by dsimp only; omega) _).setCell (p := ⟨w.heap.size + 1 + 1 + 1, 4, none⟩) (by dsimp only; omega) _).setCell (p := ⟨w.heap.size + 1 + 1 + 1, 5, none⟩) (by dsimp only; omega) _).setCell (p := ⟨w.heap.size + 1 + 1 + 1, 6, none⟩) (by dsimp only; omega) _).setCell (p := ⟨w.heap.size + 1 + 1 + 1, 7, none⟩) (by dsimp only; omega) _).setCell (p := ⟨w.heap.size + 1 + 1 + 1, 8, none⟩) (by dsimp only; omega) _).setCell (p := ⟨w.heap.size + 1 + 1 + 1, 9, none⟩) (by dsimp only; omega) _).setCell (p := ⟨w.heap.size + 1 + 1 + 1, 10, none⟩) (by dsimp only; omega) _).setCell (p := ⟨w.heap.size + 1 + 1 + 1, 11, none⟩) (by dsimp only; omega) _).setCell (p := ⟨w.heap.size + 1 + 1 + 1, 12, none⟩) (by dsimp only; omega) _).setCell (p := ⟨w.heap.size + 1 + 1 + 1, 13, none⟩) (by dsimp only; omega) _)
  clear hZ
  have h0 : Z.cell? ⟨w.heap.size + 1 + 1 + 1, 0, none⟩ = some (.int .i64 (g 0)) := EZ.c 0 (by decide)
  have h1 : Z.cell? ⟨w.heap.size + 1 + 1 + 1, 1, none⟩ = some (.int .i64 (g 1)) := EZ.c 1 (by decide)
  have h2 : Z.cell? ⟨w.heap.size + 1 + 1 + 1, 2, none⟩ = some (.int .i64 (g 2)) := EZ.c 2 (by decide)
  have h3 : Z.cell? ⟨w.heap.size + 1 + 1 + 1, 3, none⟩ = some (.int .i64 (g 3)) := EZ.c 3 (by decide)
  have h4 : Z.cell? ⟨w.heap.size + 1 + 1 + 1, 4, none⟩ = some (.int .i64 (g 4)) := EZ.c 4 (by decide)
  have h5 : Z.cell? ⟨w.heap.size + 1 + 1 + 1, 5, none⟩ = some (.int .i64 (g 5)) := EZ.c 5 (by decide)
  have h6 : Z.cell? ⟨w.heap.size + 1 + 1 + 1, 6, none⟩ = some (.int .i64 (g 6)) := EZ.c 6 (by decide)
  have h7 : Z.cell? ⟨w.heap.size + 1 + 1 + 1, 7, none⟩ = some (.int .i64 (g 7)) := EZ.c 7 (by decide)
  have h8 : Z.cell? ⟨w.heap.size + 1 + 1 + 1, 8, none⟩ = some (.int .i64 (g 8)) := EZ.c 8 (by decide)
  have h9 : Z.cell? ⟨w.heap.size + 1 + 1 + 1, 9, none⟩ = some (.int .i64 (g 9)) := EZ.c 9 (by decide)
  have h10 : Z.cell? ⟨w.heap.size + 1 + 1 + 1, 10, none⟩ = some (.int .i64 (g 10)) := EZ.c 10 (by decide)
  have h11 : Z.cell? ⟨w.heap.size + 1 + 1 + 1, 11, none⟩ = some (.int .i64 (g 11)) := EZ.c 11 (by decide)
  have h12 : Z.cell? ⟨w.heap.size + 1 + 1 + 1, 12, none⟩ = some (.int .i64 (g 12)) := EZ.c 12 (by decide)
  have h13 : Z.cell? ⟨w.heap.size + 1 + 1 + 1, 13, none⟩ = some (.int .i64 (g 13)) := EZ.c 13 (by decide)
  clear EZ
  exact bodyPost_ret (v := .agg #[.int .i64 (g 0), .int .i64 (g 1), .int .i64 (g 2), .int .i64 (g 3), .int .i64 (g 4), .int .i64 (g 5), .int .i64 (g 6), .int .i64 (g 7), .int .i64 (g 8), .int .i64 (g 9), .int .i64 (g 10), .int .i64 (g 11), .int .i64 (g 12), .int .i64 (g 13)]) (by simp [results, Try.results92, go_sem, h0, h1, h2, h3, h4, h5, h6, h7, h8, h9, h10, h11, h12, h13]) rfl ⟨rfl, bZ⟩

set_option maxRecDepth 100000 in
set_option maxHeartbeats 6400000 in
theorem wp_mixed2 (e : Nat → Int) (l kd f s c lv ph n0 n1 : Int) (b off n cap : Nat) (zs : Nat → Smp) (w : World) (hn : 1 ≤ n) (hn2 : n ≤ 64) (hc : kd = 2 → 4 ≤ c ∧ c ≤ 64 ∧ c % 2 = 0) (hcn : (n : Int) = c) (hzs : ∀ i, i < n → (0 ≤ (zs i).p ∧ (zs i).p < 65536) ∧ (0 ≤ (zs i).q ∧ (zs i).q < 65536)) (hph : 0 ≤ ph ∧ ph ≤ 4096) (hS : SmpsAt w b off n zs) (hb : b < w.heap.size) (x0 x1 x2 : List Int) (h0 : x0 = (valsB (stpTo zs kd c (n - 1)) false)) (h1 : x1 = (valsB (stpTo zs kd c (n - 1)) true)) (h2 : x2 = (trnTo zs n)) (t0 : decide (arcW x0 + 4 * ph < 32768) = true) (t1 : decide (arcW x1 + 4 * ph < 32768) = true) (t2 : decide (arcW x2 + 4 * ph < 32768) = false) :
    Calls Try.prog 92 #[.agg #[.int .i64 (e 0), .int .i64 (e 1), .int .i64 (e 2), .int .i64 (e 3), .int .i64 (e 4), .int .i64 (e 5), .int .i64 (e 6), .int .i64 (e 7), .int .i64 (e 8), .int .i64 (e 9), .int .i64 (e 10), .int .i64 (e 11), .int .i64 (e 12), .int .i64 (e 13)], .agg #[.int .i64 l, .int .i64 kd, .int .i64 f, .int .i64 s, .int .i64 c], .agg #[.int .i64 lv, .int .i64 ph, .int .i64 n0, .int .i64 n1], .slice (some ⟨b, off, none⟩) n cap] w fun e' w' => e' = .returned (.agg #[.int .i64 ((upd (upd e 7 (mxx (arcW x0) (arcW x1))) 0 2) 0), .int .i64 ((upd (upd e 7 (mxx (arcW x0) (arcW x1))) 0 2) 1), .int .i64 ((upd (upd e 7 (mxx (arcW x0) (arcW x1))) 0 2) 2), .int .i64 ((upd (upd e 7 (mxx (arcW x0) (arcW x1))) 0 2) 3), .int .i64 ((upd (upd e 7 (mxx (arcW x0) (arcW x1))) 0 2) 4), .int .i64 ((upd (upd e 7 (mxx (arcW x0) (arcW x1))) 0 2) 5), .int .i64 ((upd (upd e 7 (mxx (arcW x0) (arcW x1))) 0 2) 6), .int .i64 ((upd (upd e 7 (mxx (arcW x0) (arcW x1))) 0 2) 7), .int .i64 ((upd (upd e 7 (mxx (arcW x0) (arcW x1))) 0 2) 8), .int .i64 ((upd (upd e 7 (mxx (arcW x0) (arcW x1))) 0 2) 9), .int .i64 ((upd (upd e 7 (mxx (arcW x0) (arcW x1))) 0 2) 10), .int .i64 ((upd (upd e 7 (mxx (arcW x0) (arcW x1))) 0 2) 11), .int .i64 ((upd (upd e 7 (mxx (arcW x0) (arcW x1))) 0 2) 12), .int .i64 ((upd (upd e 7 (mxx (arcW x0) (arcW x1))) 0 2) 13)]) ∧ Below w.heap.size w w' := by
  obtain ⟨g, hg⟩ : ∃ g, g = (upd (upd e 7 (mxx (arcW x0) (arcW x1))) 0 2) := ⟨_, rfl⟩
  rw [← hg]
  have HGG := Lib.hid hg
  clear hg
  have HC1 := Lib.hid (steps_call l kd f s c b off n cap zs w hn hn2 hc hcn (fun i hi => (hzs i hi).1) hS hb x0 x1 h0 h1)
  have HC2 := Lib.hid (turns_call b off n cap zs w hn2 hzs hS hb x2 h2)
  have HB0 := Lib.hid (WpB.new w e l kd f s c lv ph n0 n1)
  have w0 := arcW_bd x0
  have w1 := arcW_bd x1
  have w2 := arcW_bd x2
  obtain ⟨sp, hsp⟩ : ∃ x, max (arcW x0) (arcW x1) = x := ⟨_, rfl⟩
  obtain ⟨e1, he1⟩ : ∃ g, g = upd e 7 sp := ⟨_, rfl⟩
  clear h0 h1 h2 hS hzs hc
  go_enter Try.func92, Try.ntmps92
  go_wp2_with fail
  refine (HC1.out _ HB0.out.b HB0.out.z).mono ?_; rintro e' X ⟨q0, k0, q1, k1, rfl, i0, i1, hbX⟩
  have B1 := HB0.out.keep hbX HB0.out.z
  have zX := B1.z
  have I0 := Lib.hid i0
  have I1 := Lib.hid i1
  clear HB0 hbX i0 i1
  have HA : Hid (∃ A, A = (X.alloc (.cells #[.slice q0 x0.length k0, .int .i64 (arcB x0), .int .i64 (arcW x0)] 107)).alloc (.cells #[.slice q1 x1.length k1, .int .i64 (arcB x1), .int .i64 (arcW x1)] 107) ∧ WpB w A e l kd f s c lv ph n0 n1 ∧ ArcAt A X.heap.size (.slice q0 x0.length k0) (arcB x0) (arcW x0) ∧ ArcAt A (X.heap.size + 1) (.slice q1 x1.length k1) (arcB x1) (arcW x1) ∧ RowL (w.heap.size + 4) A (.slice q0 x0.length k0) x0 ∧ RowL (w.heap.size + 4) A (.slice q1 x1.length k1) x1 ∧ A.heap.size = X.heap.size + 2) := Lib.hid (arcs2 X B1 I0.out I1.out)
  clear B1 I0 I1
  go_wp2_with fail
  obtain ⟨A, hA, B2, A0, A1, I0, I1, zA⟩ := HA.out
  rw [← hA]
  refine (HC2.out _ B2.b B2.z).mono ?_; rintro e' Y ⟨q2, k2, rfl, i2, hbY⟩
  have HR : Hid (∃ R, R = Y.alloc (.cells #[.slice q2 x2.length k2, .int .i64 (arcB x2), .int .i64 (arcW x2)] 107) ∧ WpB w R e l kd f s c lv ph n0 n1 ∧ Arcs (w.heap.size + 4) R X.heap.size Y.heap.size (.slice q0 x0.length k0) (.slice q1 x1.length k1) (.slice q2 x2.length k2) x0 x1 x2) := Lib.hid (arcs3 X Y B2 A0 A1 I0 I1 zA hbY i2)
  have zX2 := zA
  clear hA HA B2 A0 A1 I0 I1 i2
  obtain ⟨R, hR, B3, A3⟩ := HR.out
  have B4 := Lib.hid (B3.set (k := 7) (v := sp))
  have A4 := Lib.hid (A3.set (k := 7) (u := .int .i64 sp) (d := w.heap.size) (by omega) (by have := hbY.size; omega) (by omega))
  subst hR
  have ec0 := B3.e.c 0 (by decide)
  have ec1 := B3.e.c 1 (by decide)
  have ec2 := B3.e.c 2 (by decide)
  have ec3 := B3.e.c 3 (by decide)
  have ec4 := B3.e.c 4 (by decide)
  have ec5 := B3.e.c 5 (by decide)
  have ec6 := B3.e.c 6 (by decide)
  have ec7 := B3.e.c 7 (by decide)
  have ec8 := B3.e.c 8 (by decide)
  have ec9 := B3.e.c 9 (by decide)
  have ec10 := B3.e.c 10 (by decide)
  have ec11 := B3.e.c 11 (by decide)
  have ec12 := B3.e.c 12 (by decide)
  have ec13 := B3.e.c 13 (by decide)
  have ef0 := B3.e.f 0 (by decide)
  have ef1 := B3.e.f 1 (by decide)
  have ef2 := B3.e.f 2 (by decide)
  have ef3 := B3.e.f 3 (by decide)
  have ef4 := B3.e.f 4 (by decide)
  have ef5 := B3.e.f 5 (by decide)
  have ef6 := B3.e.f 6 (by decide)
  have ef7 := B3.e.f 7 (by decide)
  have ef8 := B3.e.f 8 (by decide)
  have ef9 := B3.e.f 9 (by decide)
  have ef10 := B3.e.f 10 (by decide)
  have ef11 := B3.e.f 11 (by decide)
  have ef12 := B3.e.f 12 (by decide)
  have ef13 := B3.e.f 13 (by decide)
  have tt0 := B3.t0
  have tt1 := B3.t1
  have tt2 := B3.t2
  have tt3 := B3.t3
  have tt4 := B3.t4
  have rr0 := B3.r0
  have rr1 := B3.r1
  have rr2 := B3.r2
  have rr3 := B3.r3
  have y0 : w.heap.size < (Y.alloc (.cells #[.slice q2 x2.length k2, .int .i64 (arcB x2), .int .i64 (arcW x2)] 107)).heap.size := by have := B3.z; omega
  have y1 : w.heap.size + 1 < (Y.alloc (.cells #[.slice q2 x2.length k2, .int .i64 (arcB x2), .int .i64 (arcW x2)] 107)).heap.size := by have := B3.z; omega
  have y2 : w.heap.size + 1 + 1 < (Y.alloc (.cells #[.slice q2 x2.length k2, .int .i64 (arcB x2), .int .i64 (arcW x2)] 107)).heap.size := by have := B3.z; omega
  have y3 : w.heap.size + 1 + 1 + 1 < (Y.alloc (.cells #[.slice q2 x2.length k2, .int .i64 (arcB x2), .int .i64 (arcW x2)] 107)).heap.size := by have := B3.z; omega
  have k00 := A3.a0.c0
  have k10 := A3.a1.c0
  have k20 := A3.a2.c0
  have k01 := A3.a0.c1
  have k11 := A3.a1.c1
  have k21 := A3.a2.c1
  have k02 := A3.a0.c2
  have k12 := A3.a1.c2
  have k22 := A3.a2.c2
  have u9 := A3.z9
  have u11 := A3.z11
  skip
  clear HR A3 B3 hbY
  rw [← he1] at B4
  go_wp2_with fail
  obtain ⟨S, hS⟩ : ∃ S, S = (Y.alloc (.cells #[.slice q2 x2.length k2, .int .i64 (arcB x2), .int .i64 (arcW x2)] 107)).setCell ⟨w.heap.size, 7, none⟩ (.int .i64 sp) := ⟨_, rfl⟩
  rw [← hS] at B4 A4 ⊢
  have BS := B4
  have AS := A4
  clear ec0 ec1 ec2 ec3 ec4 ec5 ec6 ec7 ec8 ec9 ec10 ec11 ec12 ec13 ef0 ef1 ef2 ef3 ef4 ef5 ef6 ef7 ef8 ef9 ef10 ef11 ef12 ef13 tt0 tt1 tt2 tt3 tt4 rr0 rr1 rr2 rr3 y0 y1 y2 y3 k00 k01 k02 k10 k11 k12 k20 k21 k22 u9 u11 hS B4 A4
  have ec0 := BS.out.e.c 0 (by decide)
  have ec1 := BS.out.e.c 1 (by decide)
  have ec2 := BS.out.e.c 2 (by decide)
  have ec3 := BS.out.e.c 3 (by decide)
  have ec4 := BS.out.e.c 4 (by decide)
  have ec5 := BS.out.e.c 5 (by decide)
  have ec6 := BS.out.e.c 6 (by decide)
  have ec7 := BS.out.e.c 7 (by decide)
  have ec8 := BS.out.e.c 8 (by decide)
  have ec9 := BS.out.e.c 9 (by decide)
  have ec10 := BS.out.e.c 10 (by decide)
  have ec11 := BS.out.e.c 11 (by decide)
  have ec12 := BS.out.e.c 12 (by decide)
  have ec13 := BS.out.e.c 13 (by decide)
  have ef0 := BS.out.e.f 0 (by decide)
  have ef1 := BS.out.e.f 1 (by decide)
  have ef2 := BS.out.e.f 2 (by decide)
  have ef3 := BS.out.e.f 3 (by decide)
  have ef4 := BS.out.e.f 4 (by decide)
  have ef5 := BS.out.e.f 5 (by decide)
  have ef6 := BS.out.e.f 6 (by decide)
  have ef7 := BS.out.e.f 7 (by decide)
  have ef8 := BS.out.e.f 8 (by decide)
  have ef9 := BS.out.e.f 9 (by decide)
  have ef10 := BS.out.e.f 10 (by decide)
  have ef11 := BS.out.e.f 11 (by decide)
  have ef12 := BS.out.e.f 12 (by decide)
  have ef13 := BS.out.e.f 13 (by decide)
  have tt0 := BS.out.t0
  have tt1 := BS.out.t1
  have tt2 := BS.out.t2
  have tt3 := BS.out.t3
  have tt4 := BS.out.t4
  have rr0 := BS.out.r0
  have rr1 := BS.out.r1
  have rr2 := BS.out.r2
  have rr3 := BS.out.r3
  have y0 : w.heap.size < S.heap.size := by have := BS.out.z; omega
  have y1 : w.heap.size + 1 < S.heap.size := by have := BS.out.z; omega
  have y2 : w.heap.size + 1 + 1 < S.heap.size := by have := BS.out.z; omega
  have y3 : w.heap.size + 1 + 1 + 1 < S.heap.size := by have := BS.out.z; omega
  have k00 := AS.out.a0.c0
  have k10 := AS.out.a1.c0
  have k20 := AS.out.a2.c0
  have k01 := AS.out.a0.c1
  have k11 := AS.out.a1.c1
  have k21 := AS.out.a2.c1
  have k02 := AS.out.a0.c2
  have k12 := AS.out.a1.c2
  have k22 := AS.out.a2.c2
  have u9 := AS.out.z9
  have u11 := AS.out.z11
  skip
  refine (isTogether_any (.slice q0 x0.length k0) (arcB x0) (arcW x0) ph _ rfl (by omega) hph).mono ?_; rw [t0]; rintro e' S1 ⟨rfl, hbS1⟩
  have BS1 := Lib.hid (BS.out.keep hbS1 BS.out.z)
  have AS1 := Lib.hid (AS.out.keep hbS1)
  clear hbS1 ec0 ec1 ec2 ec3 ec4 ec5 ec6 ec7 ec8 ec9 ec10 ec11 ec12 ec13 ef0 ef1 ef2 ef3 ef4 ef5 ef6 ef7 ef8 ef9 ef10 ef11 ef12 ef13 tt0 tt1 tt2 tt3 tt4 rr0 rr1 rr2 rr3 y0 y1 y2 y3 k00 k01 k02 k10 k11 k12 k20 k21 k22 u9 u11 BS AS
  have ec0 := BS1.out.e.c 0 (by decide)
  have ec1 := BS1.out.e.c 1 (by decide)
  have ec2 := BS1.out.e.c 2 (by decide)
  have ec3 := BS1.out.e.c 3 (by decide)
  have ec4 := BS1.out.e.c 4 (by decide)
  have ec5 := BS1.out.e.c 5 (by decide)
  have ec6 := BS1.out.e.c 6 (by decide)
  have ec7 := BS1.out.e.c 7 (by decide)
  have ec8 := BS1.out.e.c 8 (by decide)
  have ec9 := BS1.out.e.c 9 (by decide)
  have ec10 := BS1.out.e.c 10 (by decide)
  have ec11 := BS1.out.e.c 11 (by decide)
  have ec12 := BS1.out.e.c 12 (by decide)
  have ec13 := BS1.out.e.c 13 (by decide)
  have ef0 := BS1.out.e.f 0 (by decide)
  have ef1 := BS1.out.e.f 1 (by decide)
  have ef2 := BS1.out.e.f 2 (by decide)
  have ef3 := BS1.out.e.f 3 (by decide)
  have ef4 := BS1.out.e.f 4 (by decide)
  have ef5 := BS1.out.e.f 5 (by decide)
  have ef6 := BS1.out.e.f 6 (by decide)
  have ef7 := BS1.out.e.f 7 (by decide)
  have ef8 := BS1.out.e.f 8 (by decide)
  have ef9 := BS1.out.e.f 9 (by decide)
  have ef10 := BS1.out.e.f 10 (by decide)
  have ef11 := BS1.out.e.f 11 (by decide)
  have ef12 := BS1.out.e.f 12 (by decide)
  have ef13 := BS1.out.e.f 13 (by decide)
  have tt0 := BS1.out.t0
  have tt1 := BS1.out.t1
  have tt2 := BS1.out.t2
  have tt3 := BS1.out.t3
  have tt4 := BS1.out.t4
  have rr0 := BS1.out.r0
  have rr1 := BS1.out.r1
  have rr2 := BS1.out.r2
  have rr3 := BS1.out.r3
  have y0 : w.heap.size < S1.heap.size := by have := BS1.out.z; omega
  have y1 : w.heap.size + 1 < S1.heap.size := by have := BS1.out.z; omega
  have y2 : w.heap.size + 1 + 1 < S1.heap.size := by have := BS1.out.z; omega
  have y3 : w.heap.size + 1 + 1 + 1 < S1.heap.size := by have := BS1.out.z; omega
  have k00 := AS1.out.a0.c0
  have k10 := AS1.out.a1.c0
  have k20 := AS1.out.a2.c0
  have k01 := AS1.out.a0.c1
  have k11 := AS1.out.a1.c1
  have k21 := AS1.out.a2.c1
  have k02 := AS1.out.a0.c2
  have k12 := AS1.out.a1.c2
  have k22 := AS1.out.a2.c2
  have u9 := AS1.out.z9
  have u11 := AS1.out.z11
  skip
  go_wp2_with fail
  refine (isTogether_any (.slice q1 x1.length k1) (arcB x1) (arcW x1) ph _ rfl (by omega) hph).mono ?_; rw [t1]; rintro e' S2 ⟨rfl, hbS2⟩
  have BS2 := Lib.hid (BS1.out.keep hbS2 BS1.out.z)
  have AS2 := Lib.hid (AS1.out.keep hbS2)
  clear hbS2 ec0 ec1 ec2 ec3 ec4 ec5 ec6 ec7 ec8 ec9 ec10 ec11 ec12 ec13 ef0 ef1 ef2 ef3 ef4 ef5 ef6 ef7 ef8 ef9 ef10 ef11 ef12 ef13 tt0 tt1 tt2 tt3 tt4 rr0 rr1 rr2 rr3 y0 y1 y2 y3 k00 k01 k02 k10 k11 k12 k20 k21 k22 u9 u11 BS1 AS1
  have ec0 := BS2.out.e.c 0 (by decide)
  have ec1 := BS2.out.e.c 1 (by decide)
  have ec2 := BS2.out.e.c 2 (by decide)
  have ec3 := BS2.out.e.c 3 (by decide)
  have ec4 := BS2.out.e.c 4 (by decide)
  have ec5 := BS2.out.e.c 5 (by decide)
  have ec6 := BS2.out.e.c 6 (by decide)
  have ec7 := BS2.out.e.c 7 (by decide)
  have ec8 := BS2.out.e.c 8 (by decide)
  have ec9 := BS2.out.e.c 9 (by decide)
  have ec10 := BS2.out.e.c 10 (by decide)
  have ec11 := BS2.out.e.c 11 (by decide)
  have ec12 := BS2.out.e.c 12 (by decide)
  have ec13 := BS2.out.e.c 13 (by decide)
  have ef0 := BS2.out.e.f 0 (by decide)
  have ef1 := BS2.out.e.f 1 (by decide)
  have ef2 := BS2.out.e.f 2 (by decide)
  have ef3 := BS2.out.e.f 3 (by decide)
  have ef4 := BS2.out.e.f 4 (by decide)
  have ef5 := BS2.out.e.f 5 (by decide)
  have ef6 := BS2.out.e.f 6 (by decide)
  have ef7 := BS2.out.e.f 7 (by decide)
  have ef8 := BS2.out.e.f 8 (by decide)
  have ef9 := BS2.out.e.f 9 (by decide)
  have ef10 := BS2.out.e.f 10 (by decide)
  have ef11 := BS2.out.e.f 11 (by decide)
  have ef12 := BS2.out.e.f 12 (by decide)
  have ef13 := BS2.out.e.f 13 (by decide)
  have tt0 := BS2.out.t0
  have tt1 := BS2.out.t1
  have tt2 := BS2.out.t2
  have tt3 := BS2.out.t3
  have tt4 := BS2.out.t4
  have rr0 := BS2.out.r0
  have rr1 := BS2.out.r1
  have rr2 := BS2.out.r2
  have rr3 := BS2.out.r3
  have y0 : w.heap.size < S2.heap.size := by have := BS2.out.z; omega
  have y1 : w.heap.size + 1 < S2.heap.size := by have := BS2.out.z; omega
  have y2 : w.heap.size + 1 + 1 < S2.heap.size := by have := BS2.out.z; omega
  have y3 : w.heap.size + 1 + 1 + 1 < S2.heap.size := by have := BS2.out.z; omega
  have k00 := AS2.out.a0.c0
  have k10 := AS2.out.a1.c0
  have k20 := AS2.out.a2.c0
  have k01 := AS2.out.a0.c1
  have k11 := AS2.out.a1.c1
  have k21 := AS2.out.a2.c1
  have k02 := AS2.out.a0.c2
  have k12 := AS2.out.a1.c2
  have k22 := AS2.out.a2.c2
  have u9 := AS2.out.z9
  have u11 := AS2.out.z11
  skip
  go_wp2_with fail
  refine (isTogether_any (.slice q2 x2.length k2) (arcB x2) (arcW x2) ph _ rfl (by omega) hph).mono ?_; rw [t2]; rintro e' S3 ⟨rfl, hbS3⟩
  have BS3 := Lib.hid (BS2.out.keep hbS3 BS2.out.z)
  have AS3 := Lib.hid (AS2.out.keep hbS3)
  clear hbS3 ec0 ec1 ec2 ec3 ec4 ec5 ec6 ec7 ec8 ec9 ec10 ec11 ec12 ec13 ef0 ef1 ef2 ef3 ef4 ef5 ef6 ef7 ef8 ef9 ef10 ef11 ef12 ef13 tt0 tt1 tt2 tt3 tt4 rr0 rr1 rr2 rr3 y0 y1 y2 y3 k00 k01 k02 k10 k11 k12 k20 k21 k22 u9 u11 BS2 AS2
  have ec0 := BS3.out.e.c 0 (by decide)
  have ec1 := BS3.out.e.c 1 (by decide)
  have ec2 := BS3.out.e.c 2 (by decide)
  have ec3 := BS3.out.e.c 3 (by decide)
  have ec4 := BS3.out.e.c 4 (by decide)
  have ec5 := BS3.out.e.c 5 (by decide)
  have ec6 := BS3.out.e.c 6 (by decide)
  have ec7 := BS3.out.e.c 7 (by decide)
  have ec8 := BS3.out.e.c 8 (by decide)
  have ec9 := BS3.out.e.c 9 (by decide)
  have ec10 := BS3.out.e.c 10 (by decide)
  have ec11 := BS3.out.e.c 11 (by decide)
  have ec12 := BS3.out.e.c 12 (by decide)
  have ec13 := BS3.out.e.c 13 (by decide)
  have ef0 := BS3.out.e.f 0 (by decide)
  have ef1 := BS3.out.e.f 1 (by decide)
  have ef2 := BS3.out.e.f 2 (by decide)
  have ef3 := BS3.out.e.f 3 (by decide)
  have ef4 := BS3.out.e.f 4 (by decide)
  have ef5 := BS3.out.e.f 5 (by decide)
  have ef6 := BS3.out.e.f 6 (by decide)
  have ef7 := BS3.out.e.f 7 (by decide)
  have ef8 := BS3.out.e.f 8 (by decide)
  have ef9 := BS3.out.e.f 9 (by decide)
  have ef10 := BS3.out.e.f 10 (by decide)
  have ef11 := BS3.out.e.f 11 (by decide)
  have ef12 := BS3.out.e.f 12 (by decide)
  have ef13 := BS3.out.e.f 13 (by decide)
  have tt0 := BS3.out.t0
  have tt1 := BS3.out.t1
  have tt2 := BS3.out.t2
  have tt3 := BS3.out.t3
  have tt4 := BS3.out.t4
  have rr0 := BS3.out.r0
  have rr1 := BS3.out.r1
  have rr2 := BS3.out.r2
  have rr3 := BS3.out.r3
  have y0 : w.heap.size < S3.heap.size := by have := BS3.out.z; omega
  have y1 : w.heap.size + 1 < S3.heap.size := by have := BS3.out.z; omega
  have y2 : w.heap.size + 1 + 1 < S3.heap.size := by have := BS3.out.z; omega
  have y3 : w.heap.size + 1 + 1 + 1 < S3.heap.size := by have := BS3.out.z; omega
  have k00 := AS3.out.a0.c0
  have k10 := AS3.out.a1.c0
  have k20 := AS3.out.a2.c0
  have k01 := AS3.out.a0.c1
  have k11 := AS3.out.a1.c1
  have k21 := AS3.out.a2.c1
  have k02 := AS3.out.a0.c2
  have k12 := AS3.out.a1.c2
  have k22 := AS3.out.a2.c2
  have u9 := AS3.out.z9
  have u11 := AS3.out.z11
  skip
  have HG := Lib.hid (show EchoG (S3.setCell ⟨w.heap.size, 0, none⟩ (.int .i64 2)) w.heap.size g by rw [HGG.out]; have h := (BS3.out.e.set (k := 0) (v := 2)); rw [he1, ← hsp] at h; exact h)
  have HO := Lib.hid ((BS3.out.set (k := 0) (v := 2)).o)
  have hbw := (BS3.out.set (k := 0) (v := 2)).b
  have hzz := (BS3.out.set (k := 0) (v := 2)).z
  have EG1 := HG.out
  have gc0 := EG1.c 0 (by decide)
  have gc1 := EG1.c 1 (by decide)
  have gc2 := EG1.c 2 (by decide)
  have gc3 := EG1.c 3 (by decide)
  have gc4 := EG1.c 4 (by decide)
  have gc5 := EG1.c 5 (by decide)
  have gc6 := EG1.c 6 (by decide)
  have gc7 := EG1.c 7 (by decide)
  have gc8 := EG1.c 8 (by decide)
  have gc9 := EG1.c 9 (by decide)
  have gc10 := EG1.c 10 (by decide)
  have gc11 := EG1.c 11 (by decide)
  have gc12 := EG1.c 12 (by decide)
  have gc13 := EG1.c 13 (by decide)
  have oc0 := HO.out.c 0 (by decide)
  have of0 := HO.out.f 0 (by decide)
  have oc1 := HO.out.c 1 (by decide)
  have of1 := HO.out.f 1 (by decide)
  have oc2 := HO.out.c 2 (by decide)
  have of2 := HO.out.f 2 (by decide)
  have oc3 := HO.out.c 3 (by decide)
  have of3 := HO.out.f 3 (by decide)
  have oc4 := HO.out.c 4 (by decide)
  have of4 := HO.out.f 4 (by decide)
  have oc5 := HO.out.c 5 (by decide)
  have of5 := HO.out.f 5 (by decide)
  have oc6 := HO.out.c 6 (by decide)
  have of6 := HO.out.f 6 (by decide)
  have oc7 := HO.out.c 7 (by decide)
  have of7 := HO.out.f 7 (by decide)
  have oc8 := HO.out.c 8 (by decide)
  have of8 := HO.out.f 8 (by decide)
  have oc9 := HO.out.c 9 (by decide)
  have of9 := HO.out.f 9 (by decide)
  have oc10 := HO.out.c 10 (by decide)
  have of10 := HO.out.f 10 (by decide)
  have oc11 := HO.out.c 11 (by decide)
  have of11 := HO.out.f 11 (by decide)
  have oc12 := HO.out.c 12 (by decide)
  have of12 := HO.out.f 12 (by decide)
  have oc13 := HO.out.c 13 (by decide)
  have of13 := HO.out.f 13 (by decide)
  clear EG1 HGG hsp he1 AS3 BS3
  go_wp2
  obtain ⟨Z, hZ⟩ : ∃ Z, Z = (((((((((((((((S3.setCell ⟨w.heap.size, 0, none⟩ (.int .i64 2)).setCell ⟨w.heap.size + 1 + 1 + 1, 0, none⟩ (.int .i64 (g 0))).setCell ⟨w.heap.size + 1 + 1 + 1, 1, none⟩ (.int .i64 (g 1))).setCell ⟨w.heap.size + 1 + 1 + 1, 2, none⟩ (.int .i64 (g 2))).setCell ⟨w.heap.size + 1 + 1 + 1, 3, none⟩ (.int .i64 (g 3))).setCell ⟨w.heap.size + 1 + 1 + 1, 4, none⟩ (.int .i64 (g 4))).setCell ⟨w.heap.size + 1 + 1 + 1, 5, none⟩ (.int .i64 (g 5))).setCell ⟨w.heap.size + 1 + 1 + 1, 6, none⟩ (.int .i64 (g 6))).setCell ⟨w.heap.size + 1 + 1 + 1, 7, none⟩ (.int .i64 (g 7))).setCell ⟨w.heap.size + 1 + 1 + 1, 8, none⟩ (.int .i64 (g 8))).setCell ⟨w.heap.size + 1 + 1 + 1, 9, none⟩ (.int .i64 (g 9))).setCell ⟨w.heap.size + 1 + 1 + 1, 10, none⟩ (.int .i64 (g 10))).setCell ⟨w.heap.size + 1 + 1 + 1, 11, none⟩ (.int .i64 (g 11))).setCell ⟨w.heap.size + 1 + 1 + 1, 12, none⟩ (.int .i64 (g 12))).setCell ⟨w.heap.size + 1 + 1 + 1, 13, none⟩ (.int .i64 (g 13))) := ⟨_, rfl⟩
  rw [← hZ]
  have EZ := ((((((((((((((HO.out.set (k := 0) (v := g 0)).set (k := 1) (v := g 1)).set (k := 2) (v := g 2)).set (k := 3) (v := g 3)).set (k := 4) (v := g 4)).set (k := 5) (v := g 5)).set (k := 6) (v := g 6)).set (k := 7) (v := g 7)).set (k := 8) (v := g 8)).set (k := 9) (v := g 9)).set (k := 10) (v := g 10)).set (k := 11) (v := g 11)).set (k := 12) (v := g 12)).set (k := 13) (v := g 13))
  rw [← hZ] at EZ
  have bZ : Below w.heap.size w Z := by rw [hZ]; exact ((((((((((((((hbw.setCell (p := ⟨w.heap.size + 1 + 1 + 1, 0, none⟩) (by dsimp only; omega) _).setCell (p := ⟨w.heap.size + 1 + 1 + 1, 1, none⟩) (by dsimp only; omega) _).setCell (p := ⟨w.heap.size + 1 + 1 + 1, 2, none⟩) (by dsimp only; omega) _).setCell (p := ⟨w.heap.size + 1 + 1 + 1, 3, none⟩) (by dsimp only; omega) _).setCell (p := ⟨w.heap.size + 1 + 1 + 1, 4, none⟩) (by dsimp only; omega) _).setCell (p := ⟨w.heap.size + 1 + 1 + 1, 5, none⟩) (by dsimp only; omega) _).setCell (p := ⟨w.heap.size + 1 + 1 + 1, 6, none⟩) (by dsimp only; omega) _).setCell (p := ⟨w.heap.size + 1 + 1 + 1, 7, none⟩) (by dsimp only; omega) _).setCell (p := ⟨w.heap.size + 1 + 1 + 1, 8, none⟩) (by dsimp only; omega) _).setCell (p := ⟨w.heap.size + 1 + 1 + 1, 9, none⟩) (by dsimp only; omega) _).setCell (p := ⟨w.heap.size + 1 + 1 + 1, 10, none⟩) (by dsimp only; omega) _).setCell (p := ⟨w.heap.size + 1 + 1 + 1, 11, none⟩) (by dsimp only; omega) _).setCell (p := ⟨w.heap.size + 1 + 1 + 1, 12, none⟩) (by dsimp only; omega) _).setCell (p := ⟨w.heap.size + 1 + 1 + 1, 13, none⟩) (by dsimp only; omega) _)
  clear hZ
  have h0 : Z.cell? ⟨w.heap.size + 1 + 1 + 1, 0, none⟩ = some (.int .i64 (g 0)) := EZ.c 0 (by decide)
  have h1 : Z.cell? ⟨w.heap.size + 1 + 1 + 1, 1, none⟩ = some (.int .i64 (g 1)) := EZ.c 1 (by decide)
  have h2 : Z.cell? ⟨w.heap.size + 1 + 1 + 1, 2, none⟩ = some (.int .i64 (g 2)) := EZ.c 2 (by decide)
  have h3 : Z.cell? ⟨w.heap.size + 1 + 1 + 1, 3, none⟩ = some (.int .i64 (g 3)) := EZ.c 3 (by decide)
  have h4 : Z.cell? ⟨w.heap.size + 1 + 1 + 1, 4, none⟩ = some (.int .i64 (g 4)) := EZ.c 4 (by decide)
  have h5 : Z.cell? ⟨w.heap.size + 1 + 1 + 1, 5, none⟩ = some (.int .i64 (g 5)) := EZ.c 5 (by decide)
  have h6 : Z.cell? ⟨w.heap.size + 1 + 1 + 1, 6, none⟩ = some (.int .i64 (g 6)) := EZ.c 6 (by decide)
  have h7 : Z.cell? ⟨w.heap.size + 1 + 1 + 1, 7, none⟩ = some (.int .i64 (g 7)) := EZ.c 7 (by decide)
  have h8 : Z.cell? ⟨w.heap.size + 1 + 1 + 1, 8, none⟩ = some (.int .i64 (g 8)) := EZ.c 8 (by decide)
  have h9 : Z.cell? ⟨w.heap.size + 1 + 1 + 1, 9, none⟩ = some (.int .i64 (g 9)) := EZ.c 9 (by decide)
  have h10 : Z.cell? ⟨w.heap.size + 1 + 1 + 1, 10, none⟩ = some (.int .i64 (g 10)) := EZ.c 10 (by decide)
  have h11 : Z.cell? ⟨w.heap.size + 1 + 1 + 1, 11, none⟩ = some (.int .i64 (g 11)) := EZ.c 11 (by decide)
  have h12 : Z.cell? ⟨w.heap.size + 1 + 1 + 1, 12, none⟩ = some (.int .i64 (g 12)) := EZ.c 12 (by decide)
  have h13 : Z.cell? ⟨w.heap.size + 1 + 1 + 1, 13, none⟩ = some (.int .i64 (g 13)) := EZ.c 13 (by decide)
  clear EZ
  exact bodyPost_ret (v := .agg #[.int .i64 (g 0), .int .i64 (g 1), .int .i64 (g 2), .int .i64 (g 3), .int .i64 (g 4), .int .i64 (g 5), .int .i64 (g 6), .int .i64 (g 7), .int .i64 (g 8), .int .i64 (g 9), .int .i64 (g 10), .int .i64 (g 11), .int .i64 (g 12), .int .i64 (g 13)]) (by simp [results, Try.results92, go_sem, h0, h1, h2, h3, h4, h5, h6, h7, h8, h9, h10, h11, h12, h13]) rfl ⟨rfl, bZ⟩

end Go.Proofs.Ytmojnopgpgnfeaa
