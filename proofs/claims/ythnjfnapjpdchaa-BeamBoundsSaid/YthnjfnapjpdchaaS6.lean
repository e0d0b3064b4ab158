/-
  The walk over BeamBounds.
-/
import Derived.Test.YthnjfnapjpdchaaS4
import Derived.Test.YthnjfnapjpdchaaS5
import Derived.Test.YthnjfnapjpdchaaM3
namespace Go.Proofs.Ythnjfnapjpdchaa
open Go.RowKit
set_option linter.unusedVariables false

/-- a function answers a span without an error, in whatever world -/
def Gives (f : Nat) (args : Array Value) (u v : Int) : Prop :=
  ∀ w : World, Calls Try.prog f args w fun q w' => q = .returned (.tuple #[.agg #[.int .i64 u, .int .i64 v], .int .i64 0]) ∧ Below w.heap.size w w'

theorem World.lt_of_pair {w : World} {b : Nat} {u v : Value} (s : PairAt w b u v) : b < w.heap.size := World.block_lt_of_cell? w _ s.c0
theorem PairAt.drewN {w : World} {b n : Nat} {u v : Value} (s : PairAt w b u v) : PairAt (w.drewN n) b u v := ⟨s.c0, s.c1⟩

theorem bounds_facts (nm : ByteArray) (x y z rose gates step width : Int) (t lo hi gate P Q c : Int) (hs : nm.size ≤ maxLen) (h0 : siteC nm x y z rose gates step width = 0) (hk : SiteOk x y z rose gates step width) (c0 : inB t 0 256 = true) (c1 : spanB lo hi 1000000 100000000 = true)
    (c2 : inB gate 0 (gates - 1) = true) (p1 : lo ≤ P) (p2 : P ≤ Q) (p3 : Q ≤ hi) :
    ∃ bl bh cl ch hl hh kl kh : Int, Gives 33 #[.agg #[.string nm, .int .i64 x, .int .i64 y, .int .i64 z, .int .i64 rose, .int .i64 gates, .int .i64 step, .int .i64 width], .int .i64 t, .agg #[.int .i64 lo, .int .i64 hi], .int .i64 gate] bl bh ∧ Gives 33 #[.agg #[.string nm, .int .i64 x, .int .i64 y, .int .i64 z, .int .i64 rose, .int .i64 gates, .int .i64 step, .int .i64 width], .int .i64 t, .agg #[.int .i64 P, .int .i64 Q], .int .i64 gate] cl ch ∧ Gives 31 #[.agg #[.string nm, .int .i64 x, .int .i64 y, .int .i64 z, .int .i64 rose, .int .i64 gates, .int .i64 step, .int .i64 width], .int .i64 (t - width + c % (2 * width + 1)), .agg #[.int .i64 lo, .int .i64 hi], .int .i64 gate] hl hh ∧ Gives 31 #[.agg #[.string nm, .int .i64 x, .int .i64 y, .int .i64 z, .int .i64 rose, .int .i64 gates, .int .i64 step, .int .i64 width], .int .i64 (t - width + c % (2 * width + 1)), .agg #[.int .i64 P, .int .i64 Q], .int .i64 gate] kl kh ∧
      cl ≤ ch ∧ bl ≤ cl ∧ ch ≤ bh ∧ kl ≤ kh ∧ hl ≤ kl ∧ kh ≤ hh ∧ hl ≤ bh ∧ bl ≤ hh := by
  obtain ⟨t1, t2⟩ := inB_true.1 c0
  obtain ⟨g1, g3⟩ := inB_gate c2
  obtain ⟨e1, e0, e4⟩ := spanB_true.1 c1
  have d1 := hk.d1
  have d2 := hk.d2
  have s1 := hk.s1
  have s2 := hk.s2
  have hg2 := hk.g2
  obtain ⟨m1, m2⟩ := cut_bd (a := c) (n := 2 * width + 1) (by omega)
  have c3 : spanB P Q 1000000 100000000 = true := spanB_true.2 ⟨by omega, by omega, by omega⟩
  have c4 : inB (t - width + c % (2 * width + 1)) (-8) 264 = true := inB_true.2 ⟨by omega, by omega⟩
  refine ⟨_, _, _, _, _, _, _, _, fun w => Band_ok nm x y z rose gates step width t lo hi gate w hs h0 hk c0 c1 c2, fun w => Band_ok nm x y z rose gates step width t P Q gate w hs h0 hk c0 c3 c2,
    fun w => Height_ok nm x y z rose gates step width (t - width + c % (2 * width + 1)) lo hi gate w hs h0 hk c4 c1 c2, fun w => Height_ok nm x y z rose gates step width (t - width + c % (2 * width + 1)) P Q gate w hs h0 hk c4 c3 c2, ?_, ?_, ?_, ?_, ?_, ?_, ?_, ?_⟩
  · exact M.rise (by omega) (by omega) (by omega) s1 s2 g1 (by omega) (by omega) (by omega)
  · exact M.lo_mono (by omega) (by omega)
  · exact M.hi_mono (by omega) (by omega)
  · exact M.rise (by omega) (by omega) (by omega) s1 s2 g1 (by omega) (by omega) (by omega)
  · exact M.lo_mono (by omega) (by omega)
  · exact M.hi_mono (by omega) (by omega)
  · exact M.rise (by omega) (by omega) (by omega) s1 s2 g1 (by omega) (by omega) (by omega)
  · exact M.rise (by omega) (by omega) (by omega) s1 s2 g1 (by omega) (by omega) (by omega)

set_option maxRecDepth 100000 in
set_option maxHeartbeats 800000 in
theorem BeamBounds_long (nm : ByteArray) (x y z rose gates step width : Int) (t lo hi gate a b c : Int) (w : World) (hs : nm.size ≤ maxLen) (hl : 40 < nm.size) :
    Calls Try.prog 11 #[.agg #[.string nm, .int .i64 x, .int .i64 y, .int .i64 z, .int .i64 rose, .int .i64 gates, .int .i64 step, .int .i64 width], .int .i64 t, .agg #[.int .i64 lo, .int .i64 hi], .int .i64 gate, .int .u32 a, .int .u32 b, .int .u8 c] w fun e w' => e = .returned (.bool true) ∧ Below w.heap.size w w' := by
  unfold maxLen at hs
  go_enter Try.func11, Try.ntmps11
  go_wp2_with fail
  refine (works_any _).mono ?_; rintro e w1 ⟨rfl, hb1⟩
  go_wp2
  go_ret
  exact ⟨rfl, Below.trans (((Below.refl _ _).alloc (Nat.le_refl _) _).alloc (by simp) _) (hb1.mono (by simp only [World.size_alloc]; omega))⟩

set_option maxRecDepth 100000 in
set_option maxHeartbeats 800000 in
theorem BeamBounds_err (nm : ByteArray) (x y z rose gates step width : Int) (t lo hi gate a b c : Int) (w : World) (hs : nm.size ≤ maxLen) (hl : nm.size ≤ 40) (u v ee : Int) (hc : ∀ w : World, Calls Try.prog 33 #[.agg #[.string nm, .int .i64 x, .int .i64 y, .int .i64 z, .int .i64 rose, .int .i64 gates, .int .i64 step, .int .i64 width], .int .i64 t, .agg #[.int .i64 lo, .int .i64 hi], .int .i64 gate] w fun q w' => q = .returned (.tuple #[.agg #[.int .i64 u, .int .i64 v], .int .i64 ee]) ∧ Below w.heap.size w w') (he : (ee != 0) = true) :
    Calls Try.prog 11 #[.agg #[.string nm, .int .i64 x, .int .i64 y, .int .i64 z, .int .i64 rose, .int .i64 gates, .int .i64 step, .int .i64 width], .int .i64 t, .agg #[.int .i64 lo, .int .i64 hi], .int .i64 gate, .int .u32 a, .int .u32 b, .int .u8 c] w fun e w' => e = .returned (.bool true) ∧ Below w.heap.size w w' := by
  have C1 := Lib.hid hc
  clear hc hs
  go_enter Try.func11, Try.ntmps11
  go_wp2_with fail
  refine (C1.out _).mono ?_; rintro e w1 ⟨rfl, hb1⟩
  have E1 := (Env.new w nm x y z rose gates step width lo hi 43).keep hb1 (by simp only [World.size_alloc]; omega)
  clear hb1
  obtain ⟨⟨k0, k1, k2, k3, k4, k5, k6, k7⟩, ⟨p0, p1⟩, hz, hbw⟩ := E1
  go_wp2_with fail
  refine (works_any _).mono ?_; rintro e w2 ⟨rfl, hb2⟩
  go_wp2
  go_ret
  exact ⟨rfl, Below.trans (Below.alloc hbw (by omega) _) (hb2.mono (by simp only [World.size_alloc]; omega))⟩

set_option maxRecDepth 100000 in
set_option maxHeartbeats 6400000 in
theorem BeamBounds_good (nm : ByteArray) (x y z rose gates step width : Int) (t lo hi gate a b c : Int) (w : World) (P Q : Int) (hP : (lo + a % (hi - lo + 1)) = P) (hQ : P + b % (hi - P + 1) = Q) (hs : nm.size ≤ maxLen) (hl : nm.size ≤ 40) (t1 : 0 ≤ t) (t2 : t ≤ 256) (d1 : 0 ≤ width) (d2 : width ≤ 8) (e1 : 0 ≤ lo) (e2 : lo ≤ hi) (e3 : hi ≤ 1000000000) (a1 : 0 ≤ a) (a2 : a ≤ 4294967295) (b1 : 0 ≤ b) (b2 : b ≤ 4294967295) (x1 : 0 ≤ c) (x2 : c ≤ 255)
    (bl bh cl ch hl' hh kl kh : Int) (g1 : Gives 33 #[.agg #[.string nm, .int .i64 x, .int .i64 y, .int .i64 z, .int .i64 rose, .int .i64 gates, .int .i64 step, .int .i64 width], .int .i64 t, .agg #[.int .i64 lo, .int .i64 hi], .int .i64 gate] bl bh) (g2 : Gives 33 #[.agg #[.string nm, .int .i64 x, .int .i64 y, .int .i64 z, .int .i64 rose, .int .i64 gates, .int .i64 step, .int .i64 width], .int .i64 t, .agg #[.int .i64 P, .int .i64 Q], .int .i64 gate] cl ch) (g3 : Gives 31 #[.agg #[.string nm, .int .i64 x, .int .i64 y, .int .i64 z, .int .i64 rose, .int .i64 gates, .int .i64 step, .int .i64 width], .int .i64 (t - width + c % (2 * width + 1)), .agg #[.int .i64 lo, .int .i64 hi], .int .i64 gate] hl' hh) (g4 : Gives 31 #[.agg #[.string nm, .int .i64 x, .int .i64 y, .int .i64 z, .int .i64 rose, .int .i64 gates, .int .i64 step, .int .i64 width], .int .i64 (t - width + c % (2 * width + 1)), .agg #[.int .i64 P, .int .i64 Q], .int .i64 gate] kl kh)
    (f1 : cl ≤ ch) (f2 : bl ≤ cl) (f3 : ch ≤ bh) (f4 : kl ≤ kh) (f5 : hl' ≤ kl) (f6 : kh ≤ hh) (f7 : hl' ≤ bh) (f8 : bl ≤ hh) :
    Calls Try.prog 11 #[.agg #[.string nm, .int .i64 x, .int .i64 y, .int .i64 z, .int .i64 rose, .int .i64 gates, .int .i64 step, .int .i64 width], .int .i64 t, .agg #[.int .i64 lo, .int .i64 hi], .int .i64 gate, .int .u32 a, .int .u32 b, .int .u8 c] w fun e w' => e = .returned (.bool true) ∧ Below w.heap.size w w' := by
  have HI : Hid (∀ w : World, Calls Try.prog 52 #[.agg #[.int .i64 lo, .int .i64 hi], .int .u32 a, .int .u32 b] w fun e w' => e = .returned (.agg #[.int .i64 P, .int .i64 Q]) ∧ Below w.heap.size w w') := Lib.hid fun w => by
    have h := inner_any lo hi a b w e1 e2 e3 a1 a2 b1 b2
    rw [hP, hQ] at h
    exact h
  have G1 := Lib.hid g1
  have G2 := Lib.hid g2
  have G3 := Lib.hid g3
  have G4 := Lib.hid g4
  obtain ⟨m1, m2⟩ := cut_bd (a := c) (n := 2 * width + 1) (by omega)
  have q1 : IntKind.i64.wrap (t - width) = t - width := IntWalk.i64_in _ (by omega)
  have q2 : IntKind.i64.wrap (2 * width) = 2 * width := IntWalk.i64_in _ (by omega)
  have q3 : IntKind.i64.wrap (2 * width + 1) = 2 * width + 1 := IntWalk.i64_in _ (by omega)
  have q4 : c.tmod (2 * width + 1) = c % (2 * width + 1) := Int.tmod_eq_emod_of_nonneg x1
  have q5 : IntKind.i64.wrap (c % (2 * width + 1)) = c % (2 * width + 1) := IntWalk.i64_in _ (by omega)
  have q6 : IntKind.i64.wrap (t - width + c % (2 * width + 1)) = (t - width + c % (2 * width + 1)) := IntWalk.i64_in _ (by omega)
  have q7 : (2 * width + 1 == 0) = false := by rw [beq_eq_false_iff_ne]; omega
  have q8 : IntKind.i64.wrap c = c := IntWalk.i64_in _ (by omega)
  clear g1 g2 g3 g4 hs hP hQ a1 a2 b1 b2
  go_enter Try.func11, Try.ntmps11
  go_wp2_with fail
  refine (G1.out _).mono ?_; rintro e w1 ⟨rfl, hb1⟩
  have E1 := (Env.new w nm x y z rose gates step width lo hi 43).keep hb1 (by simp only [World.size_alloc]; omega)
  clear hb1
  obtain ⟨⟨k0, k1, k2, k3, k4, k5, k6, k7⟩, ⟨p0, p1⟩, hz, hbw⟩ := E1
  have y0 : w.heap.size < w1.heap.size := by omega
  have y1 : w.heap.size + 1 < w1.heap.size := by omega
  go_wp2_with fail
  refine (HI.out _).mono ?_; rintro e w2 ⟨rfl, hb2⟩
  have hk2 : Below w1.heap.size w1 w2 := Below.trans (below_alloc w1 _) (hb2.mono (Below.size (below_alloc w1 _)))
  have L1 := (PairAt.new w1 (.int .i64 bl) (.int .i64 bh) 43).keep hb2 (by simp)
  have zz1 : w1.heap.size < w2.heap.size := World.lt_of_pair L1
  have E2 := (⟨⟨k0, k1, k2, k3, k4, k5, k6, k7⟩, ⟨p0, p1⟩, hz, hbw⟩ : Env w w1 nm x y z rose gates step width lo hi).keep hk2 (by omega)
  clear k0 k1 k2 k3 k4 k5 k6 k7 p0 p1 hz hbw y0 y1
  clear hb2 hk2
  obtain ⟨⟨k0, k1, k2, k3, k4, k5, k6, k7⟩, ⟨p0, p1⟩, hz, hbw⟩ := E2
  have y0 : w.heap.size < w2.heap.size := by omega
  have y1 : w.heap.size + 1 < w2.heap.size := by omega
  go_wp2_with fail
  refine (G2.out _).mono ?_; rintro e w3 ⟨rfl, hb3⟩
  have hk3 : Below w2.heap.size w2 w3 := Below.trans (below_alloc w2 _) (hb3.mono (Below.size (below_alloc w2 _)))
  have L2 := (PairAt.new w2 (.int .i64 P) (.int .i64 Q) 43).keep hb3 (by simp)
  have zz2 : w2.heap.size < w3.heap.size := World.lt_of_pair L2
  have L1 := L1.keep hk3 (by omega)
  have E3 := (⟨⟨k0, k1, k2, k3, k4, k5, k6, k7⟩, ⟨p0, p1⟩, hz, hbw⟩ : Env w w2 nm x y z rose gates step width lo hi).keep hk3 (by omega)
  clear k0 k1 k2 k3 k4 k5 k6 k7 p0 p1 hz hbw y0 y1
  clear hb3 hk3
  obtain ⟨⟨k0, k1, k2, k3, k4, k5, k6, k7⟩, ⟨p0, p1⟩, hz, hbw⟩ := E3
  have y0 : w.heap.size < w3.heap.size := by omega
  have y1 : w.heap.size + 1 < w3.heap.size := by omega
  go_wp2
  go_quiet (fail)
  go_wp2_with fail
  refine (G3.out _).mono ?_; rintro e w4 ⟨rfl, hb4⟩
  have hk4 : Below w3.heap.size w3 w4 := Below.trans (below_drewN (below_alloc w3 _) _) (hb4.mono (Below.size (below_drewN (below_alloc w3 _) _)))
  have L3 := (PairAt.new w3 (.int .i64 cl) (.int .i64 ch) 43).drewN.keep hb4 (by show w3.heap.size < (w3.alloc _).heap.size; simp)
  have zz3 : w3.heap.size < w4.heap.size := World.lt_of_pair L3
  have L1 := L1.keep hk4 (by omega)
  have L2 := L2.keep hk4 (by omega)
  have E4 := (⟨⟨k0, k1, k2, k3, k4, k5, k6, k7⟩, ⟨p0, p1⟩, hz, hbw⟩ : Env w w3 nm x y z rose gates step width lo hi).keep hk4 (by omega)
  clear k0 k1 k2 k3 k4 k5 k6 k7 p0 p1 hz hbw y0 y1
  clear hb4 hk4
  obtain ⟨⟨k0, k1, k2, k3, k4, k5, k6, k7⟩, ⟨p0, p1⟩, hz, hbw⟩ := E4
  have y0 : w.heap.size < w4.heap.size := by omega
  have y1 : w.heap.size + 1 < w4.heap.size := by omega
  clear q1 q2 q3 q4 q5 q6 q7 q8
  obtain ⟨l20, l21⟩ := L2
  have yy2 : w2.heap.size < w4.heap.size := by omega
  go_wp2_with fail
  refine (G4.out _).mono ?_; rintro e w5 ⟨rfl, hb5⟩
  have hk5 : Below w4.heap.size w4 w5 := Below.trans (below_alloc w4 _) (hb5.mono (Below.size (below_alloc w4 _)))
  have L4 := (PairAt.new w4 (.int .i64 hl') (.int .i64 hh) 43).keep hb5 (by simp)
  have zz4 : w4.heap.size < w5.heap.size := World.lt_of_pair L4
  have L1 := L1.keep hk5 (by omega)
  have L2 := PairAt.keep ⟨l20, l21⟩ hk5 (by omega)
  clear l20 l21 yy2
  have L3 := L3.keep hk5 (by omega)
  have E5 := (⟨⟨k0, k1, k2, k3, k4, k5, k6, k7⟩, ⟨p0, p1⟩, hz, hbw⟩ : Env w w4 nm x y z rose gates step width lo hi).keep hk5 (by omega)
  clear k0 k1 k2 k3 k4 k5 k6 k7 p0 p1 hz hbw y0 y1
  clear hb5 hk5
  obtain ⟨⟨k0, k1, k2, k3, k4, k5, k6, k7⟩, ⟨p0, p1⟩, hz, hbw⟩ := E5
  have y0 : w.heap.size < w5.heap.size := by omega
  have y1 : w.heap.size + 1 < w5.heap.size := by omega
  obtain ⟨l10, l11⟩ := L1
  have yy1 : w1.heap.size < w5.heap.size := by omega
  obtain ⟨l20, l21⟩ := L2
  have yy2 : w2.heap.size < w5.heap.size := by omega
  obtain ⟨l30, l31⟩ := L3
  have yy3 : w3.heap.size < w5.heap.size := by omega
  obtain ⟨l40, l41⟩ := L4
  have yy4 : w4.heap.size < w5.heap.size := by omega
  go_wp2_with fail
  refine (lies_yes _ _ _ _ _ f1 f2 f3).mono ?_; rintro e w6 ⟨rfl, hb6⟩
  have hk6 : Below w5.heap.size w5 w6 := Below.trans (below_alloc w5 _) (hb6.mono (Below.size (below_alloc w5 _)))
  have L5 := (PairAt.new w5 (.int .i64 kl) (.int .i64 kh) 43).keep hb6 (by simp)
  have zz5 : w5.heap.size < w6.heap.size := World.lt_of_pair L5
  have L1 := PairAt.keep ⟨l10, l11⟩ hk6 (by omega)
  clear l10 l11
  have L2 := PairAt.keep ⟨l20, l21⟩ hk6 (by omega)
  clear l20 l21
  have L3 := PairAt.keep ⟨l30, l31⟩ hk6 (by omega)
  clear l30 l31
  have L4 := PairAt.keep ⟨l40, l41⟩ hk6 (by omega)
  clear l40 l41
  have E6 := (⟨⟨k0, k1, k2, k3, k4, k5, k6, k7⟩, ⟨p0, p1⟩, hz, hbw⟩ : Env w w5 nm x y z rose gates step width lo hi).keep hk6 (by omega)
  clear k0 k1 k2 k3 k4 k5 k6 k7 p0 p1 hz hbw y0 y1
  clear hb6 hk6
  obtain ⟨⟨k0, k1, k2, k3, k4, k5, k6, k7⟩, ⟨p0, p1⟩, hz, hbw⟩ := E6
  have y0 : w.heap.size < w6.heap.size := by omega
  have y1 : w.heap.size + 1 < w6.heap.size := by omega
  obtain ⟨l10, l11⟩ := L1
  obtain ⟨l20, l21⟩ := L2
  obtain ⟨l30, l31⟩ := L3
  obtain ⟨l40, l41⟩ := L4
  obtain ⟨l50, l51⟩ := L5
  go_wp2_with fail
  refine (lies_yes _ _ _ _ _ f4 f5 f6).mono ?_; rintro e w7 ⟨rfl, hb7⟩
  have hk7 := hb7
  have zz6 : w6.heap.size ≤ w7.heap.size := hb7.size
  have L1 := PairAt.keep ⟨l10, l11⟩ hk7 (by omega)
  clear l10 l11
  have L2 := PairAt.keep ⟨l20, l21⟩ hk7 (by omega)
  clear l20 l21
  have L3 := PairAt.keep ⟨l30, l31⟩ hk7 (by omega)
  clear l30 l31
  have L4 := PairAt.keep ⟨l40, l41⟩ hk7 (by omega)
  clear l40 l41
  have L5 := PairAt.keep ⟨l50, l51⟩ hk7 (by omega)
  clear l50 l51
  have E7 := (⟨⟨k0, k1, k2, k3, k4, k5, k6, k7⟩, ⟨p0, p1⟩, hz, hbw⟩ : Env w w6 nm x y z rose gates step width lo hi).keep hk7 (by omega)
  clear k0 k1 k2 k3 k4 k5 k6 k7 p0 p1 hz hbw y0 y1
  clear hb7 hk7
  obtain ⟨⟨k0, k1, k2, k3, k4, k5, k6, k7⟩, ⟨p0, p1⟩, hz, hbw⟩ := E7
  have y0 : w.heap.size < w7.heap.size := by omega
  have y1 : w.heap.size + 1 < w7.heap.size := by omega
  obtain ⟨l10, l11⟩ := L1
  obtain ⟨l20, l21⟩ := L2
  obtain ⟨l30, l31⟩ := L3
  obtain ⟨l40, l41⟩ := L4
  obtain ⟨l50, l51⟩ := L5
  go_wp2_with fail
  refine (works_any _).mono ?_; rintro e w8 ⟨rfl, hb8⟩
  have hk8 := hb8
  have zz7 : w7.heap.size ≤ w8.heap.size := hb8.size
  have L1 := PairAt.keep ⟨l10, l11⟩ hk8 (by omega)
  clear l10 l11
  have L2 := PairAt.keep ⟨l20, l21⟩ hk8 (by omega)
  clear l20 l21
  have L3 := PairAt.keep ⟨l30, l31⟩ hk8 (by omega)
  clear l30 l31
  have L4 := PairAt.keep ⟨l40, l41⟩ hk8 (by omega)
  clear l40 l41
  have L5 := PairAt.keep ⟨l50, l51⟩ hk8 (by omega)
  clear l50 l51
  have E8 := (⟨⟨k0, k1, k2, k3, k4, k5, k6, k7⟩, ⟨p0, p1⟩, hz, hbw⟩ : Env w w7 nm x y z rose gates step width lo hi).keep hk8 (by omega)
  clear k0 k1 k2 k3 k4 k5 k6 k7 p0 p1 hz hbw y0 y1
  clear hb8 hk8
  obtain ⟨⟨k0, k1, k2, k3, k4, k5, k6, k7⟩, ⟨p0, p1⟩, hz, hbw⟩ := E8
  have y0 : w.heap.size < w8.heap.size := by omega
  have y1 : w.heap.size + 1 < w8.heap.size := by omega
  obtain ⟨l10, l11⟩ := L1
  obtain ⟨l20, l21⟩ := L2
  obtain ⟨l30, l31⟩ := L3
  obtain ⟨l40, l41⟩ := L4
  obtain ⟨l50, l51⟩ := L5
  go_wp2
  go_ret
  exact ⟨rfl, hbw⟩

end Go.Proofs.Ythnjfnapjpdchaa
