/-
  Walks over climb: the height of a gate above a sphere.
-/
import Derived.Test.YthnjfnapjpdchaaK
namespace Go.Proofs.Ythnjfnapjpdchaa
open Go.RowKit

/-- the numbers of a site are within their ranges -/
structure SiteOk (x y z rose gates step width : Int) : Prop where
  x1 : -1048576 ≤ x
  x2 : x ≤ 1048576
  y1 : -1048576 ≤ y
  y2 : y ≤ 1048576
  z1 : 0 ≤ z
  z2 : z ≤ 20000
  r1 : 1 ≤ rose
  r2 : rose ≤ 90
  g1 : 1 ≤ gates
  g2 : gates ≤ 200
  s1 : 50 ≤ step
  s2 : step ≤ 2000
  d1 : 0 ≤ width
  d2 : width ≤ 8

theorem siteB_true {x y z rose gates step width : Int} : siteB x y z rose gates step width = true ↔ SiteOk x y z rose gates step width := by
  unfold siteB
  simp only [Bool.and_eq_true, inB_true]
  constructor
  · rintro ⟨⟨⟨⟨⟨⟨⟨h1, h2⟩, h3, h4⟩, h5, h6⟩, h7, h8⟩, h9, h10⟩, h11, h12⟩, h13, h14⟩
    exact ⟨h1, h2, h3, h4, h5, h6, h7, h8, h9, h10, h11, h12, h13, h14⟩
  · intro h
    exact ⟨⟨⟨⟨⟨⟨⟨h.x1, h.x2⟩, h.y1, h.y2⟩, h.z1, h.z2⟩, h.r1, h.r2⟩, h.g1, h.g2⟩, h.s1, h.s2⟩, h.d1, h.d2⟩

theorem siteC_zero {nm : ByteArray} {x y z rose gates step width : Int} : siteC nm x y z rose gates step width = 0 ↔ nameB nm = true ∧ SiteOk x y z rose gates step width := by
  unfold siteC
  by_cases h1 : nameB nm = true
  · rw [if_pos h1]
    by_cases h2 : siteB x y z rose gates step width = true
    · rw [if_pos h2]; exact ⟨fun _ => ⟨h1, siteB_true.1 h2⟩, fun _ => rfl⟩
    · rw [if_neg h2]; exact ⟨(fun h => by cases h), fun h => absurd (siteB_true.2 h.2) h2⟩
  · rw [if_neg h1]; exact ⟨(fun h => by cases h), fun h => absurd h.1 h1⟩

def sinN (step t gate : Int) : Int := (2 * gate + 1) * step * (1024 * t)
def climbLo (z step t gate radius : Int) : Int := z + sinN step t gate / runD t + runLo step t gate * runLo step t gate / (2 * radius)
def climbHi (z step t gate radius : Int) : Int := z + -((-sinN step t gate) / runD t) + -((-(runHi step t gate * runHi step t gate)) / (2 * radius))

theorem sinN_bd {step t gate : Int} (h1 : -8 ≤ t) (h2 : t ≤ 264) (s1 : 50 ≤ step) (s2 : step ≤ 2000) (g1 : 0 ≤ gate) (g2 : gate ≤ 199) :
    -215728128000 ≤ sinN step t gate ∧ sinN step t gate ≤ 215728128000 := by
  have h3 := M.mul_bd (a := 2 * gate + 1) (b := step) (A := 399) (B := 2000) (by omega) (by omega) (by omega) s2
  have h4 := M.mul_abs (a := (2 * gate + 1) * step) (b := 1024 * t) (A := 798000) (B := 270336) (by omega) (by omega) (by omega) (by omega)
  unfold sinN; omega

theorem quo_bd {a b A : Int} (hb : 1 ≤ b) (h1 : -A ≤ a) (h2 : a ≤ A) : -A ≤ a / b ∧ a / b ≤ A := by
  have hA : 0 ≤ A := by omega
  have h3 : a / b < A + 1 := Int.ediv_lt_of_lt_mul (by omega) (by
    have := Int.mul_le_mul_of_nonneg_left hb (show 0 ≤ A + 1 by omega)
    omega)
  have h4 : -A ≤ a / b := Int.le_ediv_of_mul_le (by omega) (by
    have := Int.mul_le_mul_of_nonneg_left hb hA
    have e : -A * b = -(A * b) := Int.neg_mul _ _
    omega)
  omega

theorem down_q (a b : Int) (w : World) (hb : 1 ≤ b) (ha1 : -1000000000000000 ≤ a) (ha2 : a ≤ 1000000000000000) :
    Calls Try.prog 92 #[.int .i64 a, .int .i64 b] w fun e w' => e = .returned (.int .i64 (a / b)) ∧ w' = w :=
  (down_any a b w hb ha1 ha2).mono fun _ _ h => ⟨h.1, h.2.symm⟩
theorem up_q (a b : Int) (p : Addr) (w : World) (hp : w.cell? p = some (.func (Fn.func 92) #[] #[])) (hb : 1 ≤ b) (ha1 : -1000000000000000 ≤ a) (ha2 : a ≤ 1000000000000000) :
    Calls Try.prog 93 #[.int .i64 a, .int .i64 b, .pointer (some p)] w fun e w' => e = .returned (.int .i64 (-((-a) / b))) ∧ w' = w :=
  (up_any a b p w hp hb ha1 ha2).mono fun _ _ h => ⟨h.1, h.2.symm⟩

theorem keepX {B : Nat} {p : Addr} {W w1 : World} {v : Value} (hb : Below B W w1) (h : p.block < B) (hc : W.cell? p = some v) : w1.cell? p = some v := by
  rw [hb.cell h]; exact hc
theorem keepP {w : World} {p : Addr} {v : Value} (hp2 : p.block < w.heap.size) (hp : w.cell? p = some v) (o : Obj) : (w.alloc o).cell? p = some v :=
  keepX ((Below.refl w.heap.size w).alloc (Nat.le_refl _) o) hp2 hp
theorem keepP2 {w : World} {p : Addr} {v : Value} {n : Nat} (hp : w.cell? p = some v) : (w.drewN n).cell? p = some v := hp

set_option maxHeartbeats 800000 in
theorem climb_down (nm : ByteArray) (x y z rose gates step width t gate radius : Int) (w : World) (h1 : -8 ≤ t) (h2 : t ≤ 264) (s1 : 50 ≤ step) (s2 : step ≤ 2000) (z1 : 0 ≤ z) (z2 : z ≤ 20000) (g1 : 0 ≤ gate) (g2 : gate ≤ 199) (e1 : 1000000 ≤ radius) (e2 : radius ≤ 100000000) :
    Calls Try.prog 95 #[.agg #[.string nm, .int .i64 x, .int .i64 y, .int .i64 z, .int .i64 rose, .int .i64 gates, .int .i64 step, .int .i64 width], .int .i64 t, .int .i64 gate, .int .i64 radius, .func (Fn.func 92) #[] #[]] w
      fun e w' => e = .returned (.int .i64 (climbLo z step t gate radius)) ∧ Below w.heap.size w w' := by
  obtain ⟨b1, b2⟩ := runLo_bd h1 h2 s1 s2 g1 g2
  have b3 := M.mul_bd b1 b2 b1 b2
  have b4 := sinN_bd h1 h2 s1 s2 g1 g2
  have b5 := runD_bd h1 h2
  have b6 := M.mul_bd (a := 2 * gate + 1) (b := step) (A := 399) (B := 2000) (by omega) (by omega) (by omega) s2
  have b7 : 0 ≤ t * t := M.sq_nonneg t
  have b8 : t * t ≤ 69696 := (M.sq_bd (a := t) (A := 264) (by omega) h2).2
  have b9 := quo_bd (a :=  sinN step t gate) (b := runD t) (A := 215728128000) (by omega) (by omega) (by omega)
  have b10 := quo_bd (a :=  (runLo step t gate * runLo step t gate)) (b := 2 * radius) (A := 399000 * 399000) (by omega) (by omega) (by omega)
  have q1 : IntKind.i64.wrap (2 * gate) = 2 * gate := IntWalk.i64_in _ (by omega)
  have q2 : IntKind.i64.wrap (2 * gate + 1) = 2 * gate + 1 := IntWalk.i64_in _ (by omega)
  have q3 : IntKind.i64.wrap ((2 * gate + 1) * step) = (2 * gate + 1) * step := IntWalk.i64_in _ (by omega)
  have q4 : IntKind.i64.wrap ((2 * gate + 1) * step * (1024 * t)) = sinN step t gate := IntWalk.i64_in _ (by unfold sinN at b4; omega)
  have q5 : IntKind.i64.wrap (2 * (262144 + t * t)) = runD t := IntWalk.i64_in _ (by omega)
  have q6 : IntKind.i64.wrap (runLo step t gate * runLo step t gate) = runLo step t gate * runLo step t gate := IntWalk.i64_in _ (by omega)
  have q7 : IntKind.i64.wrap (2 * radius) = 2 * radius := IntWalk.i64_in _ (by omega)
  have q8 : IntKind.i64.wrap (z + sinN step t gate / runD t) = z + sinN step t gate / runD t := IntWalk.i64_in _ (by omega)
  have q9 : IntKind.i64.wrap (z + sinN step t gate / runD t + runLo step t gate * runLo step t gate / (2 * radius)) = climbLo z step t gate radius := IntWalk.i64_in _ (by omega)
  go_enter Try.func95, Try.ntmps95
  go_wp2_with fail
  refine (slant_any _ _ h1 h2).mono ?_; rintro e w1 ⟨rfl, rfl⟩
  go_wp2_with fail
  refine (run_down _ _ _ _ _ _ _ _ _ _ _ h1 h2 s1 s2 g1 g2).mono ?_; rintro e w1 ⟨rfl, hb⟩
  obtain ⟨hc, hf⟩ := bcell hb
  go_wp2_with fail
  go_quiet ((go_at_call 92; exact Calls.quiet_of_same (down_q _ _ _ (by omega) (by omega) (by omega))))
  go_wp2
  go_ret
  exact ⟨rfl, below_drewN (Below.trans ((Below.refl _ _).alloc (Nat.le_refl _) _) (hb.mono (by simp))) _⟩

set_option maxHeartbeats 800000 in
theorem climb_up (nm : ByteArray) (x y z rose gates step width t gate radius : Int) (p : Addr) (w : World) (hp : w.cell? p = some (.func (Fn.func 92) #[] #[])) (hp2 : p.block < w.heap.size) (h1 : -8 ≤ t) (h2 : t ≤ 264) (s1 : 50 ≤ step) (s2 : step ≤ 2000) (z1 : 0 ≤ z) (z2 : z ≤ 20000) (g1 : 0 ≤ gate) (g2 : gate ≤ 199) (e1 : 1000000 ≤ radius) (e2 : radius ≤ 100000000) :
    Calls Try.prog 95 #[.agg #[.string nm, .int .i64 x, .int .i64 y, .int .i64 z, .int .i64 rose, .int .i64 gates, .int .i64 step, .int .i64 width], .int .i64 t, .int .i64 gate, .int .i64 radius, .func (Fn.func 93) #[] #[.pointer (some p)]] w
      fun e w' => e = .returned (.int .i64 (climbHi z step t gate radius)) ∧ Below w.heap.size w w' := by
  obtain ⟨b1, b2⟩ := runHi_bd h1 h2 s1 s2 g1 g2
  have b3 := M.mul_bd b1 b2 b1 b2
  have b4 := sinN_bd h1 h2 s1 s2 g1 g2
  have b5 := runD_bd h1 h2
  have b6 := M.mul_bd (a := 2 * gate + 1) (b := step) (A := 399) (B := 2000) (by omega) (by omega) (by omega) s2
  have b7 : 0 ≤ t * t := M.sq_nonneg t
  have b8 : t * t ≤ 69696 := (M.sq_bd (a := t) (A := 264) (by omega) h2).2
  have b9 := quo_bd (a := - sinN step t gate) (b := runD t) (A := 215728128000) (by omega) (by omega) (by omega)
  have b10 := quo_bd (a := - (runHi step t gate * runHi step t gate)) (b := 2 * radius) (A := 399000 * 399000) (by omega) (by omega) (by omega)
  have q1 : IntKind.i64.wrap (2 * gate) = 2 * gate := IntWalk.i64_in _ (by omega)
  have q2 : IntKind.i64.wrap (2 * gate + 1) = 2 * gate + 1 := IntWalk.i64_in _ (by omega)
  have q3 : IntKind.i64.wrap ((2 * gate + 1) * step) = (2 * gate + 1) * step := IntWalk.i64_in _ (by omega)
  have q4 : IntKind.i64.wrap ((2 * gate + 1) * step * (1024 * t)) = sinN step t gate := IntWalk.i64_in _ (by unfold sinN at b4; omega)
  have q5 : IntKind.i64.wrap (2 * (262144 + t * t)) = runD t := IntWalk.i64_in _ (by omega)
  have q6 : IntKind.i64.wrap (runHi step t gate * runHi step t gate) = runHi step t gate * runHi step t gate := IntWalk.i64_in _ (by omega)
  have q7 : IntKind.i64.wrap (2 * radius) = 2 * radius := IntWalk.i64_in _ (by omega)
  have q8 : IntKind.i64.wrap (z + -((-sinN step t gate) / runD t)) = z + -((-sinN step t gate) / runD t) := IntWalk.i64_in _ (by omega)
  have q9 : IntKind.i64.wrap (z + -((-sinN step t gate) / runD t) + -((-(runHi step t gate * runHi step t gate)) / (2 * radius))) = climbHi z step t gate radius := IntWalk.i64_in _ (by omega)
  go_enter Try.func95, Try.ntmps95
  go_wp2_with fail
  refine (slant_any _ _ h1 h2).mono ?_; rintro e w1 ⟨rfl, rfl⟩
  go_wp2_with fail
  refine (run_up _ _ _ _ _ _ _ _ _ _ _ _ (keepP hp2 hp _) (by simp; omega) h1 h2 s1 s2 g1 g2).mono ?_; rintro e w1 ⟨rfl, hb⟩
  obtain ⟨hc, hf⟩ := bcell hb
  have HP2 := Lib.hid (keepX hb (by simp; omega) (keepP hp2 hp _))
  go_wp2_with fail
  go_quiet ((go_at_call 93; exact Calls.quiet_of_same (up_q _ _ _ _ (keepP2 HP2.out) (by omega) (by omega) (by omega))))
  go_wp2
  go_ret
  exact ⟨rfl, below_drewN (Below.trans ((Below.refl _ _).alloc (Nat.le_refl _) _) (hb.mono (by simp))) _⟩

end Go.Proofs.Ythnjfnapjpdchaa
