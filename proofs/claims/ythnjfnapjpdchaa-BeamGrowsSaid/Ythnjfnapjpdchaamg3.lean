/-
  Walks over climb: the height of a gate above a sphere.
-/
import Derived.Test.Ythnjfnapjpdchaamg2
import Derived.Test.Ythnjfnapjpdchaamg1
namespace Go.Proofs.Ythnjfnapjpdchaa
open Go.RowKit

/-- the numbers of a site are within their ranges -/
structure SiteOk (x y z rose gates step width : Int) : Prop where
  x1 : -1048576 ≤ x
  x2 : x ≤ 1048576
  y1 : -1048576 ≤ y
  y2 : y ≤ 1048576
  z1 : 0 ≤ z
  z2 : z ≤ 20000
  r1 : 1 ≤ rose
  r2 : rose ≤ 90
  g1 : 1 ≤ gates
  g2 : gates ≤ 200
  s1 : 50 ≤ step
  s2 : step ≤ 2000
  d1 : 0 ≤ width
  d2 : width ≤ 8

theorem siteB_true {x y z rose gates step width : Int} : siteB x y z rose gates step width = true ↔ SiteOk x y z rose gates step width := by
  unfold siteB
  simp only [Bool.and_eq_true, inB_true]
  constructor
  · rintro ⟨⟨⟨⟨⟨⟨⟨h1, h2⟩, h3, h4⟩, h5, h6⟩, h7, h8⟩, h9, h10⟩, h11, h12⟩, h13, h14⟩
    exact ⟨h1, h2, h3, h4, h5, h6, h7, h8, h9, h10, h11, h12, h13, h14⟩
  · intro h
    exact ⟨⟨⟨⟨⟨⟨⟨h.x1, h.x2⟩, h.y1, h.y2⟩, h.z1, h.z2⟩, h.r1, h.r2⟩, h.g1, h.g2⟩, h.s1, h.s2⟩, h.d1, h.d2⟩

theorem siteC_zero {nm : ByteArray} {x y z rose gates step width : Int} : siteC nm x y z rose gates step width = 0 ↔ nameB nm = true ∧ SiteOk x y z rose gates step width := by
  unfold siteC
  by_cases h1 : nameB nm = true
  · rw [if_pos h1]
    by_cases h2 : siteB x y z rose gates step width = true
    · rw [if_pos h2]; exact ⟨fun _ => ⟨h1, siteB_true.1 h2⟩, fun _ => rfl⟩
    · rw [if_neg h2]; exact ⟨(fun h => by cases h), fun h => absurd (siteB_true.2 h.2) h2⟩
  · rw [if_neg h1]; exact ⟨(fun h => by cases h), fun h => absurd h.1 h1⟩

def sinN (step t gate : Int) : Int := (2 * gate + 1) * step * (1024 * t)
def climbLo (z step t gate radius : Int) : Int := z + sinN step t gate / runD t + runLo step t gate * runLo step t gate / (2 * radius)
def climbHi (z step t gate radius : Int) : Int := z + -((-sinN step t gate) / runD t) + -((-(runHi step t gate * runHi step t gate)) / (2 * radius))

theorem sinN_bd {step t gate : Int} (h1 : -8 ≤ t) (h2 : t ≤ 264) (s1 : 50 ≤ step) (s2 : step ≤ 2000) (g1 : 0 ≤ gate) (g2 : gate ≤ 199) :
    -215728128000 ≤ sinN step t gate ∧ sinN step t gate ≤ 215728128000 := by
  have h3 := M.mul_bd (a := 2 * gate + 1) (b := step) (A := 399) (B := 2000) (by omega) (by omega) (by omega) s2
  have h4 := M.mul_abs (a := (2 * gate + 1) * step) (b := 1024 * t) (A := 798000) (B := 270336) (by omega) (by omega) (by omega) (by omega)
  unfold sinN; omega

theorem quo_bd {a b A : Int} (hb : 1 ≤ b) (h1 : -A ≤ a) (h2 : a ≤ A) : -A ≤ a / b ∧ a / b ≤ A := by
  have hA : 0 ≤ A := by omega
  have h3 : a / b < A + 1 := Int.ediv_lt_of_lt_mul (by omega) (by
    have := Int.mul_le_mul_of_nonneg_left hb (show 0 ≤ A + 1 by omega)
    omega)
  have h4 : -A ≤ a / b := Int.le_ediv_of_mul_le (by omega) (by
    have := Int.mul_le_mul_of_nonneg_left hb hA
    have e : -A * b = -(A * b) := Int.neg_mul _ _
    omega)
  omega

theorem down_q (a b : Int) (w : World) (hb : 1 ≤ b) (ha1 : -1000000000000000 ≤ a) (ha2 : a ≤ 1000000000000000) :
    Calls Try.prog 92 #[.int .i64 a, .int .i64 b] w fun e w' => e = .returned (.int .i64 (a / b)) ∧ w' = w :=
  (down_any a b w hb ha1 ha2).mono fun _ _ h => ⟨h.1, h.2.symm⟩
theorem up_q (a b : Int) (p : Addr) (w : World) (hp : w.cell? p = some (.func (Fn.func 92) #[] #[])) (hb : 1 ≤ b) (ha1 : -1000000000000000 ≤ a) (ha2 : a ≤ 1000000000000000) :
    Calls Try.prog 93 #[.int .i64 a, .int .i64 b, .pointer (some p)] w fun e w' => e = .returned (.int .i64 (-((-a) / b))) ∧ w' = w :=
  (up_any a b p w hp hb ha1 ha2).mono fun _ _ h => ⟨h.1, h.2.symm⟩

theorem keepX {B : Nat} {p : Addr} {W w1 : World} {v : Value} (hb : Below B W w1) (h : p.block < B) (hc : W.cell? p = some v) : w1.cell? p = some v := by
  rw [hb.cell h]; exact hc
theorem keepP {w : World} {p : Addr} {v : Value} (hp2 : p.block < w.heap.size) (hp : w.cell? p = some v) (o : Obj) : (w.alloc o).cell? p = some v :=
  keepX ((Below.refl w.heap.size w).alloc (Nat.le_refl _) o) hp2 hp
theorem keepP2 {w : World} {p : Addr} {v : Value} {n : Nat} (hp : w.cell? p = some v) : (w.drewN n).cell? p = some v := hp

set_option maxHeartbeats 800000 in
theorem climb_down (nm : ByteArray) (x y z rose gates step width t gate radius : Int) (w : World) (h1 : -8 ≤ t) (h2 : t ≤ 264) (s1 : 50 ≤ step) (s2 : step ≤ 2000) (z1 : 0 ≤ z) (z2 : z ≤ 20000) (g1 : 0 ≤ gate) (g2 : gate ≤ 199) (e1 : 1000000 ≤ radius) (e2 : radius ≤ 100000000) :
    Calls Try.prog 95 #[.agg #[.string nm, .int .i64 x, .int .i64 y, .int .i64 z, .int .i64 rose, .int .i64 gates, .int .i64 step, .int .i64 width], .int .i64 t, .int .i64 gate, .int .i64 radius, .func (Fn.func 92) #[] #[]] w
      fun e w' => e = .returned (.int .i64 (climbLo z step t gate radius)) ∧ Below w.heap.size w w' := by
  obtain ⟨b1, b2⟩ := runLo_bd h1 h2 s1 s2 g1 g2
  have b3 := M.mul_bd b1 b2 b1 b2
  have b4 := sinN_bd h1 h2 s1 s2 g1 g2
  have b5 := runD_bd h1 h2
  have b6 := M.mul_bd (a := 2 * gate + 1) (b := step) (A := 399) (B := 2000) (by omega) (by omega) (by omega) s2
  have b7 : 0 ≤ t * t := M.sq_nonneg t
  have b8 : t * t ≤ 69696 := (M.sq_bd (a := t) (A := 264) (by omega) h2).2
  have b9 := quo_bd (a :=  sinN step t gate) (b := runD t) (A := 215728128000) (by omega) (by omega) (by omega)
  have b10 := quo_bd (a :=  (runLo step t gate * runLo step t gate)) (b := 2 * radius) (A := 399000 * 399000) (by omega) (by omega) (by omega)
  have q1 : IntKind.i64.wrap (2 * gate) = 2 * gate := IntWalk.i64_in _ (by omega)
  have q2 : IntKind.i64.wrap (2 * gate + 1) = 2 * gate + 1 := IntWalk.i64_in _ (by omega)
  have q3 : IntKind.i64.wrap ((2 * gate + 1) * step) = (2 * gate + 1) * step := IntWalk.i64_in _ (by omega)
  have q4 : IntKind.i64.wrap ((2 * gate + 1) * step * (1024 * t)) = sinN step t gate := IntWalk.i64_in _ (by unfold sinN at b4; omega)
  have q5 : IntKind.i64.wrap (2 * (262144 + t * t)) = runD t := IntWalk.i64_in _ (by omega)
  have q6 : IntKind.i64.wrap (runLo step t gate * runLo step t gate) = runLo step t gate * runLo step t gate := IntWalk.i64_in _ (by omega)
  have q7 : IntKind.i64.wrap (2 * radius) = 2 * radius := IntWalk.i64_in _ (by omega)
  have q8 : IntKind.i64.wrap (z + sinN step t gate / runD t) = z + sinN step t gate / runD t := IntWalk.i64_in _ (by omega)
  have q9 : IntKind.i64.wrap (z + sinN step t gate / runD t + runLo step t gate * runLo step t gate / (2 * radius)) = climbLo z step t gate radius := IntWalk.i64_in _ (by omega)
  go_enter Try.func95, Try.ntmps95
  go_wp2_with fail
  refine (slant_any _ _ h1 h2).mono ?_; rintro e w1 ⟨rfl, rfl⟩
  go_wp2_with fail
  refine (run_down _ _ _ _ _ _ _ _ _ _ _ h1 h2 s1 s2 g1 g2).mono ?_; rintro e w1 ⟨rfl, hb⟩
  obtain ⟨hc, hf⟩ := bcell hb
  go_wp2_with fail
  go_quiet ((go_at_call 92; exact Calls.quiet_of_same (down_q _ _ _ (by omega) (by omega) (by omega))))
  go_wp2
  go_ret
  exact ⟨rfl, below_drewN (Below.trans ((Below.refl _ _).alloc (Nat.le_refl _) _) (hb.mono (by simp))) _⟩

set_option maxHeartbeats 800000 in
theorem climb_up (nm : ByteArray) (x y z rose gates step width t gate radius : Int) (p : Addr) (w : World) (hp : w.cell? p = some (.func (Fn.func 92) #[] #[])) (hp2 : p.block < w.heap.size) (h1 : -8 ≤ t) (h2 : t ≤ 264) (s1 : 50 ≤ step) (s2 : step ≤ 2000) (z1 : 0 ≤ z) (z2 : z ≤ 20000) (g1 : 0 ≤ gate) (g2 : gate ≤ 199) (e1 : 1000000 ≤ radius) (e2 : radius ≤ 100000000) :
    Calls Try.prog 95 #[.agg #[.string nm, .int .i64 x, .int .i64 y, .int .i64 z, .int .i64 rose, .int .i64 gates, .int .i64 step, .int .i64 width], .int .i64 t, .int .i64 gate, .int .i64 radius, .func (Fn.func 93) #[] #[.pointer (some p)]] w
      fun e w' => e = .returned (.int .i64 (climbHi z step t gate radius)) ∧ Below w.heap.size w w' := by
  obtain ⟨b1, b2⟩ := runHi_bd h1 h2 s1 s2 g1 g2
  have b3 := M.mul_bd b1 b2 b1 b2
  have b4 := sinN_bd h1 h2 s1 s2 g1 g2
  have b5 := runD_bd h1 h2
  have b6 := M.mul_bd (a := 2 * gate + 1) (b := step) (A := 399) (B := 2000) (by omega) (by omega) (by omega) s2
  have b7 : 0 ≤ t * t := M.sq_nonneg t
  have b8 : t * t ≤ 69696 := (M.sq_bd (a := t) (A := 264) (by omega) h2).2
  have b9 := quo_bd (a := - sinN step t gate) (b := runD t) (A := 215728128000) (by omega) (by omega) (by omega)
  have b10 := quo_bd (a := - (runHi step t gate * runHi step t gate)) (b := 2 * radius) (A := 399000 * 399000) (by omega) (by omega) (by omega)
  have q1 : IntKind.i64.wrap (2 * gate) = 2 * gate := IntWalk.i64_in _ (by omega)
  have q2 : IntKind.i64.wrap (2 * gate + 1) = 2 * gate + 1 := IntWalk.i64_in _ (by omega)
  have q3 : IntKind.i64.wrap ((2 * gate + 1) * step) = (2 * gate + 1) * step := IntWalk.i64_in _ (by omega)
  have q4 : IntKind.i64.wrap ((2 * gate + 1) * step * (1024 * t)) = sinN step t gate := IntWalk.i64_in _ (by unfold sinN at b4; omega)
  have q5 : IntKind.i64.wrap (2 * (262144 + t * t)) = runD t := IntWalk.i64_in _ (by omega)
  have q6 : IntKind.i64.wrap (runHi step t gate * runHi step t gate) = runHi step t gate * runHi step t gate := IntWalk.i64_in _ (by omega)
  have q7 : IntKind.i64.wrap (2 * radius) = 2 * radius := IntWalk.i64_in _ (by omega)
  have q8 : IntKind.i64.wrap (z + -((-sinN step t gate) / runD t)) = z + -((-sinN step t gate) / runD t) := IntWalk.i64_in _ (by omega)
  have q9 : IntKind.i64.wrap (z + -((-sinN step t gate) / runD t) + -((-(runHi step t gate * runHi step t gate)) / (2 * radius))) = climbHi z step t gate radius := IntWalk.i64_in _ (by omega)
  go_enter Try.func95, Try.ntmps95
  go_wp2_with fail
  refine (slant_any _ _ h1 h2).mono ?_; rintro e w1 ⟨rfl, rfl⟩
  go_wp2_with fail
  refine (run_up _ _ _ _ _ _ _ _ _ _ _ _ (keepP hp2 hp _) (by simp; omega) h1 h2 s1 s2 g1 g2).mono ?_; rintro e w1 ⟨rfl, hb⟩
  obtain ⟨hc, hf⟩ := bcell hb
  have HP2 := Lib.hid (keepX hb (by simp; omega) (keepP hp2 hp _))
  go_wp2_with fail
  go_quiet ((go_at_call 93; exact Calls.quiet_of_same (up_q _ _ _ _ (keepP2 HP2.out) (by omega) (by omega) (by omega))))
  go_wp2
  go_ret
  exact ⟨rfl, below_drewN (Below.trans ((Below.refl _ _).alloc (Nat.le_refl _) _) (hb.mono (by simp))) _⟩

end Go.Proofs.Ythnjfnapjpdchaa

namespace Go.Proofs.Ythnjfnapjpdchaa
open Go.RowKit

set_option maxHeartbeats 400000 in
theorem Slant_ok (t : Int) (w : World) (h1 : -8 ≤ t) (h2 : t ≤ 264) :
    Calls Try.prog 27 #[.int .i64 t] w fun e w' => e = .returned (.tuple #[.int .i64 (262144 - t * t), .int .i64 (1024 * t), .int .i64 (262144 + t * t), .int .i64 0]) ∧ w = w' := by
  have hi : inB t (-8) 264 = true := inB_true.2 ⟨h1, h2⟩
  go_enter Try.func27, Try.ntmps27
  go_wp2_with (first | (go_at_call 64; refine (isSlanted_any _ _).mono ?_; rintro e w' ⟨rfl, rfl⟩) | (go_at_call 65; refine (slant_any _ _ h1 h2).mono ?_; rintro e w' ⟨rfl, rfl⟩))
  exact bodyPost_ret (v := .tuple #[.int .i64 (262144 - t * t), .int .i64 (1024 * t), .int .i64 (262144 + t * t), .int .i64 0]) (by simp [results, Try.results27, go_sem]) rfl ⟨rfl, rfl⟩

set_option maxHeartbeats 400000 in
theorem Slant_no (t : Int) (w : World) (h : inB t (-8) 264 = false) :
    Calls Try.prog 27 #[.int .i64 t] w fun e w' => e = .returned (.tuple #[.int .i64 0, .int .i64 0, .int .i64 0, .int .i64 3]) ∧ w = w' := by
  go_enter Try.func27, Try.ntmps27
  go_wp2_with (go_at_call 64; refine (isSlanted_any _ _).mono ?_; rintro e w' ⟨rfl, rfl⟩)
  exact bodyPost_ret (v := .tuple #[.int .i64 0, .int .i64 0, .int .i64 0, .int .i64 3]) (by simp [results, Try.results27, go_sem]) rfl ⟨rfl, rfl⟩

set_option maxHeartbeats 400000 in
theorem refSlant_ok (t : Int) (w : World) (h1 : -8 ≤ t) (h2 : t ≤ 264) :
    Calls Try.prog 28 #[.int .i64 t] w fun e w' => e = .returned (.tuple #[.int .i64 (262144 - t * t), .int .i64 (1024 * t), .int .i64 (262144 + t * t), .int .i64 0]) ∧ w = w' := by
  have hi : inB t (-8) 264 = true := inB_true.2 ⟨h1, h2⟩
  have hb : 0 ≤ t * t := M.sq_nonneg t
  have hb2 : t * t ≤ 69696 := (M.sq_bd (a := t) (A := 264) (by omega) h2).2
  go_enter Try.func28, Try.ntmps28
  go_wp2_with (go_at_call 60; refine (refIn_any _ _ _ _).mono ?_; rintro e w' ⟨rfl, rfl⟩)
  exact bodyPost_ret (v := .tuple #[.int .i64 (262144 - t * t), .int .i64 (1024 * t), .int .i64 (262144 + t * t), .int .i64 0]) (by simp [results, Try.results28, go_sem]) rfl ⟨rfl, rfl⟩

set_option maxHeartbeats 400000 in
theorem refSlant_no (t : Int) (w : World) (h : inB t (-8) 264 = false) :
    Calls Try.prog 28 #[.int .i64 t] w fun e w' => e = .returned (.tuple #[.int .i64 0, .int .i64 0, .int .i64 0, .int .i64 3]) ∧ w = w' := by
  go_enter Try.func28, Try.ntmps28
  go_wp2_with (go_at_call 60; refine (refIn_any _ _ _ _).mono ?_; rintro e w' ⟨rfl, rfl⟩)
  exact bodyPost_ret (v := .tuple #[.int .i64 0, .int .i64 0, .int .i64 0, .int .i64 3]) (by simp [results, Try.results28, go_sem]) rfl ⟨rfl, rfl⟩

end Go.Proofs.Ythnjfnapjpdchaa

namespace Go.Proofs.Ythnjfnapjpdchaa
open Go.RowKit

theorem alloc_new {w : World} {b i : Nat} {cs : Array Value} {T : TypeId} {v : Value} (hb : b = w.heap.size) (hi : cs[i]? = some v) : (w.alloc (.cells cs T)).cell? ⟨b, i, none⟩ = some v := by
  rw [World.cell?_alloc_at _ _ _ _ hb]; exact hi
theorem alloc_keep {w : World} {b i : Nat} {o : Obj} {v : Value} (hb : b < w.heap.size) (hc : w.cell? ⟨b, i, none⟩ = some v) : (w.alloc o).cell? ⟨b, i, none⟩ = some v :=
  keepB ((Below.refl w.heap.size w).alloc (Nat.le_refl _) o) hb hc
theorem alloc_newF {w : World} {b i : Nat} {cs : Array Value} {T : TypeId} (hb : b = w.heap.size) : (w.alloc (.cells cs T)).frozen? ⟨b, i, none⟩ = false := by
  rw [World.frozen?_alloc_at _ _ _ _ hb]
theorem alloc_keepF {w : World} {b i : Nat} {o : Obj} {v : Bool} (hb : b < w.heap.size) (hc : w.frozen? ⟨b, i, none⟩ = v) : (w.alloc o).frozen? ⟨b, i, none⟩ = v :=
  keepF ((Below.refl w.heap.size w).alloc (Nat.le_refl _) o) hb hc
theorem drew_cell {w : World} {a : Addr} {v : Value} (h : w.cell? a = some v) : w.drew.cell? a = some v := h
theorem drew_frozen {w : World} {a : Addr} {v : Bool} (h : w.frozen? a = v) : w.drew.frozen? a = v := h

/-- is a span valid, and within two numbers? -/
def spanB (lo hi a b : Int) : Bool := decide (a ≤ lo ∧ lo ≤ hi ∧ hi ≤ b)
theorem spanB_true {lo hi a b : Int} : spanB lo hi a b = true ↔ a ≤ lo ∧ lo ≤ hi ∧ hi ≤ b := by unfold spanB; simp
theorem spanB_false {lo hi a b : Int} : spanB lo hi a b = false ↔ ¬ (a ≤ lo ∧ lo ≤ hi ∧ hi ≤ b) := by unfold spanB; rw [decide_eq_false_iff_not]

set_option maxHeartbeats 1600000 in
theorem isWithin_any (lo hi a b : Int) (w : World) :
    Calls Try.prog 90 #[.agg #[.int .i64 lo, .int .i64 hi], .agg #[.int .i64 a, .int .i64 b]] w fun e w' => e = .returned (.bool (spanB lo hi a b)) ∧ Below w.heap.size w w' := by
  by_cases hp : a ≤ lo
  · by_cases hq : lo ≤ hi
    · by_cases hr : hi ≤ b
      · have h : spanB lo hi a b = true := spanB_true.2 ⟨hp, hq, hr⟩
        rw [h]; clear h
        go_enter Try.func90, Try.ntmps90
        go_wp2
        go_ret
        exact ⟨rfl, by repeat (first | exact Below.refl _ _ | (refine Below.alloc ?_ (by simp) _))⟩
      · have h : spanB lo hi a b = false := spanB_false.2 (by omega)
        rw [h]; clear h
        go_enter Try.func90, Try.ntmps90
        go_wp2
        go_ret
        exact ⟨rfl, by repeat (first | exact Below.refl _ _ | (refine Below.alloc ?_ (by simp) _))⟩
    · have h : spanB lo hi a b = false := spanB_false.2 (by omega)
      rw [h]; clear h
      go_enter Try.func90, Try.ntmps90
      go_wp2
      go_ret
      exact ⟨rfl, by repeat (first | exact Below.refl _ _ | (refine Below.alloc ?_ (by simp) _))⟩
  · have h : spanB lo hi a b = false := spanB_false.2 (by omega)
    rw [h]; clear h
    go_enter Try.func90, Try.ntmps90
    go_wp2
    go_ret
    exact ⟨rfl, by repeat (first | exact Below.refl _ _ | (refine Below.alloc ?_ (by simp) _))⟩

set_option maxHeartbeats 1600000 in
theorem Valid_any (lo hi a b : Int) (w : World) :
    Calls Try.prog 91 #[.agg #[.int .i64 lo, .int .i64 hi], .int .i64 a, .int .i64 b] w fun e w' => e = .returned (.bool (spanB lo hi a b)) ∧ Below w.heap.size w w' := by
  by_cases hq : lo ≤ hi
  · by_cases hp : a ≤ lo
    · by_cases hr : hi ≤ b
      · have h : spanB lo hi a b = true := spanB_true.2 ⟨hp, hq, hr⟩
        rw [h]; clear h
        go_enter Try.func91, Try.ntmps91
        go_wp2
        go_ret
        exact ⟨rfl, by repeat (first | exact Below.refl _ _ | (refine Below.alloc ?_ (by simp) _))⟩
      · have h : spanB lo hi a b = false := spanB_false.2 (by omega)
        rw [h]; clear h
        go_enter Try.func91, Try.ntmps91
        go_wp2
        go_ret
        exact ⟨rfl, by repeat (first | exact Below.refl _ _ | (refine Below.alloc ?_ (by simp) _))⟩
    · have h : spanB lo hi a b = false := spanB_false.2 (by omega)
      rw [h]; clear h
      go_enter Try.func91, Try.ntmps91
      go_wp2
      go_ret
      exact ⟨rfl, by repeat (first | exact Below.refl _ _ | (refine Below.alloc ?_ (by simp) _))⟩
  · have h : spanB lo hi a b = false := spanB_false.2 (by omega)
    rw [h]; clear h
    go_enter Try.func91, Try.ntmps91
    go_wp2
    go_ret
    exact ⟨rfl, by repeat (first | exact Below.refl _ _ | (refine Below.alloc ?_ (by simp) _))⟩

set_option maxHeartbeats 400000 in
theorem isEarth_any (lo hi : Int) (w : World) :
    Calls Try.prog 71 #[.agg #[.int .i64 lo, .int .i64 hi]] w fun e w' => e = .returned (.bool (spanB lo hi 1000000 100000000)) ∧ Below w.heap.size w w' := by
  go_enter Try.func71, Try.ntmps71
  go_wp2_with (go_at_call 90; refine (isWithin_any _ _ _ _ _).mono ?_; rintro e w1 ⟨rfl, hb⟩)
  go_ret
  exact ⟨rfl, Below.trans ((Below.refl _ _).alloc (Nat.le_refl _) _) (hb.mono (by simp))⟩

set_option maxHeartbeats 400000 in
theorem Earth_any (lo hi : Int) (w : World) :
    Calls Try.prog 73 #[.agg #[.int .i64 lo, .int .i64 hi]] w fun e w' => e = .returned (.bool (spanB lo hi 1000000 100000000)) ∧ Below w.heap.size w w' := by
  go_enter Try.func73, Try.ntmps73
  go_wp2_with (go_at_call 91; refine (Valid_any _ _ _ _ _).mono ?_; rintro e w1 ⟨rfl, hb⟩)
  go_ret
  exact ⟨rfl, Below.trans ((Below.refl _ _).alloc (Nat.le_refl _) _) (hb.mono (by simp))⟩

set_option maxHeartbeats 800000 in
theorem refground_any (nm : ByteArray) (x y z rose gates step width t gate : Int) (w : World) (h1 : -8 ≤ t) (h2 : t ≤ 264) (s1 : 50 ≤ step) (s2 : step ≤ 2000) (g1 : 0 ≤ gate) (g2 : gate ≤ 199) :
    Calls Try.prog 70 #[.agg #[.string nm, .int .i64 x, .int .i64 y, .int .i64 z, .int .i64 rose, .int .i64 gates, .int .i64 step, .int .i64 width], .int .i64 t, .int .i64 gate] w
      fun e w' => e = .returned (.agg #[.int .i64 (runLo step t gate), .int .i64 (runHi step t gate)]) ∧ Below w.heap.size w w' := by
  obtain ⟨⟨b1, b2⟩, b3, b4, b5, b6⟩ := runN_bd h1 h2 s1 s2 g1 g2
  have hd := runD_bd h1 h2
  unfold runN at b3 b4
  unfold runD at hd
  go_enter Try.func70, Try.ntmps70
  go_wp2_with fail
  refine (refSlant_ok _ _ h1 h2).mono ?_; rintro e w' ⟨rfl, rfl⟩
  go_wp2_with fail
  go_outline
  go_wp2_with (first | (go_at_call 77; refine (Down_any _ _ _ (by omega) (by omega) (by omega)).mono ?_; rintro e w' ⟨rfl, rfl⟩) | (go_at_call 94; refine (Up_any _ _ _ (by omega) (by omega) (by omega)).mono ?_; rintro e w' ⟨rfl, rfl⟩))
  exact bodyPost_ret (v := .agg #[.int .i64 (runLo step t gate), .int .i64 (runHi step t gate)]) (by simp [results, Try.results70, go_sem, runLo, runHi, runN, runD]) rfl ⟨rfl, by repeat (first | exact Below.refl _ _ | (refine Below.setCell ?_ (by simp) _) | (refine Below.alloc ?_ (by simp) _))⟩

set_option maxHeartbeats 1600000 in
theorem height_any (nm : ByteArray) (x y z rose gates step width t lo hi gate : Int) (w : World) (h1 : -8 ≤ t) (h2 : t ≤ 264) (s1 : 50 ≤ step) (s2 : step ≤ 2000) (g1 : 0 ≤ gate) (g2 : gate ≤ 199) (z1 : 0 ≤ z) (z2 : z ≤ 20000) (e1 : 1000000 ≤ lo) (e2 : lo ≤ 100000000) (e3 : 1000000 ≤ hi) (e4 : hi ≤ 100000000) :
    Calls Try.prog 72 #[.agg #[.string nm, .int .i64 x, .int .i64 y, .int .i64 z, .int .i64 rose, .int .i64 gates, .int .i64 step, .int .i64 width], .int .i64 t, .agg #[.int .i64 lo, .int .i64 hi], .int .i64 gate] w
      fun e w' => e = .returned (.agg #[.int .i64 (climbLo z step t gate hi), .int .i64 (climbHi z step t gate lo)]) ∧ Below w.heap.size w w' := by
  obtain ⟨wB, hwB⟩ : ∃ wB : World, wB = ((((w.alloc (.cells #[.string nm, .int .i64 x, .int .i64 y, .int .i64 z, .int .i64 rose, .int .i64 gates, .int .i64 step, .int .i64 width] 23)).alloc (.cells #[.int .i64 lo, .int .i64 hi] 43)).alloc (.cells #[.int .i64 0, .int .i64 0] 43)).alloc (.cells #[.func (Fn.func 92) #[] #[]] 90)).drew := ⟨_, rfl⟩
  have lead : (fun w' : World => w'.cell? ⟨w.heap.size, 0, none⟩ = some (.string nm) ∧ w'.cell? ⟨w.heap.size, 1, none⟩ = some (.int .i64 x) ∧ w'.cell? ⟨w.heap.size, 2, none⟩ = some (.int .i64 y) ∧ w'.cell? ⟨w.heap.size, 3, none⟩ = some (.int .i64 z) ∧ w'.cell? ⟨w.heap.size, 4, none⟩ = some (.int .i64 rose) ∧ w'.cell? ⟨w.heap.size, 5, none⟩ = some (.int .i64 gates) ∧ w'.cell? ⟨w.heap.size, 6, none⟩ = some (.int .i64 step) ∧ w'.cell? ⟨w.heap.size, 7, none⟩ = some (.int .i64 width) ∧ w'.cell? ⟨w.heap.size + 1, 0, none⟩ = some (.int .i64 lo) ∧ w'.cell? ⟨w.heap.size + 1, 1, none⟩ = some (.int .i64 hi) ∧ w'.cell? ⟨w.heap.size + 1 + 1, 0, none⟩ = some (cellAt w' ⟨w.heap.size + 1 + 1, 0, none⟩) ∧ w'.cell? ⟨w.heap.size + 1 + 1, 1, none⟩ = some (cellAt w' ⟨w.heap.size + 1 + 1, 1, none⟩) ∧ w'.frozen? ⟨w.heap.size + 1 + 1, 0, none⟩ = false ∧ w'.frozen? ⟨w.heap.size + 1 + 1, 1, none⟩ = false ∧
      w'.cell? ⟨w.heap.size + 1 + 1 + 1, 0, none⟩ = some (.func (Fn.func 92) #[] #[]) ∧ w.heap.size + 1 + 1 + 1 < w'.heap.size ∧ Below w.heap.size w w') wB := by
    subst hwB
    refine ⟨?_, ?_, ?_, ?_, ?_, ?_, ?_, ?_, ?_, ?_, ?_, ?_, ?_, ?_, ?_, ?_, ?_⟩ <;> first | (refine drew_cell ?_; (repeat (first | (refine alloc_new ?_ rfl; simp only [World.size_alloc]; done) | (refine alloc_keep ?_ ?_; (simp only [World.size_alloc]; omega)))); done) | (refine cellAt_mk (v := .int .i64 0) ?_; refine drew_cell ?_; (repeat (first | (refine alloc_new ?_ rfl; simp only [World.size_alloc]; done) | (refine alloc_keep ?_ ?_; (simp only [World.size_alloc]; omega)))); done) | (refine drew_frozen ?_; (repeat (first | (refine alloc_newF ?_; simp only [World.size_alloc]; done) | (refine alloc_keepF ?_ ?_; (simp only [World.size_alloc]; omega)))); done) | (simp; done) | (simp; omega) | exact ((((((Below.refl _ _).alloc (Nat.le_refl _) _).alloc (by simp) _).alloc (by simp; omega) _).alloc (by simp; omega) _).drew)
  subst hwB
  have LEAD := Lib.hid lead
  clear lead
  go_enter Try.func72, Try.ntmps72
  go_wp2_with (go_at_call 68; refine (roundings_any _).mono ?_; rintro e w3 ⟨rfl, hw3⟩; subst hw3)
  go_outline
  go_region_held3 (fun w' => w'.cell? ⟨w.heap.size, 0, none⟩ = some (.string nm) ∧ w'.cell? ⟨w.heap.size, 1, none⟩ = some (.int .i64 x) ∧ w'.cell? ⟨w.heap.size, 2, none⟩ = some (.int .i64 y) ∧ w'.cell? ⟨w.heap.size, 3, none⟩ = some (.int .i64 z) ∧ w'.cell? ⟨w.heap.size, 4, none⟩ = some (.int .i64 rose) ∧ w'.cell? ⟨w.heap.size, 5, none⟩ = some (.int .i64 gates) ∧ w'.cell? ⟨w.heap.size, 6, none⟩ = some (.int .i64 step) ∧ w'.cell? ⟨w.heap.size, 7, none⟩ = some (.int .i64 width) ∧ w'.cell? ⟨w.heap.size + 1, 0, none⟩ = some (.int .i64 lo) ∧ w'.cell? ⟨w.heap.size + 1, 1, none⟩ = some (.int .i64 hi) ∧ w'.cell? ⟨w.heap.size + 1 + 1, 0, none⟩ = some (cellAt w' ⟨w.heap.size + 1 + 1, 0, none⟩) ∧ w'.cell? ⟨w.heap.size + 1 + 1, 1, none⟩ = some (cellAt w' ⟨w.heap.size + 1 + 1, 1, none⟩) ∧ w'.frozen? ⟨w.heap.size + 1 + 1, 0, none⟩ = false ∧ w'.frozen? ⟨w.heap.size + 1 + 1, 1, none⟩ = false ∧
      w'.cell? ⟨w.heap.size + 1 + 1 + 1, 0, none⟩ = some (.func (Fn.func 92) #[] #[]) ∧ w.heap.size + 1 + 1 + 1 < w'.heap.size ∧ Below w.heap.size w w')
    (first | exact LEAD.out | (go_split_ands; refine ⟨?_, ?_, ?_, ?_, ?_, ?_, ?_, ?_, ?_, ?_, ?_, ?_, ?_, ?_, ?_, ?_, ?_⟩ <;> first | exact keepB hb4 (by omega) (by assumption) | exact keepA hb4 (by omega) (by assumption) | exact keepF hb4 (by omega) (by assumption) | (have := hb4.size; omega) | exact Below.trans (by assumption) (hb4.mono (by omega)) | (refine Below.setCell (Below.setCell ?_ ?_ _) ?_ _; (assumption); (dsimp only; omega); (dsimp only; omega)) | exact cellAt_set (cellAt_set (by assumption)) | (rw [World.cell?_setCell_far _ _ _ _ (by dsimp only; omega), World.cell?_setCell_far _ _ _ _ (by dsimp only; omega)]; assumption) | (simp; assumption) | (simp; omega)))
    (first | (go_at_call_of 95 (Value.func (Fn.func 92) #[] #[]); refine (climb_down _ _ _ _ _ _ _ _ _ _ _ _ h1 h2 s1 s2 z1 z2 g1 g2 e3 e4).mono ?_; rintro e w4 ⟨rfl, hb4⟩) | (go_at_call 95; refine (climb_up _ _ _ _ _ _ _ _ _ _ _ _ _ ?_ ?_ h1 h2 s1 s2 z1 z2 g1 g2 e1 e2).mono ?_; (go_split_ands; assumption); (go_split_ands; assumption); rintro e w4 ⟨rfl, hb4⟩))
  go_split_ands
  have hp := pair_read (by assumption) (by assumption)
  obtain ⟨hp0, hp1⟩ := hp
  go_wp2
  exact bodyPost_ret (v := .agg #[.int .i64 (climbLo z step t gate hi), .int .i64 (climbHi z step t gate lo)]) (by simp [results, Try.results72, go_sem, hp0, hp1]) rfl ⟨rfl, by assumption⟩

end Go.Proofs.Ythnjfnapjpdchaa

namespace Go.Proofs.Ythnjfnapjpdchaa
open Go.RowKit

structure SiteAt (w : World) (b : Nat) (nm : ByteArray) (x y z rose gates step width : Int) : Prop where
  c0 : w.cell? ⟨b, 0, none⟩ = some (.string nm)
  c1 : w.cell? ⟨b, 1, none⟩ = some (.int .i64 x)
  c2 : w.cell? ⟨b, 2, none⟩ = some (.int .i64 y)
  c3 : w.cell? ⟨b, 3, none⟩ = some (.int .i64 z)
  c4 : w.cell? ⟨b, 4, none⟩ = some (.int .i64 rose)
  c5 : w.cell? ⟨b, 5, none⟩ = some (.int .i64 gates)
  c6 : w.cell? ⟨b, 6, none⟩ = some (.int .i64 step)
  c7 : w.cell? ⟨b, 7, none⟩ = some (.int .i64 width)

theorem SiteAt.new (w : World) (nm : ByteArray) (x y z rose gates step width : Int) : SiteAt (w.alloc (.cells #[.string nm, .int .i64 x, .int .i64 y, .int .i64 z, .int .i64 rose, .int .i64 gates, .int .i64 step, .int .i64 width] 23)) w.heap.size nm x y z rose gates step width :=
  ⟨alloc_new rfl rfl, alloc_new rfl rfl, alloc_new rfl rfl, alloc_new rfl rfl, alloc_new rfl rfl, alloc_new rfl rfl, alloc_new rfl rfl, alloc_new rfl rfl⟩
theorem SiteAt.keep {B b : Nat} {W w1 : World} {nm : ByteArray} {x y z rose gates step width : Int} (s : SiteAt W b nm x y z rose gates step width) (hb : Below B W w1) (h : b < B) : SiteAt w1 b nm x y z rose gates step width :=
  ⟨keepB hb h s.c0, keepB hb h s.c1, keepB hb h s.c2, keepB hb h s.c3, keepB hb h s.c4, keepB hb h s.c5, keepB hb h s.c6, keepB hb h s.c7⟩

structure PairAt (w : World) (b : Nat) (u v : Value) : Prop where
  c0 : w.cell? ⟨b, 0, none⟩ = some u
  c1 : w.cell? ⟨b, 1, none⟩ = some v
theorem PairAt.new (w : World) (u v : Value) (T : TypeId) : PairAt (w.alloc (.cells #[u, v] T)) w.heap.size u v := ⟨alloc_new rfl rfl, alloc_new rfl rfl⟩
theorem PairAt.keep {B b : Nat} {W w1 : World} {u v : Value} (s : PairAt W b u v) (hb : Below B W w1) (h : b < B) : PairAt w1 b u v := ⟨keepB hb h s.c0, keepB hb h s.c1⟩

structure OpenAt (w : World) (b : Nat) : Prop where
  c0 : w.cell? ⟨b, 0, none⟩ = some (cellAt w ⟨b, 0, none⟩)
  c1 : w.cell? ⟨b, 1, none⟩ = some (cellAt w ⟨b, 1, none⟩)
  f0 : w.frozen? ⟨b, 0, none⟩ = false
  f1 : w.frozen? ⟨b, 1, none⟩ = false
theorem OpenAt.new (w : World) (u v : Value) (T : TypeId) : OpenAt (w.alloc (.cells #[u, v] T)) w.heap.size :=
  ⟨cellAt_mk (alloc_new (v := u) rfl rfl), cellAt_mk (alloc_new (v := v) rfl rfl), alloc_newF rfl, alloc_newF rfl⟩
theorem OpenAt.keep {B b : Nat} {W w1 : World} (s : OpenAt W b) (hb : Below B W w1) (h : b < B) : OpenAt w1 b :=
  ⟨keepA hb h s.c0, keepA hb h s.c1, keepF hb h s.f0, keepF hb h s.f1⟩
theorem below_alloc (w : World) (o : Obj) : Below w.heap.size w (w.alloc o) := (Below.refl _ _).alloc (Nat.le_refl _) _

/-- a site in a box, and a result that is open -/
structure Two (w w' : World) (nm : ByteArray) (x y z rose gates step width : Int) : Prop where
  s : SiteAt w' w.heap.size nm x y z rose gates step width
  o : OpenAt w' (w.heap.size + 1)
  z : w.heap.size + 2 ≤ w'.heap.size
  b : Below w.heap.size w w'
theorem Two.new (w : World) (nm : ByteArray) (x y z rose gates step width : Int) (u v : Value) (T : TypeId) : Two w ((w.alloc (.cells #[.string nm, .int .i64 x, .int .i64 y, .int .i64 z, .int .i64 rose, .int .i64 gates, .int .i64 step, .int .i64 width] 23)).alloc (.cells #[u, v] T)) nm x y z rose gates step width := by
  have e : (w.alloc (.cells #[.string nm, .int .i64 x, .int .i64 y, .int .i64 z, .int .i64 rose, .int .i64 gates, .int .i64 step, .int .i64 width] 23)).heap.size = w.heap.size + 1 := World.size_alloc _ _
  refine ⟨(SiteAt.new w nm x y z rose gates step width).keep (below_alloc _ _) (by omega), ?_, by simp, Below.trans (below_alloc _ _) ((below_alloc _ _).mono (by omega))⟩
  rw [← e]; exact OpenAt.new _ _ _ _
theorem Two.keep {w W w1 : World} {B : Nat} {nm : ByteArray} {x y z rose gates step width : Int} (t : Two w W nm x y z rose gates step width) (hb : Below B W w1) (h : w.heap.size + 2 ≤ B) : Two w w1 nm x y z rose gates step width :=
  ⟨t.s.keep hb (by omega), t.o.keep hb (by omega), Nat.le_trans t.z hb.size, t.b.trans (hb.mono (by omega))⟩

/-- a site and a span in boxes, and a result that is open -/
structure Three (w w' : World) (nm : ByteArray) (x y z rose gates step width : Int) (lo hi : Int) : Prop where
  s : SiteAt w' w.heap.size nm x y z rose gates step width
  p : PairAt w' (w.heap.size + 1) (.int .i64 lo) (.int .i64 hi)
  o : OpenAt w' (w.heap.size + 1 + 1)
  z : w.heap.size + 3 ≤ w'.heap.size
  b : Below w.heap.size w w'
theorem Three.new (w : World) (nm : ByteArray) (x y z rose gates step width : Int) (lo hi : Int) (u v : Value) (T T2 : TypeId) : Three w (((w.alloc (.cells #[.string nm, .int .i64 x, .int .i64 y, .int .i64 z, .int .i64 rose, .int .i64 gates, .int .i64 step, .int .i64 width] 23)).alloc (.cells #[.int .i64 lo, .int .i64 hi] T2)).alloc (.cells #[u, v] T)) nm x y z rose gates step width lo hi := by
  have e : (w.alloc (.cells #[.string nm, .int .i64 x, .int .i64 y, .int .i64 z, .int .i64 rose, .int .i64 gates, .int .i64 step, .int .i64 width] 23)).heap.size = w.heap.size + 1 := World.size_alloc _ _
  have e2 : ((w.alloc (.cells #[.string nm, .int .i64 x, .int .i64 y, .int .i64 z, .int .i64 rose, .int .i64 gates, .int .i64 step, .int .i64 width] 23)).alloc (.cells #[.int .i64 lo, .int .i64 hi] T2)).heap.size = w.heap.size + 1 + 1 := by simp
  refine ⟨((SiteAt.new w nm x y z rose gates step width).keep (below_alloc _ _) (by omega)).keep (below_alloc _ _) (by omega), ?_, ?_, by simp, Below.trans (Below.trans (below_alloc _ _) ((below_alloc _ _).mono (by omega))) ((below_alloc _ _).mono (by omega))⟩
  · have h := (PairAt.new (w.alloc (.cells #[.string nm, .int .i64 x, .int .i64 y, .int .i64 z, .int .i64 rose, .int .i64 gates, .int .i64 step, .int .i64 width] 23)) (.int .i64 lo) (.int .i64 hi) T2).keep (below_alloc _ (.cells #[u, v] T)) (by omega)
    rw [e] at h; exact h
  · rw [← e2]; exact OpenAt.new _ _ _ _
theorem Three.keep {w W w1 : World} {B : Nat} {nm : ByteArray} {x y z rose gates step width : Int} {lo hi : Int} (t : Three w W nm x y z rose gates step width lo hi) (hb : Below B W w1) (h : w.heap.size + 3 ≤ B) : Three w w1 nm x y z rose gates step width lo hi :=
  ⟨t.s.keep hb (by omega), t.p.keep hb (by omega), t.o.keep hb (by omega), Nat.le_trans t.z hb.size, t.b.trans (hb.mono (by omega))⟩

end Go.Proofs.Ythnjfnapjpdchaa
