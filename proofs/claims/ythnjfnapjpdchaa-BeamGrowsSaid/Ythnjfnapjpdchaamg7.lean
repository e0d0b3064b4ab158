/-
  The walk over isRay and place.
-/
import Derived.RangeFuncNested
import Derived.RangeFuncBound
import Derived.RangeFuncCalls
import Derived.RangeFuncLeaves
import Derived.Shelf.Abstract
import Derived.Shelf.RegionOpen
import Derived.OwnWalkIn
import Derived.TacticsInMore
import Derived.LoopNIn
import Derived.LoopIn
import Derived.Test.Ythnjfnapjpdchaamg6
import Derived.Test.Ythnjfnapjpdchaamg5
import Derived.Test.Ythnjfnapjpdchaamg4
namespace Go.Proofs.Ythnjfnapjpdchaa
open Go.RowKit
set_option linter.unusedVariables false

set_option maxHeartbeats 400000 in
theorem isRay_any (nm : ByteArray) (x y z rose gates step width ray : Int) (w : World) (h1 : 1 ≤ rose) (h2 : rose ≤ 90) :
    Calls Try.prog 75 #[.agg #[.string nm, .int .i64 x, .int .i64 y, .int .i64 z, .int .i64 rose, .int .i64 gates, .int .i64 step, .int .i64 width], .int .i64 ray] w
      fun e w' => e = .returned (.bool (inB ray 0 (4 * rose - 1))) ∧ Below w.heap.size w w' := by
  go_enter Try.func75, Try.ntmps75
  go_wp2_with (go_at_call 59; refine (isIn_any _ _ _ _).mono ?_; rintro e w' ⟨rfl, rfl⟩)
  go_ret
  exact ⟨rfl, (Below.refl _ _).alloc (Nat.le_refl _) _⟩

/-- the place of a gate -/
def plX (x rose step t ray gate : Int) : Int := x + runLo step t gate * dirX (2 * rose) (2 * ray + 1) / dirL (2 * rose) (2 * ray + 1)
def plY (y rose step t ray gate : Int) : Int := y + runLo step t gate * dirY (2 * rose) (2 * ray + 1) / dirL (2 * rose) (2 * ray + 1)

theorem mul_abs {a b A B : Int} (h1 : 0 ≤ a) (h2 : a ≤ A) (h3 : -B ≤ b) (h4 : b ≤ B) (hB : 0 ≤ B) : -(A * B) ≤ a * b ∧ a * b ≤ A * B := by
  have m1 : a * b ≤ a * B := Int.mul_le_mul_of_nonneg_left h4 h1
  have m2 : a * B ≤ A * B := Int.mul_le_mul_of_nonneg_right h2 hB
  have m3 : a * (-B) ≤ a * b := Int.mul_le_mul_of_nonneg_left h3 h1
  rw [Int.mul_neg] at m3
  omega

theorem quot_bd {p l : Int} (h1 : 1 ≤ l) {B : Int} (h2 : -B ≤ p) (h3 : p ≤ B) (hB : 0 ≤ B) : -B ≤ p / l ∧ p / l ≤ B := by
  constructor
  · apply Int.le_ediv_of_mul_le (by omega)
    have : B * 1 ≤ B * l := Int.mul_le_mul_of_nonneg_left h1 hB
    rw [Int.neg_mul]; omega
  · have : B * 1 ≤ B * l := Int.mul_le_mul_of_nonneg_left h1 hB
    have : p / l < B + 1 := Int.ediv_lt_of_lt_mul (by omega) (by rw [Int.add_mul]; omega)
    omega

theorem down_b (a b : Int) (w : World) (hb : 1 ≤ b) (ha1 : -1000000000000000 ≤ a) (ha2 : a ≤ 1000000000000000) :
    Calls Try.prog 92 #[.int .i64 a, .int .i64 b] w fun e w' => e = .returned (.int .i64 (a / b)) ∧ Below w.heap.size w w' :=
  (down_any a b w hb ha1 ha2).mono fun _ _ h => ⟨h.1, h.2 ▸ Below.refl _ _⟩

set_option maxHeartbeats 1600000 in
theorem place_any (nm : ByteArray) (x y z rose gates step width t ray gate : Int) (w : World) (hk : SiteOk x y z rose gates step width) (h1 : 0 ≤ t) (h2 : t ≤ 256) (r1 : 0 ≤ ray) (r2 : ray < 4 * rose) (g1 : 0 ≤ gate) (g2 : gate ≤ 199) :
    Calls Try.prog 76 #[.agg #[.string nm, .int .i64 x, .int .i64 y, .int .i64 z, .int .i64 rose, .int .i64 gates, .int .i64 step, .int .i64 width], .int .i64 t, .int .i64 ray, .int .i64 gate] w
      fun e w' => e = .returned (.agg #[.int .i64 (plX x rose step t ray gate), .int .i64 (plY y rose step t ray gate)]) ∧ Below w.heap.size w w' := by
  obtain ⟨x1, x2, y1, y2, z1, z2, q1, q2, G1, G2, s1, s2, d1, d2⟩ := hk
  obtain ⟨e1, e2⟩ := runLo_bd (t := t) (by omega) (by omega) s1 s2 g1 g2
  obtain ⟨⟨b1, b2⟩, ⟨b3, b4⟩, b5, b6⟩ := dir_bd (n := 2 * rose) (d := 2 * ray + 1) (by omega) (by omega) (by omega) (by omega)
  have m1 := mul_abs e1 e2 b1 b2 (by omega)
  have m2 := mul_abs e1 e2 b3 b4 (by omega)
  have k1 := quot_bd b5 (B := 399000 * 64800) m1.1 m1.2 (by omega)
  have k2 := quot_bd b5 (B := 399000 * 64800) m2.1 m2.2 (by omega)
  have i1 : IntKind.i64.wrap (runLo step t gate * dirX (2 * rose) (2 * ray + 1)) = runLo step t gate * dirX (2 * rose) (2 * ray + 1) := IntWalk.i64_in _ (by omega)
  have i2 : IntKind.i64.wrap (runLo step t gate * dirY (2 * rose) (2 * ray + 1)) = runLo step t gate * dirY (2 * rose) (2 * ray + 1) := IntWalk.i64_in _ (by omega)
  have i3 : IntKind.i64.wrap (x + runLo step t gate * dirX (2 * rose) (2 * ray + 1) / dirL (2 * rose) (2 * ray + 1)) = x + runLo step t gate * dirX (2 * rose) (2 * ray + 1) / dirL (2 * rose) (2 * ray + 1) := IntWalk.i64_in _ (by omega)
  have i4 : IntKind.i64.wrap (y + runLo step t gate * dirY (2 * rose) (2 * ray + 1) / dirL (2 * rose) (2 * ray + 1)) = y + runLo step t gate * dirY (2 * rose) (2 * ray + 1) / dirL (2 * rose) (2 * ray + 1) := IntWalk.i64_in _ (by omega)
  go_enter Try.func76, Try.ntmps76
  go_wp2_with fail
  refine (roundings_any _).mono ?_; rintro e w3 ⟨rfl, hw3⟩; subst hw3
  go_wp2_with fail
  refine (run_down _ _ _ _ _ _ _ _ _ _ _ (by omega) (by omega) s1 s2 g1 g2).mono ?_; rintro e w1 ⟨rfl, hb1⟩
  have T1 : Two w w1 nm x y z rose gates step width := by
    refine Two.keep (Two.keep (Two.new w nm x y z rose gates step width (.int .i64 0) (.int .i64 0) 83) (by first | exact (below_alloc _ _) | exact (below_alloc _ _).drew | exact (below_alloc _ _).drew.drew) (by simp)) hb1 (by simp)
  clear hb1
  obtain ⟨⟨k0, k1, k2, k3, k4, k5, k6, k7⟩, ⟨o0, o1, f0, f1⟩, hz, hbw⟩ := T1
  go_wp2_with fail
  refine (towards_any _ _ _ (by omega) (by omega) (by omega) (by omega)).mono ?_; rintro e w2 ⟨rfl, hb2⟩
  have T2 := (⟨⟨k0, k1, k2, k3, k4, k5, k6, k7⟩, ⟨o0, o1, f0, f1⟩, hz, hbw⟩ : Two w w1 nm x y z rose gates step width).keep hb2 (by omega)
  clear k0 k1 k2 k3 k4 k5 k6 k7 o0 o1 f0 f1 hz hbw hb2
  obtain ⟨⟨k0, k1, k2, k3, k4, k5, k6, k7⟩, ⟨o0, o1, f0, f1⟩, hz, hbw⟩ := T2
  go_wp2_with fail
  have hz3 : w.heap.size + 1 < w2.heap.size := by omega
  have hb4 : Below w2.heap.size w2 (w2.alloc (.cells #[.int .i64 (dirX (2 * rose) (2 * ray + 1)), .int .i64 (dirY (2 * rose) (2 * ray + 1))] 83)).drew := ((Below.refl _ _).alloc (Nat.le_refl _) _).drew
  have hk8 : (w2.alloc (.cells #[.int .i64 (dirX (2 * rose) (2 * ray + 1)), .int .i64 (dirY (2 * rose) (2 * ray + 1))] 83)).drew.cell? ⟨w2.heap.size, 0, none⟩ = some (.int .i64 (dirX (2 * rose) (2 * ray + 1))) := by simp
  have hk9 : (w2.alloc (.cells #[.int .i64 (dirX (2 * rose) (2 * ray + 1)), .int .i64 (dirY (2 * rose) (2 * ray + 1))] 83)).drew.cell? ⟨w2.heap.size, 1, none⟩ = some (.int .i64 (dirY (2 * rose) (2 * ray + 1))) := by simp
  have hk10 : w2.heap.size < (w2.alloc (.cells #[.int .i64 (dirX (2 * rose) (2 * ray + 1)), .int .i64 (dirY (2 * rose) (2 * ray + 1))] 83)).drew.heap.size := by simp
  have hbw2 : Below w.heap.size w (w2.alloc (.cells #[.int .i64 (dirX (2 * rose) (2 * ray + 1)), .int .i64 (dirY (2 * rose) (2 * ray + 1))] 83)).drew := hbw.trans (hb4.mono (by omega))
  have lead : (fun w' : World => w'.cell? ⟨w.heap.size, 0, none⟩ = some (.string nm) ∧ w'.cell? ⟨w.heap.size, 1, none⟩ = some (.int .i64 x) ∧ w'.cell? ⟨w.heap.size, 2, none⟩ = some (.int .i64 y) ∧ w'.cell? ⟨w.heap.size, 3, none⟩ = some (.int .i64 z) ∧ w'.cell? ⟨w.heap.size, 4, none⟩ = some (.int .i64 rose) ∧ w'.cell? ⟨w.heap.size, 5, none⟩ = some (.int .i64 gates) ∧ w'.cell? ⟨w.heap.size, 6, none⟩ = some (.int .i64 step) ∧ w'.cell? ⟨w.heap.size, 7, none⟩ = some (.int .i64 width) ∧ w'.cell? ⟨w.heap.size + 1, 0, none⟩ = some (cellAt w' ⟨w.heap.size + 1, 0, none⟩) ∧ w'.cell? ⟨w.heap.size + 1, 1, none⟩ = some (cellAt w' ⟨w.heap.size + 1, 1, none⟩) ∧ w'.frozen? ⟨w.heap.size + 1, 0, none⟩ = false ∧ w'.frozen? ⟨w.heap.size + 1, 1, none⟩ = false ∧ w'.cell? ⟨w2.heap.size, 0, none⟩ = some (.int .i64 (dirX (2 * rose) (2 * ray + 1))) ∧ w'.cell? ⟨w2.heap.size, 1, none⟩ = some (.int .i64 (dirY (2 * rose) (2 * ray + 1))) ∧ w2.heap.size < w'.heap.size ∧ Below w.heap.size w w') (w2.alloc (.cells #[.int .i64 (dirX (2 * rose) (2 * ray + 1)), .int .i64 (dirY (2 * rose) (2 * ray + 1))] 83)).drew := by
    refine ⟨?_, ?_, ?_, ?_, ?_, ?_, ?_, ?_, ?_, ?_, ?_, ?_, ?_, ?_, ?_, ?_⟩ <;> first | exact hbw2 | exact hk8 | exact hk9 | exact hk10 | (exact keepB hb4 (by omega) (by assumption)) | (exact keepA hb4 (by omega) (by assumption)) | (exact keepF hb4 (by omega) (by assumption))
  have LEAD := Lib.hid lead
  clear lead hk8 hk9 hb4 hbw2 hk10 k0 k1 k2 k3 k4 k5 k6 k7 o0 o1 f0 f1 hz hbw
  have hz3 := Lib.hid hz3
  go_outline
  go_region_held3 (fun w' => w'.cell? ⟨w.heap.size, 0, none⟩ = some (.string nm) ∧ w'.cell? ⟨w.heap.size, 1, none⟩ = some (.int .i64 x) ∧ w'.cell? ⟨w.heap.size, 2, none⟩ = some (.int .i64 y) ∧ w'.cell? ⟨w.heap.size, 3, none⟩ = some (.int .i64 z) ∧ w'.cell? ⟨w.heap.size, 4, none⟩ = some (.int .i64 rose) ∧ w'.cell? ⟨w.heap.size, 5, none⟩ = some (.int .i64 gates) ∧ w'.cell? ⟨w.heap.size, 6, none⟩ = some (.int .i64 step) ∧ w'.cell? ⟨w.heap.size, 7, none⟩ = some (.int .i64 width) ∧ w'.cell? ⟨w.heap.size + 1, 0, none⟩ = some (cellAt w' ⟨w.heap.size + 1, 0, none⟩) ∧ w'.cell? ⟨w.heap.size + 1, 1, none⟩ = some (cellAt w' ⟨w.heap.size + 1, 1, none⟩) ∧ w'.frozen? ⟨w.heap.size + 1, 0, none⟩ = false ∧ w'.frozen? ⟨w.heap.size + 1, 1, none⟩ = false ∧ w'.cell? ⟨w2.heap.size, 0, none⟩ = some (.int .i64 (dirX (2 * rose) (2 * ray + 1))) ∧ w'.cell? ⟨w2.heap.size, 1, none⟩ = some (.int .i64 (dirY (2 * rose) (2 * ray + 1))) ∧ w2.heap.size < w'.heap.size ∧ Below w.heap.size w w')
    (first | exact LEAD.out | (go_split_ands; have hz4 := hz3.out; refine ⟨?_, ?_, ?_, ?_, ?_, ?_, ?_, ?_, ?_, ?_, ?_, ?_, ?_, ?_, ?_, ?_⟩ <;> first | assumption | exact keepB hb4 (by omega) (by assumption) | exact keepA hb4 (by omega) (by assumption) | exact keepF hb4 (by omega) (by assumption) | (have := hb4.size; omega) | exact Below.trans (by assumption) (hb4.mono (by omega)) | (refine Below.setCell (Below.setCell ?_ ?_ _) ?_ _; (assumption); (dsimp only; omega); (dsimp only; omega)) | exact cellAt_set (cellAt_set (by assumption)) | (rw [World.cell?_setCell_far _ _ _ _ (by dsimp only; omega), World.cell?_setCell_far _ _ _ _ (by dsimp only; omega)]; assumption) | (simp; assumption) | (simp; omega)))
    (first | (go_at_call 92; refine (down_b _ _ _ (by omega) (by omega) (by omega)).mono ?_; rintro e w4 ⟨rfl, hb4⟩))
  go_split_ands
  have hp := pair_read (by assumption) (by assumption)
  obtain ⟨hp0, hp1⟩ := hp
  go_wp2
  exact bodyPost_ret (v := .agg #[.int .i64 (plX x rose step t ray gate), .int .i64 (plY y rose step t ray gate)]) (by simp [results, Try.results76, go_sem, hp0, hp1, plX, plY]) rfl ⟨rfl, by assumption⟩

end Go.Proofs.Ythnjfnapjpdchaa

namespace Go.Proofs.Ythnjfnapjpdchaa
open Go.RowKit Go.Shelf
set_option linter.unusedVariables false
attribute [local go_sem] Oper.semAt_some

abbrev GateOf (g : Nat) := { j : Nat // j < g }
def up (g : Nat) : Nat → List (GateOf g)
  | 0 => []
  | k + 1 => up g k ++ (if h : k < g then [⟨k, h⟩] else [])
theorem up_succ {g k : Nat} (h : k < g) : up g (k + 1) = up g k ++ [⟨k, h⟩] := by rw [up, dif_pos h]
theorem up_len {g : Nat} : ∀ {k : Nat}, k ≤ g → (up g k).length = k
  | 0, _ => rfl
  | k + 1, h => by rw [up_succ (by omega), List.length_append, up_len (by omega)]; rfl
theorem up_has {g : Nat} : ∀ {k : Nat} (j : Nat) (h : j < g), j < k → k ≤ g → (⟨j, h⟩ : GateOf g) ∈ up g k
  | 0, j, h, hj, _ => by omega
  | k + 1, j, h, hj, hk => by
    rw [up_succ (by omega), List.mem_append]
    by_cases e : j = k
    · subst e; right; simp
    · left; exact up_has j h (by omega) (by omega)

/-- blocks that a round keeps -/
def KeepB (lo : Nat) (W W' : World) : Prop := ∀ k, lo ≤ k → k < lo + 3 → W'.heap[k]? = W.heap[k]?
theorem KeepB.trans {lo : Nat} {A B C : World} (h : KeepB lo A B) (k : KeepB lo B C) : KeepB lo A C := fun i h1 h2 => (k i h1 h2).trans (h i h1 h2)
theorem KeepB.of_below {lo B : Nat} {A C : World} (h : Below B A C) (hB : lo + 3 ≤ B) : KeepB lo A C := fun i h1 h2 => h.block i (by omega)
theorem KeepB.cell {lo : Nat} {A B : World} (h : KeepB lo A B) {a : Addr} {v : Value} (hc : A.cell? a = some v) (h1 : lo ≤ a.block) (h2 : a.block < lo + 3) : B.cell? a = some v := (World.cell?_of_block (h _ h1 h2)).trans hc
theorem KeepB.site {lo : Nat} {A B : World} {nm : ByteArray} {x y z rose gates step width : Int} (h : KeepB lo A B) (s : SiteAt A lo nm x y z rose gates step width) : SiteAt B lo nm x y z rose gates step width :=
  ⟨h.cell s.c0 (Nat.le_refl _) (by dsimp only; omega), h.cell s.c1 (Nat.le_refl _) (by dsimp only; omega), h.cell s.c2 (Nat.le_refl _) (by dsimp only; omega), h.cell s.c3 (Nat.le_refl _) (by dsimp only; omega), h.cell s.c4 (Nat.le_refl _) (by dsimp only; omega), h.cell s.c5 (Nat.le_refl _) (by dsimp only; omega), h.cell s.c6 (Nat.le_refl _) (by dsimp only; omega), h.cell s.c7 (Nat.le_refl _) (by dsimp only; omega)⟩
theorem grown_below {w w' : World} (h : Below w.heap.size w w') : w.grownBy w' none := ⟨h.os, h.tape, h.output, h.size, fun k hk _ => h.block k hk⟩

def vecV (x y rose step t ray : Int) (j : Nat) : Value := .agg #[.int .i64 (plX x rose step t ray j), .int .i64 (plY y rose step t ray j)]

set_option maxRecDepth 100000 in
set_option maxHeartbeats 4000000 in
theorem gates1_in (nm : ByteArray) (x y z rose : Int) (g : Nat) (step width t ray : Int) (hk : SiteOk x y z rose g step width) (t1 : 0 ≤ t) (t2 : t ≤ 256) (r1 : 0 ≤ ray) (r2 : ray < 4 * rose) (n : Nat) (hn : 1 ≤ n) (l lo : Nat) (J Jx : List (GateOf g) → World → Prop) (W : World) (hJ : AbidesFrom W.heap.size J)
    (hY : ∀ pre (x1 : GateOf g) W1, J pre W1 → pre.length < g → YieldAt Fence.wide (n - 1) Try.prog l #[.int .i64 (x1.1 : Int), vecV x y rose step t ray x1.1] W1 fun e W' =>
      (e = .returned (.bool true) ∧ J (pre ++ [x1]) W' ∧ KeepB lo W1 W') ∨ (e = .returned (.bool false) ∧ Jx (pre ++ [x1]) W'))
    (hlo : lo + 3 ≤ W.heap.size) (hS : SiteAt W lo nm x y z rose (g : Nat) step width) (hT : W.cell? ⟨lo + 1, 0, none⟩ = some (.int .i64 t)) (hR : W.cell? ⟨lo + 2, 0, none⟩ = some (.int .i64 ray)) (h0 : J [] W) :
    CallsIn Fence.wide n Try.prog 104 #[.func (.yield l) #[] #[], .pointer (some ⟨lo, 0, none⟩), .pointer (some ⟨lo + 1, 0, none⟩), .pointer (some ⟨lo + 2, 0, none⟩)] W fun e W' => (∃ v, e = .returned v) ∧
      ((∃ ys, ys = up g g ∧ J ys W') ∨ (∃ pre, True ∧ Jx pre W')) := by
  have hg2 := hk.g2
  refine callsIn_of_wp Try.func104 rfl trivial ?_ rfl
  simp only [Try.ntmps104, List.size_toArray, List.length_cons, List.length_nil, Nat.reduceAdd, Nat.reduceSub, Array.replicate_succ, Array.replicate_zero, List.push_toArray, List.append_toArray, List.nil_append, List.cons_append]
  have HS := Lib.hid hS
  have s5 := hS.c5
  clear hS
  gi_wp2
  clear s5
  gi_loopw [8] (fun i wr => ∃ k : Nat, k ≤ g ∧ i = .int .i64 k ∧ J (up g k) wr ∧ KeepB lo W wr) (fun i _ => g - (intOf i).toNat)
  case atStart => exact ⟨0, Nat.zero_le _, rfl, h0, fun _ _ _ => rfl⟩
  case round =>
    obtain ⟨k, hk2, rfl, hJs, hkb⟩ := hrel
    by_cases hlt : k < g
    · obtain ⟨k0, k1, k2, k3, k4, k5, k6, k7⟩ := hkb.site HS.out
      have cT := hkb.cell hT (by dsimp only; omega) (by dsimp only; omega)
      have cR := hkb.cell hR (by dsimp only; omega) (by dsimp only; omega)
      have hz : lo + 2 < wr.heap.size := World.block_lt_of_cell? wr ⟨lo + 2, 0, none⟩ cR
      gi_wp2_with (refine ⟨trivial, ?_⟩; gi_at_call 76; refine (callsIn_wide.2 (place_any nm x y z rose g step width t ray k _ hk t1 t2 r1 r2 (by omega) (by omega))).mono ?_; rintro e W2 ⟨rfl, hb2⟩; have hkb2 : KeepB lo W W2 := hkb.trans (KeepB.of_below hb2 (by omega)); obtain ⟨fn, tmps, assign, body, hy, hR2⟩ := hY _ ⟨k, hlt⟩ W2 (hJ _ _ _ none hJs (grown_below hb2) (fun r e => by cases e)) (by rw [up_len (by omega)]; exact hlt); unfold vecV at hy; dsimp only at hy; clear hb2)
      refine hR2.mono ?_
      rintro e W3 (⟨rfl, hJ3, hk3⟩ | ⟨rfl, hJx3⟩)
      · gi_wp2
        go_roundw
        case rel => exact ⟨k + 1, by omega, by go_num, by rw [up_succ hlt]; exact hJ3, hkb2.trans hk3⟩
        case measure => simp [intOf]; omega
      · gi_wp2
        refine bodyPost_ret (results_none rfl _ _ _) rfl ?_
        exact ⟨⟨_, rfl⟩, .inr ⟨_, trivial, hJx3⟩⟩
    · obtain rfl : k = g := by omega
      gi_wp2
      go_end0
      exact ⟨⟨_, rfl⟩, .inl ⟨_, rfl, hJs⟩⟩

theorem gates_stops (nm : ByteArray) (x y z rose : Int) (g : Nat) (step width t ray : Int) (hk : SiteOk x y z rose g step width) (t1 : 0 ≤ t) (t2 : t ≤ 256) (r1 : 0 ≤ ray) (r2 : ray < 4 * rose) (n : Nat) (hn : 1 ≤ n) (lo : Nat) (w : World) (hlo : lo + 3 ≤ w.heap.size) (hS : SiteAt w lo nm x y z rose (g : Nat) step width) (hT : w.cell? ⟨lo + 1, 0, none⟩ = some (.int .i64 t)) (hR : w.cell? ⟨lo + 2, 0, none⟩ = some (.int .i64 ray)) :
    SeqStopsK Fence.wide n Try.prog 104 #[.pointer (some ⟨lo, 0, none⟩), .pointer (some ⟨lo + 1, 0, none⟩), .pointer (some ⟨lo + 2, 0, none⟩)] (fun x1 : GateOf g => #[.int .i64 (x1.1 : Int), vecV x y rose step t ray x1.1]) (KeepB lo) (fun ys => ys = up g g) (fun _ => True) g w := fun l J Jx W hW hJ _ hY h0 =>
  gates1_in nm x y z rose g step width t ray hk t1 t2 r1 r2 n hn l lo J Jx W hJ hY (Nat.le_trans hlo hW.size) (hS.keep hW (by omega)) (keepB hW (by omega) hT) (keepB hW (by omega) hR) h0

set_option maxHeartbeats 1000000 in
theorem gates_any (nm : ByteArray) (x y z rose : Int) (g : Nat) (step width t ray : Int) (w : World) :
    Calls Try.prog 101 #[.agg #[.string nm, .int .i64 x, .int .i64 y, .int .i64 z, .int .i64 rose, .int .i64 (g : Nat), .int .i64 step, .int .i64 width], .int .i64 t, .int .i64 ray] w fun e w' => e = .returned (.func (.func 104) #[] #[.pointer (some ⟨w.heap.size, 0, none⟩), .pointer (some ⟨w.heap.size + 1, 0, none⟩), .pointer (some ⟨w.heap.size + 2, 0, none⟩)]) ∧ SiteAt w' w.heap.size nm x y z rose (g : Nat) step width ∧ w'.cell? ⟨w.heap.size + 1, 0, none⟩ = some (.int .i64 t) ∧ w'.cell? ⟨w.heap.size + 2, 0, none⟩ = some (.int .i64 ray) ∧ w'.heap.size = w.heap.size + 3 ∧ Below w.heap.size w w' := by
  go_enter Try.func101, Try.ntmps101
  go_wp2
  go_ret
  have a1 : (w.alloc (.cells #[.string nm, .int .i64 x, .int .i64 y, .int .i64 z, .int .i64 rose, .int .i64 (g : Nat), .int .i64 step, .int .i64 width] 23)).heap.size = w.heap.size + 1 := World.size_alloc _ _
  have a2 : ((w.alloc (.cells #[.string nm, .int .i64 x, .int .i64 y, .int .i64 z, .int .i64 rose, .int .i64 (g : Nat), .int .i64 step, .int .i64 width] 23)).alloc (.cells #[.int .i64 t] 3)).heap.size = w.heap.size + 1 + 1 := by rw [World.size_alloc, a1]
  refine ⟨rfl, (((SiteAt.new w nm x y z rose (g : Nat) step width).keep (below_alloc _ _) (by omega)).keep (below_alloc _ _) (by omega)), alloc_keep (by omega) (alloc_new a1.symm rfl), alloc_new a2.symm rfl, by simp, Below.trans (Below.trans (below_alloc _ _) ((below_alloc _ _).mono (by omega))) ((below_alloc _ _).mono (by omega))⟩

end Go.Proofs.Ythnjfnapjpdchaa

namespace Go.Proofs.Ythnjfnapjpdchaa
open Go.RowKit Go.Shelf
set_option linter.unusedVariables false
attribute [local go_sem] Oper.semAt_some

set_option maxHeartbeats 400000 in
theorem unknownGround_any (w : World) :
    Calls Try.prog 100 #[] w fun e w' => e = .returned (.agg #[.int .i64 0, .int .i64 20000]) ∧ Below w.heap.size w w' := by
  go_enter Try.func100, Try.ntmps100
  go_wp2
  exact bodyPost_ret (v := .agg #[.int .i64 0, .int .i64 20000]) (by simp [results, Try.results100, go_sem]) rfl ⟨rfl, by repeat (first | exact Below.refl _ _ | (refine Below.setCell ?_ (by simp) _) | (refine Below.alloc ?_ (by simp) _))⟩

/-- an operation that defers nothing -/
def calmB (ops : Array Oper) : Bool := ops.all fun o => match o.op with | .defer _ => false | _ => true
theorem calm_of {ops : Array Oper} (h : calmB ops = true) {i : Nat} {o : Oper} (ho : ops[i]? = some o) (c : Call) : o.op ≠ .defer c := by
  intro e
  obtain ⟨hi, hg⟩ := Array.getElem?_eq_some_iff.1 ho
  have := (Array.all_eq_true.1 h) i hi
  rw [hg, e] at this
  cases this

theorem oper_round {n l : Nat} {P : Program} {o : Oper} {a : Act} {w : World} {K : Act → World → Prop} {Q : Exit → Act → World → Prop} (hnd : ∀ c, o.op ≠ .defer c) (h : o.wpIn Fence.wide n P a w K Q) : o.wpIn (Fence.wide.inRound l) n P a w K Q := by
  unfold Oper.wpIn at h ⊢
  refine ⟨h.1, ?_⟩
  have h2 := h.2
  rw [Fence.inRound_round, Oper.semAt_some l a.eval o hnd]
  have e : Oper.semAt Fence.wide.round a.eval o = execOp a.eval o := rfl
  rw [e] at h2
  generalize (execOp a.eval o).run P w = r at h2 ⊢
  cases r with
  | ok x w' => cases x <;> exact h2
  | halt x w' => cases x <;> exact h2

theorem any_round {n l : Nat} {P : Program} {md : Region.Mode} {ops : Array Oper} {Q : Exit → Act → World → Prop} (hb : calmB ops = true) : ∀ (fuel : Nat) (listed : Array Bool) (a : Act) (w : World), wpAnyIn Fence.wide n P md ops Q fuel listed a w → wpAnyIn (Fence.wide.inRound l) n P md ops Q fuel listed a w
  | 0, listed, a, w, h => h
  | fuel + 1, listed, a, w, h => by
    refine ⟨h.1, fun i hi => ?_⟩
    have h2 := h.2 i hi
    refine wpOpIn_mono (K := wpAnyIn Fence.wide n P md ops Q fuel (listed.setIfInBounds i true)) (fun a w h3 => any_round hb fuel _ a w h3) ?_
    unfold wpOpIn at h2 ⊢
    cases ho : ops[i]? with
    | none => rw [ho] at h2; exact h2
    | some o =>
      rw [ho] at h2
      simp only at h2 ⊢
      split
      · rename_i hw; rw [if_pos hw] at h2; exact oper_round (calm_of hb ho) h2
      · rename_i hw; rw [if_neg hw] at h2; exact h2

theorem region_round {id n l : Nat} {P : Program} {ops : Array Oper} {Q : Exit → Act → World → Prop} {a : Act} {w : World} (hb : calmB ops = true) (hm : P.follows .mixedOrders = true) (h : wpAnyIn Fence.wide n P .any ops Q ops.size (Array.replicate ops.size false) a w.drew) : (Code.region id ops true).wpIn (Fence.wide.inRound l) n P Q a w :=
  wpIn_region_any hm (any_round hb _ _ _ _ h)

theorem follows_any : Try.prog.follows .mixedOrders = true := by kernel_rfl

/-- whether a gate has come -/
def has {g : Nat} (pre : List (GateOf g)) (k : Nat) : Bool := (pre.map (fun x : GateOf g => x.1)).contains k
theorem has_nil {g k : Nat} : has ([] : List (GateOf g)) k = false := rfl
theorem has_snoc {g k : Nat} (pre : List (GateOf g)) (x : GateOf g) : has (pre ++ [x]) k = (has pre k || k == x.1) := by
  unfold has
  rw [List.map_append, List.contains_append]
  congr 1
  show List.elem k [x.1] = _
  unfold List.elem
  cases k == x.1 <;> rfl
theorem has_all {g k : Nat} (h : k < g) : has (up g g) k = true := by
  unfold has
  rw [List.contains_iff_mem]
  exact List.mem_map.2 ⟨⟨k, h⟩, up_has k h h (Nat.le_refl _), rfl⟩

def gotL {g : Nat} (G : Nat → Int) (pre : List (GateOf g)) (k : Nat) : Int := if has pre k = true then G k else 0

/-- what lies in memory between two rounds -/
structure GbI (w W : World) {g : Nat} (nm : ByteArray) (x y z rose step width gx gy size wide high : Int) (sl : Value) (GL GH : Nat → Int) (pre : List (GateOf g)) : Prop where
  s : SiteAt W w.heap.size nm x y z rose g step width
  f : FieldAt W (w.heap.size + 1) gx gy size wide high sl
  l : W.cell? ⟨w.heap.size + 1 + 1 + 1, 0, none⟩ = some (.slice (some ⟨w.heap.size + 1 + 1, 0, none⟩) g g)
  r : SpRow W (w.heap.size + 1 + 1) g (gotL GL pre) (gotL GH pre)
  z : w.heap.size + 4 ≤ W.heap.size
  b : Below w.heap.size w W

theorem GbI.own {w : World} {B g : Nat} {nm : ByteArray} {x y z rose step width gx gy size wide high : Int} {sl : Value} {GL GH : Nat → Int} (hB : w.heap.size ≤ B) :
    OwnFrom B (fun (pre : List (GateOf g)) W => GbI w W nm x y z rose step width gx gy size wide high sl GL GH pre) := by
  intro pre A A' row hs hg hr
  have hr2 : ∀ r, row = some r → ∃ o : Obj, A.heap[r]? = some o ∧ o.isCells = false := fun r e => (hr r e).2
  obtain ⟨⟨k0, k1, k2, k3, k4, k5, k6, k7⟩, ⟨f0, f1, f2, f3, f4, f5⟩, l, ⟨r0, r1, u0, u1⟩, hz, hb⟩ := hs
  exact ⟨⟨cell_kept k0 hg hr2, cell_kept k1 hg hr2, cell_kept k2 hg hr2, cell_kept k3 hg hr2, cell_kept k4 hg hr2, cell_kept k5 hg hr2, cell_kept k6 hg hr2, cell_kept k7 hg hr2⟩,
    ⟨cell_kept f0 hg hr2, cell_kept f1 hg hr2, cell_kept f2 hg hr2, cell_kept f3 hg hr2, cell_kept f4 hg hr2, cell_kept f5 hg hr2⟩, cell_kept l hg hr2,
    ⟨fun k hk => cell_kept (r0 k hk) hg hr2, fun k hk => cell_kept (r1 k hk) hg hr2, fun k hk => (frozen_kept (r0 k hk) hg hr2).trans (u0 k hk), fun k hk => (frozen_kept (r1 k hk) hg hr2).trans (u1 k hk)⟩,
    Nat.le_trans hz hg.size, hb.grown hg hb.size (fun k e => Nat.le_trans hB (hr k e).1)⟩
theorem GbI.keep {w W W1 : World} {B g : Nat} {nm : ByteArray} {x y z rose step width gx gy size wide high : Int} {sl : Value} {GL GH : Nat → Int} {pre : List (GateOf g)} (h : GbI w W nm x y z rose step width gx gy size wide high sl GL GH pre) (hb : Below B W W1) (hB : w.heap.size + 4 ≤ B) : GbI w W1 nm x y z rose step width gx gy size wide high sl GL GH pre :=
  ⟨h.s.keep hb (by omega), h.f.keep hb (by omega), keepB hb (by omega) h.l, h.r.keep hb (by omega), Nat.le_trans h.z hb.size, h.b.trans (hb.mono (by omega))⟩

theorem GbI.new (w : World) (nm : ByteArray) (x y z rose : Int) (g : Nat) (step width gx gy size wide high : Int) (sl : Value) (GL GH : Nat → Int) :
    GbI w ((((w.alloc (.cells #[.string nm, .int .i64 x, .int .i64 y, .int .i64 z, .int .i64 rose, .int .i64 (g : Nat), .int .i64 step, .int .i64 width] 23)).alloc (.cells #[.int .i64 gx, .int .i64 gy, .int .i64 size, .int .i64 wide, .int .i64 high, sl] 28)).alloc (.cells (madeCells #[.int .i64 0, .int .i64 0] (g * 2)) 43)).alloc (.cells #[.slice (some ⟨w.heap.size + 1 + 1, 0, none⟩) g g] 26)) nm x y z rose step width gx gy size wide high sl GL GH ([] : List (GateOf g)) := by
  obtain ⟨A1, e1⟩ : ∃ A, A = w.alloc (.cells #[.string nm, .int .i64 x, .int .i64 y, .int .i64 z, .int .i64 rose, .int .i64 (g : Nat), .int .i64 step, .int .i64 width] 23) := ⟨_, rfl⟩
  obtain ⟨A2, e2⟩ : ∃ A, A = A1.alloc (.cells #[.int .i64 gx, .int .i64 gy, .int .i64 size, .int .i64 wide, .int .i64 high, sl] 28) := ⟨_, rfl⟩
  obtain ⟨A3, e3⟩ : ∃ A, A = A2.alloc (.cells (madeCells #[.int .i64 0, .int .i64 0] (g * 2)) 43) := ⟨_, rfl⟩
  obtain ⟨A4, e4⟩ : ∃ A, A = A3.alloc (.cells #[.slice (some ⟨w.heap.size + 1 + 1, 0, none⟩) g g] 26) := ⟨_, rfl⟩
  have s1 : A1.heap.size = w.heap.size + 1 := by rw [e1]; exact World.size_alloc _ _
  have s2 : A2.heap.size = w.heap.size + 2 := by rw [e2, World.size_alloc, s1]
  have s3 : A3.heap.size = w.heap.size + 3 := by rw [e3, World.size_alloc, s2]
  have s4 : A4.heap.size = w.heap.size + 4 := by rw [e4, World.size_alloc, s3]
  have b1 : Below w.heap.size w A1 := by rw [e1]; exact below_alloc _ _
  have b2 : Below A1.heap.size A1 A2 := by rw [e2]; exact below_alloc _ _
  have b3 : Below A2.heap.size A2 A3 := by rw [e3]; exact below_alloc _ _
  have b4 : Below A3.heap.size A3 A4 := by rw [e4]; exact below_alloc _ _
  have c24 : Below A2.heap.size A2 A4 := b3.trans (b4.mono (by omega))
  have c14 : Below A1.heap.size A1 A4 := b2.trans (c24.mono (by omega))
  have S0 : SiteAt A1 w.heap.size nm x y z rose (g : Nat) step width := by rw [e1]; exact SiteAt.new _ _ _ _ _ _ _ _ _
  have F0 : FieldAt A2 (w.heap.size + 1) gx gy size wide high sl := by rw [e2, ← s1]; exact FieldAt.new _ _ _ _ _ _ _
  have R0 : SpRow A3 (w.heap.size + 1 + 1) g (fun _ => 0) (fun _ => 0) := by rw [show w.heap.size + 1 + 1 = A2.heap.size by omega, e3]; exact SpRow.made _ _
  have L0 : A4.cell? ⟨w.heap.size + 1 + 1 + 1, 0, none⟩ = some (.slice (some ⟨w.heap.size + 1 + 1, 0, none⟩) g g) := by rw [e4]; exact alloc_new (by omega) rfl
  rw [← e1, ← e2, ← e3, ← e4]
  exact ⟨S0.keep c14 (by omega), F0.keep c24 (by omega), L0, (R0.keep b4 (by omega)).ext (fun k hk => by unfold gotL; rw [has_nil]; rfl) (fun k hk => by unfold gotL; rw [has_nil]; rfl), by omega, b1.trans (c14.mono (by omega))⟩

theorem gotL_snoc {g : Nat} {G : Nat → Int} {pre : List (GateOf g)} {x : GateOf g} {k : Nat} {v : Int} (h : G x.1 = v) : gotL G (pre ++ [x]) k = if k = x.1 then v else gotL G pre k := by
  unfold gotL
  rw [has_snoc]
  by_cases e : k = x.1
  · rw [if_pos e, if_pos (by rw [e]; simp), e]; exact h
  · rw [if_neg e]
    have e2 : (k == x.1) = false := by rw [beq_eq_false_iff_ne]; exact e
    rw [e2, Bool.or_false]

theorem pixN_bd {gx gy size wide high px py : Int} (hg : gridC gx gy size wide high = 0) (h : pixB gx gy size wide high px py = true) : 0 ≤ pixN gx gy size wide px py ∧ pixN gx gy size wide px py < wide * high := by
  have f := pix_facts hg h
  obtain ⟨_, _, ⟨s1, s2⟩, ⟨v1, v2⟩, v3, v4⟩ := gridB_bd (gridC_zero.1 hg)
  unfold pixB at h
  rw [Bool.and_eq_true, inB_true, inB_true] at h
  obtain ⟨⟨h1, h2⟩, h3, h4⟩ := h
  have d1 : (px - gx) / size < wide := Int.ediv_lt_of_lt_mul (by omega) (by omega)
  have d2 : (py - gy) / size < high := Int.ediv_lt_of_lt_mul (by omega) (by omega)
  have m1 := f.m1
  have m2 := f.q3
  have m3 : (py - gy) / size * wide ≤ (high - 1) * wide := Int.mul_le_mul_of_nonneg_right (by omega) (by omega)
  rw [Int.sub_mul, Int.one_mul, Int.mul_comm high wide] at m3
  unfold pixN
  constructor <;> omega

/-- what a round's steps keep -/
structure GbF (w W W6 : World) (nm : ByteArray) (x y z rose step width gx gy size wide high : Int) (sl : Value) (B Bx : Nat) (PX PY : Int) (g : Nat) : Prop where
  s : SiteAt W6 w.heap.size nm x y z rose g step width
  f : FieldAt W6 (w.heap.size + 1) gx gy size wide high sl
  l : W6.cell? ⟨w.heap.size + 1 + 1 + 1, 0, none⟩ = some (.slice (some ⟨w.heap.size + 1 + 1, 0, none⟩) g g)
  p0 : W6.cell? ⟨Bx, 0, none⟩ = some (.int .i64 PX)
  p1 : W6.cell? ⟨Bx, 1, none⟩ = some (.int .i64 PY)
  k : KeepsFrom B W W6
  kb : KeepB (w.heap.size + 1 + 1 + 1 + 1) W W6
  b : Below w.heap.size w W6
theorem keepsFrom_below {B : Nat} {A C : World} (h : Below A.heap.size A C) : KeepsFrom B A C := ⟨h.size, fun k o _ hk _ => (h.block k (Array.getElem?_eq_some_iff.1 hk).1).trans hk⟩
theorem GbF.keep {w W W6 W7 : World} {nm : ByteArray} {x y z rose step width gx gy size wide high : Int} {sl : Value} {B Bx : Nat} {PX PY : Int} {g : Nat} (h : GbF w W W6 nm x y z rose step width gx gy size wide high sl B Bx PX PY g) (hb : Below W6.heap.size W6 W7) (hz : w.heap.size + 7 ≤ W6.heap.size) : GbF w W W7 nm x y z rose step width gx gy size wide high sl B Bx PX PY g :=
  ⟨h.s.keep hb (by omega), h.f.keep hb (by omega), keepB hb (by omega) h.l, keepB hb (World.block_lt_of_cell? W6 ⟨Bx, 0, none⟩ h.p0) h.p0, keepB hb (World.block_lt_of_cell? W6 ⟨Bx, 0, none⟩ h.p0) h.p1, h.k.trans (keepsFrom_below hb), h.kb.trans (KeepB.of_below hb (by omega)), h.b.trans (hb.mono (by omega))⟩
theorem gbf_set2 {w W W5 : World} {nm : ByteArray} {x y z rose step width gx gy size wide high : Int} {sl : Value} {B Bx i : Nat} {PX PY u v : Int} {g : Nat} (h : GbF w W W5 nm x y z rose step width gx gy size wide high sl B Bx PX PY g) (hBx : w.heap.size + 7 ≤ Bx) :
    GbF w W ((W5.setCell ⟨w.heap.size + 1 + 1, i, none⟩ (.int .i64 u)).setCell ⟨w.heap.size + 1 + 1, i + 1, none⟩ (.int .i64 v)) nm x y z rose step width gx gy size wide high sl B Bx PX PY g := by
  have b6 : Below (w.heap.size + 1 + 1) W5 ((W5.setCell ⟨w.heap.size + 1 + 1, i, none⟩ (.int .i64 u)).setCell ⟨w.heap.size + 1 + 1, i + 1, none⟩ (.int .i64 v)) := ((Below.refl _ W5).setCell (p := ⟨w.heap.size + 1 + 1, i, none⟩) (Nat.le_refl _) _).setCell (p := ⟨w.heap.size + 1 + 1, i + 1, none⟩) (Nat.le_refl _) _
  have far : ∀ {a : Addr} {x : Value}, w.heap.size + 1 + 1 < a.block → W5.cell? a = some x → ((W5.setCell ⟨w.heap.size + 1 + 1, i, none⟩ (.int .i64 u)).setCell ⟨w.heap.size + 1 + 1, i + 1, none⟩ (.int .i64 v)).cell? a = some x := by
    intro a x ha hc
    rw [World.cell?_setCell_far _ _ _ _ (by dsimp only; omega), World.cell?_setCell_far _ _ _ _ (by dsimp only; omega)]; exact hc
  refine ⟨h.s.keep b6 (by omega), h.f.keep b6 (by omega), far (by dsimp only; omega) h.l, far (by dsimp only; omega) h.p0, far (by dsimp only; omega) h.p1, (h.k.trans ((KeepsOthers.setCell _ _ _).from _)).trans ((KeepsOthers.setCell _ _ _).from _), h.kb.trans (fun k h1 h2 => ?_), h.b.trans (b6.mono (by omega))⟩
  rw [Below.heap_setCell _ _ _ _ (by dsimp only; omega), Below.heap_setCell _ _ _ _ (by dsimp only; omega)]
theorem gbf_set {w W W5 : World} {nm : ByteArray} {x y z rose step width gx gy size wide high : Int} {sl : Value} {B Bx i : Nat} {PX PY u v : Int} {g : Nat} (hz : w.heap.size + 7 ≤ W.heap.size) (hb : Below W.heap.size W W5) (hs : SiteAt W5 w.heap.size nm x y z rose g step width) (hf : FieldAt W5 (w.heap.size + 1) gx gy size wide high sl) (hl : W5.cell? ⟨w.heap.size + 1 + 1 + 1, 0, none⟩ = some (.slice (some ⟨w.heap.size + 1 + 1, 0, none⟩) g g)) (hbw : Below w.heap.size w W5) (hBx0 : w.heap.size + 7 ≤ W5.heap.size) (hBx : w.heap.size + 7 ≤ Bx) (hBx2 : Bx < W.heap.size) (v0 : W.cell? ⟨Bx, 0, none⟩ = some (.int .i64 PX)) (v1 : W.cell? ⟨Bx, 1, none⟩ = some (.int .i64 PY)) (_h : 0 ≤ i) :
    GbF w W ((W5.setCell ⟨w.heap.size + 1 + 1, i, none⟩ (.int .i64 u)).setCell ⟨w.heap.size + 1 + 1, i + 1, none⟩ (.int .i64 v)) nm x y z rose step width gx gy size wide high sl B Bx PX PY g :=
  gbf_set2 ⟨hs, hf, hl, keepB hb hBx2 v0, keepB hb hBx2 v1, keepsFrom_below hb, KeepB.of_below hb (by omega), hbw⟩ hBx

def SpansRet (g : Nat) (L H : Nat → Int) (w : World) (e : Ending) (w' : World) : Prop :=
  ∃ b : Nat, e = .returned (.slice (some ⟨b, 0, none⟩) g g) ∧ SpRow w' b g L H ∧ w.heap.size ≤ b ∧ b < w'.heap.size ∧ Below w.heap.size w w'

set_option maxRecDepth 100000 in
set_option maxHeartbeats 8000000 in
theorem groundBelow_any (nm : ByteArray) (x y z rose : Int) (g : Nat) (step width t ray gx gy size wide high : Int) (fb off len cap : Nat) (zs : Nat → Int × Int) (GL GH : Nat → Int) (w : World) (hk : SiteOk x y z rose g step width) (t1 : 0 ≤ t) (t2 : t ≤ 256) (r1 : 0 ≤ ray) (r2 : ray < 4 * rose) (hg : gridC gx gy size wide high = 0) (hlen : (len : Int) = wide * high) (hs : SpansAt w fb off len zs) (hfb : fb < w.heap.size)
    (hG : ∀ j, j < g → (pixB gx gy size wide high (plX x rose step t ray j) (plY y rose step t ray j) = true → GL j = (zs (pixN gx gy size wide (plX x rose step t ray j) (plY y rose step t ray j)).toNat).1 ∧ GH j = (zs (pixN gx gy size wide (plX x rose step t ray j) (plY y rose step t ray j)).toNat).2) ∧ (pixB gx gy size wide high (plX x rose step t ray j) (plY y rose step t ray j) = false → GL j = 0 ∧ GH j = 20000)) :
    Calls Try.prog 88 #[.agg #[.string nm, .int .i64 x, .int .i64 y, .int .i64 z, .int .i64 rose, .int .i64 (g : Nat), .int .i64 step, .int .i64 width], .int .i64 t, .agg #[.int .i64 gx, .int .i64 gy, .int .i64 size, .int .i64 wide, .int .i64 high, .slice (some ⟨fb, off, none⟩) len cap], .int .i64 ray] w (SpansRet g GL GH w) := by
  have hg2 := hk.g2
  have hmk := fun wx : World => make_spans g (by omega) wx
  refine (callsIn_wide (n := 3)).1 ?_
  refine callsIn_of_wp_marks Try.func88 rfl trivial ?_ rfl
  simp only [Try.ntmps88, List.size_toArray, List.length_cons, List.length_nil, Nat.reduceAdd, Nat.reduceSub, Array.replicate_succ, Array.replicate_zero, List.push_toArray, List.append_toArray, List.nil_append, List.cons_append]
  gi_wp2_with (refine ⟨trivial, ?_⟩; gi_at_call 101; refine (callsIn_wide.2 (gates_any nm x y z rose g step width t ray _)).mono ?_; rintro e w1 ⟨rfl, hs1, hT1, hR1, hz1, hb1⟩)
  simp only [World.size_alloc] at hs1 hT1 hR1 hz1 hb1
  have G1 := (GbI.new w nm x y z rose g step width gx gy size wide high (.slice (some ⟨fb, off, none⟩) len cap) GL GH).keep hb1 (by omega)
  clear hb1 hmk
  have hz7 : w.heap.size + 7 ≤ w1.heap.size := by omega
  refine wpIn_rangeFunc_ownH rfl (by omega) (gf := 104) (lb := #[.pointer (some ⟨w.heap.size + 1 + 1 + 1 + 1, 0, none⟩), .pointer (some ⟨w.heap.size + 1 + 1 + 1 + 1 + 1, 0, none⟩), .pointer (some ⟨w.heap.size + 1 + 1 + 1 + 1 + 2, 0, none⟩)]) rfl trivial (enters_of Try.func104 (by kernel_rfl) rfl)
    (gates_stops nm x y z rose g step width t ray hk t1 t2 r1 r2 (3 - 1) (by omega) (w.heap.size + 1 + 1 + 1 + 1) w1 (by omega) hs1 hT1 hR1) KeepB.trans
    (fun W l o o' hl ho _ _ => fun k h1 h2 => (grownBy_putObj' W l o').block k (by have := (Array.getElem?_eq_some_iff.1 ho).1; omega) (fun e => by injection e; omega)) (Below.refl _ _) (fun _ => rfl)
    (fun pre W => GbI w W nm x y z rose step width gx gy size wide high (.slice (some ⟨fb, off, none⟩) len cap) GL GH pre ∧ w.heap.size + 7 ≤ W.heap.size) (fun _ _ _ => False)
    (OwnFrom.and (GbI.own (by omega)) (fun _ _ _ _ hs hg _ => Nat.le_trans hs hg.size)) (fun _ _ _ _ _ hs _ _ => hs) ⟨G1, hz7⟩
    (fun (x1 : GateOf g) a' W => ∃ Bx, w.heap.size + 7 ≤ Bx ∧ W.cell? ⟨Bx, 0, none⟩ = some (.int .i64 (plX x rose step t ray x1.1)) ∧ W.cell? ⟨Bx, 1, none⟩ = some (.int .i64 (plY y rose step t ray x1.1)) ∧ a' = { tmps := #[.agg #[.string nm, .int .i64 x, .int .i64 y, .int .i64 z, .int .i64 rose, .int .i64 (g : Nat), .int .i64 step, .int .i64 width], .int .i64 t, .agg #[.int .i64 gx, .int .i64 gy, .int .i64 size, .int .i64 wide, .int .i64 high, .slice (some ⟨fb, off, none⟩) len cap], .int .i64 ray, .pointer (some ⟨w.heap.size, 0, none⟩), undef, .pointer (some ⟨w.heap.size + 1, 0, none⟩), undef, .slice none 0 0, .pointer (some ⟨w.heap.size + 1 + 1 + 1, 0, none⟩), .int .i64 (x1.1 : Int), .pointer (some ⟨Bx, 0, none⟩), undef, undef, .pointer (some ⟨w.heap.size, 5, none⟩), .int .i64 (g : Nat), .slice (some ⟨w.heap.size + 1 + 1, 0, none⟩) g g, .agg #[.string nm, .int .i64 x, .int .i64 y, .int .i64 z, .int .i64 rose, .int .i64 (g : Nat), .int .i64 step, .int .i64 width], .int .i64 t, .int .i64 ray, .func (.func 104) #[] #[.pointer (some ⟨w.heap.size + 1 + 1 + 1 + 1, 0, none⟩), .pointer (some ⟨w.heap.size + 1 + 1 + 1 + 1 + 1, 0, none⟩), .pointer (some ⟨w.heap.size + 1 + 1 + 1 + 1 + 2, 0, none⟩)], .int .i64 (x1.1 : Int), vecV x y rose step t ray x1.1, undef, undef, undef, undef, undef, undef, undef, undef, undef, undef, undef, undef, undef, undef, undef, undef, undef, undef, undef, undef, undef], defers := [] })
    (fun x1 a' _ A B row hs hg hr => by
      obtain ⟨Bx, h1, h2, h3, h4⟩ := hs
      exact ⟨Bx, h1, cell_kept h2 hg (fun r e => (hr r e).2), cell_kept h3 hg (fun r e => (hr r e).2), h4⟩)
    ?assign ?body ?done ?stop
  case assign =>
    rintro l pre x1 W K ⟨GI, hz⟩ hK
    unfold vecV
    gi_wp2
    exact hK _ _ ((KeepsOthers.alloc _ _).from _) (KeepB.of_below (below_alloc W _) (by omega)) ⟨GI.keep (below_alloc W _) (by omega), by simp; omega⟩ ⟨W.heap.size, by omega, alloc_new rfl rfl, alloc_new rfl rfl, rfl⟩
  case body =>
    rintro l pre x1 a' W hl ⟨r, hr⟩ ⟨GI, hz⟩ ⟨Bx, hBx, v0, v1, rfl⟩ hlt
    have cl := GI.l
    have x0 : (0 : Int) ≤ (x1.1 : Int) := by omega
    have x2 : (x1.1 : Int) < (g : Int) := by have := x1.2; omega
    have hGx := hG x1.1 x1.2
    cases hpx : pixB gx gy size wide high (plX x rose step t ray x1.1) (plY y rose step t ray x1.1) with
    | false =>
      have HP := Lib.hid (fun w => pixel_any gx gy size wide high (plX x rose step t ray x1.1) (plY y rose step t ray x1.1) w hg)
      rw [hpx] at HP
      simp only [Bool.false_eq_true, if_false] at HP
      have hGx := hGx.2 hpx
      gi_wp2_with fail
      refine region_round (by kernel_rfl) follows_any ?_
      refine wpAnyIn_take (i := 1) (v := ?_) rfl rfl (by kernel_rfl) (by kernel_rfl) (by kernel_rfl) (fun _ _ _ h => h) ⟨Or.inl ⟨by rfl, ?_⟩, fun _ => rfl⟩ ?_
      rotate_left
      · intro w; go_simp; try with_reducible rfl
      refine wpAnyIn_ready (rs := [0, 2]) (by kernel_rfl) (by simp) ?_
      refine AllReadyIn.cons rfl (fun K hK => ?_) ?_
      · go_simp
        refine hK _ _ ?_
        clear hK K
        refine wpAnyIn_ready (rs := [2]) (by kernel_rfl) (by simp) ?_
        refine AllReadyIn.cons rfl (fun K hK => ?_) ?_
        · go_simp
          refine ⟨trivial, ?_⟩
          refine (callsIn_wide.2 (unknownGround_any _)).mono ?_
          rintro e W5 ⟨rfl, hb5⟩
          have hbW : Below W.heap.size W W5 := (Below.refl W.heap.size W).drew.trans hb5
          have G5 := GI.keep hbW (by omega)
          have l5 := G5.l
          have a5 := G5.r.c0 x1.1 x1.2
          have b5 := G5.r.c1 x1.1 x1.2
          have u5 := G5.r.f0 x1.1 x1.2
          have y5 := G5.r.f1 x1.1 x1.2
          refine hK _ _ ?_
          clear hK K
          refine wpAnyIn_ready (rs := [3]) (by kernel_rfl) (by simp) ?_
          refine AllReadyIn.cons rfl (fun K hK => ?_) ?_
          · go_simp
            refine hK _ _ ?_
            clear hK K
            refine wpAnyIn_ready (rs := [4]) (by kernel_rfl) (by simp) ?_
            refine AllReadyIn.cons rfl (fun K hK => ?_) ?_
            · go_simp
              refine hK _ _ ?_
              clear hK K
              refine wpAnyIn_done (by kernel_rfl) ?_ _
              have R6 := (G5.r.setL (k := x1.1) (v := 0) (L2 := fun k => if k = x1.1 then 0 else gotL GL pre k) (by simp) (fun i hi => by simp [hi])).setH (k := x1.1) (v := 20000) (H2 := fun k => if k = x1.1 then 20000 else gotL GH pre k) (by simp) (fun i hi => by simp [hi])
              have hBx2 : Bx < W.heap.size := World.block_lt_of_cell? W ⟨Bx, 0, none⟩ v0
              have z5 := hbW.size
              have F6 : GbF w W ((W5.setCell ⟨w.heap.size + 1 + 1, x1.1 * 2, none⟩ (.int .i64 0)).setCell ⟨w.heap.size + 1 + 1, x1.1 * 2 + 1, none⟩ (.int .i64 20000)) nm x y z rose step width gx gy size wide high (.slice (some ⟨fb, off, none⟩) len cap) w1.heap.size Bx (plX x rose step t ray x1.1) (plY y rose step t ray x1.1) g := gbf_set (by omega) hbW G5.s G5.f G5.l G5.b (by omega) hBx hBx2 v0 v1 (by omega)
              have y7 : w.heap.size + 7 ≤ ((W5.setCell ⟨w.heap.size + 1 + 1, x1.1 * 2, none⟩ (.int .i64 0)).setCell ⟨w.heap.size + 1 + 1, x1.1 * 2 + 1, none⟩ (.int .i64 20000)).heap.size := by simp; omega
              clear l5 a5 b5 u5 y5 G5 hbW hb5 z5
              generalize ((W5.setCell ⟨w.heap.size + 1 + 1, x1.1 * 2, none⟩ (.int .i64 0)).setCell ⟨w.heap.size + 1 + 1, x1.1 * 2 + 1, none⟩ (.int .i64 20000)) = W6 at *
              obtain ⟨S6, ⟨f0, f1, f2, f3, f4, f5⟩, l6, p0, p1, K6, KB6, B6⟩ := F6
              have y6 : w.heap.size + 1 < W6.heap.size := by omega
              gi_wp2_with fail
              refine ⟨trivial, ?_⟩
              refine (CallsIn.inRound l (callsIn_wide.2 (HP.out _))).mono ?_
              rintro e W7 ⟨rfl, hb7⟩
              have R7 := R6.keep hb7 (by omega)
              have F7 := (⟨S6, ⟨f0, f1, f2, f3, f4, f5⟩, l6, p0, p1, K6, KB6, B6⟩ : GbF w W W6 nm x y z rose step width gx gy size wide high (.slice (some ⟨fb, off, none⟩) len cap) w1.heap.size Bx (plX x rose step t ray x1.1) (plY y rose step t ray x1.1) g).keep hb7 (by omega)
              have y7 : w.heap.size + 7 ≤ W7.heap.size := Nat.le_trans y7 hb7.size
              clear S6 f0 f1 f2 f3 f4 f5 l6 p0 p1 K6 KB6 B6 R6 hb7
              gi_wp2
              exact ⟨F7.k, F7.kb, ⟨F7.s, F7.f, F7.l, R7.ext (fun k hk => gotL_snoc (by rw [hGx.1])) (fun k hk => gotL_snoc (by rw [hGx.2])), by omega, F7.b⟩, y7⟩
            exact AllReadyIn.nil
          exact AllReadyIn.nil
        exact AllReadyIn.nil
      refine AllReadyIn.cons rfl (fun K hK => ?_) ?_
      · go_simp
        refine ⟨trivial, ?_⟩
        refine (callsIn_wide.2 (unknownGround_any _)).mono ?_
        rintro e W5 ⟨rfl, hb5⟩
        have hbW : Below W.heap.size W W5 := (Below.refl W.heap.size W).drew.trans hb5
        have G5 := GI.keep hbW (by omega)
        have l5 := G5.l
        have a5 := G5.r.c0 x1.1 x1.2
        have b5 := G5.r.c1 x1.1 x1.2
        have u5 := G5.r.f0 x1.1 x1.2
        have y5 := G5.r.f1 x1.1 x1.2
        refine hK _ _ ?_
        clear hK K
        refine wpAnyIn_ready (rs := [0]) (by kernel_rfl) (by simp) ?_
        refine AllReadyIn.cons rfl (fun K hK => ?_) ?_
        · go_simp
          refine hK _ _ ?_
          clear hK K
          refine wpAnyIn_ready (rs := [3]) (by kernel_rfl) (by simp) ?_
          refine AllReadyIn.cons rfl (fun K hK => ?_) ?_
          · go_simp
            refine hK _ _ ?_
            clear hK K
            refine wpAnyIn_ready (rs := [4]) (by kernel_rfl) (by simp) ?_
            refine AllReadyIn.cons rfl (fun K hK => ?_) ?_
            · go_simp
              refine hK _ _ ?_
              clear hK K
              refine wpAnyIn_done (by kernel_rfl) ?_ _
              have R6 := (G5.r.setL (k := x1.1) (v := 0) (L2 := fun k => if k = x1.1 then 0 else gotL GL pre k) (by simp) (fun i hi => by simp [hi])).setH (k := x1.1) (v := 20000) (H2 := fun k => if k = x1.1 then 20000 else gotL GH pre k) (by simp) (fun i hi => by simp [hi])
              have hBx2 : Bx < W.heap.size := World.block_lt_of_cell? W ⟨Bx, 0, none⟩ v0
              have z5 := hbW.size
              have F6 : GbF w W ((W5.setCell ⟨w.heap.size + 1 + 1, x1.1 * 2, none⟩ (.int .i64 0)).setCell ⟨w.heap.size + 1 + 1, x1.1 * 2 + 1, none⟩ (.int .i64 20000)) nm x y z rose step width gx gy size wide high (.slice (some ⟨fb, off, none⟩) len cap) w1.heap.size Bx (plX x rose step t ray x1.1) (plY y rose step t ray x1.1) g := gbf_set (by omega) hbW G5.s G5.f G5.l G5.b (by omega) hBx hBx2 v0 v1 (by omega)
              have y7 : w.heap.size + 7 ≤ ((W5.setCell ⟨w.heap.size + 1 + 1, x1.1 * 2, none⟩ (.int .i64 0)).setCell ⟨w.heap.size + 1 + 1, x1.1 * 2 + 1, none⟩ (.int .i64 20000)).heap.size := by simp; omega
              clear l5 a5 b5 u5 y5 G5 hbW hb5 z5
              generalize ((W5.setCell ⟨w.heap.size + 1 + 1, x1.1 * 2, none⟩ (.int .i64 0)).setCell ⟨w.heap.size + 1 + 1, x1.1 * 2 + 1, none⟩ (.int .i64 20000)) = W6 at *
              obtain ⟨S6, ⟨f0, f1, f2, f3, f4, f5⟩, l6, p0, p1, K6, KB6, B6⟩ := F6
              have y6 : w.heap.size + 1 < W6.heap.size := by omega
              gi_wp2_with fail
              refine ⟨trivial, ?_⟩
              refine (CallsIn.inRound l (callsIn_wide.2 (HP.out _))).mono ?_
              rintro e W7 ⟨rfl, hb7⟩
              have R7 := R6.keep hb7 (by omega)
              have F7 := (⟨S6, ⟨f0, f1, f2, f3, f4, f5⟩, l6, p0, p1, K6, KB6, B6⟩ : GbF w W W6 nm x y z rose step width gx gy size wide high (.slice (some ⟨fb, off, none⟩) len cap) w1.heap.size Bx (plX x rose step t ray x1.1) (plY y rose step t ray x1.1) g).keep hb7 (by omega)
              have y7 : w.heap.size + 7 ≤ W7.heap.size := Nat.le_trans y7 hb7.size
              clear S6 f0 f1 f2 f3 f4 f5 l6 p0 p1 K6 KB6 B6 R6 hb7
              gi_wp2
              exact ⟨F7.k, F7.kb, ⟨F7.s, F7.f, F7.l, R7.ext (fun k hk => gotL_snoc (by rw [hGx.1])) (fun k hk => gotL_snoc (by rw [hGx.2])), by omega, F7.b⟩, y7⟩
            exact AllReadyIn.nil
          exact AllReadyIn.nil
        exact AllReadyIn.nil
      exact AllReadyIn.nil
    | true =>
      obtain ⟨P, hP⟩ := Int.eq_ofNat_of_zero_le (pixN_bd hg hpx).1
      have hPl : P < len := by have := (pixN_bd hg hpx).2; rw [hP] at this; omega
      have HP := Lib.hid (fun w => pixel_any gx gy size wide high (plX x rose step t ray x1.1) (plY y rose step t ray x1.1) w hg)
      rw [hpx] at HP
      simp only [if_true, hP] at HP
      have hGx := hGx.1 hpx
      rw [hP, Int.toNat_natCast] at hGx
      gi_wp2_with fail
      refine region_round (by kernel_rfl) follows_any ?_
      refine wpAnyIn_take (i := 1) (v := ?_) rfl rfl (by kernel_rfl) (by kernel_rfl) (by kernel_rfl) (fun _ _ _ h => h) ⟨Or.inl ⟨by rfl, ?_⟩, fun _ => rfl⟩ ?_
      rotate_left
      · intro w; go_simp; try with_reducible rfl
      refine wpAnyIn_ready (rs := [0, 2]) (by kernel_rfl) (by simp) ?_
      refine AllReadyIn.cons rfl (fun K hK => ?_) ?_
      · go_simp
        refine hK _ _ ?_
        clear hK K
        refine wpAnyIn_ready (rs := [2]) (by kernel_rfl) (by simp) ?_
        refine AllReadyIn.cons rfl (fun K hK => ?_) ?_
        · go_simp
          refine ⟨trivial, ?_⟩
          refine (callsIn_wide.2 (unknownGround_any _)).mono ?_
          rintro e W5 ⟨rfl, hb5⟩
          have hbW : Below W.heap.size W W5 := (Below.refl W.heap.size W).drew.trans hb5
          have G5 := GI.keep hbW (by omega)
          have l5 := G5.l
          have a5 := G5.r.c0 x1.1 x1.2
          have b5 := G5.r.c1 x1.1 x1.2
          have u5 := G5.r.f0 x1.1 x1.2
          have y5 := G5.r.f1 x1.1 x1.2
          refine hK _ _ ?_
          clear hK K
          refine wpAnyIn_ready (rs := [3]) (by kernel_rfl) (by simp) ?_
          refine AllReadyIn.cons rfl (fun K hK => ?_) ?_
          · go_simp
            refine hK _ _ ?_
            clear hK K
            refine wpAnyIn_ready (rs := [4]) (by kernel_rfl) (by simp) ?_
            refine AllReadyIn.cons rfl (fun K hK => ?_) ?_
            · go_simp
              refine hK _ _ ?_
              clear hK K
              refine wpAnyIn_done (by kernel_rfl) ?_ _
              have R6 := (G5.r.setL (k := x1.1) (v := 0) (L2 := fun k => if k = x1.1 then 0 else gotL GL pre k) (by simp) (fun i hi => by simp [hi])).setH (k := x1.1) (v := 20000) (H2 := fun k => if k = x1.1 then 20000 else gotL GH pre k) (by simp) (fun i hi => by simp [hi])
              have hBx2 : Bx < W.heap.size := World.block_lt_of_cell? W ⟨Bx, 0, none⟩ v0
              have z5 := hbW.size
              have F6 : GbF w W ((W5.setCell ⟨w.heap.size + 1 + 1, x1.1 * 2, none⟩ (.int .i64 0)).setCell ⟨w.heap.size + 1 + 1, x1.1 * 2 + 1, none⟩ (.int .i64 20000)) nm x y z rose step width gx gy size wide high (.slice (some ⟨fb, off, none⟩) len cap) w1.heap.size Bx (plX x rose step t ray x1.1) (plY y rose step t ray x1.1) g := gbf_set (by omega) hbW G5.s G5.f G5.l G5.b (by omega) hBx hBx2 v0 v1 (by omega)
              have y7 : w.heap.size + 7 ≤ ((W5.setCell ⟨w.heap.size + 1 + 1, x1.1 * 2, none⟩ (.int .i64 0)).setCell ⟨w.heap.size + 1 + 1, x1.1 * 2 + 1, none⟩ (.int .i64 20000)).heap.size := by simp; omega
              clear l5 a5 b5 u5 y5 G5 hbW hb5 z5
              generalize ((W5.setCell ⟨w.heap.size + 1 + 1, x1.1 * 2, none⟩ (.int .i64 0)).setCell ⟨w.heap.size + 1 + 1, x1.1 * 2 + 1, none⟩ (.int .i64 20000)) = W6 at *
              obtain ⟨S6, ⟨f0, f1, f2, f3, f4, f5⟩, l6, p0, p1, K6, KB6, B6⟩ := F6
              have y6 : w.heap.size + 1 < W6.heap.size := by omega
              gi_wp2_with fail
              refine ⟨trivial, ?_⟩
              refine (CallsIn.inRound l (callsIn_wide.2 (HP.out _))).mono ?_
              rintro e W7 ⟨rfl, hb7⟩
              have R7 := R6.keep hb7 (by omega)
              have F7 := (⟨S6, ⟨f0, f1, f2, f3, f4, f5⟩, l6, p0, p1, K6, KB6, B6⟩ : GbF w W W6 nm x y z rose step width gx gy size wide high (.slice (some ⟨fb, off, none⟩) len cap) w1.heap.size Bx (plX x rose step t ray x1.1) (plY y rose step t ray x1.1) g).keep hb7 (by omega)
              have y7 : w.heap.size + 7 ≤ W7.heap.size := Nat.le_trans y7 hb7.size
              clear S6 f0 f1 f2 f3 f4 f5 l6 p0 p1 K6 KB6 B6 R6 hb7
              have c7 := F7.l
              have f7 := F7.f.c5
              have q7 := keepB F7.b hfb (hs P hPl).1
              have q8 := keepB F7.b hfb (hs P hPl).2
              have a7 := R7.c0 x1.1 x1.2
              have b7 := R7.c1 x1.1 x1.2
              have u7 := R7.f0 x1.1 x1.2
              have v7 := R7.f1 x1.1 x1.2
              have P0 : (0 : Int) ≤ (P : Int) := by omega
              have P1 : (P : Int) < (len : Int) := by omega
              clear hG hlen
              gi_wp2_with fail
              refine region_round (by kernel_rfl) follows_any ?_
              refine wpAnyIn_take (i := 1) (v := ?_) rfl rfl (by kernel_rfl) (by kernel_rfl) (by kernel_rfl) (fun _ _ _ h => h) ⟨Or.inl ⟨by rfl, ?_⟩, fun _ => rfl⟩ ?_
              rotate_left
              · intro w; go_simp; try with_reducible rfl
              refine wpAnyIn_take (i := 2) (v := ?_) rfl rfl (by kernel_rfl) (by kernel_rfl) (by kernel_rfl) (fun _ _ _ h => h) ⟨Or.inl ⟨by rfl, ?_⟩, fun _ => rfl⟩ ?_
              rotate_left
              · intro w; go_simp; try with_reducible rfl
              refine wpAnyIn_take (i := 4) (v := ?_) rfl rfl (by kernel_rfl) (by kernel_rfl) (by kernel_rfl) (fun _ _ _ h => h) ⟨Or.inl ⟨by rfl, ?_⟩, fun _ => rfl⟩ ?_
              rotate_left
              · intro w; go_simp; try with_reducible rfl
              refine wpAnyIn_ready (rs := [0, 3]) (by kernel_rfl) (by simp) ?_
              refine AllReadyIn.cons rfl (fun K hK => ?_) ?_
              · go_simp
                refine hK _ _ ?_
                clear hK K
                refine wpAnyIn_ready (rs := [3]) (by kernel_rfl) (by simp) ?_
                refine AllReadyIn.cons rfl (fun K hK => ?_) ?_
                · go_simp
                  refine hK _ _ ?_
                  clear hK K
                  refine wpAnyIn_ready (rs := [5]) (by kernel_rfl) (by simp) ?_
                  refine AllReadyIn.cons rfl (fun K hK => ?_) ?_
                  · go_simp
                    refine hK _ _ ?_
                    clear hK K
                    refine wpAnyIn_ready (rs := [6]) (by kernel_rfl) (by simp) ?_
                    refine AllReadyIn.cons rfl (fun K hK => ?_) ?_
                    · go_simp
                      refine hK _ _ ?_
                      clear hK K
                      refine wpAnyIn_ready (rs := [7]) (by kernel_rfl) (by simp) ?_
                      refine AllReadyIn.cons rfl (fun K hK => ?_) ?_
                      · go_simp
                        refine hK _ _ ?_
                        clear hK K
                        refine wpAnyIn_ready (rs := [8]) (by kernel_rfl) (by simp) ?_
                        refine AllReadyIn.cons rfl (fun K hK => ?_) ?_
                        · go_simp
                          refine hK _ _ ?_
                          clear hK K
                          refine wpAnyIn_done (by kernel_rfl) ?_ _
                          gi_wp2
                          have D7 : Below W7.heap.size W7 W7.drew := (Below.refl _ _).drew
                          have R8 := ((R7.keep D7 (by omega)).setL (k := x1.1) (v := (zs P).1) (L2 := gotL GL (pre ++ [x1])) (by rw [gotL_snoc hGx.1, if_pos rfl]) (fun i hi => by rw [gotL_snoc hGx.1, if_neg hi, if_neg hi])).setH (k := x1.1) (v := (zs P).2) (H2 := gotL GH (pre ++ [x1])) (by rw [gotL_snoc hGx.2, if_pos rfl]) (fun i hi => by rw [gotL_snoc hGx.2, if_neg hi, if_neg hi])
                          have F8 := gbf_set2 (i := x1.1 * 2) (u := (zs P).1) (v := (zs P).2) (F7.keep D7 (by omega)) hBx
                          exact ⟨F8.k, F8.kb, ⟨F8.s, F8.f, F8.l, R8, by simp; omega, F8.b⟩, by simp; omega⟩
                        exact AllReadyIn.nil
                      exact AllReadyIn.nil
                    exact AllReadyIn.nil
                  exact AllReadyIn.nil
                exact AllReadyIn.nil
              refine AllReadyIn.cons rfl (fun K hK => ?_) ?_
              · go_simp
                refine hK _ _ ?_
                clear hK K
                refine wpAnyIn_ready (rs := [0, 5]) (by kernel_rfl) (by simp) ?_
                refine AllReadyIn.cons rfl (fun K hK => ?_) ?_
                · go_simp
                  refine hK _ _ ?_
                  clear hK K
                  refine wpAnyIn_ready (rs := [5]) (by kernel_rfl) (by simp) ?_
                  refine AllReadyIn.cons rfl (fun K hK => ?_) ?_
                  · go_simp
                    refine hK _ _ ?_
                    clear hK K
                    refine wpAnyIn_ready (rs := [6]) (by kernel_rfl) (by simp) ?_
                    refine AllReadyIn.cons rfl (fun K hK => ?_) ?_
                    · go_simp
                      refine hK _ _ ?_
                      clear hK K
                      refine wpAnyIn_ready (rs := [7]) (by kernel_rfl) (by simp) ?_
                      refine AllReadyIn.cons rfl (fun K hK => ?_) ?_
                      · go_simp
                        refine hK _ _ ?_
                        clear hK K
                        refine wpAnyIn_ready (rs := [8]) (by kernel_rfl) (by simp) ?_
                        refine AllReadyIn.cons rfl (fun K hK => ?_) ?_
                        · go_simp
                          refine hK _ _ ?_
                          clear hK K
                          refine wpAnyIn_done (by kernel_rfl) ?_ _
                          gi_wp2
                          have D7 : Below W7.heap.size W7 W7.drew := (Below.refl _ _).drew
                          have R8 := ((R7.keep D7 (by omega)).setL (k := x1.1) (v := (zs P).1) (L2 := gotL GL (pre ++ [x1])) (by rw [gotL_snoc hGx.1, if_pos rfl]) (fun i hi => by rw [gotL_snoc hGx.1, if_neg hi, if_neg hi])).setH (k := x1.1) (v := (zs P).2) (H2 := gotL GH (pre ++ [x1])) (by rw [gotL_snoc hGx.2, if_pos rfl]) (fun i hi => by rw [gotL_snoc hGx.2, if_neg hi, if_neg hi])
                          have F8 := gbf_set2 (i := x1.1 * 2) (u := (zs P).1) (v := (zs P).2) (F7.keep D7 (by omega)) hBx
                          exact ⟨F8.k, F8.kb, ⟨F8.s, F8.f, F8.l, R8, by simp; omega, F8.b⟩, by simp; omega⟩
                        exact AllReadyIn.nil
                      exact AllReadyIn.nil
                    exact AllReadyIn.nil
                  exact AllReadyIn.nil
                refine AllReadyIn.cons rfl (fun K hK => ?_) ?_
                · go_simp
                  refine hK _ _ ?_
                  clear hK K
                  refine wpAnyIn_ready (rs := [0, 6]) (by kernel_rfl) (by simp) ?_
                  refine AllReadyIn.cons rfl (fun K hK => ?_) ?_
                  · go_simp
                    refine hK _ _ ?_
                    clear hK K
                    refine wpAnyIn_ready (rs := [6]) (by kernel_rfl) (by simp) ?_
                    refine AllReadyIn.cons rfl (fun K hK => ?_) ?_
                    · go_simp
                      refine hK _ _ ?_
                      clear hK K
                      refine wpAnyIn_ready (rs := [7]) (by kernel_rfl) (by simp) ?_
                      refine AllReadyIn.cons rfl (fun K hK => ?_) ?_
                      · go_simp
                        refine hK _ _ ?_
                        clear hK K
                        refine wpAnyIn_ready (rs := [8]) (by kernel_rfl) (by simp) ?_
                        refine AllReadyIn.cons rfl (fun K hK => ?_) ?_
                        · go_simp
                          refine hK _ _ ?_
                          clear hK K
                          refine wpAnyIn_done (by kernel_rfl) ?_ _
                          gi_wp2
                          have D7 : Below W7.heap.size W7 W7.drew := (Below.refl _ _).drew
                          have R8 := ((R7.keep D7 (by omega)).setL (k := x1.1) (v := (zs P).1) (L2 := gotL GL (pre ++ [x1])) (by rw [gotL_snoc hGx.1, if_pos rfl]) (fun i hi => by rw [gotL_snoc hGx.1, if_neg hi, if_neg hi])).setH (k := x1.1) (v := (zs P).2) (H2 := gotL GH (pre ++ [x1])) (by rw [gotL_snoc hGx.2, if_pos rfl]) (fun i hi => by rw [gotL_snoc hGx.2, if_neg hi, if_neg hi])
                          have F8 := gbf_set2 (i := x1.1 * 2) (u := (zs P).1) (v := (zs P).2) (F7.keep D7 (by omega)) hBx
                          exact ⟨F8.k, F8.kb, ⟨F8.s, F8.f, F8.l, R8, by simp; omega, F8.b⟩, by simp; omega⟩
                        exact AllReadyIn.nil
                      exact AllReadyIn.nil
                    exact AllReadyIn.nil
                  refine AllReadyIn.cons rfl (fun K hK => ?_) ?_
                  · go_simp
                    refine hK _ _ ?_
                    clear hK K
                    refine wpAnyIn_ready (rs := [0]) (by kernel_rfl) (by simp) ?_
                    refine AllReadyIn.cons rfl (fun K hK => ?_) ?_
                    · go_simp
                      refine hK _ _ ?_
                      clear hK K
                      refine wpAnyIn_ready (rs := [7]) (by kernel_rfl) (by simp) ?_
                      refine AllReadyIn.cons rfl (fun K hK => ?_) ?_
                      · go_simp
                        refine hK _ _ ?_
                        clear hK K
                        refine wpAnyIn_ready (rs := [8]) (by kernel_rfl) (by simp) ?_
                        refine AllReadyIn.cons rfl (fun K hK => ?_) ?_
                        · go_simp
                          refine hK _ _ ?_
                          clear hK K
                          refine wpAnyIn_done (by kernel_rfl) ?_ _
                          gi_wp2
                          have D7 : Below W7.heap.size W7 W7.drew := (Below.refl _ _).drew
                          have R8 := ((R7.keep D7 (by omega)).setL (k := x1.1) (v := (zs P).1) (L2 := gotL GL (pre ++ [x1])) (by rw [gotL_snoc hGx.1, if_pos rfl]) (fun i hi => by rw [gotL_snoc hGx.1, if_neg hi, if_neg hi])).setH (k := x1.1) (v := (zs P).2) (H2 := gotL GH (pre ++ [x1])) (by rw [gotL_snoc hGx.2, if_pos rfl]) (fun i hi => by rw [gotL_snoc hGx.2, if_neg hi, if_neg hi])
                          have F8 := gbf_set2 (i := x1.1 * 2) (u := (zs P).1) (v := (zs P).2) (F7.keep D7 (by omega)) hBx
                          exact ⟨F8.k, F8.kb, ⟨F8.s, F8.f, F8.l, R8, by simp; omega, F8.b⟩, by simp; omega⟩
                        exact AllReadyIn.nil
                      exact AllReadyIn.nil
                    exact AllReadyIn.nil
                  exact AllReadyIn.nil
                exact AllReadyIn.nil
              exact AllReadyIn.nil
            exact AllReadyIn.nil
          exact AllReadyIn.nil
        exact AllReadyIn.nil
      refine AllReadyIn.cons rfl (fun K hK => ?_) ?_
      · go_simp
        refine ⟨trivial, ?_⟩
        refine (callsIn_wide.2 (unknownGround_any _)).mono ?_
        rintro e W5 ⟨rfl, hb5⟩
        have hbW : Below W.heap.size W W5 := (Below.refl W.heap.size W).drew.trans hb5
        have G5 := GI.keep hbW (by omega)
        have l5 := G5.l
        have a5 := G5.r.c0 x1.1 x1.2
        have b5 := G5.r.c1 x1.1 x1.2
        have u5 := G5.r.f0 x1.1 x1.2
        have y5 := G5.r.f1 x1.1 x1.2
        refine hK _ _ ?_
        clear hK K
        refine wpAnyIn_ready (rs := [0]) (by kernel_rfl) (by simp) ?_
        refine AllReadyIn.cons rfl (fun K hK => ?_) ?_
        · go_simp
          refine hK _ _ ?_
          clear hK K
          refine wpAnyIn_ready (rs := [3]) (by kernel_rfl) (by simp) ?_
          refine AllReadyIn.cons rfl (fun K hK => ?_) ?_
          · go_simp
            refine hK _ _ ?_
            clear hK K
            refine wpAnyIn_ready (rs := [4]) (by kernel_rfl) (by simp) ?_
            refine AllReadyIn.cons rfl (fun K hK => ?_) ?_
            · go_simp
              refine hK _ _ ?_
              clear hK K
              refine wpAnyIn_done (by kernel_rfl) ?_ _
              have R6 := (G5.r.setL (k := x1.1) (v := 0) (L2 := fun k => if k = x1.1 then 0 else gotL GL pre k) (by simp) (fun i hi => by simp [hi])).setH (k := x1.1) (v := 20000) (H2 := fun k => if k = x1.1 then 20000 else gotL GH pre k) (by simp) (fun i hi => by simp [hi])
              have hBx2 : Bx < W.heap.size := World.block_lt_of_cell? W ⟨Bx, 0, none⟩ v0
              have z5 := hbW.size
              have F6 : GbF w W ((W5.setCell ⟨w.heap.size + 1 + 1, x1.1 * 2, none⟩ (.int .i64 0)).setCell ⟨w.heap.size + 1 + 1, x1.1 * 2 + 1, none⟩ (.int .i64 20000)) nm x y z rose step width gx gy size wide high (.slice (some ⟨fb, off, none⟩) len cap) w1.heap.size Bx (plX x rose step t ray x1.1) (plY y rose step t ray x1.1) g := gbf_set (by omega) hbW G5.s G5.f G5.l G5.b (by omega) hBx hBx2 v0 v1 (by omega)
              have y7 : w.heap.size + 7 ≤ ((W5.setCell ⟨w.heap.size + 1 + 1, x1.1 * 2, none⟩ (.int .i64 0)).setCell ⟨w.heap.size + 1 + 1, x1.1 * 2 + 1, none⟩ (.int .i64 20000)).heap.size := by simp; omega
              clear l5 a5 b5 u5 y5 G5 hbW hb5 z5
              generalize ((W5.setCell ⟨w.heap.size + 1 + 1, x1.1 * 2, none⟩ (.int .i64 0)).setCell ⟨w.heap.size + 1 + 1, x1.1 * 2 + 1, none⟩ (.int .i64 20000)) = W6 at *
              obtain ⟨S6, ⟨f0, f1, f2, f3, f4, f5⟩, l6, p0, p1, K6, KB6, B6⟩ := F6
              have y6 : w.heap.size + 1 < W6.heap.size := by omega
              gi_wp2_with fail
              refine ⟨trivial, ?_⟩
              refine (CallsIn.inRound l (callsIn_wide.2 (HP.out _))).mono ?_
              rintro e W7 ⟨rfl, hb7⟩
              have R7 := R6.keep hb7 (by omega)
              have F7 := (⟨S6, ⟨f0, f1, f2, f3, f4, f5⟩, l6, p0, p1, K6, KB6, B6⟩ : GbF w W W6 nm x y z rose step width gx gy size wide high (.slice (some ⟨fb, off, none⟩) len cap) w1.heap.size Bx (plX x rose step t ray x1.1) (plY y rose step t ray x1.1) g).keep hb7 (by omega)
              have y7 : w.heap.size + 7 ≤ W7.heap.size := Nat.le_trans y7 hb7.size
              clear S6 f0 f1 f2 f3 f4 f5 l6 p0 p1 K6 KB6 B6 R6 hb7
              have c7 := F7.l
              have f7 := F7.f.c5
              have q7 := keepB F7.b hfb (hs P hPl).1
              have q8 := keepB F7.b hfb (hs P hPl).2
              have a7 := R7.c0 x1.1 x1.2
              have b7 := R7.c1 x1.1 x1.2
              have u7 := R7.f0 x1.1 x1.2
              have v7 := R7.f1 x1.1 x1.2
              have P0 : (0 : Int) ≤ (P : Int) := by omega
              have P1 : (P : Int) < (len : Int) := by omega
              clear hG hlen
              gi_wp2_with fail
              refine region_round (by kernel_rfl) follows_any ?_
              refine wpAnyIn_take (i := 1) (v := ?_) rfl rfl (by kernel_rfl) (by kernel_rfl) (by kernel_rfl) (fun _ _ _ h => h) ⟨Or.inl ⟨by rfl, ?_⟩, fun _ => rfl⟩ ?_
              rotate_left
              · intro w; go_simp; try with_reducible rfl
              refine wpAnyIn_take (i := 2) (v := ?_) rfl rfl (by kernel_rfl) (by kernel_rfl) (by kernel_rfl) (fun _ _ _ h => h) ⟨Or.inl ⟨by rfl, ?_⟩, fun _ => rfl⟩ ?_
              rotate_left
              · intro w; go_simp; try with_reducible rfl
              refine wpAnyIn_take (i := 4) (v := ?_) rfl rfl (by kernel_rfl) (by kernel_rfl) (by kernel_rfl) (fun _ _ _ h => h) ⟨Or.inl ⟨by rfl, ?_⟩, fun _ => rfl⟩ ?_
              rotate_left
              · intro w; go_simp; try with_reducible rfl
              refine wpAnyIn_ready (rs := [0, 3]) (by kernel_rfl) (by simp) ?_
              refine AllReadyIn.cons rfl (fun K hK => ?_) ?_
              · go_simp
                refine hK _ _ ?_
                clear hK K
                refine wpAnyIn_ready (rs := [3]) (by kernel_rfl) (by simp) ?_
                refine AllReadyIn.cons rfl (fun K hK => ?_) ?_
                · go_simp
                  refine hK _ _ ?_
                  clear hK K
                  refine wpAnyIn_ready (rs := [5]) (by kernel_rfl) (by simp) ?_
                  refine AllReadyIn.cons rfl (fun K hK => ?_) ?_
                  · go_simp
                    refine hK _ _ ?_
                    clear hK K
                    refine wpAnyIn_ready (rs := [6]) (by kernel_rfl) (by simp) ?_
                    refine AllReadyIn.cons rfl (fun K hK => ?_) ?_
                    · go_simp
                      refine hK _ _ ?_
                      clear hK K
                      refine wpAnyIn_ready (rs := [7]) (by kernel_rfl) (by simp) ?_
                      refine AllReadyIn.cons rfl (fun K hK => ?_) ?_
                      · go_simp
                        refine hK _ _ ?_
                        clear hK K
                        refine wpAnyIn_ready (rs := [8]) (by kernel_rfl) (by simp) ?_
                        refine AllReadyIn.cons rfl (fun K hK => ?_) ?_
                        · go_simp
                          refine hK _ _ ?_
                          clear hK K
                          refine wpAnyIn_done (by kernel_rfl) ?_ _
                          gi_wp2
                          have D7 : Below W7.heap.size W7 W7.drew := (Below.refl _ _).drew
                          have R8 := ((R7.keep D7 (by omega)).setL (k := x1.1) (v := (zs P).1) (L2 := gotL GL (pre ++ [x1])) (by rw [gotL_snoc hGx.1, if_pos rfl]) (fun i hi => by rw [gotL_snoc hGx.1, if_neg hi, if_neg hi])).setH (k := x1.1) (v := (zs P).2) (H2 := gotL GH (pre ++ [x1])) (by rw [gotL_snoc hGx.2, if_pos rfl]) (fun i hi => by rw [gotL_snoc hGx.2, if_neg hi, if_neg hi])
                          have F8 := gbf_set2 (i := x1.1 * 2) (u := (zs P).1) (v := (zs P).2) (F7.keep D7 (by omega)) hBx
                          exact ⟨F8.k, F8.kb, ⟨F8.s, F8.f, F8.l, R8, by simp; omega, F8.b⟩, by simp; omega⟩
                        exact AllReadyIn.nil
                      exact AllReadyIn.nil
                    exact AllReadyIn.nil
                  exact AllReadyIn.nil
                exact AllReadyIn.nil
              refine AllReadyIn.cons rfl (fun K hK => ?_) ?_
              · go_simp
                refine hK _ _ ?_
                clear hK K
                refine wpAnyIn_ready (rs := [0, 5]) (by kernel_rfl) (by simp) ?_
                refine AllReadyIn.cons rfl (fun K hK => ?_) ?_
                · go_simp
                  refine hK _ _ ?_
                  clear hK K
                  refine wpAnyIn_ready (rs := [5]) (by kernel_rfl) (by simp) ?_
                  refine AllReadyIn.cons rfl (fun K hK => ?_) ?_
                  · go_simp
                    refine hK _ _ ?_
                    clear hK K
                    refine wpAnyIn_ready (rs := [6]) (by kernel_rfl) (by simp) ?_
                    refine AllReadyIn.cons rfl (fun K hK => ?_) ?_
                    · go_simp
                      refine hK _ _ ?_
                      clear hK K
                      refine wpAnyIn_ready (rs := [7]) (by kernel_rfl) (by simp) ?_
                      refine AllReadyIn.cons rfl (fun K hK => ?_) ?_
                      · go_simp
                        refine hK _ _ ?_
                        clear hK K
                        refine wpAnyIn_ready (rs := [8]) (by kernel_rfl) (by simp) ?_
                        refine AllReadyIn.cons rfl (fun K hK => ?_) ?_
                        · go_simp
                          refine hK _ _ ?_
                          clear hK K
                          refine wpAnyIn_done (by kernel_rfl) ?_ _
                          gi_wp2
                          have D7 : Below W7.heap.size W7 W7.drew := (Below.refl _ _).drew
                          have R8 := ((R7.keep D7 (by omega)).setL (k := x1.1) (v := (zs P).1) (L2 := gotL GL (pre ++ [x1])) (by rw [gotL_snoc hGx.1, if_pos rfl]) (fun i hi => by rw [gotL_snoc hGx.1, if_neg hi, if_neg hi])).setH (k := x1.1) (v := (zs P).2) (H2 := gotL GH (pre ++ [x1])) (by rw [gotL_snoc hGx.2, if_pos rfl]) (fun i hi => by rw [gotL_snoc hGx.2, if_neg hi, if_neg hi])
                          have F8 := gbf_set2 (i := x1.1 * 2) (u := (zs P).1) (v := (zs P).2) (F7.keep D7 (by omega)) hBx
                          exact ⟨F8.k, F8.kb, ⟨F8.s, F8.f, F8.l, R8, by simp; omega, F8.b⟩, by simp; omega⟩
                        exact AllReadyIn.nil
                      exact AllReadyIn.nil
                    exact AllReadyIn.nil
                  exact AllReadyIn.nil
                refine AllReadyIn.cons rfl (fun K hK => ?_) ?_
                · go_simp
                  refine hK _ _ ?_
                  clear hK K
                  refine wpAnyIn_ready (rs := [0, 6]) (by kernel_rfl) (by simp) ?_
                  refine AllReadyIn.cons rfl (fun K hK => ?_) ?_
                  · go_simp
                    refine hK _ _ ?_
                    clear hK K
                    refine wpAnyIn_ready (rs := [6]) (by kernel_rfl) (by simp) ?_
                    refine AllReadyIn.cons rfl (fun K hK => ?_) ?_
                    · go_simp
                      refine hK _ _ ?_
                      clear hK K
                      refine wpAnyIn_ready (rs := [7]) (by kernel_rfl) (by simp) ?_
                      refine AllReadyIn.cons rfl (fun K hK => ?_) ?_
                      · go_simp
                        refine hK _ _ ?_
                        clear hK K
                        refine wpAnyIn_ready (rs := [8]) (by kernel_rfl) (by simp) ?_
                        refine AllReadyIn.cons rfl (fun K hK => ?_) ?_
                        · go_simp
                          refine hK _ _ ?_
                          clear hK K
                          refine wpAnyIn_done (by kernel_rfl) ?_ _
                          gi_wp2
                          have D7 : Below W7.heap.size W7 W7.drew := (Below.refl _ _).drew
                          have R8 := ((R7.keep D7 (by omega)).setL (k := x1.1) (v := (zs P).1) (L2 := gotL GL (pre ++ [x1])) (by rw [gotL_snoc hGx.1, if_pos rfl]) (fun i hi => by rw [gotL_snoc hGx.1, if_neg hi, if_neg hi])).setH (k := x1.1) (v := (zs P).2) (H2 := gotL GH (pre ++ [x1])) (by rw [gotL_snoc hGx.2, if_pos rfl]) (fun i hi => by rw [gotL_snoc hGx.2, if_neg hi, if_neg hi])
                          have F8 := gbf_set2 (i := x1.1 * 2) (u := (zs P).1) (v := (zs P).2) (F7.keep D7 (by omega)) hBx
                          exact ⟨F8.k, F8.kb, ⟨F8.s, F8.f, F8.l, R8, by simp; omega, F8.b⟩, by simp; omega⟩
                        exact AllReadyIn.nil
                      exact AllReadyIn.nil
                    exact AllReadyIn.nil
                  refine AllReadyIn.cons rfl (fun K hK => ?_) ?_
                  · go_simp
                    refine hK _ _ ?_
                    clear hK K
                    refine wpAnyIn_ready (rs := [0]) (by kernel_rfl) (by simp) ?_
                    refine AllReadyIn.cons rfl (fun K hK => ?_) ?_
                    · go_simp
                      refine hK _ _ ?_
                      clear hK K
                      refine wpAnyIn_ready (rs := [7]) (by kernel_rfl) (by simp) ?_
                      refine AllReadyIn.cons rfl (fun K hK => ?_) ?_
                      · go_simp
                        refine hK _ _ ?_
                        clear hK K
                        refine wpAnyIn_ready (rs := [8]) (by kernel_rfl) (by simp) ?_
                        refine AllReadyIn.cons rfl (fun K hK => ?_) ?_
                        · go_simp
                          refine hK _ _ ?_
                          clear hK K
                          refine wpAnyIn_done (by kernel_rfl) ?_ _
                          gi_wp2
                          have D7 : Below W7.heap.size W7 W7.drew := (Below.refl _ _).drew
                          have R8 := ((R7.keep D7 (by omega)).setL (k := x1.1) (v := (zs P).1) (L2 := gotL GL (pre ++ [x1])) (by rw [gotL_snoc hGx.1, if_pos rfl]) (fun i hi => by rw [gotL_snoc hGx.1, if_neg hi, if_neg hi])).setH (k := x1.1) (v := (zs P).2) (H2 := gotL GH (pre ++ [x1])) (by rw [gotL_snoc hGx.2, if_pos rfl]) (fun i hi => by rw [gotL_snoc hGx.2, if_neg hi, if_neg hi])
                          have F8 := gbf_set2 (i := x1.1 * 2) (u := (zs P).1) (v := (zs P).2) (F7.keep D7 (by omega)) hBx
                          exact ⟨F8.k, F8.kb, ⟨F8.s, F8.f, F8.l, R8, by simp; omega, F8.b⟩, by simp; omega⟩
                        exact AllReadyIn.nil
                      exact AllReadyIn.nil
                    exact AllReadyIn.nil
                  exact AllReadyIn.nil
                exact AllReadyIn.nil
              exact AllReadyIn.nil
            exact AllReadyIn.nil
          exact AllReadyIn.nil
        exact AllReadyIn.nil
      exact AllReadyIn.nil
  case done =>
    rintro D ys W hD rfl ⟨GI, hz⟩ hK
    have cl := GI.l
    gi_wp2
    refine ⟨by simp, .inl ⟨_, _, rfl, run_takeDeferred hK, ?_⟩⟩
    have G2 := (GbI.own (B := w1.heap.size) (by omega)) _ W _ (some D) GI (grownBy_putObj' W D (.deferred none)) (fun r e => by cases e; exact ⟨hD, _, hK, rfl⟩)
    exact ⟨_, results_tmp rfl _ _ _, _, rfl, G2.r.ext (fun k hk => by unfold gotL; rw [has_all hk]; rfl) (fun k hk => by unfold gotL; rw [has_all hk]; rfl), by omega, by have := G2.z; omega, G2.b⟩
  case stop =>
    rintro D c pre W _ _ h _
    exact h.elim

end Go.Proofs.Ythnjfnapjpdchaa

namespace Go.Proofs.Ythnjfnapjpdchaa
open Go.RowKit
set_option linter.unusedVariables false

theorem ground_code {gx gy size wide high : Int} {len : Nat} {zs : Nat → Int × Int} (h : fieldC gx gy size wide high len zs 1073741824 = 0) : fieldC gx gy size wide high len zs 20000 = spansC len zs 0 20000 := by
  by_cases hg : gridC gx gy size wide high = 0
  · by_cases h2 : (len : Int) = wide * high
    · exact fieldC_spans hg h2
    · rw [fieldC_shape hg h2] at h; cases h
  · rw [fieldC_grid hg] at h; exact absurd h hg
theorem ground_err {gx gy size wide high : Int} {len : Nat} {zs : Nat → Int × Int} (h : fieldC gx gy size wide high len zs 1073741824 ≠ 0) : fieldC gx gy size wide high len zs 20000 = fieldC gx gy size wide high len zs 1073741824 := by
  by_cases hg : gridC gx gy size wide high = 0
  · by_cases h2 : (len : Int) = wide * high
    · rw [fieldC_spans hg h2] at h ⊢
      rw [fieldC_spans hg h2]
      have hn : ¬ AllIn len zs 0 1073741824 := fun h3 => h (spansC_ok h3)
      have hn2 : ¬ AllIn len zs 0 20000 := fun h3 => hn (fun j hj => by have := spanB_true.1 (h3 j hj); exact spanB_true.2 ⟨this.1, this.2.1, by omega⟩)
      unfold spansC
      rw [@if_neg _ (Classical.propDecidable _) hn, @if_neg _ (Classical.propDecidable _) hn2]
    · rw [fieldC_shape hg h2, fieldC_shape hg h2]
  · rw [fieldC_grid hg, fieldC_grid hg]
theorem ground_zero {gx gy size wide high : Int} {len : Nat} {zs : Nat → Int × Int} (h : fieldC gx gy size wide high len zs 20000 = 0) : gridC gx gy size wide high = 0 ∧ (len : Int) = wide * high ∧ AllIn len zs 0 20000 := by
  by_cases hg : gridC gx gy size wide high = 0
  · by_cases h2 : (len : Int) = wide * high
    · refine ⟨hg, h2, ?_⟩
      rw [fieldC_spans hg h2] at h
      by_cases h3 : AllIn len zs 0 20000
      · exact h3
      · unfold spansC at h; rw [@if_neg _ (Classical.propDecidable _) h3] at h; cases h
    · rw [fieldC_shape hg h2] at h; cases h
  · rw [fieldC_grid hg] at h; exact absurd h hg

set_option maxHeartbeats 1600000 in
theorem checkGround_err (gx gy size wide high : Int) (a : Option Addr) (len cap : Nat) (zs : Nat → Int × Int) (w : World) (hl : len ≤ 1000000) (hs : SliceIs w a len cap zs) (hne : (fieldC gx gy size wide high len zs 1073741824 != 0) = true) :
    Calls Try.prog 85 #[.agg #[.int .i64 gx, .int .i64 gy, .int .i64 size, .int .i64 wide, .int .i64 high, .slice a len cap]] w fun e w' => e = .returned (.int .i64 (fieldC gx gy size wide high len zs 1073741824)) ∧ Below w.heap.size w w' := by
  have HS := Lib.hid hs
  clear hs
  go_enter Try.func85, Try.ntmps85
  go_wp2_with fail
  refine (CheckField_any _ _ _ _ _ _ _ _ zs _ hl (HS.out.keep (below_alloc _ _))).mono ?_; rintro e w1 ⟨rfl, hb1⟩
  go_wp2
  go_ret
  exact ⟨rfl, Below.trans (below_alloc _ _) (hb1.mono (by simp))⟩

set_option maxHeartbeats 1600000 in
theorem checkGround_ok (gx gy size wide high : Int) (a : Option Addr) (len cap : Nat) (zs : Nat → Int × Int) (w : World) (hl : len ≤ 1000000) (hs : SliceIs w a len cap zs) (h0 : fieldC gx gy size wide high len zs 1073741824 = 0) :
    Calls Try.prog 85 #[.agg #[.int .i64 gx, .int .i64 gy, .int .i64 size, .int .i64 wide, .int .i64 high, .slice a len cap]] w fun e w' => e = .returned (.int .i64 (spansC len zs 0 20000)) ∧ Below w.heap.size w w' := by
  have HS := Lib.hid hs
  have H0 := Lib.hid h0
  clear hs h0
  go_enter Try.func85, Try.ntmps85
  go_wp2_with fail
  refine (CheckField_any _ _ _ _ _ _ _ _ zs _ hl (HS.out.keep (below_alloc _ _))).mono ?_; rintro e w1 ⟨rfl, hb1⟩
  have hbw : Below w.heap.size w w1 := Below.trans (below_alloc _ _) (hb1.mono (by simp))
  have hz : w.heap.size < w1.heap.size := by have := hb1.size; simp at this; omega
  have f5 : w1.cell? ⟨w.heap.size, 5, none⟩ = some (.slice a len cap) := keepB hb1 (by simp) (alloc_new rfl rfl)
  have LEAD := Lib.hid (show (fun w' : World => w'.cell? ⟨w.heap.size, 5, none⟩ = some (.slice a len cap) ∧ w.heap.size < w'.heap.size ∧ Below w.heap.size w w') w1.drew from ⟨by simp; exact f5, by simp; omega, hbw.drew⟩)
  clear hb1 hbw hz
  rw [H0.out]
  go_wp2
  clear f5
  go_region_held3 (fun w' => w'.cell? ⟨w.heap.size, 5, none⟩ = some (.slice a len cap) ∧ w.heap.size < w'.heap.size ∧ Below w.heap.size w w')
    (first | exact LEAD.out | (go_split_ands; refine ⟨?_, ?_, ?_⟩ <;> first | assumption | exact keepB hb4 (by omega) (by assumption) | (have := hb4.size; omega) | exact Below.trans (by assumption) (hb4.mono (by omega))))
    (first | (go_at_call 100; refine (unknownGround_any _).mono ?_; rintro e w5 ⟨rfl, hb4⟩) | (go_at_call 61; go_split_ands; refine (checkSpans_any _ _ _ zs _ _ _ hl (HS.out.keep (by assumption))).mono ?_; rintro e w5 ⟨rfl, hb4⟩))
  go_split_ands
  go_wp2
  go_ret
  exact ⟨rfl, by assumption⟩

theorem checkGround_any (gx gy size wide high : Int) (a : Option Addr) (len cap : Nat) (zs : Nat → Int × Int) (w : World) (hl : len ≤ 1000000) (hs : SliceIs w a len cap zs) :
    Calls Try.prog 85 #[.agg #[.int .i64 gx, .int .i64 gy, .int .i64 size, .int .i64 wide, .int .i64 high, .slice a len cap]] w fun e w' => e = .returned (.int .i64 (fieldC gx gy size wide high len zs 20000)) ∧ Below w.heap.size w w' := by
  by_cases h : fieldC gx gy size wide high len zs 1073741824 = 0
  · rw [ground_code h]; exact checkGround_ok _ _ _ _ _ a len cap zs w hl hs h
  · rw [ground_err h]; exact checkGround_err _ _ _ _ _ a len cap zs w hl hs (bne_iff_ne.2 h)

/-- a site, an earth and a field in boxes -/
structure SEF (w w' : World) (nm : ByteArray) (x y z rose gates step width lo hi gx gy size wide high : Int) (sl : Value) : Prop where
  s : SiteAt w' w.heap.size nm x y z rose gates step width
  e : PairAt w' (w.heap.size + 1) (.int .i64 lo) (.int .i64 hi)
  f : FieldAt w' (w.heap.size + 1 + 1) gx gy size wide high sl
  z : w.heap.size + 3 ≤ w'.heap.size
  b : Below w.heap.size w w'
theorem SEF.new (w : World) (nm : ByteArray) (x y z rose gates step width lo hi gx gy size wide high : Int) (sl : Value) : SEF w (((w.alloc (.cells #[.string nm, .int .i64 x, .int .i64 y, .int .i64 z, .int .i64 rose, .int .i64 gates, .int .i64 step, .int .i64 width] 23)).alloc (.cells #[.int .i64 lo, .int .i64 hi] 43)).alloc (.cells #[.int .i64 gx, .int .i64 gy, .int .i64 size, .int .i64 wide, .int .i64 high, sl] 28)) nm x y z rose gates step width lo hi gx gy size wide high sl := by
  obtain ⟨A1, e1⟩ : ∃ A, A = w.alloc (.cells #[.string nm, .int .i64 x, .int .i64 y, .int .i64 z, .int .i64 rose, .int .i64 gates, .int .i64 step, .int .i64 width] 23) := ⟨_, rfl⟩
  obtain ⟨A2, e2⟩ : ∃ A, A = A1.alloc (.cells #[.int .i64 lo, .int .i64 hi] 43) := ⟨_, rfl⟩
  obtain ⟨A3, e3⟩ : ∃ A, A = A2.alloc (.cells #[.int .i64 gx, .int .i64 gy, .int .i64 size, .int .i64 wide, .int .i64 high, sl] 28) := ⟨_, rfl⟩
  have s1 : A1.heap.size = w.heap.size + 1 := by rw [e1]; exact World.size_alloc _ _
  have s2 : A2.heap.size = w.heap.size + 1 + 1 := by rw [e2, World.size_alloc, s1]
  have s3 : A3.heap.size = w.heap.size + 3 := by rw [e3, World.size_alloc, s2]
  have b1 : Below w.heap.size w A1 := by rw [e1]; exact below_alloc _ _
  have b2 : Below A1.heap.size A1 A2 := by rw [e2]; exact below_alloc _ _
  have b3 : Below A2.heap.size A2 A3 := by rw [e3]; exact below_alloc _ _
  have c13 : Below A1.heap.size A1 A3 := b2.trans (b3.mono (by omega))
  have S0 : SiteAt A1 w.heap.size nm x y z rose gates step width := by rw [e1]; exact SiteAt.new _ _ _ _ _ _ _ _ _
  have E0 : PairAt A2 (w.heap.size + 1) (.int .i64 lo) (.int .i64 hi) := by rw [e2, ← s1]; exact PairAt.new _ _ _ _
  have F0 : FieldAt A3 (w.heap.size + 1 + 1) gx gy size wide high sl := by rw [e3, ← s2]; exact FieldAt.new _ _ _ _ _ _ _
  rw [← e1, ← e2, ← e3]
  exact ⟨S0.keep c13 (by omega), E0.keep b3 (by omega), F0, by omega, b1.trans (c13.mono (by omega))⟩
theorem SEF.keep {w W w1 : World} {B : Nat} {nm : ByteArray} {x y z rose gates step width lo hi gx gy size wide high : Int} {sl : Value} (t : SEF w W nm x y z rose gates step width lo hi gx gy size wide high sl) (hb : Below B W w1) (h : w.heap.size + 3 ≤ B) : SEF w w1 nm x y z rose gates step width lo hi gx gy size wide high sl :=
  ⟨t.s.keep hb (by omega), t.e.keep hb (by omega), t.f.keep hb (by omega), Nat.le_trans t.z hb.size, t.b.trans (hb.mono (by omega))⟩

set_option maxRecDepth 100000 in
set_option maxHeartbeats 3200000 in
theorem Blocked_site (nm : ByteArray) (x y z rose gates step width lo hi gx gy size wide high : Int) (fa : Option Addr) (len cap : Nat) (zs : Nat → Int × Int) (t ray : Int) (w : World) (hs : nm.size ≤ maxLen) (hl : len ≤ 1000000) (hsl : SliceIs w fa len cap zs) (hne : (siteC nm x y z rose gates step width != 0) = true) :
    Calls Try.prog 46 #[.agg #[.string nm, .int .i64 x, .int .i64 y, .int .i64 z, .int .i64 rose, .int .i64 gates, .int .i64 step, .int .i64 width], .int .i64 t, .agg #[.int .i64 lo, .int .i64 hi], .agg #[.int .i64 gx, .int .i64 gy, .int .i64 size, .int .i64 wide, .int .i64 high, .slice fa len cap], .int .i64 ray] w fun e w' => e = .returned (.tuple #[.slice none 0 0, .int .i64 (siteC nm x y z rose gates step width)]) ∧ Below w.heap.size w w' := by
  have HS := Lib.hid hs
  have HSL := Lib.hid hsl
  clear hs hsl
  go_enter Try.func46, Try.ntmps46
  go_wp2_with fail
  refine (CheckSite_any _ _ _ _ _ _ _ _ _ HS.out).mono ?_; rintro e w1 ⟨rfl, hb1⟩
  have O1 := (SEF.new w nm x y z rose gates step width lo hi gx gy size wide high (.slice fa len cap)).keep hb1 (by simp)
  clear hb1
  obtain ⟨⟨k0, k1, k2, k3, k4, k5, k6, k7⟩, ⟨p0, p1⟩, ⟨f0, f1, f2, f3, f4, f5⟩, hz, hbw⟩ := O1
  have y0 : w.heap.size < w1.heap.size := by omega
  have y1 : w.heap.size + 1 < w1.heap.size := by omega
  have y2 : w.heap.size + 1 + 1 < w1.heap.size := by omega
  go_wp2
  go_ret2
  exact ⟨rfl, hbw⟩

set_option maxRecDepth 100000 in
set_option maxHeartbeats 3200000 in
theorem Blocked_ground (nm : ByteArray) (x y z rose gates step width lo hi gx gy size wide high : Int) (fa : Option Addr) (len cap : Nat) (zs : Nat → Int × Int) (t ray : Int) (w : World) (hs : nm.size ≤ maxLen) (hl : len ≤ 1000000) (hsl : SliceIs w fa len cap zs) (h0 : siteC nm x y z rose gates step width = 0) (hne : (fieldC gx gy size wide high len zs 20000 != 0) = true) :
    Calls Try.prog 46 #[.agg #[.string nm, .int .i64 x, .int .i64 y, .int .i64 z, .int .i64 rose, .int .i64 gates, .int .i64 step, .int .i64 width], .int .i64 t, .agg #[.int .i64 lo, .int .i64 hi], .agg #[.int .i64 gx, .int .i64 gy, .int .i64 size, .int .i64 wide, .int .i64 high, .slice fa len cap], .int .i64 ray] w fun e w' => e = .returned (.tuple #[.slice none 0 0, .int .i64 (fieldC gx gy size wide high len zs 20000)]) ∧ Below w.heap.size w w' := by
  have HS := Lib.hid hs
  have HSL := Lib.hid hsl
  clear hs hsl
  have H0 := Lib.hid h0
  clear h0
  go_enter Try.func46, Try.ntmps46
  go_wp2_with fail
  refine (CheckSite_any _ _ _ _ _ _ _ _ _ HS.out).mono ?_; rintro e w1 ⟨rfl, hb1⟩
  have O1 := (SEF.new w nm x y z rose gates step width lo hi gx gy size wide high (.slice fa len cap)).keep hb1 (by simp)
  clear hb1
  obtain ⟨⟨k0, k1, k2, k3, k4, k5, k6, k7⟩, ⟨p0, p1⟩, ⟨f0, f1, f2, f3, f4, f5⟩, hz, hbw⟩ := O1
  have y0 : w.heap.size < w1.heap.size := by omega
  have y1 : w.heap.size + 1 < w1.heap.size := by omega
  have y2 : w.heap.size + 1 + 1 < w1.heap.size := by omega
  rw [H0.out]
  go_wp2_with fail
  refine (checkGround_any _ _ _ _ _ fa len cap zs _ hl (HSL.out.keep hbw)).mono ?_; rintro e w2 ⟨rfl, hb2⟩
  have O2 := (⟨⟨k0, k1, k2, k3, k4, k5, k6, k7⟩, ⟨p0, p1⟩, ⟨f0, f1, f2, f3, f4, f5⟩, hz, hbw⟩ : SEF w w1 nm x y z rose gates step width lo hi gx gy size wide high (.slice fa len cap)).keep hb2 hz
  clear k0 k1 k2 k3 k4 k5 k6 k7 p0 p1 f0 f1 f2 f3 f4 f5 hz hbw y0 y1 y2 hb2
  obtain ⟨⟨k0, k1, k2, k3, k4, k5, k6, k7⟩, ⟨p0, p1⟩, ⟨f0, f1, f2, f3, f4, f5⟩, hz, hbw⟩ := O2
  have y0 : w.heap.size < w2.heap.size := by omega
  have y1 : w.heap.size + 1 < w2.heap.size := by omega
  have y2 : w.heap.size + 1 + 1 < w2.heap.size := by omega
  go_wp2
  go_ret2
  exact ⟨rfl, hbw⟩

set_option maxRecDepth 100000 in
set_option maxHeartbeats 3200000 in
theorem Blocked_no0 (nm : ByteArray) (x y z rose gates step width lo hi gx gy size wide high : Int) (fa : Option Addr) (len cap : Nat) (zs : Nat → Int × Int) (t ray : Int) (w : World) (hs : nm.size ≤ maxLen) (hl : len ≤ 1000000) (hsl : SliceIs w fa len cap zs) (h0 : siteC nm x y z rose gates step width = 0) (hk : SiteOk x y z rose gates step width) (hg : fieldC gx gy size wide high len zs 20000 = 0) (c0 : inB t 0 256 = false) :
    Calls Try.prog 46 #[.agg #[.string nm, .int .i64 x, .int .i64 y, .int .i64 z, .int .i64 rose, .int .i64 gates, .int .i64 step, .int .i64 width], .int .i64 t, .agg #[.int .i64 lo, .int .i64 hi], .agg #[.int .i64 gx, .int .i64 gy, .int .i64 size, .int .i64 wide, .int .i64 high, .slice fa len cap], .int .i64 ray] w fun e w' => e = .returned (.tuple #[.slice none 0 0, .int .i64 (3)]) ∧ Below w.heap.size w w' := by
  have HS := Lib.hid hs
  have HSL := Lib.hid hsl
  clear hs hsl
  have H0 := Lib.hid h0
  have HG := Lib.hid hg
  have r1 := hk.r1
  have r2 := hk.r2
  clear h0 hg hk
  go_enter Try.func46, Try.ntmps46
  go_wp2_with fail
  refine (CheckSite_any _ _ _ _ _ _ _ _ _ HS.out).mono ?_; rintro e w1 ⟨rfl, hb1⟩
  have O1 := (SEF.new w nm x y z rose gates step width lo hi gx gy size wide high (.slice fa len cap)).keep hb1 (by simp)
  clear hb1
  obtain ⟨⟨k0, k1, k2, k3, k4, k5, k6, k7⟩, ⟨p0, p1⟩, ⟨f0, f1, f2, f3, f4, f5⟩, hz, hbw⟩ := O1
  have y0 : w.heap.size < w1.heap.size := by omega
  have y1 : w.heap.size + 1 < w1.heap.size := by omega
  have y2 : w.heap.size + 1 + 1 < w1.heap.size := by omega
  rw [H0.out]
  go_wp2_with fail
  refine (checkGround_any _ _ _ _ _ fa len cap zs _ hl (HSL.out.keep hbw)).mono ?_; rintro e w2 ⟨rfl, hb2⟩
  have O2 := (⟨⟨k0, k1, k2, k3, k4, k5, k6, k7⟩, ⟨p0, p1⟩, ⟨f0, f1, f2, f3, f4, f5⟩, hz, hbw⟩ : SEF w w1 nm x y z rose gates step width lo hi gx gy size wide high (.slice fa len cap)).keep hb2 hz
  clear k0 k1 k2 k3 k4 k5 k6 k7 p0 p1 f0 f1 f2 f3 f4 f5 hz hbw y0 y1 y2 hb2
  obtain ⟨⟨k0, k1, k2, k3, k4, k5, k6, k7⟩, ⟨p0, p1⟩, ⟨f0, f1, f2, f3, f4, f5⟩, hz, hbw⟩ := O2
  have y0 : w.heap.size < w2.heap.size := by omega
  have y1 : w.heap.size + 1 < w2.heap.size := by omega
  have y2 : w.heap.size + 1 + 1 < w2.heap.size := by omega
  rw [HG.out]
  go_wp2_with fail
  refine (isTilt_any _ _).mono ?_; rintro e w' ⟨rfl, rfl⟩
  go_wp2
  go_ret2
  exact ⟨rfl, hbw⟩

set_option maxRecDepth 100000 in
set_option maxHeartbeats 3200000 in
theorem Blocked_no1 (nm : ByteArray) (x y z rose gates step width lo hi gx gy size wide high : Int) (fa : Option Addr) (len cap : Nat) (zs : Nat → Int × Int) (t ray : Int) (w : World) (hs : nm.size ≤ maxLen) (hl : len ≤ 1000000) (hsl : SliceIs w fa len cap zs) (h0 : siteC nm x y z rose gates step width = 0) (hk : SiteOk x y z rose gates step width) (hg : fieldC gx gy size wide high len zs 20000 = 0) (c0 : inB t 0 256 = true) (c1 : spanB lo hi 1000000 100000000 = false) :
    Calls Try.prog 46 #[.agg #[.string nm, .int .i64 x, .int .i64 y, .int .i64 z, .int .i64 rose, .int .i64 gates, .int .i64 step, .int .i64 width], .int .i64 t, .agg #[.int .i64 lo, .int .i64 hi], .agg #[.int .i64 gx, .int .i64 gy, .int .i64 size, .int .i64 wide, .int .i64 high, .slice fa len cap], .int .i64 ray] w fun e w' => e = .returned (.tuple #[.slice none 0 0, .int .i64 (3)]) ∧ Below w.heap.size w w' := by
  have HS := Lib.hid hs
  have HSL := Lib.hid hsl
  clear hs hsl
  have H0 := Lib.hid h0
  have HG := Lib.hid hg
  have r1 := hk.r1
  have r2 := hk.r2
  clear h0 hg hk
  go_enter Try.func46, Try.ntmps46
  go_wp2_with fail
  refine (CheckSite_any _ _ _ _ _ _ _ _ _ HS.out).mono ?_; rintro e w1 ⟨rfl, hb1⟩
  have O1 := (SEF.new w nm x y z rose gates step width lo hi gx gy size wide high (.slice fa len cap)).keep hb1 (by simp)
  clear hb1
  obtain ⟨⟨k0, k1, k2, k3, k4, k5, k6, k7⟩, ⟨p0, p1⟩, ⟨f0, f1, f2, f3, f4, f5⟩, hz, hbw⟩ := O1
  have y0 : w.heap.size < w1.heap.size := by omega
  have y1 : w.heap.size + 1 < w1.heap.size := by omega
  have y2 : w.heap.size + 1 + 1 < w1.heap.size := by omega
  rw [H0.out]
  go_wp2_with fail
  refine (checkGround_any _ _ _ _ _ fa len cap zs _ hl (HSL.out.keep hbw)).mono ?_; rintro e w2 ⟨rfl, hb2⟩
  have O2 := (⟨⟨k0, k1, k2, k3, k4, k5, k6, k7⟩, ⟨p0, p1⟩, ⟨f0, f1, f2, f3, f4, f5⟩, hz, hbw⟩ : SEF w w1 nm x y z rose gates step width lo hi gx gy size wide high (.slice fa len cap)).keep hb2 hz
  clear k0 k1 k2 k3 k4 k5 k6 k7 p0 p1 f0 f1 f2 f3 f4 f5 hz hbw y0 y1 y2 hb2
  obtain ⟨⟨k0, k1, k2, k3, k4, k5, k6, k7⟩, ⟨p0, p1⟩, ⟨f0, f1, f2, f3, f4, f5⟩, hz, hbw⟩ := O2
  have y0 : w.heap.size < w2.heap.size := by omega
  have y1 : w.heap.size + 1 < w2.heap.size := by omega
  have y2 : w.heap.size + 1 + 1 < w2.heap.size := by omega
  rw [HG.out]
  go_wp2_with fail
  refine (isTilt_any _ _).mono ?_; rintro e w' ⟨rfl, rfl⟩
  go_wp2_with fail
  refine (isEarth_any _ _ _).mono ?_; rintro e w3 ⟨rfl, hb3⟩
  have O3 := (⟨⟨k0, k1, k2, k3, k4, k5, k6, k7⟩, ⟨p0, p1⟩, ⟨f0, f1, f2, f3, f4, f5⟩, hz, hbw⟩ : SEF w w2 nm x y z rose gates step width lo hi gx gy size wide high (.slice fa len cap)).keep hb3 hz
  clear k0 k1 k2 k3 k4 k5 k6 k7 p0 p1 f0 f1 f2 f3 f4 f5 hz hbw y0 y1 y2 hb3
  obtain ⟨⟨k0, k1, k2, k3, k4, k5, k6, k7⟩, ⟨p0, p1⟩, ⟨f0, f1, f2, f3, f4, f5⟩, hz, hbw⟩ := O3
  have y0 : w.heap.size < w3.heap.size := by omega
  have y1 : w.heap.size + 1 < w3.heap.size := by omega
  have y2 : w.heap.size + 1 + 1 < w3.heap.size := by omega
  go_wp2
  go_ret2
  exact ⟨rfl, hbw⟩

set_option maxRecDepth 100000 in
set_option maxHeartbeats 3200000 in
theorem Blocked_no2 (nm : ByteArray) (x y z rose gates step width lo hi gx gy size wide high : Int) (fa : Option Addr) (len cap : Nat) (zs : Nat → Int × Int) (t ray : Int) (w : World) (hs : nm.size ≤ maxLen) (hl : len ≤ 1000000) (hsl : SliceIs w fa len cap zs) (h0 : siteC nm x y z rose gates step width = 0) (hk : SiteOk x y z rose gates step width) (hg : fieldC gx gy size wide high len zs 20000 = 0) (c0 : inB t 0 256 = true) (c1 : spanB lo hi 1000000 100000000 = true) (c2 : inB ray 0 (4 * rose - 1) = false) :
    Calls Try.prog 46 #[.agg #[.string nm, .int .i64 x, .int .i64 y, .int .i64 z, .int .i64 rose, .int .i64 gates, .int .i64 step, .int .i64 width], .int .i64 t, .agg #[.int .i64 lo, .int .i64 hi], .agg #[.int .i64 gx, .int .i64 gy, .int .i64 size, .int .i64 wide, .int .i64 high, .slice fa len cap], .int .i64 ray] w fun e w' => e = .returned (.tuple #[.slice none 0 0, .int .i64 (3)]) ∧ Below w.heap.size w w' := by
  have HS := Lib.hid hs
  have HSL := Lib.hid hsl
  clear hs hsl
  have H0 := Lib.hid h0
  have HG := Lib.hid hg
  have r1 := hk.r1
  have r2 := hk.r2
  clear h0 hg hk
  go_enter Try.func46, Try.ntmps46
  go_wp2_with fail
  refine (CheckSite_any _ _ _ _ _ _ _ _ _ HS.out).mono ?_; rintro e w1 ⟨rfl, hb1⟩
  have O1 := (SEF.new w nm x y z rose gates step width lo hi gx gy size wide high (.slice fa len cap)).keep hb1 (by simp)
  clear hb1
  obtain ⟨⟨k0, k1, k2, k3, k4, k5, k6, k7⟩, ⟨p0, p1⟩, ⟨f0, f1, f2, f3, f4, f5⟩, hz, hbw⟩ := O1
  have y0 : w.heap.size < w1.heap.size := by omega
  have y1 : w.heap.size + 1 < w1.heap.size := by omega
  have y2 : w.heap.size + 1 + 1 < w1.heap.size := by omega
  rw [H0.out]
  go_wp2_with fail
  refine (checkGround_any _ _ _ _ _ fa len cap zs _ hl (HSL.out.keep hbw)).mono ?_; rintro e w2 ⟨rfl, hb2⟩
  have O2 := (⟨⟨k0, k1, k2, k3, k4, k5, k6, k7⟩, ⟨p0, p1⟩, ⟨f0, f1, f2, f3, f4, f5⟩, hz, hbw⟩ : SEF w w1 nm x y z rose gates step width lo hi gx gy size wide high (.slice fa len cap)).keep hb2 hz
  clear k0 k1 k2 k3 k4 k5 k6 k7 p0 p1 f0 f1 f2 f3 f4 f5 hz hbw y0 y1 y2 hb2
  obtain ⟨⟨k0, k1, k2, k3, k4, k5, k6, k7⟩, ⟨p0, p1⟩, ⟨f0, f1, f2, f3, f4, f5⟩, hz, hbw⟩ := O2
  have y0 : w.heap.size < w2.heap.size := by omega
  have y1 : w.heap.size + 1 < w2.heap.size := by omega
  have y2 : w.heap.size + 1 + 1 < w2.heap.size := by omega
  rw [HG.out]
  go_wp2_with fail
  refine (isTilt_any _ _).mono ?_; rintro e w' ⟨rfl, rfl⟩
  go_wp2_with fail
  refine (isEarth_any _ _ _).mono ?_; rintro e w3 ⟨rfl, hb3⟩
  have O3 := (⟨⟨k0, k1, k2, k3, k4, k5, k6, k7⟩, ⟨p0, p1⟩, ⟨f0, f1, f2, f3, f4, f5⟩, hz, hbw⟩ : SEF w w2 nm x y z rose gates step width lo hi gx gy size wide high (.slice fa len cap)).keep hb3 hz
  clear k0 k1 k2 k3 k4 k5 k6 k7 p0 p1 f0 f1 f2 f3 f4 f5 hz hbw y0 y1 y2 hb3
  obtain ⟨⟨k0, k1, k2, k3, k4, k5, k6, k7⟩, ⟨p0, p1⟩, ⟨f0, f1, f2, f3, f4, f5⟩, hz, hbw⟩ := O3
  have y0 : w.heap.size < w3.heap.size := by omega
  have y1 : w.heap.size + 1 < w3.heap.size := by omega
  have y2 : w.heap.size + 1 + 1 < w3.heap.size := by omega
  go_wp2_with fail
  refine (isRay_any _ _ _ _ _ _ _ _ _ _ r1 r2).mono ?_; rintro e w4 ⟨rfl, hb4⟩
  have O4 := (⟨⟨k0, k1, k2, k3, k4, k5, k6, k7⟩, ⟨p0, p1⟩, ⟨f0, f1, f2, f3, f4, f5⟩, hz, hbw⟩ : SEF w w3 nm x y z rose gates step width lo hi gx gy size wide high (.slice fa len cap)).keep hb4 hz
  clear k0 k1 k2 k3 k4 k5 k6 k7 p0 p1 f0 f1 f2 f3 f4 f5 hz hbw y0 y1 y2 hb4
  obtain ⟨⟨k0, k1, k2, k3, k4, k5, k6, k7⟩, ⟨p0, p1⟩, ⟨f0, f1, f2, f3, f4, f5⟩, hz, hbw⟩ := O4
  have y0 : w.heap.size < w4.heap.size := by omega
  have y1 : w.heap.size + 1 < w4.heap.size := by omega
  have y2 : w.heap.size + 1 + 1 < w4.heap.size := by omega
  go_wp2
  go_ret2
  exact ⟨rfl, hbw⟩

/-- the threads that surely meet the ground, and those that perhaps do -/
def thrP (z step t width lo : Int) (GL : Nat → Int) (k j : Nat) : Bool := decide (climbHi z step (t - width + k) j lo ≤ GL j)
def thrQ (z step t width hi : Int) (GH : Nat → Int) (k j : Nat) : Bool := decide (climbLo z step (t - width + k) j hi ≤ GH j)
/-- what is counted so far -/
def sumsOf (p : Nat → Nat → Bool) (T j : Nat) : Int := (cnt (fun k => seen p k (j + 1)) T : Int)
theorem SpRow.spans {w : World} {b n : Nat} {L H : Nat → Int} (s : SpRow w b n L H) : SpansAt w b 0 n (fun j => (L j, H j)) := fun i hi => ⟨by rw [Nat.zero_add]; exact s.c0 i hi, by rw [Nat.zero_add]; exact s.c1 i hi⟩
theorem sums_of (b g T : Nat) (p q : Nat → Nat → Bool) (w : World) (hg : g ≤ 1000) (hT : T ≤ 1000) (hs : SpRow w b g (fun i => (cnt (fun k => fst p k i) T : Int)) (fun i => (cnt (fun k => fst q k i) T : Int))) (hb : b < w.heap.size) :
    Calls Try.prog 86 #[.slice (some ⟨b, 0, none⟩) g g] w fun e w' => e = .returned (.slice (some ⟨b, 0, none⟩) g g) ∧ SpRow w' b g (sumsOf p T) (sumsOf q T) ∧ b < w'.heap.size ∧ Below b w w' := by
  have z : ∀ (r : Nat → Nat → Bool) (n : Nat), cnt (fun k => seen r k 0) n = 0 := fun r n => by
    induction n with
    | zero => rfl
    | succ n ih => rw [cnt_no (q := fun k => seen r k 0) rfl, ih]
  have st : ∀ (r : Nat → Nat → Bool) (m : Nat), sumsOf r T (m + 1) = (cnt (fun k => fst r k (m + 1)) T : Int) + sumsOf r T m := fun r m => by
    unfold sumsOf; rw [cnt_seen r T (m + 1)]; omega
  have s0 : ∀ (r : Nat → Nat → Bool), sumsOf r T 0 = (cnt (fun k => fst r k 0) T : Int) := fun r => by
    unfold sumsOf; rw [cnt_seen r T 0, z]; omega
  refine sums_any b g _ _ (sumsOf p T) (sumsOf q T) w hg hs hb (fun _ => s0 p) (fun _ => s0 q) (fun m _ => st p m) (fun m _ => st q m) (fun m _ => ?_)
  have a1 := cnt_le (fun k => fst p k m) T
  have a2 := cnt_le (fun k => fst q k m) T
  have a3 := cnt_le (fun k => seen p k (m + 1)) T
  have a4 := cnt_le (fun k => seen q k (m + 1)) T
  unfold sumsOf
  omega

/-- the ground below the gates -/
def GndIs (x y rose step t ray gx gy size wide high : Int) (zs : Nat → Int × Int) (g : Nat) (GL GH : Nat → Int) : Prop :=
  ∀ j, j < g → (pixB gx gy size wide high (plX x rose step t ray j) (plY y rose step t ray j) = true → GL j = (zs (pixN gx gy size wide (plX x rose step t ray j) (plY y rose step t ray j)).toNat).1 ∧ GH j = (zs (pixN gx gy size wide (plX x rose step t ray j) (plY y rose step t ray j)).toNat).2) ∧ (pixB gx gy size wide high (plX x rose step t ray j) (plY y rose step t ray j) = false → GL j = 0 ∧ GH j = 20000)

def BlkRet (g : Nat) (L H : Nat → Int) (w : World) (e : Ending) (w' : World) : Prop :=
  ∃ b c : Nat, e = .returned (.tuple #[.slice (some ⟨b, 0, none⟩) g c, .int .i64 0]) ∧ SpansAt w' b 0 g (fun j => (L j, H j)) ∧ w.heap.size ≤ b ∧ b < w'.heap.size ∧ Below w.heap.size w w'

set_option maxRecDepth 100000 in
set_option maxHeartbeats 12800000 in
theorem Blocked_ok (nm : ByteArray) (x y z rose : Int) (g : Nat) (step width lo hi gx gy size wide high : Int) (fb off len cap : Nat) (zs : Nat → Int × Int) (t ray : Int) (T : Nat) (hT : (T : Int) = 2 * width + 1) (GL GH : Nat → Int) (w : World) (hs : nm.size ≤ maxLen) (hl : len ≤ 1000000) (hsp : SpansAt w fb off len zs) (hfb : fb < w.heap.size) (h0 : siteC nm x y z rose g step width = 0) (hk : SiteOk x y z rose g step width) (hg : fieldC gx gy size wide high len zs 20000 = 0) (c0 : inB t 0 256 = true) (c1 : spanB lo hi 1000000 100000000 = true) (c2 : inB ray 0 (4 * rose - 1) = true) (hG : GndIs x y rose step t ray gx gy size wide high zs g GL GH)
    (hpq : ∀ k j, k < T → j < g → thrP z step t width lo GL k j = true → thrQ z step t width hi GH k j = true) :
    Calls Try.prog 46 #[.agg #[.string nm, .int .i64 x, .int .i64 y, .int .i64 z, .int .i64 rose, .int .i64 (g : Nat), .int .i64 step, .int .i64 width], .int .i64 t, .agg #[.int .i64 lo, .int .i64 hi], .agg #[.int .i64 gx, .int .i64 gy, .int .i64 size, .int .i64 wide, .int .i64 high, .slice (some ⟨fb, off, none⟩) len cap], .int .i64 ray] w (BlkRet g (sumsOf (thrP z step t width lo GL) T) (sumsOf (thrQ z step t width hi GH) T) w) := by
  have HS := Lib.hid hs
  have HSL := Lib.hid (show SliceIs w (some ⟨fb, off, none⟩) len cap zs from .inr ⟨fb, off, rfl, hfb, hsp⟩)
  have HSP := Lib.hid hsp
  have H0 := Lib.hid h0
  have HG := Lib.hid hg
  obtain ⟨hg1, hg2, _⟩ := ground_zero hg
  obtain ⟨t1, t2⟩ := inB_true.1 c0
  obtain ⟨e1, e0, e4⟩ := spanB_true.1 c1
  obtain ⟨v1, v2⟩ := inB_true.1 c2
  have r1 := hk.r1
  have r2 := hk.r2
  have gg := hk.g2
  have tT := cnt_le
  have HGB := Lib.hid (fun (wx : World) (hb : Below w.heap.size w wx) => groundBelow_any nm x y z rose g step width t ray gx gy size wide high fb off len cap zs GL GH wx hk t1 t2 v1 (by omega) hg1 hg2 (hsp.keep hb hfb) (Nat.lt_of_lt_of_le hfb hb.size) hG)
  have HMT := Lib.hid (fun (b1 : Nat) (wx : World) (hr : SpRow wx b1 g GL GH) (hb : b1 < wx.heap.size) => met_any nm x y z rose g step width t lo hi g b1 T GL GH (thrP z step t width lo GL) (thrQ z step t width hi GH) wx hT hk.d1 hk.d2 t1 t2 hk.s1 hk.s2 hk.z1 hk.z2 e1 (by omega) (by omega) e4 (by omega) hr hb (fun _ _ => rfl) (fun _ _ => rfl) hpq)
  have HSM := Lib.hid (fun (b2 : Nat) (wx : World) (hr : SpRow wx b2 g (fun i => (cnt (fun k => fst (thrP z step t width lo GL) k i) T : Int)) (fun i => (cnt (fun k => fst (thrQ z step t width hi GH) k i) T : Int))) (hb : b2 < wx.heap.size) => sums_of b2 g T (thrP z step t width lo GL) (thrQ z step t width hi GH) wx (by omega) (by have := hk.d2; omega) hr hb)
  clear hs hsp h0 hg hg1 hg2 hk hG hpq hT
  go_enter Try.func46, Try.ntmps46
  go_wp2_with fail
  refine (CheckSite_any _ _ _ _ _ _ _ _ _ HS.out).mono ?_; rintro e w1 ⟨rfl, hb1⟩
  have O1 := (SEF.new w nm x y z rose g step width lo hi gx gy size wide high (.slice (some ⟨fb, off, none⟩) len cap)).keep hb1 (by simp)
  clear hb1
  obtain ⟨⟨k0, k1, k2, k3, k4, k5, k6, k7⟩, ⟨p0, p1⟩, ⟨f0, f1, f2, f3, f4, f5⟩, hz, hbw⟩ := O1
  have y0 : w.heap.size < w1.heap.size := by omega
  have y1 : w.heap.size + 1 < w1.heap.size := by omega
  have y2 : w.heap.size + 1 + 1 < w1.heap.size := by omega
  rw [H0.out]
  go_wp2_with fail
  refine (checkGround_any _ _ _ _ _ (some ⟨fb, off, none⟩) len cap zs _ hl (HSL.out.keep hbw)).mono ?_; rintro e w2 ⟨rfl, hb2⟩
  have O2 := (⟨⟨k0, k1, k2, k3, k4, k5, k6, k7⟩, ⟨p0, p1⟩, ⟨f0, f1, f2, f3, f4, f5⟩, hz, hbw⟩ : SEF w w1 nm x y z rose g step width lo hi gx gy size wide high (.slice (some ⟨fb, off, none⟩) len cap)).keep hb2 hz
  clear k0 k1 k2 k3 k4 k5 k6 k7 p0 p1 f0 f1 f2 f3 f4 f5 hz hbw y0 y1 y2 hb2
  obtain ⟨⟨k0, k1, k2, k3, k4, k5, k6, k7⟩, ⟨p0, p1⟩, ⟨f0, f1, f2, f3, f4, f5⟩, hz, hbw⟩ := O2
  have y0 : w.heap.size < w2.heap.size := by omega
  have y1 : w.heap.size + 1 < w2.heap.size := by omega
  have y2 : w.heap.size + 1 + 1 < w2.heap.size := by omega
  rw [HG.out]
  go_wp2_with fail
  refine (isTilt_any _ _).mono ?_; rintro e w' ⟨rfl, rfl⟩
  go_wp2_with fail
  refine (isEarth_any _ _ _).mono ?_; rintro e w3 ⟨rfl, hb3⟩
  have O3 := (⟨⟨k0, k1, k2, k3, k4, k5, k6, k7⟩, ⟨p0, p1⟩, ⟨f0, f1, f2, f3, f4, f5⟩, hz, hbw⟩ : SEF w w2 nm x y z rose g step width lo hi gx gy size wide high (.slice (some ⟨fb, off, none⟩) len cap)).keep hb3 hz
  clear k0 k1 k2 k3 k4 k5 k6 k7 p0 p1 f0 f1 f2 f3 f4 f5 hz hbw y0 y1 y2 hb3
  obtain ⟨⟨k0, k1, k2, k3, k4, k5, k6, k7⟩, ⟨p0, p1⟩, ⟨f0, f1, f2, f3, f4, f5⟩, hz, hbw⟩ := O3
  have y0 : w.heap.size < w3.heap.size := by omega
  have y1 : w.heap.size + 1 < w3.heap.size := by omega
  have y2 : w.heap.size + 1 + 1 < w3.heap.size := by omega
  go_wp2_with fail
  refine (isRay_any _ _ _ _ _ _ _ _ _ _ r1 r2).mono ?_; rintro e w4 ⟨rfl, hb4⟩
  have O4 := (⟨⟨k0, k1, k2, k3, k4, k5, k6, k7⟩, ⟨p0, p1⟩, ⟨f0, f1, f2, f3, f4, f5⟩, hz, hbw⟩ : SEF w w3 nm x y z rose g step width lo hi gx gy size wide high (.slice (some ⟨fb, off, none⟩) len cap)).keep hb4 hz
  clear k0 k1 k2 k3 k4 k5 k6 k7 p0 p1 f0 f1 f2 f3 f4 f5 hz hbw y0 y1 y2 hb4
  obtain ⟨⟨k0, k1, k2, k3, k4, k5, k6, k7⟩, ⟨p0, p1⟩, ⟨f0, f1, f2, f3, f4, f5⟩, hz, hbw⟩ := O4
  have y0 : w.heap.size < w4.heap.size := by omega
  have y1 : w.heap.size + 1 < w4.heap.size := by omega
  have y2 : w.heap.size + 1 + 1 < w4.heap.size := by omega
  have LEAD := Lib.hid (show (fun w' : World => w'.cell? ⟨w.heap.size, 0, none⟩ = some (.string nm) ∧ w'.cell? ⟨w.heap.size, 1, none⟩ = some (.int .i64 x) ∧ w'.cell? ⟨w.heap.size, 2, none⟩ = some (.int .i64 y) ∧ w'.cell? ⟨w.heap.size, 3, none⟩ = some (.int .i64 z) ∧ w'.cell? ⟨w.heap.size, 4, none⟩ = some (.int .i64 rose) ∧ w'.cell? ⟨w.heap.size, 5, none⟩ = some (.int .i64 (g : Nat)) ∧ w'.cell? ⟨w.heap.size, 6, none⟩ = some (.int .i64 step) ∧ w'.cell? ⟨w.heap.size, 7, none⟩ = some (.int .i64 width) ∧ w'.cell? ⟨w.heap.size + 1, 0, none⟩ = some (.int .i64 lo) ∧ w'.cell? ⟨w.heap.size + 1, 1, none⟩ = some (.int .i64 hi) ∧ w'.cell? ⟨w.heap.size + 1 + 1, 0, none⟩ = some (.int .i64 gx) ∧ w'.cell? ⟨w.heap.size + 1 + 1, 1, none⟩ = some (.int .i64 gy) ∧ w'.cell? ⟨w.heap.size + 1 + 1, 2, none⟩ = some (.int .i64 size) ∧ w'.cell? ⟨w.heap.size + 1 + 1, 3, none⟩ = some (.int .i64 wide) ∧ w'.cell? ⟨w.heap.size + 1 + 1, 4, none⟩ = some (.int .i64 high) ∧ w'.cell? ⟨w.heap.size + 1 + 1, 5, none⟩ = some (.slice (some ⟨fb, off, none⟩) len cap) ∧ w.heap.size + 1 + 1 < w'.heap.size ∧ Below w.heap.size w w') w4.drew from ⟨k0, k1, k2, k3, k4, k5, k6, k7, p0, p1, f0, f1, f2, f3, f4, f5, y2, hbw.drew⟩)
  clear y0 y1 y2
  go_wp2
  clear k0 k1 k2 k3 k4 k5 k6 k7 p0 p1 f0 f1 f2 f3 f4 f5 hz hbw
  go_region_held3 (fun w' => w'.cell? ⟨w.heap.size, 0, none⟩ = some (.string nm) ∧ w'.cell? ⟨w.heap.size, 1, none⟩ = some (.int .i64 x) ∧ w'.cell? ⟨w.heap.size, 2, none⟩ = some (.int .i64 y) ∧ w'.cell? ⟨w.heap.size, 3, none⟩ = some (.int .i64 z) ∧ w'.cell? ⟨w.heap.size, 4, none⟩ = some (.int .i64 rose) ∧ w'.cell? ⟨w.heap.size, 5, none⟩ = some (.int .i64 (g : Nat)) ∧ w'.cell? ⟨w.heap.size, 6, none⟩ = some (.int .i64 step) ∧ w'.cell? ⟨w.heap.size, 7, none⟩ = some (.int .i64 width) ∧ w'.cell? ⟨w.heap.size + 1, 0, none⟩ = some (.int .i64 lo) ∧ w'.cell? ⟨w.heap.size + 1, 1, none⟩ = some (.int .i64 hi) ∧ w'.cell? ⟨w.heap.size + 1 + 1, 0, none⟩ = some (.int .i64 gx) ∧ w'.cell? ⟨w.heap.size + 1 + 1, 1, none⟩ = some (.int .i64 gy) ∧ w'.cell? ⟨w.heap.size + 1 + 1, 2, none⟩ = some (.int .i64 size) ∧ w'.cell? ⟨w.heap.size + 1 + 1, 3, none⟩ = some (.int .i64 wide) ∧ w'.cell? ⟨w.heap.size + 1 + 1, 4, none⟩ = some (.int .i64 high) ∧ w'.cell? ⟨w.heap.size + 1 + 1, 5, none⟩ = some (.slice (some ⟨fb, off, none⟩) len cap) ∧ w.heap.size + 1 + 1 < w'.heap.size ∧ Below w.heap.size w w')
    (first | exact LEAD.out | (go_split_ands; refine ⟨?_, ?_, ?_, ?_, ?_, ?_, ?_, ?_, ?_, ?_, ?_, ?_, ?_, ?_, ?_, ?_, ?_, ?_⟩ <;> first | assumption | exact keepB hb4 (by omega) (by assumption) | (have := hb4.size; omega) | exact Below.trans (by assumption) (hb4.mono (by omega))))
    (first | (go_at_call 88; go_split_ands; refine (HGB.out _ (by assumption)).mono ?_; rintro e w5 ⟨b1, rfl, hr1, hl1, hm1, hb4⟩) | (go_at_call 87; go_split_ands; refine (HMT.out _ _ (by assumption) (by assumption)).mono ?_; rintro e w6 ⟨b2, rfl, hr2, hl2, hm2, hb4⟩) | (go_at_call 86; go_split_ands; refine (HSM.out _ _ (by assumption) (by assumption)).mono ?_; rintro e w7 ⟨rfl, hr3, hm3, hb4⟩))
  go_split_ands
  go_wp2
  go_ret2
  exact ⟨_, _, rfl, hr3.spans, by omega, hm3, by assumption⟩

end Go.Proofs.Ythnjfnapjpdchaa
