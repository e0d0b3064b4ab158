/-
  Walks over CheckSite and CheckGrid, in the code and in the reference.
-/
import Derived.Deep.RegionHeld3
import Derived.Test.YthnjfnapjpdchaaKm2
namespace Go.Proofs.Ythnjfnapjpdchaa
open Go.RowKit

noncomputable def nameB (s : ByteArray) : Bool := @decide (nameP s) (Classical.propDecidable _)
theorem nameB_true {s : ByteArray} : nameB s = true ↔ nameP s := by unfold nameB; exact @decide_eq_true_iff _ (Classical.propDecidable _)

theorem NameRet_b {s : ByteArray} {w w' : World} {e : Ending} (h : NameRet s w e w') : e = .returned (.bool (nameB s)) ∧ w = w' := by
  obtain ⟨b, rfl, hb, hw⟩ := h
  refine ⟨?_, hw⟩
  have : b = nameB s := by rw [Bool.eq_iff_iff, hb, nameB_true]
  rw [this]

theorem Name_b (s : ByteArray) (w : World) (hs : s.size ≤ maxLen) :
    Calls Try.prog 15 #[.string s] w fun e w' => e = .returned (.bool (nameB s)) ∧ w = w' := (Name_any s w hs).mono fun _ _ h => NameRet_b h
theorem refName_b (s : ByteArray) (w : World) (hs : s.size ≤ maxLen) :
    Calls Try.prog 16 #[.string s] w fun e w' => e = .returned (.bool (nameB s)) ∧ w = w' := (refName_any s w hs).mono fun _ _ h => NameRet_b h

/-- the numbers of a site are within their ranges -/
def siteB (x y z rose gates step width : Int) : Bool :=
  inB x (-1048576) 1048576 && inB y (-1048576) 1048576 && inB z 0 20000 && inB rose 1 90 && inB gates 1 200 && inB step 50 2000 && inB width 0 8
/-- the answer of CheckSite -/
noncomputable def siteC (nm : ByteArray) (x y z rose gates step width : Int) : Int :=
  if nameB nm = true then (if siteB x y z rose gates step width = true then 0 else 3) else 10

theorem siteC_name {nm : ByteArray} {x y z rose gates step width : Int} (h : nameB nm = false) : siteC nm x y z rose gates step width = 10 := by unfold siteC; rw [h]; rfl
theorem siteC_ok {nm : ByteArray} {x y z rose gates step width : Int} (h : nameB nm = true) (h1 : siteB x y z rose gates step width = true) : siteC nm x y z rose gates step width = 0 := by unfold siteC; rw [h, h1]; rfl
theorem siteC_no {nm : ByteArray} {x y z rose gates step width : Int} (h : nameB nm = true) (h1 : siteB x y z rose gates step width = false) : siteC nm x y z rose gates step width = 3 := by unfold siteC; rw [h, h1]; rfl

theorem siteB_f1 {x y z rose gates step width : Int} (h : inB x (-1048576) 1048576 = false) : siteB x y z rose gates step width = false := by unfold siteB; rw [h]; simp
theorem siteB_f2 {x y z rose gates step width : Int} (h : inB y (-1048576) 1048576 = false) : siteB x y z rose gates step width = false := by unfold siteB; rw [h]; simp
theorem siteB_f3 {x y z rose gates step width : Int} (h : inB z 0 20000 = false) : siteB x y z rose gates step width = false := by unfold siteB; rw [h]; simp
theorem siteB_f4 {x y z rose gates step width : Int} (h : inB rose 1 90 = false) : siteB x y z rose gates step width = false := by unfold siteB; rw [h]; simp
theorem siteB_f5 {x y z rose gates step width : Int} (h : inB gates 1 200 = false) : siteB x y z rose gates step width = false := by unfold siteB; rw [h]; simp
theorem siteB_f6 {x y z rose gates step width : Int} (h : inB step 50 2000 = false) : siteB x y z rose gates step width = false := by unfold siteB; rw [h]; simp
theorem siteB_f7 {x y z rose gates step width : Int} (h : inB width 0 8 = false) : siteB x y z rose gates step width = false := by unfold siteB; rw [h]; simp
theorem siteB_ok {x y z rose gates step width : Int} (h1 : inB x (-1048576) 1048576 = true) (h2 : inB y (-1048576) 1048576 = true) (h3 : inB z 0 20000 = true) (h4 : inB rose 1 90 = true) (h5 : inB gates 1 200 = true) (h6 : inB step 50 2000 = true) (h7 : inB width 0 8 = true) : siteB x y z rose gates step width = true := by unfold siteB; rw [h1, h2, h3, h4, h5, h6, h7]; rfl

theorem three (a b c : Bool) : a = false ∨ (a = true ∧ b = false) ∨ (a = true ∧ b = true ∧ c = false) ∨ (a = true ∧ b = true ∧ c = true) := by cases a <;> cases b <;> cases c <;> simp
theorem two (a b : Bool) : a = false ∨ (a = true ∧ b = false) ∨ (a = true ∧ b = true) := by cases a <;> cases b <;> simp
theorem five (a b c d e : Bool) : (a = false) ∨ (a = true ∧ b = false) ∨ (a = true ∧ b = true ∧ c = false) ∨ (a = true ∧ b = true ∧ c = true ∧ d = false) ∨ (a = true ∧ b = true ∧ c = true ∧ d = true ∧ e = false) ∨ (a = true ∧ b = true ∧ c = true ∧ d = true ∧ e = true) := by cases a <;> cases b <;> cases c <;> cases d <;> cases e <;> simp
theorem seven (a b c d e f g : Bool) : (a = false) ∨ (a = true ∧ b = false) ∨ (a = true ∧ b = true ∧ c = false) ∨ (a = true ∧ b = true ∧ c = true ∧ d = false) ∨ (a = true ∧ b = true ∧ c = true ∧ d = true ∧ e = false) ∨ (a = true ∧ b = true ∧ c = true ∧ d = true ∧ e = true ∧ f = false) ∨ (a = true ∧ b = true ∧ c = true ∧ d = true ∧ e = true ∧ f = true ∧ g = false) ∨ (a = true ∧ b = true ∧ c = true ∧ d = true ∧ e = true ∧ f = true ∧ g = true) := by cases a <;> cases b <;> cases c <;> cases d <;> cases e <;> cases f <;> cases g <;> simp

set_option maxHeartbeats 8000000 in
theorem CheckSite_any (nm : ByteArray) (x y z rose gates step width : Int) (w : World) (hs : nm.size ≤ maxLen) :
    Calls Try.prog 17 #[.agg #[.string nm, .int .i64 x, .int .i64 y, .int .i64 z, .int .i64 rose, .int .i64 gates, .int .i64 step, .int .i64 width]] w
      fun e w' => e = .returned (.int .i64 (siteC nm x y z rose gates step width)) ∧ Below w.heap.size w w' := by
  have HS := Lib.hid hs
  clear hs
  cases hn : nameB nm
  · rw [siteC_name hn]
    go_enter Try.func17, Try.ntmps17
    go_wp2_with (go_at_call 15; refine (Name_b _ _ HS.out).mono ?_; rintro e w' ⟨rfl, rfl⟩)
    go_ret
    exact ⟨rfl, (Below.refl _ _).alloc (Nat.le_refl _) _⟩
  · rcases three (inB x (-1048576) 1048576) (inB y (-1048576) 1048576) (inB z 0 20000) with h1 | ⟨h1, h2⟩ | ⟨h1, h2, h3⟩ | ⟨h1, h2, h3⟩ <;>
    rcases two (inB rose 1 90) (inB width 0 8) with h4 | ⟨h4, h7⟩ | ⟨h4, h7⟩ <;>
    rcases two (inB gates 1 200) (inB step 50 2000) with h5 | ⟨h5, h6⟩ | ⟨h5, h6⟩ <;>
    (first | rw [siteC_ok hn (siteB_ok h1 h2 h3 h4 h5 h6 h7)] | rw [siteC_no hn (siteB_f1 h1)] | rw [siteC_no hn (siteB_f2 h2)] | rw [siteC_no hn (siteB_f3 h3)] | rw [siteC_no hn (siteB_f4 h4)] | rw [siteC_no hn (siteB_f5 h5)] | rw [siteC_no hn (siteB_f6 h6)] | rw [siteC_no hn (siteB_f7 h7)]) <;>
    (go_enter Try.func17, Try.ntmps17
     go_wp2_with (first | (go_at_call 15; refine (Name_b _ _ HS.out).mono ?_; rintro e w' ⟨rfl, rfl⟩) | (go_at_call 58; refine (isCoordinate_any _ _).mono ?_; rintro e w' ⟨rfl, rfl⟩) | (go_at_call 59; refine (isIn_any _ _ _ _).mono ?_; rintro e w' ⟨rfl, rfl⟩))
     go_ret
     exact ⟨rfl, (Below.refl _ _).alloc (Nat.le_refl _) _⟩)

set_option maxHeartbeats 8000000 in
theorem refCheckSite_any (nm : ByteArray) (x y z rose gates step width : Int) (w : World) (hs : nm.size ≤ maxLen) :
    Calls Try.prog 18 #[.agg #[.string nm, .int .i64 x, .int .i64 y, .int .i64 z, .int .i64 rose, .int .i64 gates, .int .i64 step, .int .i64 width]] w
      fun e w' => e = .returned (.int .i64 (siteC nm x y z rose gates step width)) ∧ Below w.heap.size w w' := by
  have HS := Lib.hid hs
  clear hs
  cases hn : nameB nm
  · rw [siteC_name hn]
    go_enter Try.func18, Try.ntmps18
    go_wp2_with (go_at_call 16; refine (refName_b _ _ HS.out).mono ?_; rintro e w' ⟨rfl, rfl⟩)
    go_ret
    exact ⟨rfl, (Below.refl _ _).alloc (Nat.le_refl _) _⟩
  · rcases seven (inB x (-1048576) 1048576) (inB y (-1048576) 1048576) (inB z 0 20000) (inB rose 1 90) (inB gates 1 200) (inB step 50 2000) (inB width 0 8) with h1 | ⟨h1, h2⟩ | ⟨h1, h2, h3⟩ | ⟨h1, h2, h3, h4⟩ | ⟨h1, h2, h3, h4, h5⟩ | ⟨h1, h2, h3, h4, h5, h6⟩ | ⟨h1, h2, h3, h4, h5, h6, h7⟩ | ⟨h1, h2, h3, h4, h5, h6, h7⟩ <;>
    (first | rw [siteC_ok hn (siteB_ok h1 h2 h3 h4 h5 h6 h7)] | rw [siteC_no hn (siteB_f1 h1)] | rw [siteC_no hn (siteB_f2 h2)] | rw [siteC_no hn (siteB_f3 h3)] | rw [siteC_no hn (siteB_f4 h4)] | rw [siteC_no hn (siteB_f5 h5)] | rw [siteC_no hn (siteB_f6 h6)] | rw [siteC_no hn (siteB_f7 h7)]) <;>
    (go_enter Try.func18, Try.ntmps18
     go_wp2_with (first | (go_at_call 16; refine (refName_b _ _ HS.out).mono ?_; rintro e w' ⟨rfl, rfl⟩) | (go_at_call 60; refine (refIn_any _ _ _ _).mono ?_; rintro e w' ⟨rfl, rfl⟩))
     go_ret
     exact ⟨rfl, (Below.refl _ _).alloc (Nat.le_refl _) _⟩)

/-- the answer of CheckGrid -/
def gridB (x y size wide high : Int) : Bool :=
  inB x (-1048576) 1048576 && inB y (-1048576) 1048576 && inB size 1 10000 && inB wide 1 64 && inB high 1 64
def gridC (x y size wide high : Int) : Int := if gridB x y size wide high = true then 0 else 3
theorem gridC_ok {x y size wide high : Int} (h : gridB x y size wide high = true) : gridC x y size wide high = 0 := by unfold gridC; rw [h]; rfl
theorem gridC_no {x y size wide high : Int} (h : gridB x y size wide high = false) : gridC x y size wide high = 3 := by unfold gridC; rw [h]; rfl
theorem gridB_f1 {x y size wide high : Int} (h : inB x (-1048576) 1048576 = false) : gridB x y size wide high = false := by unfold gridB; rw [h]; simp
theorem gridB_f2 {x y size wide high : Int} (h : inB y (-1048576) 1048576 = false) : gridB x y size wide high = false := by unfold gridB; rw [h]; simp
theorem gridB_f3 {x y size wide high : Int} (h : inB size 1 10000 = false) : gridB x y size wide high = false := by unfold gridB; rw [h]; simp
theorem gridB_f4 {x y size wide high : Int} (h : inB wide 1 64 = false) : gridB x y size wide high = false := by unfold gridB; rw [h]; simp
theorem gridB_f5 {x y size wide high : Int} (h : inB high 1 64 = false) : gridB x y size wide high = false := by unfold gridB; rw [h]; simp
theorem gridB_ok {x y size wide high : Int} (h1 : inB x (-1048576) 1048576 = true) (h2 : inB y (-1048576) 1048576 = true) (h3 : inB size 1 10000 = true) (h4 : inB wide 1 64 = true) (h5 : inB high 1 64 = true) : gridB x y size wide high = true := by unfold gridB; rw [h1, h2, h3, h4, h5]; rfl

set_option maxHeartbeats 8000000 in
theorem refCheckGrid_any (x y size wide high : Int) (w : World) :
    Calls Try.prog 20 #[.agg #[.int .i64 x, .int .i64 y, .int .i64 size, .int .i64 wide, .int .i64 high]] w
      fun e w' => e = .returned (.int .i64 (gridC x y size wide high)) ∧ Below w.heap.size w w' := by
  rcases five (inB x (-1048576) 1048576) (inB y (-1048576) 1048576) (inB size 1 10000) (inB wide 1 64) (inB high 1 64) with h1 | ⟨h1, h2⟩ | ⟨h1, h2, h3⟩ | ⟨h1, h2, h3, h4⟩ | ⟨h1, h2, h3, h4, h5⟩ | ⟨h1, h2, h3, h4, h5⟩ <;>
  (first | rw [gridC_ok (gridB_ok h1 h2 h3 h4 h5)] | rw [gridC_no (gridB_f1 h1)] | rw [gridC_no (gridB_f2 h2)] | rw [gridC_no (gridB_f3 h3)] | rw [gridC_no (gridB_f4 h4)] | rw [gridC_no (gridB_f5 h5)]) <;>
  (go_enter Try.func20, Try.ntmps20
   go_wp2_with (go_at_call 60; refine (refIn_any _ _ _ _).mono ?_; rintro e w' ⟨rfl, rfl⟩)
   go_ret
   exact ⟨rfl, (Below.refl _ _).alloc (Nat.le_refl _) _⟩)

set_option maxHeartbeats 8000000 in
theorem CheckGrid_any (x y size wide high : Int) (w : World) :
    Calls Try.prog 19 #[.agg #[.int .i64 x, .int .i64 y, .int .i64 size, .int .i64 wide, .int .i64 high]] w
      fun e w' => e = .returned (.int .i64 (gridC x y size wide high)) ∧ Below w.heap.size w w' := by
  rcases two (inB x (-1048576) 1048576) (inB y (-1048576) 1048576) with h1 | ⟨h1, h2⟩ | ⟨h1, h2⟩ <;>
  rcases three (inB size 1 10000) (inB wide 1 64) (inB high 1 64) with h3 | ⟨h3, h4⟩ | ⟨h3, h4, h5⟩ | ⟨h3, h4, h5⟩ <;>
  (first | rw [gridC_ok (gridB_ok h1 h2 h3 h4 h5)] | rw [gridC_no (gridB_f1 h1)] | rw [gridC_no (gridB_f2 h2)] | rw [gridC_no (gridB_f3 h3)] | rw [gridC_no (gridB_f4 h4)] | rw [gridC_no (gridB_f5 h5)]) <;>
  (go_enter Try.func19, Try.ntmps19
   go_wp2_with (first | (go_at_call 58; refine (isCoordinate_any _ _).mono ?_; rintro e w' ⟨rfl, rfl⟩) | (go_at_call 59; refine (isIn_any _ _ _ _).mono ?_; rintro e w' ⟨rfl, rfl⟩))
   go_ret
   exact ⟨rfl, (Below.refl _ _).alloc (Nat.le_refl _) _⟩)

end Go.Proofs.Ythnjfnapjpdchaa

namespace Go.Proofs.Ythnjfnapjpdchaa
open Go.RowKit

theorem bcell {B : Nat} {W w1 : World} (hb : Below B W w1) : (∀ b o, b < B → w1.cell? ⟨b, o, none⟩ = W.cell? ⟨b, o, none⟩) ∧ (∀ b o, b < B → w1.frozen? ⟨b, o, none⟩ = W.frozen? ⟨b, o, none⟩) :=
  ⟨fun b o h => hb.cell (p := ⟨b, o, none⟩) h, fun b o h => hb.frozen (p := ⟨b, o, none⟩) h⟩

theorem keepB {B b o : Nat} {W w1 : World} {v : Value} (hb : Below B W w1) (h : b < B) (hc : W.cell? ⟨b, o, none⟩ = some v) : w1.cell? ⟨b, o, none⟩ = some v := by
  rw [hb.cell (p := ⟨b, o, none⟩) h]; exact hc

theorem keepF {B b o : Nat} {W w1 : World} {v : Bool} (hb : Below B W w1) (h : b < B) (hc : W.frozen? ⟨b, o, none⟩ = v) : w1.frozen? ⟨b, o, none⟩ = v := by
  rw [hb.frozen (p := ⟨b, o, none⟩) h]; exact hc

/-- what a cell holds, behind a name -/
def cellAt (w : World) (a : Addr) : Value := (w.cell? a).getD (.bool false)
theorem cellAt_mk {w : World} {a : Addr} {v : Value} (h : w.cell? a = some v) : w.cell? a = some (cellAt w a) := by unfold cellAt; rw [h]; rfl
theorem keepA {B b o : Nat} {W w1 : World} (hb : Below B W w1) (h : b < B) (hc : W.cell? ⟨b, o, none⟩ = some (cellAt W ⟨b, o, none⟩)) : w1.cell? ⟨b, o, none⟩ = some (cellAt w1 ⟨b, o, none⟩) :=
  cellAt_mk (keepB hb h hc)
theorem cellAt_set {w : World} {p q : Addr} {x : Value} (h : w.cell? q = some (cellAt w q)) : (w.setCell p x).cell? q = some (cellAt (w.setCell p x) q) := by
  obtain ⟨v', h'⟩ := cell?_setCell_some (p := p) (x := x) h
  exact cellAt_mk h'

theorem isSome_of_set {w : World} {p q : Addr} {x : Value} (h : ((w.setCell p x).cell? q).isSome = true) : (w.cell? q).isSome = true := by
  unfold World.cell? at *
  simp only [World.setCell, Array.getElem?_modify] at h
  by_cases e : p.block = q.block
  · rw [if_pos e] at h
    cases hq : w.heap[q.block]? with
    | none => rw [hq] at h; exact h
    | some o =>
      rw [hq] at h
      cases o with
      | cells c t f =>
        simp only [Option.map_some] at h
        by_cases hs : q.spot.isSome
        · simp [hs] at h
        · simp only [hs] at h ⊢
          by_cases hp : p.spot.isSome
          · simpa [hp] using h
          · simpa [hp] using h
      | _ => exact h
  · rw [if_neg e] at h; exact h

theorem set_read {w : World} {b i : Nat} {u c0 : Value} (h0 : (w.setCell ⟨b, i, none⟩ u).cell? ⟨b, i, none⟩ = some c0) :
    (w.setCell ⟨b, i, none⟩ u).cell? ⟨b, i, none⟩ = some u :=
  World.cell?_setCell_same' _ _ _ (isSome_of_set (by rw [h0]; rfl))

theorem pair_read {w : World} {b : Nat} {u v c0 c1 : Value} (h0 : ((w.setCell ⟨b, 0, none⟩ u).setCell ⟨b, 1, none⟩ v).cell? ⟨b, 0, none⟩ = some c0)
    (h1 : ((w.setCell ⟨b, 0, none⟩ u).setCell ⟨b, 1, none⟩ v).cell? ⟨b, 1, none⟩ = some c1) :
    ((w.setCell ⟨b, 0, none⟩ u).setCell ⟨b, 1, none⟩ v).cell? ⟨b, 0, none⟩ = some u ∧ ((w.setCell ⟨b, 0, none⟩ u).setCell ⟨b, 1, none⟩ v).cell? ⟨b, 1, none⟩ = some v := by
  have e : (w.setCell ⟨b, 0, none⟩ u).cell? ⟨b, 0, none⟩ = some c0 := by rw [← h0]; exact (World.cell?_setCell_other _ _ _ _ (by simp)).symm
  refine ⟨?_, set_read h1⟩
  rw [World.cell?_setCell_other _ _ _ _ (by simp)]
  exact set_read e

end Go.Proofs.Ythnjfnapjpdchaa

namespace Go.Proofs.Ythnjfnapjpdchaa
open Go.RowKit

/-- the numbers of a site are within their ranges -/
structure SiteOk (x y z rose gates step width : Int) : Prop where
  x1 : -1048576 ≤ x
  x2 : x ≤ 1048576
  y1 : -1048576 ≤ y
  y2 : y ≤ 1048576
  z1 : 0 ≤ z
  z2 : z ≤ 20000
  r1 : 1 ≤ rose
  r2 : rose ≤ 90
  g1 : 1 ≤ gates
  g2 : gates ≤ 200
  s1 : 50 ≤ step
  s2 : step ≤ 2000
  d1 : 0 ≤ width
  d2 : width ≤ 8

theorem siteB_true {x y z rose gates step width : Int} : siteB x y z rose gates step width = true ↔ SiteOk x y z rose gates step width := by
  unfold siteB
  simp only [Bool.and_eq_true, inB_true]
  constructor
  · rintro ⟨⟨⟨⟨⟨⟨⟨h1, h2⟩, h3, h4⟩, h5, h6⟩, h7, h8⟩, h9, h10⟩, h11, h12⟩, h13, h14⟩
    exact ⟨h1, h2, h3, h4, h5, h6, h7, h8, h9, h10, h11, h12, h13, h14⟩
  · intro h
    exact ⟨⟨⟨⟨⟨⟨⟨h.x1, h.x2⟩, h.y1, h.y2⟩, h.z1, h.z2⟩, h.r1, h.r2⟩, h.g1, h.g2⟩, h.s1, h.s2⟩, h.d1, h.d2⟩

theorem siteC_zero {nm : ByteArray} {x y z rose gates step width : Int} : siteC nm x y z rose gates step width = 0 ↔ nameB nm = true ∧ SiteOk x y z rose gates step width := by
  unfold siteC
  by_cases h1 : nameB nm = true
  · rw [if_pos h1]
    by_cases h2 : siteB x y z rose gates step width = true
    · rw [if_pos h2]; exact ⟨fun _ => ⟨h1, siteB_true.1 h2⟩, fun _ => rfl⟩
    · rw [if_neg h2]; exact ⟨(fun h => by cases h), fun h => absurd (siteB_true.2 h.2) h2⟩
  · rw [if_neg h1]; exact ⟨(fun h => by cases h), fun h => absurd h.1 h1⟩

def sinN (step t gate : Int) : Int := (2 * gate + 1) * step * (1024 * t)
def climbLo (z step t gate radius : Int) : Int := z + sinN step t gate / runD t + runLo step t gate * runLo step t gate / (2 * radius)
def climbHi (z step t gate radius : Int) : Int := z + -((-sinN step t gate) / runD t) + -((-(runHi step t gate * runHi step t gate)) / (2 * radius))

theorem sinN_bd {step t gate : Int} (h1 : -8 ≤ t) (h2 : t ≤ 264) (s1 : 50 ≤ step) (s2 : step ≤ 2000) (g1 : 0 ≤ gate) (g2 : gate ≤ 199) :
    -215728128000 ≤ sinN step t gate ∧ sinN step t gate ≤ 215728128000 := by
  have h3 := M.mul_bd (a := 2 * gate + 1) (b := step) (A := 399) (B := 2000) (by omega) (by omega) (by omega) s2
  have h4 := M.mul_abs (a := (2 * gate + 1) * step) (b := 1024 * t) (A := 798000) (B := 270336) (by omega) (by omega) (by omega) (by omega)
  unfold sinN; omega

theorem quo_bd {a b A : Int} (hb : 1 ≤ b) (h1 : -A ≤ a) (h2 : a ≤ A) : -A ≤ a / b ∧ a / b ≤ A := by
  have hA : 0 ≤ A := by omega
  have h3 : a / b < A + 1 := Int.ediv_lt_of_lt_mul (by omega) (by
    have := Int.mul_le_mul_of_nonneg_left hb (show 0 ≤ A + 1 by omega)
    omega)
  have h4 : -A ≤ a / b := Int.le_ediv_of_mul_le (by omega) (by
    have := Int.mul_le_mul_of_nonneg_left hb hA
    have e : -A * b = -(A * b) := Int.neg_mul _ _
    omega)
  omega

theorem down_q (a b : Int) (w : World) (hb : 1 ≤ b) (ha1 : -1000000000000000 ≤ a) (ha2 : a ≤ 1000000000000000) :
    Calls Try.prog 92 #[.int .i64 a, .int .i64 b] w fun e w' => e = .returned (.int .i64 (a / b)) ∧ w' = w :=
  (down_any a b w hb ha1 ha2).mono fun _ _ h => ⟨h.1, h.2.symm⟩
theorem up_q (a b : Int) (p : Addr) (w : World) (hp : w.cell? p = some (.func (Fn.func 92) #[] #[])) (hb : 1 ≤ b) (ha1 : -1000000000000000 ≤ a) (ha2 : a ≤ 1000000000000000) :
    Calls Try.prog 93 #[.int .i64 a, .int .i64 b, .pointer (some p)] w fun e w' => e = .returned (.int .i64 (-((-a) / b))) ∧ w' = w :=
  (up_any a b p w hp hb ha1 ha2).mono fun _ _ h => ⟨h.1, h.2.symm⟩

theorem keepX {B : Nat} {p : Addr} {W w1 : World} {v : Value} (hb : Below B W w1) (h : p.block < B) (hc : W.cell? p = some v) : w1.cell? p = some v := by
  rw [hb.cell h]; exact hc
theorem keepP {w : World} {p : Addr} {v : Value} (hp2 : p.block < w.heap.size) (hp : w.cell? p = some v) (o : Obj) : (w.alloc o).cell? p = some v :=
  keepX ((Below.refl w.heap.size w).alloc (Nat.le_refl _) o) hp2 hp
theorem keepP2 {w : World} {p : Addr} {v : Value} {n : Nat} (hp : w.cell? p = some v) : (w.drewN n).cell? p = some v := hp

set_option maxHeartbeats 800000 in
theorem climb_down (nm : ByteArray) (x y z rose gates step width t gate radius : Int) (w : World) (h1 : -8 ≤ t) (h2 : t ≤ 264) (s1 : 50 ≤ step) (s2 : step ≤ 2000) (z1 : 0 ≤ z) (z2 : z ≤ 20000) (g1 : 0 ≤ gate) (g2 : gate ≤ 199) (e1 : 1000000 ≤ radius) (e2 : radius ≤ 100000000) :
    Calls Try.prog 95 #[.agg #[.string nm, .int .i64 x, .int .i64 y, .int .i64 z, .int .i64 rose, .int .i64 gates, .int .i64 step, .int .i64 width], .int .i64 t, .int .i64 gate, .int .i64 radius, .func (Fn.func 92) #[] #[]] w
      fun e w' => e = .returned (.int .i64 (climbLo z step t gate radius)) ∧ Below w.heap.size w w' := by
  obtain ⟨b1, b2⟩ := runLo_bd h1 h2 s1 s2 g1 g2
  have b3 := M.mul_bd b1 b2 b1 b2
  have b4 := sinN_bd h1 h2 s1 s2 g1 g2
  have b5 := runD_bd h1 h2
  have b6 := M.mul_bd (a := 2 * gate + 1) (b := step) (A := 399) (B := 2000) (by omega) (by omega) (by omega) s2
  have b7 : 0 ≤ t * t := M.sq_nonneg t
  have b8 : t * t ≤ 69696 := (M.sq_bd (a := t) (A := 264) (by omega) h2).2
  have b9 := quo_bd (a :=  sinN step t gate) (b := runD t) (A := 215728128000) (by omega) (by omega) (by omega)
  have b10 := quo_bd (a :=  (runLo step t gate * runLo step t gate)) (b := 2 * radius) (A := 399000 * 399000) (by omega) (by omega) (by omega)
  have q1 : IntKind.i64.wrap (2 * gate) = 2 * gate := IntWalk.i64_in _ (by omega)
  have q2 : IntKind.i64.wrap (2 * gate + 1) = 2 * gate + 1 := IntWalk.i64_in _ (by omega)
  have q3 : IntKind.i64.wrap ((2 * gate + 1) * step) = (2 * gate + 1) * step := IntWalk.i64_in _ (by omega)
  have q4 : IntKind.i64.wrap ((2 * gate + 1) * step * (1024 * t)) = sinN step t gate := IntWalk.i64_in _ (by unfold sinN at b4; omega)
  have q5 : IntKind.i64.wrap (2 * (262144 + t * t)) = runD t := IntWalk.i64_in _ (by omega)
  have q6 : IntKind.i64.wrap (runLo step t gate * runLo step t gate) = runLo step t gate * runLo step t gate := IntWalk.i64_in _ (by omega)
  have q7 : IntKind.i64.wrap (2 * radius) = 2 * radius := IntWalk.i64_in _ (by omega)
  have q8 : IntKind.i64.wrap (z + sinN step t gate / runD t) = z + sinN step t gate / runD t := IntWalk.i64_in _ (by omega)
  have q9 : IntKind.i64.wrap (z + sinN step t gate / runD t + runLo step t gate * runLo step t gate / (2 * radius)) = climbLo z step t gate radius := IntWalk.i64_in _ (by omega)
  go_enter Try.func95, Try.ntmps95
  go_wp2_with fail
  refine (slant_any _ _ h1 h2).mono ?_; rintro e w1 ⟨rfl, rfl⟩
  go_wp2_with fail
  refine (run_down _ _ _ _ _ _ _ _ _ _ _ h1 h2 s1 s2 g1 g2).mono ?_; rintro e w1 ⟨rfl, hb⟩
  obtain ⟨hc, hf⟩ := bcell hb
  go_wp2_with fail
  go_quiet ((go_at_call 92; exact Calls.quiet_of_same (down_q _ _ _ (by omega) (by omega) (by omega))))
  go_wp2
  go_ret
  exact ⟨rfl, below_drewN (Below.trans ((Below.refl _ _).alloc (Nat.le_refl _) _) (hb.mono (by simp))) _⟩

set_option maxHeartbeats 800000 in
theorem climb_up (nm : ByteArray) (x y z rose gates step width t gate radius : Int) (p : Addr) (w : World) (hp : w.cell? p = some (.func (Fn.func 92) #[] #[])) (hp2 : p.block < w.heap.size) (h1 : -8 ≤ t) (h2 : t ≤ 264) (s1 : 50 ≤ step) (s2 : step ≤ 2000) (z1 : 0 ≤ z) (z2 : z ≤ 20000) (g1 : 0 ≤ gate) (g2 : gate ≤ 199) (e1 : 1000000 ≤ radius) (e2 : radius ≤ 100000000) :
    Calls Try.prog 95 #[.agg #[.string nm, .int .i64 x, .int .i64 y, .int .i64 z, .int .i64 rose, .int .i64 gates, .int .i64 step, .int .i64 width], .int .i64 t, .int .i64 gate, .int .i64 radius, .func (Fn.func 93) #[] #[.pointer (some p)]] w
      fun e w' => e = .returned (.int .i64 (climbHi z step t gate radius)) ∧ Below w.heap.size w w' := by
  obtain ⟨b1, b2⟩ := runHi_bd h1 h2 s1 s2 g1 g2
  have b3 := M.mul_bd b1 b2 b1 b2
  have b4 := sinN_bd h1 h2 s1 s2 g1 g2
  have b5 := runD_bd h1 h2
  have b6 := M.mul_bd (a := 2 * gate + 1) (b := step) (A := 399) (B := 2000) (by omega) (by omega) (by omega) s2
  have b7 : 0 ≤ t * t := M.sq_nonneg t
  have b8 : t * t ≤ 69696 := (M.sq_bd (a := t) (A := 264) (by omega) h2).2
  have b9 := quo_bd (a := - sinN step t gate) (b := runD t) (A := 215728128000) (by omega) (by omega) (by omega)
  have b10 := quo_bd (a := - (runHi step t gate * runHi step t gate)) (b := 2 * radius) (A := 399000 * 399000) (by omega) (by omega) (by omega)
  have q1 : IntKind.i64.wrap (2 * gate) = 2 * gate := IntWalk.i64_in _ (by omega)
  have q2 : IntKind.i64.wrap (2 * gate + 1) = 2 * gate + 1 := IntWalk.i64_in _ (by omega)
  have q3 : IntKind.i64.wrap ((2 * gate + 1) * step) = (2 * gate + 1) * step := IntWalk.i64_in _ (by omega)
  have q4 : IntKind.i64.wrap ((2 * gate + 1) * step * (1024 * t)) = sinN step t gate := IntWalk.i64_in _ (by unfold sinN at b4; omega)
  have q5 : IntKind.i64.wrap (2 * (262144 + t * t)) = runD t := IntWalk.i64_in _ (by omega)
  have q6 : IntKind.i64.wrap (runHi step t gate * runHi step t gate) = runHi step t gate * runHi step t gate := IntWalk.i64_in _ (by omega)
  have q7 : IntKind.i64.wrap (2 * radius) = 2 * radius := IntWalk.i64_in _ (by omega)
  have q8 : IntKind.i64.wrap (z + -((-sinN step t gate) / runD t)) = z + -((-sinN step t gate) / runD t) := IntWalk.i64_in _ (by omega)
  have q9 : IntKind.i64.wrap (z + -((-sinN step t gate) / runD t) + -((-(runHi step t gate * runHi step t gate)) / (2 * radius))) = climbHi z step t gate radius := IntWalk.i64_in _ (by omega)
  go_enter Try.func95, Try.ntmps95
  go_wp2_with fail
  refine (slant_any _ _ h1 h2).mono ?_; rintro e w1 ⟨rfl, rfl⟩
  go_wp2_with fail
  refine (run_up _ _ _ _ _ _ _ _ _ _ _ _ (keepP hp2 hp _) (by simp; omega) h1 h2 s1 s2 g1 g2).mono ?_; rintro e w1 ⟨rfl, hb⟩
  obtain ⟨hc, hf⟩ := bcell hb
  have HP2 := Lib.hid (keepX hb (by simp; omega) (keepP hp2 hp _))
  go_wp2_with fail
  go_quiet ((go_at_call 93; exact Calls.quiet_of_same (up_q _ _ _ _ (keepP2 HP2.out) (by omega) (by omega) (by omega))))
  go_wp2
  go_ret
  exact ⟨rfl, below_drewN (Below.trans ((Below.refl _ _).alloc (Nat.le_refl _) _) (hb.mono (by simp))) _⟩

end Go.Proofs.Ythnjfnapjpdchaa
