/-
  Walks over CheckSite and CheckGrid, in the code and in the reference.
-/
import Derived.Test.YthnjfnapjpdchaaF
namespace Go.Proofs.Ythnjfnapjpdchaa
open Go.RowKit

noncomputable def nameB (s : ByteArray) : Bool := @decide (nameP s) (Classical.propDecidable _)
theorem nameB_true {s : ByteArray} : nameB s = true ↔ nameP s := by unfold nameB; exact @decide_eq_true_iff _ (Classical.propDecidable _)

theorem NameRet_b {s : ByteArray} {w w' : World} {e : Ending} (h : NameRet s w e w') : e = .returned (.bool (nameB s)) ∧ w = w' := by
  obtain ⟨b, rfl, hb, hw⟩ := h
  refine ⟨?_, hw⟩
  have : b = nameB s := by rw [Bool.eq_iff_iff, hb, nameB_true]
  rw [this]

theorem Name_b (s : ByteArray) (w : World) (hs : s.size ≤ maxLen) :
    Calls Try.prog 15 #[.string s] w fun e w' => e = .returned (.bool (nameB s)) ∧ w = w' := (Name_any s w hs).mono fun _ _ h => NameRet_b h
theorem refName_b (s : ByteArray) (w : World) (hs : s.size ≤ maxLen) :
    Calls Try.prog 16 #[.string s] w fun e w' => e = .returned (.bool (nameB s)) ∧ w = w' := (refName_any s w hs).mono fun _ _ h => NameRet_b h

/-- the numbers of a site are within their ranges -/
def siteB (x y z rose gates step width : Int) : Bool :=
  inB x (-1048576) 1048576 && inB y (-1048576) 1048576 && inB z 0 20000 && inB rose 1 90 && inB gates 1 200 && inB step 50 2000 && inB width 0 8
/-- the answer of CheckSite -/
noncomputable def siteC (nm : ByteArray) (x y z rose gates step width : Int) : Int :=
  if nameB nm = true then (if siteB x y z rose gates step width = true then 0 else 3) else 10

theorem siteC_name {nm : ByteArray} {x y z rose gates step width : Int} (h : nameB nm = false) : siteC nm x y z rose gates step width = 10 := by unfold siteC; rw [h]; rfl
theorem siteC_ok {nm : ByteArray} {x y z rose gates step width : Int} (h : nameB nm = true) (h1 : siteB x y z rose gates step width = true) : siteC nm x y z rose gates step width = 0 := by unfold siteC; rw [h, h1]; rfl
theorem siteC_no {nm : ByteArray} {x y z rose gates step width : Int} (h : nameB nm = true) (h1 : siteB x y z rose gates step width = false) : siteC nm x y z rose gates step width = 3 := by unfold siteC; rw [h, h1]; rfl

theorem siteB_f1 {x y z rose gates step width : Int} (h : inB x (-1048576) 1048576 = false) : siteB x y z rose gates step width = false := by unfold siteB; rw [h]; simp
theorem siteB_f2 {x y z rose gates step width : Int} (h : inB y (-1048576) 1048576 = false) : siteB x y z rose gates step width = false := by unfold siteB; rw [h]; simp
theorem siteB_f3 {x y z rose gates step width : Int} (h : inB z 0 20000 = false) : siteB x y z rose gates step width = false := by unfold siteB; rw [h]; simp
theorem siteB_f4 {x y z rose gates step width : Int} (h : inB rose 1 90 = false) : siteB x y z rose gates step width = false := by unfold siteB; rw [h]; simp
theorem siteB_f5 {x y z rose gates step width : Int} (h : inB gates 1 200 = false) : siteB x y z rose gates step width = false := by unfold siteB; rw [h]; simp
theorem siteB_f6 {x y z rose gates step width : Int} (h : inB step 50 2000 = false) : siteB x y z rose gates step width = false := by unfold siteB; rw [h]; simp
theorem siteB_f7 {x y z rose gates step width : Int} (h : inB width 0 8 = false) : siteB x y z rose gates step width = false := by unfold siteB; rw [h]; simp
theorem siteB_ok {x y z rose gates step width : Int} (h1 : inB x (-1048576) 1048576 = true) (h2 : inB y (-1048576) 1048576 = true) (h3 : inB z 0 20000 = true) (h4 : inB rose 1 90 = true) (h5 : inB gates 1 200 = true) (h6 : inB step 50 2000 = true) (h7 : inB width 0 8 = true) : siteB x y z rose gates step width = true := by unfold siteB; rw [h1, h2, h3, h4, h5, h6, h7]; rfl

theorem three (a b c : Bool) : a = false ∨ (a = true ∧ b = false) ∨ (a = true ∧ b = true ∧ c = false) ∨ (a = true ∧ b = true ∧ c = true) := by cases a <;> cases b <;> cases c <;> simp
theorem two (a b : Bool) : a = false ∨ (a = true ∧ b = false) ∨ (a = true ∧ b = true) := by cases a <;> cases b <;> simp
theorem five (a b c d e : Bool) : (a = false) ∨ (a = true ∧ b = false) ∨ (a = true ∧ b = true ∧ c = false) ∨ (a = true ∧ b = true ∧ c = true ∧ d = false) ∨ (a = true ∧ b = true ∧ c = true ∧ d = true ∧ e = false) ∨ (a = true ∧ b = true ∧ c = true ∧ d = true ∧ e = true) := by cases a <;> cases b <;> cases c <;> cases d <;> cases e <;> simp
theorem seven (a b c d e f g : Bool) : (a = false) ∨ (a = true ∧ b = false) ∨ (a = true ∧ b = true ∧ c = false) ∨ (a = true ∧ b = true ∧ c = true ∧ d = false) ∨ (a = true ∧ b = true ∧ c = true ∧ d = true ∧ e = false) ∨ (a = true ∧ b = true ∧ c = true ∧ d = true ∧ e = true ∧ f = false) ∨ (a = true ∧ b = true ∧ c = true ∧ d = true ∧ e = true ∧ f = true ∧ g = false) ∨ (a = true ∧ b = true ∧ c = true ∧ d = true ∧ e = true ∧ f = true ∧ g = true) := by cases a <;> cases b <;> cases c <;> cases d <;> cases e <;> cases f <;> cases g <;> simp

set_option maxHeartbeats 8000000 in
theorem CheckSite_any (nm : ByteArray) (x y z rose gates step width : Int) (w : World) (hs : nm.size ≤ maxLen) :
    Calls Try.prog 17 #[.agg #[.string nm, .int .i64 x, .int .i64 y, .int .i64 z, .int .i64 rose, .int .i64 gates, .int .i64 step, .int .i64 width]] w
      fun e w' => e = .returned (.int .i64 (siteC nm x y z rose gates step width)) ∧ Below w.heap.size w w' := by
  have HS := Lib.hid hs
  clear hs
  cases hn : nameB nm
  · rw [siteC_name hn]
    go_enter Try.func17, Try.ntmps17
    go_wp2_with (go_at_call 15; refine (Name_b _ _ HS.out).mono ?_; rintro e w' ⟨rfl, rfl⟩)
    go_ret
    exact ⟨rfl, (Below.refl _ _).alloc (Nat.le_refl _) _⟩
  · rcases three (inB x (-1048576) 1048576) (inB y (-1048576) 1048576) (inB z 0 20000) with h1 | ⟨h1, h2⟩ | ⟨h1, h2, h3⟩ | ⟨h1, h2, h3⟩ <;>
    rcases two (inB rose 1 90) (inB width 0 8) with h4 | ⟨h4, h7⟩ | ⟨h4, h7⟩ <;>
    rcases two (inB gates 1 200) (inB step 50 2000) with h5 | ⟨h5, h6⟩ | ⟨h5, h6⟩ <;>
    (first | rw [siteC_ok hn (siteB_ok h1 h2 h3 h4 h5 h6 h7)] | rw [siteC_no hn (siteB_f1 h1)] | rw [siteC_no hn (siteB_f2 h2)] | rw [siteC_no hn (siteB_f3 h3)] | rw [siteC_no hn (siteB_f4 h4)] | rw [siteC_no hn (siteB_f5 h5)] | rw [siteC_no hn (siteB_f6 h6)] | rw [siteC_no hn (siteB_f7 h7)]) <;>
    (go_enter Try.func17, Try.ntmps17
     go_wp2_with (first | (go_at_call 15; refine (Name_b _ _ HS.out).mono ?_; rintro e w' ⟨rfl, rfl⟩) | (go_at_call 58; refine (isCoordinate_any _ _).mono ?_; rintro e w' ⟨rfl, rfl⟩) | (go_at_call 59; refine (isIn_any _ _ _ _).mono ?_; rintro e w' ⟨rfl, rfl⟩))
     go_ret
     exact ⟨rfl, (Below.refl _ _).alloc (Nat.le_refl _) _⟩)

set_option maxHeartbeats 8000000 in
theorem refCheckSite_any (nm : ByteArray) (x y z rose gates step width : Int) (w : World) (hs : nm.size ≤ maxLen) :
    Calls Try.prog 18 #[.agg #[.string nm, .int .i64 x, .int .i64 y, .int .i64 z, .int .i64 rose, .int .i64 gates, .int .i64 step, .int .i64 width]] w
      fun e w' => e = .returned (.int .i64 (siteC nm x y z rose gates step width)) ∧ Below w.heap.size w w' := by
  have HS := Lib.hid hs
  clear hs
  cases hn : nameB nm
  · rw [siteC_name hn]
    go_enter Try.func18, Try.ntmps18
    go_wp2_with (go_at_call 16; refine (refName_b _ _ HS.out).mono ?_; rintro e w' ⟨rfl, rfl⟩)
    go_ret
    exact ⟨rfl, (Below.refl _ _).alloc (Nat.le_refl _) _⟩
  · rcases seven (inB x (-1048576) 1048576) (inB y (-1048576) 1048576) (inB z 0 20000) (inB rose 1 90) (inB gates 1 200) (inB step 50 2000) (inB width 0 8) with h1 | ⟨h1, h2⟩ | ⟨h1, h2, h3⟩ | ⟨h1, h2, h3, h4⟩ | ⟨h1, h2, h3, h4, h5⟩ | ⟨h1, h2, h3, h4, h5, h6⟩ | ⟨h1, h2, h3, h4, h5, h6, h7⟩ | ⟨h1, h2, h3, h4, h5, h6, h7⟩ <;>
    (first | rw [siteC_ok hn (siteB_ok h1 h2 h3 h4 h5 h6 h7)] | rw [siteC_no hn (siteB_f1 h1)] | rw [siteC_no hn (siteB_f2 h2)] | rw [siteC_no hn (siteB_f3 h3)] | rw [siteC_no hn (siteB_f4 h4)] | rw [siteC_no hn (siteB_f5 h5)] | rw [siteC_no hn (siteB_f6 h6)] | rw [siteC_no hn (siteB_f7 h7)]) <;>
    (go_enter Try.func18, Try.ntmps18
     go_wp2_with (first | (go_at_call 16; refine (refName_b _ _ HS.out).mono ?_; rintro e w' ⟨rfl, rfl⟩) | (go_at_call 60; refine (refIn_any _ _ _ _).mono ?_; rintro e w' ⟨rfl, rfl⟩))
     go_ret
     exact ⟨rfl, (Below.refl _ _).alloc (Nat.le_refl _) _⟩)

/-- the answer of CheckGrid -/
def gridB (x y size wide high : Int) : Bool :=
  inB x (-1048576) 1048576 && inB y (-1048576) 1048576 && inB size 1 10000 && inB wide 1 64 && inB high 1 64
def gridC (x y size wide high : Int) : Int := if gridB x y size wide high = true then 0 else 3
theorem gridC_ok {x y size wide high : Int} (h : gridB x y size wide high = true) : gridC x y size wide high = 0 := by unfold gridC; rw [h]; rfl
theorem gridC_no {x y size wide high : Int} (h : gridB x y size wide high = false) : gridC x y size wide high = 3 := by unfold gridC; rw [h]; rfl
theorem gridB_f1 {x y size wide high : Int} (h : inB x (-1048576) 1048576 = false) : gridB x y size wide high = false := by unfold gridB; rw [h]; simp
theorem gridB_f2 {x y size wide high : Int} (h : inB y (-1048576) 1048576 = false) : gridB x y size wide high = false := by unfold gridB; rw [h]; simp
theorem gridB_f3 {x y size wide high : Int} (h : inB size 1 10000 = false) : gridB x y size wide high = false := by unfold gridB; rw [h]; simp
theorem gridB_f4 {x y size wide high : Int} (h : inB wide 1 64 = false) : gridB x y size wide high = false := by unfold gridB; rw [h]; simp
theorem gridB_f5 {x y size wide high : Int} (h : inB high 1 64 = false) : gridB x y size wide high = false := by unfold gridB; rw [h]; simp
theorem gridB_ok {x y size wide high : Int} (h1 : inB x (-1048576) 1048576 = true) (h2 : inB y (-1048576) 1048576 = true) (h3 : inB size 1 10000 = true) (h4 : inB wide 1 64 = true) (h5 : inB high 1 64 = true) : gridB x y size wide high = true := by unfold gridB; rw [h1, h2, h3, h4, h5]; rfl

set_option maxHeartbeats 8000000 in
theorem refCheckGrid_any (x y size wide high : Int) (w : World) :
    Calls Try.prog 20 #[.agg #[.int .i64 x, .int .i64 y, .int .i64 size, .int .i64 wide, .int .i64 high]] w
      fun e w' => e = .returned (.int .i64 (gridC x y size wide high)) ∧ Below w.heap.size w w' := by
  rcases five (inB x (-1048576) 1048576) (inB y (-1048576) 1048576) (inB size 1 10000) (inB wide 1 64) (inB high 1 64) with h1 | ⟨h1, h2⟩ | ⟨h1, h2, h3⟩ | ⟨h1, h2, h3, h4⟩ | ⟨h1, h2, h3, h4, h5⟩ | ⟨h1, h2, h3, h4, h5⟩ <;>
  (first | rw [gridC_ok (gridB_ok h1 h2 h3 h4 h5)] | rw [gridC_no (gridB_f1 h1)] | rw [gridC_no (gridB_f2 h2)] | rw [gridC_no (gridB_f3 h3)] | rw [gridC_no (gridB_f4 h4)] | rw [gridC_no (gridB_f5 h5)]) <;>
  (go_enter Try.func20, Try.ntmps20
   go_wp2_with (go_at_call 60; refine (refIn_any _ _ _ _).mono ?_; rintro e w' ⟨rfl, rfl⟩)
   go_ret
   exact ⟨rfl, (Below.refl _ _).alloc (Nat.le_refl _) _⟩)

set_option maxHeartbeats 8000000 in
theorem CheckGrid_any (x y size wide high : Int) (w : World) :
    Calls Try.prog 19 #[.agg #[.int .i64 x, .int .i64 y, .int .i64 size, .int .i64 wide, .int .i64 high]] w
      fun e w' => e = .returned (.int .i64 (gridC x y size wide high)) ∧ Below w.heap.size w w' := by
  rcases two (inB x (-1048576) 1048576) (inB y (-1048576) 1048576) with h1 | ⟨h1, h2⟩ | ⟨h1, h2⟩ <;>
  rcases three (inB size 1 10000) (inB wide 1 64) (inB high 1 64) with h3 | ⟨h3, h4⟩ | ⟨h3, h4, h5⟩ | ⟨h3, h4, h5⟩ <;>
  (first | rw [gridC_ok (gridB_ok h1 h2 h3 h4 h5)] | rw [gridC_no (gridB_f1 h1)] | rw [gridC_no (gridB_f2 h2)] | rw [gridC_no (gridB_f3 h3)] | rw [gridC_no (gridB_f4 h4)] | rw [gridC_no (gridB_f5 h5)]) <;>
  (go_enter Try.func19, Try.ntmps19
   go_wp2_with (first | (go_at_call 58; refine (isCoordinate_any _ _).mono ?_; rintro e w' ⟨rfl, rfl⟩) | (go_at_call 59; refine (isIn_any _ _ _ _).mono ?_; rintro e w' ⟨rfl, rfl⟩))
   go_ret
   exact ⟨rfl, (Below.refl _ _).alloc (Nat.le_refl _) _⟩)

end Go.Proofs.Ythnjfnapjpdchaa
