/-
  The walk over works.
-/
import Derived.Test.Ythnjfnapjpdchaamg10
import Derived.Test.Ythnjfnapjpdchaamg3
import Derived.Test.Ythnjfnapjpdchaamg7
namespace Go.Proofs.Ythnjfnapjpdchaa
open Go.RowKit

set_option maxHeartbeats 400000 in
theorem point_any (n : Int) (w : World) :
    Calls Try.prog 48 #[.int .i64 n] w fun e w' => e = .returned (.agg #[.int .i64 n, .int .i64 n]) ∧ Below w.heap.size w w' := by
  go_enter Try.func48, Try.ntmps48
  go_wp2
  exact bodyPost_ret (v := .agg #[.int .i64 n, .int .i64 n]) (by simp [results, Try.results48, go_sem]) rfl ⟨rfl, by repeat (first | exact Below.refl _ _ | (refine Below.setCell ?_ (by simp) _) | (refine Below.alloc ?_ (by simp) _))⟩

/-- the name of the example's site -/
def nmS : ByteArray := { data := #[115] }

set_option maxHeartbeats 400000 in
theorem S_any (w : World) :
    Calls Try.prog 23 #[] w fun e w' => e = .returned (.agg #[.string nmS, .int .i64 0, .int .i64 0, .int .i64 100, .int .i64 2, .int .i64 4, .int .i64 1000, .int .i64 1]) ∧ Below w.heap.size w w' := by
  go_enter Try.func23, Try.ntmps23
  go_wp2
  exact bodyPost_ret (v := .agg #[.string nmS, .int .i64 0, .int .i64 0, .int .i64 100, .int .i64 2, .int .i64 4, .int .i64 1000, .int .i64 1]) (by simp [results, Try.results23, go_sem, nmS]) rfl ⟨rfl, by repeat (first | exact Below.refl _ _ | (refine Below.setCell ?_ (by simp) _) | (refine Below.alloc ?_ (by simp) _))⟩

theorem nmS_ok : nameB nmS = true := by
  rw [nameB_true]
  refine ⟨by decide, by decide, fun h => ?_, fun j h => ?_⟩
  · have e : ((nmS[0]'h).toNat : Int) = 115 := rfl
    rw [e]; decide
  · have h2 : j < 1 := h
    obtain rfl : j = 0 := by omega
    have e : ((nmS[0]'h).toNat : Int) = 115 := rfl
    rw [e]; decide
theorem siteS : siteC nmS 0 0 100 2 4 1000 1 = 0 := siteC_zero.2 ⟨nmS_ok, siteB_true.1 (by decide)⟩
theorem nmS_size : nmS.size ≤ maxLen := by decide

theorem d21 : dirX 2 1 = 4 ∧ dirY 2 1 = 3 ∧ dirL 2 1 = 5 := by decide
theorem g256 : codeE (siteC nmS 0 0 100 2 4 1000 1) (inB 256 0 256 && inB 1 0 (4 - 1)) = 0 := by rw [siteS]; decide
theorem r256 : runLo 1000 256 1 = 900 ∧ runHi 1000 256 1 = 900 := by decide +kernel

theorem Direction_21 (w : World) : Calls Try.prog 25 #[.int .i64 2, .int .i64 1] w fun e w' => e = .returned (.tuple #[.int .i64 4, .int .i64 3, .int .i64 5, .int .i64 0]) ∧ Below w.heap.size w w' := by
  have h := Direction_ok 2 1 w (by decide) (by decide) (by decide) (by decide)
  rw [d21.1, d21.2.1, d21.2.2] at h
  exact h
theorem Ground_S (w : World) : Calls Try.prog 29 #[.agg #[.string nmS, .int .i64 0, .int .i64 0, .int .i64 100, .int .i64 2, .int .i64 4, .int .i64 1000, .int .i64 1], .int .i64 256, .int .i64 1] w
    fun e w' => e = .returned (.tuple #[.agg #[.int .i64 900, .int .i64 900], .int .i64 0]) ∧ Below w.heap.size w w' := by
  have h := Ground_any nmS 0 0 100 2 4 1000 1 256 1 w nmS_size
  rw [g256, val_ok, val_ok, r256.1, r256.2] at h
  exact h

set_option maxHeartbeats 800000 in
theorem works_any (w : World) :
    Calls Try.prog 14 #[] w fun e w' => e = .returned (.bool true) ∧ Below w.heap.size w w' := by
  go_enter Try.func14, Try.ntmps14
  go_wp2_with fail
  refine (Direction_21 _).mono ?_; rintro e w1 ⟨rfl, hb1⟩
  go_wp2_with fail
  refine (S_any _).mono ?_; rintro e w2 ⟨rfl, hb2⟩
  go_wp2_with fail
  refine (Ground_S _).mono ?_; rintro e w3 ⟨rfl, hb3⟩
  have hb : Below w.heap.size w w3 := (hb1.trans (hb2.mono hb1.size)).trans (hb3.mono (Nat.le_trans hb1.size hb2.size))
  have hz : w.heap.size ≤ w3.heap.size := hb.size
  clear hb1 hb2 hb3
  go_wp2_with fail
  go_region_held3 (fun w' => w'.cell? ⟨w3.heap.size, 0, none⟩ = some (.int .i64 900) ∧ w'.cell? ⟨w3.heap.size, 1, none⟩ = some (.int .i64 900) ∧ w3.heap.size < w'.heap.size ∧ Below w.heap.size w w')
    (first | exact ⟨alloc_new rfl rfl, alloc_new rfl rfl, by simp, (hb.alloc hz _).drew⟩ | (go_split_ands; refine ⟨?_, ?_, ?_, ?_⟩ <;> first | exact keepB hb4 (by omega) (by assumption) | (have := hb4.size; omega) | exact Below.trans (by assumption) (hb4.mono (by omega))))
    (first | (go_at_call 48; refine (point_any _ _).mono ?_; rintro e w4 ⟨rfl, hb4⟩))
  go_split_ands
  go_wp2
  go_ret
  exact ⟨rfl, by assumption⟩

end Go.Proofs.Ythnjfnapjpdchaa

namespace Go.Proofs.Ythnjfnapjpdchaa
open Go.RowKit

/-! the answers of Direction and Slant in one form -/
def dirB (n d : Int) : Bool := inB n 1 180 && inB d 0 (4 * n - 1)
def dX (n d : Int) : Int := if dirB n d = true then dirX n d else 0
def dY (n d : Int) : Int := if dirB n d = true then dirY n d else 0
def dL (n d : Int) : Int := if dirB n d = true then dirL n d else 0
def dE (n d : Int) : Int := if dirB n d = true then 0 else 3

theorem dir_yes {n d : Int} (h : dirB n d = true) : 1 ≤ n ∧ n ≤ 180 ∧ 0 ≤ d ∧ d < 4 * n := by
  unfold dirB at h
  rw [Bool.and_eq_true] at h
  have h1 := inB_true.1 h.1
  have h2 := inB_true.1 h.2
  omega

theorem Direction_any (n d : Int) (w : World) :
    Calls Try.prog 25 #[.int .i64 n, .int .i64 d] w fun e w' => e = .returned (.tuple #[.int .i64 (dX n d), .int .i64 (dY n d), .int .i64 (dL n d), .int .i64 (dE n d)]) ∧ Below w.heap.size w w' := by
  rcases (Bool.eq_false_or_eq_true (dirB n d)).symm with h | h
  · have e1 : dX n d = 0 ∧ dY n d = 0 ∧ dL n d = 0 ∧ dE n d = 3 := by simp [dX, dY, dL, dE, h]
    rw [e1.1, e1.2.1, e1.2.2.1, e1.2.2.2]
    have fin : ∀ (e : Ending) (w' : World), e = .returned (.tuple #[.int .i64 0, .int .i64 0, .int .i64 0, .int .i64 3]) ∧ w = w' → e = .returned (.tuple #[.int .i64 0, .int .i64 0, .int .i64 0, .int .i64 3]) ∧ Below w.heap.size w w' := fun e w' h => ⟨h.1, h.2 ▸ Below.refl _ _⟩
    rcases (Bool.eq_false_or_eq_true (inB n 1 180)).symm with h1 | h1
    · exact (Direction_no1 n d w h1).mono fin
    · have h2 : inB d 0 (4 * n - 1) = false := by unfold dirB at h; rw [h1] at h; exact h
      obtain ⟨n1, n2⟩ := inB_true.1 h1
      exact (Direction_no2 n d w n1 n2 h2).mono fin
  · have e1 : dX n d = dirX n d ∧ dY n d = dirY n d ∧ dL n d = dirL n d ∧ dE n d = 0 := by simp [dX, dY, dL, dE, h]
    rw [e1.1, e1.2.1, e1.2.2.1, e1.2.2.2]
    obtain ⟨n1, n2, d1, d2⟩ := dir_yes h
    exact (Direction_ok n d w n1 n2 d1 d2)

theorem refDirection_any (n d : Int) (w : World) :
    Calls Try.prog 26 #[.int .i64 n, .int .i64 d] w fun e w' => e = .returned (.tuple #[.int .i64 (dX n d), .int .i64 (dY n d), .int .i64 (dL n d), .int .i64 (dE n d)]) ∧ Below w.heap.size w w' := by
  rcases (Bool.eq_false_or_eq_true (dirB n d)).symm with h | h
  · have e1 : dX n d = 0 ∧ dY n d = 0 ∧ dL n d = 0 ∧ dE n d = 3 := by simp [dX, dY, dL, dE, h]
    rw [e1.1, e1.2.1, e1.2.2.1, e1.2.2.2]
    have fin : ∀ (e : Ending) (w' : World), e = .returned (.tuple #[.int .i64 0, .int .i64 0, .int .i64 0, .int .i64 3]) ∧ w = w' → e = .returned (.tuple #[.int .i64 0, .int .i64 0, .int .i64 0, .int .i64 3]) ∧ Below w.heap.size w w' := fun e w' h => ⟨h.1, h.2 ▸ Below.refl _ _⟩
    rcases (Bool.eq_false_or_eq_true (inB n 1 180)).symm with h1 | h1
    · exact (refDirection_no1 n d w h1).mono fin
    · have h2 : inB d 0 (4 * n - 1) = false := by unfold dirB at h; rw [h1] at h; exact h
      obtain ⟨n1, n2⟩ := inB_true.1 h1
      exact (refDirection_no2 n d w n1 n2 h2).mono fin
  · have e1 : dX n d = dirX n d ∧ dY n d = dirY n d ∧ dL n d = dirL n d ∧ dE n d = 0 := by simp [dX, dY, dL, dE, h]
    rw [e1.1, e1.2.1, e1.2.2.1, e1.2.2.2]
    obtain ⟨n1, n2, d1, d2⟩ := dir_yes h
    exact (refDirection_ok n d w n1 n2 d1 d2).mono fun e w' h => ⟨h.1, h.2 ▸ Below.refl _ _⟩

def slB (t : Int) : Bool := inB t (-8) 264
def sC (t : Int) : Int := if slB t = true then 262144 - t * t else 0
def sS (t : Int) : Int := if slB t = true then 1024 * t else 0
def sD (t : Int) : Int := if slB t = true then 262144 + t * t else 0
def sE (t : Int) : Int := if slB t = true then 0 else 3

theorem Slant_any (t : Int) (w : World) :
    Calls Try.prog 27 #[.int .i64 t] w fun e w' => e = .returned (.tuple #[.int .i64 (sC t), .int .i64 (sS t), .int .i64 (sD t), .int .i64 (sE t)]) ∧ w = w' := by
  rcases (Bool.eq_false_or_eq_true (slB t)).symm with h | h
  · have e1 : sC t = 0 ∧ sS t = 0 ∧ sD t = 0 ∧ sE t = 3 := by simp [sC, sS, sD, sE, h]
    rw [e1.1, e1.2.1, e1.2.2.1, e1.2.2.2]
    exact Slant_no t w h
  · have e1 : sC t = 262144 - t * t ∧ sS t = 1024 * t ∧ sD t = 262144 + t * t ∧ sE t = 0 := by simp [sC, sS, sD, sE, h]
    rw [e1.1, e1.2.1, e1.2.2.1, e1.2.2.2]
    obtain ⟨t1, t2⟩ := inB_true.1 h
    exact Slant_ok t w t1 t2

theorem refSlant_any (t : Int) (w : World) :
    Calls Try.prog 28 #[.int .i64 t] w fun e w' => e = .returned (.tuple #[.int .i64 (sC t), .int .i64 (sS t), .int .i64 (sD t), .int .i64 (sE t)]) ∧ w = w' := by
  rcases (Bool.eq_false_or_eq_true (slB t)).symm with h | h
  · have e1 : sC t = 0 ∧ sS t = 0 ∧ sD t = 0 ∧ sE t = 3 := by simp [sC, sS, sD, sE, h]
    rw [e1.1, e1.2.1, e1.2.2.1, e1.2.2.2]
    exact refSlant_no t w h
  · have e1 : sC t = 262144 - t * t ∧ sS t = 1024 * t ∧ sD t = 262144 + t * t ∧ sE t = 0 := by simp [sC, sS, sD, sE, h]
    rw [e1.1, e1.2.1, e1.2.2.1, e1.2.2.2]
    obtain ⟨t1, t2⟩ := inB_true.1 h
    exact refSlant_ok t w t1 t2

set_option maxHeartbeats 800000 in
theorem BeamDirections_walk (a0 a1 a2 : Int) (w : World) :
    Calls Try.prog 4 #[.int .i64 a0, .int .i64 a1, .int .i64 a2] w fun e w' => e = .returned (.bool true) ∧ Below w.heap.size w w' := by
  go_enter Try.func4, Try.ntmps4
  go_wp2_with fail
  refine (Direction_any _ _ _).mono ?_; rintro e w1 ⟨rfl, hb1⟩
  go_wp2_with fail
  refine (refDirection_any _ _ _).mono ?_; rintro e w2 ⟨rfl, hb2⟩
  have hb : Below w.heap.size w w2 := hb1.trans (hb2.mono hb1.size)
  clear hb1 hb2
  go_wp2_with fail
  refine (Slant_any _ _).mono ?_; rintro e w' ⟨rfl, rfl⟩
  go_wp2_with fail
  refine (refSlant_any _ _).mono ?_; rintro e w' ⟨rfl, rfl⟩
  go_wp2_with fail
  refine (works_any _).mono ?_; rintro e w3 ⟨rfl, hb3⟩
  go_wp2
  go_ret
  exact ⟨rfl, hb.trans (hb3.mono hb.size)⟩

end Go.Proofs.Ythnjfnapjpdchaa

namespace Go.Proofs.Ythnjfnapjpdchaa
open Go.RowKit
set_option linter.unusedVariables false

theorem Down_q (a b : Int) (w : World) (hb : 1 ≤ b) (ha1 : -1000000000000000 ≤ a) (ha2 : a ≤ 1000000000000000) :
    Calls Try.prog 77 #[.int .i64 a, .int .i64 b] w fun e w' => e = .returned (.int .i64 (a / b)) ∧ w' = w :=
  (Down_any a b w hb ha1 ha2).mono fun _ _ h => ⟨h.1, h.2.symm⟩

/-- a site in a box (of what is called first) -/
theorem site_keep {w w1 : World} {nm : ByteArray} {x y z rose gates step width : Int} {T : TypeId} (hb : Below (w.alloc (.cells #[.string nm, .int .i64 x, .int .i64 y, .int .i64 z, .int .i64 rose, .int .i64 gates, .int .i64 step, .int .i64 width] 23)).heap.size (w.alloc (.cells #[.string nm, .int .i64 x, .int .i64 y, .int .i64 z, .int .i64 rose, .int .i64 gates, .int .i64 step, .int .i64 width] 23)) w1) :
    SiteAt w1 w.heap.size nm x y z rose gates step width ∧ w.heap.size + 1 ≤ w1.heap.size ∧ Below w.heap.size w w1 :=
  ⟨(SiteAt.new w nm x y z rose gates step width).keep hb (by simp), by have := hb.size; simp at this; omega, Below.trans (below_alloc _ _) (hb.mono (by simp))⟩

set_option maxHeartbeats 1600000 in
theorem Place_err (nm : ByteArray) (x y z rose gates step width : Int) (t ray gate : Int) (w : World) (hs : nm.size ≤ maxLen) (hne : (siteC nm x y z rose gates step width != 0) = true) :
    Calls Try.prog 36 #[.agg #[.string nm, .int .i64 x, .int .i64 y, .int .i64 z, .int .i64 rose, .int .i64 gates, .int .i64 step, .int .i64 width], .int .i64 t, .int .i64 ray, .int .i64 gate] w fun e w' => e = .returned (.tuple #[.int .i64 0, .int .i64 0, .int .i64 (siteC nm x y z rose gates step width)]) ∧ Below w.heap.size w w' := by
  have HS := Lib.hid hs
  clear hs
  go_enter Try.func36, Try.ntmps36
  go_wp2_with fail
  refine (CheckSite_any _ _ _ _ _ _ _ _ _ HS.out).mono ?_; rintro e w1 ⟨rfl, hb1⟩
  obtain ⟨⟨k0, k1, k2, k3, k4, k5, k6, k7⟩, hz, hbw⟩ := site_keep (T := 23) hb1
  clear hb1
  go_wp2
  go_ret3
  exact ⟨rfl, hbw⟩

set_option maxHeartbeats 1600000 in
theorem Place_no0 (nm : ByteArray) (x y z rose gates step width : Int) (t ray gate : Int) (w : World) (hs : nm.size ≤ maxLen) (h0 : siteC nm x y z rose gates step width = 0) (hk : SiteOk x y z rose gates step width) (c0 : inB t 0 256 = false) :
    Calls Try.prog 36 #[.agg #[.string nm, .int .i64 x, .int .i64 y, .int .i64 z, .int .i64 rose, .int .i64 gates, .int .i64 step, .int .i64 width], .int .i64 t, .int .i64 ray, .int .i64 gate] w fun e w' => e = .returned (.tuple #[.int .i64 0, .int .i64 0, .int .i64 3]) ∧ Below w.heap.size w w' := by
  have br1 := hk.r1
  have br2 := hk.r2
  have bg1 := hk.g1
  have bg2 := hk.g2
  have HS := Lib.hid hs
  have H0 := Lib.hid h0
  clear hs h0
  go_enter Try.func36, Try.ntmps36
  go_wp2_with fail
  refine (CheckSite_any _ _ _ _ _ _ _ _ _ HS.out).mono ?_; rintro e w1 ⟨rfl, hb1⟩
  obtain ⟨⟨k0, k1, k2, k3, k4, k5, k6, k7⟩, hz, hbw⟩ := site_keep (T := 23) hb1
  clear hb1
  rw [H0.out]
  go_wp2_with fail
  refine (isTilt_any _ _).mono ?_; rintro e w' ⟨rfl, rfl⟩
  go_wp2
  go_ret3
  exact ⟨rfl, hbw⟩

set_option maxHeartbeats 1600000 in
theorem Place_no1 (nm : ByteArray) (x y z rose gates step width : Int) (t ray gate : Int) (w : World) (hs : nm.size ≤ maxLen) (h0 : siteC nm x y z rose gates step width = 0) (hk : SiteOk x y z rose gates step width) (c0 : inB t 0 256 = true) (c1 : inB ray 0 (4 * rose - 1) = false) :
    Calls Try.prog 36 #[.agg #[.string nm, .int .i64 x, .int .i64 y, .int .i64 z, .int .i64 rose, .int .i64 gates, .int .i64 step, .int .i64 width], .int .i64 t, .int .i64 ray, .int .i64 gate] w fun e w' => e = .returned (.tuple #[.int .i64 0, .int .i64 0, .int .i64 3]) ∧ Below w.heap.size w w' := by
  have br1 := hk.r1
  have br2 := hk.r2
  have bg1 := hk.g1
  have bg2 := hk.g2
  have HS := Lib.hid hs
  have H0 := Lib.hid h0
  clear hs h0
  go_enter Try.func36, Try.ntmps36
  go_wp2_with fail
  refine (CheckSite_any _ _ _ _ _ _ _ _ _ HS.out).mono ?_; rintro e w1 ⟨rfl, hb1⟩
  obtain ⟨⟨k0, k1, k2, k3, k4, k5, k6, k7⟩, hz, hbw⟩ := site_keep (T := 23) hb1
  clear hb1
  rw [H0.out]
  go_wp2_with fail
  refine (isTilt_any _ _).mono ?_; rintro e w' ⟨rfl, rfl⟩
  go_wp2_with fail
  refine (isRay_any _ _ _ _ _ _ _ _ _ _ hk.r1 hk.r2).mono ?_; rintro e w2 ⟨rfl, hb2⟩
  have S2 : SiteAt w2 w.heap.size nm x y z rose gates step width := SiteAt.keep ⟨k0, k1, k2, k3, k4, k5, k6, k7⟩ hb2 (by omega)
  have hz2 : w.heap.size + 1 ≤ w2.heap.size := Nat.le_trans (by assumption) hb2.size
  have hbw := hbw.trans (hb2.mono (by omega))
  clear k0 k1 k2 k3 k4 k5 k6 k7
  obtain ⟨k0, k1, k2, k3, k4, k5, k6, k7⟩ := S2
  go_wp2
  go_ret3
  exact ⟨rfl, hbw⟩

set_option maxHeartbeats 1600000 in
theorem Place_no2 (nm : ByteArray) (x y z rose gates step width : Int) (t ray gate : Int) (w : World) (hs : nm.size ≤ maxLen) (h0 : siteC nm x y z rose gates step width = 0) (hk : SiteOk x y z rose gates step width) (c0 : inB t 0 256 = true) (c1 : inB ray 0 (4 * rose - 1) = true) (c2 : inB gate 0 (gates - 1) = false) :
    Calls Try.prog 36 #[.agg #[.string nm, .int .i64 x, .int .i64 y, .int .i64 z, .int .i64 rose, .int .i64 gates, .int .i64 step, .int .i64 width], .int .i64 t, .int .i64 ray, .int .i64 gate] w fun e w' => e = .returned (.tuple #[.int .i64 0, .int .i64 0, .int .i64 3]) ∧ Below w.heap.size w w' := by
  have br1 := hk.r1
  have br2 := hk.r2
  have bg1 := hk.g1
  have bg2 := hk.g2
  have HS := Lib.hid hs
  have H0 := Lib.hid h0
  clear hs h0
  go_enter Try.func36, Try.ntmps36
  go_wp2_with fail
  refine (CheckSite_any _ _ _ _ _ _ _ _ _ HS.out).mono ?_; rintro e w1 ⟨rfl, hb1⟩
  obtain ⟨⟨k0, k1, k2, k3, k4, k5, k6, k7⟩, hz, hbw⟩ := site_keep (T := 23) hb1
  clear hb1
  rw [H0.out]
  go_wp2_with fail
  refine (isTilt_any _ _).mono ?_; rintro e w' ⟨rfl, rfl⟩
  go_wp2_with fail
  refine (isRay_any _ _ _ _ _ _ _ _ _ _ hk.r1 hk.r2).mono ?_; rintro e w2 ⟨rfl, hb2⟩
  have S2 : SiteAt w2 w.heap.size nm x y z rose gates step width := SiteAt.keep ⟨k0, k1, k2, k3, k4, k5, k6, k7⟩ hb2 (by omega)
  have hz2 : w.heap.size + 1 ≤ w2.heap.size := Nat.le_trans (by assumption) hb2.size
  have hbw := hbw.trans (hb2.mono (by omega))
  clear k0 k1 k2 k3 k4 k5 k6 k7
  obtain ⟨k0, k1, k2, k3, k4, k5, k6, k7⟩ := S2
  go_wp2_with fail
  refine (isGate_any _ _ _ _ _ _ _ _ _ _ hk.g1 hk.g2).mono ?_; rintro e w3 ⟨rfl, hb3⟩
  have S3 : SiteAt w3 w.heap.size nm x y z rose gates step width := SiteAt.keep ⟨k0, k1, k2, k3, k4, k5, k6, k7⟩ hb3 (by omega)
  have hz3 : w.heap.size + 1 ≤ w3.heap.size := Nat.le_trans (by assumption) hb3.size
  have hbw := hbw.trans (hb3.mono (by omega))
  clear k0 k1 k2 k3 k4 k5 k6 k7
  obtain ⟨k0, k1, k2, k3, k4, k5, k6, k7⟩ := S3
  go_wp2
  go_ret3
  exact ⟨rfl, hbw⟩

set_option maxRecDepth 100000 in
set_option maxHeartbeats 3200000 in
theorem Place_ok (nm : ByteArray) (x y z rose gates step width : Int) (t ray gate : Int) (w : World) (hs : nm.size ≤ maxLen) (h0 : siteC nm x y z rose gates step width = 0) (hk : SiteOk x y z rose gates step width) (c0 : inB t 0 256 = true) (c1 : inB ray 0 (4 * rose - 1) = true) (c2 : inB gate 0 (gates - 1) = true) :
    Calls Try.prog 36 #[.agg #[.string nm, .int .i64 x, .int .i64 y, .int .i64 z, .int .i64 rose, .int .i64 gates, .int .i64 step, .int .i64 width], .int .i64 t, .int .i64 ray, .int .i64 gate] w fun e w' => e = .returned (.tuple #[.int .i64 (plX x rose step t ray gate), .int .i64 (plY y rose step t ray gate), .int .i64 0]) ∧ Below w.heap.size w w' := by
  obtain ⟨t1, t2⟩ := inB_true.1 c0
  obtain ⟨r1, r2⟩ := inB_true.1 c1
  obtain ⟨g1, g2⟩ := inB_true.1 c2
  have br1 := hk.r1
  have br2 := hk.r2
  have bg1 := hk.g1
  have bg2 := hk.g2
  have HS := Lib.hid hs
  have H0 := Lib.hid h0
  clear hs h0
  go_enter Try.func36, Try.ntmps36
  go_wp2_with fail
  refine (CheckSite_any _ _ _ _ _ _ _ _ _ HS.out).mono ?_; rintro e w1 ⟨rfl, hb1⟩
  obtain ⟨⟨k0, k1, k2, k3, k4, k5, k6, k7⟩, hz, hbw⟩ := site_keep (T := 23) hb1
  clear hb1
  rw [H0.out]
  go_wp2_with fail
  refine (isTilt_any _ _).mono ?_; rintro e w' ⟨rfl, rfl⟩
  go_wp2_with fail
  refine (isRay_any _ _ _ _ _ _ _ _ _ _ hk.r1 hk.r2).mono ?_; rintro e w2 ⟨rfl, hb2⟩
  have S2 : SiteAt w2 w.heap.size nm x y z rose gates step width := SiteAt.keep ⟨k0, k1, k2, k3, k4, k5, k6, k7⟩ hb2 (by omega)
  have hz2 : w.heap.size + 1 ≤ w2.heap.size := Nat.le_trans (by assumption) hb2.size
  have hbw := hbw.trans (hb2.mono (by omega))
  clear k0 k1 k2 k3 k4 k5 k6 k7
  obtain ⟨k0, k1, k2, k3, k4, k5, k6, k7⟩ := S2
  go_wp2_with fail
  refine (isGate_any _ _ _ _ _ _ _ _ _ _ hk.g1 hk.g2).mono ?_; rintro e w3 ⟨rfl, hb3⟩
  have S3 : SiteAt w3 w.heap.size nm x y z rose gates step width := SiteAt.keep ⟨k0, k1, k2, k3, k4, k5, k6, k7⟩ hb3 (by omega)
  have hz3 : w.heap.size + 1 ≤ w3.heap.size := Nat.le_trans (by assumption) hb3.size
  have hbw := hbw.trans (hb3.mono (by omega))
  clear k0 k1 k2 k3 k4 k5 k6 k7
  obtain ⟨k0, k1, k2, k3, k4, k5, k6, k7⟩ := S3
  go_wp2_with fail
  refine (place_any _ _ _ _ _ _ _ _ _ _ _ _ hk t1 t2 r1 (by omega) g1 (by omega)).mono ?_; rintro e w4 ⟨rfl, hb4⟩
  have hbw := hbw.trans (hb4.mono (by omega))
  have hz4 := hb4.size
  go_wp2
  go_quiet (fail)
  go_wp2
  exact bodyPost_ret (v := .tuple #[.int .i64 (plX x rose step t ray gate), .int .i64 (plY y rose step t ray gate), .int .i64 0]) (by simp [results, Try.results36, go_sem, plX, plY]) rfl ⟨rfl, by repeat (first | exact hbw | (refine below_drewN ?_ _) | (refine Below.alloc ?_ (by omega) _))⟩

theorem Place_any (nm : ByteArray) (x y z rose gates step width : Int) (t ray gate : Int) (w : World) (hs : nm.size ≤ maxLen) :
    Calls Try.prog 36 #[.agg #[.string nm, .int .i64 x, .int .i64 y, .int .i64 z, .int .i64 rose, .int .i64 gates, .int .i64 step, .int .i64 width], .int .i64 t, .int .i64 ray, .int .i64 gate] w fun e w' => e = .returned (.tuple #[.int .i64 (val (codeE (siteC nm x y z rose gates step width) (inB t 0 256 && inB ray 0 (4 * rose - 1) && inB gate 0 (gates - 1))) (plX x rose step t ray gate)), .int .i64 (val (codeE (siteC nm x y z rose gates step width) (inB t 0 256 && inB ray 0 (4 * rose - 1) && inB gate 0 (gates - 1))) (plY y rose step t ray gate)), .int .i64 (codeE (siteC nm x y z rose gates step width) (inB t 0 256 && inB ray 0 (4 * rose - 1) && inB gate 0 (gates - 1)))]) ∧ Below w.heap.size w w' := by
  by_cases h0 : siteC nm x y z rose gates step width = 0
  · have hk := (siteC_zero.1 h0).2
    rcases (Bool.eq_false_or_eq_true (inB t 0 256)).symm with c0 | c0
    · have e : (codeE (siteC nm x y z rose gates step width) (inB t 0 256 && inB ray 0 (4 * rose - 1) && inB gate 0 (gates - 1))) = 3 := by rw [h0, c0]; rfl
      rw [e, val_no, val_no]
      exact Place_no0 nm x y z rose gates step width t ray gate w hs h0 hk c0
    · rcases (Bool.eq_false_or_eq_true (inB ray 0 (4 * rose - 1))).symm with c1 | c1
      · have e : (codeE (siteC nm x y z rose gates step width) (inB t 0 256 && inB ray 0 (4 * rose - 1) && inB gate 0 (gates - 1))) = 3 := by rw [h0, c0, c1]; rfl
        rw [e, val_no, val_no]
        exact Place_no1 nm x y z rose gates step width t ray gate w hs h0 hk c0 c1
      · rcases (Bool.eq_false_or_eq_true (inB gate 0 (gates - 1))).symm with c2 | c2
        · have e : (codeE (siteC nm x y z rose gates step width) (inB t 0 256 && inB ray 0 (4 * rose - 1) && inB gate 0 (gates - 1))) = 3 := by rw [h0, c0, c1, c2]; rfl
          rw [e, val_no, val_no]
          exact Place_no2 nm x y z rose gates step width t ray gate w hs h0 hk c0 c1 c2
        · have e : (codeE (siteC nm x y z rose gates step width) (inB t 0 256 && inB ray 0 (4 * rose - 1) && inB gate 0 (gates - 1))) = 0 := by rw [h0, c0, c1, c2]; rfl
          rw [e, val_ok, val_ok]
          exact Place_ok nm x y z rose gates step width t ray gate w hs h0 hk c0 c1 c2
  · rw [codeE_err h0, val_err h0, val_err h0]
    exact Place_err nm x y z rose gates step width t ray gate w hs (bne_iff_ne.2 h0)

set_option maxHeartbeats 1600000 in
theorem refPlace_err (nm : ByteArray) (x y z rose gates step width : Int) (t ray gate : Int) (w : World) (hs : nm.size ≤ maxLen) (hne : (siteC nm x y z rose gates step width != 0) = true) :
    Calls Try.prog 37 #[.agg #[.string nm, .int .i64 x, .int .i64 y, .int .i64 z, .int .i64 rose, .int .i64 gates, .int .i64 step, .int .i64 width], .int .i64 t, .int .i64 ray, .int .i64 gate] w fun e w' => e = .returned (.tuple #[.int .i64 0, .int .i64 0, .int .i64 (siteC nm x y z rose gates step width)]) ∧ Below w.heap.size w w' := by
  have HS := Lib.hid hs
  clear hs
  go_enter Try.func37, Try.ntmps37
  go_wp2_with fail
  refine (refCheckSite_any _ _ _ _ _ _ _ _ _ HS.out).mono ?_; rintro e w1 ⟨rfl, hb1⟩
  obtain ⟨⟨k0, k1, k2, k3, k4, k5, k6, k7⟩, hz, hbw⟩ := site_keep (T := 23) hb1
  clear hb1
  go_wp2
  go_ret3
  exact ⟨rfl, hbw⟩

set_option maxHeartbeats 1600000 in
theorem refPlace_no0 (nm : ByteArray) (x y z rose gates step width : Int) (t ray gate : Int) (w : World) (hs : nm.size ≤ maxLen) (h0 : siteC nm x y z rose gates step width = 0) (hk : SiteOk x y z rose gates step width) (c0 : inB t 0 256 = false) :
    Calls Try.prog 37 #[.agg #[.string nm, .int .i64 x, .int .i64 y, .int .i64 z, .int .i64 rose, .int .i64 gates, .int .i64 step, .int .i64 width], .int .i64 t, .int .i64 ray, .int .i64 gate] w fun e w' => e = .returned (.tuple #[.int .i64 0, .int .i64 0, .int .i64 3]) ∧ Below w.heap.size w w' := by
  have br1 := hk.r1
  have br2 := hk.r2
  have bg1 := hk.g1
  have bg2 := hk.g2
  have HS := Lib.hid hs
  have H0 := Lib.hid h0
  clear hs h0
  go_enter Try.func37, Try.ntmps37
  go_wp2_with fail
  refine (refCheckSite_any _ _ _ _ _ _ _ _ _ HS.out).mono ?_; rintro e w1 ⟨rfl, hb1⟩
  obtain ⟨⟨k0, k1, k2, k3, k4, k5, k6, k7⟩, hz, hbw⟩ := site_keep (T := 23) hb1
  clear hb1
  rw [H0.out]
  go_wp2_with fail
  refine (refIn_any _ _ _ _).mono ?_; rintro e w' ⟨rfl, rfl⟩
  go_wp2
  go_ret3
  exact ⟨rfl, hbw⟩

set_option maxHeartbeats 1600000 in
theorem refPlace_no1 (nm : ByteArray) (x y z rose gates step width : Int) (t ray gate : Int) (w : World) (hs : nm.size ≤ maxLen) (h0 : siteC nm x y z rose gates step width = 0) (hk : SiteOk x y z rose gates step width) (c0 : inB t 0 256 = true) (c1 : inB ray 0 (4 * rose - 1) = false) :
    Calls Try.prog 37 #[.agg #[.string nm, .int .i64 x, .int .i64 y, .int .i64 z, .int .i64 rose, .int .i64 gates, .int .i64 step, .int .i64 width], .int .i64 t, .int .i64 ray, .int .i64 gate] w fun e w' => e = .returned (.tuple #[.int .i64 0, .int .i64 0, .int .i64 3]) ∧ Below w.heap.size w w' := by
  have br1 := hk.r1
  have br2 := hk.r2
  have bg1 := hk.g1
  have bg2 := hk.g2
  have HS := Lib.hid hs
  have H0 := Lib.hid h0
  clear hs h0
  go_enter Try.func37, Try.ntmps37
  go_wp2_with fail
  refine (refCheckSite_any _ _ _ _ _ _ _ _ _ HS.out).mono ?_; rintro e w1 ⟨rfl, hb1⟩
  obtain ⟨⟨k0, k1, k2, k3, k4, k5, k6, k7⟩, hz, hbw⟩ := site_keep (T := 23) hb1
  clear hb1
  rw [H0.out]
  go_wp2_with fail
  refine (refIn_any _ _ _ _).mono ?_; rintro e w' ⟨rfl, rfl⟩
  go_wp2_with fail
  refine (refIn_any _ _ _ _).mono ?_; rintro e w' ⟨rfl, rfl⟩
  go_wp2
  go_ret3
  exact ⟨rfl, hbw⟩

set_option maxHeartbeats 1600000 in
theorem refPlace_no2 (nm : ByteArray) (x y z rose gates step width : Int) (t ray gate : Int) (w : World) (hs : nm.size ≤ maxLen) (h0 : siteC nm x y z rose gates step width = 0) (hk : SiteOk x y z rose gates step width) (c0 : inB t 0 256 = true) (c1 : inB ray 0 (4 * rose - 1) = true) (c2 : inB gate 0 (gates - 1) = false) :
    Calls Try.prog 37 #[.agg #[.string nm, .int .i64 x, .int .i64 y, .int .i64 z, .int .i64 rose, .int .i64 gates, .int .i64 step, .int .i64 width], .int .i64 t, .int .i64 ray, .int .i64 gate] w fun e w' => e = .returned (.tuple #[.int .i64 0, .int .i64 0, .int .i64 3]) ∧ Below w.heap.size w w' := by
  have br1 := hk.r1
  have br2 := hk.r2
  have bg1 := hk.g1
  have bg2 := hk.g2
  have HS := Lib.hid hs
  have H0 := Lib.hid h0
  clear hs h0
  go_enter Try.func37, Try.ntmps37
  go_wp2_with fail
  refine (refCheckSite_any _ _ _ _ _ _ _ _ _ HS.out).mono ?_; rintro e w1 ⟨rfl, hb1⟩
  obtain ⟨⟨k0, k1, k2, k3, k4, k5, k6, k7⟩, hz, hbw⟩ := site_keep (T := 23) hb1
  clear hb1
  rw [H0.out]
  go_wp2_with fail
  refine (refIn_any _ _ _ _).mono ?_; rintro e w' ⟨rfl, rfl⟩
  go_wp2_with fail
  refine (refIn_any _ _ _ _).mono ?_; rintro e w' ⟨rfl, rfl⟩
  go_wp2_with fail
  refine (refIn_any _ _ _ _).mono ?_; rintro e w' ⟨rfl, rfl⟩
  go_wp2
  go_ret3
  exact ⟨rfl, hbw⟩

set_option maxRecDepth 100000 in
set_option maxHeartbeats 3200000 in
theorem refPlace_ok (nm : ByteArray) (x y z rose gates step width : Int) (t ray gate : Int) (w : World) (hs : nm.size ≤ maxLen) (h0 : siteC nm x y z rose gates step width = 0) (hk : SiteOk x y z rose gates step width) (c0 : inB t 0 256 = true) (c1 : inB ray 0 (4 * rose - 1) = true) (c2 : inB gate 0 (gates - 1) = true) :
    Calls Try.prog 37 #[.agg #[.string nm, .int .i64 x, .int .i64 y, .int .i64 z, .int .i64 rose, .int .i64 gates, .int .i64 step, .int .i64 width], .int .i64 t, .int .i64 ray, .int .i64 gate] w fun e w' => e = .returned (.tuple #[.int .i64 (plX x rose step t ray gate), .int .i64 (plY y rose step t ray gate), .int .i64 0]) ∧ Below w.heap.size w w' := by
  obtain ⟨t1, t2⟩ := inB_true.1 c0
  obtain ⟨r1, r2⟩ := inB_true.1 c1
  obtain ⟨g1, g2⟩ := inB_true.1 c2
  have br1 := hk.r1
  have br2 := hk.r2
  have bg1 := hk.g1
  have bg2 := hk.g2
  have x1 := hk.x1
  have x2 := hk.x2
  have y1 := hk.y1
  have y2 := hk.y2
  obtain ⟨e1, e2⟩ := runLo_bd (t := t) (by omega) (by omega) hk.s1 hk.s2 g1 (by omega)
  obtain ⟨⟨b1, b2⟩, ⟨b3, b4⟩, b5, b6⟩ := dir_bd (n := 2 * rose) (d := 2 * ray + 1) (by omega) (by omega) (by omega) (by omega)
  have m1 := mul_abs e1 e2 b1 b2 (by omega)
  have m2 := mul_abs e1 e2 b3 b4 (by omega)
  have u1 := quot_bd b5 (B := 399000 * 64800) m1.1 m1.2 (by omega)
  have u2 := quot_bd b5 (B := 399000 * 64800) m2.1 m2.2 (by omega)
  have i1 : IntKind.i64.wrap (runLo step t gate * dirX (2 * rose) (2 * ray + 1)) = runLo step t gate * dirX (2 * rose) (2 * ray + 1) := IntWalk.i64_in _ (by omega)
  have i2 : IntKind.i64.wrap (runLo step t gate * dirY (2 * rose) (2 * ray + 1)) = runLo step t gate * dirY (2 * rose) (2 * ray + 1) := IntWalk.i64_in _ (by omega)
  have i3 : IntKind.i64.wrap (x + runLo step t gate * dirX (2 * rose) (2 * ray + 1) / dirL (2 * rose) (2 * ray + 1)) = x + runLo step t gate * dirX (2 * rose) (2 * ray + 1) / dirL (2 * rose) (2 * ray + 1) := IntWalk.i64_in _ (by omega)
  have i4 : IntKind.i64.wrap (y + runLo step t gate * dirY (2 * rose) (2 * ray + 1) / dirL (2 * rose) (2 * ray + 1)) = y + runLo step t gate * dirY (2 * rose) (2 * ray + 1) / dirL (2 * rose) (2 * ray + 1) := IntWalk.i64_in _ (by omega)
  have HS := Lib.hid hs
  have H0 := Lib.hid h0
  clear hs h0
  go_enter Try.func37, Try.ntmps37
  go_wp2_with fail
  refine (refCheckSite_any _ _ _ _ _ _ _ _ _ HS.out).mono ?_; rintro e w1 ⟨rfl, hb1⟩
  obtain ⟨⟨k0, k1, k2, k3, k4, k5, k6, k7⟩, hz, hbw⟩ := site_keep (T := 23) hb1
  clear hb1
  rw [H0.out]
  go_wp2_with fail
  refine (refIn_any _ _ _ _).mono ?_; rintro e w' ⟨rfl, rfl⟩
  go_wp2_with fail
  refine (refIn_any _ _ _ _).mono ?_; rintro e w' ⟨rfl, rfl⟩
  go_wp2_with fail
  refine (refIn_any _ _ _ _).mono ?_; rintro e w' ⟨rfl, rfl⟩
  go_wp2_with fail
  refine (refDirection_ok _ _ _ (by omega) (by omega) (by omega) (by omega)).mono ?_; rintro e w' ⟨rfl, rfl⟩
  go_wp2_with fail
  refine (refground_any _ _ _ _ _ _ _ _ _ _ _ (by omega) (by omega) hk.s1 hk.s2 g1 (by omega)).mono ?_; rintro e w2 ⟨rfl, hb2⟩
  have S2 : SiteAt w2 w.heap.size nm x y z rose gates step width := SiteAt.keep ⟨k0, k1, k2, k3, k4, k5, k6, k7⟩ hb2 (by omega)
  have hbw := hbw.trans (hb2.mono (by omega))
  clear k0 k1 k2 k3 k4 k5 k6 k7
  obtain ⟨k0, k1, k2, k3, k4, k5, k6, k7⟩ := S2
  have F0 := fld0 (runLo step t gate) (runHi step t gate)
  go_wp2
  go_quiet ((go_at_call 77; exact Calls.quiet_of_same (Down_q _ _ _ (by omega) (by omega) (by omega))))
  go_wp2
  exact bodyPost_ret (v := .tuple #[.int .i64 (plX x rose step t ray gate), .int .i64 (plY y rose step t ray gate), .int .i64 0]) (by simp [results, Try.results37, go_sem, plX, plY]) rfl ⟨rfl, by repeat (first | exact hbw | (refine below_drewN ?_ _) | (refine Below.alloc ?_ (by omega) _))⟩

theorem refPlace_any (nm : ByteArray) (x y z rose gates step width : Int) (t ray gate : Int) (w : World) (hs : nm.size ≤ maxLen) :
    Calls Try.prog 37 #[.agg #[.string nm, .int .i64 x, .int .i64 y, .int .i64 z, .int .i64 rose, .int .i64 gates, .int .i64 step, .int .i64 width], .int .i64 t, .int .i64 ray, .int .i64 gate] w fun e w' => e = .returned (.tuple #[.int .i64 (val (codeE (siteC nm x y z rose gates step width) (inB t 0 256 && inB ray 0 (4 * rose - 1) && inB gate 0 (gates - 1))) (plX x rose step t ray gate)), .int .i64 (val (codeE (siteC nm x y z rose gates step width) (inB t 0 256 && inB ray 0 (4 * rose - 1) && inB gate 0 (gates - 1))) (plY y rose step t ray gate)), .int .i64 (codeE (siteC nm x y z rose gates step width) (inB t 0 256 && inB ray 0 (4 * rose - 1) && inB gate 0 (gates - 1)))]) ∧ Below w.heap.size w w' := by
  by_cases h0 : siteC nm x y z rose gates step width = 0
  · have hk := (siteC_zero.1 h0).2
    rcases (Bool.eq_false_or_eq_true (inB t 0 256)).symm with c0 | c0
    · have e : (codeE (siteC nm x y z rose gates step width) (inB t 0 256 && inB ray 0 (4 * rose - 1) && inB gate 0 (gates - 1))) = 3 := by rw [h0, c0]; rfl
      rw [e, val_no, val_no]
      exact refPlace_no0 nm x y z rose gates step width t ray gate w hs h0 hk c0
    · rcases (Bool.eq_false_or_eq_true (inB ray 0 (4 * rose - 1))).symm with c1 | c1
      · have e : (codeE (siteC nm x y z rose gates step width) (inB t 0 256 && inB ray 0 (4 * rose - 1) && inB gate 0 (gates - 1))) = 3 := by rw [h0, c0, c1]; rfl
        rw [e, val_no, val_no]
        exact refPlace_no1 nm x y z rose gates step width t ray gate w hs h0 hk c0 c1
      · rcases (Bool.eq_false_or_eq_true (inB gate 0 (gates - 1))).symm with c2 | c2
        · have e : (codeE (siteC nm x y z rose gates step width) (inB t 0 256 && inB ray 0 (4 * rose - 1) && inB gate 0 (gates - 1))) = 3 := by rw [h0, c0, c1, c2]; rfl
          rw [e, val_no, val_no]
          exact refPlace_no2 nm x y z rose gates step width t ray gate w hs h0 hk c0 c1 c2
        · have e : (codeE (siteC nm x y z rose gates step width) (inB t 0 256 && inB ray 0 (4 * rose - 1) && inB gate 0 (gates - 1))) = 0 := by rw [h0, c0, c1, c2]; rfl
          rw [e, val_ok, val_ok]
          exact refPlace_ok nm x y z rose gates step width t ray gate w hs h0 hk c0 c1 c2
  · rw [codeE_err h0, val_err h0, val_err h0]
    exact refPlace_err nm x y z rose gates step width t ray gate w hs (bne_iff_ne.2 h0)

end Go.Proofs.Ythnjfnapjpdchaa

namespace Go.Proofs.Ythnjfnapjpdchaa
open Go.RowKit
set_option linter.unusedVariables false

theorem srchS : SrchIs (4 + 1) (inside (705 * 705 + 1323 * 1323) (bordI 1000 0)) 2 := by
  refine ⟨by decide, by decide +kernel, fun k h1 h2 => ?_⟩
  have : k = 2 ∨ k = 3 ∨ k = 4 := by omega
  rcases this with rfl | rfl | rfl <;> decide +kernel
theorem rayS : RayIs 2 705 1323 0 := by
  refine .inr ⟨0, 705, 1323, by decide, by decide, by decide, by decide, by decide, 1, ⟨by decide, by decide +kernel, fun k h1 h2 => ?_⟩, by decide⟩
  obtain rfl : k = 1 := by omega
  decide +kernel
theorem okS : SiteOk 0 0 100 2 4 1000 1 := (siteC_zero.1 siteS).2
theorem Find_S (w : World) : Calls Try.prog 38 #[.agg #[.string nmS, .int .i64 0, .int .i64 0, .int .i64 100, .int .i64 2, .int .i64 4, .int .i64 1000, .int .i64 1], .int .i64 0, .int .i64 705, .int .i64 1323] w
    fun e w' => e = .returned (.tuple #[.int .i64 0, .int .i64 1, .int .i64 0]) ∧ Below w.heap.size w w' :=
  Find_in nmS 0 0 100 2 4 1000 1 0 705 1323 705 1323 (by decide) (by decide) 2 srchS w nmS_size siteS okS (by decide) (by decide) (by decide) (by decide) (by decide) 0 rayS
theorem p001 : codeE (siteC nmS 0 0 100 2 4 1000 1) (inB 0 0 256 && inB 0 0 (4 * 2 - 1) && inB 1 0 (4 - 1)) = 0 := by rw [siteS]; decide
theorem plS : plX 0 2 1000 0 0 1 = 705 ∧ plY 0 2 1000 0 0 1 = 1323 := by decide +kernel
theorem Place_S (w : World) : Calls Try.prog 36 #[.agg #[.string nmS, .int .i64 0, .int .i64 0, .int .i64 100, .int .i64 2, .int .i64 4, .int .i64 1000, .int .i64 1], .int .i64 0, .int .i64 0, .int .i64 1] w
    fun e w' => e = .returned (.tuple #[.int .i64 705, .int .i64 1323, .int .i64 0]) ∧ Below w.heap.size w w' := by
  have h := Place_any nmS 0 0 100 2 4 1000 1 0 0 1 w nmS_size
  rw [p001, val_ok, val_ok, plS.1, plS.2] at h
  exact h

set_option maxHeartbeats 800000 in
theorem places_any (w : World) :
    Calls Try.prog 42 #[] w fun e w' => e = .returned (.bool true) ∧ Below w.heap.size w w' := by
  go_enter Try.func42, Try.ntmps42
  go_wp2_with fail
  refine (S_any _).mono ?_; rintro e w1 ⟨rfl, hb1⟩
  go_wp2_with fail
  refine (Find_S _).mono ?_; rintro e w2 ⟨rfl, hb2⟩
  go_wp2_with fail
  refine (S_any _).mono ?_; rintro e w3 ⟨rfl, hb3⟩
  go_wp2_with fail
  refine (Place_S _).mono ?_; rintro e w4 ⟨rfl, hb4⟩
  have hb := ((hb1.trans (hb2.mono hb1.size)).trans (hb3.mono (Nat.le_trans hb1.size hb2.size))).trans (hb4.mono (Nat.le_trans (Nat.le_trans hb1.size hb2.size) hb3.size))
  go_wp2
  go_ret
  exact ⟨rfl, hb⟩

end Go.Proofs.Ythnjfnapjpdchaa
