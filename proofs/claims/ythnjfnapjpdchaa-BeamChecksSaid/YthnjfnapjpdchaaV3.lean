/-
  The walk over BeamChecks.
-/
import Derived.Test.YthnjfnapjpdchaaV2
import Derived.Test.YthnjfnapjpdchaaR
namespace Go.Proofs.Ythnjfnapjpdchaa
open Go.RowKit
set_option linter.unusedVariables false

theorem name_a1 : nameB { data := #[97, 95, 49] } = true := by
  rw [nameB_true]
  refine ⟨by decide, by decide, fun h => ?_, fun j h => ?_⟩
  · have e : ((({ data := #[97, 95, 49] } : ByteArray)[0]'h).toNat : Int) = 97 := rfl
    rw [e]; decide
  · have h2 : j < 3 := h
    have hj : j = 0 ∨ j = 1 ∨ j = 2 := by omega
    rcases hj with rfl | rfl | rfl
    · have e : ((({ data := #[97, 95, 49] } : ByteArray)[0]'h).toNat : Int) = 97 := rfl
      rw [e]; decide
    · have e : ((({ data := #[97, 95, 49] } : ByteArray)[1]'h).toNat : Int) = 95 := rfl
      rw [e]; decide
    · have e : ((({ data := #[97, 95, 49] } : ByteArray)[2]'h).toNat : Int) = 49 := rfl
      rw [e]; decide
theorem nameB_no {s : ByteArray} (h : ¬ nameP s) : nameB s = false := by
  cases e : nameB s
  · rfl
  · exact absurd (nameB_true.1 e) h
theorem name_1a : nameB { data := #[49, 97] } = false := nameB_no fun hn => by
  have h := hn.2.2.1 (by decide)
  have e : ((({ data := #[49, 97] } : ByteArray)[0]'(by decide)).toNat : Int) = 49 := rfl
  rw [e] at h
  exact absurd h (by decide)
theorem name_0 : nameB { data := #[] } = false := nameB_no fun hn => absurd hn.1 (by decide)

theorem Name_a1 (w : World) : Calls Try.prog 15 #[.string { data := #[97, 95, 49] }] w fun e w' => e = .returned (.bool true) ∧ w = w' := by
  have h := Name_b { data := #[97, 95, 49] } w (by decide)
  rw [name_a1] at h; exact h
theorem Name_1a (w : World) : Calls Try.prog 15 #[.string { data := #[49, 97] }] w fun e w' => e = .returned (.bool false) ∧ w = w' := by
  have h := Name_b { data := #[49, 97] } w (by decide)
  rw [name_1a] at h; exact h
theorem Name_0 (w : World) : Calls Try.prog 15 #[.string { data := #[] }] w fun e w' => e = .returned (.bool false) ∧ w = w' := by
  have h := Name_b { data := #[] } w (by decide)
  rw [name_0] at h; exact h
theorem CheckSite_S (w : World) : Calls Try.prog 17 #[.agg #[.string nmS, .int .i64 0, .int .i64 0, .int .i64 100, .int .i64 2, .int .i64 4, .int .i64 1000, .int .i64 1]] w
    fun e w' => e = .returned (.int .i64 0) ∧ Below w.heap.size w w' := by
  have h := CheckSite_any nmS 0 0 100 2 4 1000 1 w nmS_size
  rw [siteS] at h; exact h
theorem grid_65 : gridC 0 0 1 65 1 = 3 := by decide
theorem CheckGrid_65 (w : World) : Calls Try.prog 19 #[.agg #[.int .i64 0, .int .i64 0, .int .i64 1, .int .i64 65, .int .i64 1]] w fun e w' => e = .returned (.int .i64 3) ∧ Below w.heap.size w w' := by
  have h := CheckGrid_any 0 0 1 65 1 w
  rw [grid_65] at h; exact h

theorem checks_lead (nm : ByteArray) (x y z rose gates step width : Int) (gx gy size wide high : Int) (a : Option Addr) (len cap : Nat) (zs : Nat → Int × Int) (w : World) (hs : SliceIs w a len cap zs) :
    (fun w' : World => w'.cell? ⟨w.heap.size, 0, none⟩ = some (.string nm) ∧ w'.cell? ⟨w.heap.size, 1, none⟩ = some (.int .i64 x) ∧ w'.cell? ⟨w.heap.size, 2, none⟩ = some (.int .i64 y) ∧ w'.cell? ⟨w.heap.size, 3, none⟩ = some (.int .i64 z) ∧ w'.cell? ⟨w.heap.size, 4, none⟩ = some (.int .i64 rose) ∧ w'.cell? ⟨w.heap.size, 5, none⟩ = some (.int .i64 gates) ∧ w'.cell? ⟨w.heap.size, 6, none⟩ = some (.int .i64 step) ∧ w'.cell? ⟨w.heap.size, 7, none⟩ = some (.int .i64 width) ∧ w'.cell? ⟨w.heap.size + 1, 0, none⟩ = some (.int .i64 gx) ∧ w'.cell? ⟨w.heap.size + 1, 1, none⟩ = some (.int .i64 gy) ∧ w'.cell? ⟨w.heap.size + 1, 2, none⟩ = some (.int .i64 size) ∧ w'.cell? ⟨w.heap.size + 1, 3, none⟩ = some (.int .i64 wide) ∧ w'.cell? ⟨w.heap.size + 1, 4, none⟩ = some (.int .i64 high) ∧ w'.cell? ⟨w.heap.size + 1, 5, none⟩ = some (.slice a len cap) ∧ SliceIs w' a len cap zs ∧ w.heap.size + 2 ≤ w'.heap.size ∧ Below w.heap.size w w') ((w.alloc (.cells #[.string nm, .int .i64 x, .int .i64 y, .int .i64 z, .int .i64 rose, .int .i64 gates, .int .i64 step, .int .i64 width] 23)).alloc (.cells #[.int .i64 gx, .int .i64 gy, .int .i64 size, .int .i64 wide, .int .i64 high, .slice a len cap] 28)).drew := by
  have e : (w.alloc (.cells #[.string nm, .int .i64 x, .int .i64 y, .int .i64 z, .int .i64 rose, .int .i64 gates, .int .i64 step, .int .i64 width] 23)).heap.size = w.heap.size + 1 := World.size_alloc _ _
  have s := (SiteAt.new w nm x y z rose gates step width).keep (below_alloc (w.alloc (.cells #[.string nm, .int .i64 x, .int .i64 y, .int .i64 z, .int .i64 rose, .int .i64 gates, .int .i64 step, .int .i64 width] 23)) (.cells #[.int .i64 gx, .int .i64 gy, .int .i64 size, .int .i64 wide, .int .i64 high, .slice a len cap] 28)) (by omega)
  have f := FieldAt.new (w.alloc (.cells #[.string nm, .int .i64 x, .int .i64 y, .int .i64 z, .int .i64 rose, .int .i64 gates, .int .i64 step, .int .i64 width] 23)) gx gy size wide high (.slice a len cap)
  rw [e] at f
  have hb : Below w.heap.size w ((w.alloc (.cells #[.string nm, .int .i64 x, .int .i64 y, .int .i64 z, .int .i64 rose, .int .i64 gates, .int .i64 step, .int .i64 width] 23)).alloc (.cells #[.int .i64 gx, .int .i64 gy, .int .i64 size, .int .i64 wide, .int .i64 high, .slice a len cap] 28)).drew := (Below.trans (below_alloc _ _) ((below_alloc _ _).mono (by omega))).drew
  exact ⟨s.c0, s.c1, s.c2, s.c3, s.c4, s.c5, s.c6, s.c7, f.c0, f.c1, f.c2, f.c3, f.c4, f.c5, hs.keep hb, by show w.heap.size + 2 ≤ ((w.alloc (.cells #[.string nm, .int .i64 x, .int .i64 y, .int .i64 z, .int .i64 rose, .int .i64 gates, .int .i64 step, .int .i64 width] 23)).alloc (.cells #[.int .i64 gx, .int .i64 gy, .int .i64 size, .int .i64 wide, .int .i64 high, .slice a len cap] 28)).heap.size; simp, hb⟩

set_option maxRecDepth 100000 in
set_option maxHeartbeats 800000 in
theorem BeamChecks_long (nm : ByteArray) (x y z rose gates step width : Int) (gx gy size wide high : Int) (a : Option Addr) (len cap : Nat) (w : World) (hs : nm.size ≤ maxLen) (hl : 40 < nm.size) (hm : len ≤ maxLen) :
    Calls Try.prog 3 #[.agg #[.string nm, .int .i64 x, .int .i64 y, .int .i64 z, .int .i64 rose, .int .i64 gates, .int .i64 step, .int .i64 width], .agg #[.int .i64 gx, .int .i64 gy, .int .i64 size, .int .i64 wide, .int .i64 high, .slice a len cap]] w fun e w' => e = .returned (.bool true) ∧ Below w.heap.size w w' := by
  unfold maxLen at hs hm
  go_enter Try.func3, Try.ntmps3
  go_wp2_with fail
  refine (works_any _).mono ?_; rintro e w1 ⟨rfl, hb1⟩
  go_wp2
  go_ret
  exact ⟨rfl, Below.trans (((Below.refl _ _).alloc (Nat.le_refl _) _).alloc (by simp) _) (hb1.mono (by simp only [World.size_alloc]; omega))⟩

set_option maxRecDepth 100000 in
set_option maxHeartbeats 800000 in
theorem BeamChecks_wide (nm : ByteArray) (x y z rose gates step width : Int) (gx gy size wide high : Int) (a : Option Addr) (len cap : Nat) (w : World) (hl : nm.size ≤ 40) (hm : len ≤ maxLen) (h5 : 5000 < len) :
    Calls Try.prog 3 #[.agg #[.string nm, .int .i64 x, .int .i64 y, .int .i64 z, .int .i64 rose, .int .i64 gates, .int .i64 step, .int .i64 width], .agg #[.int .i64 gx, .int .i64 gy, .int .i64 size, .int .i64 wide, .int .i64 high, .slice a len cap]] w fun e w' => e = .returned (.bool true) ∧ Below w.heap.size w w' := by
  unfold maxLen at hm
  go_enter Try.func3, Try.ntmps3
  go_wp2_with fail
  refine (works_any _).mono ?_; rintro e w1 ⟨rfl, hb1⟩
  go_wp2
  go_ret
  exact ⟨rfl, Below.trans (((Below.refl _ _).alloc (Nat.le_refl _) _).alloc (by simp) _) (hb1.mono (by simp only [World.size_alloc]; omega))⟩

set_option maxRecDepth 100000 in
set_option maxHeartbeats 12800000 in
theorem BeamChecks_good (nm : ByteArray) (x y z rose gates step width : Int) (gx gy size wide high : Int) (a : Option Addr) (len cap : Nat) (zs : Nat → Int × Int) (w : World) (hs : nm.size ≤ maxLen) (hl : nm.size ≤ 40) (h5 : len ≤ 5000) (hsl : SliceIs w a len cap zs) :
    Calls Try.prog 3 #[.agg #[.string nm, .int .i64 x, .int .i64 y, .int .i64 z, .int .i64 rose, .int .i64 gates, .int .i64 step, .int .i64 width], .agg #[.int .i64 gx, .int .i64 gy, .int .i64 size, .int .i64 wide, .int .i64 high, .slice a len cap]] w fun e w' => e = .returned (.bool true) ∧ Below w.heap.size w w' := by
  have HS := Lib.hid hs
  have LEAD := Lib.hid (checks_lead nm x y z rose gates step width gx gy size wide high a len cap zs w hsl)
  clear hs hsl
  go_enter Try.func3, Try.ntmps3
  go_wp2_with fail
  go_region_held3 (fun w' => w'.cell? ⟨w.heap.size, 0, none⟩ = some (.string nm) ∧ w'.cell? ⟨w.heap.size, 1, none⟩ = some (.int .i64 x) ∧ w'.cell? ⟨w.heap.size, 2, none⟩ = some (.int .i64 y) ∧ w'.cell? ⟨w.heap.size, 3, none⟩ = some (.int .i64 z) ∧ w'.cell? ⟨w.heap.size, 4, none⟩ = some (.int .i64 rose) ∧ w'.cell? ⟨w.heap.size, 5, none⟩ = some (.int .i64 gates) ∧ w'.cell? ⟨w.heap.size, 6, none⟩ = some (.int .i64 step) ∧ w'.cell? ⟨w.heap.size, 7, none⟩ = some (.int .i64 width) ∧ w'.cell? ⟨w.heap.size + 1, 0, none⟩ = some (.int .i64 gx) ∧ w'.cell? ⟨w.heap.size + 1, 1, none⟩ = some (.int .i64 gy) ∧ w'.cell? ⟨w.heap.size + 1, 2, none⟩ = some (.int .i64 size) ∧ w'.cell? ⟨w.heap.size + 1, 3, none⟩ = some (.int .i64 wide) ∧ w'.cell? ⟨w.heap.size + 1, 4, none⟩ = some (.int .i64 high) ∧ w'.cell? ⟨w.heap.size + 1, 5, none⟩ = some (.slice a len cap) ∧ SliceIs w' a len cap zs ∧ w.heap.size + 2 ≤ w'.heap.size ∧ Below w.heap.size w w')
    ((first | exact LEAD.out | (go_split_ands; refine ⟨?_, ?_, ?_, ?_, ?_, ?_, ?_, ?_, ?_, ?_, ?_, ?_, ?_, ?_, ?_, ?_, ?_⟩ <;> first | assumption | exact keepB hb4 (by omega) (by assumption) | exact SliceIs.keep (by assumption) hb4 | (have := hb4.size; omega) | exact Below.trans (by assumption) (hb4.mono (by omega)))))
    (first | (go_at_call_of 15 (Value.string nm); refine (Name_b _ _ HS.out).mono ?_; rintro e w' ⟨rfl, rfl⟩) | (go_at_call 15; (with_reducible refine (Name_a1 _).mono ?_); rintro e w' ⟨rfl, rfl⟩) | (go_at_call 15; (with_reducible refine (Name_1a _).mono ?_); rintro e w' ⟨rfl, rfl⟩) | (go_at_call 15; (with_reducible refine (Name_0 _).mono ?_); rintro e w' ⟨rfl, rfl⟩) | (go_at_call 16; refine (refName_b _ _ HS.out).mono ?_; rintro e w' ⟨rfl, rfl⟩) | (go_at_call_of 17 (Value.string nm); refine (CheckSite_any _ _ _ _ _ _ _ _ _ HS.out).mono ?_; rintro e w4 ⟨rfl, hb4⟩) | (go_at_call 17; refine (CheckSite_S _).mono ?_; rintro e w4 ⟨rfl, hb4⟩) | (go_at_call 18; refine (refCheckSite_any _ _ _ _ _ _ _ _ _ HS.out).mono ?_; rintro e w4 ⟨rfl, hb4⟩) | (go_at_call_of 19 (Value.int IntKind.i64 gx); refine (CheckGrid_any _ _ _ _ _ _).mono ?_; rintro e w4 ⟨rfl, hb4⟩) | (go_at_call 19; refine (CheckGrid_65 _).mono ?_; rintro e w4 ⟨rfl, hb4⟩) | (go_at_call 20; refine (refCheckGrid_any _ _ _ _ _ _).mono ?_; rintro e w4 ⟨rfl, hb4⟩) | (go_at_call_of 21 (Value.slice a len cap); refine (CheckField_any _ _ _ _ _ _ _ _ zs _ (by omega) ?_).mono ?_; (go_split_ands; assumption); rintro e w4 ⟨rfl, hb4⟩) | (go_at_call 21; refine (CheckField_Hill _ _ ?_).mono ?_; (go_split_ands; assumption); rintro e w4 ⟨rfl, hb4⟩) | (go_at_call 22; refine (refCheckField_any _ _ _ _ _ _ _ _ zs _ (by omega) ?_).mono ?_; (go_split_ands; assumption); rintro e w4 ⟨rfl, hb4⟩) | (go_at_call 23; refine (S_any _).mono ?_; rintro e w4 ⟨rfl, hb4⟩) | (go_at_call 24; refine (Hill_any _).mono ?_; rintro e w4 ⟨bH, rfl, hH, hb4⟩) | (go_at_call 14; refine (works_any _).mono ?_; rintro e w4 ⟨rfl, hb4⟩))
  go_split_ands
  go_wp2
  go_ret
  exact ⟨rfl, by assumption⟩

end Go.Proofs.Ythnjfnapjpdchaa
