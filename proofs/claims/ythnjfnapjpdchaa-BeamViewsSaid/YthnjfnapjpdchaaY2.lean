/-
  Find and its reference answer the same.
-/
import Derived.Test.YthnjfnapjpdchaaX5
namespace Go.Proofs.Ythnjfnapjpdchaa
open Go.RowKit
set_option linter.unusedVariables false

def FindCalls (F : Nat) (nm : ByteArray) (x y z rose gates step width : Int) (t ax ay p q r : Int) : Prop := ∀ w : World, Calls Try.prog F #[.agg #[.string nm, .int .i64 x, .int .i64 y, .int .i64 z, .int .i64 rose, .int .i64 gates, .int .i64 step, .int .i64 width], .int .i64 t, .int .i64 ax, .int .i64 ay] w fun e w' => e = .returned (.tuple #[.int .i64 p, .int .i64 q, .int .i64 r]) ∧ Below w.heap.size w w'

theorem find_both (nm : ByteArray) (x y z rose gates step width : Int) (t ax ay : Int) (hs : nm.size ≤ maxLen) : ∃ p q r : Int, FindCalls 38 nm x y z rose gates step width t ax ay p q r ∧ FindCalls 39 nm x y z rose gates step width t ax ay p q r := by
  by_cases h0 : siteC nm x y z rose gates step width = 0
  · have hk := (siteC_zero.1 h0).2
    rcases (Bool.eq_false_or_eq_true (inB t 0 256)).symm with c0 | c0
    · exact ⟨0, 0, 3, fun w => Find_no0 nm x y z rose gates step width t ax ay w hs h0 c0, fun w => refFind_no0 nm x y z rose gates step width t ax ay w hs h0 c0⟩
    rcases (Bool.eq_false_or_eq_true (inB ax (-4194304) 4194304)).symm with c1 | c1
    · exact ⟨0, 0, 3, fun w => Find_no1 nm x y z rose gates step width t ax ay w hs h0 c0 c1, fun w => refFind_no1 nm x y z rose gates step width t ax ay w hs h0 c0 c1⟩
    rcases (Bool.eq_false_or_eq_true (inB ay (-4194304) 4194304)).symm with c2 | c2
    · exact ⟨0, 0, 3, fun w => Find_no2 nm x y z rose gates step width t ax ay w hs h0 c0 c1 c2, fun w => refFind_no2 nm x y z rose gates step width t ax ay w hs h0 c0 c1 c2⟩
    obtain ⟨n, rfl⟩ := Int.eq_ofNat_of_zero_le (show 0 ≤ rose by have := hk.r1; omega)
    obtain ⟨g, rfl⟩ := Int.eq_ofNat_of_zero_le (show 0 ≤ gates by have := hk.g1; omega)
    have hn : 1 ≤ n := by have := hk.r1; omega
    have hg : 1 ≤ g := by have := hk.g1; omega
    have hg2 : g ≤ 200 := by have := hk.g2; omega
    obtain ⟨ht0, ht⟩ := inB_true.1 c0
    obtain ⟨dx, hdx⟩ : ∃ d, ax - x = d := ⟨_, rfl⟩
    obtain ⟨dy, hdy⟩ : ∃ d, ay - y = d := ⟨_, rfl⟩
    obtain ⟨r, hr⟩ := srch_exists (g + 1) (inside (dx * dx + dy * dy) (bordI step t)) (inside_mono (bord_mono (step := step) (t := t) ht0 ht hk.s1 hk.s2 (by omega)))
    by_cases hz : dx = 0 ∧ dy = 0
    · have hr1 : r = 1 := by
        rw [hz.1, hz.2] at hr
        exact srch_zero hg ht0 ht hk.s1 hr
      refine ⟨0, 0, 0, fun w => ?_, fun w => refFind_zero nm x y z n g step width t ax ay dx dy hdx hdy w hs h0 c0 c1 c2 (by simp [hz.1]) (by simp [hz.2])⟩
      have h := Find_in nm x y z n g step width t ax ay dx dy hdx hdy r hr w hs h0 hk c0 c1 c2 (by omega) hn 0 (.inl ⟨hz.1, hz.2, rfl⟩)
      rw [hr1] at h
      exact h
    · obtain ⟨pr, hpr⟩ := ray_exists (n := n) dx dy
      obtain ⟨⟨hp0, hp1⟩, hsec⟩ := sec_unique hn hz hpr
      obtain ⟨P, rfl⟩ := Int.eq_ofNat_of_zero_le hp0
      have hr1 : 1 ≤ r := srch_one (by have := M.sq_nonneg dx; have := M.sq_nonneg dy; omega) hr
      have hrN := hr.1
      have key : ∀ (Res : Value), (r ≤ g → Res = .tuple #[.int .i64 P, .int .i64 ((r : Int) - 1), .int .i64 0]) → (¬ r ≤ g → Res = .tuple #[.int .i64 0, .int .i64 0, .int .i64 29]) → ∀ w : World, Calls Try.prog 39 #[.agg #[.string nm, .int .i64 x, .int .i64 y, .int .i64 z, .int .i64 (n : Nat), .int .i64 (g : Nat), .int .i64 step, .int .i64 width], .int .i64 t, .int .i64 ax, .int .i64 ay] w fun e w' => e = .returned Res ∧ Below w.heap.size w w' := by
        intro Res k1 k2 w
        by_cases z1 : dx = 0
        · exact refFind_b nm x y z n g step width t ax ay dx dy hdx hdy r hr hr1 w hs h0 hk c0 c1 c2 P hp1 Res k1 k2 hsec (by simp [z1]) (by rw [beq_eq_false_iff_ne]; exact fun h => hz ⟨z1, h⟩)
        · exact refFind_a nm x y z n g step width t ax ay dx dy hdx hdy r hr hr1 w hs h0 hk c0 c1 c2 P hp1 Res k1 k2 hsec (by rw [beq_eq_false_iff_ne]; exact z1)
      by_cases hin : r ≤ g
      · exact ⟨P, (r : Int) - 1, 0, fun w => Find_in nm x y z n g step width t ax ay dx dy hdx hdy r hr w hs h0 hk c0 c1 c2 hin hn P hpr, key _ (fun _ => rfl) (fun h => absurd hin h)⟩
      · exact ⟨0, 0, 29, fun w => Find_out nm x y z n g step width t ax ay dx dy hdx hdy r hr w hs h0 hk c0 c1 c2 (by omega), key _ (fun h => absurd h hin) (fun _ => rfl)⟩
  · exact ⟨0, 0, siteC nm x y z rose gates step width, fun w => Find_err nm x y z rose gates step width t ax ay w hs (bne_iff_ne.2 h0), fun w => refFind_err nm x y z rose gates step width t ax ay w hs (bne_iff_ne.2 h0)⟩

end Go.Proofs.Ythnjfnapjpdchaa
