/-
  Walks over roundings and run.
-/
import Derived.Test.YthnjfnapjpdchaaH
import Derived.Laws.EntriesVeiled
namespace Go.Proofs.Ythnjfnapjpdchaa
open Go.RowKit

set_option maxHeartbeats 400000 in
theorem roundings_any (w : World) :
    Calls Try.prog 68 #[] w fun e w' => e = .returned (.tuple #[.func (Fn.func 92) #[] #[], .func (Fn.func 93) #[] #[.pointer (some ⟨w.heap.size, 0, none⟩)]]) ∧ w' = w.alloc (.cells #[.func (Fn.func 92) #[] #[]] 90) := by
  go_enter Try.func68, Try.ntmps68
  go_wp2
  exact bodyPost_ret (v := .tuple #[.func (Fn.func 92) #[] #[], .func (Fn.func 93) #[] #[.pointer (some ⟨w.heap.size, 0, none⟩)]]) (by simp [results, Try.results68, go_sem]) rfl ⟨rfl, by simp⟩

set_option maxHeartbeats 400000 in
theorem up_any (a b : Int) (p : Addr) (w : World) (hp : w.cell? p = some (.func (Fn.func 92) #[] #[])) (hb : 1 ≤ b) (ha1 : -1000000000000000 ≤ a) (ha2 : a ≤ 1000000000000000) :
    Calls Try.prog 93 #[.int .i64 a, .int .i64 b, .pointer (some p)] w fun e w' => e = .returned (.int .i64 (-((-a) / b))) ∧ w = w' := by
  obtain ⟨h1, h2⟩ := floor_bd (a := -a) hb (by omega) (by omega)
  go_enter Try.func93, Try.ntmps93
  go_wp2_with (go_at_call 92; refine (down_any _ _ _ hb (by omega) (by omega)).mono ?_; rintro e w' ⟨rfl, rfl⟩)
  go_ret
  exact ⟨rfl, rfl⟩

/-- numerator and denominator of a ground range -/
def runN (step t gate : Int) : Int := (2 * gate + 1) * step * (262144 - t * t)
def runD (t : Int) : Int := 2 * (262144 + t * t)
def runLo (step t gate : Int) : Int := runN step t gate / runD t
def runHi (step t gate : Int) : Int := -((-runN step t gate) / runD t)

theorem runD_bd {t : Int} (h1 : -8 ≤ t) (h2 : t ≤ 264) : 524288 ≤ runD t ∧ runD t ≤ 663680 := by
  have hb : 0 ≤ t * t := M.sq_nonneg t
  have hb2 : t * t ≤ 69696 := (M.sq_bd (a := t) (A := 264) (by omega) h2).2
  unfold runD; omega

theorem runN_bd {step t gate : Int} (h1 : -8 ≤ t) (h2 : t ≤ 264) (s1 : 50 ≤ step) (s2 : step ≤ 2000) (g1 : 0 ≤ gate) (g2 : gate ≤ 199) :
    (0 ≤ (2 * gate + 1) * step ∧ (2 * gate + 1) * step ≤ 798000) ∧ 0 ≤ runN step t gate ∧ runN step t gate ≤ 209190912000 ∧ 0 ≤ t * t ∧ t * t ≤ 69696 := by
  have hb : 0 ≤ t * t := M.sq_nonneg t
  have hb2 : t * t ≤ 69696 := (M.sq_bd (a := t) (A := 264) (by omega) h2).2
  have h3 := M.mul_bd (a := 2 * gate + 1) (b := step) (A := 399) (B := 2000) (by omega) (by omega) (by omega) s2
  have h4 := M.mul_bd (a := (2 * gate + 1) * step) (b := 262144 - t * t) (A := 798000) (B := 262144) (by omega) (by omega) (by omega) (by omega)
  unfold runN
  exact ⟨by omega, by omega, by omega, hb, hb2⟩

theorem runLo_bd {step t gate : Int} (h1 : -8 ≤ t) (h2 : t ≤ 264) (s1 : 50 ≤ step) (s2 : step ≤ 2000) (g1 : 0 ≤ gate) (g2 : gate ≤ 199) :
    0 ≤ runLo step t gate ∧ runLo step t gate ≤ 399000 := by
  have hd := runD_bd h1 h2
  have hn := runN_bd h1 h2 s1 s2 g1 g2
  unfold runLo
  refine ⟨Int.ediv_nonneg (by omega) (by omega), ?_⟩
  have : runN step t gate / runD t < 399001 := Int.ediv_lt_of_lt_mul (by omega) (by omega)
  omega

theorem runHi_bd {step t gate : Int} (h1 : -8 ≤ t) (h2 : t ≤ 264) (s1 : 50 ≤ step) (s2 : step ≤ 2000) (g1 : 0 ≤ gate) (g2 : gate ≤ 199) :
    0 ≤ runHi step t gate ∧ runHi step t gate ≤ 399000 := by
  have hd := runD_bd h1 h2
  have hn := runN_bd h1 h2 s1 s2 g1 g2
  unfold runHi
  have h3 : -399000 ≤ (-runN step t gate) / runD t := Int.le_ediv_of_mul_le (by omega) (by omega)
  have h4 : (-runN step t gate) / runD t < 1 := Int.ediv_lt_of_lt_mul (by omega) (by omega)
  omega

set_option maxHeartbeats 400000 in
theorem run_down (nm : ByteArray) (x y z rose gates step width t gate : Int) (w : World) (h1 : -8 ≤ t) (h2 : t ≤ 264) (s1 : 50 ≤ step) (s2 : step ≤ 2000) (g1 : 0 ≤ gate) (g2 : gate ≤ 199) :
    Calls Try.prog 69 #[.agg #[.string nm, .int .i64 x, .int .i64 y, .int .i64 z, .int .i64 rose, .int .i64 gates, .int .i64 step, .int .i64 width], .int .i64 t, .int .i64 gate, .func (Fn.func 92) #[] #[]] w
      fun e w' => e = .returned (.int .i64 (runLo step t gate)) ∧ Below w.heap.size w w' := by
  obtain ⟨⟨b1, b2⟩, b3, b4, b5, b6⟩ := runN_bd h1 h2 s1 s2 g1 g2
  have hd := runD_bd h1 h2
  unfold runN at b3 b4
  unfold runD at hd
  go_enter Try.func69, Try.ntmps69
  go_wp2_with (first | (go_at_call 65; refine (slant_any _ _ h1 h2).mono ?_; rintro e w' ⟨rfl, rfl⟩) | (go_at_call 92; refine (down_any _ _ _ (by omega) (by omega) (by omega)).mono ?_; rintro e w' ⟨rfl, rfl⟩))
  go_ret
  exact ⟨rfl, (Below.refl _ _).alloc (Nat.le_refl _) _⟩

set_option maxHeartbeats 400000 in
theorem run_up (nm : ByteArray) (x y z rose gates step width t gate : Int) (p : Addr) (w : World) (hp : w.cell? p = some (.func (Fn.func 92) #[] #[])) (hp2 : p.block < w.heap.size) (h1 : -8 ≤ t) (h2 : t ≤ 264) (s1 : 50 ≤ step) (s2 : step ≤ 2000) (g1 : 0 ≤ gate) (g2 : gate ≤ 199) :
    Calls Try.prog 69 #[.agg #[.string nm, .int .i64 x, .int .i64 y, .int .i64 z, .int .i64 rose, .int .i64 gates, .int .i64 step, .int .i64 width], .int .i64 t, .int .i64 gate, .func (Fn.func 93) #[] #[.pointer (some p)]] w
      fun e w' => e = .returned (.int .i64 (runHi step t gate)) ∧ Below w.heap.size w w' := by
  obtain ⟨⟨b1, b2⟩, b3, b4, b5, b6⟩ := runN_bd h1 h2 s1 s2 g1 g2
  have hd := runD_bd h1 h2
  unfold runN at b3 b4
  unfold runD at hd
  have HP : Hid (∀ o, (w.alloc o).cell? p = some (.func (Fn.func 92) #[] #[])) := Lib.hid fun o => by rw [((Below.refl w.heap.size w).alloc (Nat.le_refl _) o).cell hp2]; exact hp
  clear hp
  go_enter Try.func69, Try.ntmps69
  go_wp2_with (first | (go_at_call 65; refine (slant_any _ _ h1 h2).mono ?_; rintro e w' ⟨rfl, rfl⟩) | (go_at_call 93; refine (up_any _ _ _ _ (HP.out _) (by omega) (by omega) (by omega)).mono ?_; rintro e w' ⟨rfl, rfl⟩))
  go_ret
  exact ⟨rfl, (Below.refl _ _).alloc (Nat.le_refl _) _⟩

end Go.Proofs.Ythnjfnapjpdchaa
