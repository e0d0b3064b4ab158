/-
  The walk over borders.
-/
import Derived.Test.YthnjfnapjpdchaaW1
import Derived.Deep.OwnRows
import Derived.Laws.OwnMore
namespace Go.Proofs.Ythnjfnapjpdchaa
open Go.RowKit
set_option linter.unusedVariables false

theorem info3 : (Try.prog.info? 3).map (fun i => (i.zero, i.size, i.bytes)) = some (some (.int .i64 0), 1, 8) := by kernel_rfl

/-- the border of a gate -/
def bordI (step t : Int) (k : Nat) : Int := ((k : Int) * step * (262144 - t * t)) / (262144 + t * t)
theorem bordI_bd {step t : Int} {k : Nat} (h1 : 0 ≤ t) (h2 : t ≤ 256) (s1 : 50 ≤ step) (s2 : step ≤ 2000) (hk : k ≤ 200) :
    (0 ≤ (k : Int) * step ∧ (k : Int) * step ≤ 400000) ∧ (0 ≤ (k : Int) * step * (262144 - t * t) ∧ (k : Int) * step * (262144 - t * t) ≤ 104857600000) ∧ (0 ≤ bordI step t k ∧ bordI step t k ≤ 400000) := by
  have tt := M.sq_nonneg t
  have t2 := (M.sq_bd (a := t) (A := 256) (by omega) h2).2
  have m1 := M.mul_bd (a := (k : Int)) (b := step) (A := 200) (B := 2000) (by omega) (by omega) (by omega) s2
  have m2 := M.mul_bd (a := (k : Int) * step) (b := 262144 - t * t) (A := 400000) (B := 262144) m1.1 (by omega) (by omega) (by omega)
  refine ⟨⟨m1.1, by omega⟩, ⟨m2.1, by omega⟩, Int.ediv_nonneg m2.1 (by omega), ?_⟩
  have : bordI step t k < 400001 := Int.ediv_lt_of_lt_mul (by omega) (by omega)
  omega

/-- the row that is being filled -/
structure RowAt (w : World) (b n : Nat) (B : Nat → Int) : Prop where
  c : ∀ k, k < n → w.cell? ⟨b, k, none⟩ = some (.int .i64 (B k))
  f : ∀ k, k < n → w.frozen? ⟨b, k, none⟩ = false

theorem RowAt.set {w : World} {b n k : Nat} {v : Int} {B B2 : Nat → Int} (s : RowAt w b n B) (hk : k < n) (h1 : B2 k = v) (h2 : ∀ i, i ≠ k → B2 i = B i) : RowAt (w.setCell ⟨b, k, none⟩ (.int .i64 v)) b n B2 := by
  refine ⟨fun i hi => ?_, fun i hi => ?_⟩
  · by_cases e : i = k
    · subst e
      rw [h1]
      exact World.cell?_setCell_same' _ _ _ (by rw [s.c i hi]; rfl)
    · rw [World.cell?_setCell_other _ _ _ _ (fun h => e (by injection h with _ h3; exact h3.symm)), h2 i e]; exact s.c i hi
  · simp; exact s.f i hi
theorem made_get (n k : Nat) (h : k < n) : (madeCells #[.int .i64 0] n)[k]? = some (.int .i64 0) := by
  rw [← Array.getElem?_toList, toList_madeCells_one]
  simp [h]

def BordRel (w : World) (b n : Nat) (step t : Int) (j : Nat) (wr : World) : Prop :=
  RowAt wr b n (fun k => if k < j then bordI step t k else 0) ∧ wr.cell? ⟨w.heap.size, 6, none⟩ = some (.int .i64 step) ∧ w.heap.size < b ∧ b < wr.heap.size ∧ Below w.heap.size w wr

theorem bord_start (w : World) (nm : ByteArray) (x y z rose : Int) (g : Nat) (step width t : Int) :
    BordRel w (w.heap.size + 1 + 1) (g + 1) step t 0 (((w.alloc (.cells #[.string nm, .int .i64 x, .int .i64 y, .int .i64 z, .int .i64 rose, .int .i64 (g : Nat), .int .i64 step, .int .i64 width] 23)).alloc (.cells #[.func (Fn.func 92) #[] #[]] 90)).alloc (.cells (madeCells #[.int .i64 0] (g + 1)) 3)) := by
  have e : (w.alloc (.cells #[.string nm, .int .i64 x, .int .i64 y, .int .i64 z, .int .i64 rose, .int .i64 (g : Nat), .int .i64 step, .int .i64 width] 23)).heap.size = w.heap.size + 1 := World.size_alloc _ _
  have e2 : ((w.alloc (.cells #[.string nm, .int .i64 x, .int .i64 y, .int .i64 z, .int .i64 rose, .int .i64 (g : Nat), .int .i64 step, .int .i64 width] 23)).alloc (.cells #[.func (Fn.func 92) #[] #[]] 90)).heap.size = w.heap.size + 1 + 1 := by simp
  refine ⟨⟨fun k hk => ?_, fun k hk => alloc_newF e2.symm⟩, ?_, by omega, by simp, Below.trans (Below.trans (below_alloc _ _) ((below_alloc _ _).mono (by omega))) ((below_alloc _ _).mono (by omega))⟩
  · simp only [Nat.not_lt_zero, if_false]
    exact alloc_new e2.symm (made_get _ _ hk)
  · exact alloc_keep (by omega) (alloc_keep (by omega) (alloc_new rfl rfl))

def BordRet (n : Nat) (step t : Int) (w : World) (e : Ending) (w' : World) : Prop :=
  ∃ b : Nat, e = .returned (.slice (some ⟨b, 0, none⟩) n n) ∧ IntsAt w' b n (bordI step t) ∧ w.heap.size < b ∧ b < w'.heap.size ∧ Below w.heap.size w w'

set_option maxHeartbeats 3200000 in
theorem borders_any (nm : ByteArray) (x y z rose : Int) (g : Nat) (step width t : Int) (w : World) (g2 : g ≤ 200) (h1 : 0 ≤ t) (h2 : t ≤ 256) (s1 : 50 ≤ step) (s2 : step ≤ 2000) :
    Calls Try.prog 79 #[.agg #[.string nm, .int .i64 x, .int .i64 y, .int .i64 z, .int .i64 rose, .int .i64 (g : Nat), .int .i64 step, .int .i64 width], .int .i64 t] w (BordRet (g + 1) step t w) := by
  have hmk := fun wx : World => run_make_row' (P := Try.prog) 54 3 (.int .i64 0) 8 Try.underlying54 info3 rfl .i64 .i64 (g + 1) (by omega) (by omega) wx
  have ec : ((g + 1 : Nat) : Int) = (g : Int) + 1 := by omega
  rw [ec] at hmk
  clear ec
  go_enter Try.func79, Try.ntmps79
  go_wp2_with (first | (go_at_call 68; refine (roundings_any _).mono ?_; rintro e w3 ⟨rfl, hw3⟩; subst hw3) | (go_at_call 65; refine (slant_any _ _ (by omega) (by omega)).mono ?_; rintro e w' ⟨rfl, rfl⟩))
  go_loopw [28] (fun i wr => ∃ j : Nat, j ≤ g + 1 ∧ BordRel w (w.heap.size + 1 + 1) (g + 1) step t j wr ∧ i = .int .i64 j) (fun i _ => g + 1 - (intOf i).toNat)
  case atStart => exact ⟨0, Nat.zero_le _, bord_start w nm x y z rose g step width t, rfl⟩
  case round =>
    clear hmk
    obtain ⟨j, hj, ⟨hrow, hst, hb1, hb2, hbw⟩, rfl⟩ := hrel
    have y0 : w.heap.size < wr.heap.size := by omega
    by_cases hlt : j < g + 1
    · obtain ⟨⟨m1, m2⟩, ⟨m3, m4⟩, m5, m6⟩ := bordI_bd (k := j) h1 h2 s1 s2 (by omega)
      have tt := M.sq_nonneg t
      have cj := hrow.c j hlt
      have fj := hrow.f j hlt
      have HREL := Lib.hid (show BordRel w (w.heap.size + 1 + 1) (g + 1) step t (j + 1) (wr.setCell ⟨w.heap.size + 1 + 1, j, none⟩ (.int .i64 (bordI step t j))) from by
        refine ⟨hrow.set hlt (by simp) (fun i hi => ?_), ?_, hb1, by simp; omega, hbw.setCell (p := ⟨w.heap.size + 1 + 1, j, none⟩) (by dsimp only; omega) _⟩
        · by_cases h : i < j
          · rw [if_pos h, if_pos (by omega)]
          · rw [if_neg h, if_neg (by omega)]
        · rw [World.cell?_setCell_far _ _ _ _ (by dsimp only; omega)]; exact hst)
      unfold bordI at m5 m6 HREL
      clear hrow hbw
      simp only [Nat.lt_irrefl, if_false] at cj
      go_wp2_with fail
      refine (down_any _ _ _ (by omega) (by omega) (by omega)).mono ?_; rintro e w' ⟨rfl, rfl⟩
      go_wp2
      go_roundw
      case rel => exact ⟨j + 1, by omega, HREL.out, by go_num⟩
      case measure => simp [intOf]; omega
    · obtain rfl : j = g + 1 := by omega
      have HI := Lib.hid (show IntsAt wr (w.heap.size + 1 + 1) (g + 1) (bordI step t) from fun k hk => by
        have h := hrow.c k hk
        simp only [hk, if_true] at h
        exact h)
      clear hrow
      go_wp2
      go_ret
      exact ⟨_, rfl, HI.out, by omega, by omega, hbw⟩

end Go.Proofs.Ythnjfnapjpdchaa
