/-
  The first samples are heard.
-/
import Derived.Test.Ytmojnopgpgnfeaamg15
import Derived.Test.Ytmojnopgpgnfeaamg16
import Derived.Test.Ytmojnopgpgnfeaamg12
namespace Go.Proofs.Ytmojnopgpgnfeaa
open Go.RowKit
set_option linter.unusedVariables false
set_option linter.unusedSimpArgs false

theorem works_val : (List.range 14).map (hearOf 100000 1 4 0 0 0 0 4 fourZ) = [3, 100, 100, 110, 110, 0, 0, 20, 250, 250, 1000, 1000, 0, 0] := by kernel_rfl
theorem works_Hear (b : Nat) (w : World) (hS : SmpsAt w b 0 4 fourZ) (hb : b < w.heap.size) :
    Calls Try.prog 27 #[.agg #[.int .i64 100000, .int .i64 1, .int .i64 1000, .int .i64 0, .int .i64 4], .agg #[.int .i64 0, .int .i64 0, .int .i64 0, .int .i64 0], .slice (some ⟨b, 0, none⟩) 4 4] w fun e' w' => e' = .returned (.tuple #[.agg #[.int .i64 3, .int .i64 100, .int .i64 100, .int .i64 110, .int .i64 110, .int .i64 0, .int .i64 0, .int .i64 20, .int .i64 250, .int .i64 250, .int .i64 1000, .int .i64 1000, .int .i64 0, .int .i64 0], .int .i64 0]) ∧ Below w.heap.size w w' := by
  have h := Hear_ok 100000 1 1000 0 4 0 0 0 0 b 0 4 4 fourZ w (by decide) (by decide) rfl (by decide) hS hb
  have e : ∀ i, i < 14 → hearOf 100000 1 4 0 0 0 0 4 fourZ i = ([3, 100, 100, 110, 110, 0, 0, 20, 250, 250, 1000, 1000, 0, 0] : List Int)[i]?.getD 0 := fun i hi => by
    rw [← works_val]
    simp [hi]
  rw [e 0 (by decide)] at h
  rw [e 1 (by decide)] at h
  rw [e 2 (by decide)] at h
  rw [e 3 (by decide)] at h
  rw [e 4 (by decide)] at h
  rw [e 5 (by decide)] at h
  rw [e 6 (by decide)] at h
  rw [e 7 (by decide)] at h
  rw [e 8 (by decide)] at h
  rw [e 9 (by decide)] at h
  rw [e 10 (by decide)] at h
  rw [e 11 (by decide)] at h
  rw [e 12 (by decide)] at h
  rw [e 13 (by decide)] at h
  exact h

set_option maxRecDepth 100000 in
set_option maxHeartbeats 8000000 in
theorem works_any (w : World) : Calls Try.prog 22 #[] w fun e w' => e = .returned (.bool true) ∧ Below w.heap.size w w' := by
  go_enter Try.func22, Try.ntmps22
  go_wp2_with fail
  refine (O_any _).mono ?_; rintro e' X1 ⟨rfl, hb1⟩
  go_wp2_with fail
  refine (four_any _).mono ?_; rintro e' X2 ⟨rfl, hS, hz, hb2⟩
  go_wp2_with fail
  refine (works_Hear _ _ hS hz).mono ?_; rintro e' E ⟨rfl, hb3⟩
  have bE : Below w.heap.size w E := hb1.trans ((hb2.trans (hb3.mono hb2.size)).mono hb1.size)
  clear hb1 hb2 hb3 hS hz
  have EQ := eq28 110 110 0 0 110 110 0 0
  obtain ⟨A, hA⟩ : ∃ A, A = E.alloc (.cells #[.int .i64 3, .int .i64 100, .int .i64 100, .int .i64 110, .int .i64 110, .int .i64 0, .int .i64 0, .int .i64 20, .int .i64 250, .int .i64 250, .int .i64 1000, .int .i64 1000, .int .i64 0, .int .i64 0] 30) := ⟨_, rfl⟩
  have c0 : A.cell? ⟨E.heap.size, 0, none⟩ = some (.int .i64 3) := by rw [hA]; exact alloc_new rfl rfl
  have c1 : A.cell? ⟨E.heap.size, 1, none⟩ = some (.int .i64 100) := by rw [hA]; exact alloc_new rfl rfl
  have c2 : A.cell? ⟨E.heap.size, 2, none⟩ = some (.int .i64 100) := by rw [hA]; exact alloc_new rfl rfl
  have c3 : A.cell? ⟨E.heap.size, 3, none⟩ = some (.int .i64 110) := by rw [hA]; exact alloc_new rfl rfl
  have c4 : A.cell? ⟨E.heap.size, 4, none⟩ = some (.int .i64 110) := by rw [hA]; exact alloc_new rfl rfl
  have c5 : A.cell? ⟨E.heap.size, 5, none⟩ = some (.int .i64 0) := by rw [hA]; exact alloc_new rfl rfl
  have c6 : A.cell? ⟨E.heap.size, 6, none⟩ = some (.int .i64 0) := by rw [hA]; exact alloc_new rfl rfl
  have c7 : A.cell? ⟨E.heap.size, 7, none⟩ = some (.int .i64 20) := by rw [hA]; exact alloc_new rfl rfl
  have c8 : A.cell? ⟨E.heap.size, 8, none⟩ = some (.int .i64 250) := by rw [hA]; exact alloc_new rfl rfl
  have c9 : A.cell? ⟨E.heap.size, 9, none⟩ = some (.int .i64 250) := by rw [hA]; exact alloc_new rfl rfl
  have c10 : A.cell? ⟨E.heap.size, 10, none⟩ = some (.int .i64 1000) := by rw [hA]; exact alloc_new rfl rfl
  have c11 : A.cell? ⟨E.heap.size, 11, none⟩ = some (.int .i64 1000) := by rw [hA]; exact alloc_new rfl rfl
  have c12 : A.cell? ⟨E.heap.size, 12, none⟩ = some (.int .i64 0) := by rw [hA]; exact alloc_new rfl rfl
  have c13 : A.cell? ⟨E.heap.size, 13, none⟩ = some (.int .i64 0) := by rw [hA]; exact alloc_new rfl rfl
  have bA : Below w.heap.size w A := by rw [hA]; exact bE.trans ((below_alloc _ _).mono bE.size)
  have HS := Lib.hid (show (fun w' : World => w'.cell? ⟨E.heap.size, 0, none⟩ = some (.int .i64 3) ∧ w'.cell? ⟨E.heap.size, 1, none⟩ = some (.int .i64 100) ∧ w'.cell? ⟨E.heap.size, 2, none⟩ = some (.int .i64 100) ∧ w'.cell? ⟨E.heap.size, 3, none⟩ = some (.int .i64 110) ∧ w'.cell? ⟨E.heap.size, 4, none⟩ = some (.int .i64 110) ∧ w'.cell? ⟨E.heap.size, 5, none⟩ = some (.int .i64 0) ∧ w'.cell? ⟨E.heap.size, 6, none⟩ = some (.int .i64 0) ∧ w'.cell? ⟨E.heap.size, 7, none⟩ = some (.int .i64 20) ∧ w'.cell? ⟨E.heap.size, 8, none⟩ = some (.int .i64 250) ∧ w'.cell? ⟨E.heap.size, 9, none⟩ = some (.int .i64 250) ∧ w'.cell? ⟨E.heap.size, 10, none⟩ = some (.int .i64 1000) ∧ w'.cell? ⟨E.heap.size, 11, none⟩ = some (.int .i64 1000) ∧ w'.cell? ⟨E.heap.size, 12, none⟩ = some (.int .i64 0) ∧ w'.cell? ⟨E.heap.size, 13, none⟩ = some (.int .i64 0) ∧ Below A.drew.heap.size A.drew w') A.drew from ⟨c0, c1, c2, c3, c4, c5, c6, c7, c8, c9, c10, c11, c12, c13, Below.refl _ _⟩)
  go_wp2_with fail
  rw [← hA]
  clear hA c0 c1 c2 c3 c4 c5 c6 c7 c8 c9 c10 c11 c12 c13
  refine wp_region_held_tail (S := (fun w' : World => w'.cell? ⟨E.heap.size, 0, none⟩ = some (.int .i64 3) ∧ w'.cell? ⟨E.heap.size, 1, none⟩ = some (.int .i64 100) ∧ w'.cell? ⟨E.heap.size, 2, none⟩ = some (.int .i64 100) ∧ w'.cell? ⟨E.heap.size, 3, none⟩ = some (.int .i64 110) ∧ w'.cell? ⟨E.heap.size, 4, none⟩ = some (.int .i64 110) ∧ w'.cell? ⟨E.heap.size, 5, none⟩ = some (.int .i64 0) ∧ w'.cell? ⟨E.heap.size, 6, none⟩ = some (.int .i64 0) ∧ w'.cell? ⟨E.heap.size, 7, none⟩ = some (.int .i64 20) ∧ w'.cell? ⟨E.heap.size, 8, none⟩ = some (.int .i64 250) ∧ w'.cell? ⟨E.heap.size, 9, none⟩ = some (.int .i64 250) ∧ w'.cell? ⟨E.heap.size, 10, none⟩ = some (.int .i64 1000) ∧ w'.cell? ⟨E.heap.size, 11, none⟩ = some (.int .i64 1000) ∧ w'.cell? ⟨E.heap.size, 12, none⟩ = some (.int .i64 0) ∧ w'.cell? ⟨E.heap.size, 13, none⟩ = some (.int .i64 0) ∧ Below A.drew.heap.size A.drew w')) 13 (by kernel_rfl) (by kernel_rfl) HS.out (fun hHeld => ?_)
  refine wpAnyH_take (i := 0) (v := ?v0_1) rfl (by kernel_rfl) (by kernel_rfl) (by kernel_rfl) (fun _ _ _ h => h) (Or.inl ⟨by rfl, ?hy0_1⟩) (by assumption) ?rest0_1
  case hy0_1 => (intro w hSw; (try dsimp only at hSw); go_simp; (try with_reducible rfl))
  try simp only [Act.put, List.setIfInBounds_toArray, List.set_cons_zero, List.set_cons_succ]
  refine wpAnyH_take (i := 1) (v := ?v1_2) rfl (by kernel_rfl) (by kernel_rfl) (by kernel_rfl) (fun _ _ _ h => h) (Or.inl ⟨by rfl, ?hy1_2⟩) (by assumption) ?rest1_2
  case hy1_2 => (intro w hSw; (try dsimp only at hSw); go_simp; (try with_reducible rfl))
  try simp only [Act.put, List.setIfInBounds_toArray, List.set_cons_zero, List.set_cons_succ]
  refine wpAnyH_take (i := 2) (v := ?v2_3) rfl (by kernel_rfl) (by kernel_rfl) (by kernel_rfl) (fun _ _ _ h => h) (Or.inl ⟨by rfl, ?hy2_3⟩) (by assumption) ?rest2_3
  case hy2_3 => (intro w hSw; (try dsimp only at hSw); go_simp; (try with_reducible rfl))
  try simp only [Act.put, List.setIfInBounds_toArray, List.set_cons_zero, List.set_cons_succ]
  refine wpAnyH_take (i := 3) (v := ?v3_4) rfl (by kernel_rfl) (by kernel_rfl) (by kernel_rfl) (fun _ _ _ h => h) (Or.inl ⟨by rfl, ?hy3_4⟩) (by assumption) ?rest3_4
  case hy3_4 => (intro w hSw; (try dsimp only at hSw); go_simp; (try with_reducible rfl))
  try simp only [Act.put, List.setIfInBounds_toArray, List.set_cons_zero, List.set_cons_succ]
  refine wpAnyH_take (i := 6) (v := ?v6_5) rfl (by kernel_rfl) (by kernel_rfl) (by kernel_rfl) (fun _ _ _ h => h) (Or.inl ⟨by rfl, ?hy6_5⟩) (by assumption) ?rest6_5
  case hy6_5 => (intro w hSw; (try dsimp only at hSw); go_simp; (try with_reducible rfl))
  try simp only [Act.put, List.setIfInBounds_toArray, List.set_cons_zero, List.set_cons_succ]
  refine wpAnyH_ready (rs := [4]) (by kernel_rfl) (by simp) ?_
  refine AllReadyH.cons rfl (fun K hK => ?_) AllReadyH.nil
  go_simp; go_at_call 38; refine (point_any 100 _).mono ?_; rintro e' w' ⟨rfl, hb'⟩
  refine hK.out _ _ (⟨keepW hb' hHeld.1, keepW hb' hHeld.2.1, keepW hb' hHeld.2.2.1, keepW hb' hHeld.2.2.2.1, keepW hb' hHeld.2.2.2.2.1, keepW hb' hHeld.2.2.2.2.2.1, keepW hb' hHeld.2.2.2.2.2.2.1, keepW hb' hHeld.2.2.2.2.2.2.2.1, keepW hb' hHeld.2.2.2.2.2.2.2.2.1, keepW hb' hHeld.2.2.2.2.2.2.2.2.2.1, keepW hb' hHeld.2.2.2.2.2.2.2.2.2.2.1, keepW hb' hHeld.2.2.2.2.2.2.2.2.2.2.2.1, keepW hb' hHeld.2.2.2.2.2.2.2.2.2.2.2.2.1, keepW hb' hHeld.2.2.2.2.2.2.2.2.2.2.2.2.2.1, hHeld.2.2.2.2.2.2.2.2.2.2.2.2.2.2.trans (hb'.mono hHeld.2.2.2.2.2.2.2.2.2.2.2.2.2.2.size)⟩) (fun hHeld => ?_)
  clear hK K
  try simp only [Act.put, List.setIfInBounds_toArray, List.set_cons_zero, List.set_cons_succ]
  refine wpAnyH_ready (rs := [5]) (by kernel_rfl) (by simp) ?_
  refine AllReadyH.cons rfl (fun K hK => ?_) AllReadyH.nil
  go_simp; go_at_call 38; refine (point_any 110 _).mono ?_; rintro e' w' ⟨rfl, hb'⟩
  refine hK.out _ _ (⟨keepW hb' hHeld.1, keepW hb' hHeld.2.1, keepW hb' hHeld.2.2.1, keepW hb' hHeld.2.2.2.1, keepW hb' hHeld.2.2.2.2.1, keepW hb' hHeld.2.2.2.2.2.1, keepW hb' hHeld.2.2.2.2.2.2.1, keepW hb' hHeld.2.2.2.2.2.2.2.1, keepW hb' hHeld.2.2.2.2.2.2.2.2.1, keepW hb' hHeld.2.2.2.2.2.2.2.2.2.1, keepW hb' hHeld.2.2.2.2.2.2.2.2.2.2.1, keepW hb' hHeld.2.2.2.2.2.2.2.2.2.2.2.1, keepW hb' hHeld.2.2.2.2.2.2.2.2.2.2.2.2.1, keepW hb' hHeld.2.2.2.2.2.2.2.2.2.2.2.2.2.1, hHeld.2.2.2.2.2.2.2.2.2.2.2.2.2.2.trans (hb'.mono hHeld.2.2.2.2.2.2.2.2.2.2.2.2.2.2.size)⟩) (fun hHeld => ?_)
  clear hK K
  try simp only [Act.put, List.setIfInBounds_toArray, List.set_cons_zero, List.set_cons_succ]
  refine wpAnyH_take (i := 7) (v := ?v7_6) rfl (by kernel_rfl) (by kernel_rfl) (by kernel_rfl) (fun _ _ _ h => h) (Or.inl ⟨by rfl, ?hy7_6⟩) (by assumption) ?rest7_6
  case hy7_6 => (intro w hSw; (try dsimp only at hSw); go_simp; (try with_reducible rfl))
  try simp only [Act.put, List.setIfInBounds_toArray, List.set_cons_zero, List.set_cons_succ]
  refine wpAnyH_ready (rs := [8]) (by kernel_rfl) (by simp) ?_
  refine AllReadyH.cons rfl (fun K hK => ?_) AllReadyH.nil
  go_simp; go_at_call 38; refine (point_any 250 _).mono ?_; rintro e' w' ⟨rfl, hb'⟩
  refine hK.out _ _ (⟨keepW hb' hHeld.1, keepW hb' hHeld.2.1, keepW hb' hHeld.2.2.1, keepW hb' hHeld.2.2.2.1, keepW hb' hHeld.2.2.2.2.1, keepW hb' hHeld.2.2.2.2.2.1, keepW hb' hHeld.2.2.2.2.2.2.1, keepW hb' hHeld.2.2.2.2.2.2.2.1, keepW hb' hHeld.2.2.2.2.2.2.2.2.1, keepW hb' hHeld.2.2.2.2.2.2.2.2.2.1, keepW hb' hHeld.2.2.2.2.2.2.2.2.2.2.1, keepW hb' hHeld.2.2.2.2.2.2.2.2.2.2.2.1, keepW hb' hHeld.2.2.2.2.2.2.2.2.2.2.2.2.1, keepW hb' hHeld.2.2.2.2.2.2.2.2.2.2.2.2.2.1, hHeld.2.2.2.2.2.2.2.2.2.2.2.2.2.2.trans (hb'.mono hHeld.2.2.2.2.2.2.2.2.2.2.2.2.2.2.size)⟩) (fun hHeld => ?_)
  clear hK K
  try simp only [Act.put, List.setIfInBounds_toArray, List.set_cons_zero, List.set_cons_succ]
  refine wpAnyH_ready (rs := [9]) (by kernel_rfl) (by simp) ?_
  refine AllReadyH.cons rfl (fun K hK => ?_) AllReadyH.nil
  go_simp; go_at_call 38; refine (point_any 1000 _).mono ?_; rintro e' w' ⟨rfl, hb'⟩
  refine hK.out _ _ (⟨keepW hb' hHeld.1, keepW hb' hHeld.2.1, keepW hb' hHeld.2.2.1, keepW hb' hHeld.2.2.2.1, keepW hb' hHeld.2.2.2.2.1, keepW hb' hHeld.2.2.2.2.2.1, keepW hb' hHeld.2.2.2.2.2.2.1, keepW hb' hHeld.2.2.2.2.2.2.2.1, keepW hb' hHeld.2.2.2.2.2.2.2.2.1, keepW hb' hHeld.2.2.2.2.2.2.2.2.2.1, keepW hb' hHeld.2.2.2.2.2.2.2.2.2.2.1, keepW hb' hHeld.2.2.2.2.2.2.2.2.2.2.2.1, keepW hb' hHeld.2.2.2.2.2.2.2.2.2.2.2.2.1, keepW hb' hHeld.2.2.2.2.2.2.2.2.2.2.2.2.2.1, hHeld.2.2.2.2.2.2.2.2.2.2.2.2.2.2.trans (hb'.mono hHeld.2.2.2.2.2.2.2.2.2.2.2.2.2.2.size)⟩) (fun hHeld => ?_)
  clear hK K
  try simp only [Act.put, List.setIfInBounds_toArray, List.set_cons_zero, List.set_cons_succ]
  refine wpAnyH_take (i := 10) (v := ?v10_7) rfl (by kernel_rfl) (by kernel_rfl) (by kernel_rfl) (fun _ _ _ h => h) (Or.inl ⟨by rfl, ?hy10_7⟩) (by assumption) ?rest10_7
  case hy10_7 => (intro w hSw; (try dsimp only at hSw); go_simp; (try with_reducible rfl))
  try simp only [Act.put, List.setIfInBounds_toArray, List.set_cons_zero, List.set_cons_succ]
  refine wpAnyH_take (i := 11) (v := ?v11_8) rfl (by kernel_rfl) (by kernel_rfl) (by kernel_rfl) (fun _ _ _ h => h) (Or.inl ⟨by rfl, ?hy11_8⟩) (by assumption) ?rest11_8
  case hy11_8 => (intro w hSw; (try dsimp only at hSw); go_simp; (try with_reducible rfl))
  try simp only [Act.put, List.setIfInBounds_toArray, List.set_cons_zero, List.set_cons_succ]
  refine wpAnyH_take (i := 12) (v := ?v12_9) rfl (by kernel_rfl) (by kernel_rfl) (by kernel_rfl) (fun _ _ _ h => h) (Or.inl ⟨by rfl, ?hy12_9⟩) (by assumption) ?rest12_9
  case hy12_9 => (intro w hSw; (try dsimp only at hSw); go_simp; (try with_reducible rfl))
  try simp only [Act.put, List.setIfInBounds_toArray, List.set_cons_zero, List.set_cons_succ]
  refine wpAnyH_done (by kernel_rfl) ?_ _
  change wpList _ _ _ _ _ _
  simp only [List.drop_succ_cons, List.drop_zero]
  have bW := bA.trans ((Below.refl A.heap.size A).drew.trans hHeld.2.2.2.2.2.2.2.2.2.2.2.2.2.2 |>.mono bA.size)
  clear hHeld HS
  go_wp2
  go_ret
  exact ⟨rfl, bW⟩

end Go.Proofs.Ytmojnopgpgnfeaa

namespace Go.Proofs.Ytmojnopgpgnfeaa
open Go.RowKit
set_option linter.unusedVariables false

/-- a span of parts of a turn as in a clear echo -/
def turnB (lo hi : Int) : Bool := inB lo (-32768) 32767 && inB hi lo (lo + 65536 - 1)
theorem turnB_no0 {lo hi : Int} (h : inB lo (-32768) 32767 = false) : turnB lo hi = false := by unfold turnB; rw [h]; rfl
theorem turnB_1 {lo hi : Int} (h : inB lo (-32768) 32767 = true) : turnB lo hi = inB hi lo (lo + 65536 - 1) := by unfold turnB; rw [h]; rfl

/-- the spans of a slice: what its cells hold -/
def SpansAt (w : World) (b off len : Nat) (zs : Nat → Int × Int) : Prop :=
  ∀ i, i < len → w.cell? ⟨b, off + i * 2, none⟩ = some (.int .i64 (zs i).1) ∧ w.cell? ⟨b, off + i * 2 + 1, none⟩ = some (.int .i64 (zs i).2)
theorem SpansAt.keep {B b off len : Nat} {W w1 : World} {zs : Nat → Int × Int} (s : SpansAt W b off len zs) (hb : Below B W w1) (h : b < B) : SpansAt w1 b off len zs :=
  fun i hi => ⟨keepB hb h (s i hi).1, keepB hb h (s i hi).2⟩
/-- the first spans are all as in a clear echo -/
def allB (zs : Nat → Int × Int) : Nat → Bool
  | 0 => true
  | k + 1 => allB zs k && turnB (zs k).1 (zs k).2
theorem allB_no {zs : Nat → Int × Int} {k : Nat} (h : turnB (zs k).1 (zs k).2 = false) : ∀ n, k < n → allB zs n = false
  | 0, hk => by omega
  | n + 1, hk => by
    unfold allB
    by_cases e : k = n
    · subst e; rw [h, Bool.and_false]
    · rw [allB_no h n (by omega), Bool.false_and]

set_option maxHeartbeats 1600000 in
theorem areParts_any (b off len cap : Nat) (zs : Nat → Int × Int) (w : World) (hl : len ≤ 1000000) (hs : SpansAt w b off len zs) (hb : b < w.heap.size) :
    Calls Try.prog 53 #[.slice (some ⟨b, off, none⟩) len cap] w
      fun e w' => e = .returned (.bool (allB zs len)) ∧ Below w.heap.size w w' := by
  have HS := Lib.hid hs
  clear hs
  go_enter Try.func53, Try.ntmps53
  go_wp2
  go_loopw [7] (fun i wr => ∃ k : Nat, k ≤ len ∧ i = .int .i64 k ∧ Below w.heap.size w wr ∧ allB zs k = true) (fun i _ => len - (intOf i).toNat)
  case atStart => exact ⟨0, Nat.zero_le _, rfl, Below.refl _ _, rfl⟩
  case round =>
    obtain ⟨k, hk, rfl, hbw, hall⟩ := hrel
    have HA := Lib.hid hall
    clear hall
    by_cases hlt : k < len
    · have c0 := keepB hbw hb (HS.out k hlt).1
      have c1 := keepB hbw hb (HS.out k hlt).2
      have hbr : b < wr.heap.size := Nat.lt_of_lt_of_le hb hbw.size
      rcases (Bool.eq_false_or_eq_true (inB (zs k).1 (-32768) 32767)).symm with hc | hc
      · have HC := Lib.hid (allB_no (turnB_no0 (hi := (zs k).2) hc) len hlt)
        go_wp2_with fail
        refine (isIn_any _ _ _ _).mono ?_; rintro e w' ⟨rfl, rfl⟩
        go_wp2
        go_ret
        rw [HC.out]
        exact ⟨rfl, hbw.alloc hbw.size _⟩
      · obtain ⟨i1, i2⟩ := inB_true.1 hc
        have j1 : IntKind.i64.wrap ((zs k).1 + 65536) = (zs k).1 + 65536 := IntWalk.i64_in _ (by omega)
        have j2 : IntKind.i64.wrap ((zs k).1 + 65536 - 1) = (zs k).1 + 65536 - 1 := IntWalk.i64_in _ (by omega)
        rcases (Bool.eq_false_or_eq_true (inB (zs k).2 (zs k).1 ((zs k).1 + 65536 - 1))).symm with hd | hd
        · have HC := Lib.hid (allB_no ((turnB_1 hc).trans hd) len hlt)
          go_wp2_with fail
          refine (isIn_any _ _ _ _).mono ?_; rintro e w' ⟨rfl, rfl⟩
          go_wp2_with fail
          refine (isIn_any _ _ _ _).mono ?_; rintro e w' ⟨rfl, rfl⟩
          go_wp2
          go_ret
          rw [HC.out]
          exact ⟨rfl, hbw.alloc hbw.size _⟩
        · have HC := Lib.hid (show allB zs (k + 1) = true by unfold allB; rw [HA.out, (turnB_1 hc).trans hd]; rfl)
          go_wp2_with fail
          refine (isIn_any _ _ _ _).mono ?_; rintro e w' ⟨rfl, rfl⟩
          go_wp2_with fail
          refine (isIn_any _ _ _ _).mono ?_; rintro e w' ⟨rfl, rfl⟩
          go_wp2
          go_roundw
          case rel => exact ⟨k + 1, by omega, by go_num, hbw.alloc hbw.size _, HC.out⟩
          case measure => simp [intOf]; omega
    · have hkl : k = len := by omega
      have HC := Lib.hid (show allB zs len = true by rw [← hkl]; exact HA.out)
      clear hkl
      go_wp2
      go_ret
      rw [HC.out]
      exact ⟨rfl, hbw⟩

set_option maxHeartbeats 1600000 in
theorem refturns_any (lo hi : Int) (w : World) :
    Calls Try.prog 54 #[.agg #[.int .i64 lo, .int .i64 hi]] w fun e w' => e = .returned (.bool (turnB lo hi)) ∧ Below w.heap.size w w' := by
  rcases (Bool.eq_false_or_eq_true (inB lo (-32768) 32767)).symm with hc | hc
  · rw [turnB_no0 hc]
    go_enter Try.func54, Try.ntmps54
    go_wp2_with fail
    refine (refIn_any _ _ _ _).mono ?_; rintro e w' ⟨rfl, rfl⟩
    go_wp2
    go_ret
    exact ⟨rfl, below_alloc _ _⟩
  · rw [turnB_1 hc]
    obtain ⟨i1, i2⟩ := inB_true.1 hc
    have j1 : IntKind.i64.wrap (lo + 65536) = lo + 65536 := IntWalk.i64_in _ (by omega)
    have j2 : IntKind.i64.wrap (lo + 65536 - 1) = lo + 65536 - 1 := IntWalk.i64_in _ (by omega)
    go_enter Try.func54, Try.ntmps54
    go_wp2_with fail
    refine (refIn_any _ _ _ _).mono ?_; rintro e w' ⟨rfl, rfl⟩
    go_wp2_with fail
    refine (refIn_any _ _ _ _).mono ?_; rintro e w' ⟨rfl, rfl⟩
    go_wp2
    go_ret
    exact ⟨rfl, below_alloc _ _⟩

end Go.Proofs.Ytmojnopgpgnfeaa
