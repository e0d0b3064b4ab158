/-
  What all of a span is worth.
-/
import Derived.Test.YtdmbkhmhaininaaF
import Derived.Deep.Cut
namespace Go.Proofs.Ytdmbkhmhaininaa
open Go.RowKit
set_option linter.unusedVariables false
set_option linter.unusedSimpArgs false

theorem all_boxes (w : World) (tl th : Int) : ∃ A, A = (w.alloc (.cells #[.int .i64 tl, .int .i64 th] 24)).alloc (.cells #[.int .i64 0, .int .i64 0] 24) ∧ Below w.heap.size w A ∧ A.heap.size = w.heap.size + 2 ∧ A.cell? ⟨w.heap.size, 0, none⟩ = some (.int .i64 tl) ∧ A.cell? ⟨w.heap.size, 1, none⟩ = some (.int .i64 th) ∧ A.cell? ⟨w.heap.size + 1, 0, none⟩ = some (.int .i64 0) ∧ A.cell? ⟨w.heap.size + 1, 1, none⟩ = some (.int .i64 0) ∧ A.frozen? ⟨w.heap.size + 1, 0, none⟩ = false ∧ A.frozen? ⟨w.heap.size + 1, 1, none⟩ = false := by
  obtain ⟨A0, e0⟩ : ∃ A, A = w.alloc (.cells #[.int .i64 tl, .int .i64 th] 24) := ⟨_, rfl⟩
  have s0 : A0.heap.size = w.heap.size + 1 := by rw [e0, World.size_alloc]
  have b0 : Below w.heap.size w A0 := by rw [e0]; exact below_alloc _ _
  have c0_0_0 : A0.cell? ⟨w.heap.size, 0, none⟩ = some (.int .i64 tl) := by rw [e0]; exact alloc_new rfl rfl
  have c0_1_0 : A0.cell? ⟨w.heap.size, 1, none⟩ = some (.int .i64 th) := by rw [e0]; exact alloc_new rfl rfl
  rw [← e0]
  exact ⟨_, rfl, b0.trans ((below_alloc _ _).mono (by omega)), by rw [World.size_alloc]; omega, alloc_keep (by omega) c0_0_0, alloc_keep (by omega) c0_1_0, alloc_new s0.symm rfl, alloc_new s0.symm rfl, alloc_newF s0.symm, alloc_newF s0.symm⟩

set_option maxRecDepth 100000 in
set_option maxHeartbeats 3200000 in
theorem ofAll_any (c b off n cap : Nat) (zs : Nat → Int × Int) (tl th : Int) (w : World) (hT : TabOk n zs 32768) (t1 : 0 ≤ tl) (t2 : tl ≤ th) (t3 : th ≤ 1073741824) (hB : BoxAt w c b off n cap zs) :
    Calls Try.prog 97 #[.func (Fn.func 93) #[] #[.pointer (some ⟨c, 0, none⟩)], .agg #[.int .i64 tl, .int .i64 th]] w fun e w' => e = .returned (.agg #[.int .i64 (valLo n zs tl), .int .i64 (valHi n zs th)]) ∧ Below w.heap.size w w' := by
  have HV1 := Lib.hid (fun W (hW : Below w.heap.size w W) => worth_any c b off n cap zs 32768 tl W hT (by decide) t1 (by omega) (hB.keep hW))
  have HV2 := Lib.hid (fun W (hW : Below w.heap.size w W) => worth_any c b off n cap zs 32768 th W hT (by decide) (by omega) t3 (hB.keep hW))
  generalize valLo n zs th = q1 at *
  generalize valHi n zs th = vh at *
  generalize valLo n zs tl = vl at *
  generalize valHi n zs tl = q2 at *
  clear hT hB
  have F0 := fld0 vl q2
  have F1 := fld1 q1 vh
  obtain ⟨Y, hY, bY, zY, c0, c1, c2, c3, f2, f3⟩ := all_boxes w tl th
  have HS := Lib.hid (show (fun w' : World => w'.cell? ⟨w.heap.size, 0, none⟩ = some (.int .i64 tl) ∧ w'.cell? ⟨w.heap.size, 1, none⟩ = some (.int .i64 th) ∧ w'.cell? ⟨w.heap.size + 1, 0, none⟩ = some (.int .i64 0) ∧ w'.cell? ⟨w.heap.size + 1, 1, none⟩ = some (.int .i64 0) ∧ Below Y.drew.heap.size Y.drew w') Y.drew from ⟨c0, c1, c2, c3, Below.refl _ _⟩)
  clear c0 c1 c2 c3
  go_enter Try.func97, Try.ntmps97
  go_wp2_with fail
  rw [← hY]
  clear hY
  refine wp_region_held_tail (S := (fun w' : World => w'.cell? ⟨w.heap.size, 0, none⟩ = some (.int .i64 tl) ∧ w'.cell? ⟨w.heap.size, 1, none⟩ = some (.int .i64 th) ∧ w'.cell? ⟨w.heap.size + 1, 0, none⟩ = some (.int .i64 0) ∧ w'.cell? ⟨w.heap.size + 1, 1, none⟩ = some (.int .i64 0) ∧ Below Y.drew.heap.size Y.drew w')) 11 (by kernel_rfl) (by kernel_rfl) HS.out (fun hHeld => ?_)
  refine wpAnyH_take (i := 0) (v := ?v0_1) rfl (by kernel_rfl) (by kernel_rfl) (by kernel_rfl) (fun _ _ _ h => h) (Or.inl ⟨by rfl, ?hy0_1⟩) (by assumption) ?rest0_1
  case hy0_1 => (intro w hSw; (try dsimp only at hSw); go_simp; (try with_reducible rfl))
  try simp only [Act.put, List.getElem_toArray, List.getElem_cons_zero, List.getElem_cons_succ, List.setIfInBounds_toArray, List.set_cons_zero, List.set_cons_succ]
  refine wpAnyH_take (i := 1) (v := ?v1_2) rfl (by kernel_rfl) (by kernel_rfl) (by kernel_rfl) (fun _ _ _ h => h) (Or.inl ⟨by rfl, ?hy1_2⟩) (by assumption) ?rest1_2
  case hy1_2 => (intro w hSw; (try dsimp only at hSw); go_simp; (try with_reducible rfl))
  try simp only [Act.put, List.getElem_toArray, List.getElem_cons_zero, List.getElem_cons_succ, List.setIfInBounds_toArray, List.set_cons_zero, List.set_cons_succ]
  refine wpAnyH_take (i := 2) (v := ?v2_3) rfl (by kernel_rfl) (by kernel_rfl) (by kernel_rfl) (fun _ _ _ h => h) (Or.inl ⟨by rfl, ?hy2_3⟩) (by assumption) ?rest2_3
  case hy2_3 => (intro w hSw; (try dsimp only at hSw); go_simp; (try with_reducible rfl))
  try simp only [Act.put, List.getElem_toArray, List.getElem_cons_zero, List.getElem_cons_succ, List.setIfInBounds_toArray, List.set_cons_zero, List.set_cons_succ]
  refine wpAnyH_take (i := 5) (v := ?v5_4) rfl (by kernel_rfl) (by kernel_rfl) (by kernel_rfl) (fun _ _ _ h => h) (Or.inl ⟨by rfl, ?hy5_4⟩) (by assumption) ?rest5_4
  case hy5_4 => (intro w hSw; (try dsimp only at hSw); go_simp; (try with_reducible rfl))
  try simp only [Act.put, List.getElem_toArray, List.getElem_cons_zero, List.getElem_cons_succ, List.setIfInBounds_toArray, List.set_cons_zero, List.set_cons_succ]
  refine wpAnyH_take (i := 6) (v := ?v6_5) rfl (by kernel_rfl) (by kernel_rfl) (by kernel_rfl) (fun _ _ _ h => h) (Or.inl ⟨by rfl, ?hy6_5⟩) (by assumption) ?rest6_5
  case hy6_5 => (intro w hSw; (try dsimp only at hSw); go_simp; (try with_reducible rfl))
  try simp only [Act.put, List.getElem_toArray, List.getElem_cons_zero, List.getElem_cons_succ, List.setIfInBounds_toArray, List.set_cons_zero, List.set_cons_succ]
  refine wpAnyH_take (i := 7) (v := ?v7_6) rfl (by kernel_rfl) (by kernel_rfl) (by kernel_rfl) (fun _ _ _ h => h) (Or.inl ⟨by rfl, ?hy7_6⟩) (by assumption) ?rest7_6
  case hy7_6 => (intro w hSw; (try dsimp only at hSw); go_simp; (try with_reducible rfl))
  try simp only [Act.put, List.getElem_toArray, List.getElem_cons_zero, List.getElem_cons_succ, List.setIfInBounds_toArray, List.set_cons_zero, List.set_cons_succ]
  refine wpAnyH_ready (rs := [3]) (by kernel_rfl) (by simp) ?_
  refine AllReadyH.cons rfl (fun K hK => ?_) AllReadyH.nil
  go_simp; go_at_call 93; refine (HV1.out _ (bY.drew.trans (hHeld.2.2.2.2.mono bY.drew.size))).mono ?_; rintro e' w' ⟨rfl, hb'⟩
  refine hK.out _ _ (⟨keepW hb' hHeld.1, keepW hb' hHeld.2.1, keepW hb' hHeld.2.2.1, keepW hb' hHeld.2.2.2.1, hHeld.2.2.2.2.trans (hb'.mono hHeld.2.2.2.2.size)⟩) (fun hHeld2 => ?_)
  clear hK K hHeld hb'
  have hHeld := hHeld2
  clear hHeld2
  try simp only [Act.put, List.getElem_toArray, List.getElem_cons_zero, List.getElem_cons_succ, List.setIfInBounds_toArray, List.set_cons_zero, List.set_cons_succ]
  refine wpAnyH_take (i := 4) (v := ?v4_7) rfl (by kernel_rfl) (by kernel_rfl) (by kernel_rfl) (fun _ _ _ h => h) (Or.inl ⟨by rfl, ?hy4_7⟩) (by assumption) ?rest4_7
  case hy4_7 => (intro w hSw; (try dsimp only at hSw); go_simp; (try with_reducible rfl))
  try simp only [Act.put, List.getElem_toArray, List.getElem_cons_zero, List.getElem_cons_succ, List.setIfInBounds_toArray, List.set_cons_zero, List.set_cons_succ]
  refine wpAnyH_ready (rs := [8]) (by kernel_rfl) (by simp) ?_
  refine AllReadyH.cons rfl (fun K hK => ?_) AllReadyH.nil
  go_simp; go_at_call 93; refine (HV2.out _ (bY.drew.trans (hHeld.2.2.2.2.mono bY.drew.size))).mono ?_; rintro e' w' ⟨rfl, hb'⟩
  refine hK.out _ _ (⟨keepW hb' hHeld.1, keepW hb' hHeld.2.1, keepW hb' hHeld.2.2.1, keepW hb' hHeld.2.2.2.1, hHeld.2.2.2.2.trans (hb'.mono hHeld.2.2.2.2.size)⟩) (fun hHeld2 => ?_)
  clear hK K hHeld hb'
  have hHeld := hHeld2
  clear hHeld2
  try simp only [Act.put, List.getElem_toArray, List.getElem_cons_zero, List.getElem_cons_succ, List.setIfInBounds_toArray, List.set_cons_zero, List.set_cons_succ]
  refine wpAnyH_take (i := 9) (v := ?v9_8) rfl (by kernel_rfl) (by kernel_rfl) (by kernel_rfl) (fun _ _ _ h => h) (Or.inl ⟨by rfl, ?hy9_8⟩) (by assumption) ?rest9_8
  case hy9_8 => (intro w hSw; (try dsimp only at hSw); go_simp; (try with_reducible rfl))
  try simp only [Act.put, List.getElem_toArray, List.getElem_cons_zero, List.getElem_cons_succ, List.setIfInBounds_toArray, List.set_cons_zero, List.set_cons_succ]
  refine wpAnyH_take (i := 10) (v := ?v10_9) rfl (by kernel_rfl) (by kernel_rfl) (by kernel_rfl) (fun _ _ _ h => h) (Or.inl ⟨by rfl, ?hy10_9⟩) (by assumption) ?rest10_9
  case hy10_9 => (intro w hSw; (try dsimp only at hSw); go_simp; (try with_reducible rfl))
  try simp only [Act.put, List.getElem_toArray, List.getElem_cons_zero, List.getElem_cons_succ, List.setIfInBounds_toArray, List.set_cons_zero, List.set_cons_succ]
  refine wpAnyH_done (by kernel_rfl) ?_ _
  change wpList _ _ _ _ _ _
  simp only [List.drop_succ_cons, List.drop_zero]
  obtain ⟨g0, g1, g2, g3, gb⟩ := hHeld
  rename World => X
  have x2 : X.frozen? ⟨w.heap.size + 1, 0, none⟩ = false := by rw [gb.frozen (p := ⟨w.heap.size + 1, 0, none⟩) (show w.heap.size + 1 < Y.drew.heap.size by have : Y.drew.heap.size = Y.heap.size := rfl; omega)]; exact f2
  have x3 : X.frozen? ⟨w.heap.size + 1, 1, none⟩ = false := by rw [gb.frozen (p := ⟨w.heap.size + 1, 1, none⟩) (show w.heap.size + 1 < Y.drew.heap.size by have : Y.drew.heap.size = Y.heap.size := rfl; omega)]; exact f3
  have bV : Below w.heap.size w X := bY.drew.trans (gb.mono bY.drew.size)
  clear gb bY f2 f3 HS HV1 HV2 F0 F1
  go_wp2
  exact bodyPost_ret (v := .agg #[.int .i64 vl, .int .i64 vh]) (by simp [results, Try.results97, go_sem, set_same (i := 0) (v := .int .i64 vl) g2, set_other (i := 1) (j := 0) (v := .int .i64 vh) (by decide) (set_same (i := 0) (v := .int .i64 vl) g2), set_same (i := 1) (v := .int .i64 vh) (set_other (i := 0) (j := 1) (v := .int .i64 vl) (by decide) g3)]) rfl ⟨rfl, ((bV.setCell (p := ⟨w.heap.size + 1, 0, none⟩) (by dsimp only; omega) _).setCell (p := ⟨w.heap.size + 1, 1, none⟩) (by dsimp only; omega) _)⟩

end Go.Proofs.Ytdmbkhmhaininaa
