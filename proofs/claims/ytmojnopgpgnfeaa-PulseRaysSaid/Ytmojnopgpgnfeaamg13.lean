/-
  Ratio and match of both channels.
-/
import Derived.Test.Ytmojnopgpgnfeaamg3
namespace Go.Proofs.Ytmojnopgpgnfeaa
open Go.RowKit
set_option linter.unusedVariables false
set_option linter.unusedSimpArgs false

theorem floor_big {a b : Int} (hb : 1 ≤ b) (ha1 : -9200000000000000000 ≤ a) (ha2 : a ≤ 9200000000000000000) : -9200000000000000000 ≤ a / b ∧ a / b ≤ 9200000000000000000 := by
  have h1 : a / b < 9200000000000000000 + 1 := Int.ediv_lt_of_lt_mul (by omega) (by
    have := Int.mul_le_mul_of_nonneg_left hb (show (0:Int) ≤ 9200000000000000000 + 1 by decide)
    omega)
  have h2 : -9200000000000000000 ≤ a / b := Int.le_ediv_of_mul_le (by omega) (by
    have := Int.mul_le_mul_of_nonneg_left hb (show (0:Int) ≤ 9200000000000000000 by decide)
    omega)
  omega

set_option maxHeartbeats 400000 in
theorem down_big (a b : Int) (w : World) (hb : 1 ≤ b) (ha1 : -9200000000000000000 ≤ a) (ha2 : a ≤ 9200000000000000000) :
    Calls Try.prog 71 #[.int .i64 a, .int .i64 b] w fun e w' => e = .returned (.int .i64 (a / b)) ∧ w = w' := by
  by_cases ha : 0 ≤ a
  · obtain ⟨h1, h2, h3⟩ := floor_pos hb ha
    go_enter Try.func71, Try.ntmps71
    go_wp2
    go_ret
    exact ⟨rfl, rfl⟩
  · obtain ⟨h1, h2⟩ := tdiv_neg_bd (a := a) hb (by omega)
    by_cases h : a.tmod b < 0
    · rw [← (floor_neg hb (by omega)).1 h]
      go_enter Try.func71, Try.ntmps71
      go_wp2
      go_ret
      exact ⟨rfl, rfl⟩
    · rw [← (floor_neg hb (by omega)).2 h]
      go_enter Try.func71, Try.ntmps71
      go_wp2
      go_ret
      exact ⟨rfl, rfl⟩

set_option maxHeartbeats 400000 in
theorem Down_big (a b : Int) (w : World) (hb : 1 ≤ b) (ha1 : -9200000000000000000 ≤ a) (ha2 : a ≤ 9200000000000000000) :
    Calls Try.prog 74 #[.int .i64 a, .int .i64 b] w fun e w' => e = .returned (.int .i64 (a / b)) ∧ w = w' := by
  by_cases ha : 0 ≤ a
  · obtain ⟨h1, h2, h3⟩ := floor_pos hb ha
    go_enter Try.func74, Try.ntmps74
    go_wp2
    go_ret
    exact ⟨rfl, rfl⟩
  · obtain ⟨h1, h2⟩ := tdiv_neg_bd (a := a) hb (by omega)
    by_cases h : a.tmod b < 0
    · rw [← (floor_neg hb (by omega)).1 h]
      go_enter Try.func74, Try.ntmps74
      go_wp2
      go_ret
      exact ⟨rfl, rfl⟩
    · rw [← (floor_neg hb (by omega)).2 h]
      go_enter Try.func74, Try.ntmps74
      go_wp2
      go_ret
      exact ⟨rfl, rfl⟩

set_option maxHeartbeats 400000 in
theorem up_big (a b : Int) (w : World) (hb : 1 ≤ b) (ha1 : -9200000000000000000 ≤ a) (ha2 : a ≤ 9200000000000000000) :
    Calls Try.prog 72 #[.int .i64 a, .int .i64 b] w fun e w' => e = .returned (.int .i64 (-((-a) / b))) ∧ w = w' := by
  obtain ⟨h1, h2⟩ := floor_big (a := -a) hb (by omega) (by omega)
  go_enter Try.func72, Try.ntmps72
  go_wp2_with (go_at_call 71; refine (down_big _ _ _ hb (by omega) (by omega)).mono ?_; rintro e w' ⟨rfl, rfl⟩)
  go_ret
  exact ⟨rfl, rfl⟩

set_option maxHeartbeats 400000 in
theorem Up_big (a b : Int) (w : World) (hb : 1 ≤ b) (ha1 : -9200000000000000000 ≤ a) (ha2 : a ≤ 9200000000000000000) :
    Calls Try.prog 66 #[.int .i64 a, .int .i64 b] w fun e w' => e = .returned (.int .i64 (-((-a) / b))) ∧ w = w' := by
  obtain ⟨h1, h2⟩ := floor_big (a := -a) hb (by omega) (by omega)
  go_enter Try.func66, Try.ntmps66
  go_wp2_with (go_at_call 74; refine (Down_big _ _ _ hb (by omega) (by omega)).mono ?_; rintro e w' ⟨rfl, rfl⟩)
  go_ret
  exact ⟨rfl, rfl⟩


/-- at most -/
def mn (m x : Int) : Int := if x < m then x else m
/-- the ratio's ends, off the least and the greatest powers -/
def ratLo (b c : Int) : Int := mn 1000000 (1000 * b / c)
def ratHi (d a : Int) : Int := mn 1000000 (-(-(1000 * d) / a))
theorem sq18 {p : Int} (h : 0 ≤ p ∧ p ≤ 80000000) : 0 ≤ 1000 * p ∧ 1000 * p ≤ 80000000000 ∧ 0 ≤ 1000 * p * p ∧ 1000 * p * p ≤ 6400000000000000000 := by
  have := sq_bd h h
  rw [Int.mul_assoc]
  omega

set_option maxRecDepth 100000 in
set_option maxHeartbeats 3200000 in
theorem ratio_any (a b c d : Int) (w : World) (ha : 1 ≤ a ∧ a ≤ 1000000000) (hb : 0 ≤ b ∧ b ≤ 1000000000) (hc : 1 ≤ c ∧ c ≤ 1000000000) (hd : 0 ≤ d ∧ d ≤ 1000000000) :
    Calls Try.prog 90 #[.agg #[.int .i64 a, .int .i64 b], .agg #[.int .i64 c, .int .i64 d]] w fun e w' => e = .returned (.agg #[.int .i64 (ratLo b c), .int .i64 (ratHi d a)]) ∧ Below w.heap.size w w' := by
  have i1 : IntKind.i64.wrap (1000 * b) = 1000 * b := IntWalk.i64_in _ (by omega)
  have i2 : IntKind.i64.wrap (1000 * d) = 1000 * d := IntWalk.i64_in _ (by omega)
  unfold ratLo ratHi mn
  obtain ⟨m1, hm1⟩ : ∃ m, (if 1000 * b / c < 1000000 then 1000 * b / c else 1000000) = m := ⟨_, rfl⟩
  obtain ⟨m2, hm2⟩ : ∃ m, (if -(-(1000 * d) / a) < 1000000 then -(-(1000 * d) / a) else 1000000) = m := ⟨_, rfl⟩
  rw [hm1, hm2]
  go_enter Try.func90, Try.ntmps90
  go_wp2
  obtain ⟨W, hW⟩ : ∃ W, W = ((w.alloc (.cells #[.int .i64 a, .int .i64 b] 129)).alloc (.cells #[.int .i64 c, .int .i64 d] 129)).alloc (.cells #[.int .i64 0, .int .i64 0] 25) := ⟨_, rfl⟩
  rw [← hW]
  obtain ⟨A1, e1⟩ : ∃ A, A = w.alloc (.cells #[.int .i64 a, .int .i64 b] 129) := ⟨_, rfl⟩
  obtain ⟨A2, e2⟩ : ∃ A, A = A1.alloc (.cells #[.int .i64 c, .int .i64 d] 129) := ⟨_, rfl⟩
  have s1 : A1.heap.size = w.heap.size + 1 := by rw [e1]; exact World.size_alloc _ _
  have s2 : A2.heap.size = w.heap.size + 1 + 1 := by rw [e2, World.size_alloc, s1]
  rw [← e1, ← e2] at hW
  have b1 : Below w.heap.size w A1 := by rw [e1]; exact below_alloc _ _
  have b2 : Below A1.heap.size A1 A2 := by rw [e2]; exact below_alloc _ _
  have b3 : Below A2.heap.size A2 W := by rw [hW]; exact below_alloc _ _
  have b13 : Below A1.heap.size A1 W := b2.trans (b3.mono (by omega))
  have t0 : W.cell? ⟨w.heap.size, 0, none⟩ = some (.int .i64 a) := keepB b13 (by omega) (by rw [e1]; exact alloc_new rfl rfl)
  have t1 : W.cell? ⟨w.heap.size, 1, none⟩ = some (.int .i64 b) := keepB b13 (by omega) (by rw [e1]; exact alloc_new rfl rfl)
  have t2 : W.cell? ⟨w.heap.size + 1, 0, none⟩ = some (.int .i64 c) := keepB b3 (by omega) (by rw [e2, ← s1]; exact alloc_new rfl rfl)
  have t3 : W.cell? ⟨w.heap.size + 1, 1, none⟩ = some (.int .i64 d) := keepB b3 (by omega) (by rw [e2, ← s1]; exact alloc_new rfl rfl)
  have hbw : Below w.heap.size w W := b1.trans (b13.mono (by omega))
  obtain ⟨r0, r1, g0, g1⟩ : OpenAt W (w.heap.size + 1 + 1) := by rw [hW, ← s2]; exact OpenAt.new _ _ _ _
  clear hW s1 s2 b1 b2 b3 b13 e1 e2
  have HS := Lib.hid (show (fun w' : World => w'.cell? ⟨w.heap.size, 0, none⟩ = some (.int .i64 a) ∧ w'.cell? ⟨w.heap.size, 1, none⟩ = some (.int .i64 b) ∧ w'.cell? ⟨w.heap.size + 1, 0, none⟩ = some (.int .i64 c) ∧ w'.cell? ⟨w.heap.size + 1, 1, none⟩ = some (.int .i64 d) ∧ w' = W.drew) W.drew from ⟨t0, t1, t2, t3, rfl⟩)
  refine wp_region_held_tail (S := (fun w' : World => w'.cell? ⟨w.heap.size, 0, none⟩ = some (.int .i64 a) ∧ w'.cell? ⟨w.heap.size, 1, none⟩ = some (.int .i64 b) ∧ w'.cell? ⟨w.heap.size + 1, 0, none⟩ = some (.int .i64 c) ∧ w'.cell? ⟨w.heap.size + 1, 1, none⟩ = some (.int .i64 d) ∧ w' = W.drew)) 15 (by kernel_rfl) (by kernel_rfl) HS.out (fun hHeld => ?_)
  refine wpAnyH_take (i := 0) (v := ?v0) rfl (by kernel_rfl) (by kernel_rfl) (by kernel_rfl) (fun _ _ _ h => h) (Or.inl ⟨by rfl, ?hy0⟩) (by assumption) ?rest0
  case hy0 => (intro w hSw; (try dsimp only at hSw); go_simp; (try with_reducible rfl))
  try simp only [Act.put, List.setIfInBounds_toArray, List.set_cons_zero, List.set_cons_succ]
  refine wpAnyH_take (i := 1) (v := ?v1) rfl (by kernel_rfl) (by kernel_rfl) (by kernel_rfl) (fun _ _ _ h => h) (Or.inl ⟨by rfl, ?hy1⟩) (by assumption) ?rest1
  case hy1 => (intro w hSw; (try dsimp only at hSw); go_simp; (try with_reducible rfl))
  try simp only [Act.put, List.setIfInBounds_toArray, List.set_cons_zero, List.set_cons_succ]
  refine wpAnyH_take (i := 2) (v := ?v2) rfl (by kernel_rfl) (by kernel_rfl) (by kernel_rfl) (fun _ _ _ h => h) (Or.inl ⟨by rfl, ?hy2⟩) (by assumption) ?rest2
  case hy2 => (intro w hSw; (try dsimp only at hSw); go_simp; (try with_reducible rfl))
  try simp only [Act.put, List.setIfInBounds_toArray, List.set_cons_zero, List.set_cons_succ]
  refine wpAnyH_take (i := 3) (v := ?v3) rfl (by kernel_rfl) (by kernel_rfl) (by kernel_rfl) (fun _ _ _ h => h) (Or.inl ⟨by rfl, ?hy3⟩) (by assumption) ?rest3
  case hy3 => (intro w hSw; (try dsimp only at hSw); go_simp; (try with_reducible rfl))
  try simp only [Act.put, List.setIfInBounds_toArray, List.set_cons_zero, List.set_cons_succ]
  refine wpAnyH_take (i := 4) (v := ?v4) rfl (by kernel_rfl) (by kernel_rfl) (by kernel_rfl) (fun _ _ _ h => h) (Or.inl ⟨by rfl, ?hy4⟩) (by assumption) ?rest4
  case hy4 => (intro w hSw; (try dsimp only at hSw); go_simp; (try with_reducible rfl))
  try simp only [Act.put, List.setIfInBounds_toArray, List.set_cons_zero, List.set_cons_succ]
  refine wpAnyH_take (i := 7) (v := ?v7) rfl (by kernel_rfl) (by kernel_rfl) (by kernel_rfl) (fun _ _ _ h => h) (Or.inl ⟨by rfl, ?hy7⟩) (by assumption) ?rest7
  case hy7 => (intro w hSw; (try dsimp only at hSw); go_simp; (try with_reducible rfl))
  try simp only [Act.put, List.setIfInBounds_toArray, List.set_cons_zero, List.set_cons_succ]
  refine wpAnyH_take (i := 8) (v := ?v8) rfl (by kernel_rfl) (by kernel_rfl) (by kernel_rfl) (fun _ _ _ h => h) (Or.inl ⟨by rfl, ?hy8⟩) (by assumption) ?rest8
  case hy8 => (intro w hSw; (try dsimp only at hSw); go_simp; (try with_reducible rfl))
  try simp only [Act.put, List.setIfInBounds_toArray, List.set_cons_zero, List.set_cons_succ]
  refine wpAnyH_take (i := 9) (v := ?v9) rfl (by kernel_rfl) (by kernel_rfl) (by kernel_rfl) (fun _ _ _ h => h) (Or.inl ⟨by rfl, ?hy9⟩) (by assumption) ?rest9
  case hy9 => (intro w hSw; (try dsimp only at hSw); go_simp; (try with_reducible rfl))
  try simp only [Act.put, List.setIfInBounds_toArray, List.set_cons_zero, List.set_cons_succ]
  refine wpAnyH_take (i := 10) (v := ?v10) rfl (by kernel_rfl) (by kernel_rfl) (by kernel_rfl) (fun _ _ _ h => h) (Or.inl ⟨by rfl, ?hy10⟩) (by assumption) ?rest10
  case hy10 => (intro w hSw; (try dsimp only at hSw); go_simp; (try with_reducible rfl))
  try simp only [Act.put, List.setIfInBounds_toArray, List.set_cons_zero, List.set_cons_succ]
  refine wpAnyH_take (i := 11) (v := ?v11) rfl (by kernel_rfl) (by kernel_rfl) (by kernel_rfl) (fun _ _ _ h => h) (Or.inl ⟨by rfl, ?hy11⟩) (by assumption) ?rest11
  case hy11 => (intro w hSw; (try dsimp only at hSw); go_simp; (try with_reducible rfl))
  try simp only [Act.put, List.setIfInBounds_toArray, List.set_cons_zero, List.set_cons_succ]
  refine wpAnyH_ready (rs := [5]) (by kernel_rfl) (by simp) ?_
  refine AllReadyH.cons rfl (fun K hK => ?_) AllReadyH.nil
  go_simp; go_at_call 71; refine (down_any _ _ _ (by omega) (by omega) (by omega)).mono ?_; rintro e w' ⟨rfl, rfl⟩
  refine hK.out _ _ hHeld (fun hHeld => ?_)
  clear hK K
  try simp only [Act.put, List.setIfInBounds_toArray, List.set_cons_zero, List.set_cons_succ]
  refine wpAnyH_take (i := 6) (v := ?v6) rfl (by kernel_rfl) (by kernel_rfl) (by kernel_rfl) (fun _ _ _ h => h) (Or.inl ⟨by rfl, ?hy6⟩) (by assumption) ?rest6
  case hy6 => (intro w hSw; (try dsimp only at hSw); go_simp; (try with_reducible rfl))
  try simp only [Act.put, List.setIfInBounds_toArray, List.set_cons_zero, List.set_cons_succ]
  refine wpAnyH_ready (rs := [12]) (by kernel_rfl) (by simp) ?_
  refine AllReadyH.cons rfl (fun K hK => ?_) AllReadyH.nil
  go_simp; go_at_call 72; refine (up_any _ _ _ (by omega) (by omega) (by omega)).mono ?_; rintro e w' ⟨rfl, rfl⟩
  refine hK.out _ _ hHeld (fun hHeld => ?_)
  clear hK K
  try simp only [Act.put, List.setIfInBounds_toArray, List.set_cons_zero, List.set_cons_succ]
  refine wpAnyH_take (i := 13) (v := ?v13) rfl (by kernel_rfl) (by kernel_rfl) (by kernel_rfl) (fun _ _ _ h => h) (Or.inl ⟨by rfl, ?hy13⟩) (by assumption) ?rest13
  case hy13 => (intro w hSw; (try dsimp only at hSw); go_simp; (try with_reducible rfl))
  try simp only [Act.put, List.setIfInBounds_toArray, List.set_cons_zero, List.set_cons_succ]
  refine wpAnyH_take (i := 14) (v := ?v14) rfl (by kernel_rfl) (by kernel_rfl) (by kernel_rfl) (fun _ _ _ h => h) (Or.inl ⟨by rfl, ?hy14⟩) (by assumption) ?rest14
  case hy14 => (intro w hSw; (try dsimp only at hSw); go_simp; (try with_reducible rfl))
  try simp only [Act.put, List.setIfInBounds_toArray, List.set_cons_zero, List.set_cons_succ]
  refine wpAnyH_done (by kernel_rfl) ?_ _
  change wpList _ _ _ _ _ _
  simp only [List.drop_succ_cons, List.drop_zero]
  have d0 : W.drew.cell? ⟨w.heap.size + 1 + 1, 0, none⟩ = some (cellAt W ⟨w.heap.size + 1 + 1, 0, none⟩) := r0
  have d1 : W.drew.cell? ⟨w.heap.size + 1 + 1, 1, none⟩ = some (cellAt W ⟨w.heap.size + 1 + 1, 1, none⟩) := r1
  have d2 : W.drew.frozen? ⟨w.heap.size + 1 + 1, 0, none⟩ = false := g0
  have d3 : W.drew.frozen? ⟨w.heap.size + 1 + 1, 1, none⟩ = false := g1
  have hbd := hbw.drew
  clear hHeld HS r0 r1 g0 g1 hbw t0 t1 t2 t3
  generalize W.drew = X at d0 d1 d2 d3 hbd ⊢
  have r0 := d0
  have r1 := d1
  go_wp2
  exact bodyPost_ret (v := .agg #[.int .i64 m1, .int .i64 m2]) (by simp [results, Try.results90, go_sem, set_other (i := 1) (j := 0) (b := w.heap.size + 1 + 1) (by decide) (set_same (v := .int .i64 m1) r0), set_same (v := .int .i64 m2) (set_other (i := 0) (j := 1) (b := w.heap.size + 1 + 1) (v := .int .i64 m1) (by decide) r1)]) rfl ⟨rfl, (hbd.setCell (p := ⟨w.heap.size + 1 + 1, 0, none⟩) (by dsimp only; omega) _).setCell (p := ⟨w.heap.size + 1 + 1, 1, none⟩) (by dsimp only; omega) _⟩

end Go.Proofs.Ytmojnopgpgnfeaa

namespace Go.Proofs.Ytmojnopgpgnfeaa
open Go.RowKit
set_option linter.unusedVariables false
set_option linter.unusedSimpArgs false

/-- match's boxes -/
structure MtAt (w W : World) (a b p c d q lo hi : Int) : Prop where
  c0 : W.cell? ⟨w.heap.size, 0, none⟩ = some (.int .i64 a)
  c1 : W.cell? ⟨w.heap.size, 1, none⟩ = some (.int .i64 b)
  c2 : W.cell? ⟨w.heap.size, 2, none⟩ = some (.int .i64 p)
  c3 : W.cell? ⟨w.heap.size + 1, 0, none⟩ = some (.int .i64 c)
  c4 : W.cell? ⟨w.heap.size + 1, 1, none⟩ = some (.int .i64 d)
  c5 : W.cell? ⟨w.heap.size + 1, 2, none⟩ = some (.int .i64 q)
  r0 : W.cell? ⟨w.heap.size + 1 + 1, 0, none⟩ = some (.int .i64 0)
  r1 : W.cell? ⟨w.heap.size + 1 + 1, 1, none⟩ = some (.int .i64 0)
  g0 : W.frozen? ⟨w.heap.size + 1 + 1, 0, none⟩ = false
  g1 : W.frozen? ⟨w.heap.size + 1 + 1, 1, none⟩ = false
  m0 : W.cell? ⟨w.heap.size + 1 + 1 + 1, 0, none⟩ = some (.int .i64 lo)
  m1 : W.cell? ⟨w.heap.size + 1 + 1 + 1, 1, none⟩ = some (.int .i64 hi)
  f0 : W.frozen? ⟨w.heap.size + 1 + 1 + 1, 0, none⟩ = false
  f1 : W.frozen? ⟨w.heap.size + 1 + 1 + 1, 1, none⟩ = false
  z : w.heap.size + 4 ≤ W.heap.size
  b : Below w.heap.size w W
theorem MtAt.keep {B : Nat} {w W w1 : World} {a b p c d q lo hi : Int} (s : MtAt w W a b p c d q lo hi) (hb : Below B W w1) (h : w.heap.size + 4 ≤ B) : MtAt w w1 a b p c d q lo hi :=
  ⟨keepB hb (by omega) s.c0, keepB hb (by omega) s.c1, keepB hb (by omega) s.c2, keepB hb (by omega) s.c3, keepB hb (by omega) s.c4, keepB hb (by omega) s.c5, keepB hb (by omega) s.r0, keepB hb (by omega) s.r1, keepF hb (by omega) s.g0, keepF hb (by omega) s.g1, keepB hb (by omega) s.m0, keepB hb (by omega) s.m1, keepF hb (by omega) s.f0, keepF hb (by omega) s.f1, Nat.le_trans s.z hb.size, s.b.trans (hb.mono (by omega))⟩
theorem MtAt.new (w : World) (a b p c d q : Int) : MtAt w ((((w.alloc (.cells #[.int .i64 a, .int .i64 b, .int .i64 p] 131)).alloc (.cells #[.int .i64 c, .int .i64 d, .int .i64 q] 131)).alloc (.cells #[.int .i64 0, .int .i64 0] 25)).alloc (.cells #[.int .i64 0, .int .i64 1000] 25)) a b p c d q 0 1000 := by
  obtain ⟨A1, e1⟩ : ∃ A, A = w.alloc (.cells #[.int .i64 a, .int .i64 b, .int .i64 p] 131) := ⟨_, rfl⟩
  obtain ⟨A2, e2⟩ : ∃ A, A = A1.alloc (.cells #[.int .i64 c, .int .i64 d, .int .i64 q] 131) := ⟨_, rfl⟩
  obtain ⟨A3, e3⟩ : ∃ A, A = A2.alloc (.cells #[.int .i64 0, .int .i64 0] 25) := ⟨_, rfl⟩
  obtain ⟨A4, e4⟩ : ∃ A, A = A3.alloc (.cells #[.int .i64 0, .int .i64 1000] 25) := ⟨_, rfl⟩
  have s1 : A1.heap.size = w.heap.size + 1 := by rw [e1]; exact World.size_alloc _ _
  have s2 : A2.heap.size = w.heap.size + 1 + 1 := by rw [e2, World.size_alloc, s1]
  have s3 : A3.heap.size = w.heap.size + 1 + 1 + 1 := by rw [e3, World.size_alloc, s2]
  have s4 : A4.heap.size = w.heap.size + 4 := by rw [e4, World.size_alloc, s3]
  rw [← e1, ← e2, ← e3, ← e4]
  have b1 : Below w.heap.size w A1 := by rw [e1]; exact below_alloc _ _
  have b2 : Below A1.heap.size A1 A2 := by rw [e2]; exact below_alloc _ _
  have b3 : Below A2.heap.size A2 A3 := by rw [e3]; exact below_alloc _ _
  have b4 : Below A3.heap.size A3 A4 := by rw [e4]; exact below_alloc _ _
  have c24 : Below A2.heap.size A2 A4 := b3.trans (b4.mono (by omega))
  have c14 : Below A1.heap.size A1 A4 := b2.trans (c24.mono (by omega))
  exact ⟨keepB c14 (by omega) (by rw [e1]; exact alloc_new rfl rfl), keepB c14 (by omega) (by rw [e1]; exact alloc_new rfl rfl), keepB c14 (by omega) (by rw [e1]; exact alloc_new rfl rfl), keepB c24 (by omega) (by rw [e2, ← s1]; exact alloc_new rfl rfl), keepB c24 (by omega) (by rw [e2, ← s1]; exact alloc_new rfl rfl), keepB c24 (by omega) (by rw [e2, ← s1]; exact alloc_new rfl rfl), keepB b4 (by omega) (by rw [e3, ← s2]; exact alloc_new rfl rfl), keepB b4 (by omega) (by rw [e3, ← s2]; exact alloc_new rfl rfl), keepF b4 (by omega) (by rw [e3, ← s2]; exact alloc_newF rfl), keepF b4 (by omega) (by rw [e3, ← s2]; exact alloc_newF rfl), by rw [e4, ← s3]; exact alloc_new rfl rfl, by rw [e4, ← s3]; exact alloc_new rfl rfl, by rw [e4, ← s3]; exact alloc_newF rfl, by rw [e4, ← s3]; exact alloc_newF rfl, by omega, b1.trans (c14.mono (by omega))⟩
theorem MtAt.set0 {w W : World} {a b p c d q lo hi x : Int} (s : MtAt w W a b p c d q lo hi) : MtAt w (W.setCell ⟨w.heap.size + 1 + 1 + 1, 0, none⟩ (.int .i64 x)) a b p c d q x hi :=
  ⟨set_far (by omega) s.c0, set_far (by omega) s.c1, set_far (by omega) s.c2, set_far (by omega) s.c3, set_far (by omega) s.c4, set_far (by omega) s.c5, set_far (by omega) s.r0, set_far (by omega) s.r1, set_frz s.g0, set_frz s.g1, set_same s.m0, set_other (by decide) s.m1, set_frz s.f0, set_frz s.f1, by have := s.z; simpa using this, s.b.setCell (p := ⟨w.heap.size + 1 + 1 + 1, 0, none⟩) (by dsimp only; omega) _⟩
theorem MtAt.set1 {w W : World} {a b p c d q lo hi x : Int} (s : MtAt w W a b p c d q lo hi) : MtAt w (W.setCell ⟨w.heap.size + 1 + 1 + 1, 1, none⟩ (.int .i64 x)) a b p c d q lo x :=
  ⟨set_far (by omega) s.c0, set_far (by omega) s.c1, set_far (by omega) s.c2, set_far (by omega) s.c3, set_far (by omega) s.c4, set_far (by omega) s.c5, set_far (by omega) s.r0, set_far (by omega) s.r1, set_frz s.g0, set_frz s.g1, set_other (by decide) s.m0, set_same s.m1, set_frz s.f0, set_frz s.f1, by have := s.z; simpa using this, s.b.setCell (p := ⟨w.heap.size + 1 + 1 + 1, 1, none⟩) (by dsimp only; omega) _⟩

set_option maxRecDepth 100000 in
set_option maxHeartbeats 3200000 in
theorem match_00 (a b p c d q : Int) (w : World) (ha : 0 ≤ a ∧ a ≤ 80000000) (hb : 0 ≤ b ∧ b ≤ 80000000) (hp : 0 ≤ p ∧ p ≤ 80000000) (hc : 0 ≤ c ∧ c ≤ 80000000) (hd : 0 ≤ d ∧ d ≤ 80000000) (hq : 0 ≤ q ∧ q ≤ 80000000) (h1 : ¬ 0 < c * d) (h2 : ¬ 0 < a * b) :
    Calls Try.prog 91 #[.agg #[.int .i64 a, .int .i64 b, .int .i64 p], .agg #[.int .i64 c, .int .i64 d, .int .i64 q]] w fun e w' => e = .returned (.agg #[.int .i64 0, .int .i64 1000]) ∧ Below w.heap.size w w' := by
  have s1 := sq18 hp
  have s2 := sq18 hq
  have s3 := sq_bd ha hb
  have s4 := sq_bd hc hd
  have i1 : IntKind.i64.wrap (1000 * p) = 1000 * p := IntWalk.i64_in _ (by omega)
  have i2 : IntKind.i64.wrap (1000 * p * p) = 1000 * p * p := IntWalk.i64_in _ (by omega)
  have i3 : IntKind.i64.wrap (1000 * q) = 1000 * q := IntWalk.i64_in _ (by omega)
  have i4 : IntKind.i64.wrap (1000 * q * q) = 1000 * q * q := IntWalk.i64_in _ (by omega)
  obtain ⟨cd, hcd⟩ : ∃ x, c * d = x := ⟨_, rfl⟩
  obtain ⟨ab, hab⟩ : ∃ x, a * b = x := ⟨_, rfl⟩
  rw [hcd] at h1 s4
  rw [hab] at h2 s3
  have HP1 : Hid (∀ w : World, Calls Try.prog 101 #[.agg #[.int .i64 c, .int .i64 d]] w fun e w' => e = .returned (.int .i64 cd) ∧ Below w.heap.size w w') := Lib.hid fun w => by rw [← hcd]; exact product_any c d w (by omega) (by omega)
  have HP2 : Hid (∀ w : World, Calls Try.prog 101 #[.agg #[.int .i64 a, .int .i64 b]] w fun e w' => e = .returned (.int .i64 ab) ∧ Below w.heap.size w w') := Lib.hid fun w => by rw [← hab]; exact product_any a b w (by omega) (by omega)
  clear hcd hab
  go_enter Try.func91, Try.ntmps91
  go_wp2_with fail
  refine (HP1.out _).mono ?_; rintro e X1 ⟨rfl, hb1⟩
  have M1 := (MtAt.new w a b p c d q).keep hb1 (by simp)
  clear hb1
  obtain ⟨c0, c1, c2, c3, c4, c5, r0, r1, g0, g1, m0, m1, f0, f1, hz, hbw⟩ := M1
  have y2 : w.heap.size + 1 + 1 < X1.heap.size := by omega
  have y3 : w.heap.size + 1 + 1 + 1 < X1.heap.size := by omega
  have M2 := Lib.hid (⟨c0, c1, c2, c3, c4, c5, r0, r1, g0, g1, m0, m1, f0, f1, hz, hbw⟩ : MtAt w X1 a b p c d q 0 1000)
  go_wp2_with fail
  refine (HP2.out _).mono ?_; rintro e X2 ⟨rfl, hb2⟩
  have M3 := M2.out.keep hb2 M2.out.z
  clear c0 c1 c2 c3 c4 c5 r0 r1 g0 g1 m0 m1 f0 f1 hz hbw y2 y3 hb2 M2
  obtain ⟨c0, c1, c2, c3, c4, c5, r0, r1, g0, g1, m0, m1, f0, f1, hz, hbw⟩ := M3
  have y2 : w.heap.size + 1 + 1 < X2.heap.size := by omega
  have y3 : w.heap.size + 1 + 1 + 1 < X2.heap.size := by omega
  go_wp2
  exact bodyPost_ret (v := .agg #[.int .i64 0, .int .i64 1000]) (by simp [results, Try.results91, go_sem, set_same (i := 0) (v := .int .i64 0) r0, set_other (i := 1) (j := 0) (v := .int .i64 1000) (by decide) (set_same (i := 0) (v := .int .i64 0) r0), set_same (i := 1) (v := .int .i64 1000) (set_other (i := 0) (j := 1) (v := .int .i64 0) (by decide) r1)]) rfl ⟨rfl, (hbw.setCell (p := ⟨w.heap.size + 1 + 1, 0, none⟩) (by dsimp only; omega) _).setCell (p := ⟨w.heap.size + 1 + 1, 1, none⟩) (by dsimp only; omega) _⟩

set_option maxRecDepth 100000 in
set_option maxHeartbeats 3200000 in
theorem match_01 (a b p c d q : Int) (w : World) (ha : 0 ≤ a ∧ a ≤ 80000000) (hb : 0 ≤ b ∧ b ≤ 80000000) (hp : 0 ≤ p ∧ p ≤ 80000000) (hc : 0 ≤ c ∧ c ≤ 80000000) (hd : 0 ≤ d ∧ d ≤ 80000000) (hq : 0 ≤ q ∧ q ≤ 80000000) (h1 : ¬ 0 < c * d) (h2 : 0 < a * b) :
    Calls Try.prog 91 #[.agg #[.int .i64 a, .int .i64 b, .int .i64 p], .agg #[.int .i64 c, .int .i64 d, .int .i64 q]] w fun e w' => e = .returned (.agg #[.int .i64 0, .int .i64 (mn 1000 (-(-(1000 * q * q) / (a * b))))]) ∧ Below w.heap.size w w' := by
  have s1 := sq18 hp
  have s2 := sq18 hq
  have s3 := sq_bd ha hb
  have s4 := sq_bd hc hd
  have i1 : IntKind.i64.wrap (1000 * p) = 1000 * p := IntWalk.i64_in _ (by omega)
  have i2 : IntKind.i64.wrap (1000 * p * p) = 1000 * p * p := IntWalk.i64_in _ (by omega)
  have i3 : IntKind.i64.wrap (1000 * q) = 1000 * q := IntWalk.i64_in _ (by omega)
  have i4 : IntKind.i64.wrap (1000 * q * q) = 1000 * q * q := IntWalk.i64_in _ (by omega)
  obtain ⟨cd, hcd⟩ : ∃ x, c * d = x := ⟨_, rfl⟩
  obtain ⟨ab, hab⟩ : ∃ x, a * b = x := ⟨_, rfl⟩
  unfold mn
  rw [hab]
  obtain ⟨mm, hm1⟩ : ∃ m, (if -(-(1000 * q * q) / ab) < 1000 then -(-(1000 * q * q) / ab) else 1000) = m := ⟨_, rfl⟩
  rw [hm1]
  rw [hcd] at h1 s4
  rw [hab] at h2 s3
  have HP1 : Hid (∀ w : World, Calls Try.prog 101 #[.agg #[.int .i64 c, .int .i64 d]] w fun e w' => e = .returned (.int .i64 cd) ∧ Below w.heap.size w w') := Lib.hid fun w => by rw [← hcd]; exact product_any c d w (by omega) (by omega)
  have HP2 : Hid (∀ w : World, Calls Try.prog 101 #[.agg #[.int .i64 a, .int .i64 b]] w fun e w' => e = .returned (.int .i64 ab) ∧ Below w.heap.size w w') := Lib.hid fun w => by rw [← hab]; exact product_any a b w (by omega) (by omega)
  clear hcd hab
  go_enter Try.func91, Try.ntmps91
  go_wp2_with fail
  refine (HP1.out _).mono ?_; rintro e X1 ⟨rfl, hb1⟩
  have M1 := (MtAt.new w a b p c d q).keep hb1 (by simp)
  clear hb1
  obtain ⟨c0, c1, c2, c3, c4, c5, r0, r1, g0, g1, m0, m1, f0, f1, hz, hbw⟩ := M1
  have y2 : w.heap.size + 1 + 1 < X1.heap.size := by omega
  have y3 : w.heap.size + 1 + 1 + 1 < X1.heap.size := by omega
  have M2 := Lib.hid (⟨c0, c1, c2, c3, c4, c5, r0, r1, g0, g1, m0, m1, f0, f1, hz, hbw⟩ : MtAt w X1 a b p c d q 0 1000)
  go_wp2_with fail
  refine (HP2.out _).mono ?_; rintro e X2 ⟨rfl, hb2⟩
  have M3 := M2.out.keep hb2 M2.out.z
  clear c0 c1 c2 c3 c4 c5 r0 r1 g0 g1 m0 m1 f0 f1 hz hbw y2 y3 hb2 M2
  obtain ⟨c0, c1, c2, c3, c4, c5, r0, r1, g0, g1, m0, m1, f0, f1, hz, hbw⟩ := M3
  have y2 : w.heap.size + 1 + 1 < X2.heap.size := by omega
  have y3 : w.heap.size + 1 + 1 + 1 < X2.heap.size := by omega
  obtain ⟨X, hX⟩ : ∃ X, X = X2 := ⟨_, rfl⟩
  rw [← hX] at c0 c1 c2 c3 c4 c5 r0 r1 g0 g1 m0 m1 f0 f1 hz hbw y2 y3 ⊢
  clear hX
  go_wp2_with fail
  have M4 := Lib.hid (MtAt.keep (⟨c0, c1, c2, c3, c4, c5, r0, r1, g0, g1, m0, m1, f0, f1, hz, hbw⟩ : MtAt w X a b p c d q 0 1000) ((Below.refl X.heap.size X).drew) hz)
  have HS := Lib.hid (show (fun w' : World => w'.cell? ⟨w.heap.size + 1 + 1 + 1, 1, none⟩ = some (.int .i64 1000) ∧ w'.cell? ⟨w.heap.size + 1, 2, none⟩ = some (.int .i64 q) ∧ w' = X.drew) X.drew from ⟨m1, c5, rfl⟩)
  clear c0 c1 c2 c3 c4 c5 r0 r1 g0 g1 m0 m1 f0 f1 hz hbw y2 y3
  refine wp_region_held_tail (S := (fun w' : World => w'.cell? ⟨w.heap.size + 1 + 1 + 1, 1, none⟩ = some (.int .i64 1000) ∧ w'.cell? ⟨w.heap.size + 1, 2, none⟩ = some (.int .i64 q) ∧ w' = X.drew)) 11 (by kernel_rfl) (by kernel_rfl) HS.out (fun hHeld => ?_)
  refine wpAnyH_take (i := 0) (v := ?v0_1) rfl (by kernel_rfl) (by kernel_rfl) (by kernel_rfl) (fun _ _ _ h => h) (Or.inl ⟨by rfl, ?hy0_1⟩) (by assumption) ?rest0_1
  case hy0_1 => (intro w hSw; (try dsimp only at hSw); go_simp; (try with_reducible rfl))
  try simp only [Act.put, List.setIfInBounds_toArray, List.set_cons_zero, List.set_cons_succ]
  refine wpAnyH_take (i := 1) (v := ?v1_2) rfl (by kernel_rfl) (by kernel_rfl) (by kernel_rfl) (fun _ _ _ h => h) (Or.inl ⟨by rfl, ?hy1_2⟩) (by assumption) ?rest1_2
  case hy1_2 => (intro w hSw; (try dsimp only at hSw); go_simp; (try with_reducible rfl))
  try simp only [Act.put, List.setIfInBounds_toArray, List.set_cons_zero, List.set_cons_succ]
  refine wpAnyH_take (i := 2) (v := ?v2_3) rfl (by kernel_rfl) (by kernel_rfl) (by kernel_rfl) (fun _ _ _ h => h) (Or.inl ⟨by rfl, ?hy2_3⟩) (by assumption) ?rest2_3
  case hy2_3 => (intro w hSw; (try dsimp only at hSw); go_simp; (try with_reducible rfl))
  try simp only [Act.put, List.setIfInBounds_toArray, List.set_cons_zero, List.set_cons_succ]
  refine wpAnyH_take (i := 3) (v := ?v3_4) rfl (by kernel_rfl) (by kernel_rfl) (by kernel_rfl) (fun _ _ _ h => h) (Or.inl ⟨by rfl, ?hy3_4⟩) (by assumption) ?rest3_4
  case hy3_4 => (intro w hSw; (try dsimp only at hSw); go_simp; (try with_reducible rfl))
  try simp only [Act.put, List.setIfInBounds_toArray, List.set_cons_zero, List.set_cons_succ]
  refine wpAnyH_take (i := 4) (v := ?v4_5) rfl (by kernel_rfl) (by kernel_rfl) (by kernel_rfl) (fun _ _ _ h => h) (Or.inl ⟨by rfl, ?hy4_5⟩) (by assumption) ?rest4_5
  case hy4_5 => (intro w hSw; (try dsimp only at hSw); go_simp; (try with_reducible rfl))
  try simp only [Act.put, List.setIfInBounds_toArray, List.set_cons_zero, List.set_cons_succ]
  refine wpAnyH_take (i := 5) (v := ?v5_6) rfl (by kernel_rfl) (by kernel_rfl) (by kernel_rfl) (fun _ _ _ h => h) (Or.inl ⟨by rfl, ?hy5_6⟩) (by assumption) ?rest5_6
  case hy5_6 => (intro w hSw; (try dsimp only at hSw); go_simp; (try with_reducible rfl))
  try simp only [Act.put, List.setIfInBounds_toArray, List.set_cons_zero, List.set_cons_succ]
  refine wpAnyH_take (i := 6) (v := ?v6_7) rfl (by kernel_rfl) (by kernel_rfl) (by kernel_rfl) (fun _ _ _ h => h) (Or.inl ⟨by rfl, ?hy6_7⟩) (by assumption) ?rest6_7
  case hy6_7 => (intro w hSw; (try dsimp only at hSw); go_simp; (try with_reducible rfl))
  try simp only [Act.put, List.setIfInBounds_toArray, List.set_cons_zero, List.set_cons_succ]
  refine wpAnyH_take (i := 7) (v := ?v7_8) rfl (by kernel_rfl) (by kernel_rfl) (by kernel_rfl) (fun _ _ _ h => h) (Or.inl ⟨by rfl, ?hy7_8⟩) (by assumption) ?rest7_8
  case hy7_8 => (intro w hSw; (try dsimp only at hSw); go_simp; (try with_reducible rfl))
  try simp only [Act.put, List.setIfInBounds_toArray, List.set_cons_zero, List.set_cons_succ]
  refine wpAnyH_take (i := 8) (v := ?v8_9) rfl (by kernel_rfl) (by kernel_rfl) (by kernel_rfl) (fun _ _ _ h => h) (Or.inl ⟨by rfl, ?hy8_9⟩) (by assumption) ?rest8_9
  case hy8_9 => (intro w hSw; (try dsimp only at hSw); go_simp; (try with_reducible rfl))
  try simp only [Act.put, List.setIfInBounds_toArray, List.set_cons_zero, List.set_cons_succ]
  refine wpAnyH_ready (rs := [9]) (by kernel_rfl) (by simp) ?_
  refine AllReadyH.cons rfl (fun K hK => ?_) AllReadyH.nil
  go_simp; go_at_call 72; refine (up_big _ _ _ (by omega) (by omega) (by omega)).mono ?_; rintro e w' ⟨rfl, rfl⟩
  refine hK.out _ _ hHeld (fun hHeld => ?_)
  clear hK K
  try simp only [Act.put, List.setIfInBounds_toArray, List.set_cons_zero, List.set_cons_succ]
  refine wpAnyH_take (i := 10) (v := ?v10_10) rfl (by kernel_rfl) (by kernel_rfl) (by kernel_rfl) (fun _ _ _ h => h) (Or.inl ⟨by rfl, ?hy10_10⟩) (by assumption) ?rest10_10
  case hy10_10 => (intro w hSw; (try dsimp only at hSw); go_simp; (try with_reducible rfl))
  try simp only [Act.put, List.setIfInBounds_toArray, List.set_cons_zero, List.set_cons_succ]
  refine wpAnyH_done (by kernel_rfl) ?_ _
  change wpList _ _ _ _ _ _
  simp only [List.drop_succ_cons, List.drop_zero]
  have M5 := M4.out
  clear M4 hHeld HS
  generalize X.drew = Y at M5 ⊢
  have M6 := Lib.hid (MtAt.set1 (x := mm) M5)
  obtain ⟨c0, c1, c2, c3, c4, c5, r0, r1, g0, g1, m0, m1, f0, f1, hz, hbw⟩ := M5
  have y2 : w.heap.size + 1 + 1 < Y.heap.size := by omega
  have y3 : w.heap.size + 1 + 1 + 1 < Y.heap.size := by omega
  have hr0 := set_far (c := w.heap.size + 1 + 1 + 1) (b := w.heap.size + 1 + 1) (j := 1) (u := .int .i64 mm) (by omega) r0
  go_wp2
  have M7 := M6.out
  generalize Y.setCell ⟨w.heap.size + 1 + 1 + 1, 1, none⟩ (.int .i64 mm) = Z at M7 ⊢
  clear c0 c1 c2 c3 c4 c5 r0 r1 g0 g1 m0 m1 f0 f1 hz hbw hr0
  obtain ⟨c0, c1, c2, c3, c4, c5, r0, r1, g0, g1, m0, m1, f0, f1, hz, hbw⟩ := M7
  exact bodyPost_ret (v := .agg #[.int .i64 0, .int .i64 mm]) (by simp [results, Try.results91, go_sem, set_same (i := 0) (v := .int .i64 0) r0, set_other (i := 1) (j := 0) (v := .int .i64 mm) (by decide) (set_same (i := 0) (v := .int .i64 0) r0), set_same (i := 1) (v := .int .i64 mm) (set_other (i := 0) (j := 1) (v := .int .i64 0) (by decide) r1)]) rfl ⟨rfl, (hbw.setCell (p := ⟨w.heap.size + 1 + 1, 0, none⟩) (by dsimp only; omega) _).setCell (p := ⟨w.heap.size + 1 + 1, 1, none⟩) (by dsimp only; omega) _⟩

set_option maxRecDepth 100000 in
set_option maxHeartbeats 3200000 in
theorem match_10 (a b p c d q : Int) (w : World) (ha : 0 ≤ a ∧ a ≤ 80000000) (hb : 0 ≤ b ∧ b ≤ 80000000) (hp : 0 ≤ p ∧ p ≤ 80000000) (hc : 0 ≤ c ∧ c ≤ 80000000) (hd : 0 ≤ d ∧ d ≤ 80000000) (hq : 0 ≤ q ∧ q ≤ 80000000) (h1 : 0 < c * d) (h2 : ¬ 0 < a * b) :
    Calls Try.prog 91 #[.agg #[.int .i64 a, .int .i64 b, .int .i64 p], .agg #[.int .i64 c, .int .i64 d, .int .i64 q]] w fun e w' => e = .returned (.agg #[.int .i64 (1000 * p * p / (c * d)), .int .i64 1000]) ∧ Below w.heap.size w w' := by
  have s1 := sq18 hp
  have s2 := sq18 hq
  have s3 := sq_bd ha hb
  have s4 := sq_bd hc hd
  have i1 : IntKind.i64.wrap (1000 * p) = 1000 * p := IntWalk.i64_in _ (by omega)
  have i2 : IntKind.i64.wrap (1000 * p * p) = 1000 * p * p := IntWalk.i64_in _ (by omega)
  have i3 : IntKind.i64.wrap (1000 * q) = 1000 * q := IntWalk.i64_in _ (by omega)
  have i4 : IntKind.i64.wrap (1000 * q * q) = 1000 * q * q := IntWalk.i64_in _ (by omega)
  obtain ⟨cd, hcd⟩ : ∃ x, c * d = x := ⟨_, rfl⟩
  obtain ⟨ab, hab⟩ : ∃ x, a * b = x := ⟨_, rfl⟩
  rw [hcd]
  rw [hcd] at h1 s4
  rw [hab] at h2 s3
  have HP1 : Hid (∀ w : World, Calls Try.prog 101 #[.agg #[.int .i64 c, .int .i64 d]] w fun e w' => e = .returned (.int .i64 cd) ∧ Below w.heap.size w w') := Lib.hid fun w => by rw [← hcd]; exact product_any c d w (by omega) (by omega)
  have HP2 : Hid (∀ w : World, Calls Try.prog 101 #[.agg #[.int .i64 a, .int .i64 b]] w fun e w' => e = .returned (.int .i64 ab) ∧ Below w.heap.size w w') := Lib.hid fun w => by rw [← hab]; exact product_any a b w (by omega) (by omega)
  clear hcd hab
  go_enter Try.func91, Try.ntmps91
  go_wp2_with fail
  refine (HP1.out _).mono ?_; rintro e X1 ⟨rfl, hb1⟩
  have M1 := (MtAt.new w a b p c d q).keep hb1 (by simp)
  clear hb1
  obtain ⟨c0, c1, c2, c3, c4, c5, r0, r1, g0, g1, m0, m1, f0, f1, hz, hbw⟩ := M1
  have y2 : w.heap.size + 1 + 1 < X1.heap.size := by omega
  have y3 : w.heap.size + 1 + 1 + 1 < X1.heap.size := by omega
  go_wp2_with fail
  refine (down_big _ _ _ (by omega) (by omega) (by omega)).mono ?_; rintro e w' ⟨rfl, rfl⟩
  have M2 := Lib.hid (MtAt.set0 (x := 1000 * p * p / cd) (⟨c0, c1, c2, c3, c4, c5, r0, r1, g0, g1, m0, m1, f0, f1, hz, hbw⟩ : MtAt w X1 a b p c d q 0 1000))
  go_wp2_with fail
  refine (HP2.out _).mono ?_; rintro e X2 ⟨rfl, hb2⟩
  have M3 := M2.out.keep hb2 M2.out.z
  clear c0 c1 c2 c3 c4 c5 r0 r1 g0 g1 m0 m1 f0 f1 hz hbw y2 y3 hb2 M2
  obtain ⟨c0, c1, c2, c3, c4, c5, r0, r1, g0, g1, m0, m1, f0, f1, hz, hbw⟩ := M3
  have y2 : w.heap.size + 1 + 1 < X2.heap.size := by omega
  have y3 : w.heap.size + 1 + 1 + 1 < X2.heap.size := by omega
  go_wp2
  exact bodyPost_ret (v := .agg #[.int .i64 (1000 * p * p / cd), .int .i64 1000]) (by simp [results, Try.results91, go_sem, set_same (i := 0) (v := .int .i64 (1000 * p * p / cd)) r0, set_other (i := 1) (j := 0) (v := .int .i64 1000) (by decide) (set_same (i := 0) (v := .int .i64 (1000 * p * p / cd)) r0), set_same (i := 1) (v := .int .i64 1000) (set_other (i := 0) (j := 1) (v := .int .i64 (1000 * p * p / cd)) (by decide) r1)]) rfl ⟨rfl, (hbw.setCell (p := ⟨w.heap.size + 1 + 1, 0, none⟩) (by dsimp only; omega) _).setCell (p := ⟨w.heap.size + 1 + 1, 1, none⟩) (by dsimp only; omega) _⟩

set_option maxRecDepth 100000 in
set_option maxHeartbeats 3200000 in
theorem match_11 (a b p c d q : Int) (w : World) (ha : 0 ≤ a ∧ a ≤ 80000000) (hb : 0 ≤ b ∧ b ≤ 80000000) (hp : 0 ≤ p ∧ p ≤ 80000000) (hc : 0 ≤ c ∧ c ≤ 80000000) (hd : 0 ≤ d ∧ d ≤ 80000000) (hq : 0 ≤ q ∧ q ≤ 80000000) (h1 : 0 < c * d) (h2 : 0 < a * b) :
    Calls Try.prog 91 #[.agg #[.int .i64 a, .int .i64 b, .int .i64 p], .agg #[.int .i64 c, .int .i64 d, .int .i64 q]] w fun e w' => e = .returned (.agg #[.int .i64 (1000 * p * p / (c * d)), .int .i64 (mn 1000 (-(-(1000 * q * q) / (a * b))))]) ∧ Below w.heap.size w w' := by
  have s1 := sq18 hp
  have s2 := sq18 hq
  have s3 := sq_bd ha hb
  have s4 := sq_bd hc hd
  have i1 : IntKind.i64.wrap (1000 * p) = 1000 * p := IntWalk.i64_in _ (by omega)
  have i2 : IntKind.i64.wrap (1000 * p * p) = 1000 * p * p := IntWalk.i64_in _ (by omega)
  have i3 : IntKind.i64.wrap (1000 * q) = 1000 * q := IntWalk.i64_in _ (by omega)
  have i4 : IntKind.i64.wrap (1000 * q * q) = 1000 * q * q := IntWalk.i64_in _ (by omega)
  obtain ⟨cd, hcd⟩ : ∃ x, c * d = x := ⟨_, rfl⟩
  obtain ⟨ab, hab⟩ : ∃ x, a * b = x := ⟨_, rfl⟩
  unfold mn
  rw [hcd, hab]
  obtain ⟨mm, hm1⟩ : ∃ m, (if -(-(1000 * q * q) / ab) < 1000 then -(-(1000 * q * q) / ab) else 1000) = m := ⟨_, rfl⟩
  rw [hm1]
  rw [hcd] at h1 s4
  rw [hab] at h2 s3
  have HP1 : Hid (∀ w : World, Calls Try.prog 101 #[.agg #[.int .i64 c, .int .i64 d]] w fun e w' => e = .returned (.int .i64 cd) ∧ Below w.heap.size w w') := Lib.hid fun w => by rw [← hcd]; exact product_any c d w (by omega) (by omega)
  have HP2 : Hid (∀ w : World, Calls Try.prog 101 #[.agg #[.int .i64 a, .int .i64 b]] w fun e w' => e = .returned (.int .i64 ab) ∧ Below w.heap.size w w') := Lib.hid fun w => by rw [← hab]; exact product_any a b w (by omega) (by omega)
  clear hcd hab
  go_enter Try.func91, Try.ntmps91
  go_wp2_with fail
  refine (HP1.out _).mono ?_; rintro e X1 ⟨rfl, hb1⟩
  have M1 := (MtAt.new w a b p c d q).keep hb1 (by simp)
  clear hb1
  obtain ⟨c0, c1, c2, c3, c4, c5, r0, r1, g0, g1, m0, m1, f0, f1, hz, hbw⟩ := M1
  have y2 : w.heap.size + 1 + 1 < X1.heap.size := by omega
  have y3 : w.heap.size + 1 + 1 + 1 < X1.heap.size := by omega
  go_wp2_with fail
  refine (down_big _ _ _ (by omega) (by omega) (by omega)).mono ?_; rintro e w' ⟨rfl, rfl⟩
  have M2 := Lib.hid (MtAt.set0 (x := 1000 * p * p / cd) (⟨c0, c1, c2, c3, c4, c5, r0, r1, g0, g1, m0, m1, f0, f1, hz, hbw⟩ : MtAt w X1 a b p c d q 0 1000))
  go_wp2_with fail
  refine (HP2.out _).mono ?_; rintro e X2 ⟨rfl, hb2⟩
  have M3 := M2.out.keep hb2 M2.out.z
  clear c0 c1 c2 c3 c4 c5 r0 r1 g0 g1 m0 m1 f0 f1 hz hbw y2 y3 hb2 M2
  obtain ⟨c0, c1, c2, c3, c4, c5, r0, r1, g0, g1, m0, m1, f0, f1, hz, hbw⟩ := M3
  have y2 : w.heap.size + 1 + 1 < X2.heap.size := by omega
  have y3 : w.heap.size + 1 + 1 + 1 < X2.heap.size := by omega
  obtain ⟨X, hX⟩ : ∃ X, X = X2 := ⟨_, rfl⟩
  rw [← hX] at c0 c1 c2 c3 c4 c5 r0 r1 g0 g1 m0 m1 f0 f1 hz hbw y2 y3 ⊢
  clear hX
  go_wp2_with fail
  have M4 := Lib.hid (MtAt.keep (⟨c0, c1, c2, c3, c4, c5, r0, r1, g0, g1, m0, m1, f0, f1, hz, hbw⟩ : MtAt w X a b p c d q (1000 * p * p / cd) 1000) ((Below.refl X.heap.size X).drew) hz)
  have HS := Lib.hid (show (fun w' : World => w'.cell? ⟨w.heap.size + 1 + 1 + 1, 1, none⟩ = some (.int .i64 1000) ∧ w'.cell? ⟨w.heap.size + 1, 2, none⟩ = some (.int .i64 q) ∧ w' = X.drew) X.drew from ⟨m1, c5, rfl⟩)
  clear c0 c1 c2 c3 c4 c5 r0 r1 g0 g1 m0 m1 f0 f1 hz hbw y2 y3
  refine wp_region_held_tail (S := (fun w' : World => w'.cell? ⟨w.heap.size + 1 + 1 + 1, 1, none⟩ = some (.int .i64 1000) ∧ w'.cell? ⟨w.heap.size + 1, 2, none⟩ = some (.int .i64 q) ∧ w' = X.drew)) 11 (by kernel_rfl) (by kernel_rfl) HS.out (fun hHeld => ?_)
  refine wpAnyH_take (i := 0) (v := ?v0_11) rfl (by kernel_rfl) (by kernel_rfl) (by kernel_rfl) (fun _ _ _ h => h) (Or.inl ⟨by rfl, ?hy0_11⟩) (by assumption) ?rest0_11
  case hy0_11 => (intro w hSw; (try dsimp only at hSw); go_simp; (try with_reducible rfl))
  try simp only [Act.put, List.setIfInBounds_toArray, List.set_cons_zero, List.set_cons_succ]
  refine wpAnyH_take (i := 1) (v := ?v1_12) rfl (by kernel_rfl) (by kernel_rfl) (by kernel_rfl) (fun _ _ _ h => h) (Or.inl ⟨by rfl, ?hy1_12⟩) (by assumption) ?rest1_12
  case hy1_12 => (intro w hSw; (try dsimp only at hSw); go_simp; (try with_reducible rfl))
  try simp only [Act.put, List.setIfInBounds_toArray, List.set_cons_zero, List.set_cons_succ]
  refine wpAnyH_take (i := 2) (v := ?v2_13) rfl (by kernel_rfl) (by kernel_rfl) (by kernel_rfl) (fun _ _ _ h => h) (Or.inl ⟨by rfl, ?hy2_13⟩) (by assumption) ?rest2_13
  case hy2_13 => (intro w hSw; (try dsimp only at hSw); go_simp; (try with_reducible rfl))
  try simp only [Act.put, List.setIfInBounds_toArray, List.set_cons_zero, List.set_cons_succ]
  refine wpAnyH_take (i := 3) (v := ?v3_14) rfl (by kernel_rfl) (by kernel_rfl) (by kernel_rfl) (fun _ _ _ h => h) (Or.inl ⟨by rfl, ?hy3_14⟩) (by assumption) ?rest3_14
  case hy3_14 => (intro w hSw; (try dsimp only at hSw); go_simp; (try with_reducible rfl))
  try simp only [Act.put, List.setIfInBounds_toArray, List.set_cons_zero, List.set_cons_succ]
  refine wpAnyH_take (i := 4) (v := ?v4_15) rfl (by kernel_rfl) (by kernel_rfl) (by kernel_rfl) (fun _ _ _ h => h) (Or.inl ⟨by rfl, ?hy4_15⟩) (by assumption) ?rest4_15
  case hy4_15 => (intro w hSw; (try dsimp only at hSw); go_simp; (try with_reducible rfl))
  try simp only [Act.put, List.setIfInBounds_toArray, List.set_cons_zero, List.set_cons_succ]
  refine wpAnyH_take (i := 5) (v := ?v5_16) rfl (by kernel_rfl) (by kernel_rfl) (by kernel_rfl) (fun _ _ _ h => h) (Or.inl ⟨by rfl, ?hy5_16⟩) (by assumption) ?rest5_16
  case hy5_16 => (intro w hSw; (try dsimp only at hSw); go_simp; (try with_reducible rfl))
  try simp only [Act.put, List.setIfInBounds_toArray, List.set_cons_zero, List.set_cons_succ]
  refine wpAnyH_take (i := 6) (v := ?v6_17) rfl (by kernel_rfl) (by kernel_rfl) (by kernel_rfl) (fun _ _ _ h => h) (Or.inl ⟨by rfl, ?hy6_17⟩) (by assumption) ?rest6_17
  case hy6_17 => (intro w hSw; (try dsimp only at hSw); go_simp; (try with_reducible rfl))
  try simp only [Act.put, List.setIfInBounds_toArray, List.set_cons_zero, List.set_cons_succ]
  refine wpAnyH_take (i := 7) (v := ?v7_18) rfl (by kernel_rfl) (by kernel_rfl) (by kernel_rfl) (fun _ _ _ h => h) (Or.inl ⟨by rfl, ?hy7_18⟩) (by assumption) ?rest7_18
  case hy7_18 => (intro w hSw; (try dsimp only at hSw); go_simp; (try with_reducible rfl))
  try simp only [Act.put, List.setIfInBounds_toArray, List.set_cons_zero, List.set_cons_succ]
  refine wpAnyH_take (i := 8) (v := ?v8_19) rfl (by kernel_rfl) (by kernel_rfl) (by kernel_rfl) (fun _ _ _ h => h) (Or.inl ⟨by rfl, ?hy8_19⟩) (by assumption) ?rest8_19
  case hy8_19 => (intro w hSw; (try dsimp only at hSw); go_simp; (try with_reducible rfl))
  try simp only [Act.put, List.setIfInBounds_toArray, List.set_cons_zero, List.set_cons_succ]
  refine wpAnyH_ready (rs := [9]) (by kernel_rfl) (by simp) ?_
  refine AllReadyH.cons rfl (fun K hK => ?_) AllReadyH.nil
  go_simp; go_at_call 72; refine (up_big _ _ _ (by omega) (by omega) (by omega)).mono ?_; rintro e w' ⟨rfl, rfl⟩
  refine hK.out _ _ hHeld (fun hHeld => ?_)
  clear hK K
  try simp only [Act.put, List.setIfInBounds_toArray, List.set_cons_zero, List.set_cons_succ]
  refine wpAnyH_take (i := 10) (v := ?v10_20) rfl (by kernel_rfl) (by kernel_rfl) (by kernel_rfl) (fun _ _ _ h => h) (Or.inl ⟨by rfl, ?hy10_20⟩) (by assumption) ?rest10_20
  case hy10_20 => (intro w hSw; (try dsimp only at hSw); go_simp; (try with_reducible rfl))
  try simp only [Act.put, List.setIfInBounds_toArray, List.set_cons_zero, List.set_cons_succ]
  refine wpAnyH_done (by kernel_rfl) ?_ _
  change wpList _ _ _ _ _ _
  simp only [List.drop_succ_cons, List.drop_zero]
  have M5 := M4.out
  clear M4 hHeld HS
  generalize X.drew = Y at M5 ⊢
  have M6 := Lib.hid (MtAt.set1 (x := mm) M5)
  obtain ⟨c0, c1, c2, c3, c4, c5, r0, r1, g0, g1, m0, m1, f0, f1, hz, hbw⟩ := M5
  have y2 : w.heap.size + 1 + 1 < Y.heap.size := by omega
  have y3 : w.heap.size + 1 + 1 + 1 < Y.heap.size := by omega
  have hr0 := set_far (c := w.heap.size + 1 + 1 + 1) (b := w.heap.size + 1 + 1) (j := 1) (u := .int .i64 mm) (by omega) r0
  go_wp2
  have M7 := M6.out
  generalize Y.setCell ⟨w.heap.size + 1 + 1 + 1, 1, none⟩ (.int .i64 mm) = Z at M7 ⊢
  clear c0 c1 c2 c3 c4 c5 r0 r1 g0 g1 m0 m1 f0 f1 hz hbw hr0
  obtain ⟨c0, c1, c2, c3, c4, c5, r0, r1, g0, g1, m0, m1, f0, f1, hz, hbw⟩ := M7
  exact bodyPost_ret (v := .agg #[.int .i64 (1000 * p * p / cd), .int .i64 mm]) (by simp [results, Try.results91, go_sem, set_same (i := 0) (v := .int .i64 (1000 * p * p / cd)) r0, set_other (i := 1) (j := 0) (v := .int .i64 mm) (by decide) (set_same (i := 0) (v := .int .i64 (1000 * p * p / cd)) r0), set_same (i := 1) (v := .int .i64 mm) (set_other (i := 0) (j := 1) (v := .int .i64 (1000 * p * p / cd)) (by decide) r1)]) rfl ⟨rfl, (hbw.setCell (p := ⟨w.heap.size + 1 + 1, 0, none⟩) (by dsimp only; omega) _).setCell (p := ⟨w.heap.size + 1 + 1, 1, none⟩) (by dsimp only; omega) _⟩

/-- the match's ends, off the least and the greatest sums -/
def matLo (p c d : Int) : Int := if 0 < c * d then 1000 * p * p / (c * d) else 0
def matHi (q a b : Int) : Int := if 0 < a * b then mn 1000 (-(-(1000 * q * q) / (a * b))) else 1000
theorem match_any (a b p c d q : Int) (w : World) (ha : 0 ≤ a ∧ a ≤ 80000000) (hb : 0 ≤ b ∧ b ≤ 80000000) (hp : 0 ≤ p ∧ p ≤ 80000000) (hc : 0 ≤ c ∧ c ≤ 80000000) (hd : 0 ≤ d ∧ d ≤ 80000000) (hq : 0 ≤ q ∧ q ≤ 80000000) :
    Calls Try.prog 91 #[.agg #[.int .i64 a, .int .i64 b, .int .i64 p], .agg #[.int .i64 c, .int .i64 d, .int .i64 q]] w fun e w' => e = .returned (.agg #[.int .i64 (matLo p c d), .int .i64 (matHi q a b)]) ∧ Below w.heap.size w w' := by
  unfold matLo matHi
  by_cases h1 : 0 < c * d <;> by_cases h2 : 0 < a * b
  · rw [if_pos h1, if_pos h2]; exact match_11 a b p c d q w ha hb hp hc hd hq h1 h2
  · rw [if_pos h1, if_neg h2]; exact match_10 a b p c d q w ha hb hp hc hd hq h1 h2
  · rw [if_neg h1, if_pos h2]; exact match_01 a b p c d q w ha hb hp hc hd hq h1 h2
  · rw [if_neg h1, if_neg h2]; exact match_00 a b p c d q w ha hb hp hc hd hq h1 h2

end Go.Proofs.Ytmojnopgpgnfeaa
