/-
  Pairs of sums; powers, ratio and match.
-/
import Derived.Test.Ytmojnopgpgnfeaamg2
namespace Go.Proofs.Ytmojnopgpgnfeaa
open Go.RowKit
set_option linter.unusedVariables false
set_option linter.unusedSimpArgs false

theorem keepC {w w' : World} {B : Nat} {a : Addr} {v : Value} (hb : Below B w w') (hB : a.block < B) (h : w.cell? a = some v) : w'.cell? a = some v := (hb.cell hB).trans h
theorem keepW {w w' : World} {a : Addr} {v : Value} (hb : Below w.heap.size w w') (h : w.cell? a = some v) : w'.cell? a = some v := keepC hb (World.block_lt_of_cell? _ _ h) h
/-- not below 0 -/
def mx (x : Int) : Int := if 0 < x then x else 0
theorem mx_sub (q n : Int) : mx (q - n) = if n < q then q - n else 0 := by
  unfold mx
  by_cases h : n < q
  · rw [if_pos h, if_pos (by omega)]
  · rw [if_neg h, if_neg (by omega)]
theorem mx_bd {x m : Int} (h : x ≤ m) (hm : 0 ≤ m) : 0 ≤ mx x ∧ mx x ≤ m := by unfold mx; split <;> omega
theorem sq_bd {a b m : Int} (ha : 0 ≤ a ∧ a ≤ m) (hb : 0 ≤ b ∧ b ≤ m) : 0 ≤ a * b ∧ a * b ≤ m * m :=
  ⟨Int.mul_nonneg ha.1 hb.1, Int.le_trans (Int.mul_le_mul_of_nonneg_right ha.2 hb.1) (Int.mul_le_mul_of_nonneg_left hb.2 (by omega))⟩

set_option maxHeartbeats 400000 in
theorem plus_any (a b c d : Int) (w : World) (ha : 0 ≤ a ∧ a ≤ 1000000000) (hb : 0 ≤ b ∧ b ≤ 1000000000) (hc : 0 ≤ c ∧ c ≤ 1000000000) (hd : 0 ≤ d ∧ d ≤ 1000000000) :
    Calls Try.prog 99 #[.agg #[.int .i64 a, .int .i64 b], .agg #[.int .i64 c, .int .i64 d]] w fun e w' => e = .returned (.agg #[.int .i64 (a + c), .int .i64 (b + d)]) ∧ Below w.heap.size w w' := by
  have i1 : IntKind.i64.wrap (a + c) = a + c := IntWalk.i64_in _ (by omega)
  have i2 : IntKind.i64.wrap (b + d) = b + d := IntWalk.i64_in _ (by omega)
  go_enter Try.func99, Try.ntmps99
  go_wp2
  exact bodyPost_ret (v := .agg #[.int .i64 (a + c), .int .i64 (b + d)]) (by simp [results, Try.results99, go_sem]) rfl ⟨rfl, by repeat (first | exact Below.refl _ _ | (refine Below.alloc ?_ (by first | (simp; done) | (simp only [World.size_alloc]; omega) | (simp; omega)) _))⟩

set_option maxHeartbeats 400000 in
theorem squared_any (a b : Int) (w : World) (ha : 0 ≤ a ∧ a ≤ 1100) (hb : 0 ≤ b ∧ b ≤ 1100) :
    Calls Try.prog 100 #[.agg #[.int .i64 a, .int .i64 b]] w fun e w' => e = .returned (.agg #[.int .i64 (a * a), .int .i64 (b * b)]) ∧ Below w.heap.size w w' := by
  have s1 := sq_bd ha ha
  have s2 := sq_bd hb hb
  have i1 : IntKind.i64.wrap (a * a) = a * a := IntWalk.i64_in _ (by omega)
  have i2 : IntKind.i64.wrap (b * b) = b * b := IntWalk.i64_in _ (by omega)
  go_enter Try.func100, Try.ntmps100
  go_wp2
  exact bodyPost_ret (v := .agg #[.int .i64 (a * a), .int .i64 (b * b)]) (by simp [results, Try.results100, go_sem]) rfl ⟨rfl, by repeat (first | exact Below.refl _ _ | (refine Below.alloc ?_ (by first | (simp; done) | (simp only [World.size_alloc]; omega) | (simp; omega)) _))⟩

set_option maxHeartbeats 400000 in
theorem product_any (a b : Int) (w : World) (ha : 0 ≤ a ∧ a ≤ 1000000000) (hb : 0 ≤ b ∧ b ≤ 1000000000) :
    Calls Try.prog 101 #[.agg #[.int .i64 a, .int .i64 b]] w fun e w' => e = .returned (.int .i64 (a * b)) ∧ Below w.heap.size w w' := by
  have s1 := sq_bd ha hb
  have i1 : IntKind.i64.wrap (a * b) = a * b := IntWalk.i64_in _ (by omega)
  go_enter Try.func101, Try.ntmps101
  go_wp2
  go_ret
  exact ⟨rfl, below_alloc _ _⟩

theorem div_bd {a c : Int} (h0 : 0 ≤ a) (h1 : a ≤ 1000000000) (hc : 1 ≤ c) : (0 ≤ a / c ∧ a / c ≤ 1000000000) ∧ (0 ≤ -(-a / c) ∧ -(-a / c) ≤ 1000000000) := by
  have e1 := Int.mul_ediv_add_emod a c
  have e2 := Int.mul_ediv_add_emod (-a) c
  have r1 := Int.emod_nonneg a (show c ≠ 0 by omega)
  have r2 := Int.emod_nonneg (-a) (show c ≠ 0 by omega)
  have r3 := Int.emod_lt_of_pos a (show 0 < c by omega)
  have r4 := Int.emod_lt_of_pos (-a) (show 0 < c by omega)
  have p1 : 0 ≤ a / c := Int.ediv_nonneg h0 (by omega)
  have p2 : a / c ≤ a := Int.ediv_le_self _ h0
  have p3 : -a / c ≤ 0 := by
    rcases Int.lt_or_le 0 (-a / c) with h | h
    · have := Int.mul_le_mul_of_nonneg_left (show 1 ≤ -a / c by omega) (show 0 ≤ c by omega)
      omega
    · exact h
  have p4 : -a ≤ -a / c := by
    rcases Int.lt_or_le (-a / c) (-a) with h | h
    · have h5 : -a / c + 1 ≤ -a := by omega
      have := Int.mul_le_mul_of_nonneg_left h5 (show 0 ≤ c by omega)
      rw [Int.mul_add] at this
      have h6 : c * -a ≤ 1 * -a := by
        rw [Int.mul_neg, Int.mul_neg]
        have := Int.mul_le_mul_of_nonneg_right hc h0
        omega
      omega
    · exact h
  omega

set_option maxRecDepth 100000 in
set_option maxHeartbeats 3200000 in
theorem powersD_any (a b c n : Int) (w : World) (ha : 0 ≤ a ∧ a ≤ 1000000000) (hb : 0 ≤ b ∧ b ≤ 1000000000) (hc : 1 ≤ c ∧ c ≤ 64) (hn : 0 ≤ n ∧ n ≤ 1048576) :
    Calls Try.prog 89 #[.agg #[.int .i64 a, .int .i64 b], .func (.func 71) #[] #[], .int .i64 c, .int .i64 n] w fun e w' => e = .returned (.agg #[.int .i64 (mx (a / c - n)), .int .i64 (mx (b / c - n))]) ∧ Below w.heap.size w w' := by
  have q1 := div_bd ha.1 ha.2 hc.1
  have q2 := div_bd hb.1 hb.2 hc.1
  have i1 : IntKind.i64.wrap (a / c - n) = (a / c - n) := IntWalk.i64_in _ (by omega)
  have i2 : IntKind.i64.wrap (b / c - n) = (b / c - n) := IntWalk.i64_in _ (by omega)
  rw [mx_sub (a / c) n, mx_sub (b / c) n]
  obtain ⟨m1, hm1⟩ : ∃ m, (if n < (a / c) then (a / c) - n else 0) = m := ⟨_, rfl⟩
  obtain ⟨m2, hm2⟩ : ∃ m, (if n < (b / c) then (b / c) - n else 0) = m := ⟨_, rfl⟩
  rw [hm1, hm2]
  go_enter Try.func89, Try.ntmps89
  go_wp2
  obtain ⟨W, hW⟩ : ∃ W, W = (w.alloc (.cells #[.int .i64 a, .int .i64 b] 129)).alloc (.cells #[.int .i64 0, .int .i64 0] 129) := ⟨_, rfl⟩
  rw [← hW]
  have s1 : (w.alloc (.cells #[.int .i64 a, .int .i64 b] 129)).heap.size = w.heap.size + 1 := World.size_alloc _ _
  have t0 : W.cell? ⟨w.heap.size, 0, none⟩ = some (.int .i64 a) := by rw [hW]; exact alloc_keep (by omega) (alloc_new rfl rfl)
  have t1 : W.cell? ⟨w.heap.size, 1, none⟩ = some (.int .i64 b) := by rw [hW]; exact alloc_keep (by omega) (alloc_new rfl rfl)
  have hbw : Below w.heap.size w W := by rw [hW]; exact (below_alloc _ _).trans ((below_alloc _ _).mono (by omega))
  obtain ⟨r0, r1, g0, g1⟩ : OpenAt W (w.heap.size + 1) := by rw [hW, ← s1]; exact OpenAt.new _ _ _ _
  clear hW s1
  have HS := Lib.hid (show (fun w' : World => w'.cell? ⟨w.heap.size, 0, none⟩ = some (.int .i64 a) ∧ w'.cell? ⟨w.heap.size, 1, none⟩ = some (.int .i64 b) ∧ w' = W.drew) W.drew from ⟨t0, t1, rfl⟩)
  refine wp_region_held_tail (S := (fun w' : World => w'.cell? ⟨w.heap.size, 0, none⟩ = some (.int .i64 a) ∧ w'.cell? ⟨w.heap.size, 1, none⟩ = some (.int .i64 b) ∧ w' = W.drew)) 17 (by kernel_rfl) (by kernel_rfl) HS.out (fun hHeld => ?_)
  refine wpAnyH_take (i := 0) (v := ?v0) rfl (by kernel_rfl) (by kernel_rfl) (by kernel_rfl) (fun _ _ _ h => h) (Or.inl ⟨by rfl, ?hy0⟩) (by assumption) ?rest0
  case hy0 => (intro w hSw; (try dsimp only at hSw); go_simp; (try with_reducible rfl))
  try simp only [Act.put, List.setIfInBounds_toArray, List.set_cons_zero, List.set_cons_succ]
  refine wpAnyH_take (i := 1) (v := ?v1) rfl (by kernel_rfl) (by kernel_rfl) (by kernel_rfl) (fun _ _ _ h => h) (Or.inl ⟨by rfl, ?hy1⟩) (by assumption) ?rest1
  case hy1 => (intro w hSw; (try dsimp only at hSw); go_simp; (try with_reducible rfl))
  try simp only [Act.put, List.setIfInBounds_toArray, List.set_cons_zero, List.set_cons_succ]
  refine wpAnyH_take (i := 2) (v := ?v2) rfl (by kernel_rfl) (by kernel_rfl) (by kernel_rfl) (fun _ _ _ h => h) (Or.inl ⟨by rfl, ?hy2⟩) (by assumption) ?rest2
  case hy2 => (intro w hSw; (try dsimp only at hSw); go_simp; (try with_reducible rfl))
  try simp only [Act.put, List.setIfInBounds_toArray, List.set_cons_zero, List.set_cons_succ]
  refine wpAnyH_take (i := 3) (v := ?v3) rfl (by kernel_rfl) (by kernel_rfl) (by kernel_rfl) (fun _ _ _ h => h) (Or.inl ⟨by rfl, ?hy3⟩) (by assumption) ?rest3
  case hy3 => (intro w hSw; (try dsimp only at hSw); go_simp; (try with_reducible rfl))
  try simp only [Act.put, List.setIfInBounds_toArray, List.set_cons_zero, List.set_cons_succ]
  refine wpAnyH_take (i := 5) (v := ?v5) rfl (by kernel_rfl) (by kernel_rfl) (by kernel_rfl) (fun _ _ _ h => h) (Or.inl ⟨by rfl, ?hy5⟩) (by assumption) ?rest5
  case hy5 => (intro w hSw; (try dsimp only at hSw); go_simp; (try with_reducible rfl))
  try simp only [Act.put, List.setIfInBounds_toArray, List.set_cons_zero, List.set_cons_succ]
  refine wpAnyH_take (i := 8) (v := ?v8) rfl (by kernel_rfl) (by kernel_rfl) (by kernel_rfl) (fun _ _ _ h => h) (Or.inl ⟨by rfl, ?hy8⟩) (by assumption) ?rest8
  case hy8 => (intro w hSw; (try dsimp only at hSw); go_simp; (try with_reducible rfl))
  try simp only [Act.put, List.setIfInBounds_toArray, List.set_cons_zero, List.set_cons_succ]
  refine wpAnyH_take (i := 9) (v := ?v9) rfl (by kernel_rfl) (by kernel_rfl) (by kernel_rfl) (fun _ _ _ h => h) (Or.inl ⟨by rfl, ?hy9⟩) (by assumption) ?rest9
  case hy9 => (intro w hSw; (try dsimp only at hSw); go_simp; (try with_reducible rfl))
  try simp only [Act.put, List.setIfInBounds_toArray, List.set_cons_zero, List.set_cons_succ]
  refine wpAnyH_take (i := 10) (v := ?v10) rfl (by kernel_rfl) (by kernel_rfl) (by kernel_rfl) (fun _ _ _ h => h) (Or.inl ⟨by rfl, ?hy10⟩) (by assumption) ?rest10
  case hy10 => (intro w hSw; (try dsimp only at hSw); go_simp; (try with_reducible rfl))
  try simp only [Act.put, List.setIfInBounds_toArray, List.set_cons_zero, List.set_cons_succ]
  refine wpAnyH_take (i := 11) (v := ?v11) rfl (by kernel_rfl) (by kernel_rfl) (by kernel_rfl) (fun _ _ _ h => h) (Or.inl ⟨by rfl, ?hy11⟩) (by assumption) ?rest11
  case hy11 => (intro w hSw; (try dsimp only at hSw); go_simp; (try with_reducible rfl))
  try simp only [Act.put, List.setIfInBounds_toArray, List.set_cons_zero, List.set_cons_succ]
  refine wpAnyH_take (i := 13) (v := ?v13) rfl (by kernel_rfl) (by kernel_rfl) (by kernel_rfl) (fun _ _ _ h => h) (Or.inl ⟨by rfl, ?hy13⟩) (by assumption) ?rest13
  case hy13 => (intro w hSw; (try dsimp only at hSw); go_simp; (try with_reducible rfl))
  try simp only [Act.put, List.setIfInBounds_toArray, List.set_cons_zero, List.set_cons_succ]
  refine wpAnyH_ready (rs := [4]) (by kernel_rfl) (by simp) ?_
  refine AllReadyH.cons rfl (fun K hK => ?_) AllReadyH.nil
  go_simp; go_at_call 71; refine (down_any _ _ _ (by omega) (by omega) (by omega)).mono ?_; rintro e w' ⟨rfl, rfl⟩
  refine hK.out _ _ hHeld (fun hHeld => ?_)
  clear hK K
  try simp only [Act.put, List.setIfInBounds_toArray, List.set_cons_zero, List.set_cons_succ]
  refine wpAnyH_take (i := 6) (v := ?v6) rfl (by kernel_rfl) (by kernel_rfl) (by kernel_rfl) (fun _ _ _ h => h) (Or.inl ⟨by rfl, ?hy6⟩) (by assumption) ?rest6
  case hy6 => (intro w hSw; (try dsimp only at hSw); go_simp; (try with_reducible rfl))
  try simp only [Act.put, List.setIfInBounds_toArray, List.set_cons_zero, List.set_cons_succ]
  refine wpAnyH_take (i := 7) (v := ?v7) rfl (by kernel_rfl) (by kernel_rfl) (by kernel_rfl) (fun _ _ _ h => h) (Or.inl ⟨by rfl, ?hy7⟩) (by assumption) ?rest7
  case hy7 => (intro w hSw; (try dsimp only at hSw); go_simp; (try with_reducible rfl))
  try simp only [Act.put, List.setIfInBounds_toArray, List.set_cons_zero, List.set_cons_succ]
  refine wpAnyH_ready (rs := [12]) (by kernel_rfl) (by simp) ?_
  refine AllReadyH.cons rfl (fun K hK => ?_) AllReadyH.nil
  go_simp; go_at_call 71; refine (down_any _ _ _ (by omega) (by omega) (by omega)).mono ?_; rintro e w' ⟨rfl, rfl⟩
  refine hK.out _ _ hHeld (fun hHeld => ?_)
  clear hK K
  try simp only [Act.put, List.setIfInBounds_toArray, List.set_cons_zero, List.set_cons_succ]
  refine wpAnyH_take (i := 14) (v := ?v14) rfl (by kernel_rfl) (by kernel_rfl) (by kernel_rfl) (fun _ _ _ h => h) (Or.inl ⟨by rfl, ?hy14⟩) (by assumption) ?rest14
  case hy14 => (intro w hSw; (try dsimp only at hSw); go_simp; (try with_reducible rfl))
  try simp only [Act.put, List.setIfInBounds_toArray, List.set_cons_zero, List.set_cons_succ]
  refine wpAnyH_take (i := 15) (v := ?v15) rfl (by kernel_rfl) (by kernel_rfl) (by kernel_rfl) (fun _ _ _ h => h) (Or.inl ⟨by rfl, ?hy15⟩) (by assumption) ?rest15
  case hy15 => (intro w hSw; (try dsimp only at hSw); go_simp; (try with_reducible rfl))
  try simp only [Act.put, List.setIfInBounds_toArray, List.set_cons_zero, List.set_cons_succ]
  refine wpAnyH_take (i := 16) (v := ?v16) rfl (by kernel_rfl) (by kernel_rfl) (by kernel_rfl) (fun _ _ _ h => h) (Or.inl ⟨by rfl, ?hy16⟩) (by assumption) ?rest16
  case hy16 => (intro w hSw; (try dsimp only at hSw); go_simp; (try with_reducible rfl))
  try simp only [Act.put, List.setIfInBounds_toArray, List.set_cons_zero, List.set_cons_succ]
  refine wpAnyH_done (by kernel_rfl) ?_ _
  change wpList _ _ _ _ _ _
  simp only [List.drop_succ_cons, List.drop_zero]
  have d0 : W.drew.cell? ⟨w.heap.size + 1, 0, none⟩ = some (cellAt W ⟨w.heap.size + 1, 0, none⟩) := r0
  have d1 : W.drew.cell? ⟨w.heap.size + 1, 1, none⟩ = some (cellAt W ⟨w.heap.size + 1, 1, none⟩) := r1
  have d2 : W.drew.frozen? ⟨w.heap.size + 1, 0, none⟩ = false := g0
  have d3 : W.drew.frozen? ⟨w.heap.size + 1, 1, none⟩ = false := g1
  have hbd := hbw.drew
  clear hHeld HS r0 r1 g0 g1 hbw t0 t1
  generalize W.drew = X at d0 d1 d2 d3 hbd ⊢
  have r0 := d0
  have r1 := d1
  go_wp2
  exact bodyPost_ret (v := .agg #[.int .i64 m1, .int .i64 m2]) (by simp [results, Try.results89, go_sem, set_other (i := 1) (j := 0) (b := w.heap.size + 1) (by decide) (set_same (v := .int .i64 m1) r0), set_same (v := .int .i64 m2) (set_other (i := 0) (j := 1) (b := w.heap.size + 1) (v := .int .i64 m1) (by decide) r1)]) rfl ⟨rfl, (hbd.setCell (p := ⟨w.heap.size + 1, 0, none⟩) (by dsimp only; omega) _).setCell (p := ⟨w.heap.size + 1, 1, none⟩) (by dsimp only; omega) _⟩

set_option maxRecDepth 100000 in
set_option maxHeartbeats 3200000 in
theorem powersU_any (a b c n : Int) (w : World) (ha : 0 ≤ a ∧ a ≤ 1000000000) (hb : 0 ≤ b ∧ b ≤ 1000000000) (hc : 1 ≤ c ∧ c ≤ 64) (hn : 0 ≤ n ∧ n ≤ 1048576) :
    Calls Try.prog 89 #[.agg #[.int .i64 a, .int .i64 b], .func (.func 72) #[] #[], .int .i64 c, .int .i64 n] w fun e w' => e = .returned (.agg #[.int .i64 (mx (-(-a / c) - n)), .int .i64 (mx (-(-b / c) - n))]) ∧ Below w.heap.size w w' := by
  have q1 := div_bd ha.1 ha.2 hc.1
  have q2 := div_bd hb.1 hb.2 hc.1
  have i1 : IntKind.i64.wrap (-(-a / c) - n) = (-(-a / c) - n) := IntWalk.i64_in _ (by omega)
  have i2 : IntKind.i64.wrap (-(-b / c) - n) = (-(-b / c) - n) := IntWalk.i64_in _ (by omega)
  rw [mx_sub (-(-a / c)) n, mx_sub (-(-b / c)) n]
  obtain ⟨m1, hm1⟩ : ∃ m, (if n < (-(-a / c)) then (-(-a / c)) - n else 0) = m := ⟨_, rfl⟩
  obtain ⟨m2, hm2⟩ : ∃ m, (if n < (-(-b / c)) then (-(-b / c)) - n else 0) = m := ⟨_, rfl⟩
  rw [hm1, hm2]
  go_enter Try.func89, Try.ntmps89
  go_wp2
  obtain ⟨W, hW⟩ : ∃ W, W = (w.alloc (.cells #[.int .i64 a, .int .i64 b] 129)).alloc (.cells #[.int .i64 0, .int .i64 0] 129) := ⟨_, rfl⟩
  rw [← hW]
  have s1 : (w.alloc (.cells #[.int .i64 a, .int .i64 b] 129)).heap.size = w.heap.size + 1 := World.size_alloc _ _
  have t0 : W.cell? ⟨w.heap.size, 0, none⟩ = some (.int .i64 a) := by rw [hW]; exact alloc_keep (by omega) (alloc_new rfl rfl)
  have t1 : W.cell? ⟨w.heap.size, 1, none⟩ = some (.int .i64 b) := by rw [hW]; exact alloc_keep (by omega) (alloc_new rfl rfl)
  have hbw : Below w.heap.size w W := by rw [hW]; exact (below_alloc _ _).trans ((below_alloc _ _).mono (by omega))
  obtain ⟨r0, r1, g0, g1⟩ : OpenAt W (w.heap.size + 1) := by rw [hW, ← s1]; exact OpenAt.new _ _ _ _
  clear hW s1
  have HS := Lib.hid (show (fun w' : World => w'.cell? ⟨w.heap.size, 0, none⟩ = some (.int .i64 a) ∧ w'.cell? ⟨w.heap.size, 1, none⟩ = some (.int .i64 b) ∧ w' = W.drew) W.drew from ⟨t0, t1, rfl⟩)
  refine wp_region_held_tail (S := (fun w' : World => w'.cell? ⟨w.heap.size, 0, none⟩ = some (.int .i64 a) ∧ w'.cell? ⟨w.heap.size, 1, none⟩ = some (.int .i64 b) ∧ w' = W.drew)) 17 (by kernel_rfl) (by kernel_rfl) HS.out (fun hHeld => ?_)
  refine wpAnyH_take (i := 0) (v := ?v0) rfl (by kernel_rfl) (by kernel_rfl) (by kernel_rfl) (fun _ _ _ h => h) (Or.inl ⟨by rfl, ?hy0⟩) (by assumption) ?rest0
  case hy0 => (intro w hSw; (try dsimp only at hSw); go_simp; (try with_reducible rfl))
  try simp only [Act.put, List.setIfInBounds_toArray, List.set_cons_zero, List.set_cons_succ]
  refine wpAnyH_take (i := 1) (v := ?v1) rfl (by kernel_rfl) (by kernel_rfl) (by kernel_rfl) (fun _ _ _ h => h) (Or.inl ⟨by rfl, ?hy1⟩) (by assumption) ?rest1
  case hy1 => (intro w hSw; (try dsimp only at hSw); go_simp; (try with_reducible rfl))
  try simp only [Act.put, List.setIfInBounds_toArray, List.set_cons_zero, List.set_cons_succ]
  refine wpAnyH_take (i := 2) (v := ?v2) rfl (by kernel_rfl) (by kernel_rfl) (by kernel_rfl) (fun _ _ _ h => h) (Or.inl ⟨by rfl, ?hy2⟩) (by assumption) ?rest2
  case hy2 => (intro w hSw; (try dsimp only at hSw); go_simp; (try with_reducible rfl))
  try simp only [Act.put, List.setIfInBounds_toArray, List.set_cons_zero, List.set_cons_succ]
  refine wpAnyH_take (i := 3) (v := ?v3) rfl (by kernel_rfl) (by kernel_rfl) (by kernel_rfl) (fun _ _ _ h => h) (Or.inl ⟨by rfl, ?hy3⟩) (by assumption) ?rest3
  case hy3 => (intro w hSw; (try dsimp only at hSw); go_simp; (try with_reducible rfl))
  try simp only [Act.put, List.setIfInBounds_toArray, List.set_cons_zero, List.set_cons_succ]
  refine wpAnyH_take (i := 5) (v := ?v5) rfl (by kernel_rfl) (by kernel_rfl) (by kernel_rfl) (fun _ _ _ h => h) (Or.inl ⟨by rfl, ?hy5⟩) (by assumption) ?rest5
  case hy5 => (intro w hSw; (try dsimp only at hSw); go_simp; (try with_reducible rfl))
  try simp only [Act.put, List.setIfInBounds_toArray, List.set_cons_zero, List.set_cons_succ]
  refine wpAnyH_take (i := 8) (v := ?v8) rfl (by kernel_rfl) (by kernel_rfl) (by kernel_rfl) (fun _ _ _ h => h) (Or.inl ⟨by rfl, ?hy8⟩) (by assumption) ?rest8
  case hy8 => (intro w hSw; (try dsimp only at hSw); go_simp; (try with_reducible rfl))
  try simp only [Act.put, List.setIfInBounds_toArray, List.set_cons_zero, List.set_cons_succ]
  refine wpAnyH_take (i := 9) (v := ?v9) rfl (by kernel_rfl) (by kernel_rfl) (by kernel_rfl) (fun _ _ _ h => h) (Or.inl ⟨by rfl, ?hy9⟩) (by assumption) ?rest9
  case hy9 => (intro w hSw; (try dsimp only at hSw); go_simp; (try with_reducible rfl))
  try simp only [Act.put, List.setIfInBounds_toArray, List.set_cons_zero, List.set_cons_succ]
  refine wpAnyH_take (i := 10) (v := ?v10) rfl (by kernel_rfl) (by kernel_rfl) (by kernel_rfl) (fun _ _ _ h => h) (Or.inl ⟨by rfl, ?hy10⟩) (by assumption) ?rest10
  case hy10 => (intro w hSw; (try dsimp only at hSw); go_simp; (try with_reducible rfl))
  try simp only [Act.put, List.setIfInBounds_toArray, List.set_cons_zero, List.set_cons_succ]
  refine wpAnyH_take (i := 11) (v := ?v11) rfl (by kernel_rfl) (by kernel_rfl) (by kernel_rfl) (fun _ _ _ h => h) (Or.inl ⟨by rfl, ?hy11⟩) (by assumption) ?rest11
  case hy11 => (intro w hSw; (try dsimp only at hSw); go_simp; (try with_reducible rfl))
  try simp only [Act.put, List.setIfInBounds_toArray, List.set_cons_zero, List.set_cons_succ]
  refine wpAnyH_take (i := 13) (v := ?v13) rfl (by kernel_rfl) (by kernel_rfl) (by kernel_rfl) (fun _ _ _ h => h) (Or.inl ⟨by rfl, ?hy13⟩) (by assumption) ?rest13
  case hy13 => (intro w hSw; (try dsimp only at hSw); go_simp; (try with_reducible rfl))
  try simp only [Act.put, List.setIfInBounds_toArray, List.set_cons_zero, List.set_cons_succ]
  refine wpAnyH_ready (rs := [4]) (by kernel_rfl) (by simp) ?_
  refine AllReadyH.cons rfl (fun K hK => ?_) AllReadyH.nil
  go_simp; go_at_call 72; refine (up_any _ _ _ (by omega) (by omega) (by omega)).mono ?_; rintro e w' ⟨rfl, rfl⟩
  refine hK.out _ _ hHeld (fun hHeld => ?_)
  clear hK K
  try simp only [Act.put, List.setIfInBounds_toArray, List.set_cons_zero, List.set_cons_succ]
  refine wpAnyH_take (i := 6) (v := ?v6) rfl (by kernel_rfl) (by kernel_rfl) (by kernel_rfl) (fun _ _ _ h => h) (Or.inl ⟨by rfl, ?hy6⟩) (by assumption) ?rest6
  case hy6 => (intro w hSw; (try dsimp only at hSw); go_simp; (try with_reducible rfl))
  try simp only [Act.put, List.setIfInBounds_toArray, List.set_cons_zero, List.set_cons_succ]
  refine wpAnyH_take (i := 7) (v := ?v7) rfl (by kernel_rfl) (by kernel_rfl) (by kernel_rfl) (fun _ _ _ h => h) (Or.inl ⟨by rfl, ?hy7⟩) (by assumption) ?rest7
  case hy7 => (intro w hSw; (try dsimp only at hSw); go_simp; (try with_reducible rfl))
  try simp only [Act.put, List.setIfInBounds_toArray, List.set_cons_zero, List.set_cons_succ]
  refine wpAnyH_ready (rs := [12]) (by kernel_rfl) (by simp) ?_
  refine AllReadyH.cons rfl (fun K hK => ?_) AllReadyH.nil
  go_simp; go_at_call 72; refine (up_any _ _ _ (by omega) (by omega) (by omega)).mono ?_; rintro e w' ⟨rfl, rfl⟩
  refine hK.out _ _ hHeld (fun hHeld => ?_)
  clear hK K
  try simp only [Act.put, List.setIfInBounds_toArray, List.set_cons_zero, List.set_cons_succ]
  refine wpAnyH_take (i := 14) (v := ?v14) rfl (by kernel_rfl) (by kernel_rfl) (by kernel_rfl) (fun _ _ _ h => h) (Or.inl ⟨by rfl, ?hy14⟩) (by assumption) ?rest14
  case hy14 => (intro w hSw; (try dsimp only at hSw); go_simp; (try with_reducible rfl))
  try simp only [Act.put, List.setIfInBounds_toArray, List.set_cons_zero, List.set_cons_succ]
  refine wpAnyH_take (i := 15) (v := ?v15) rfl (by kernel_rfl) (by kernel_rfl) (by kernel_rfl) (fun _ _ _ h => h) (Or.inl ⟨by rfl, ?hy15⟩) (by assumption) ?rest15
  case hy15 => (intro w hSw; (try dsimp only at hSw); go_simp; (try with_reducible rfl))
  try simp only [Act.put, List.setIfInBounds_toArray, List.set_cons_zero, List.set_cons_succ]
  refine wpAnyH_take (i := 16) (v := ?v16) rfl (by kernel_rfl) (by kernel_rfl) (by kernel_rfl) (fun _ _ _ h => h) (Or.inl ⟨by rfl, ?hy16⟩) (by assumption) ?rest16
  case hy16 => (intro w hSw; (try dsimp only at hSw); go_simp; (try with_reducible rfl))
  try simp only [Act.put, List.setIfInBounds_toArray, List.set_cons_zero, List.set_cons_succ]
  refine wpAnyH_done (by kernel_rfl) ?_ _
  change wpList _ _ _ _ _ _
  simp only [List.drop_succ_cons, List.drop_zero]
  have d0 : W.drew.cell? ⟨w.heap.size + 1, 0, none⟩ = some (cellAt W ⟨w.heap.size + 1, 0, none⟩) := r0
  have d1 : W.drew.cell? ⟨w.heap.size + 1, 1, none⟩ = some (cellAt W ⟨w.heap.size + 1, 1, none⟩) := r1
  have d2 : W.drew.frozen? ⟨w.heap.size + 1, 0, none⟩ = false := g0
  have d3 : W.drew.frozen? ⟨w.heap.size + 1, 1, none⟩ = false := g1
  have hbd := hbw.drew
  clear hHeld HS r0 r1 g0 g1 hbw t0 t1
  generalize W.drew = X at d0 d1 d2 d3 hbd ⊢
  have r0 := d0
  have r1 := d1
  go_wp2
  exact bodyPost_ret (v := .agg #[.int .i64 m1, .int .i64 m2]) (by simp [results, Try.results89, go_sem, set_other (i := 1) (j := 0) (b := w.heap.size + 1) (by decide) (set_same (v := .int .i64 m1) r0), set_same (v := .int .i64 m2) (set_other (i := 0) (j := 1) (b := w.heap.size + 1) (v := .int .i64 m1) (by decide) r1)]) rfl ⟨rfl, (hbd.setCell (p := ⟨w.heap.size + 1, 0, none⟩) (by dsimp only; omega) _).setCell (p := ⟨w.heap.size + 1, 1, none⟩) (by dsimp only; omega) _⟩

end Go.Proofs.Ytmojnopgpgnfeaa

namespace Go.Proofs.Ytmojnopgpgnfeaa
open Go.RowKit
set_option linter.unusedVariables false
set_option linter.unusedSimpArgs false

/-- a sample: levels and phases of both channels -/
structure Smp where
  h : Int
  p : Int
  v : Int
  q : Int
/-- the samples of a slice: what its cells hold -/
structure SmpsAt (w : World) (b off n : Nat) (zs : Nat → Smp) : Prop where
  c0 : ∀ i, i < n → w.cell? ⟨b, off + i * 4, none⟩ = some (.int .i64 (zs i).h)
  c1 : ∀ i, i < n → w.cell? ⟨b, off + i * 4 + 1, none⟩ = some (.int .i64 (zs i).p)
  c2 : ∀ i, i < n → w.cell? ⟨b, off + i * 4 + 2, none⟩ = some (.int .i64 (zs i).v)
  c3 : ∀ i, i < n → w.cell? ⟨b, off + i * 4 + 3, none⟩ = some (.int .i64 (zs i).q)
theorem SmpsAt.keep {B b off n : Nat} {W w1 : World} {zs : Nat → Smp} (s : SmpsAt W b off n zs) (hb : Below B W w1) (h : b < B) : SmpsAt w1 b off n zs :=
  ⟨fun i hi => keepB hb h (s.c0 i hi), fun i hi => keepB hb h (s.c1 i hi), fun i hi => keepB hb h (s.c2 i hi), fun i hi => keepB hb h (s.c3 i hi)⟩

def sumF (f : Nat → Int) : Nat → Int
  | 0 => 0
  | k + 1 => sumF f k + f k
theorem sumF_bd {f : Nat → Int} {m : Int} : ∀ {k : Nat}, (∀ i, i < k → 0 ≤ f i ∧ f i ≤ m) → 0 ≤ sumF f k ∧ sumF f k ≤ m * k
  | 0, _ => by simp [sumF]
  | k + 1, h => by
    have h1 := sumF_bd (k := k) (fun i hi => h i (by omega))
    have h2 := h k (by omega)
    rw [sumF]
    have e : m * ((k + 1 : Nat) : Int) = m * k + m := by rw [Int.natCast_succ, Int.mul_add, Int.mul_one]
    rw [e]; omega
/-- a level with an error -/
def mg (e x : Int) : Int := mx (x + e)
def sqH (zs : Nat → Smp) (e : Int) (i : Nat) : Int := mg e (zs i).h * mg e (zs i).h
def sqV (zs : Nat → Smp) (e : Int) (i : Nat) : Int := mg e (zs i).v * mg e (zs i).v
def prd (zs : Nat → Smp) (e : Int) (i : Nat) : Int := mg e (zs i).h * mg e (zs i).v
theorem mg_bd {e x : Int} (he : e ≤ 64) (hx : x ≤ 1023) : 0 ≤ mg e x ∧ mg e x ≤ 1087 := mx_bd (by omega) (by omega)
/-- levels are as they may be -/
def LevOk (n : Nat) (zs : Nat → Smp) : Prop := ∀ i, i < n → 0 ≤ (zs i).h ∧ (zs i).h ≤ 1023 ∧ 0 ≤ (zs i).v ∧ (zs i).v ≤ 1023
theorem add_bd {zs : Nat → Smp} {e : Int} {k len : Nat} (hz : LevOk len zs) (he : -64 ≤ e ∧ e ≤ 64) (hl : len ≤ 64) (hk : k ≤ len) :
    (0 ≤ sumF (sqH zs e) k ∧ sumF (sqH zs e) k ≤ 80000000) ∧ (0 ≤ sumF (sqV zs e) k ∧ sumF (sqV zs e) k ≤ 80000000) ∧ (0 ≤ sumF (prd zs e) k ∧ sumF (prd zs e) k ≤ 80000000) := by
  have b1 := sumF_bd (f := sqH zs e) (m := 1087 * 1087) (k := k) (fun i hi => sq_bd (mg_bd he.2 (hz i (by omega)).2.1) (mg_bd he.2 (hz i (by omega)).2.1))
  have b2 := sumF_bd (f := sqV zs e) (m := 1087 * 1087) (k := k) (fun i hi => sq_bd (mg_bd he.2 (hz i (by omega)).2.2.2) (mg_bd he.2 (hz i (by omega)).2.2.2))
  have b3 := sumF_bd (f := prd zs e) (m := 1087 * 1087) (k := k) (fun i hi => sq_bd (mg_bd he.2 (hz i (by omega)).2.1) (mg_bd he.2 (hz i (by omega)).2.2.2))
  omega

/-- add's two boxes: the open result, and the sums -/
structure AddAt (w W : World) (a b c : Int) : Prop where
  r0 : W.cell? ⟨w.heap.size, 0, none⟩ = some (.int .i64 0)
  r1 : W.cell? ⟨w.heap.size, 1, none⟩ = some (.int .i64 0)
  r2 : W.cell? ⟨w.heap.size, 2, none⟩ = some (.int .i64 0)
  g0 : W.frozen? ⟨w.heap.size, 0, none⟩ = false
  g1 : W.frozen? ⟨w.heap.size, 1, none⟩ = false
  g2 : W.frozen? ⟨w.heap.size, 2, none⟩ = false
  c0 : W.cell? ⟨w.heap.size + 1, 0, none⟩ = some (.int .i64 a)
  c1 : W.cell? ⟨w.heap.size + 1, 1, none⟩ = some (.int .i64 b)
  c2 : W.cell? ⟨w.heap.size + 1, 2, none⟩ = some (.int .i64 c)
  f0 : W.frozen? ⟨w.heap.size + 1, 0, none⟩ = false
  f1 : W.frozen? ⟨w.heap.size + 1, 1, none⟩ = false
  f2 : W.frozen? ⟨w.heap.size + 1, 2, none⟩ = false
  z : w.heap.size + 2 ≤ W.heap.size
  b : Below w.heap.size w W
theorem AddAt.keep {B : Nat} {w W w1 : World} {a b c : Int} (s : AddAt w W a b c) (hb : Below B W w1) (h : w.heap.size + 2 ≤ B) : AddAt w w1 a b c :=
  ⟨keepB hb (by omega) s.r0, keepB hb (by omega) s.r1, keepB hb (by omega) s.r2, keepF hb (by omega) s.g0, keepF hb (by omega) s.g1, keepF hb (by omega) s.g2, keepB hb (by omega) s.c0, keepB hb (by omega) s.c1, keepB hb (by omega) s.c2, keepF hb (by omega) s.f0, keepF hb (by omega) s.f1, keepF hb (by omega) s.f2, Nat.le_trans s.z hb.size, s.b.trans (hb.mono (by omega))⟩
theorem AddAt.new (w : World) : AddAt w ((w.alloc (.cells #[.int .i64 0, .int .i64 0, .int .i64 0] 131)).alloc (.cells #[.int .i64 0, .int .i64 0, .int .i64 0] 131)) 0 0 0 := by
  obtain ⟨A1, e1⟩ : ∃ A, A = w.alloc (.cells #[.int .i64 0, .int .i64 0, .int .i64 0] 131) := ⟨_, rfl⟩
  have s1 : A1.heap.size = w.heap.size + 1 := by rw [e1]; exact World.size_alloc _ _
  rw [← e1]
  obtain ⟨A2, e2⟩ : ∃ A, A = A1.alloc (.cells #[.int .i64 0, .int .i64 0, .int .i64 0] 131) := ⟨_, rfl⟩
  have s2 : A2.heap.size = w.heap.size + 2 := by rw [e2, World.size_alloc, s1]
  rw [← e2]
  have b1 : Below w.heap.size w A1 := by rw [e1]; exact below_alloc _ _
  have b2 : Below A1.heap.size A1 A2 := by rw [e2]; exact below_alloc _ _
  exact ⟨keepB b2 (by omega) (by rw [e1]; exact alloc_new rfl rfl), keepB b2 (by omega) (by rw [e1]; exact alloc_new rfl rfl), keepB b2 (by omega) (by rw [e1]; exact alloc_new rfl rfl), keepF b2 (by omega) (by rw [e1]; exact alloc_newF rfl), keepF b2 (by omega) (by rw [e1]; exact alloc_newF rfl), keepF b2 (by omega) (by rw [e1]; exact alloc_newF rfl), by rw [e2, ← s1]; exact alloc_new rfl rfl, by rw [e2, ← s1]; exact alloc_new rfl rfl, by rw [e2, ← s1]; exact alloc_new rfl rfl, by rw [e2, ← s1]; exact alloc_newF rfl, by rw [e2, ← s1]; exact alloc_newF rfl, by rw [e2, ← s1]; exact alloc_newF rfl, by omega, b1.trans (b2.mono (by omega))⟩
theorem set_far {w : World} {b c i j : Nat} {u v : Value} (h : c ≠ b) (hc : w.cell? ⟨b, i, none⟩ = some v) : (w.setCell ⟨c, j, none⟩ u).cell? ⟨b, i, none⟩ = some v := cell_far h hc
theorem set_frz {w : World} {p q : Addr} {u : Value} (hc : w.frozen? p = false) : (w.setCell q u).frozen? p = false := by rw [World.frozen?_setCell]; exact hc
theorem AddAt.set {w W : World} {a b c a2 b2 : Int} (s : AddAt w W a b c) : AddAt w ((W.setCell ⟨w.heap.size + 1, 0, none⟩ (.int .i64 a2)).setCell ⟨w.heap.size + 1, 1, none⟩ (.int .i64 b2)) a2 b2 c :=
  ⟨set_far (by omega) (set_far (by omega) s.r0), set_far (by omega) (set_far (by omega) s.r1), set_far (by omega) (set_far (by omega) s.r2), set_frz (set_frz s.g0), set_frz (set_frz s.g1), set_frz (set_frz s.g2), set_other (by decide) (set_same s.c0), set_same (set_other (by decide) s.c1), set_other (by decide) (set_other (by decide) s.c2), set_frz (set_frz s.f0), set_frz (set_frz s.f1), set_frz (set_frz s.f2), by have := s.z; simpa using this, (s.b.setCell (p := ⟨w.heap.size + 1, 0, none⟩) (by dsimp only; omega) _).setCell (p := ⟨w.heap.size + 1, 1, none⟩) (by dsimp only; omega) _⟩
theorem AddAt.set3 {w W : World} {a b c c2 : Int} (s : AddAt w W a b c) : AddAt w (W.setCell ⟨w.heap.size + 1, 2, none⟩ (.int .i64 c2)) a b c2 :=
  ⟨set_far (by omega) s.r0, set_far (by omega) s.r1, set_far (by omega) s.r2, set_frz s.g0, set_frz s.g1, set_frz s.g2, set_other (by decide) s.c0, set_other (by decide) s.c1, set_same s.c2, set_frz s.f0, set_frz s.f1, set_frz s.f2, by have := s.z; simpa using this, s.b.setCell (p := ⟨w.heap.size + 1, 2, none⟩) (by dsimp only; omega) _⟩

set_option maxRecDepth 100000 in
set_option maxHeartbeats 6400000 in
theorem add_any (b off len cap : Nat) (zs : Nat → Smp) (e : Int) (w : World) (hl : len ≤ 64) (he : -64 ≤ e ∧ e ≤ 64) (hz : LevOk len zs) (hs : SmpsAt w b off len zs) (hb : b < w.heap.size) :
    Calls Try.prog 88 #[.slice (some ⟨b, off, none⟩) len cap, .int .i64 e] w
      fun e' w' => e' = .returned (.agg #[.int .i64 (sumF (sqH zs e) len), .int .i64 (sumF (sqV zs e) len), .int .i64 (sumF (prd zs e) len)]) ∧ Below w.heap.size w w' := by
  have HS := Lib.hid hs
  have HZ := Lib.hid hz
  clear hs hz
  go_enter Try.func88, Try.ntmps88
  go_wp2
  go_loopw [11] (fun i wr => ∃ k : Nat, k ≤ len ∧ i = .int .i64 k ∧ AddAt w wr (sumF (sqH zs e) k) (sumF (sqV zs e) k) (sumF (prd zs e) k)) (fun i _ => len - (intOf i).toNat)
  case atStart => exact ⟨0, Nat.zero_le _, rfl, AddAt.new w⟩
  case round =>
    obtain ⟨k, hk, rfl, hS⟩ := hrel
    have HA := Lib.hid hS
    have hbw := hS.b
    have hz := hS.z
    by_cases hlt : k < len
    · clear hS
      have hbr : b < wr.heap.size := Nat.lt_of_lt_of_le hb hbw.size
      have z0 := keepB hbw hb (HS.out.c0 k hlt)
      have z1 := keepB hbw hb (HS.out.c1 k hlt)
      have z2 := keepB hbw hb (HS.out.c2 k hlt)
      have z3 := keepB hbw hb (HS.out.c3 k hlt)
      obtain ⟨v1, v2, v3, v4⟩ := HZ.out k hlt
      have i1 : IntKind.i64.wrap ((zs k).h + e) = (zs k).h + e := IntWalk.i64_in _ (by omega)
      have i2 : IntKind.i64.wrap ((zs k).v + e) = (zs k).v + e := IntWalk.i64_in _ (by omega)
      obtain ⟨mh, hm1⟩ : ∃ m, (if 0 < (zs k).h + e then (zs k).h + e else 0) = m := ⟨_, rfl⟩
      obtain ⟨mv, hm2⟩ : ∃ m, (if 0 < (zs k).v + e then (zs k).v + e else 0) = m := ⟨_, rfl⟩
      have b1 : 0 ≤ mh ∧ mh ≤ 1087 := by rw [← hm1]; split <;> omega
      have b2 : 0 ≤ mv ∧ mv ≤ 1087 := by rw [← hm2]; split <;> omega
      obtain ⟨sA, hsA⟩ : ∃ m, m = sumF (sqH zs e) k := ⟨_, rfl⟩
      obtain ⟨sB, hsB⟩ : ∃ m, m = sumF (sqV zs e) k := ⟨_, rfl⟩
      obtain ⟨sC, hsC⟩ : ∃ m, m = sumF (prd zs e) k := ⟨_, rfl⟩
      have HN : Hid (sumF (sqH zs e) (k + 1) = sA + mh * mh ∧ sumF (sqV zs e) (k + 1) = sB + mv * mv ∧ sumF (prd zs e) (k + 1) = sC + mh * mv) := Lib.hid ⟨by rw [sumF, hsA, ← hm1]; rfl, by rw [sumF, hsB, ← hm2]; rfl, by rw [sumF, hsC, ← hm1, ← hm2]; rfl⟩
      have BA := add_bd HZ.out he hl hk
      have HA2 : Hid (AddAt w wr sA sB sC) := Lib.hid (by rw [hsA, hsB, hsC]; exact HA.out)
      rw [← hsA, ← hsB, ← hsC] at BA
      have q1 := sq_bd b1 b1
      have q2 := sq_bd b2 b2
      have q3 := sq_bd b1 b2
      have i3 : IntKind.i64.wrap (sC + mh * mv) = sC + mh * mv := IntWalk.i64_in _ (by omega)
      clear hsA hsB hsC HA
      go_wp2
      obtain ⟨W, hW⟩ : ∃ W, W = (wr.alloc (.cells #[.int .i64 (zs k).h, .int .i64 (zs k).p, .int .i64 (zs k).v, .int .i64 (zs k).q] 84)).alloc (.cells #[.int .i64 mh, .int .i64 mv] 129) := ⟨_, rfl⟩
      rw [← hW]
      obtain ⟨A1, e1⟩ : ∃ A, A = wr.alloc (.cells #[.int .i64 (zs k).h, .int .i64 (zs k).p, .int .i64 (zs k).v, .int .i64 (zs k).q] 84) := ⟨_, rfl⟩
      have s1 : A1.heap.size = wr.heap.size + 1 := by rw [e1]; exact World.size_alloc _ _
      rw [← e1] at hW
      have bA : Below wr.heap.size wr W := by rw [hW, e1]; exact (below_alloc _ _).trans ((below_alloc _ _).mono (by rw [World.size_alloc]; omega))
      have sW : W.heap.size = wr.heap.size + 2 := by rw [hW, World.size_alloc, s1]
      have u0 : W.cell? ⟨wr.heap.size + 1, 0, none⟩ = some (.int .i64 mh) := by rw [hW, ← s1]; exact alloc_new rfl rfl
      have u1 : W.cell? ⟨wr.heap.size + 1, 1, none⟩ = some (.int .i64 mv) := by rw [hW, ← s1]; exact alloc_new rfl rfl
      clear hW e1 s1 hm1 hm2 z0 z1 z2 z3 i1 i2
      have hD := HA2.out.keep bA (by omega)
      have HS2 := Lib.hid (show (fun w' : World => w'.cell? ⟨w.heap.size + 1, 0, none⟩ = some (.int .i64 sA) ∧ w'.cell? ⟨w.heap.size + 1, 1, none⟩ = some (.int .i64 sB) ∧ w'.cell? ⟨wr.heap.size + 1, 0, none⟩ = some (.int .i64 mh) ∧ w'.cell? ⟨wr.heap.size + 1, 1, none⟩ = some (.int .i64 mv) ∧ Below W.drew.heap.size W.drew w') W.drew from ⟨hD.c0, hD.c1, u0, u1, Below.refl _ _⟩)
      have HD := Lib.hid (hD.keep ((Below.refl W.heap.size W).drew) (by omega))
      clear HA2 bA hD u0 u1
      refine wp_region_held_tail (S := (fun w' : World => w'.cell? ⟨w.heap.size + 1, 0, none⟩ = some (.int .i64 sA) ∧ w'.cell? ⟨w.heap.size + 1, 1, none⟩ = some (.int .i64 sB) ∧ w'.cell? ⟨wr.heap.size + 1, 0, none⟩ = some (.int .i64 mh) ∧ w'.cell? ⟨wr.heap.size + 1, 1, none⟩ = some (.int .i64 mv) ∧ Below W.drew.heap.size W.drew w')) 5 (by kernel_rfl) (by kernel_rfl) HS2.out (fun hHeld => ?_)
      refine wpAnyH_take (i := 0) (v := ?v0_1) rfl (by kernel_rfl) (by kernel_rfl) (by kernel_rfl) (fun _ _ _ h => h) (Or.inl ⟨by rfl, ?hy0_1⟩) (by assumption) ?rest0_1
      case hy0_1 => (intro w hSw; (try dsimp only at hSw); go_simp; (try with_reducible rfl))
      try simp only [Act.put, List.setIfInBounds_toArray, List.set_cons_zero, List.set_cons_succ]
      refine wpAnyH_take (i := 1) (v := ?v1_2) rfl (by kernel_rfl) (by kernel_rfl) (by kernel_rfl) (fun _ _ _ h => h) (Or.inl ⟨by rfl, ?hy1_2⟩) (by assumption) ?rest1_2
      case hy1_2 => (intro w hSw; (try dsimp only at hSw); go_simp; (try with_reducible rfl))
      try simp only [Act.put, List.setIfInBounds_toArray, List.set_cons_zero, List.set_cons_succ]
      refine wpAnyH_take (i := 2) (v := ?v2_3) rfl (by kernel_rfl) (by kernel_rfl) (by kernel_rfl) (fun _ _ _ h => h) (Or.inl ⟨by rfl, ?hy2_3⟩) (by assumption) ?rest2_3
      case hy2_3 => (intro w hSw; (try dsimp only at hSw); go_simp; (try with_reducible rfl))
      try simp only [Act.put, List.setIfInBounds_toArray, List.set_cons_zero, List.set_cons_succ]
      refine wpAnyH_ready (rs := [3]) (by kernel_rfl) (by simp) ?_
      refine AllReadyH.cons rfl (fun K hK => ?_) AllReadyH.nil
      go_simp; go_at_call 100; refine (squared_any _ _ _ (by omega) (by omega)).mono ?_; rintro e w' ⟨rfl, hb'⟩
      refine hK.out _ _ (⟨keepW hb' hHeld.1, keepW hb' hHeld.2.1, keepW hb' hHeld.2.2.1, keepW hb' hHeld.2.2.2.1, hHeld.2.2.2.2.trans (hb'.mono hHeld.2.2.2.2.size)⟩) (fun hHeld => ?_)
      clear hK K
      try simp only [Act.put, List.setIfInBounds_toArray, List.set_cons_zero, List.set_cons_succ]
      refine wpAnyH_ready (rs := [4]) (by kernel_rfl) (by simp) ?_
      refine AllReadyH.cons rfl (fun K hK => ?_) AllReadyH.nil
      go_simp; go_at_call 99; refine (plus_any _ _ _ _ _ (by omega) (by omega) (by omega) (by omega)).mono ?_; rintro e w' ⟨rfl, hb'⟩
      refine hK.out _ _ (⟨keepW hb' hHeld.1, keepW hb' hHeld.2.1, keepW hb' hHeld.2.2.1, keepW hb' hHeld.2.2.2.1, hHeld.2.2.2.2.trans (hb'.mono hHeld.2.2.2.2.size)⟩) (fun hHeld => ?_)
      clear hK K
      try simp only [Act.put, List.setIfInBounds_toArray, List.set_cons_zero, List.set_cons_succ]
      refine wpAnyH_done (by kernel_rfl) ?_ _
      change wpList _ _ _ _ _ _
      simp only [List.drop_succ_cons, List.drop_zero]
      obtain ⟨X, hX⟩ : ∃ X, X = w' := ⟨_, rfl⟩
      rw [← hX] at hHeld ⊢
      clear hX
      obtain ⟨_, _, u0, u1, hbX⟩ := hHeld
      have hD := HD.out.keep hbX (by have := sW; show _ ≤ W.heap.size; omega)
      have hsX : wr.heap.size + 2 ≤ X.heap.size := by have := hbX.size; have : W.drew.heap.size = W.heap.size := rfl; omega
      have HD2 := Lib.hid (hD.set (a2 := sA + mh * mh) (b2 := sB + mv * mv))
      have HU := Lib.hid (show ∀ a2 b2 : Value, ((X.setCell ⟨w.heap.size + 1, 0, none⟩ a2).setCell ⟨w.heap.size + 1, 1, none⟩ b2).cell? ⟨wr.heap.size + 1, 0, none⟩ = some (.int .i64 mh) ∧ ((X.setCell ⟨w.heap.size + 1, 0, none⟩ a2).setCell ⟨w.heap.size + 1, 1, none⟩ b2).cell? ⟨wr.heap.size + 1, 1, none⟩ = some (.int .i64 mv) from fun a2 b2 => ⟨set_far (by omega) (set_far (by omega) u0), set_far (by omega) (set_far (by omega) u1)⟩)
      obtain ⟨_, _, _, _, _, _, c0, c1, _, f0, f1, _, hzX, _⟩ := hD
      have y1 : w.heap.size + 1 < X.heap.size := by omega
      clear hbX HS2 HD u0 u1
      go_wp2
      obtain ⟨Y, hY⟩ : ∃ Y, Y = (X.setCell ⟨w.heap.size + 1, 0, none⟩ (.int .i64 (sA + mh * mh))).setCell ⟨w.heap.size + 1, 1, none⟩ (.int .i64 (sB + mv * mv)) := ⟨_, rfl⟩
      rw [← hY]
      have hD := HD2.out
      have u := HU.out (.int .i64 (sA + mh * mh)) (.int .i64 (sB + mv * mv))
      rw [← hY] at hD u
      have hsY : wr.heap.size + 2 ≤ Y.heap.size := by rw [hY]; simpa using hsX
      clear hY HD2 HU c0 c1 f0 f1 y1 hsX hzX
      have HS3 := Lib.hid (show (fun w' : World => w'.cell? ⟨w.heap.size + 1, 2, none⟩ = some (.int .i64 sC) ∧ w'.cell? ⟨wr.heap.size + 1, 0, none⟩ = some (.int .i64 mh) ∧ w'.cell? ⟨wr.heap.size + 1, 1, none⟩ = some (.int .i64 mv) ∧ Below Y.drew.heap.size Y.drew w') Y.drew from ⟨hD.c2, u.1, u.2, Below.refl _ _⟩)
      have HD := Lib.hid (hD.keep ((Below.refl Y.heap.size Y).drew) hD.z)
      have hzY := hD.z
      clear hD u
      refine wp_region_held_tail (S := (fun w' : World => w'.cell? ⟨w.heap.size + 1, 2, none⟩ = some (.int .i64 sC) ∧ w'.cell? ⟨wr.heap.size + 1, 0, none⟩ = some (.int .i64 mh) ∧ w'.cell? ⟨wr.heap.size + 1, 1, none⟩ = some (.int .i64 mv) ∧ Below Y.drew.heap.size Y.drew w')) 5 (by kernel_rfl) (by kernel_rfl) HS3.out (fun hHeld => ?_)
      refine wpAnyH_take (i := 0) (v := ?v0_4) rfl (by kernel_rfl) (by kernel_rfl) (by kernel_rfl) (fun _ _ _ h => h) (Or.inl ⟨by rfl, ?hy0_4⟩) (by assumption) ?rest0_4
      case hy0_4 => (intro w hSw; (try dsimp only at hSw); go_simp; (try with_reducible rfl))
      try simp only [Act.put, List.setIfInBounds_toArray, List.set_cons_zero, List.set_cons_succ]
      refine wpAnyH_take (i := 1) (v := ?v1_5) rfl (by kernel_rfl) (by kernel_rfl) (by kernel_rfl) (fun _ _ _ h => h) (Or.inl ⟨by rfl, ?hy1_5⟩) (by assumption) ?rest1_5
      case hy1_5 => (intro w hSw; (try dsimp only at hSw); go_simp; (try with_reducible rfl))
      try simp only [Act.put, List.setIfInBounds_toArray, List.set_cons_zero, List.set_cons_succ]
      refine wpAnyH_take (i := 2) (v := ?v2_6) rfl (by kernel_rfl) (by kernel_rfl) (by kernel_rfl) (fun _ _ _ h => h) (Or.inl ⟨by rfl, ?hy2_6⟩) (by assumption) ?rest2_6
      case hy2_6 => (intro w hSw; (try dsimp only at hSw); go_simp; (try with_reducible rfl))
      try simp only [Act.put, List.setIfInBounds_toArray, List.set_cons_zero, List.set_cons_succ]
      refine wpAnyH_ready (rs := [3]) (by kernel_rfl) (by simp) ?_
      refine AllReadyH.cons rfl (fun K hK => ?_) AllReadyH.nil
      go_simp; go_at_call 101; refine (product_any _ _ _ (by omega) (by omega)).mono ?_; rintro e w' ⟨rfl, hb'⟩
      refine hK.out _ _ (⟨keepW hb' hHeld.1, keepW hb' hHeld.2.1, keepW hb' hHeld.2.2.1, hHeld.2.2.2.trans (hb'.mono hHeld.2.2.2.size)⟩) (fun hHeld => ?_)
      clear hK K
      try simp only [Act.put, List.setIfInBounds_toArray, List.set_cons_zero, List.set_cons_succ]
      refine wpAnyH_take (i := 4) (v := ?v4_7) rfl (by kernel_rfl) (by kernel_rfl) (by kernel_rfl) (fun _ _ _ h => h) (Or.inl ⟨by rfl, ?hy4_7⟩) (by assumption) ?rest4_7
      case hy4_7 => (intro w hSw; (try dsimp only at hSw); go_simp; (try with_reducible rfl))
      try simp only [Act.put, List.setIfInBounds_toArray, List.set_cons_zero, List.set_cons_succ]
      refine wpAnyH_done (by kernel_rfl) ?_ _
      change wpList _ _ _ _ _ _
      simp only [List.drop_succ_cons, List.drop_zero]
      obtain ⟨V, hV⟩ : ∃ X, X = w' := ⟨_, rfl⟩
      rw [← hV] at hHeld ⊢
      clear hV
      have hD := HD.out.keep hHeld.2.2.2 hzY
      have HE := Lib.hid (hD.set3 (c2 := sC + mh * mv))
      obtain ⟨_, _, _, _, _, _, _, _, c2, _, _, f2, hzV, _⟩ := hD
      have y1 : w.heap.size + 1 < V.heap.size := by omega
      clear hHeld HS3 HD
      go_wp2
      go_roundw
      case rel => exact ⟨k + 1, by omega, by go_num, by rw [HN.out.1, HN.out.2.1, HN.out.2.2]; exact HE.out⟩
      case measure => simp [intOf]; omega
    · have hkl : k = len := by omega
      subst hkl
      obtain ⟨r0, r1, r2, g0, g1, g2, c0, c1, c2, f0, f1, f2, _, _⟩ := hS
      have y0 : w.heap.size < wr.heap.size := by omega
      have y1 : w.heap.size + 1 < wr.heap.size := by omega
      go_wp2
      exact bodyPost_ret (v := .agg #[.int .i64 (sumF (sqH zs e) k), .int .i64 (sumF (sqV zs e) k), .int .i64 (sumF (prd zs e) k)]) (by simp [results, Try.results88, go_sem, set_same (v := .int .i64 (sumF (prd zs e) k)) (set_other (i := 1) (j := 2) (v := .int .i64 (sumF (sqV zs e) k)) (by decide) (set_other (i := 0) (j := 2) (v := .int .i64 (sumF (sqH zs e) k)) (by decide) r2)), set_other (i := 2) (j := 1) (v := .int .i64 (sumF (prd zs e) k)) (by decide) (set_same (v := .int .i64 (sumF (sqV zs e) k)) (set_other (i := 0) (j := 1) (v := .int .i64 (sumF (sqH zs e) k)) (by decide) r1)), set_other (i := 2) (j := 0) (v := .int .i64 (sumF (prd zs e) k)) (by decide) (set_other (i := 1) (j := 0) (v := .int .i64 (sumF (sqV zs e) k)) (by decide) (set_same (v := .int .i64 (sumF (sqH zs e) k)) r0)), set_same (v := .int .i64 (sumF (sqH zs e) k)) r0, set_same (v := .int .i64 (sumF (sqV zs e) k)) (set_other (i := 0) (j := 1) (v := .int .i64 (sumF (sqH zs e) k)) (by decide) r1)]) rfl ⟨rfl, ((hbw.setCell (p := ⟨w.heap.size, 0, none⟩) (by dsimp only; omega) _).setCell (p := ⟨w.heap.size, 1, none⟩) (by dsimp only; omega) _).setCell (p := ⟨w.heap.size, 2, none⟩) (by dsimp only; omega) _⟩

end Go.Proofs.Ytmojnopgpgnfeaa
