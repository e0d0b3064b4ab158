/-
  RainGauges, walked.
-/
import Derived.Test.YtdmbkhmhaininaaGV
import Derived.Test.YtdmbkhmhaininaaWK
import Derived.Test.YtdmbkhmhaininaaP
import Derived.Deep.Cut
import Derived.Laws.StructEq
import Derived.Laws.Tables
import Derived.Laws.Cover2
import Derived.KernelRfl
namespace Go.Proofs.Ytdmbkhmhaininaa
open Go.RowKit
set_option linter.unusedVariables false
set_option linter.unusedSimpArgs false

set_option maxHeartbeats 800000 in
theorem eq76 (a b a' b' : Int) (w : World) : (Op.equalIn 10000 76 (.agg #[.int .i64 a, .int .i64 b]) (.agg #[.int .i64 a', .int .i64 b'])).run Try.prog w = .ok (a == a' && b == b') w := by
  have u3 := Try.underlying3
  have a3 := Try.isAgg3
  have z3 := Try.sizeOf3
  rw [show (10000 : Nat) = 9999 + 1 from rfl, Op.equalIn]
  simp only [Sem.run_bind, run_underlying Try.underlying76, Result.andThen_ok]
  simp only [Std.Legacy.Range.forIn_eq_forIn_range', Std.Legacy.Range.size, Nat.sub_zero, Nat.add_sub_cancel, Nat.div_one, List.range'_succ, List.range'_zero, List.forIn_cons, List.forIn_nil]
  go_simp
  by_cases h1 : a = a' <;> by_cases h2 : b = b' <;> simp [h1, h2]
theorem info73 : (Try.prog.info? 73).map (fun i => (i.zero, i.size, i.bytes)) = some (some (.agg #[.int .i64 0, .int .i64 0, .int .i64 0, .int .i64 0]), 4, 32) := by kernel_rfl
/-- pairs in a row, one behind the other -/
def prv (ps : Nat → Pr) : Nat → List Value
  | 0 => []
  | j + 1 => prv ps j ++ [.int .i64 (ps j).s1, .int .i64 (ps j).s2, .int .i64 (ps j).ti, .int .i64 (ps j).sz]
theorem prv_len (ps : Nat → Pr) (j : Nat) : (prv ps j).length = j * 4 := by
  induction j with
  | zero => rfl
  | succ j ih => unfold prv; rw [List.length_append, ih]; simp; omega
theorem prv_get (ps : Nat → Pr) (n k : Nat) (h : k < n) : (prv ps n)[k * 4]? = some (.int .i64 (ps k).s1) ∧ (prv ps n)[k * 4 + 1]? = some (.int .i64 (ps k).s2) ∧ (prv ps n)[k * 4 + 2]? = some (.int .i64 (ps k).ti) ∧ (prv ps n)[k * 4 + 3]? = some (.int .i64 (ps k).sz) := by
  induction n with
  | zero => omega
  | succ n ih =>
    have hl := prv_len ps n
    by_cases e : k = n
    · subst e
      unfold prv
      rw [List.getElem?_append_right (by omega), List.getElem?_append_right (by omega), List.getElem?_append_right (by omega), List.getElem?_append_right (by omega), hl]
      refine ⟨by rw [Nat.sub_self]; rfl, by rw [show k * 4 + 1 - k * 4 = 1 by omega]; rfl, by rw [show k * 4 + 2 - k * 4 = 2 by omega]; rfl, by rw [show k * 4 + 3 - k * 4 = 3 by omega]; rfl⟩
    · have := ih (by omega)
      unfold prv
      rw [List.getElem?_append_left (by omega), List.getElem?_append_left (by omega), List.getElem?_append_left (by omega), List.getElem?_append_left (by omega)]
      exact this
theorem cell_4_new (w : World) (x y z u : Value) (t : TypeId) : ∀ j v, [x, y, z, u][j]? = some v → (w.alloc (.cells #[x, y, z, u] t)).cell? ((⟨w.heap.size, 0, none⟩ : Addr).add j) = some v := by
  intro j v hj
  match j, hj with
  | 0, hj => simp at hj; subst hj; simp [Addr.add]
  | 1, hj => simp at hj; subst hj; simp [Addr.add]
  | 2, hj => simp at hj; subst hj; simp [Addr.add]
  | 3, hj => simp at hj; subst hj; simp [Addr.add]
structure PrRel (w wr : World) (k : Nat) (v : Value) (ps : Nat → Pr) : Prop where
  own : wr.ownsRow w.heap.size 73 4 v k (prv ps k)
  nil : k = 0 → v = .slice none 0 0
  b : Below w.heap.size w wr
theorem PrRel.keep {w W w1 : World} {k : Nat} {v : Value} {ps : Nat → Pr} (R : PrRel w W k v ps) (hb : Below W.heap.size W w1) : PrRel w w1 k v ps := ⟨owns_keep R.own hb, R.nil, R.b.trans (hb.mono R.b.size)⟩
theorem PrRel.put {w W W1 w1 : World} {k : Nat} {v v' : Value} {ps : Nat → Pr} (R : PrRel w W k v ps) (hW : Below w.heap.size W W1) (hg : W1.grownBy w1 v.ownBlock) (ho : w1.ownsRow w.heap.size 73 4 v' (k + 1) (prv ps k ++ [.int .i64 (ps k).s1, .int .i64 (ps k).s2, .int .i64 (ps k).ti, .int .i64 (ps k).sz])) : PrRel w w1 (k + 1) v' ps :=
  ⟨ho, fun h => absurd h (by omega), R.b.trans (Below.grown hW hg (by have := hW.size; have := R.b.size; omega) (fun k hk => (R.own.lt k hk).1))⟩
theorem own_prs {w : World} {base n : Nat} {v : Value} {ps : Nat → Pr} (h : w.ownsRow base 73 4 v n (prv ps n)) (h0 : n = 0 → v = .slice none 0 0) : ∃ (a : Option Addr) (cap : Nat), v = .slice a n cap ∧ PrsIs w a n ps := by
  by_cases hn : n = 0
  · subst hn
    exact ⟨none, 0, h0 rfl, .inl rfl⟩
  · obtain ⟨b, cap, rfl, hb1, hb2⟩ := h.form (by omega)
    refine ⟨_, cap, rfl, .inr ⟨b, 0, rfl, hb2, fun i hi => ⟨?_, ?_, ?_, ?_⟩⟩⟩
    · rw [Nat.zero_add, h.cellAt (i * 4) (by omega)]; exact (prv_get _ n i hi).1
    · rw [Nat.zero_add, h.cellAt (i * 4 + 1) (by omega)]; exact (prv_get _ n i hi).2.1
    · rw [Nat.zero_add, h.cellAt (i * 4 + 2) (by omega)]; exact (prv_get _ n i hi).2.2.1
    · rw [Nat.zero_add, h.cellAt (i * 4 + 3) (by omega)]; exact (prv_get _ n i hi).2.2.2
set_option maxRecDepth 100000 in
set_option maxHeartbeats 3200000 in
theorem RainGauges_big (a : Option Addr) (n cap : Nat) (w : World) (hm : n ≤ maxLen) (h : 40 < n ∧ n ≤ 100 ∨ 200 < n) :
    Calls Try.prog 7 #[.slice a n cap] w fun e w' => e = .returned (.bool true) ∧ Below w.heap.size w w' := by
  unfold maxLen at hm
  have d1 : decide (40 < (n : Int)) = true := decide_eq_true (by omega)
  by_cases h2 : n ≤ 100
  · have d2 : decide ((n : Int) ≤ 100) = true := decide_eq_true (by omega)
    go_enter Try.func7, Try.ntmps7
    go_wp2_with fail
    refine (works_any _).mono ?_; rintro e X ⟨rfl, hbX⟩
    go_wp2
    go_ret
    exact ⟨rfl, hbX⟩
  · have d2 : decide ((n : Int) ≤ 100) = false := decide_eq_false (by omega)
    have d3 : decide (200 < (n : Int)) = true := decide_eq_true (by omega)
    go_enter Try.func7, Try.ntmps7
    go_wp2_with fail
    refine (works_any _).mono ?_; rintro e X ⟨rfl, hbX⟩
    go_wp2
    go_ret
    exact ⟨rfl, hbX⟩
theorem four_boxes (w : World) (x y i j : Int) : ∃ A, A = (w.alloc (.cells #[.int .i64 x, .int .i64 y] 24)).alloc (.cells #[.int .i64 i, .int .i64 j] 76) ∧ Below w.heap.size w A ∧ A.heap.size = w.heap.size + 2 ∧ A.cell? ⟨w.heap.size, 0, none⟩ = some (.int .i64 x) ∧ A.cell? ⟨w.heap.size, 1, none⟩ = some (.int .i64 y) ∧ A.cell? ⟨w.heap.size + 1, 0, none⟩ = some (.int .i64 i) ∧ A.cell? ⟨w.heap.size + 1, 1, none⟩ = some (.int .i64 j) := by
  obtain ⟨A0, e0⟩ : ∃ A, A = w.alloc (.cells #[.int .i64 x, .int .i64 y] 24) := ⟨_, rfl⟩
  have s0 : A0.heap.size = w.heap.size + 1 := by rw [e0, World.size_alloc]
  have b0 : Below w.heap.size w A0 := by rw [e0]; exact below_alloc _ _
  have c0_0_0 : A0.cell? ⟨w.heap.size, 0, none⟩ = some (.int .i64 x) := by rw [e0]; exact alloc_new rfl rfl
  have c0_1_0 : A0.cell? ⟨w.heap.size, 1, none⟩ = some (.int .i64 y) := by rw [e0]; exact alloc_new rfl rfl
  rw [← e0]
  exact ⟨_, rfl, b0.trans ((below_alloc _ _).mono (by omega)), by rw [World.size_alloc]; omega, alloc_keep (by omega) c0_0_0, alloc_keep (by omega) c0_1_0, alloc_new s0.symm rfl, alloc_new s0.symm rfl⟩

set_option maxRecDepth 100000 in
set_option maxHeartbeats 12800000 in
theorem RainGauges_s (b off n cap : Nat) (ps : Nat → Pr) (w : World) (hn : n ≤ 40) (hs : PrsAt w b off n ps) (hb : b < w.heap.size) (hr : PrsIs w (some ⟨b, off, none⟩) n ps) :
    Calls Try.prog 7 #[.slice (some ⟨b, off, none⟩) n cap] w fun e w' => e = .returned (.bool true) ∧ Below w.heap.size w w' := by
  obtain ⟨i0, hi0, hz0, hz1, hz2⟩ := info_parts info73
  have d1 : decide (40 < (n : Int)) = false := decide_eq_false (by omega)
  have d2 : decide ((n : Int) ≤ 100) = true := decide_eq_true (by omega)
  have d3 : decide (200 < ((n : Nat) : Int)) = false := decide_eq_false (by omega)
  have HX1 := Lib.hid (fun W (hW : Below w.heap.size w W) => Adjust_any (some ⟨b, off, none⟩) n cap ps W (by unfold maxLen; omega) (hr.keep hW))
  have HX2 := Lib.hid (fun (ma : Option Addr) (mc : Nat) W (h : PrsIs W ma n ps) => refAdjust_any ma n mc ps W (by unfold maxLen; omega) h)
  unfold AdjRet at HX1 HX2
  clear hr
  have HS0 := Lib.hid hs
  clear hs
  go_enter Try.func7, Try.ntmps7
  go_wp2
  go_loopw [3, 4] (fun v i wr => ∃ k : Nat, k ≤ n ∧ i = .int .i64 k ∧ PrRel w wr k v ps) (fun _ i _ => n - (intOf i).toNat)
  case atStart => exact ⟨0, Nat.zero_le _, rfl, World.ownsRow_nil _ _ _ _, fun _ => rfl, Below.refl _ _⟩
  case round =>
    obtain ⟨k, hk, rfl, hR⟩ := hrel
    have HR := Lib.hid hR
    have hbw := hR.b
    by_cases hlt : k < n
    · have c0 := keepB hbw hb (HS0.out k hlt).1
      have c1 := keepB hbw hb (HS0.out k hlt).2.1
      have c2' := keepB hbw hb (HS0.out k hlt).2.2.1
      have c3' := keepB hbw hb (HS0.out k hlt).2.2.2
      have lbr : b < wr.heap.size := Nat.lt_of_lt_of_le hb hbw.size
      have q0 : (0 : Int) ≤ (k : Int) := by omega
      have q1 : (k : Int) < (n : Int) := by omega
      have lw := hbw.size
      clear hR hbw HX1 HX2
      go_upto_region 7 with fail
      have HS := Lib.hid (show (fun w' : World => w'.cell? ⟨b, off + k * 4, none⟩ = some (.int .i64 (ps k).s1) ∧ w'.cell? ⟨b, off + k * 4 + 1, none⟩ = some (.int .i64 (ps k).s2) ∧ w'.cell? ⟨b, off + k * 4 + 2, none⟩ = some (.int .i64 (ps k).ti) ∧ w'.cell? ⟨b, off + k * 4 + 3, none⟩ = some (.int .i64 (ps k).sz) ∧ Below wr.drew.heap.size wr.drew w') wr.drew from ⟨c0, c1, c2', c3', Below.refl _ _⟩)
      have HD := Lib.hid (show PrsAt wr b off n ps from HS0.out.keep HR.out.b hb)
      clear c0 c1 c2' c3'
      refine wp_region_held_tail (S := (fun w' : World => w'.cell? ⟨b, off + k * 4, none⟩ = some (.int .i64 (ps k).s1) ∧ w'.cell? ⟨b, off + k * 4 + 1, none⟩ = some (.int .i64 (ps k).s2) ∧ w'.cell? ⟨b, off + k * 4 + 2, none⟩ = some (.int .i64 (ps k).ti) ∧ w'.cell? ⟨b, off + k * 4 + 3, none⟩ = some (.int .i64 (ps k).sz) ∧ Below wr.drew.heap.size wr.drew w')) 13 (by kernel_rfl) (by kernel_rfl) HS.out (fun hHeld => ?_)
      refine wpAnyH_take (i := 0) (v := ?v0_1) rfl (by kernel_rfl) (by kernel_rfl) (by kernel_rfl) (fun _ _ _ h => h) (Or.inl ⟨by rfl, ?hy0_1⟩) (by assumption) ?rest0_1
      case hy0_1 => (intro w hSw; (try dsimp only at hSw); go_simp; (try with_reducible rfl))
      try simp only [Act.put, List.getElem_toArray, List.getElem_cons_zero, List.getElem_cons_succ, List.setIfInBounds_toArray, List.set_cons_zero, List.set_cons_succ]
      refine wpAnyH_take (i := 1) (v := ?v1_2) rfl (by kernel_rfl) (by kernel_rfl) (by kernel_rfl) (fun _ _ _ h => h) (Or.inl ⟨by rfl, ?hy1_2⟩) (by assumption) ?rest1_2
      case hy1_2 => (intro w hSw; (try dsimp only at hSw); go_simp; (try with_reducible rfl))
      try simp only [Act.put, List.getElem_toArray, List.getElem_cons_zero, List.getElem_cons_succ, List.setIfInBounds_toArray, List.set_cons_zero, List.set_cons_succ]
      refine wpAnyH_take (i := 2) (v := ?v2_3) rfl (by kernel_rfl) (by kernel_rfl) (by kernel_rfl) (fun _ _ _ h => h) (Or.inl ⟨by rfl, ?hy2_3⟩) (by assumption) ?rest2_3
      case hy2_3 => (intro w hSw; (try dsimp only at hSw); go_simp; (try with_reducible rfl))
      try simp only [Act.put, List.getElem_toArray, List.getElem_cons_zero, List.getElem_cons_succ, List.setIfInBounds_toArray, List.set_cons_zero, List.set_cons_succ]
      refine wpAnyH_take (i := 3) (v := ?v3_4) rfl (by kernel_rfl) (by kernel_rfl) (by kernel_rfl) (fun _ _ _ h => h) (Or.inl ⟨by rfl, ?hy3_4⟩) (by assumption) ?rest3_4
      case hy3_4 => (intro w hSw; (try dsimp only at hSw); go_simp; (try with_reducible rfl))
      try simp only [Act.put, List.getElem_toArray, List.getElem_cons_zero, List.getElem_cons_succ, List.setIfInBounds_toArray, List.set_cons_zero, List.set_cons_succ]
      refine wpAnyH_take (i := 4) (v := ?v4_5) rfl (by kernel_rfl) (by kernel_rfl) (by kernel_rfl) (fun _ _ _ h => h) (Or.inl ⟨by rfl, ?hy4_5⟩) (by assumption) ?rest4_5
      case hy4_5 => (intro w hSw; (try dsimp only at hSw); go_simp; (try with_reducible rfl))
      try simp only [Act.put, List.getElem_toArray, List.getElem_cons_zero, List.getElem_cons_succ, List.setIfInBounds_toArray, List.set_cons_zero, List.set_cons_succ]
      refine wpAnyH_take (i := 5) (v := ?v5_6) rfl (by kernel_rfl) (by kernel_rfl) (by kernel_rfl) (fun _ _ _ h => h) (Or.inl ⟨by rfl, ?hy5_6⟩) (by assumption) ?rest5_6
      case hy5_6 => (intro w hSw; (try dsimp only at hSw); go_simp; (try with_reducible rfl))
      try simp only [Act.put, List.getElem_toArray, List.getElem_cons_zero, List.getElem_cons_succ, List.setIfInBounds_toArray, List.set_cons_zero, List.set_cons_succ]
      refine wpAnyH_take (i := 6) (v := ?v6_7) rfl (by kernel_rfl) (by kernel_rfl) (by kernel_rfl) (fun _ _ _ h => h) (Or.inl ⟨by rfl, ?hy6_7⟩) (by assumption) ?rest6_7
      case hy6_7 => (intro w hSw; (try dsimp only at hSw); go_simp; (try with_reducible rfl))
      try simp only [Act.put, List.getElem_toArray, List.getElem_cons_zero, List.getElem_cons_succ, List.setIfInBounds_toArray, List.set_cons_zero, List.set_cons_succ]
      refine wpAnyH_take (i := 7) (v := ?v7_8) rfl (by kernel_rfl) (by kernel_rfl) (by kernel_rfl) (fun _ _ _ h => h) (Or.inl ⟨by rfl, ?hy7_8⟩) (by assumption) ?rest7_8
      case hy7_8 => (intro w hSw; (try dsimp only at hSw); go_simp; (try with_reducible rfl))
      try simp only [Act.put, List.getElem_toArray, List.getElem_cons_zero, List.getElem_cons_succ, List.setIfInBounds_toArray, List.set_cons_zero, List.set_cons_succ]
      refine wpAnyH_take (i := 8) (v := ?v8_9) rfl (by kernel_rfl) (by kernel_rfl) (by kernel_rfl) (fun _ _ _ h => h) (Or.inl ⟨by rfl, ?hy8_9⟩) (by assumption) ?rest8_9
      case hy8_9 => (intro w hSw; (try dsimp only at hSw); go_simp; (try with_reducible rfl))
      try simp only [Act.put, List.getElem_toArray, List.getElem_cons_zero, List.getElem_cons_succ, List.setIfInBounds_toArray, List.set_cons_zero, List.set_cons_succ]
      refine wpAnyH_take (i := 9) (v := ?v9_10) rfl (by kernel_rfl) (by kernel_rfl) (by kernel_rfl) (fun _ _ _ h => h) (Or.inl ⟨by rfl, ?hy9_10⟩) (by assumption) ?rest9_10
      case hy9_10 => (intro w hSw; (try dsimp only at hSw); go_simp; (try with_reducible rfl))
      try simp only [Act.put, List.getElem_toArray, List.getElem_cons_zero, List.getElem_cons_succ, List.setIfInBounds_toArray, List.set_cons_zero, List.set_cons_succ]
      refine wpAnyH_take (i := 10) (v := ?v10_11) rfl (by kernel_rfl) (by kernel_rfl) (by kernel_rfl) (fun _ _ _ h => h) (Or.inl ⟨by rfl, ?hy10_11⟩) (by assumption) ?rest10_11
      case hy10_11 => (intro w hSw; (try dsimp only at hSw); go_simp; (try with_reducible rfl))
      try simp only [Act.put, List.getElem_toArray, List.getElem_cons_zero, List.getElem_cons_succ, List.setIfInBounds_toArray, List.set_cons_zero, List.set_cons_succ]
      refine wpAnyH_take (i := 11) (v := ?v11_12) rfl (by kernel_rfl) (by kernel_rfl) (by kernel_rfl) (fun _ _ _ h => h) (Or.inl ⟨by rfl, ?hy11_12⟩) (by assumption) ?rest11_12
      case hy11_12 => (intro w hSw; (try dsimp only at hSw); go_simp; (try with_reducible rfl))
      try simp only [Act.put, List.getElem_toArray, List.getElem_cons_zero, List.getElem_cons_succ, List.setIfInBounds_toArray, List.set_cons_zero, List.set_cons_succ]
      refine wpAnyH_ready (rs := [12]) (by kernel_rfl) (by simp) ?_
      refine AllReadyH.cons rfl (fun K hK => ?_) AllReadyH.nil
      go_simp
      refine hK.out _ _ (⟨keepW (below_alloc _ _) hHeld.1, keepW (below_alloc _ _) hHeld.2.1, keepW (below_alloc _ _) hHeld.2.2.1, keepW (below_alloc _ _) hHeld.2.2.2.1, hHeld.2.2.2.2.trans ((below_alloc _ _).mono hHeld.2.2.2.2.size)⟩) (fun hHeld2 => ?_)
      clear hK K hHeld
      have hHeld := hHeld2
      clear hHeld2
      try simp only [Act.put, List.getElem_toArray, List.getElem_cons_zero, List.getElem_cons_succ, List.setIfInBounds_toArray, List.set_cons_zero, List.set_cons_succ]
      refine wpAnyH_done (by kernel_rfl) ?_ _
      change wpList _ _ _ _ _ _
      simp only [List.drop_succ_cons, List.drop_zero]
      clear hHeld HS
      have hown := HR.out.own
      have bD := Lib.hid (((Below.refl w.heap.size wr).alloc lw (.cells #[.int .i64 (ps k).s1, .int .i64 (ps k).s2, .int .i64 (ps k).ti, .int .i64 (ps k).sz] 73)).drew)
      have HF := Lib.hid (fun W => Fell_any (ps k).ti (ps k).sz W)
      have HG := Lib.hid (fun W => refFell_any (ps k).ti (ps k).sz W)
      go_wp2_with (first | (at_builtin; refine wpList_append_own _ rfl _ _ 66 rfl w.heap.size 73 i0 (.agg #[.int .i64 0, .int .i64 0, .int .i64 0, .int .i64 0]) 4 32 Try.underlying66 hi0 hz0 hz1 hz2 rfl (by decide) _ _ _ rfl (owns_keep (hown.alloc (.cells #[.int .i64 (ps k).s1, .int .i64 (ps k).s2, .int .i64 (ps k).ti, .int .i64 (ps k).sz] 73)) (Below.refl _ _).drew) ⟨wr.heap.size, 0, none⟩ 1 1 [.int .i64 (ps k).s1, .int .i64 (ps k).s2, .int .i64 (ps k).ti, .int .i64 (ps k).sz] rfl rfl (cell_4_new wr _ _ _ _ _) ?c2 ?c3 ?c4 ?c5 ?_) | go_in)
      case c2 => first | (simp [Value.oneCell']; done) | (intro u hu; simp at hu; rcases hu with rfl | rfl | rfl | rfl <;> rfl)
      case c3 => unfold maxLen; omega
      case c4 => omega
      case c5 => first | omega | (simp; omega)
      intro v' w7 hown' hgrow _
      have R7 := Lib.hid (HR.out.put bD.out hgrow hown')
      have b7 := R7.out.b
      have c2' := keepB b7 hb (HS0.out k hlt).2.2.1
      have c3' := keepB b7 hb (HS0.out k hlt).2.2.2
      have lb7 : b < w7.heap.size := Nat.lt_of_lt_of_le hb b7.size
      clear hown' hgrow hown HR bD HD b7
      generalize feLo (ps k).ti (ps k).sz = fl at *
      generalize feHi (ps k).ti (ps k).sz = fh at *
      generalize feE (ps k).ti (ps k).sz = fe at *
      generalize (ps k).ti = x3 at *
      generalize (ps k).sz = x4 at *
      go_wp2_with fail
      refine (HF.out _).mono ?_; rintro e X ⟨rfl, hb2⟩
      have R7 := Lib.hid (R7.out.keep hb2)
      have c2' := keepB hb2 lb7 c2'
      have c3' := keepB hb2 lb7 c3'
      have lb7 := Nat.lt_of_lt_of_le lb7 hb2.size
      have bb := below_alloc X (.cells #[.int .i64 fl, .int .i64 fh] 24)
      have R7 := Lib.hid (R7.out.keep bb)
      have c2' := keepB bb lb7 c2'
      have c3' := keepB bb lb7 c3'
      have lb7 := Nat.lt_of_lt_of_le lb7 bb.size
      have y0 : (X.alloc (.cells #[.int .i64 fl, .int .i64 fh] 24)).cell? ⟨X.heap.size, 0, none⟩ = some (.int .i64 fl) := alloc_new rfl rfl
      have y1 : (X.alloc (.cells #[.int .i64 fl, .int .i64 fh] 24)).cell? ⟨X.heap.size, 1, none⟩ = some (.int .i64 fh) := alloc_new rfl rfl
      have yz : X.heap.size < (X.alloc (.cells #[.int .i64 fl, .int .i64 fh] 24)).heap.size := by rw [World.size_alloc]; omega
      obtain ⟨q, hq⟩ : ∃ q, q = X.heap.size := ⟨_, rfl⟩
      obtain ⟨Y, hY⟩ : ∃ Y, Y = X.alloc (.cells #[.int .i64 fl, .int .i64 fh] 24) := ⟨_, rfl⟩
      rw [← hY, ← hq] at y0 y1 yz
      rw [← hY] at R7 c2' c3' lb7
      clear hb2 bb HF
      go_wp2_with fail
      rw [← hY]
      try rw [← hq]
      clear hY hq
      refine (HG.out _).mono ?_; rintro e V ⟨rfl, hb2⟩
      have R7 := Lib.hid (R7.out.keep hb2)
      have y0 := keepB hb2 yz y0
      have y1 := keepB hb2 yz y1
      have yz := Nat.lt_of_lt_of_le yz hb2.size
      have bb := below_alloc V (.cells #[.int .i64 fl, .int .i64 fh] 24)
      have R7 := Lib.hid (R7.out.keep bb)
      have y0 := keepB bb yz y0
      have y1 := keepB bb yz y1
      have z0 : (V.alloc (.cells #[.int .i64 fl, .int .i64 fh] 24)).cell? ⟨V.heap.size, 0, none⟩ = some (.int .i64 fl) := alloc_new rfl rfl
      have z1 : (V.alloc (.cells #[.int .i64 fl, .int .i64 fh] 24)).cell? ⟨V.heap.size, 1, none⟩ = some (.int .i64 fh) := alloc_new rfl rfl
      obtain ⟨p, hp⟩ : ∃ q, q = V.heap.size := ⟨_, rfl⟩
      obtain ⟨U, hU⟩ : ∃ Y, Y = V.alloc (.cells #[.int .i64 fl, .int .i64 fh] 24) := ⟨_, rfl⟩
      rw [← hU, ← hp] at z0 z1
      rw [← hU] at R7 y0 y1
      clear hb2 bb HG c2' c3' lb7
      go_upto_region 10 with fail
      rw [← hU]
      try rw [← hp]
      clear hU hp
      go_wp2
      go_roundw
      case rel => exact ⟨k + 1, by omega, by go_num, R7.out⟩
      case measure => simp [intOf]; omega
    · obtain rfl : n = k := by omega
      obtain ⟨ma, mc, rfl, hmr⟩ := own_prs hR.own hR.nil
      have HMR := Lib.hid hmr
      clear hmr hR HR HS0
      have HX := Lib.hid (HX1.out wr hbw)
      clear HX1
      go_wp2_with fail
      refine (HX.out).mono ?_; rintro e C ⟨x, y, i, j, c, hA, rfl, hb1⟩
      have bC := hbw.trans (hb1.mono hbw.size)
      have HMR := Lib.hid (HMR.out.keep hb1)
      have HA := Lib.hid hA
      clear hb1 hA HX hbw
      obtain ⟨D, hD, bD, zD, y0, y1, y2, y3⟩ := four_boxes C x y (i : Int) (j : Int)
      have HMR := Lib.hid (HMR.out.keep bD)
      have bD2 := bC.trans (bD.mono bC.size)
      obtain ⟨qa, hqa⟩ : ∃ q, q = C.heap.size := ⟨_, rfl⟩
      obtain ⟨qb, hqb⟩ : ∃ q, q = C.heap.size + 1 := ⟨_, rfl⟩
      rw [← hqa] at y0 y1
      rw [← hqb] at y2 y3
      have zA : qa < D.heap.size := by omega
      have zB : qb < D.heap.size := by omega
      clear bD bC
      go_wp2_with fail
      rw [← hD]
      try rw [← hqb]
      try rw [← hqa]
      clear hD hqa hqb zD
      refine (HX2.out _ _ _ HMR.out).mono ?_; rintro e E ⟨x2, y2', i2, j2, c2, hA2, rfl, hb1⟩
      have bE := bD2.trans (hb1.mono bD2.size)
      have y0 := keepB hb1 zA y0
      have y1 := keepB hb1 zA y1
      have y2 := keepB hb1 zB y2
      have y3 := keepB hb1 zB y3
      have zA := Nat.lt_of_lt_of_le zA hb1.size
      have zB := Nat.lt_of_lt_of_le zB hb1.size
      obtain ⟨rfl, rfl, rfl, rfl, rfl⟩ := HA.out.uniq hA2
      clear hb1 hA2 HA HX2 HMR bD2
      obtain ⟨F, hF, bF, zF, w0, w1, w2, w3⟩ := four_boxes E x y (i : Int) (j : Int)
      have y0 := keepB bF zA y0
      have y1 := keepB bF zA y1
      have y2 := keepB bF zB y2
      have y3 := keepB bF zB y3
      have bF2 := bE.trans (bF.mono bE.size)
      obtain ⟨qc, hqc⟩ : ∃ q, q = E.heap.size := ⟨_, rfl⟩
      obtain ⟨qd, hqd⟩ : ∃ q, q = E.heap.size + 1 := ⟨_, rfl⟩
      rw [← hqc] at w0 w1
      rw [← hqd] at w2 w3
      clear bE bF zA zB
      generalize (i : Int) = ii at *
      generalize (j : Int) = jj at *
      have e76 := fun W => eq76 ii jj ii jj W
      simp only [beq_self_eq_true, Bool.and_self] at e76
      go_upto_region 14 with fail
      rw [← hF]
      try rw [← hqd]
      try rw [← hqc]
      clear hF hqc hqd zF
      go_wp2_with fail
      refine (works_any _).mono ?_; rintro e G ⟨rfl, hb1⟩
      have bG := bF2.trans (hb1.mono bF2.size)
      clear hb1
      go_wp2
      go_ret
      exact ⟨rfl, bG⟩

set_option maxRecDepth 100000 in
set_option maxHeartbeats 12800000 in
theorem RainGauges_m (b off n cap : Nat) (ps : Nat → Pr) (w : World) (hn : 100 < n ∧ n ≤ 200) (hs : PrsAt w b off n ps) (hb : b < w.heap.size) (hr : PrsIs w (some ⟨b, off, none⟩) n ps) :
    Calls Try.prog 7 #[.slice (some ⟨b, off, none⟩) n cap] w fun e w' => e = .returned (.bool true) ∧ Below w.heap.size w w' := by
  obtain ⟨i0, hi0, hz0, hz1, hz2⟩ := info_parts info73
  have d1 : decide (40 < (n : Int)) = true := decide_eq_true (by omega)
  have d2 : decide ((n : Int) ≤ 100) = false := decide_eq_false (by omega)
  have d3 : decide (200 < ((n : Nat) : Int)) = false := decide_eq_false (by omega)
  have HX1 := Lib.hid (fun W (hW : Below w.heap.size w W) => Adjust_any (some ⟨b, off, none⟩) n cap ps W (by unfold maxLen; omega) (hr.keep hW))
  have HX2 := Lib.hid (fun (ma : Option Addr) (mc : Nat) W (h : PrsIs W ma n ps) => refAdjust_any ma n mc ps W (by unfold maxLen; omega) h)
  unfold AdjRet at HX1 HX2
  clear hr
  have HS0 := Lib.hid hs
  clear hs
  go_enter Try.func7, Try.ntmps7
  go_wp2
  go_loopw [3, 4] (fun v i wr => ∃ k : Nat, k ≤ n ∧ i = .int .i64 k ∧ PrRel w wr k v ps) (fun _ i _ => n - (intOf i).toNat)
  case atStart => exact ⟨0, Nat.zero_le _, rfl, World.ownsRow_nil _ _ _ _, fun _ => rfl, Below.refl _ _⟩
  case round =>
    obtain ⟨k, hk, rfl, hR⟩ := hrel
    have HR := Lib.hid hR
    have hbw := hR.b
    by_cases hlt : k < n
    · have c0 := keepB hbw hb (HS0.out k hlt).1
      have c1 := keepB hbw hb (HS0.out k hlt).2.1
      have c2' := keepB hbw hb (HS0.out k hlt).2.2.1
      have c3' := keepB hbw hb (HS0.out k hlt).2.2.2
      have lbr : b < wr.heap.size := Nat.lt_of_lt_of_le hb hbw.size
      have q0 : (0 : Int) ≤ (k : Int) := by omega
      have q1 : (k : Int) < (n : Int) := by omega
      have lw := hbw.size
      clear hR hbw HX1 HX2
      go_upto_region 7 with fail
      have HS := Lib.hid (show (fun w' : World => w'.cell? ⟨b, off + k * 4, none⟩ = some (.int .i64 (ps k).s1) ∧ w'.cell? ⟨b, off + k * 4 + 1, none⟩ = some (.int .i64 (ps k).s2) ∧ w'.cell? ⟨b, off + k * 4 + 2, none⟩ = some (.int .i64 (ps k).ti) ∧ w'.cell? ⟨b, off + k * 4 + 3, none⟩ = some (.int .i64 (ps k).sz) ∧ Below wr.drew.heap.size wr.drew w') wr.drew from ⟨c0, c1, c2', c3', Below.refl _ _⟩)
      have HD := Lib.hid (show PrsAt wr b off n ps from HS0.out.keep HR.out.b hb)
      clear c0 c1 c2' c3'
      refine wp_region_held_tail (S := (fun w' : World => w'.cell? ⟨b, off + k * 4, none⟩ = some (.int .i64 (ps k).s1) ∧ w'.cell? ⟨b, off + k * 4 + 1, none⟩ = some (.int .i64 (ps k).s2) ∧ w'.cell? ⟨b, off + k * 4 + 2, none⟩ = some (.int .i64 (ps k).ti) ∧ w'.cell? ⟨b, off + k * 4 + 3, none⟩ = some (.int .i64 (ps k).sz) ∧ Below wr.drew.heap.size wr.drew w')) 13 (by kernel_rfl) (by kernel_rfl) HS.out (fun hHeld => ?_)
      refine wpAnyH_take (i := 0) (v := ?v0_1) rfl (by kernel_rfl) (by kernel_rfl) (by kernel_rfl) (fun _ _ _ h => h) (Or.inl ⟨by rfl, ?hy0_1⟩) (by assumption) ?rest0_1
      case hy0_1 => (intro w hSw; (try dsimp only at hSw); go_simp; (try with_reducible rfl))
      try simp only [Act.put, List.getElem_toArray, List.getElem_cons_zero, List.getElem_cons_succ, List.setIfInBounds_toArray, List.set_cons_zero, List.set_cons_succ]
      refine wpAnyH_take (i := 1) (v := ?v1_2) rfl (by kernel_rfl) (by kernel_rfl) (by kernel_rfl) (fun _ _ _ h => h) (Or.inl ⟨by rfl, ?hy1_2⟩) (by assumption) ?rest1_2
      case hy1_2 => (intro w hSw; (try dsimp only at hSw); go_simp; (try with_reducible rfl))
      try simp only [Act.put, List.getElem_toArray, List.getElem_cons_zero, List.getElem_cons_succ, List.setIfInBounds_toArray, List.set_cons_zero, List.set_cons_succ]
      refine wpAnyH_take (i := 2) (v := ?v2_3) rfl (by kernel_rfl) (by kernel_rfl) (by kernel_rfl) (fun _ _ _ h => h) (Or.inl ⟨by rfl, ?hy2_3⟩) (by assumption) ?rest2_3
      case hy2_3 => (intro w hSw; (try dsimp only at hSw); go_simp; (try with_reducible rfl))
      try simp only [Act.put, List.getElem_toArray, List.getElem_cons_zero, List.getElem_cons_succ, List.setIfInBounds_toArray, List.set_cons_zero, List.set_cons_succ]
      refine wpAnyH_take (i := 3) (v := ?v3_4) rfl (by kernel_rfl) (by kernel_rfl) (by kernel_rfl) (fun _ _ _ h => h) (Or.inl ⟨by rfl, ?hy3_4⟩) (by assumption) ?rest3_4
      case hy3_4 => (intro w hSw; (try dsimp only at hSw); go_simp; (try with_reducible rfl))
      try simp only [Act.put, List.getElem_toArray, List.getElem_cons_zero, List.getElem_cons_succ, List.setIfInBounds_toArray, List.set_cons_zero, List.set_cons_succ]
      refine wpAnyH_take (i := 4) (v := ?v4_5) rfl (by kernel_rfl) (by kernel_rfl) (by kernel_rfl) (fun _ _ _ h => h) (Or.inl ⟨by rfl, ?hy4_5⟩) (by assumption) ?rest4_5
      case hy4_5 => (intro w hSw; (try dsimp only at hSw); go_simp; (try with_reducible rfl))
      try simp only [Act.put, List.getElem_toArray, List.getElem_cons_zero, List.getElem_cons_succ, List.setIfInBounds_toArray, List.set_cons_zero, List.set_cons_succ]
      refine wpAnyH_take (i := 5) (v := ?v5_6) rfl (by kernel_rfl) (by kernel_rfl) (by kernel_rfl) (fun _ _ _ h => h) (Or.inl ⟨by rfl, ?hy5_6⟩) (by assumption) ?rest5_6
      case hy5_6 => (intro w hSw; (try dsimp only at hSw); go_simp; (try with_reducible rfl))
      try simp only [Act.put, List.getElem_toArray, List.getElem_cons_zero, List.getElem_cons_succ, List.setIfInBounds_toArray, List.set_cons_zero, List.set_cons_succ]
      refine wpAnyH_take (i := 6) (v := ?v6_7) rfl (by kernel_rfl) (by kernel_rfl) (by kernel_rfl) (fun _ _ _ h => h) (Or.inl ⟨by rfl, ?hy6_7⟩) (by assumption) ?rest6_7
      case hy6_7 => (intro w hSw; (try dsimp only at hSw); go_simp; (try with_reducible rfl))
      try simp only [Act.put, List.getElem_toArray, List.getElem_cons_zero, List.getElem_cons_succ, List.setIfInBounds_toArray, List.set_cons_zero, List.set_cons_succ]
      refine wpAnyH_take (i := 7) (v := ?v7_8) rfl (by kernel_rfl) (by kernel_rfl) (by kernel_rfl) (fun _ _ _ h => h) (Or.inl ⟨by rfl, ?hy7_8⟩) (by assumption) ?rest7_8
      case hy7_8 => (intro w hSw; (try dsimp only at hSw); go_simp; (try with_reducible rfl))
      try simp only [Act.put, List.getElem_toArray, List.getElem_cons_zero, List.getElem_cons_succ, List.setIfInBounds_toArray, List.set_cons_zero, List.set_cons_succ]
      refine wpAnyH_take (i := 8) (v := ?v8_9) rfl (by kernel_rfl) (by kernel_rfl) (by kernel_rfl) (fun _ _ _ h => h) (Or.inl ⟨by rfl, ?hy8_9⟩) (by assumption) ?rest8_9
      case hy8_9 => (intro w hSw; (try dsimp only at hSw); go_simp; (try with_reducible rfl))
      try simp only [Act.put, List.getElem_toArray, List.getElem_cons_zero, List.getElem_cons_succ, List.setIfInBounds_toArray, List.set_cons_zero, List.set_cons_succ]
      refine wpAnyH_take (i := 9) (v := ?v9_10) rfl (by kernel_rfl) (by kernel_rfl) (by kernel_rfl) (fun _ _ _ h => h) (Or.inl ⟨by rfl, ?hy9_10⟩) (by assumption) ?rest9_10
      case hy9_10 => (intro w hSw; (try dsimp only at hSw); go_simp; (try with_reducible rfl))
      try simp only [Act.put, List.getElem_toArray, List.getElem_cons_zero, List.getElem_cons_succ, List.setIfInBounds_toArray, List.set_cons_zero, List.set_cons_succ]
      refine wpAnyH_take (i := 10) (v := ?v10_11) rfl (by kernel_rfl) (by kernel_rfl) (by kernel_rfl) (fun _ _ _ h => h) (Or.inl ⟨by rfl, ?hy10_11⟩) (by assumption) ?rest10_11
      case hy10_11 => (intro w hSw; (try dsimp only at hSw); go_simp; (try with_reducible rfl))
      try simp only [Act.put, List.getElem_toArray, List.getElem_cons_zero, List.getElem_cons_succ, List.setIfInBounds_toArray, List.set_cons_zero, List.set_cons_succ]
      refine wpAnyH_take (i := 11) (v := ?v11_12) rfl (by kernel_rfl) (by kernel_rfl) (by kernel_rfl) (fun _ _ _ h => h) (Or.inl ⟨by rfl, ?hy11_12⟩) (by assumption) ?rest11_12
      case hy11_12 => (intro w hSw; (try dsimp only at hSw); go_simp; (try with_reducible rfl))
      try simp only [Act.put, List.getElem_toArray, List.getElem_cons_zero, List.getElem_cons_succ, List.setIfInBounds_toArray, List.set_cons_zero, List.set_cons_succ]
      refine wpAnyH_ready (rs := [12]) (by kernel_rfl) (by simp) ?_
      refine AllReadyH.cons rfl (fun K hK => ?_) AllReadyH.nil
      go_simp
      refine hK.out _ _ (⟨keepW (below_alloc _ _) hHeld.1, keepW (below_alloc _ _) hHeld.2.1, keepW (below_alloc _ _) hHeld.2.2.1, keepW (below_alloc _ _) hHeld.2.2.2.1, hHeld.2.2.2.2.trans ((below_alloc _ _).mono hHeld.2.2.2.2.size)⟩) (fun hHeld2 => ?_)
      clear hK K hHeld
      have hHeld := hHeld2
      clear hHeld2
      try simp only [Act.put, List.getElem_toArray, List.getElem_cons_zero, List.getElem_cons_succ, List.setIfInBounds_toArray, List.set_cons_zero, List.set_cons_succ]
      refine wpAnyH_done (by kernel_rfl) ?_ _
      change wpList _ _ _ _ _ _
      simp only [List.drop_succ_cons, List.drop_zero]
      clear hHeld HS
      have hown := HR.out.own
      have bD := Lib.hid (((Below.refl w.heap.size wr).alloc lw (.cells #[.int .i64 (ps k).s1, .int .i64 (ps k).s2, .int .i64 (ps k).ti, .int .i64 (ps k).sz] 73)).drew)
      have HF := Lib.hid (fun W => Fell_any (ps k).ti (ps k).sz W)
      have HG := Lib.hid (fun W => refFell_any (ps k).ti (ps k).sz W)
      go_wp2_with (first | (at_builtin; refine wpList_append_own _ rfl _ _ 66 rfl w.heap.size 73 i0 (.agg #[.int .i64 0, .int .i64 0, .int .i64 0, .int .i64 0]) 4 32 Try.underlying66 hi0 hz0 hz1 hz2 rfl (by decide) _ _ _ rfl (owns_keep (hown.alloc (.cells #[.int .i64 (ps k).s1, .int .i64 (ps k).s2, .int .i64 (ps k).ti, .int .i64 (ps k).sz] 73)) (Below.refl _ _).drew) ⟨wr.heap.size, 0, none⟩ 1 1 [.int .i64 (ps k).s1, .int .i64 (ps k).s2, .int .i64 (ps k).ti, .int .i64 (ps k).sz] rfl rfl (cell_4_new wr _ _ _ _ _) ?c2 ?c3 ?c4 ?c5 ?_) | go_in)
      case c2 => first | (simp [Value.oneCell']; done) | (intro u hu; simp at hu; rcases hu with rfl | rfl | rfl | rfl <;> rfl)
      case c3 => unfold maxLen; omega
      case c4 => omega
      case c5 => first | omega | (simp; omega)
      intro v' w7 hown' hgrow _
      have R7 := Lib.hid (HR.out.put bD.out hgrow hown')
      have b7 := R7.out.b
      have c2' := keepB b7 hb (HS0.out k hlt).2.2.1
      have c3' := keepB b7 hb (HS0.out k hlt).2.2.2
      have lb7 : b < w7.heap.size := Nat.lt_of_lt_of_le hb b7.size
      clear hown' hgrow hown HR bD HD b7
      generalize feLo (ps k).ti (ps k).sz = fl at *
      generalize feHi (ps k).ti (ps k).sz = fh at *
      generalize feE (ps k).ti (ps k).sz = fe at *
      generalize (ps k).ti = x3 at *
      generalize (ps k).sz = x4 at *
      go_wp2_with fail
      refine (HF.out _).mono ?_; rintro e X ⟨rfl, hb2⟩
      have R7 := Lib.hid (R7.out.keep hb2)
      have c2' := keepB hb2 lb7 c2'
      have c3' := keepB hb2 lb7 c3'
      have lb7 := Nat.lt_of_lt_of_le lb7 hb2.size
      have bb := below_alloc X (.cells #[.int .i64 fl, .int .i64 fh] 24)
      have R7 := Lib.hid (R7.out.keep bb)
      have c2' := keepB bb lb7 c2'
      have c3' := keepB bb lb7 c3'
      have lb7 := Nat.lt_of_lt_of_le lb7 bb.size
      have y0 : (X.alloc (.cells #[.int .i64 fl, .int .i64 fh] 24)).cell? ⟨X.heap.size, 0, none⟩ = some (.int .i64 fl) := alloc_new rfl rfl
      have y1 : (X.alloc (.cells #[.int .i64 fl, .int .i64 fh] 24)).cell? ⟨X.heap.size, 1, none⟩ = some (.int .i64 fh) := alloc_new rfl rfl
      have yz : X.heap.size < (X.alloc (.cells #[.int .i64 fl, .int .i64 fh] 24)).heap.size := by rw [World.size_alloc]; omega
      obtain ⟨q, hq⟩ : ∃ q, q = X.heap.size := ⟨_, rfl⟩
      obtain ⟨Y, hY⟩ : ∃ Y, Y = X.alloc (.cells #[.int .i64 fl, .int .i64 fh] 24) := ⟨_, rfl⟩
      rw [← hY, ← hq] at y0 y1 yz
      rw [← hY] at R7 c2' c3' lb7
      clear hb2 bb HF
      go_wp2_with fail
      rw [← hY]
      try rw [← hq]
      clear hY hq
      refine (HG.out _).mono ?_; rintro e V ⟨rfl, hb2⟩
      have R7 := Lib.hid (R7.out.keep hb2)
      have y0 := keepB hb2 yz y0
      have y1 := keepB hb2 yz y1
      have yz := Nat.lt_of_lt_of_le yz hb2.size
      have bb := below_alloc V (.cells #[.int .i64 fl, .int .i64 fh] 24)
      have R7 := Lib.hid (R7.out.keep bb)
      have y0 := keepB bb yz y0
      have y1 := keepB bb yz y1
      have z0 : (V.alloc (.cells #[.int .i64 fl, .int .i64 fh] 24)).cell? ⟨V.heap.size, 0, none⟩ = some (.int .i64 fl) := alloc_new rfl rfl
      have z1 : (V.alloc (.cells #[.int .i64 fl, .int .i64 fh] 24)).cell? ⟨V.heap.size, 1, none⟩ = some (.int .i64 fh) := alloc_new rfl rfl
      obtain ⟨p, hp⟩ : ∃ q, q = V.heap.size := ⟨_, rfl⟩
      obtain ⟨U, hU⟩ : ∃ Y, Y = V.alloc (.cells #[.int .i64 fl, .int .i64 fh] 24) := ⟨_, rfl⟩
      rw [← hU, ← hp] at z0 z1
      rw [← hU] at R7 y0 y1
      clear hb2 bb HG c2' c3' lb7
      go_upto_region 10 with fail
      rw [← hU]
      try rw [← hp]
      clear hU hp
      go_wp2
      go_roundw
      case rel => exact ⟨k + 1, by omega, by go_num, R7.out⟩
      case measure => simp [intOf]; omega
    · obtain rfl : n = k := by omega
      obtain ⟨ma, mc, rfl, hmr⟩ := own_prs hR.own hR.nil
      have HMR := Lib.hid hmr
      clear hmr hR HR HS0
      have HX := Lib.hid (HX1.out wr hbw)
      clear HX1
      go_wp2_with fail
      refine (HX.out).mono ?_; rintro e C ⟨x, y, i, j, c, hA, rfl, hb1⟩
      have bC := hbw.trans (hb1.mono hbw.size)
      have HMR := Lib.hid (HMR.out.keep hb1)
      have HA := Lib.hid hA
      clear hb1 hA HX hbw
      obtain ⟨D, hD, bD, zD, y0, y1, y2, y3⟩ := four_boxes C x y (i : Int) (j : Int)
      have HMR := Lib.hid (HMR.out.keep bD)
      have bD2 := bC.trans (bD.mono bC.size)
      obtain ⟨qa, hqa⟩ : ∃ q, q = C.heap.size := ⟨_, rfl⟩
      obtain ⟨qb, hqb⟩ : ∃ q, q = C.heap.size + 1 := ⟨_, rfl⟩
      rw [← hqa] at y0 y1
      rw [← hqb] at y2 y3
      have zA : qa < D.heap.size := by omega
      have zB : qb < D.heap.size := by omega
      clear bD bC
      go_wp2_with fail
      rw [← hD]
      try rw [← hqb]
      try rw [← hqa]
      clear hD hqa hqb zD
      refine (HX2.out _ _ _ HMR.out).mono ?_; rintro e E ⟨x2, y2', i2, j2, c2, hA2, rfl, hb1⟩
      have bE := bD2.trans (hb1.mono bD2.size)
      have y0 := keepB hb1 zA y0
      have y1 := keepB hb1 zA y1
      have y2 := keepB hb1 zB y2
      have y3 := keepB hb1 zB y3
      have zA := Nat.lt_of_lt_of_le zA hb1.size
      have zB := Nat.lt_of_lt_of_le zB hb1.size
      obtain ⟨rfl, rfl, rfl, rfl, rfl⟩ := HA.out.uniq hA2
      clear hb1 hA2 HA HX2 HMR bD2
      obtain ⟨F, hF, bF, zF, w0, w1, w2, w3⟩ := four_boxes E x y (i : Int) (j : Int)
      have y0 := keepB bF zA y0
      have y1 := keepB bF zA y1
      have y2 := keepB bF zB y2
      have y3 := keepB bF zB y3
      have bF2 := bE.trans (bF.mono bE.size)
      obtain ⟨qc, hqc⟩ : ∃ q, q = E.heap.size := ⟨_, rfl⟩
      obtain ⟨qd, hqd⟩ : ∃ q, q = E.heap.size + 1 := ⟨_, rfl⟩
      rw [← hqc] at w0 w1
      rw [← hqd] at w2 w3
      clear bE bF zA zB
      generalize (i : Int) = ii at *
      generalize (j : Int) = jj at *
      have e76 := fun W => eq76 ii jj ii jj W
      simp only [beq_self_eq_true, Bool.and_self] at e76
      go_upto_region 14 with fail
      rw [← hF]
      try rw [← hqd]
      try rw [← hqc]
      clear hF hqc hqd zF
      go_wp2_with fail
      refine (works_any _).mono ?_; rintro e G ⟨rfl, hb1⟩
      have bG := bF2.trans (hb1.mono bF2.size)
      clear hb1
      go_wp2
      go_ret
      exact ⟨rfl, bG⟩

set_option maxRecDepth 100000 in
set_option maxHeartbeats 12800000 in
theorem RainGauges_nil (a : Option Addr) (cap : Nat) (ps : Nat → Pr) (w : World) (hr : PrsIs w a 0 ps) :
    Calls Try.prog 7 #[.slice a 0 cap] w fun e w' => e = .returned (.bool true) ∧ Below w.heap.size w w' := by
  have d3 : decide (200 < ((0 : Nat) : Int)) = false := decide_eq_false (by omega)
  have HX1 := Lib.hid (fun W (hW : Below w.heap.size w W) => Adjust_any a 0 cap ps W (by unfold maxLen; omega) (hr.keep hW))
  have HX2 := Lib.hid (fun (ma : Option Addr) (mc : Nat) W (h : PrsIs W ma 0 ps) => refAdjust_any ma 0 mc ps W (by unfold maxLen; omega) h)
  unfold AdjRet at HX1 HX2
  clear hr
  go_enter Try.func7, Try.ntmps7
  go_wp2
  go_loopw [3, 4] (fun v i wr => v = .slice none 0 0 ∧ i = .int .i64 0 ∧ Below w.heap.size w wr) (fun _ i _ => 0)
  case atStart => exact ⟨rfl, rfl, Below.refl _ _⟩
  case round =>
    obtain ⟨rfl, rfl, hbw⟩ := hrel
    have hmr : PrsIs wr (none : Option Addr) 0 ps := .inl rfl
    have HMR := Lib.hid hmr
    clear hmr
    have HX := Lib.hid (HX1.out wr hbw)
    clear HX1
    go_wp2_with fail
    refine (HX.out).mono ?_; rintro e C ⟨x, y, i, j, c, hA, rfl, hb1⟩
    have bC := hbw.trans (hb1.mono hbw.size)
    have HMR := Lib.hid (HMR.out.keep hb1)
    have HA := Lib.hid hA
    clear hb1 hA HX hbw
    obtain ⟨D, hD, bD, zD, y0, y1, y2, y3⟩ := four_boxes C x y (i : Int) (j : Int)
    have HMR := Lib.hid (HMR.out.keep bD)
    have bD2 := bC.trans (bD.mono bC.size)
    obtain ⟨qa, hqa⟩ : ∃ q, q = C.heap.size := ⟨_, rfl⟩
    obtain ⟨qb, hqb⟩ : ∃ q, q = C.heap.size + 1 := ⟨_, rfl⟩
    rw [← hqa] at y0 y1
    rw [← hqb] at y2 y3
    have zA : qa < D.heap.size := by omega
    have zB : qb < D.heap.size := by omega
    clear bD bC
    go_wp2_with fail
    rw [← hD]
    try rw [← hqb]
    try rw [← hqa]
    clear hD hqa hqb zD
    refine (HX2.out _ _ _ HMR.out).mono ?_; rintro e E ⟨x2, y2', i2, j2, c2, hA2, rfl, hb1⟩
    have bE := bD2.trans (hb1.mono bD2.size)
    have y0 := keepB hb1 zA y0
    have y1 := keepB hb1 zA y1
    have y2 := keepB hb1 zB y2
    have y3 := keepB hb1 zB y3
    have zA := Nat.lt_of_lt_of_le zA hb1.size
    have zB := Nat.lt_of_lt_of_le zB hb1.size
    obtain ⟨rfl, rfl, rfl, rfl, rfl⟩ := HA.out.uniq hA2
    clear hb1 hA2 HA HX2 HMR bD2
    obtain ⟨F, hF, bF, zF, w0, w1, w2, w3⟩ := four_boxes E x y (i : Int) (j : Int)
    have y0 := keepB bF zA y0
    have y1 := keepB bF zA y1
    have y2 := keepB bF zB y2
    have y3 := keepB bF zB y3
    have bF2 := bE.trans (bF.mono bE.size)
    obtain ⟨qc, hqc⟩ : ∃ q, q = E.heap.size := ⟨_, rfl⟩
    obtain ⟨qd, hqd⟩ : ∃ q, q = E.heap.size + 1 := ⟨_, rfl⟩
    rw [← hqc] at w0 w1
    rw [← hqd] at w2 w3
    clear bE bF zA zB
    generalize (i : Int) = ii at *
    generalize (j : Int) = jj at *
    have e76 := fun W => eq76 ii jj ii jj W
    simp only [beq_self_eq_true, Bool.and_self] at e76
    go_upto_region 14 with fail
    rw [← hF]
    try rw [← hqd]
    try rw [← hqc]
    clear hF hqc hqd zF
    go_wp2_with fail
    refine (works_any _).mono ?_; rintro e G ⟨rfl, hb1⟩
    have bG := bF2.trans (hb1.mono bF2.size)
    clear hb1
    go_wp2
    go_ret
    exact ⟨rfl, bG⟩

theorem RainGauges_walk (a : Option Addr) (n cap : Nat) (ps : Nat → Pr) (w : World) (hm : n ≤ maxLen) (hr : PrsIs w a n ps) :
    Calls Try.prog 7 #[.slice a n cap] w fun e w' => e = .returned (.bool true) ∧ Below w.heap.size w w' := by
  by_cases h : 40 < n ∧ n ≤ 100 ∨ 200 < n
  · exact RainGauges_big a n cap w hm h
  by_cases h0 : n = 0
  · subst h0
    exact RainGauges_nil a cap ps w hr
  rcases hr with h1 | ⟨b, off, rfl, hb, hs⟩
  · exact absurd h1 h0
  by_cases h2 : n ≤ 40
  · exact RainGauges_s b off n cap ps w h2 hs hb (.inr ⟨b, off, rfl, hb, hs⟩)
  · exact RainGauges_m b off n cap ps w (by omega) hs hb (.inr ⟨b, off, rfl, hb, hs⟩)

end Go.Proofs.Ytdmbkhmhaininaa
