/-
  Speeds.
-/
import Derived.Test.Ytmojnopgpgnfeaamg2
import Derived.Test.Ytmojnopgpgnfeaamg17
namespace Go.Proofs.Ytmojnopgpgnfeaa
open Go.RowKit
set_option linter.unusedVariables false
set_option linter.unusedSimpArgs false

/-- the error of a speed -/
def spE (l k f s c wh lo hi n : Int) : Int := if timE l k f s c wh = 0 then (if spanB lo hi (-131072) 131072 = true ∧ inB n (-64) 64 = true then 0 else 3) else timE l k f s c wh
def spdL (l t a n : Int) : Int := (500 * l * (a + n * 65536)) / (t * 65536)
def spdH (l t a n : Int) : Int := -((-(500 * l * (a + n * 65536))) / (t * 65536))

/-- a train and a span in boxes, and a result that is open -/
structure SpE (w w' : World) (l k f s c lo hi : Int) : Prop where
  t0 : w'.cell? ⟨w.heap.size, 0, none⟩ = some (.int .i64 l)
  t1 : w'.cell? ⟨w.heap.size, 1, none⟩ = some (.int .i64 k)
  t2 : w'.cell? ⟨w.heap.size, 2, none⟩ = some (.int .i64 f)
  t3 : w'.cell? ⟨w.heap.size, 3, none⟩ = some (.int .i64 s)
  t4 : w'.cell? ⟨w.heap.size, 4, none⟩ = some (.int .i64 c)
  p : PairAt w' (w.heap.size + 1) (.int .i64 lo) (.int .i64 hi)
  o : OpenAt w' (w.heap.size + 1 + 1)
  z : w.heap.size + 3 ≤ w'.heap.size
  b : Below w.heap.size w w'
theorem SpE.new (w : World) (l k f s c lo hi : Int) (T : TypeId) : SpE w (((w.alloc (.cells #[.int .i64 l, .int .i64 k, .int .i64 f, .int .i64 s, .int .i64 c] T)).alloc (.cells #[.int .i64 lo, .int .i64 hi] 25)).alloc (.cells #[.int .i64 0, .int .i64 0] 25)) l k f s c lo hi := by
  obtain ⟨A1, e1⟩ : ∃ A, A = w.alloc (.cells #[.int .i64 l, .int .i64 k, .int .i64 f, .int .i64 s, .int .i64 c] T) := ⟨_, rfl⟩
  obtain ⟨A2, e2⟩ : ∃ A, A = A1.alloc (.cells #[.int .i64 lo, .int .i64 hi] 25) := ⟨_, rfl⟩
  have s1 : A1.heap.size = w.heap.size + 1 := by rw [e1]; exact World.size_alloc _ _
  have s2 : A2.heap.size = w.heap.size + 1 + 1 := by rw [e2, World.size_alloc, s1]
  rw [← e1, ← e2]
  obtain ⟨A3, e3⟩ : ∃ A, A = A2.alloc (.cells #[.int .i64 0, .int .i64 0] 25) := ⟨_, rfl⟩
  have s3 : A3.heap.size = w.heap.size + 3 := by rw [e3, World.size_alloc, s2]
  have b1 : Below w.heap.size w A1 := by rw [e1]; exact below_alloc _ _
  have b2 : Below A1.heap.size A1 A2 := by rw [e2]; exact below_alloc _ _
  have b3 : Below A2.heap.size A2 A3 := by rw [e3]; exact below_alloc _ _
  have c13 : Below A1.heap.size A1 A3 := b2.trans (b3.mono (by omega))
  have P0 : PairAt A2 (w.heap.size + 1) (.int .i64 lo) (.int .i64 hi) := by rw [e2, ← s1]; exact PairAt.new _ _ _ _
  have O0 : OpenAt A3 (w.heap.size + 1 + 1) := by rw [e3, ← s2]; exact OpenAt.new _ _ _ _
  rw [← e3]
  exact ⟨keepB c13 (by omega) (by rw [e1]; exact alloc_new rfl rfl), keepB c13 (by omega) (by rw [e1]; exact alloc_new rfl rfl), keepB c13 (by omega) (by rw [e1]; exact alloc_new rfl rfl), keepB c13 (by omega) (by rw [e1]; exact alloc_new rfl rfl), keepB c13 (by omega) (by rw [e1]; exact alloc_new rfl rfl), P0.keep b3 (by omega), O0, by omega, b1.trans (c13.mono (by omega))⟩
theorem SpE.keep {w W w1 : World} {B : Nat} {l k f s c lo hi : Int} (t : SpE w W l k f s c lo hi) (hb : Below B W w1) (h : w.heap.size + 3 ≤ B) : SpE w w1 l k f s c lo hi :=
  ⟨keepB hb (by omega) t.t0, keepB hb (by omega) t.t1, keepB hb (by omega) t.t2, keepB hb (by omega) t.t3, keepB hb (by omega) t.t4, t.p.keep hb (by omega), t.o.keep hb (by omega), Nat.le_trans t.z hb.size, t.b.trans (hb.mono (by omega))⟩
theorem prod_bd {l a n : Int} (l1 : 10000 ≤ l) (l2 : l ≤ 1000000) (a1 : -131072 ≤ a) (a2 : a ≤ 131072) (n1 : -64 ≤ n) (n2 : n ≤ 64) : -5000000000000000 ≤ 500 * l * (a + n * 65536) ∧ 500 * l * (a + n * 65536) ≤ 5000000000000000 := by
  obtain ⟨m, hm⟩ : ∃ m, m = a + n * 65536 := ⟨_, rfl⟩
  rw [← hm]
  have b1 : -4325376 ≤ m := by omega
  have b2 : m ≤ 4325376 := by omega
  by_cases h : 0 ≤ m
  · have h1 : 500 * l * m ≤ 500000000 * m := Int.mul_le_mul_of_nonneg_right (by omega) h
    have h2 : 0 ≤ 500 * l * m := Int.mul_nonneg (by omega) h
    omega
  · have h1 : 500000000 * m ≤ 500 * l * m := by
      have h3 : 500 * l * (-m) ≤ 500000000 * (-m) := Int.mul_le_mul_of_nonneg_right (by omega) (by omega)
      rw [Int.mul_neg, Int.mul_neg] at h3
      omega
    have h2 : 500 * l * m ≤ 0 := by
      have h3 : 0 ≤ 500 * l * (-m) := Int.mul_nonneg (by omega) (by omega)
      rw [Int.mul_neg] at h3
      omega
    omega

set_option maxHeartbeats 3200000 in
theorem Speed_err (l k f s c wh lo hi n : Int) (w : World) (h : ¬ timE l k f s c wh = 0) :
    Calls Try.prog 32 #[.agg #[.int .i64 l, .int .i64 k, .int .i64 f, .int .i64 s, .int .i64 c], .int .i64 wh, .agg #[.int .i64 lo, .int .i64 hi], .int .i64 n] w fun e w' => e = .returned (.tuple #[.agg #[.int .i64 0, .int .i64 0], .int .i64 (timE l k f s c wh)]) ∧ Below w.heap.size w w' := by
  have hne : (timE l k f s c wh != 0) = true := bne_iff_ne.2 h
  go_enter Try.func32, Try.ntmps32
  go_wp2_with fail
  refine (Fold_any _ _ _ _ _ _ _).mono ?_; rintro e w1 ⟨rfl, hb1⟩
  obtain ⟨t0, t1, t2, t3, t4, ⟨p0, p1⟩, ⟨r0, r1, g0, g1⟩, hz, hbw⟩ := (SpE.new w l k f s c lo hi 23).keep hb1 (by simp)
  clear hb1
  have y0 : w.heap.size < w1.heap.size := by omega
  have y1 : w.heap.size + 1 < w1.heap.size := by omega
  have y2 : w.heap.size + 1 + 1 < w1.heap.size := by omega
  go_wp2
  exact bodyPost_ret (v := .tuple #[.agg #[.int .i64 0, .int .i64 0], .int .i64 (timE l k f s c wh)]) (by simp [results, Try.results32, go_sem, set_other (i := 1) (j := 0) (b := w.heap.size + 1 + 1) (by decide) (set_same (v := .int .i64 0) r0), set_same (v := .int .i64 0) (set_other (i := 0) (j := 1) (b := w.heap.size + 1 + 1) (v := .int .i64 0) (by decide) r1)]) rfl ⟨rfl, (hbw.setCell (p := ⟨w.heap.size + 1 + 1, 0, none⟩) (by dsimp only; omega) _).setCell (p := ⟨w.heap.size + 1 + 1, 1, none⟩) (by dsimp only; omega) _⟩

set_option maxHeartbeats 3200000 in
theorem Speed_no0 (l k f s c wh lo hi n : Int) (w : World) (h : timE l k f s c wh = 0) (c0 : spanB lo hi (-131072) 131072 = false) :
    Calls Try.prog 32 #[.agg #[.int .i64 l, .int .i64 k, .int .i64 f, .int .i64 s, .int .i64 c], .int .i64 wh, .agg #[.int .i64 lo, .int .i64 hi], .int .i64 n] w fun e w' => e = .returned (.tuple #[.agg #[.int .i64 0, .int .i64 0], .int .i64 3]) ∧ Below w.heap.size w w' := by
  obtain ⟨⟨b1, b2⟩, b3, b4⟩ := tim_bd h
  go_enter Try.func32, Try.ntmps32
  go_wp2_with fail
  refine (Fold_any _ _ _ _ _ _ _).mono ?_; rintro e w1 ⟨rfl, hb1⟩
  obtain ⟨t0, t1, t2, t3, t4, ⟨p0, p1⟩, ⟨r0, r1, g0, g1⟩, hz, hbw⟩ := (SpE.new w l k f s c lo hi 23).keep hb1 (by simp)
  clear hb1
  have y0 : w.heap.size < w1.heap.size := by omega
  have y1 : w.heap.size + 1 < w1.heap.size := by omega
  have y2 : w.heap.size + 1 + 1 < w1.heap.size := by omega
  rw [if_pos h, h]
  clear h
  generalize timV l k f s c wh = v at b3 b4 ⊢
  go_wp2_with fail
  refine (isWithin_any _ _ _ _ _).mono ?_; rintro e w2 ⟨rfl, hb2⟩
  have O2 := (⟨t0, t1, t2, t3, t4, ⟨p0, p1⟩, ⟨r0, r1, g0, g1⟩, hz, hbw⟩ : SpE w w1 l k f s c lo hi).keep hb2 hz
  clear t0 t1 t2 t3 t4 p0 p1 r0 r1 g0 g1 hz hbw y0 y1 y2 hb2
  obtain ⟨t0, t1, t2, t3, t4, ⟨p0, p1⟩, ⟨r0, r1, g0, g1⟩, hz, hbw⟩ := O2
  have y0 : w.heap.size < w2.heap.size := by omega
  have y1 : w.heap.size + 1 < w2.heap.size := by omega
  have y2 : w.heap.size + 1 + 1 < w2.heap.size := by omega
  go_wp2
  exact bodyPost_ret (v := .tuple #[.agg #[.int .i64 0, .int .i64 0], .int .i64 3]) (by simp [results, Try.results32, go_sem, set_other (i := 1) (j := 0) (b := w.heap.size + 1 + 1) (by decide) (set_same (v := .int .i64 0) r0), set_same (v := .int .i64 0) (set_other (i := 0) (j := 1) (b := w.heap.size + 1 + 1) (v := .int .i64 0) (by decide) r1)]) rfl ⟨rfl, (hbw.setCell (p := ⟨w.heap.size + 1 + 1, 0, none⟩) (by dsimp only; omega) _).setCell (p := ⟨w.heap.size + 1 + 1, 1, none⟩) (by dsimp only; omega) _⟩

set_option maxHeartbeats 3200000 in
theorem Speed_no1 (l k f s c wh lo hi n : Int) (w : World) (h : timE l k f s c wh = 0) (c0 : spanB lo hi (-131072) 131072 = true) (c1 : inB n (-64) 64 = false) :
    Calls Try.prog 32 #[.agg #[.int .i64 l, .int .i64 k, .int .i64 f, .int .i64 s, .int .i64 c], .int .i64 wh, .agg #[.int .i64 lo, .int .i64 hi], .int .i64 n] w fun e w' => e = .returned (.tuple #[.agg #[.int .i64 0, .int .i64 0], .int .i64 3]) ∧ Below w.heap.size w w' := by
  obtain ⟨⟨b1, b2⟩, b3, b4⟩ := tim_bd h
  go_enter Try.func32, Try.ntmps32
  go_wp2_with fail
  refine (Fold_any _ _ _ _ _ _ _).mono ?_; rintro e w1 ⟨rfl, hb1⟩
  obtain ⟨t0, t1, t2, t3, t4, ⟨p0, p1⟩, ⟨r0, r1, g0, g1⟩, hz, hbw⟩ := (SpE.new w l k f s c lo hi 23).keep hb1 (by simp)
  clear hb1
  have y0 : w.heap.size < w1.heap.size := by omega
  have y1 : w.heap.size + 1 < w1.heap.size := by omega
  have y2 : w.heap.size + 1 + 1 < w1.heap.size := by omega
  rw [if_pos h, h]
  clear h
  generalize timV l k f s c wh = v at b3 b4 ⊢
  go_wp2_with fail
  refine (isWithin_any _ _ _ _ _).mono ?_; rintro e w2 ⟨rfl, hb2⟩
  have O2 := (⟨t0, t1, t2, t3, t4, ⟨p0, p1⟩, ⟨r0, r1, g0, g1⟩, hz, hbw⟩ : SpE w w1 l k f s c lo hi).keep hb2 hz
  clear t0 t1 t2 t3 t4 p0 p1 r0 r1 g0 g1 hz hbw y0 y1 y2 hb2
  obtain ⟨t0, t1, t2, t3, t4, ⟨p0, p1⟩, ⟨r0, r1, g0, g1⟩, hz, hbw⟩ := O2
  have y0 : w.heap.size < w2.heap.size := by omega
  have y1 : w.heap.size + 1 < w2.heap.size := by omega
  have y2 : w.heap.size + 1 + 1 < w2.heap.size := by omega
  go_wp2_with fail
  refine (isIn_any _ _ _ _).mono ?_; rintro e w' ⟨rfl, rfl⟩
  go_wp2
  exact bodyPost_ret (v := .tuple #[.agg #[.int .i64 0, .int .i64 0], .int .i64 3]) (by simp [results, Try.results32, go_sem, set_other (i := 1) (j := 0) (b := w.heap.size + 1 + 1) (by decide) (set_same (v := .int .i64 0) r0), set_same (v := .int .i64 0) (set_other (i := 0) (j := 1) (b := w.heap.size + 1 + 1) (v := .int .i64 0) (by decide) r1)]) rfl ⟨rfl, (hbw.setCell (p := ⟨w.heap.size + 1 + 1, 0, none⟩) (by dsimp only; omega) _).setCell (p := ⟨w.heap.size + 1 + 1, 1, none⟩) (by dsimp only; omega) _⟩

set_option maxHeartbeats 6400000 in
theorem Speed_ok (l k f s c wh lo hi n : Int) (w : World) (h : timE l k f s c wh = 0) (c0 : spanB lo hi (-131072) 131072 = true) (c1 : inB n (-64) 64 = true) :
    Calls Try.prog 32 #[.agg #[.int .i64 l, .int .i64 k, .int .i64 f, .int .i64 s, .int .i64 c], .int .i64 wh, .agg #[.int .i64 lo, .int .i64 hi], .int .i64 n] w fun e w' => e = .returned (.tuple #[.agg #[.int .i64 (spdL l (timV l k f s c wh) lo n), .int .i64 (spdH l (timV l k f s c wh) hi n)], .int .i64 0]) ∧ Below w.heap.size w w' := by
  obtain ⟨⟨b1, b2⟩, b3, b4⟩ := tim_bd h
  obtain ⟨e1, e2, e3⟩ := spanB_true.1 c0
  obtain ⟨n1, n2⟩ := inB_true.1 c1
  obtain ⟨m1, m2⟩ := prod_bd b1 b2 e1 (by omega : lo ≤ 131072) n1 n2
  obtain ⟨m3, m4⟩ := prod_bd b1 b2 (by omega : -131072 ≤ hi) e3 n1 n2
  have i1 : IntKind.i64.wrap (500 * l) = 500 * l := IntWalk.i64_in _ (by omega)
  have i2 : IntKind.i64.wrap (n * 65536) = n * 65536 := IntWalk.i64_in _ (by omega)
  have i3 : IntKind.i64.wrap (lo + n * 65536) = lo + n * 65536 := IntWalk.i64_in _ (by omega)
  have i4 : IntKind.i64.wrap (hi + n * 65536) = hi + n * 65536 := IntWalk.i64_in _ (by omega)
  have i5 : IntKind.i64.wrap (500 * l * (lo + n * 65536)) = 500 * l * (lo + n * 65536) := IntWalk.i64_in _ (by omega)
  have i6 : IntKind.i64.wrap (500 * l * (hi + n * 65536)) = 500 * l * (hi + n * 65536) := IntWalk.i64_in _ (by omega)
  have i7 : IntKind.i64.wrap (timV l k f s c wh * 65536) = timV l k f s c wh * 65536 := IntWalk.i64_in _ (by omega)
  have i8 : IntKind.i64.wrap (65536 * timV l k f s c wh) = timV l k f s c wh * 65536 := by rw [IntWalk.i64_in _ (by omega)]; omega
  go_enter Try.func32, Try.ntmps32
  go_wp2_with fail
  refine (Fold_any _ _ _ _ _ _ _).mono ?_; rintro e w1 ⟨rfl, hb1⟩
  obtain ⟨t0, t1, t2, t3, t4, ⟨p0, p1⟩, ⟨r0, r1, g0, g1⟩, hz, hbw⟩ := (SpE.new w l k f s c lo hi 23).keep hb1 (by simp)
  clear hb1
  have y0 : w.heap.size < w1.heap.size := by omega
  have y1 : w.heap.size + 1 < w1.heap.size := by omega
  have y2 : w.heap.size + 1 + 1 < w1.heap.size := by omega
  rw [if_pos h, h]
  clear h
  generalize hv : timV l k f s c wh = v at b3 b4 i7 i8 ⊢; have HV := Lib.hid hv; clear hv
  go_wp2_with fail
  refine (isWithin_any _ _ _ _ _).mono ?_; rintro e w2 ⟨rfl, hb2⟩
  have O2 := (⟨t0, t1, t2, t3, t4, ⟨p0, p1⟩, ⟨r0, r1, g0, g1⟩, hz, hbw⟩ : SpE w w1 l k f s c lo hi).keep hb2 hz
  clear t0 t1 t2 t3 t4 p0 p1 r0 r1 g0 g1 hz hbw y0 y1 y2 hb2
  obtain ⟨t0, t1, t2, t3, t4, ⟨p0, p1⟩, ⟨r0, r1, g0, g1⟩, hz, hbw⟩ := O2
  have y0 : w.heap.size < w2.heap.size := by omega
  have y1 : w.heap.size + 1 < w2.heap.size := by omega
  have y2 : w.heap.size + 1 + 1 < w2.heap.size := by omega
  go_wp2_with fail
  refine (isIn_any _ _ _ _).mono ?_; rintro e w' ⟨rfl, rfl⟩
  go_wp2
  have HS := Lib.hid (show (fun w' : World => w'.cell? ⟨w.heap.size, 0, none⟩ = some (.int .i64 l) ∧ w'.cell? ⟨w.heap.size + 1, 0, none⟩ = some (.int .i64 lo) ∧ w'.cell? ⟨w.heap.size + 1, 1, none⟩ = some (.int .i64 hi) ∧ w' = w2.drew) w2.drew from ⟨t0, p0, p1, rfl⟩)
  refine wp_region_held_tail (S := (fun w' : World => w'.cell? ⟨w.heap.size, 0, none⟩ = some (.int .i64 l) ∧ w'.cell? ⟨w.heap.size + 1, 0, none⟩ = some (.int .i64 lo) ∧ w'.cell? ⟨w.heap.size + 1, 1, none⟩ = some (.int .i64 hi) ∧ w' = w2.drew)) 19 (by kernel_rfl) (by kernel_rfl) HS.out (fun hHeld => ?_)
  refine wpAnyH_take (i := 0) (v := ?v0) rfl (by kernel_rfl) (by kernel_rfl) (by kernel_rfl) (fun _ _ _ h => h) (Or.inl ⟨by rfl, ?hy0⟩) (by assumption) ?rest0
  case hy0 => (intro w hSw; (try dsimp only at hSw); go_simp; (try with_reducible rfl))
  try simp only [Act.put, List.setIfInBounds_toArray, List.set_cons_zero, List.set_cons_succ]
  refine wpAnyH_take (i := 1) (v := ?v1) rfl (by kernel_rfl) (by kernel_rfl) (by kernel_rfl) (fun _ _ _ h => h) (Or.inl ⟨by rfl, ?hy1⟩) (by assumption) ?rest1
  case hy1 => (intro w hSw; (try dsimp only at hSw); go_simp; (try with_reducible rfl))
  try simp only [Act.put, List.setIfInBounds_toArray, List.set_cons_zero, List.set_cons_succ]
  refine wpAnyH_take (i := 2) (v := ?v2) rfl (by kernel_rfl) (by kernel_rfl) (by kernel_rfl) (fun _ _ _ h => h) (Or.inl ⟨by rfl, ?hy2⟩) (by assumption) ?rest2
  case hy2 => (intro w hSw; (try dsimp only at hSw); go_simp; (try with_reducible rfl))
  try simp only [Act.put, List.setIfInBounds_toArray, List.set_cons_zero, List.set_cons_succ]
  refine wpAnyH_take (i := 3) (v := ?v3) rfl (by kernel_rfl) (by kernel_rfl) (by kernel_rfl) (fun _ _ _ h => h) (Or.inl ⟨by rfl, ?hy3⟩) (by assumption) ?rest3
  case hy3 => (intro w hSw; (try dsimp only at hSw); go_simp; (try with_reducible rfl))
  try simp only [Act.put, List.setIfInBounds_toArray, List.set_cons_zero, List.set_cons_succ]
  refine wpAnyH_take (i := 4) (v := ?v4) rfl (by kernel_rfl) (by kernel_rfl) (by kernel_rfl) (fun _ _ _ h => h) (Or.inl ⟨by rfl, ?hy4⟩) (by assumption) ?rest4
  case hy4 => (intro w hSw; (try dsimp only at hSw); go_simp; (try with_reducible rfl))
  try simp only [Act.put, List.setIfInBounds_toArray, List.set_cons_zero, List.set_cons_succ]
  refine wpAnyH_take (i := 5) (v := ?v5) rfl (by kernel_rfl) (by kernel_rfl) (by kernel_rfl) (fun _ _ _ h => h) (Or.inl ⟨by rfl, ?hy5⟩) (by assumption) ?rest5
  case hy5 => (intro w hSw; (try dsimp only at hSw); go_simp; (try with_reducible rfl))
  try simp only [Act.put, List.setIfInBounds_toArray, List.set_cons_zero, List.set_cons_succ]
  refine wpAnyH_take (i := 6) (v := ?v6) rfl (by kernel_rfl) (by kernel_rfl) (by kernel_rfl) (fun _ _ _ h => h) (Or.inl ⟨by rfl, ?hy6⟩) (by assumption) ?rest6
  case hy6 => (intro w hSw; (try dsimp only at hSw); go_simp; (try with_reducible rfl))
  try simp only [Act.put, List.setIfInBounds_toArray, List.set_cons_zero, List.set_cons_succ]
  refine wpAnyH_take (i := 7) (v := ?v7) rfl (by kernel_rfl) (by kernel_rfl) (by kernel_rfl) (fun _ _ _ h => h) (Or.inl ⟨by rfl, ?hy7⟩) (by assumption) ?rest7
  case hy7 => (intro w hSw; (try dsimp only at hSw); go_simp; (try with_reducible rfl))
  try simp only [Act.put, List.setIfInBounds_toArray, List.set_cons_zero, List.set_cons_succ]
  refine wpAnyH_take (i := 9) (v := ?v9) rfl (by kernel_rfl) (by kernel_rfl) (by kernel_rfl) (fun _ _ _ h => h) (Or.inl ⟨by rfl, ?hy9⟩) (by assumption) ?rest9
  case hy9 => (intro w hSw; (try dsimp only at hSw); go_simp; (try with_reducible rfl))
  try simp only [Act.put, List.setIfInBounds_toArray, List.set_cons_zero, List.set_cons_succ]
  refine wpAnyH_take (i := 10) (v := ?v10) rfl (by kernel_rfl) (by kernel_rfl) (by kernel_rfl) (fun _ _ _ h => h) (Or.inl ⟨by rfl, ?hy10⟩) (by assumption) ?rest10
  case hy10 => (intro w hSw; (try dsimp only at hSw); go_simp; (try with_reducible rfl))
  try simp only [Act.put, List.setIfInBounds_toArray, List.set_cons_zero, List.set_cons_succ]
  refine wpAnyH_take (i := 11) (v := ?v11) rfl (by kernel_rfl) (by kernel_rfl) (by kernel_rfl) (fun _ _ _ h => h) (Or.inl ⟨by rfl, ?hy11⟩) (by assumption) ?rest11
  case hy11 => (intro w hSw; (try dsimp only at hSw); go_simp; (try with_reducible rfl))
  try simp only [Act.put, List.setIfInBounds_toArray, List.set_cons_zero, List.set_cons_succ]
  refine wpAnyH_take (i := 12) (v := ?v12) rfl (by kernel_rfl) (by kernel_rfl) (by kernel_rfl) (fun _ _ _ h => h) (Or.inl ⟨by rfl, ?hy12⟩) (by assumption) ?rest12
  case hy12 => (intro w hSw; (try dsimp only at hSw); go_simp; (try with_reducible rfl))
  try simp only [Act.put, List.setIfInBounds_toArray, List.set_cons_zero, List.set_cons_succ]
  refine wpAnyH_take (i := 13) (v := ?v13) rfl (by kernel_rfl) (by kernel_rfl) (by kernel_rfl) (fun _ _ _ h => h) (Or.inl ⟨by rfl, ?hy13⟩) (by assumption) ?rest13
  case hy13 => (intro w hSw; (try dsimp only at hSw); go_simp; (try with_reducible rfl))
  try simp only [Act.put, List.setIfInBounds_toArray, List.set_cons_zero, List.set_cons_succ]
  refine wpAnyH_take (i := 14) (v := ?v14) rfl (by kernel_rfl) (by kernel_rfl) (by kernel_rfl) (fun _ _ _ h => h) (Or.inl ⟨by rfl, ?hy14⟩) (by assumption) ?rest14
  case hy14 => (intro w hSw; (try dsimp only at hSw); go_simp; (try with_reducible rfl))
  try simp only [Act.put, List.setIfInBounds_toArray, List.set_cons_zero, List.set_cons_succ]
  refine wpAnyH_take (i := 15) (v := ?v15) rfl (by kernel_rfl) (by kernel_rfl) (by kernel_rfl) (fun _ _ _ h => h) (Or.inl ⟨by rfl, ?hy15⟩) (by assumption) ?rest15
  case hy15 => (intro w hSw; (try dsimp only at hSw); go_simp; (try with_reducible rfl))
  try simp only [Act.put, List.setIfInBounds_toArray, List.set_cons_zero, List.set_cons_succ]
  refine wpAnyH_take (i := 16) (v := ?v16) rfl (by kernel_rfl) (by kernel_rfl) (by kernel_rfl) (fun _ _ _ h => h) (Or.inl ⟨by rfl, ?hy16⟩) (by assumption) ?rest16
  case hy16 => (intro w hSw; (try dsimp only at hSw); go_simp; (try with_reducible rfl))
  try simp only [Act.put, List.setIfInBounds_toArray, List.set_cons_zero, List.set_cons_succ]
  refine wpAnyH_ready (rs := [8]) (by kernel_rfl) (by simp) ?_
  refine AllReadyH.cons rfl (fun K hK => ?_) AllReadyH.nil
  go_simp; go_at_call 71; refine (down_any _ _ _ (by omega) (by omega) (by omega)).mono ?_; rintro e w' ⟨rfl, rfl⟩
  refine hK.out _ _ hHeld (fun hHeld => ?_)
  clear hK K
  try simp only [Act.put, List.setIfInBounds_toArray, List.set_cons_zero, List.set_cons_succ]
  refine wpAnyH_ready (rs := [17]) (by kernel_rfl) (by simp) ?_
  refine AllReadyH.cons rfl (fun K hK => ?_) AllReadyH.nil
  go_simp; go_at_call 72; refine (up_any _ _ _ (by omega) (by omega) (by omega)).mono ?_; rintro e w' ⟨rfl, rfl⟩
  refine hK.out _ _ hHeld (fun hHeld => ?_)
  clear hK K
  try simp only [Act.put, List.setIfInBounds_toArray, List.set_cons_zero, List.set_cons_succ]
  refine wpAnyH_take (i := 18) (v := ?v18) rfl (by kernel_rfl) (by kernel_rfl) (by kernel_rfl) (fun _ _ _ h => h) (Or.inl ⟨by rfl, ?hy18⟩) (by assumption) ?rest18
  case hy18 => (intro w hSw; (try dsimp only at hSw); go_simp; (try with_reducible rfl))
  try simp only [Act.put, List.setIfInBounds_toArray, List.set_cons_zero, List.set_cons_succ]
  refine wpAnyH_done (by kernel_rfl) ?_ _
  change wpList _ _ _ _ _ _
  simp only [List.drop_succ_cons, List.drop_zero]
  have d0 : w2.drew.cell? ⟨w.heap.size + 1 + 1, 0, none⟩ = some (cellAt w2 ⟨w.heap.size + 1 + 1, 0, none⟩) := r0
  have d1 : w2.drew.cell? ⟨w.heap.size + 1 + 1, 1, none⟩ = some (cellAt w2 ⟨w.heap.size + 1 + 1, 1, none⟩) := r1
  have d2 : w2.drew.frozen? ⟨w.heap.size + 1 + 1, 0, none⟩ = false := g0
  have d3 : w2.drew.frozen? ⟨w.heap.size + 1 + 1, 1, none⟩ = false := g1
  have hbd := hbw.drew
  clear hHeld HS r0 r1 g0 g1 hbw t0 t1 t2 t3 t4 p0 p1 y0 y1 y2 hz
  generalize w2.drew = W at d0 d1 d2 d3 hbd ⊢
  have r0 := d0
  have r1 := d1
  have hbw := hbd
  go_wp2
  exact bodyPost_ret (v := .tuple #[.agg #[.int .i64 (500 * l * (lo + n * 65536) / (v * 65536)), .int .i64 (-(-(500 * l * (hi + n * 65536)) / (v * 65536)))], .int .i64 0]) (by simp [results, Try.results32, go_sem, set_other (i := 1) (j := 0) (b := w.heap.size + 1 + 1) (by decide) (set_same (v := .int .i64 (500 * l * (lo + n * 65536) / (v * 65536))) r0), set_same (v := .int .i64 (-(-(500 * l * (hi + n * 65536)) / (v * 65536)))) (set_other (i := 0) (j := 1) (b := w.heap.size + 1 + 1) (v := .int .i64 (500 * l * (lo + n * 65536) / (v * 65536))) (by decide) r1)]) rfl ⟨(by rw [HV.out]; rfl), (hbw.setCell (p := ⟨w.heap.size + 1 + 1, 0, none⟩) (by dsimp only; omega) _).setCell (p := ⟨w.heap.size + 1 + 1, 1, none⟩) (by dsimp only; omega) _⟩

set_option maxHeartbeats 3200000 in
theorem refSpeed_err (l k f s c wh lo hi n : Int) (w : World) (h : ¬ timE l k f s c wh = 0) :
    Calls Try.prog 33 #[.agg #[.int .i64 l, .int .i64 k, .int .i64 f, .int .i64 s, .int .i64 c], .int .i64 wh, .agg #[.int .i64 lo, .int .i64 hi], .int .i64 n] w fun e w' => e = .returned (.tuple #[.agg #[.int .i64 0, .int .i64 0], .int .i64 (timE l k f s c wh)]) ∧ Below w.heap.size w w' := by
  have hne : (timE l k f s c wh != 0) = true := bne_iff_ne.2 h
  go_enter Try.func33, Try.ntmps33
  go_wp2_with fail
  refine (reftime_any _ _ _ _ _ _ _).mono ?_; rintro e w1 ⟨rfl, hb1⟩
  obtain ⟨t0, t1, t2, t3, t4, ⟨p0, p1⟩, ⟨r0, r1, g0, g1⟩, hz, hbw⟩ := (SpE.new w l k f s c lo hi 34).keep hb1 (by simp)
  clear hb1
  have y0 : w.heap.size < w1.heap.size := by omega
  have y1 : w.heap.size + 1 < w1.heap.size := by omega
  have y2 : w.heap.size + 1 + 1 < w1.heap.size := by omega
  go_wp2
  exact bodyPost_ret (v := .tuple #[.agg #[.int .i64 0, .int .i64 0], .int .i64 (timE l k f s c wh)]) (by simp [results, Try.results33, go_sem, set_other (i := 1) (j := 0) (b := w.heap.size + 1 + 1) (by decide) (set_same (v := .int .i64 0) r0), set_same (v := .int .i64 0) (set_other (i := 0) (j := 1) (b := w.heap.size + 1 + 1) (v := .int .i64 0) (by decide) r1)]) rfl ⟨rfl, (hbw.setCell (p := ⟨w.heap.size + 1 + 1, 0, none⟩) (by dsimp only; omega) _).setCell (p := ⟨w.heap.size + 1 + 1, 1, none⟩) (by dsimp only; omega) _⟩

set_option maxHeartbeats 3200000 in
theorem refSpeed_no0 (l k f s c wh lo hi n : Int) (w : World) (h : timE l k f s c wh = 0) (c0 : spanB lo hi (-131072) 131072 = false) :
    Calls Try.prog 33 #[.agg #[.int .i64 l, .int .i64 k, .int .i64 f, .int .i64 s, .int .i64 c], .int .i64 wh, .agg #[.int .i64 lo, .int .i64 hi], .int .i64 n] w fun e w' => e = .returned (.tuple #[.agg #[.int .i64 0, .int .i64 0], .int .i64 3]) ∧ Below w.heap.size w w' := by
  obtain ⟨⟨b1, b2⟩, b3, b4⟩ := tim_bd h
  go_enter Try.func33, Try.ntmps33
  go_wp2_with fail
  refine (reftime_any _ _ _ _ _ _ _).mono ?_; rintro e w1 ⟨rfl, hb1⟩
  obtain ⟨t0, t1, t2, t3, t4, ⟨p0, p1⟩, ⟨r0, r1, g0, g1⟩, hz, hbw⟩ := (SpE.new w l k f s c lo hi 34).keep hb1 (by simp)
  clear hb1
  have y0 : w.heap.size < w1.heap.size := by omega
  have y1 : w.heap.size + 1 < w1.heap.size := by omega
  have y2 : w.heap.size + 1 + 1 < w1.heap.size := by omega
  rw [h]
  clear h
  generalize timV l k f s c wh = v at b3 b4 ⊢
  go_wp2_with fail
  refine (Valid_any _ _ _ _ _).mono ?_; rintro e w2 ⟨rfl, hb2⟩
  have O2 := (⟨t0, t1, t2, t3, t4, ⟨p0, p1⟩, ⟨r0, r1, g0, g1⟩, hz, hbw⟩ : SpE w w1 l k f s c lo hi).keep hb2 hz
  clear t0 t1 t2 t3 t4 p0 p1 r0 r1 g0 g1 hz hbw y0 y1 y2 hb2
  obtain ⟨t0, t1, t2, t3, t4, ⟨p0, p1⟩, ⟨r0, r1, g0, g1⟩, hz, hbw⟩ := O2
  have y0 : w.heap.size < w2.heap.size := by omega
  have y1 : w.heap.size + 1 < w2.heap.size := by omega
  have y2 : w.heap.size + 1 + 1 < w2.heap.size := by omega
  go_wp2
  exact bodyPost_ret (v := .tuple #[.agg #[.int .i64 0, .int .i64 0], .int .i64 3]) (by simp [results, Try.results33, go_sem, set_other (i := 1) (j := 0) (b := w.heap.size + 1 + 1) (by decide) (set_same (v := .int .i64 0) r0), set_same (v := .int .i64 0) (set_other (i := 0) (j := 1) (b := w.heap.size + 1 + 1) (v := .int .i64 0) (by decide) r1)]) rfl ⟨rfl, (hbw.setCell (p := ⟨w.heap.size + 1 + 1, 0, none⟩) (by dsimp only; omega) _).setCell (p := ⟨w.heap.size + 1 + 1, 1, none⟩) (by dsimp only; omega) _⟩

set_option maxHeartbeats 3200000 in
theorem refSpeed_no1 (l k f s c wh lo hi n : Int) (w : World) (h : timE l k f s c wh = 0) (c0 : spanB lo hi (-131072) 131072 = true) (c1 : inB n (-64) 64 = false) :
    Calls Try.prog 33 #[.agg #[.int .i64 l, .int .i64 k, .int .i64 f, .int .i64 s, .int .i64 c], .int .i64 wh, .agg #[.int .i64 lo, .int .i64 hi], .int .i64 n] w fun e w' => e = .returned (.tuple #[.agg #[.int .i64 0, .int .i64 0], .int .i64 3]) ∧ Below w.heap.size w w' := by
  obtain ⟨⟨b1, b2⟩, b3, b4⟩ := tim_bd h
  go_enter Try.func33, Try.ntmps33
  go_wp2_with fail
  refine (reftime_any _ _ _ _ _ _ _).mono ?_; rintro e w1 ⟨rfl, hb1⟩
  obtain ⟨t0, t1, t2, t3, t4, ⟨p0, p1⟩, ⟨r0, r1, g0, g1⟩, hz, hbw⟩ := (SpE.new w l k f s c lo hi 34).keep hb1 (by simp)
  clear hb1
  have y0 : w.heap.size < w1.heap.size := by omega
  have y1 : w.heap.size + 1 < w1.heap.size := by omega
  have y2 : w.heap.size + 1 + 1 < w1.heap.size := by omega
  rw [h]
  clear h
  generalize timV l k f s c wh = v at b3 b4 ⊢
  go_wp2_with fail
  refine (Valid_any _ _ _ _ _).mono ?_; rintro e w2 ⟨rfl, hb2⟩
  have O2 := (⟨t0, t1, t2, t3, t4, ⟨p0, p1⟩, ⟨r0, r1, g0, g1⟩, hz, hbw⟩ : SpE w w1 l k f s c lo hi).keep hb2 hz
  clear t0 t1 t2 t3 t4 p0 p1 r0 r1 g0 g1 hz hbw y0 y1 y2 hb2
  obtain ⟨t0, t1, t2, t3, t4, ⟨p0, p1⟩, ⟨r0, r1, g0, g1⟩, hz, hbw⟩ := O2
  have y0 : w.heap.size < w2.heap.size := by omega
  have y1 : w.heap.size + 1 < w2.heap.size := by omega
  have y2 : w.heap.size + 1 + 1 < w2.heap.size := by omega
  go_wp2_with fail
  refine (refIn_any _ _ _ _).mono ?_; rintro e w' ⟨rfl, rfl⟩
  go_wp2
  exact bodyPost_ret (v := .tuple #[.agg #[.int .i64 0, .int .i64 0], .int .i64 3]) (by simp [results, Try.results33, go_sem, set_other (i := 1) (j := 0) (b := w.heap.size + 1 + 1) (by decide) (set_same (v := .int .i64 0) r0), set_same (v := .int .i64 0) (set_other (i := 0) (j := 1) (b := w.heap.size + 1 + 1) (v := .int .i64 0) (by decide) r1)]) rfl ⟨rfl, (hbw.setCell (p := ⟨w.heap.size + 1 + 1, 0, none⟩) (by dsimp only; omega) _).setCell (p := ⟨w.heap.size + 1 + 1, 1, none⟩) (by dsimp only; omega) _⟩

set_option maxHeartbeats 6400000 in
theorem refSpeed_ok (l k f s c wh lo hi n : Int) (w : World) (h : timE l k f s c wh = 0) (c0 : spanB lo hi (-131072) 131072 = true) (c1 : inB n (-64) 64 = true) :
    Calls Try.prog 33 #[.agg #[.int .i64 l, .int .i64 k, .int .i64 f, .int .i64 s, .int .i64 c], .int .i64 wh, .agg #[.int .i64 lo, .int .i64 hi], .int .i64 n] w fun e w' => e = .returned (.tuple #[.agg #[.int .i64 (spdL l (timV l k f s c wh) lo n), .int .i64 (spdH l (timV l k f s c wh) hi n)], .int .i64 0]) ∧ Below w.heap.size w w' := by
  obtain ⟨⟨b1, b2⟩, b3, b4⟩ := tim_bd h
  obtain ⟨e1, e2, e3⟩ := spanB_true.1 c0
  obtain ⟨n1, n2⟩ := inB_true.1 c1
  obtain ⟨m1, m2⟩ := prod_bd b1 b2 e1 (by omega : lo ≤ 131072) n1 n2
  obtain ⟨m3, m4⟩ := prod_bd b1 b2 (by omega : -131072 ≤ hi) e3 n1 n2
  have i1 : IntKind.i64.wrap (500 * l) = 500 * l := IntWalk.i64_in _ (by omega)
  have i2 : IntKind.i64.wrap (n * 65536) = n * 65536 := IntWalk.i64_in _ (by omega)
  have i3 : IntKind.i64.wrap (lo + n * 65536) = lo + n * 65536 := IntWalk.i64_in _ (by omega)
  have i4 : IntKind.i64.wrap (hi + n * 65536) = hi + n * 65536 := IntWalk.i64_in _ (by omega)
  have i5 : IntKind.i64.wrap (500 * l * (lo + n * 65536)) = 500 * l * (lo + n * 65536) := IntWalk.i64_in _ (by omega)
  have i6 : IntKind.i64.wrap (500 * l * (hi + n * 65536)) = 500 * l * (hi + n * 65536) := IntWalk.i64_in _ (by omega)
  have i7 : IntKind.i64.wrap (timV l k f s c wh * 65536) = timV l k f s c wh * 65536 := IntWalk.i64_in _ (by omega)
  have i8 : IntKind.i64.wrap (65536 * timV l k f s c wh) = timV l k f s c wh * 65536 := by rw [IntWalk.i64_in _ (by omega)]; omega
  go_enter Try.func33, Try.ntmps33
  go_wp2_with fail
  refine (reftime_any _ _ _ _ _ _ _).mono ?_; rintro e w1 ⟨rfl, hb1⟩
  obtain ⟨t0, t1, t2, t3, t4, ⟨p0, p1⟩, ⟨r0, r1, g0, g1⟩, hz, hbw⟩ := (SpE.new w l k f s c lo hi 34).keep hb1 (by simp)
  clear hb1
  have y0 : w.heap.size < w1.heap.size := by omega
  have y1 : w.heap.size + 1 < w1.heap.size := by omega
  have y2 : w.heap.size + 1 + 1 < w1.heap.size := by omega
  rw [h]
  clear h
  generalize hv : timV l k f s c wh = v at b3 b4 i7 i8 ⊢; have HV := Lib.hid hv; clear hv
  go_wp2_with fail
  refine (Valid_any _ _ _ _ _).mono ?_; rintro e w2 ⟨rfl, hb2⟩
  have O2 := (⟨t0, t1, t2, t3, t4, ⟨p0, p1⟩, ⟨r0, r1, g0, g1⟩, hz, hbw⟩ : SpE w w1 l k f s c lo hi).keep hb2 hz
  clear t0 t1 t2 t3 t4 p0 p1 r0 r1 g0 g1 hz hbw y0 y1 y2 hb2
  obtain ⟨t0, t1, t2, t3, t4, ⟨p0, p1⟩, ⟨r0, r1, g0, g1⟩, hz, hbw⟩ := O2
  have y0 : w.heap.size < w2.heap.size := by omega
  have y1 : w.heap.size + 1 < w2.heap.size := by omega
  have y2 : w.heap.size + 1 + 1 < w2.heap.size := by omega
  go_wp2_with fail
  refine (refIn_any _ _ _ _).mono ?_; rintro e w' ⟨rfl, rfl⟩
  go_wp2
  have HS := Lib.hid (show (fun w' : World => w'.cell? ⟨w.heap.size, 0, none⟩ = some (.int .i64 l) ∧ w'.cell? ⟨w.heap.size + 1, 0, none⟩ = some (.int .i64 lo) ∧ w'.cell? ⟨w.heap.size + 1, 1, none⟩ = some (.int .i64 hi) ∧ w' = w2.drew) w2.drew from ⟨t0, p0, p1, rfl⟩)
  refine wp_region_held_tail (S := (fun w' : World => w'.cell? ⟨w.heap.size, 0, none⟩ = some (.int .i64 l) ∧ w'.cell? ⟨w.heap.size + 1, 0, none⟩ = some (.int .i64 lo) ∧ w'.cell? ⟨w.heap.size + 1, 1, none⟩ = some (.int .i64 hi) ∧ w' = w2.drew)) 25 (by kernel_rfl) (by kernel_rfl) HS.out (fun hHeld => ?_)
  refine wpAnyH_take (i := 0) (v := ?v0) rfl (by kernel_rfl) (by kernel_rfl) (by kernel_rfl) (fun _ _ _ h => h) (Or.inl ⟨by rfl, ?hy0⟩) (by assumption) ?rest0
  case hy0 => (intro w hSw; (try dsimp only at hSw); go_simp; (try with_reducible rfl))
  try simp only [Act.put, List.setIfInBounds_toArray, List.set_cons_zero, List.set_cons_succ]
  refine wpAnyH_take (i := 1) (v := ?v1) rfl (by kernel_rfl) (by kernel_rfl) (by kernel_rfl) (fun _ _ _ h => h) (Or.inl ⟨by rfl, ?hy1⟩) (by assumption) ?rest1
  case hy1 => (intro w hSw; (try dsimp only at hSw); go_simp; (try with_reducible rfl))
  try simp only [Act.put, List.setIfInBounds_toArray, List.set_cons_zero, List.set_cons_succ]
  refine wpAnyH_take (i := 2) (v := ?v2) rfl (by kernel_rfl) (by kernel_rfl) (by kernel_rfl) (fun _ _ _ h => h) (Or.inl ⟨by rfl, ?hy2⟩) (by assumption) ?rest2
  case hy2 => (intro w hSw; (try dsimp only at hSw); go_simp; (try with_reducible rfl))
  try simp only [Act.put, List.setIfInBounds_toArray, List.set_cons_zero, List.set_cons_succ]
  refine wpAnyH_take (i := 3) (v := ?v3) rfl (by kernel_rfl) (by kernel_rfl) (by kernel_rfl) (fun _ _ _ h => h) (Or.inl ⟨by rfl, ?hy3⟩) (by assumption) ?rest3
  case hy3 => (intro w hSw; (try dsimp only at hSw); go_simp; (try with_reducible rfl))
  try simp only [Act.put, List.setIfInBounds_toArray, List.set_cons_zero, List.set_cons_succ]
  refine wpAnyH_take (i := 4) (v := ?v4) rfl (by kernel_rfl) (by kernel_rfl) (by kernel_rfl) (fun _ _ _ h => h) (Or.inl ⟨by rfl, ?hy4⟩) (by assumption) ?rest4
  case hy4 => (intro w hSw; (try dsimp only at hSw); go_simp; (try with_reducible rfl))
  try simp only [Act.put, List.setIfInBounds_toArray, List.set_cons_zero, List.set_cons_succ]
  refine wpAnyH_take (i := 5) (v := ?v5) rfl (by kernel_rfl) (by kernel_rfl) (by kernel_rfl) (fun _ _ _ h => h) (Or.inl ⟨by rfl, ?hy5⟩) (by assumption) ?rest5
  case hy5 => (intro w hSw; (try dsimp only at hSw); go_simp; (try with_reducible rfl))
  try simp only [Act.put, List.setIfInBounds_toArray, List.set_cons_zero, List.set_cons_succ]
  refine wpAnyH_take (i := 6) (v := ?v6) rfl (by kernel_rfl) (by kernel_rfl) (by kernel_rfl) (fun _ _ _ h => h) (Or.inl ⟨by rfl, ?hy6⟩) (by assumption) ?rest6
  case hy6 => (intro w hSw; (try dsimp only at hSw); go_simp; (try with_reducible rfl))
  try simp only [Act.put, List.setIfInBounds_toArray, List.set_cons_zero, List.set_cons_succ]
  refine wpAnyH_take (i := 7) (v := ?v7) rfl (by kernel_rfl) (by kernel_rfl) (by kernel_rfl) (fun _ _ _ h => h) (Or.inl ⟨by rfl, ?hy7⟩) (by assumption) ?rest7
  case hy7 => (intro w hSw; (try dsimp only at hSw); go_simp; (try with_reducible rfl))
  try simp only [Act.put, List.setIfInBounds_toArray, List.set_cons_zero, List.set_cons_succ]
  refine wpAnyH_take (i := 8) (v := ?v8) rfl (by kernel_rfl) (by kernel_rfl) (by kernel_rfl) (fun _ _ _ h => h) (Or.inl ⟨by rfl, ?hy8⟩) (by assumption) ?rest8
  case hy8 => (intro w hSw; (try dsimp only at hSw); go_simp; (try with_reducible rfl))
  try simp only [Act.put, List.setIfInBounds_toArray, List.set_cons_zero, List.set_cons_succ]
  refine wpAnyH_take (i := 9) (v := ?v9) rfl (by kernel_rfl) (by kernel_rfl) (by kernel_rfl) (fun _ _ _ h => h) (Or.inl ⟨by rfl, ?hy9⟩) (by assumption) ?rest9
  case hy9 => (intro w hSw; (try dsimp only at hSw); go_simp; (try with_reducible rfl))
  try simp only [Act.put, List.setIfInBounds_toArray, List.set_cons_zero, List.set_cons_succ]
  refine wpAnyH_take (i := 10) (v := ?v10) rfl (by kernel_rfl) (by kernel_rfl) (by kernel_rfl) (fun _ _ _ h => h) (Or.inl ⟨by rfl, ?hy10⟩) (by assumption) ?rest10
  case hy10 => (intro w hSw; (try dsimp only at hSw); go_simp; (try with_reducible rfl))
  try simp only [Act.put, List.setIfInBounds_toArray, List.set_cons_zero, List.set_cons_succ]
  refine wpAnyH_take (i := 12) (v := ?v12) rfl (by kernel_rfl) (by kernel_rfl) (by kernel_rfl) (fun _ _ _ h => h) (Or.inl ⟨by rfl, ?hy12⟩) (by assumption) ?rest12
  case hy12 => (intro w hSw; (try dsimp only at hSw); go_simp; (try with_reducible rfl))
  try simp only [Act.put, List.setIfInBounds_toArray, List.set_cons_zero, List.set_cons_succ]
  refine wpAnyH_take (i := 13) (v := ?v13) rfl (by kernel_rfl) (by kernel_rfl) (by kernel_rfl) (fun _ _ _ h => h) (Or.inl ⟨by rfl, ?hy13⟩) (by assumption) ?rest13
  case hy13 => (intro w hSw; (try dsimp only at hSw); go_simp; (try with_reducible rfl))
  try simp only [Act.put, List.setIfInBounds_toArray, List.set_cons_zero, List.set_cons_succ]
  refine wpAnyH_take (i := 14) (v := ?v14) rfl (by kernel_rfl) (by kernel_rfl) (by kernel_rfl) (fun _ _ _ h => h) (Or.inl ⟨by rfl, ?hy14⟩) (by assumption) ?rest14
  case hy14 => (intro w hSw; (try dsimp only at hSw); go_simp; (try with_reducible rfl))
  try simp only [Act.put, List.setIfInBounds_toArray, List.set_cons_zero, List.set_cons_succ]
  refine wpAnyH_take (i := 15) (v := ?v15) rfl (by kernel_rfl) (by kernel_rfl) (by kernel_rfl) (fun _ _ _ h => h) (Or.inl ⟨by rfl, ?hy15⟩) (by assumption) ?rest15
  case hy15 => (intro w hSw; (try dsimp only at hSw); go_simp; (try with_reducible rfl))
  try simp only [Act.put, List.setIfInBounds_toArray, List.set_cons_zero, List.set_cons_succ]
  refine wpAnyH_take (i := 16) (v := ?v16) rfl (by kernel_rfl) (by kernel_rfl) (by kernel_rfl) (fun _ _ _ h => h) (Or.inl ⟨by rfl, ?hy16⟩) (by assumption) ?rest16
  case hy16 => (intro w hSw; (try dsimp only at hSw); go_simp; (try with_reducible rfl))
  try simp only [Act.put, List.setIfInBounds_toArray, List.set_cons_zero, List.set_cons_succ]
  refine wpAnyH_take (i := 17) (v := ?v17) rfl (by kernel_rfl) (by kernel_rfl) (by kernel_rfl) (fun _ _ _ h => h) (Or.inl ⟨by rfl, ?hy17⟩) (by assumption) ?rest17
  case hy17 => (intro w hSw; (try dsimp only at hSw); go_simp; (try with_reducible rfl))
  try simp only [Act.put, List.setIfInBounds_toArray, List.set_cons_zero, List.set_cons_succ]
  refine wpAnyH_take (i := 18) (v := ?v18) rfl (by kernel_rfl) (by kernel_rfl) (by kernel_rfl) (fun _ _ _ h => h) (Or.inl ⟨by rfl, ?hy18⟩) (by assumption) ?rest18
  case hy18 => (intro w hSw; (try dsimp only at hSw); go_simp; (try with_reducible rfl))
  try simp only [Act.put, List.setIfInBounds_toArray, List.set_cons_zero, List.set_cons_succ]
  refine wpAnyH_take (i := 19) (v := ?v19) rfl (by kernel_rfl) (by kernel_rfl) (by kernel_rfl) (fun _ _ _ h => h) (Or.inl ⟨by rfl, ?hy19⟩) (by assumption) ?rest19
  case hy19 => (intro w hSw; (try dsimp only at hSw); go_simp; (try with_reducible rfl))
  try simp only [Act.put, List.setIfInBounds_toArray, List.set_cons_zero, List.set_cons_succ]
  refine wpAnyH_take (i := 20) (v := ?v20) rfl (by kernel_rfl) (by kernel_rfl) (by kernel_rfl) (fun _ _ _ h => h) (Or.inl ⟨by rfl, ?hy20⟩) (by assumption) ?rest20
  case hy20 => (intro w hSw; (try dsimp only at hSw); go_simp; (try with_reducible rfl))
  try simp only [Act.put, List.setIfInBounds_toArray, List.set_cons_zero, List.set_cons_succ]
  refine wpAnyH_take (i := 21) (v := ?v21) rfl (by kernel_rfl) (by kernel_rfl) (by kernel_rfl) (fun _ _ _ h => h) (Or.inl ⟨by rfl, ?hy21⟩) (by assumption) ?rest21
  case hy21 => (intro w hSw; (try dsimp only at hSw); go_simp; (try with_reducible rfl))
  try simp only [Act.put, List.setIfInBounds_toArray, List.set_cons_zero, List.set_cons_succ]
  refine wpAnyH_take (i := 22) (v := ?v22) rfl (by kernel_rfl) (by kernel_rfl) (by kernel_rfl) (fun _ _ _ h => h) (Or.inl ⟨by rfl, ?hy22⟩) (by assumption) ?rest22
  case hy22 => (intro w hSw; (try dsimp only at hSw); go_simp; (try with_reducible rfl))
  try simp only [Act.put, List.setIfInBounds_toArray, List.set_cons_zero, List.set_cons_succ]
  refine wpAnyH_ready (rs := [11]) (by kernel_rfl) (by simp) ?_
  refine AllReadyH.cons rfl (fun K hK => ?_) AllReadyH.nil
  go_simp; go_at_call 74; refine (Down_any _ _ _ (by omega) (by omega) (by omega)).mono ?_; rintro e w' ⟨rfl, rfl⟩
  refine hK.out _ _ hHeld (fun hHeld => ?_)
  clear hK K
  try simp only [Act.put, List.setIfInBounds_toArray, List.set_cons_zero, List.set_cons_succ]
  refine wpAnyH_ready (rs := [23]) (by kernel_rfl) (by simp) ?_
  refine AllReadyH.cons rfl (fun K hK => ?_) AllReadyH.nil
  go_simp; go_at_call 66; refine (Up_any _ _ _ (by omega) (by omega) (by omega)).mono ?_; rintro e w' ⟨rfl, rfl⟩
  refine hK.out _ _ hHeld (fun hHeld => ?_)
  clear hK K
  try simp only [Act.put, List.setIfInBounds_toArray, List.set_cons_zero, List.set_cons_succ]
  refine wpAnyH_take (i := 24) (v := ?v24) rfl (by kernel_rfl) (by kernel_rfl) (by kernel_rfl) (fun _ _ _ h => h) (Or.inl ⟨by rfl, ?hy24⟩) (by assumption) ?rest24
  case hy24 => (intro w hSw; (try dsimp only at hSw); go_simp; (try with_reducible rfl))
  try simp only [Act.put, List.setIfInBounds_toArray, List.set_cons_zero, List.set_cons_succ]
  refine wpAnyH_done (by kernel_rfl) ?_ _
  change wpList _ _ _ _ _ _
  simp only [List.drop_succ_cons, List.drop_zero]
  have d0 : w2.drew.cell? ⟨w.heap.size + 1 + 1, 0, none⟩ = some (cellAt w2 ⟨w.heap.size + 1 + 1, 0, none⟩) := r0
  have d1 : w2.drew.cell? ⟨w.heap.size + 1 + 1, 1, none⟩ = some (cellAt w2 ⟨w.heap.size + 1 + 1, 1, none⟩) := r1
  have d2 : w2.drew.frozen? ⟨w.heap.size + 1 + 1, 0, none⟩ = false := g0
  have d3 : w2.drew.frozen? ⟨w.heap.size + 1 + 1, 1, none⟩ = false := g1
  have hbd := hbw.drew
  clear hHeld HS r0 r1 g0 g1 hbw t0 t1 t2 t3 t4 p0 p1 y0 y1 y2 hz
  generalize w2.drew = W at d0 d1 d2 d3 hbd ⊢
  have r0 := d0
  have r1 := d1
  have hbw := hbd
  go_wp2
  exact bodyPost_ret (v := .tuple #[.agg #[.int .i64 (500 * l * (lo + n * 65536) / (v * 65536)), .int .i64 (-(-(500 * l * (hi + n * 65536)) / (v * 65536)))], .int .i64 0]) (by simp [results, Try.results33, go_sem, set_other (i := 1) (j := 0) (b := w.heap.size + 1 + 1) (by decide) (set_same (v := .int .i64 (500 * l * (lo + n * 65536) / (v * 65536))) r0), set_same (v := .int .i64 (-(-(500 * l * (hi + n * 65536)) / (v * 65536)))) (set_other (i := 0) (j := 1) (b := w.heap.size + 1 + 1) (v := .int .i64 (500 * l * (lo + n * 65536) / (v * 65536))) (by decide) r1)]) rfl ⟨(by rw [HV.out]; rfl), (hbw.setCell (p := ⟨w.heap.size + 1 + 1, 0, none⟩) (by dsimp only; omega) _).setCell (p := ⟨w.heap.size + 1 + 1, 1, none⟩) (by dsimp only; omega) _⟩

theorem Speed_any (l k f s c wh lo hi n : Int) (w : World) : Calls Try.prog 32 #[.agg #[.int .i64 l, .int .i64 k, .int .i64 f, .int .i64 s, .int .i64 c], .int .i64 wh, .agg #[.int .i64 lo, .int .i64 hi], .int .i64 n] w fun e w' => e = .returned (.tuple #[.agg #[.int .i64 (if spE l k f s c wh lo hi n = 0 then spdL l (timV l k f s c wh) lo n else 0), .int .i64 (if spE l k f s c wh lo hi n = 0 then spdH l (timV l k f s c wh) hi n else 0)], .int .i64 (spE l k f s c wh lo hi n)]) ∧ Below w.heap.size w w' := by
  by_cases h : timE l k f s c wh = 0
  · rcases (Bool.eq_false_or_eq_true (spanB lo hi (-131072) 131072)).symm with c0 | c0
    · have e : spE l k f s c wh lo hi n = 3 := by unfold spE; rw [if_pos h, if_neg (by rw [c0]; simp)]
      rw [e, if_neg (by decide), if_neg (by decide)]
      exact Speed_no0 l k f s c wh lo hi n w h c0
    · rcases (Bool.eq_false_or_eq_true (inB n (-64) 64)).symm with c1 | c1
      · have e : spE l k f s c wh lo hi n = 3 := by unfold spE; rw [if_pos h, if_neg (by rw [c1]; simp)]
        rw [e, if_neg (by decide), if_neg (by decide)]
        exact Speed_no1 l k f s c wh lo hi n w h c0 c1
      · have e : spE l k f s c wh lo hi n = 0 := by unfold spE; rw [if_pos h, if_pos ⟨c0, c1⟩]
        rw [e, if_pos rfl, if_pos rfl]
        exact Speed_ok l k f s c wh lo hi n w h c0 c1
  · have e : spE l k f s c wh lo hi n = timE l k f s c wh := by unfold spE; rw [if_neg h]
    rw [e, if_neg h, if_neg h]
    exact Speed_err l k f s c wh lo hi n w h

theorem refSpeed_any (l k f s c wh lo hi n : Int) (w : World) : Calls Try.prog 33 #[.agg #[.int .i64 l, .int .i64 k, .int .i64 f, .int .i64 s, .int .i64 c], .int .i64 wh, .agg #[.int .i64 lo, .int .i64 hi], .int .i64 n] w fun e w' => e = .returned (.tuple #[.agg #[.int .i64 (if spE l k f s c wh lo hi n = 0 then spdL l (timV l k f s c wh) lo n else 0), .int .i64 (if spE l k f s c wh lo hi n = 0 then spdH l (timV l k f s c wh) hi n else 0)], .int .i64 (spE l k f s c wh lo hi n)]) ∧ Below w.heap.size w w' := by
  by_cases h : timE l k f s c wh = 0
  · rcases (Bool.eq_false_or_eq_true (spanB lo hi (-131072) 131072)).symm with c0 | c0
    · have e : spE l k f s c wh lo hi n = 3 := by unfold spE; rw [if_pos h, if_neg (by rw [c0]; simp)]
      rw [e, if_neg (by decide), if_neg (by decide)]
      exact refSpeed_no0 l k f s c wh lo hi n w h c0
    · rcases (Bool.eq_false_or_eq_true (inB n (-64) 64)).symm with c1 | c1
      · have e : spE l k f s c wh lo hi n = 3 := by unfold spE; rw [if_pos h, if_neg (by rw [c1]; simp)]
        rw [e, if_neg (by decide), if_neg (by decide)]
        exact refSpeed_no1 l k f s c wh lo hi n w h c0 c1
      · have e : spE l k f s c wh lo hi n = 0 := by unfold spE; rw [if_pos h, if_pos ⟨c0, c1⟩]
        rw [e, if_pos rfl, if_pos rfl]
        exact refSpeed_ok l k f s c wh lo hi n w h c0 c1
  · have e : spE l k f s c wh lo hi n = timE l k f s c wh := by unfold spE; rw [if_neg h]
    rw [e, if_neg h, if_neg h]
    exact refSpeed_err l k f s c wh lo hi n w h

end Go.Proofs.Ytmojnopgpgnfeaa

namespace Go.Proofs.Ytmojnopgpgnfeaa
open Go.RowKit
set_option linter.unusedVariables false
set_option linter.unusedSimpArgs false

structure SpB (w W : World) (l k f s c lo hi wh n : Int) : Prop where
  c0 : W.cell? ⟨w.heap.size, 0, none⟩ = some (.int .i64 l)
  c1 : W.cell? ⟨w.heap.size, 1, none⟩ = some (.int .i64 k)
  c2 : W.cell? ⟨w.heap.size, 2, none⟩ = some (.int .i64 f)
  c3 : W.cell? ⟨w.heap.size, 3, none⟩ = some (.int .i64 s)
  c4 : W.cell? ⟨w.heap.size, 4, none⟩ = some (.int .i64 c)
  c5 : W.cell? ⟨w.heap.size + 1, 0, none⟩ = some (.int .i64 lo)
  c6 : W.cell? ⟨w.heap.size + 1, 1, none⟩ = some (.int .i64 hi)
  c7 : W.cell? ⟨w.heap.size + 1 + 1, 0, none⟩ = some (.int .i64 wh)
  c8 : W.cell? ⟨w.heap.size + 1 + 1, 1, none⟩ = some (.int .i64 n)
  c9 : W.cell? ⟨w.heap.size + 1 + 1 + 1, 0, none⟩ = some (.int .i64 l)
  c10 : W.cell? ⟨w.heap.size + 1 + 1 + 1, 1, none⟩ = some (.int .i64 k)
  c11 : W.cell? ⟨w.heap.size + 1 + 1 + 1, 2, none⟩ = some (.int .i64 f)
  c12 : W.cell? ⟨w.heap.size + 1 + 1 + 1, 3, none⟩ = some (.int .i64 s)
  c13 : W.cell? ⟨w.heap.size + 1 + 1 + 1, 4, none⟩ = some (.int .i64 c)
  z : w.heap.size + 4 ≤ W.heap.size
  b : Below w.heap.size w W
theorem SpB.keep {w W w1 : World} {l k f s c lo hi wh n : Int} (x : SpB w W l k f s c lo hi wh n) (hb : Below W.heap.size W w1) : SpB w w1 l k f s c lo hi wh n :=
  ⟨keepW hb x.c0, keepW hb x.c1, keepW hb x.c2, keepW hb x.c3, keepW hb x.c4, keepW hb x.c5, keepW hb x.c6, keepW hb x.c7, keepW hb x.c8, keepW hb x.c9, keepW hb x.c10, keepW hb x.c11, keepW hb x.c12, keepW hb x.c13, Nat.le_trans x.z hb.size, x.b.trans (hb.mono x.b.size)⟩
theorem SpB.new (w : World) (l k f s c lo hi wh n : Int) : SpB w ((((w.alloc (.cells #[.int .i64 l, .int .i64 k, .int .i64 f, .int .i64 s, .int .i64 c] 23)).alloc (.cells #[.int .i64 lo, .int .i64 hi] 25)).alloc (.cells #[.int .i64 wh, .int .i64 n] 67)).alloc (.cells #[.int .i64 l, .int .i64 k, .int .i64 f, .int .i64 s, .int .i64 c] 34)) l k f s c lo hi wh n := by
  obtain ⟨A1, e1⟩ : ∃ A, A = w.alloc (.cells #[.int .i64 l, .int .i64 k, .int .i64 f, .int .i64 s, .int .i64 c] 23) := ⟨_, rfl⟩
  obtain ⟨A2, e2⟩ : ∃ A, A = A1.alloc (.cells #[.int .i64 lo, .int .i64 hi] 25) := ⟨_, rfl⟩
  obtain ⟨A3, e3⟩ : ∃ A, A = A2.alloc (.cells #[.int .i64 wh, .int .i64 n] 67) := ⟨_, rfl⟩
  obtain ⟨A4, e4⟩ : ∃ A, A = A3.alloc (.cells #[.int .i64 l, .int .i64 k, .int .i64 f, .int .i64 s, .int .i64 c] 34) := ⟨_, rfl⟩
  have s1 : A1.heap.size = w.heap.size + 1 := by rw [e1]; exact World.size_alloc _ _
  have s2 : A2.heap.size = w.heap.size + 1 + 1 := by rw [e2, World.size_alloc, s1]
  have s3 : A3.heap.size = w.heap.size + 1 + 1 + 1 := by rw [e3, World.size_alloc, s2]
  have s4 : A4.heap.size = w.heap.size + 4 := by rw [e4, World.size_alloc, s3]
  rw [← e1, ← e2, ← e3, ← e4]
  have b1 : Below w.heap.size w A1 := by rw [e1]; exact below_alloc _ _
  have b2 : Below A1.heap.size A1 A2 := by rw [e2]; exact below_alloc _ _
  have b3 : Below A2.heap.size A2 A3 := by rw [e3]; exact below_alloc _ _
  have b4 : Below A3.heap.size A3 A4 := by rw [e4]; exact below_alloc _ _
  have c24 : Below A2.heap.size A2 A4 := b3.trans (b4.mono (by omega))
  have c14 : Below A1.heap.size A1 A4 := b2.trans (c24.mono (by omega))
  exact ⟨keepB c14 (by omega) (by rw [e1]; exact alloc_new rfl rfl), keepB c14 (by omega) (by rw [e1]; exact alloc_new rfl rfl), keepB c14 (by omega) (by rw [e1]; exact alloc_new rfl rfl), keepB c14 (by omega) (by rw [e1]; exact alloc_new rfl rfl), keepB c14 (by omega) (by rw [e1]; exact alloc_new rfl rfl), keepB c24 (by omega) (by rw [e2, ← s1]; exact alloc_new rfl rfl), keepB c24 (by omega) (by rw [e2, ← s1]; exact alloc_new rfl rfl), keepB b4 (by omega) (by rw [e3, ← s2]; exact alloc_new rfl rfl), keepB b4 (by omega) (by rw [e3, ← s2]; exact alloc_new rfl rfl), by rw [e4, ← s3]; exact alloc_new rfl rfl, by rw [e4, ← s3]; exact alloc_new rfl rfl, by rw [e4, ← s3]; exact alloc_new rfl rfl, by rw [e4, ← s3]; exact alloc_new rfl rfl, by rw [e4, ← s3]; exact alloc_new rfl rfl, by omega, b1.trans (c14.mono (by omega))⟩
theorem pair_new (X : World) (a b : Int) (T : TypeId) : (X.alloc (.cells #[.int .i64 a, .int .i64 b] T)).cell? ⟨X.heap.size, 0, none⟩ = some (.int .i64 a) ∧ (X.alloc (.cells #[.int .i64 a, .int .i64 b] T)).cell? ⟨X.heap.size, 1, none⟩ = some (.int .i64 b) := ⟨alloc_new rfl rfl, alloc_new rfl rfl⟩
theorem pair_keep {W w1 : World} {B : Nat} {a b : Value} (h : W.cell? ⟨B, 0, none⟩ = some a ∧ W.cell? ⟨B, 1, none⟩ = some b) (hb : Below W.heap.size W w1) : w1.cell? ⟨B, 0, none⟩ = some a ∧ w1.cell? ⟨B, 1, none⟩ = some b := ⟨keepW hb h.1, keepW hb h.2⟩

set_option maxRecDepth 100000 in
set_option maxHeartbeats 16000000 in
theorem PulseSpeeds_walk (l k f s c lo hi wh n : Int) (w : World) :
    Calls Try.prog 8 #[.agg #[.int .i64 l, .int .i64 k, .int .i64 f, .int .i64 s, .int .i64 c], .agg #[.int .i64 lo, .int .i64 hi], .agg #[.int .i64 wh, .int .i64 n]] w fun e w' => e = .returned (.bool true) ∧ Below w.heap.size w w' := by
  obtain ⟨E, hE⟩ : ∃ x, x = spE l k f s c wh lo hi n := ⟨_, rfl⟩
  obtain ⟨A, hA⟩ : ∃ x, x = (if spE l k f s c wh lo hi n = 0 then spdL l (timV l k f s c wh) lo n else 0) := ⟨_, rfl⟩
  obtain ⟨B, hB⟩ : ∃ x, x = (if spE l k f s c wh lo hi n = 0 then spdH l (timV l k f s c wh) hi n else 0) := ⟨_, rfl⟩
  obtain ⟨N0, hN⟩ : ∃ x : Int, x = (if timE l k f s c wh = 0 then 500 * l else 0) := ⟨_, rfl⟩
  obtain ⟨D0, hD⟩ : ∃ x, x = timV l k f s c wh := ⟨_, rfl⟩
  obtain ⟨G0, hG⟩ : ∃ x, x = timE l k f s c wh := ⟨_, rfl⟩
  obtain ⟨R0, hR⟩ : ∃ x, x = 150 * timV l k f s c wh := ⟨_, rfl⟩
  have HS1 : Hid (∀ W : World, Calls Try.prog 32 #[.agg #[.int .i64 l, .int .i64 k, .int .i64 f, .int .i64 s, .int .i64 c], .int .i64 wh, .agg #[.int .i64 lo, .int .i64 hi], .int .i64 n] W fun e w' => e = .returned (.tuple #[.agg #[.int .i64 A, .int .i64 B], .int .i64 E]) ∧ Below W.heap.size W w') := Lib.hid fun W => by rw [hA, hB, hE]; exact Speed_any _ _ _ _ _ _ _ _ _ W
  have HS2 : Hid (∀ W : World, Calls Try.prog 33 #[.agg #[.int .i64 l, .int .i64 k, .int .i64 f, .int .i64 s, .int .i64 c], .int .i64 wh, .agg #[.int .i64 lo, .int .i64 hi], .int .i64 n] W fun e w' => e = .returned (.tuple #[.agg #[.int .i64 A, .int .i64 B], .int .i64 E]) ∧ Below W.heap.size W w') := Lib.hid fun W => by rw [hA, hB, hE]; exact refSpeed_any _ _ _ _ _ _ _ _ _ W
  have HF1 : Hid (∀ W : World, Calls Try.prog 34 #[.agg #[.int .i64 l, .int .i64 k, .int .i64 f, .int .i64 s, .int .i64 c], .int .i64 wh] W fun e w' => e = .returned (.tuple #[.int .i64 N0, .int .i64 D0, .int .i64 G0]) ∧ Below W.heap.size W w') := Lib.hid fun W => by rw [hN, hD, hG]; exact Fold_any _ _ _ _ _ _ W
  have HF2 : Hid (∀ W : World, Calls Try.prog 35 #[.agg #[.int .i64 l, .int .i64 k, .int .i64 f, .int .i64 s, .int .i64 c], .int .i64 wh] W fun e w' => e = .returned (.tuple #[.int .i64 N0, .int .i64 D0, .int .i64 G0]) ∧ Below W.heap.size W w') := Lib.hid fun W => by rw [hN, hD, hG]; exact refFold_any _ _ _ _ _ _ W
  have HR1 : Hid (∀ W : World, Calls Try.prog 36 #[.agg #[.int .i64 l, .int .i64 k, .int .i64 f, .int .i64 s, .int .i64 c], .int .i64 wh] W fun e w' => e = .returned (.tuple #[.int .i64 R0, .int .i64 G0]) ∧ Below W.heap.size W w') := Lib.hid fun W => by rw [hR, hG]; exact Reach_any _ _ _ _ _ _ W
  have HR2 : Hid (∀ W : World, Calls Try.prog 37 #[.agg #[.int .i64 l, .int .i64 k, .int .i64 f, .int .i64 s, .int .i64 c], .int .i64 wh] W fun e w' => e = .returned (.tuple #[.int .i64 R0, .int .i64 G0]) ∧ Below W.heap.size W w') := Lib.hid fun W => by rw [hR, hG]; exact refReach_any _ _ _ _ _ _ W
  have HK : Hid (∀ W : World, Calls Try.prog 32 #[.agg #[.int .i64 100000, .int .i64 1, .int .i64 1000, .int .i64 0, .int .i64 4], .int .i64 0, .agg #[.int .i64 110, .int .i64 110], .int .i64 1] W fun e w' => e = .returned (.tuple #[.agg #[.int .i64 50083, .int .i64 50084], .int .i64 0]) ∧ Below W.heap.size W w') := Lib.hid fun W => by
    have h := Speed_any 100000 1 1000 0 4 0 110 110 1 W
    rw [show spE 100000 1 1000 0 4 0 110 110 1 = 0 by decide, show timV 100000 1 1000 0 4 0 = 1000 by decide, if_pos rfl, if_pos rfl, show spdL 100000 1000 110 1 = 50083 by decide, show spdH 100000 1000 110 1 = 50084 by decide] at h
    exact h
  clear hE hA hB hN hD hG hR
  have B0 := Lib.hid (SpB.new w l k f s c lo hi wh n)
  go_enter Try.func8, Try.ntmps8
  obtain ⟨c0, c1, c2, c3, c4, c5, c6, c7, c8, c9, c10, c11, c12, c13, hz, hbw⟩ := B0.out
  go_wp2_with fail
  refine (HS1.out _).mono ?_; rintro e' X1 ⟨rfl, hb1⟩
  have B1 := B0.out.keep hb1
  clear c0 c1 c2 c3 c4 c5 c6 c7 c8 c9 c10 c11 c12 c13 hz hbw hb1 B0
  have P1 := Lib.hid (pair_new X1 A B 25)
  have B2 := Lib.hid (B1.keep (below_alloc X1 (.cells #[.int .i64 A, .int .i64 B] 25)))
  clear B1
  obtain ⟨c0, c1, c2, c3, c4, c5, c6, c7, c8, c9, c10, c11, c12, c13, hz, hbw⟩ := B2.out
  go_wp2_with fail
  refine (HS2.out _).mono ?_; rintro e' X2 ⟨rfl, hb2⟩
  have q := below_alloc X2 (.cells #[.int .i64 A, .int .i64 B] 25)
  have P2 := Lib.hid (pair_keep (pair_keep P1.out hb2) q)
  have P3 := Lib.hid (pair_new X2 A B 25)
  have B3 := Lib.hid ((B2.out.keep hb2).keep q)
  clear c0 c1 c2 c3 c4 c5 c6 c7 c8 c9 c10 c11 c12 c13 hz hbw hb2 B2 P1 q
  obtain ⟨c0, c1, c2, c3, c4, c5, c6, c7, c8, c9, c10, c11, c12, c13, hz, hbw⟩ := B3.out
  go_wp2_with fail
  refine (HF1.out _).mono ?_; rintro e' X3 ⟨rfl, hb3⟩
  have P4 := Lib.hid (pair_keep P2.out hb3)
  have P5 := Lib.hid (pair_keep P3.out hb3)
  have B4 := Lib.hid (B3.out.keep hb3)
  clear c0 c1 c2 c3 c4 c5 c6 c7 c8 c9 c10 c11 c12 c13 hz hbw hb3 B3 P2 P3
  obtain ⟨c0, c1, c2, c3, c4, c5, c6, c7, c8, c9, c10, c11, c12, c13, hz, hbw⟩ := B4.out
  go_wp2_with fail
  refine (HF2.out _).mono ?_; rintro e' X4 ⟨rfl, hb4⟩
  have P6 := Lib.hid (pair_keep P4.out hb4)
  have P7 := Lib.hid (pair_keep P5.out hb4)
  have B5 := Lib.hid (B4.out.keep hb4)
  clear c0 c1 c2 c3 c4 c5 c6 c7 c8 c9 c10 c11 c12 c13 hz hbw hb4 B4 P4 P5
  obtain ⟨c0, c1, c2, c3, c4, c5, c6, c7, c8, c9, c10, c11, c12, c13, hz, hbw⟩ := B5.out
  go_wp2_with fail
  refine (HR1.out _).mono ?_; rintro e' X5 ⟨rfl, hb5⟩
  have P8 := Lib.hid (pair_keep P6.out hb5)
  have P9 := Lib.hid (pair_keep P7.out hb5)
  have B6 := Lib.hid (B5.out.keep hb5)
  clear c0 c1 c2 c3 c4 c5 c6 c7 c8 c9 c10 c11 c12 c13 hz hbw hb5 B5 P6 P7
  obtain ⟨c0, c1, c2, c3, c4, c5, c6, c7, c8, c9, c10, c11, c12, c13, hz, hbw⟩ := B6.out
  go_wp2_with fail
  refine (HR2.out _).mono ?_; rintro e' X6 ⟨rfl, hb6⟩
  have bw6 := B6.out.b.trans (hb6.mono B6.out.b.size)
  have Q1 := Lib.hid (pair_keep P8.out hb6)
  have Q2 := Lib.hid (pair_keep P9.out hb6)
  clear c0 c1 c2 c3 c4 c5 c6 c7 c8 c9 c10 c11 c12 c13 hz hbw hb6 B6 P8 P9
  go_wp2_with fail
  refine (O_any _).mono ?_; rintro e' X7 ⟨rfl, hb7⟩
  go_wp2_with fail
  refine (point_any 110 _).mono ?_; rintro e' X8 ⟨rfl, hb8⟩
  go_wp2_with fail
  refine (HK.out _).mono ?_; rintro e' X9 ⟨rfl, hb9⟩
  have q := below_alloc X9 (.cells #[.int .i64 50083, .int .i64 50084] 25)
  have bb := hb7.trans ((hb8.trans ((hb9.trans (q.mono hb9.size)).mono hb8.size)).mono hb7.size)
  obtain ⟨a0, a1⟩ := pair_keep Q1.out bb
  obtain ⟨d0, d1⟩ := pair_keep Q2.out bb
  obtain ⟨z0, z1⟩ := pair_new X9 50083 50084 25
  have bw9 := bw6.trans (bb.mono bw6.size)
  clear hb7 hb8 hb9 q bb Q1 Q2
  go_wp2_with fail
  refine (works_any _).mono ?_; rintro e' X10 ⟨rfl, hb10⟩
  go_wp2
  go_ret
  exact ⟨rfl, bw9.trans (hb10.mono bw9.size)⟩

end Go.Proofs.Ytmojnopgpgnfeaa
