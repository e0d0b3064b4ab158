/-
  The products of a record.
-/
import Derived.Test.YtdmbkhmhaininaaQ
import Derived.Deep.Cut
namespace Go.Proofs.Ytdmbkhmhaininaa
open Go.RowKit
set_option linter.unusedVariables false
set_option linter.unusedSimpArgs false

/-- a box of a span that may be written -/
structure PQ2 (W : World) (q : Nat) (lo hi : Int) : Prop where
  c0 : W.cell? ⟨q, 0, none⟩ = some (.int .i64 lo)
  c1 : W.cell? ⟨q, 1, none⟩ = some (.int .i64 hi)
  f0 : W.frozen? ⟨q, 0, none⟩ = false
  f1 : W.frozen? ⟨q, 1, none⟩ = false
theorem PQ2.keep {W w1 : World} {q : Nat} {lo hi : Int} (s : PQ2 W q lo hi) (hb : Below W.heap.size W w1) (h : q < W.heap.size) : PQ2 w1 q lo hi := ⟨keepB hb h s.c0, keepB hb h s.c1, keepF hb h s.f0, keepF hb h s.f1⟩
theorem one_span (W : World) (lo hi : Int) : SpansAt (W.alloc (.cells #[.int .i64 lo, .int .i64 hi] 24)) W.heap.size 0 1 (fun _ => (lo, hi)) := fun i hi => by
  match i, hi with
  | 0, _ => exact ⟨alloc_new rfl rfl, alloc_new rfl rfl⟩
/-- what the loop over the readings keeps -/
structure PrRel (w wr : World) (n : Nat) (rs : Nat → Rc) (en : Int) (k : Nat) : Prop where
  r0 : wr.cell? ⟨w.heap.size, 0, none⟩ = some (.int .i64 0)
  r1 : wr.cell? ⟨w.heap.size, 1, none⟩ = some (.int .i64 0)
  g0 : wr.frozen? ⟨w.heap.size, 0, none⟩ = false
  g1 : wr.frozen? ⟨w.heap.size, 1, none⟩ = false
  s0 : wr.cell? ⟨w.heap.size + 1, 0, none⟩ = some (.int .i64 (prL n rs en k))
  s1 : wr.cell? ⟨w.heap.size + 1, 1, none⟩ = some (.int .i64 (prH n rs en k))
  u0 : wr.frozen? ⟨w.heap.size + 1, 0, none⟩ = false
  u1 : wr.frozen? ⟨w.heap.size + 1, 1, none⟩ = false
  z : w.heap.size + 1 < wr.heap.size
  b : Below w.heap.size w wr
theorem PrRel.keep {w W w1 : World} {n : Nat} {rs : Nat → Rc} {en : Int} {k C : Nat} (R : PrRel w W n rs en k) (hb : Below C W w1) (hC : w.heap.size + 1 < C) : PrRel w w1 n rs en k :=
  ⟨keepB hb (by omega) R.r0, keepB hb (by omega) R.r1, keepF hb (by omega) R.g0, keepF hb (by omega) R.g1, keepB hb hC R.s0, keepB hb hC R.s1, keepF hb hC R.u0, keepF hb hC R.u1, Nat.lt_of_lt_of_le R.z hb.size, R.b.trans (hb.mono (by omega))⟩
theorem PrRel.next {w W : World} {n : Nat} {rs : Nat → Rc} {en : Int} {k : Nat} (R : PrRel w W n rs en k) (x y : Int) (hx : prL n rs en (k + 1) = x) (hy : prH n rs en (k + 1) = y) : PrRel w ((W.setCell ⟨w.heap.size + 1, 0, none⟩ (.int .i64 x)).setCell ⟨w.heap.size + 1, 1, none⟩ (.int .i64 y)) n rs en (k + 1) := by
  have hB : Below (w.heap.size + 1) W ((W.setCell ⟨w.heap.size + 1, 0, none⟩ (.int .i64 x)).setCell ⟨w.heap.size + 1, 1, none⟩ (.int .i64 y)) := ((Below.refl _ W).setCell (p := ⟨w.heap.size + 1, 0, none⟩) (Nat.le_refl _) _).setCell (p := ⟨w.heap.size + 1, 1, none⟩) (Nat.le_refl _) _
  exact ⟨keepB hB (by omega) R.r0, keepB hB (by omega) R.r1, keepF hB (by omega) R.g0, keepF hB (by omega) R.g1, by rw [hx]; exact set_other (by decide) (set_same R.s0), by rw [hy]; exact set_same (set_other (by decide) R.s1), by simp; exact R.u0, by simp; exact R.u1, by simp; exact R.z, R.b.trans (hB.mono (by omega))⟩
theorem prod_boxes (w : World)  : ∃ A, A = (w.alloc (.cells #[.int .i64 0, .int .i64 0] 24)).alloc (.cells #[.int .i64 0, .int .i64 0] 24) ∧ Below w.heap.size w A ∧ A.heap.size = w.heap.size + 2 ∧ A.cell? ⟨w.heap.size, 0, none⟩ = some (.int .i64 0) ∧ A.cell? ⟨w.heap.size, 1, none⟩ = some (.int .i64 0) ∧ A.cell? ⟨w.heap.size + 1, 0, none⟩ = some (.int .i64 0) ∧ A.cell? ⟨w.heap.size + 1, 1, none⟩ = some (.int .i64 0) ∧ A.frozen? ⟨w.heap.size, 0, none⟩ = false ∧ A.frozen? ⟨w.heap.size, 1, none⟩ = false ∧ A.frozen? ⟨w.heap.size + 1, 0, none⟩ = false ∧ A.frozen? ⟨w.heap.size + 1, 1, none⟩ = false := by
  obtain ⟨A0, e0⟩ : ∃ A, A = w.alloc (.cells #[.int .i64 0, .int .i64 0] 24) := ⟨_, rfl⟩
  have s0 : A0.heap.size = w.heap.size + 1 := by rw [e0, World.size_alloc]
  have b0 : Below w.heap.size w A0 := by rw [e0]; exact below_alloc _ _
  have c0_0_0 : A0.cell? ⟨w.heap.size, 0, none⟩ = some (.int .i64 0) := by rw [e0]; exact alloc_new rfl rfl
  have c0_1_0 : A0.cell? ⟨w.heap.size, 1, none⟩ = some (.int .i64 0) := by rw [e0]; exact alloc_new rfl rfl
  have f0_0_0 : A0.frozen? ⟨w.heap.size, 0, none⟩ = false := by rw [e0]; exact alloc_newF rfl
  have f0_1_0 : A0.frozen? ⟨w.heap.size, 1, none⟩ = false := by rw [e0]; exact alloc_newF rfl
  rw [← e0]
  exact ⟨_, rfl, b0.trans ((below_alloc _ _).mono (by omega)), by rw [World.size_alloc]; omega, alloc_keep (by omega) c0_0_0, alloc_keep (by omega) c0_1_0, alloc_new s0.symm rfl, alloc_new s0.symm rfl, alloc_keepF (by omega) f0_0_0, alloc_keepF (by omega) f0_1_0, alloc_newF s0.symm, alloc_newF s0.symm⟩
theorem prod_boxes2 (w : World) (t lo hi : Int) : ∃ A, A = (w.alloc (.cells #[.int .i64 t, .int .i64 lo, .int .i64 hi] 60)).alloc (.cells #[.int .i64 lo, .int .i64 hi] 24) ∧ Below w.heap.size w A ∧ A.heap.size = w.heap.size + 2 ∧ A.cell? ⟨w.heap.size, 0, none⟩ = some (.int .i64 t) ∧ A.cell? ⟨w.heap.size, 1, none⟩ = some (.int .i64 lo) ∧ A.cell? ⟨w.heap.size, 2, none⟩ = some (.int .i64 hi) ∧ A.cell? ⟨w.heap.size + 1, 0, none⟩ = some (.int .i64 lo) ∧ A.cell? ⟨w.heap.size + 1, 1, none⟩ = some (.int .i64 hi) ∧ A.frozen? ⟨w.heap.size + 1, 0, none⟩ = false ∧ A.frozen? ⟨w.heap.size + 1, 1, none⟩ = false := by
  obtain ⟨A0, e0⟩ : ∃ A, A = w.alloc (.cells #[.int .i64 t, .int .i64 lo, .int .i64 hi] 60) := ⟨_, rfl⟩
  have s0 : A0.heap.size = w.heap.size + 1 := by rw [e0, World.size_alloc]
  have b0 : Below w.heap.size w A0 := by rw [e0]; exact below_alloc _ _
  have c0_0_0 : A0.cell? ⟨w.heap.size, 0, none⟩ = some (.int .i64 t) := by rw [e0]; exact alloc_new rfl rfl
  have c0_1_0 : A0.cell? ⟨w.heap.size, 1, none⟩ = some (.int .i64 lo) := by rw [e0]; exact alloc_new rfl rfl
  have c0_2_0 : A0.cell? ⟨w.heap.size, 2, none⟩ = some (.int .i64 hi) := by rw [e0]; exact alloc_new rfl rfl
  rw [← e0]
  exact ⟨_, rfl, b0.trans ((below_alloc _ _).mono (by omega)), by rw [World.size_alloc]; omega, alloc_keep (by omega) c0_0_0, alloc_keep (by omega) c0_1_0, alloc_keep (by omega) c0_2_0, alloc_new s0.symm rfl, alloc_new s0.symm rfl, alloc_newF s0.symm, alloc_newF s0.symm⟩

set_option maxRecDepth 100000 in
set_option maxHeartbeats 6400000 in
theorem products_any (b off n cap : Nat) (rs : Nat → Rc) (en : Int) (w : World) (hk : RecOk n rs) (hl : n ≤ 1000000) (he : (rs (n - 1)).t ≤ en) (he2 : en ≤ 4294967296) (hs : RecsAt w b off n rs) (hb : b < w.heap.size) :
    Calls Try.prog 71 #[.slice (some ⟨b, off, none⟩) n cap, .int .i64 en] w fun e w' => e = .returned (.agg #[.int .i64 (prL n rs en n), .int .i64 (prH n rs en n)]) ∧ Below w.heap.size w w' := by
  have HS := Lib.hid hs
  clear hs
  obtain ⟨A, hA, bA, zA, r0, r1, s0, s1, g0, g1, u0, u1⟩ := prod_boxes w
  have HR0 := Lib.hid (show PrRel w A n rs en 0 from ⟨r0, r1, g0, g1, s0, s1, u0, u1, by omega, bA⟩)
  rw [hA] at HR0
  clear hA bA zA r0 r1 s0 s1 g0 g1 u0 u1
  go_enter Try.func71, Try.ntmps71
  go_wp2
  go_loopw [12] (fun i wr => ∃ k : Nat, k ≤ n ∧ i = .int .i64 k ∧ PrRel w wr n rs en k) (fun i _ => n - (intOf i).toNat)
  case atStart => exact ⟨0, Nat.zero_le _, rfl, HR0.out⟩
  case round =>
    clear HR0
    obtain ⟨k, hk2, rfl, hR⟩ := hrel
    have HR := Lib.hid hR
    have hbw := hR.b
    have zr := hR.z
    clear hR
    by_cases hlt : k < n
    · have c0 := keepB hbw hb (HS.out k hlt).1
      have c1 := keepB hbw hb (HS.out k hlt).2.1
      have c2 := keepB hbw hb (HS.out k hlt).2.2
      have lbr : b < wr.heap.size := Nat.lt_of_lt_of_le hb hbw.size
      have tb := hk.tb k hlt
      have rb := hk.rb k hlt
      have sb := hk.sums_bd he he2 (k := k) (by omega)
      have sb2 := hk.sums_bd he he2 (k := k + 1) (by omega)
      have sx := hk.step he hlt
      have hrr := hk.rates hlt
      have q0 : (0 : Int) ≤ (k : Int) := by omega
      have q1 : (k : Int) < (n : Int) := by omega
      have i0 : IntKind.i64.wrap ((k : Int) + 1) = (k : Int) + 1 := IntWalk.i64_in _ (by omega)
      have HP := Lib.hid (show prL n rs en (k + 1) = prL n rs en k + rlo n rs k * (unt n rs en k - (rs k).t) ∧ prH n rs en (k + 1) = prH n rs en k + rhi n rs k * (unt n rs en k - (rs k).t) from ⟨rfl, rfl⟩)
      obtain ⟨M1, hM1⟩ : ∃ x, x = rlo n rs k * (unt n rs en k - (rs k).t) := ⟨_, rfl⟩
      obtain ⟨M2, hM2⟩ : ∃ x, x = rhi n rs k * (unt n rs en k - (rs k).t) := ⟨_, rfl⟩
      rw [HP.out.1, HP.out.2, ← hM1, ← hM2] at sb2
      rw [← hM1, ← hM2] at HP
      have m1 : 0 ≤ M1 := by rw [hM1]; exact Int.mul_nonneg hrr.1 sx
      have m2 : 0 ≤ M2 := by rw [hM2]; exact Int.mul_nonneg (by omega) sx
      obtain ⟨E, hA, bA, zA, a0, a1, a2, d0, d1, e0, e1⟩ := prod_boxes2 wr (rs k).t (rs k).lo (rs k).hi
      by_cases hl2 : k + 1 < n
      · have x1 : rlo n rs k = min (rs k).lo (rs (k + 1)).lo := by unfold rlo; rw [if_pos hl2]
        have x2 : rhi n rs k = max (rs k).hi (rs (k + 1)).hi := by unfold rhi; rw [if_pos hl2]
        have x3 : unt n rs en k = (rs (k + 1)).t := by unfold unt; rw [if_pos hl2]
        rw [x1, x3] at hM1
        rw [x2, x3] at hM2
        rw [x3] at sx
        have tb2 := hk.tb (k + 1) hl2
        have rb2 := hk.rb (k + 1) hl2
        have w0 := keepB hbw hb (HS.out (k + 1) hl2).1
        have w1 := keepB hbw hb (HS.out (k + 1) hl2).2.1
        have w2 := keepB hbw hb (HS.out (k + 1) hl2).2.2
        have dl : decide ((k : Int) + 1 < (n : Int)) = true := decide_eq_true (by omega)
        have q2 : (0 : Int) ≤ (k : Int) + 1 := by omega
        have q3 : (k : Int) + 1 < (n : Int) := by omega
        have t1 : ((k : Int) + 1).toNat = k + 1 := by omega
        have HM := Lib.hid (And.intro hM1.symm hM2.symm)
        clear x1 x2 x3 hM1 hM2 hrr HS
        obtain ⟨LO, hLO⟩ : ∃ x, x = min (rs k).lo (rs (k + 1)).lo := ⟨_, rfl⟩
        obtain ⟨HI, hHI⟩ : ∃ x, x = max (rs k).hi (rs (k + 1)).hi := ⟨_, rfl⟩
        rw [← hLO, ← hHI] at HM
        have HHU := Lib.hid (fun (sa : Option Addr) (sc : Nat) W (h : SliceIs W sa 1 sc (fun _ => ((rs (k + 1)).lo, (rs (k + 1)).hi))) => show Calls Try.prog 98 #[.agg #[.int .i64 (rs k).lo, .int .i64 (rs k).hi], .slice sa 1 sc] W fun e w' => e = .returned (.agg #[.int .i64 LO, .int .i64 HI]) ∧ Below W.heap.size W w' from by rw [hLO, hHI]; exact hull_any _ _ sa 1 sc _ W (by decide) h)
        clear hLO hHI
        generalize (rs k).t = t at *
        generalize (rs k).lo = lo at *
        generalize (rs k).hi = hi at *
        generalize (rs (k + 1)).t = t2 at *
        generalize (rs (k + 1)).lo = lo2 at *
        generalize (rs (k + 1)).hi = hi2 at *
        have w0 := keepB bA lbr w0
        have w1 := keepB bA lbr w1
        have w2 := keepB bA lbr w2
        have RA := Lib.hid (HR.out.keep bA zr)
        go_wp2_with fail
        rw [← hA]
        clear hA c0 c1 c2
        obtain ⟨p, hp⟩ : ∃ p, p = wr.heap.size := ⟨_, rfl⟩
        rw [← hp] at a0 a1 a2 d0 d1 e0 e1 zA lbr zr bA ⊢
        clear hp
        have HPQ := Lib.hid (show PQ2 E.drew (p + 1) lo hi from ⟨d0, d1, e0, e1⟩)
        have zE : p + 1 < E.drew.heap.size := by have : E.drew.heap.size = E.heap.size := rfl; omega
        have HS2 := Lib.hid (show (fun w' : World => w'.cell? ⟨p, 1, none⟩ = some (.int .i64 lo) ∧ w'.cell? ⟨p, 2, none⟩ = some (.int .i64 hi) ∧ w'.cell? ⟨b, off + (k + 1) * 3, none⟩ = some (.int .i64 t2) ∧ w'.cell? ⟨b, off + (k + 1) * 3 + 1, none⟩ = some (.int .i64 lo2) ∧ w'.cell? ⟨b, off + (k + 1) * 3 + 2, none⟩ = some (.int .i64 hi2) ∧ Below (p + 1) E w') E.drew from ⟨a1, a2, w0, w1, w2, (Below.refl _ _).drew⟩)
        clear a1 a2 d0 d1 e0 e1 w0 w1 w2
        refine wp_region_held_tail (S := (fun w' : World => w'.cell? ⟨p, 1, none⟩ = some (.int .i64 lo) ∧ w'.cell? ⟨p, 2, none⟩ = some (.int .i64 hi) ∧ w'.cell? ⟨b, off + (k + 1) * 3, none⟩ = some (.int .i64 t2) ∧ w'.cell? ⟨b, off + (k + 1) * 3 + 1, none⟩ = some (.int .i64 lo2) ∧ w'.cell? ⟨b, off + (k + 1) * 3 + 2, none⟩ = some (.int .i64 hi2) ∧ Below (p + 1) E w')) 17 (by kernel_rfl) (by kernel_rfl) HS2.out (fun hHeld => ?_)
        obtain ⟨D, hD⟩ : ∃ D, D = E.drew := ⟨_, rfl⟩
        have pq : PQ2 D (p + 1) lo hi := by rw [hD]; exact HPQ.out
        have zq : p + 1 < D.heap.size := by rw [hD]; exact zE
        rw [← hD] at hHeld ⊢
        clear hD
        refine wpAnyH_take (i := 0) (v := ?v0_1) rfl (by kernel_rfl) (by kernel_rfl) (by kernel_rfl) (fun _ _ _ h => h) (Or.inl ⟨by rfl, ?hy0_1⟩) (by assumption) ?rest0_1
        case hy0_1 => (intro w hSw; (try dsimp only at hSw); go_simp; (try with_reducible rfl))
        try simp only [Act.put, List.getElem_toArray, List.getElem_cons_zero, List.getElem_cons_succ, List.setIfInBounds_toArray, List.set_cons_zero, List.set_cons_succ]
        refine wpAnyH_take (i := 1) (v := ?v1_2) rfl (by kernel_rfl) (by kernel_rfl) (by kernel_rfl) (fun _ _ _ h => h) (Or.inl ⟨by rfl, ?hy1_2⟩) (by assumption) ?rest1_2
        case hy1_2 => (intro w hSw; (try dsimp only at hSw); go_simp; (try with_reducible rfl))
        try simp only [Act.put, List.getElem_toArray, List.getElem_cons_zero, List.getElem_cons_succ, List.setIfInBounds_toArray, List.set_cons_zero, List.set_cons_succ]
        refine wpAnyH_take (i := 2) (v := ?v2_3) rfl (by kernel_rfl) (by kernel_rfl) (by kernel_rfl) (fun _ _ _ h => h) (Or.inl ⟨by rfl, ?hy2_3⟩) (by assumption) ?rest2_3
        case hy2_3 => (intro w hSw; (try dsimp only at hSw); go_simp; (try with_reducible rfl))
        try simp only [Act.put, List.getElem_toArray, List.getElem_cons_zero, List.getElem_cons_succ, List.setIfInBounds_toArray, List.set_cons_zero, List.set_cons_succ]
        refine wpAnyH_take (i := 3) (v := ?v3_4) rfl (by kernel_rfl) (by kernel_rfl) (by kernel_rfl) (fun _ _ _ h => h) (Or.inl ⟨by rfl, ?hy3_4⟩) (by assumption) ?rest3_4
        case hy3_4 => (intro w hSw; (try dsimp only at hSw); go_simp; (try with_reducible rfl))
        try simp only [Act.put, List.getElem_toArray, List.getElem_cons_zero, List.getElem_cons_succ, List.setIfInBounds_toArray, List.set_cons_zero, List.set_cons_succ]
        refine wpAnyH_take (i := 4) (v := ?v4_5) rfl (by kernel_rfl) (by kernel_rfl) (by kernel_rfl) (fun _ _ _ h => h) (Or.inl ⟨by rfl, ?hy4_5⟩) (by assumption) ?rest4_5
        case hy4_5 => (intro w hSw; (try dsimp only at hSw); go_simp; (try with_reducible rfl))
        try simp only [Act.put, List.getElem_toArray, List.getElem_cons_zero, List.getElem_cons_succ, List.setIfInBounds_toArray, List.set_cons_zero, List.set_cons_succ]
        refine wpAnyH_take (i := 5) (v := ?v5_6) rfl (by kernel_rfl) (by kernel_rfl) (by kernel_rfl) (fun _ _ _ h => h) (Or.inl ⟨by rfl, ?hy5_6⟩) (by assumption) ?rest5_6
        case hy5_6 => (intro w hSw; (try dsimp only at hSw); go_simp; (try with_reducible rfl))
        try simp only [Act.put, List.getElem_toArray, List.getElem_cons_zero, List.getElem_cons_succ, List.setIfInBounds_toArray, List.set_cons_zero, List.set_cons_succ]
        refine wpAnyH_take (i := 6) (v := ?v6_7) rfl (by kernel_rfl) (by kernel_rfl) (by kernel_rfl) (fun _ _ _ h => h) (Or.inl ⟨by rfl, ?hy6_7⟩) (by assumption) ?rest6_7
        case hy6_7 => (intro w hSw; (try dsimp only at hSw); go_simp; (try with_reducible rfl))
        try simp only [Act.put, List.getElem_toArray, List.getElem_cons_zero, List.getElem_cons_succ, List.setIfInBounds_toArray, List.set_cons_zero, List.set_cons_succ]
        refine wpAnyH_take (i := 7) (v := ?v7_8) rfl (by kernel_rfl) (by kernel_rfl) (by kernel_rfl) (fun _ _ _ h => h) (Or.inl ⟨by rfl, ?hy7_8⟩) (by assumption) ?rest7_8
        case hy7_8 => (intro w hSw; (try dsimp only at hSw); go_simp; (try with_reducible rfl))
        try simp only [Act.put, List.getElem_toArray, List.getElem_cons_zero, List.getElem_cons_succ, List.setIfInBounds_toArray, List.set_cons_zero, List.set_cons_succ]
        refine wpAnyH_take (i := 10) (v := ?v10_9) rfl (by kernel_rfl) (by kernel_rfl) (by kernel_rfl) (fun _ _ _ h => h) (Or.inl ⟨by rfl, ?hy10_9⟩) (by assumption) ?rest10_9
        case hy10_9 => (intro w hSw; (try dsimp only at hSw); go_simp; (try with_reducible rfl))
        try simp only [Act.put, List.getElem_toArray, List.getElem_cons_zero, List.getElem_cons_succ, List.setIfInBounds_toArray, List.set_cons_zero, List.set_cons_succ]
        refine wpAnyH_take (i := 11) (v := ?v11_10) rfl (by kernel_rfl) (by kernel_rfl) (by kernel_rfl) (fun _ _ _ h => h) (Or.inl ⟨by rfl, ?hy11_10⟩) (by assumption) ?rest11_10
        case hy11_10 => (intro w hSw; (try dsimp only at hSw); go_simp; (try with_reducible rfl))
        try simp only [Act.put, List.getElem_toArray, List.getElem_cons_zero, List.getElem_cons_succ, List.setIfInBounds_toArray, List.set_cons_zero, List.set_cons_succ]
        refine wpAnyH_take (i := 12) (v := ?v12_11) rfl (by kernel_rfl) (by kernel_rfl) (by kernel_rfl) (fun _ _ _ h => h) (Or.inl ⟨by rfl, ?hy12_11⟩) (by assumption) ?rest12_11
        case hy12_11 => (intro w hSw; (try dsimp only at hSw); go_simp; (try with_reducible rfl))
        try simp only [Act.put, List.getElem_toArray, List.getElem_cons_zero, List.getElem_cons_succ, List.setIfInBounds_toArray, List.set_cons_zero, List.set_cons_succ]
        refine wpAnyH_take (i := 13) (v := ?v13_12) rfl (by kernel_rfl) (by kernel_rfl) (by kernel_rfl) (fun _ _ _ h => h) (Or.inl ⟨by rfl, ?hy13_12⟩) (by assumption) ?rest13_12
        case hy13_12 => (intro w hSw; (try dsimp only at hSw); go_simp; (try with_reducible rfl))
        try simp only [Act.put, List.getElem_toArray, List.getElem_cons_zero, List.getElem_cons_succ, List.setIfInBounds_toArray, List.set_cons_zero, List.set_cons_succ]
        refine wpAnyH_take (i := 14) (v := ?v14_13) rfl (by kernel_rfl) (by kernel_rfl) (by kernel_rfl) (fun _ _ _ h => h) (Or.inl ⟨by rfl, ?hy14_13⟩) (by assumption) ?rest14_13
        case hy14_13 => (intro w hSw; (try dsimp only at hSw); go_simp; (try with_reducible rfl))
        try simp only [Act.put, List.getElem_toArray, List.getElem_cons_zero, List.getElem_cons_succ, List.setIfInBounds_toArray, List.set_cons_zero, List.set_cons_succ]
        refine wpAnyH_take (i := 15) (v := ?v15_14) rfl (by kernel_rfl) (by kernel_rfl) (by kernel_rfl) (fun _ _ _ h => h) (Or.inl ⟨by rfl, ?hy15_14⟩) (by assumption) ?rest15_14
        case hy15_14 => (intro w hSw; (try dsimp only at hSw); go_simp; (try with_reducible rfl))
        try simp only [Act.put, List.getElem_toArray, List.getElem_cons_zero, List.getElem_cons_succ, List.setIfInBounds_toArray, List.set_cons_zero, List.set_cons_succ]
        refine wpAnyH_ready (rs := [8]) (by kernel_rfl) (by simp) ?_
        refine AllReadyH.cons rfl (fun K hK => ?_) AllReadyH.nil
        go_simp
        have sF : SpansAt (D.alloc (.cells #[.int .i64 lo2, .int .i64 hi2] 24)) D.heap.size 0 1 (fun _ => (lo2, hi2)) := one_span D lo2 hi2
        have zF : D.heap.size < (D.alloc (.cells #[.int .i64 lo2, .int .i64 hi2] 24)).heap.size := by rw [World.size_alloc]; omega
        have hb' : Below D.heap.size D (D.alloc (.cells #[.int .i64 lo2, .int .i64 hi2] 24)) := below_alloc _ _
        obtain ⟨q, hq⟩ : ∃ q, q = D.heap.size := ⟨_, rfl⟩
        obtain ⟨F, hF⟩ : ∃ F, F = D.alloc (.cells #[.int .i64 lo2, .int .i64 hi2] 24) := ⟨_, rfl⟩
        rw [← hF] at sF zF hb' ⊢
        rw [← hq] at sF zF ⊢
        have pq := pq.keep hb' zq
        have zq := Nat.lt_of_lt_of_le zq hb'.size
        refine hK.out _ _ (⟨keepW hb' hHeld.1, keepW hb' hHeld.2.1, keepW hb' hHeld.2.2.1, keepW hb' hHeld.2.2.2.1, keepW hb' hHeld.2.2.2.2.1, hHeld.2.2.2.2.2.trans (hb'.mono (by omega))⟩) (fun hHeld2 => ?_)
        clear hK K hHeld hb' hF hq
        have hHeld := hHeld2
        clear hHeld2
        try simp only [Act.put, List.getElem_toArray, List.getElem_cons_zero, List.getElem_cons_succ, List.setIfInBounds_toArray, List.set_cons_zero, List.set_cons_succ]
        refine wpAnyH_ready (rs := [9]) (by kernel_rfl) (by simp) ?_
        refine AllReadyH.cons rfl (fun K hK => ?_) AllReadyH.nil
        go_simp
        refine (HHU.out _ _ _ (.inr ⟨q, 0, rfl, zF, sF⟩)).mono ?_; rintro e' W1 ⟨rfl, hb'⟩
        have pq := pq.keep hb' zq
        have zq := Nat.lt_of_lt_of_le zq hb'.size
        refine hK.out _ _ (⟨keepW hb' hHeld.1, keepW hb' hHeld.2.1, keepW hb' hHeld.2.2.1, keepW hb' hHeld.2.2.2.1, keepW hb' hHeld.2.2.2.2.1, hHeld.2.2.2.2.2.trans (hb'.mono (by omega))⟩) (fun hHeld2 => ?_)
        clear hK K hHeld hb' sF zF
        have hHeld := hHeld2
        clear hHeld2
        try simp only [Act.put, List.getElem_toArray, List.getElem_cons_zero, List.getElem_cons_succ, List.setIfInBounds_toArray, List.set_cons_zero, List.set_cons_succ]
        obtain ⟨oc0, oc1, of0, of1⟩ := pq
        refine wpAnyH_ready (rs := [16]) (by kernel_rfl) (by simp) ?_
        refine AllReadyH.cons rfl (fun K hK => ?_) AllReadyH.nil
        go_simp
        have bS : Below (p + 1) W1 ((W1.setCell ⟨p + 1, 0, none⟩ (.int .i64 LO)).setCell ⟨p + 1, 1, none⟩ (.int .i64 HI)) := ((Below.refl (p + 1) W1).setCell (p := ⟨p + 1, 0, none⟩) (Nat.le_refl _) _).setCell (p := ⟨p + 1, 1, none⟩) (Nat.le_refl _) _
        have z0 : ((W1.setCell ⟨p + 1, 0, none⟩ (.int .i64 LO)).setCell ⟨p + 1, 1, none⟩ (.int .i64 HI)).cell? ⟨p + 1, 0, none⟩ = some (.int .i64 LO) := set_other (by decide) (set_same oc0)
        have z1 : ((W1.setCell ⟨p + 1, 0, none⟩ (.int .i64 LO)).setCell ⟨p + 1, 1, none⟩ (.int .i64 HI)).cell? ⟨p + 1, 1, none⟩ = some (.int .i64 HI) := set_same (set_other (by decide) oc1)
        have bE1 : Below (p + 1) E ((W1.setCell ⟨p + 1, 0, none⟩ (.int .i64 LO)).setCell ⟨p + 1, 1, none⟩ (.int .i64 HI)) := hHeld.2.2.2.2.2.trans bS
        obtain ⟨G, hG⟩ : ∃ G, G = (W1.setCell ⟨p + 1, 0, none⟩ (.int .i64 LO)).setCell ⟨p + 1, 1, none⟩ (.int .i64 HI) := ⟨_, rfl⟩
        rw [← hG] at bS z0 z1 bE1 ⊢
        refine hK.out _ _ (⟨keepB bS (by omega) hHeld.1, keepB bS (by omega) hHeld.2.1, keepB bS (by omega) hHeld.2.2.1, keepB bS (by omega) hHeld.2.2.2.1, keepB bS (by omega) hHeld.2.2.2.2.1, bE1⟩) (fun hHeld2 => ?_)
        clear hK K hHeld hG bS oc0 oc1 of0 of1 zq
        have hHeld := hHeld2
        clear hHeld2
        try simp only [Act.put, List.getElem_toArray, List.getElem_cons_zero, List.getElem_cons_succ, List.setIfInBounds_toArray, List.set_cons_zero, List.set_cons_succ]
        refine wpAnyH_done (by kernel_rfl) ?_ _
        change wpList _ _ _ _ _ _
        simp only [List.drop_succ_cons, List.drop_zero]
        obtain ⟨h0, h1, h2, h3, h4, hbG⟩ := hHeld
        have RG := RA.out.keep hbG (by omega)
        have f0 := keepB hbG (by omega) a0
        have HN := Lib.hid (RG.next (prL n rs en k + M1) (prH n rs en k + M2) HP.out.1 HP.out.2)
        have s0 := RG.s0
        have s1 := RG.s1
        have u0 := RG.u0
        have u1 := RG.u1
        have zG := RG.z
        have zp : p < G.heap.size := World.block_lt_of_cell? _ ⟨p, 1, none⟩ h0
        have zp2 : p + 1 < G.heap.size := World.block_lt_of_cell? _ ⟨p + 1, 0, none⟩ z0
        clear RG hbG HR RA HS2 HPQ h0 h1 h2 h3 h4 a0
        have i1 : IntKind.i64.wrap (t2 - t) = t2 - t := IntWalk.i64_in _ (by omega)
        have j1 : LO * (t2 - t) = M1 := HM.out.1
        have j2 : HI * (t2 - t) = M2 := HM.out.2
        have j3 : IntKind.i64.wrap M1 = M1 := IntWalk.i64_in _ (by omega)
        have j4 : IntKind.i64.wrap M2 = M2 := IntWalk.i64_in _ (by omega)
        have j5 : IntKind.i64.wrap (LO * (t2 - t)) = M1 := by rw [j1]; exact j3
        have j6 : IntKind.i64.wrap (HI * (t2 - t)) = M2 := by rw [j2]; exact j4
        have j7 : IntKind.i64.wrap (prL n rs en k + M1) = prL n rs en k + M1 := IntWalk.i64_in _ (by omega)
        have j8 : IntKind.i64.wrap (prH n rs en k + M2) = prH n rs en k + M2 := IntWalk.i64_in _ (by omega)
        go_wp2
        go_roundw
        case rel => exact ⟨k + 1, by omega, by go_num, HN.out⟩
        case measure => simp [intOf]; omega
      · have x1 : rlo n rs k = (rs k).lo := by unfold rlo; rw [if_neg hl2]
        have x2 : rhi n rs k = (rs k).hi := by unfold rhi; rw [if_neg hl2]
        have x3 : unt n rs en k = en := by unfold unt; rw [if_neg hl2]
        rw [x1, x3] at hM1
        rw [x2, x3] at hM2
        rw [x3] at sx
        have dl : decide ((k : Int) + 1 < (n : Int)) = false := decide_eq_false (by omega)
        have HM := Lib.hid (And.intro hM1.symm hM2.symm)
        have tn := hk.tb k hlt
        clear x1 x2 x3 hM1 hM2 hrr HS
        generalize (rs k).t = t at *
        generalize (rs k).lo = lo at *
        generalize (rs k).hi = hi at *
        have RA := HR.out.keep bA zr
        have HN := Lib.hid (RA.next (prL n rs en k + M1) (prH n rs en k + M2) HP.out.1 HP.out.2)
        have s0 := RA.s0
        have s1 := RA.s1
        have u0 := RA.u0
        have u1 := RA.u1
        have zG := RA.z
        clear RA HR
        go_upto_region 8 with fail
        rw [← hA]
        clear hA c0 c1 c2
        have zp : wr.heap.size < E.heap.size := by omega
        have zp2 : wr.heap.size + 1 < E.heap.size := by omega
        have i1 : IntKind.i64.wrap (en - t) = en - t := IntWalk.i64_in _ (by omega)
        have j1 : lo * (en - t) = M1 := HM.out.1
        have j2 : hi * (en - t) = M2 := HM.out.2
        have j3 : IntKind.i64.wrap M1 = M1 := IntWalk.i64_in _ (by omega)
        have j4 : IntKind.i64.wrap M2 = M2 := IntWalk.i64_in _ (by omega)
        have j5 : IntKind.i64.wrap (lo * (en - t)) = M1 := by rw [j1]; exact j3
        have j6 : IntKind.i64.wrap (hi * (en - t)) = M2 := by rw [j2]; exact j4
        have j7 : IntKind.i64.wrap (prL n rs en k + M1) = prL n rs en k + M1 := IntWalk.i64_in _ (by omega)
        have j8 : IntKind.i64.wrap (prH n rs en k + M2) = prH n rs en k + M2 := IntWalk.i64_in _ (by omega)
        go_wp2
        go_roundw
        case rel => exact ⟨k + 1, by omega, by go_num, HN.out⟩
        case measure => simp [intOf]; omega
    · have hkn : k = n := by omega
      subst hkn
      have r0 := HR.out.r0
      have r1 := HR.out.r1
      have g0 := HR.out.g0
      have g1 := HR.out.g1
      have s0 := HR.out.s0
      have s1 := HR.out.s1
      go_wp2
      exact bodyPost_ret (v := .agg #[.int .i64 (prL k rs en k), .int .i64 (prH k rs en k)]) (by simp [results, Try.results71, go_sem, set_same (i := 0) (v := .int .i64 (prL k rs en k)) r0, set_other (i := 1) (j := 0) (v := .int .i64 (prH k rs en k)) (by decide) (set_same (i := 0) (v := .int .i64 (prL k rs en k)) r0), set_same (i := 1) (v := .int .i64 (prH k rs en k)) (set_other (i := 0) (j := 1) (v := .int .i64 (prL k rs en k)) (by decide) r1)]) rfl ⟨rfl, ((hbw.setCell (p := ⟨w.heap.size, 0, none⟩) (by dsimp only; omega) _).setCell (p := ⟨w.heap.size, 1, none⟩) (by dsimp only; omega) _)⟩

end Go.Proofs.Ytdmbkhmhaininaa
