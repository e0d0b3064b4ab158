/-
  A ray restored.
-/
import Derived.Test.YtdmbkhmhaininaaOA
import Derived.Test.YtdmbkhmhaininaaRE
import Derived.Test.YtdmbkhmhaininaaG
namespace Go.Proofs.Ytdmbkhmhaininaa
open Go.RowKit
set_option linter.unusedVariables false
set_option linter.unusedSimpArgs false

/-- what the loop over the gates keeps, when a ray is restored -/
structure DRel (w wr : World) (c b off n cap : Nat) (zs : Nat → Int × Int) (pb poff m : Nat) (ms : Nat → Int × Int) (q p r k : Nat) : Prop where
  box : BoxAt wr c b off n cap zs
  src : SpansAt wr pb poff m ms
  row : SpRow wr r m (fun j => if j < k then (rstOf n zs ms j).1 else 0) (fun j => if j < k then (rstOf n zs ms j).2 else 0)
  t0 : wr.cell? ⟨p, 0, none⟩ = some (.int .i64 ((rstT n zs ms k).1))
  t1 : wr.cell? ⟨p, 1, none⟩ = some (.int .i64 ((rstT n zs ms k).2))
  u0 : wr.frozen? ⟨p, 0, none⟩ = false
  u1 : wr.frozen? ⟨p, 1, none⟩ = false
  q0 : wr.cell? ⟨q, 0, none⟩ = some (.func (Fn.func 93) #[] #[.pointer (some ⟨c, 0, none⟩)])
  lq : q < p
  lc : c < p
  lb : b < p
  lpb : pb < p
  lp : p < r
  lr : r < wr.heap.size
  lw : w.heap.size ≤ p
  bel : Below w.heap.size w wr
theorem DRel.keep {w W w1 : World} {c b off n cap : Nat} {zs : Nat → Int × Int} {pb poff m : Nat} {ms : Nat → Int × Int} {q p r k : Nat} (R : DRel w W c b off n cap zs pb poff m ms q p r k) (hb : Below W.heap.size W w1) : DRel w w1 c b off n cap zs pb poff m ms q p r k := by
  have l1 := R.lp
  have l2 := R.lr
  have l3 := R.lpb
  exact ⟨R.box.keep hb, R.src.keep hb (by omega), R.row.keep hb (by omega), keepB hb (by omega) R.t0, keepB hb (by omega) R.t1, keepF hb (by omega) R.u0, keepF hb (by omega) R.u1, keepB hb (by have := R.lq; omega) R.q0, R.lq, R.lc, R.lb, R.lpb, R.lp, Nat.lt_of_lt_of_le R.lr hb.size, R.lw, R.bel.trans (hb.mono R.bel.size)⟩
/-- the same, once a measure is stored -/
structure DMid (w wr : World) (c b off n cap : Nat) (zs : Nat → Int × Int) (pb poff m : Nat) (ms : Nat → Int × Int) (q p r k : Nat) : Prop where
  box : BoxAt wr c b off n cap zs
  src : SpansAt wr pb poff m ms
  row : SpRow wr r m (fun j => if j < k + 1 then (rstOf n zs ms j).1 else 0) (fun j => if j < k + 1 then (rstOf n zs ms j).2 else 0)
  t0 : wr.cell? ⟨p, 0, none⟩ = some (.int .i64 ((rstT n zs ms k).1))
  t1 : wr.cell? ⟨p, 1, none⟩ = some (.int .i64 ((rstT n zs ms k).2))
  u0 : wr.frozen? ⟨p, 0, none⟩ = false
  u1 : wr.frozen? ⟨p, 1, none⟩ = false
  q0 : wr.cell? ⟨q, 0, none⟩ = some (.func (Fn.func 93) #[] #[.pointer (some ⟨c, 0, none⟩)])
  lq : q < p
  lc : c < p
  lb : b < p
  lpb : pb < p
  lp : p < r
  lr : r < wr.heap.size
  lw : w.heap.size ≤ p
  bel : Below w.heap.size w wr
theorem DMid.keep {w W w1 : World} {c b off n cap : Nat} {zs : Nat → Int × Int} {pb poff m : Nat} {ms : Nat → Int × Int} {q p r k : Nat} (R : DMid w W c b off n cap zs pb poff m ms q p r k) (hb : Below W.heap.size W w1) : DMid w w1 c b off n cap zs pb poff m ms q p r k := by
  have l1 := R.lp
  have l2 := R.lr
  have l3 := R.lpb
  exact ⟨R.box.keep hb, R.src.keep hb (by omega), R.row.keep hb (by omega), keepB hb (by omega) R.t0, keepB hb (by omega) R.t1, keepF hb (by omega) R.u0, keepF hb (by omega) R.u1, keepB hb (by have := R.lq; omega) R.q0, R.lq, R.lc, R.lb, R.lpb, R.lp, Nat.lt_of_lt_of_le R.lr hb.size, R.lw, R.bel.trans (hb.mono R.bel.size)⟩
theorem DRel.put {w W : World} {c b off n cap : Nat} {zs : Nat → Int × Int} {pb poff m : Nat} {ms : Nat → Int × Int} {q p r k : Nat} (R : DRel w W c b off n cap zs pb poff m ms q p r k) (x y : Int) (hx : (rstOf n zs ms k).1 = x) (hy : (rstOf n zs ms k).2 = y) :
    DMid w ((W.setCell ⟨r, k * 2, none⟩ (.int .i64 x)).setCell ⟨r, k * 2 + 1, none⟩ (.int .i64 y)) c b off n cap zs pb poff m ms q p r k := by
  have l1 := R.lp
  have l2 := R.lr
  have l3 := R.lpb
  have l4 := R.lb
  have l5 := R.lc
  have l6 := R.lw
  have hB : Below r W ((W.setCell ⟨r, k * 2, none⟩ (.int .i64 x)).setCell ⟨r, k * 2 + 1, none⟩ (.int .i64 y)) := ((Below.refl r W).setCell (p := ⟨r, k * 2, none⟩) (Nat.le_refl _) _).setCell (p := ⟨r, k * 2 + 1, none⟩) (Nat.le_refl _) _
  refine ⟨⟨keepB hB (by omega) R.box.cell, by simp; have := R.box.lc; omega, by simp; have := R.box.lb; omega, R.box.sp.keep hB (by omega)⟩, R.src.keep hB (by omega), ?_, keepB hB (by omega) R.t0, keepB hB (by omega) R.t1, keepF hB (by omega) R.u0, keepF hB (by omega) R.u1, keepB hB (by have := R.lq; omega) R.q0, R.lq, l5, l4, l3, l1, by simp; exact l2, l6, R.bel.trans (hB.mono (by omega))⟩
  refine SpRow.setH (SpRow.setL R.row (L2 := fun j => if j < k + 1 then (rstOf n zs ms j).1 else 0) ?_ ?_) ?_ ?_
  · show (if k < k + 1 then _ else _) = x
    rw [if_pos (by omega), hx]
  · intro i hi
    show (if i < k + 1 then _ else _) = (if i < k then _ else _)
    by_cases h : i < k
    · rw [if_pos h, if_pos (by omega)]
    · rw [if_neg h, if_neg (by omega)]
  · show (if k < k + 1 then _ else _) = y
    rw [if_pos (by omega), hy]
  · intro i hi
    show (if i < k + 1 then _ else _) = (if i < k then _ else _)
    by_cases h : i < k
    · rw [if_pos h, if_pos (by omega)]
    · rw [if_neg h, if_neg (by omega)]
theorem DMid.next {w W : World} {c b off n cap : Nat} {zs : Nat → Int × Int} {pb poff m : Nat} {ms : Nat → Int × Int} {q p r k : Nat} (R : DMid w W c b off n cap zs pb poff m ms q p r k) (x y : Int) (hx : (rstT n zs ms (k + 1)).1 = x) (hy : (rstT n zs ms (k + 1)).2 = y) :
    DRel w ((W.setCell ⟨p, 0, none⟩ (.int .i64 x)).setCell ⟨p, 1, none⟩ (.int .i64 y)) c b off n cap zs pb poff m ms q p r (k + 1) := by
  have l1 := R.lp
  have l2 := R.lr
  have l3 := R.lpb
  have l4 := R.lb
  have l5 := R.lc
  have l6 := R.lw
  have hB : Below p W ((W.setCell ⟨p, 0, none⟩ (.int .i64 x)).setCell ⟨p, 1, none⟩ (.int .i64 y)) := ((Below.refl p W).setCell (p := ⟨p, 0, none⟩) (Nat.le_refl _) _).setCell (p := ⟨p, 1, none⟩) (Nat.le_refl _) _
  refine ⟨⟨keepB hB (by omega) R.box.cell, by simp; have := R.box.lc; omega, by simp; have := R.box.lb; omega, R.box.sp.keep hB (by omega)⟩, R.src.keep hB (by omega), ?_, ?_, ?_, by simp; exact R.u0, by simp; exact R.u1, keepB hB R.lq R.q0, R.lq, l5, l4, l3, l1, by simp; exact l2, l6, R.bel.trans (hB.mono (by omega))⟩
  · exact ⟨fun j hj => cell_far (by omega) (cell_far (by omega) (R.row.c0 j hj)), fun j hj => cell_far (by omega) (cell_far (by omega) (R.row.c1 j hj)), fun j hj => by simp; exact R.row.f0 j hj, fun j hj => by simp; exact R.row.f1 j hj⟩
  · rw [hx]; exact set_other (by decide) (set_same R.t0)
  · rw [hy]; exact set_same (set_other (by decide) R.t1)

theorem done_start {w X : World} {c b off n cap : Nat} {zs : Nat → Int × Int} {pb poff m : Nat} {ms : Nat → Int × Int} (hB : BoxAt w c b off n cap zs) (hp : SpansAt w pb poff m ms) (hpb : pb < w.heap.size) (hX : Below (w.heap.size + 1) (w.alloc (.cells #[.func (Fn.func 93) #[] #[.pointer (some ⟨c, 0, none⟩)]] 125)) X) :
    DRel w ((X.alloc (.cells #[.int .i64 1073741824, .int .i64 1073741824] 24)).alloc (.cells (madeCells #[.int .i64 0, .int .i64 0] (m * 2)) 24)) c b off n cap zs pb poff m ms w.heap.size X.heap.size (X.heap.size + 1) 0 := by
  have z4 := hB.lc
  have z5 := hB.lb
  have z6 := hX.size
  rw [World.size_alloc] at z6
  have q0 : X.cell? ⟨w.heap.size, 0, none⟩ = some (.func (Fn.func 93) #[] #[.pointer (some ⟨c, 0, none⟩)]) := keepB hX (by omega) (alloc_new rfl rfl)
  have bX : Below w.heap.size w X := (below_alloc w _).trans (hX.mono (by omega))
  obtain ⟨A, hA⟩ : ∃ A, A = X.alloc (.cells #[.int .i64 1073741824, .int .i64 1073741824] 24) := ⟨_, rfl⟩
  have sA : A.heap.size = X.heap.size + 1 := by rw [hA]; exact World.size_alloc _ _
  have bA : Below X.heap.size X A := by rw [hA]; exact below_alloc _ _
  have a0 : A.cell? ⟨X.heap.size, 0, none⟩ = some (.int .i64 1073741824) := by rw [hA]; exact alloc_new rfl rfl
  have a1 : A.cell? ⟨X.heap.size, 1, none⟩ = some (.int .i64 1073741824) := by rw [hA]; exact alloc_new rfl rfl
  have a2 : A.frozen? ⟨X.heap.size, 0, none⟩ = false := by rw [hA]; exact alloc_newF rfl
  have a3 : A.frozen? ⟨X.heap.size, 1, none⟩ = false := by rw [hA]; exact alloc_newF rfl
  rw [← hA]
  have bV := below_alloc A (.cells (madeCells #[.int .i64 0, .int .i64 0] (m * 2)) 24)
  have b2 : Below X.heap.size X (A.alloc (.cells (madeCells #[.int .i64 0, .int .i64 0] (m * 2)) 24)) := bA.trans (bV.mono bA.size)
  have b3 : Below w.heap.size w (A.alloc (.cells (madeCells #[.int .i64 0, .int .i64 0] (m * 2)) 24)) := bX.trans (b2.mono (by omega))
  refine ⟨hB.keep b3, hp.keep b3 hpb, ?_, alloc_keep (by omega) a0, alloc_keep (by omega) a1, alloc_keepF (by omega) a2, alloc_keepF (by omega) a3, keepB b2 (by omega) q0, by omega, by omega, by omega, by omega, by omega, by rw [World.size_alloc]; omega, by omega, b3⟩
  have h := SpRow.made A m
  rw [sA] at h
  exact h.ext (fun k hk => if_neg (by omega)) (fun k hk => if_neg (by omega))

set_option maxRecDepth 100000 in
set_option maxHeartbeats 6400000 in
theorem done_any (c b off n cap : Nat) (zs : Nat → Int × Int) (pb poff m pc : Nat) (ms : Nat → Int × Int) (w : World) (hm : m ≤ 200) (hT : TabOk n zs 32768) (hB : BoxAt w c b off n cap zs) (hp : SpansAt w pb poff m ms) (hpb : pb < w.heap.size) (hms : ∀ j, j < m → 0 ≤ (ms j).1 ∧ (ms j).1 ≤ (ms j).2 ∧ (ms j).2 ≤ 1073741824) :
    Calls Try.prog 64 #[.agg #[.func (Fn.func 93) #[] #[.pointer (some ⟨c, 0, none⟩)]], .slice (some ⟨pb, poff, none⟩) m pc] w fun e w' => ∃ (r : Nat), e = .returned (.slice (some ⟨r, 0, none⟩) m m) ∧ SliceIs w' (some ⟨r, 0, none⟩) m m (rstOf n zs ms) ∧ Below w.heap.size w w' := by
  have HB := Lib.hid hB
  have HP := Lib.hid hp
  have HM := Lib.hid hms
  have hmk := make_spans m (by omega)
  clear hB hp hms
  go_enter Try.func64, Try.ntmps64
  go_wp2_with fail
  refine (only_any _ _).mono ?_; rintro e X ⟨rfl, hbX⟩
  have HRel := Lib.hid (done_start (c := c) HB.out HP.out hpb (hbX.mono (by rw [World.size_alloc]; omega)))
  have zX := hbX.size
  rw [World.size_alloc] at zX
  clear hbX
  go_wp2
  go_loopw [15] (fun i wr2 => ∃ k : Nat, k ≤ m ∧ i = .int .i64 k ∧ DRel w wr2 c b off n cap zs pb poff m ms w.heap.size X.heap.size (X.heap.size + 1) k) (fun i _ => m - (intOf i).toNat)
  case atStart => exact ⟨0, Nat.zero_le _, rfl, HRel.out⟩
  case round =>
    clear HRel hmk HB HP
    obtain ⟨k, hk, rfl, hR⟩ := hrel
    have HR := Lib.hid hR
    by_cases hlt : k < m
    · obtain ⟨c0, c1⟩ := hR.src k hlt
      obtain ⟨w1, w2, w3, w4⟩ := rst_bd hT (ms := ms) k (fun j hj => HM.out j (by omega))
      obtain ⟨m1, m2, m3⟩ := HM.out k hlt
      obtain ⟨r1, r2, r3⟩ := res_bd w1 w2 w4 w3 m1 m2 m3
      obtain ⟨u1, u2, u3⟩ := hT.val (by decide) r1
      obtain ⟨u4, u5, u6⟩ := hT.val (z := resHi (rstT n zs ms k) (ms k)) (by decide) (by omega)
      have HRes := Lib.hid (fun W => show Calls Try.prog 96 #[.agg #[.int .i64 (ms k).1, .int .i64 (ms k).2], .agg #[.int .i64 (rstT n zs ms k).1, .int .i64 (rstT n zs ms k).2]] W fun e w' => e = .returned (.agg #[.int .i64 (resLo (rstT n zs ms k) (ms k)), .int .i64 (resHi (rstT n zs ms k) (ms k))]) ∧ Below W.heap.size W w' from restored_any (ms k).1 (ms k).2 (rstT n zs ms k).1 (rstT n zs ms k).2 W m1 m2 m3 w1 w2 w3 w4)
      have HVa := Lib.hid (fun (W : World) (h : BoxAt W c b off n cap zs) => ofAll_any c b off n cap zs (resLo (rstT n zs ms k) (ms k)) (resHi (rstT n zs ms k) (ms k)) W hT r1 r2 r3 h)
      have v9 : valLo n zs (resLo (rstT n zs ms k) (ms k)) ≤ 32768 := by omega
      have v8 : 0 ≤ valHi n zs (resHi (rstT n zs ms k) (ms k)) := by omega
      have HBe := Lib.hid (fun W => behind_any (rstT n zs ms k).1 (rstT n zs ms k).2 (valLo n zs (resLo (rstT n zs ms k) (ms k))) (valHi n zs (resHi (rstT n zs ms k) (ms k))) W w1 w2 w3 u1 v9 v8 u6)
      have HOf := Lib.hid (show (rstOf n zs ms k).1 = resLo (rstT n zs ms k) (ms k) ∧ (rstOf n zs ms k).2 = resHi (rstT n zs ms k) (ms k) from ⟨rfl, rfl⟩)
      have HNx := Lib.hid (show (rstT n zs ms (k + 1)).1 = (rstT n zs ms k).1 * (65536 - valHi n zs (resHi (rstT n zs ms k) (ms k))) / 65536 ∧ (rstT n zs ms (k + 1)).2 = cdiv ((rstT n zs ms k).2 * (65536 - valLo n zs (resLo (rstT n zs ms k) (ms k)))) 65536 from ⟨rfl, rfl⟩)
      have q0 : (0 : Int) ≤ (k : Int) := by omega
      have q1 : (k : Int) < (m : Int) := by omega
      clear u1 u2 u3 u4 u5 u6 v8 v9 r1 r2 r3 m1 m2 m3 w1 w2 w3 w4
      have t0 := hR.t0
      have t1 := hR.t1
      have lp : X.heap.size < wr.heap.size := by have := hR.lp; have := hR.lr; omega
      have lpb : pb < wr.heap.size := by have := hR.lpb; omega
      clear hR
      generalize resLo (rstT n zs ms k) (ms k) = RL at *
      generalize resHi (rstT n zs ms k) (ms k) = RH at *
      generalize valLo n zs RL = VL at *
      generalize valHi n zs RH = VH at *
      generalize hTL : (rstT n zs ms k).1 = TL at *
      generalize hTH : (rstT n zs ms k).2 = TH at *
      have HTL := Lib.hid (And.intro hTL hTH)
      clear hTL hTH
      generalize (ms k).1 = z1 at *
      generalize (ms k).2 = z2 at *
      generalize TL * (65536 - VH) / 65536 = NL at *
      generalize cdiv (TH * (65536 - VL)) 65536 = NH at *
      go_wp2_with fail
      refine (HRes.out _).mono ?_; rintro e Y ⟨rfl, hbY⟩
      have RY := HR.out.keep ((below_alloc wr _).trans (hbY.mono (by rw [World.size_alloc]; omega)))
      have r0 := RY.row.c0 k hlt
      have r1 := RY.row.c1 k hlt
      rw [if_neg (Nat.lt_irrefl k)] at r0 r1
      have g0 := RY.row.f0 k hlt
      have g1 := RY.row.f1 k hlt
      have RP := Lib.hid (RY.put RL RH HOf.out.1 HOf.out.2)
      clear hbY HR RY t0 t1 c0 c1 HRes
      go_wp2_with fail
      obtain ⟨U, hU⟩ : ∃ U, U = (Y.setCell ⟨X.heap.size + 1, k * 2, none⟩ (.int .i64 RL)).setCell ⟨X.heap.size + 1, k * 2 + 1, none⟩ (.int .i64 RH) := ⟨_, rfl⟩
      rw [← hU] at RP ⊢
      have y0 := RP.out.t0
      have y1 := RP.out.t1
      rw [HTL.out.1] at y0
      rw [HTL.out.2] at y1
      have y2 := RP.out.q0
      have y3 := RP.out.row.c0 k hlt
      have y4 := RP.out.row.c1 k hlt
      rw [if_pos (Nat.lt_succ_self k), HOf.out.1] at y3
      rw [if_pos (Nat.lt_succ_self k), HOf.out.2] at y4
      have HRq := Lib.hid (RP.out.keep (Below.refl U.heap.size U).drew)
      have HV := Lib.hid (fun W (hW : Below U.drew.heap.size U.drew W) => HVa.out W (HRq.out.box.keep hW))
      clear hU r0 r1 g0 g1 HVa
      have HS := Lib.hid (show (fun w' : World => w'.cell? ⟨X.heap.size, 0, none⟩ = some (.int .i64 TL) ∧ w'.cell? ⟨X.heap.size, 1, none⟩ = some (.int .i64 TH) ∧ w'.cell? ⟨w.heap.size, 0, none⟩ = some (.func (Fn.func 93) #[] #[.pointer (some ⟨c, 0, none⟩)]) ∧ w'.cell? ⟨X.heap.size + 1, k * 2, none⟩ = some (.int .i64 RL) ∧ w'.cell? ⟨X.heap.size + 1, k * 2 + 1, none⟩ = some (.int .i64 RH) ∧ Below U.drew.heap.size U.drew w') U.drew from ⟨y0, y1, y2, y3, y4, Below.refl _ _⟩)
      clear y0 y1 y2 y3 y4 HOf RP
      refine wp_region_held_tail (S := (fun w' : World => w'.cell? ⟨X.heap.size, 0, none⟩ = some (.int .i64 TL) ∧ w'.cell? ⟨X.heap.size, 1, none⟩ = some (.int .i64 TH) ∧ w'.cell? ⟨w.heap.size, 0, none⟩ = some (.func (Fn.func 93) #[] #[.pointer (some ⟨c, 0, none⟩)]) ∧ w'.cell? ⟨X.heap.size + 1, k * 2, none⟩ = some (.int .i64 RL) ∧ w'.cell? ⟨X.heap.size + 1, k * 2 + 1, none⟩ = some (.int .i64 RH) ∧ Below U.drew.heap.size U.drew w')) 9 (by kernel_rfl) (by kernel_rfl) HS.out (fun hHeld => ?_)
      refine wpAnyH_take (i := 0) (v := ?v0_1) rfl (by kernel_rfl) (by kernel_rfl) (by kernel_rfl) (fun _ _ _ h => h) (Or.inl ⟨by rfl, ?hy0_1⟩) (by assumption) ?rest0_1
      case hy0_1 => (intro w hSw; (try dsimp only at hSw); go_simp; (try with_reducible rfl))
      try simp only [Act.put, List.getElem_toArray, List.getElem_cons_zero, List.getElem_cons_succ, List.setIfInBounds_toArray, List.set_cons_zero, List.set_cons_succ]
      refine wpAnyH_take (i := 1) (v := ?v1_2) rfl (by kernel_rfl) (by kernel_rfl) (by kernel_rfl) (fun _ _ _ h => h) (Or.inl ⟨by rfl, ?hy1_2⟩) (by assumption) ?rest1_2
      case hy1_2 => (intro w hSw; (try dsimp only at hSw); go_simp; (try with_reducible rfl))
      try simp only [Act.put, List.getElem_toArray, List.getElem_cons_zero, List.getElem_cons_succ, List.setIfInBounds_toArray, List.set_cons_zero, List.set_cons_succ]
      refine wpAnyH_take (i := 2) (v := ?v2_3) rfl (by kernel_rfl) (by kernel_rfl) (by kernel_rfl) (fun _ _ _ h => h) (Or.inl ⟨by rfl, ?hy2_3⟩) (by assumption) ?rest2_3
      case hy2_3 => (intro w hSw; (try dsimp only at hSw); go_simp; (try with_reducible rfl))
      try simp only [Act.put, List.getElem_toArray, List.getElem_cons_zero, List.getElem_cons_succ, List.setIfInBounds_toArray, List.set_cons_zero, List.set_cons_succ]
      refine wpAnyH_take (i := 3) (v := ?v3_4) rfl (by kernel_rfl) (by kernel_rfl) (by kernel_rfl) (fun _ _ _ h => h) (Or.inl ⟨by rfl, ?hy3_4⟩) (by assumption) ?rest3_4
      case hy3_4 => (intro w hSw; (try dsimp only at hSw); go_simp; (try with_reducible rfl))
      try simp only [Act.put, List.getElem_toArray, List.getElem_cons_zero, List.getElem_cons_succ, List.setIfInBounds_toArray, List.set_cons_zero, List.set_cons_succ]
      refine wpAnyH_take (i := 4) (v := ?v4_5) rfl (by kernel_rfl) (by kernel_rfl) (by kernel_rfl) (fun _ _ _ h => h) (Or.inl ⟨by rfl, ?hy4_5⟩) (by assumption) ?rest4_5
      case hy4_5 => (intro w hSw; (try dsimp only at hSw); go_simp; (try with_reducible rfl))
      try simp only [Act.put, List.getElem_toArray, List.getElem_cons_zero, List.getElem_cons_succ, List.setIfInBounds_toArray, List.set_cons_zero, List.set_cons_succ]
      refine wpAnyH_take (i := 5) (v := ?v5_6) rfl (by kernel_rfl) (by kernel_rfl) (by kernel_rfl) (fun _ _ _ h => h) (Or.inl ⟨by rfl, ?hy5_6⟩) (by assumption) ?rest5_6
      case hy5_6 => (intro w hSw; (try dsimp only at hSw); go_simp; (try with_reducible rfl))
      try simp only [Act.put, List.getElem_toArray, List.getElem_cons_zero, List.getElem_cons_succ, List.setIfInBounds_toArray, List.set_cons_zero, List.set_cons_succ]
      refine wpAnyH_take (i := 6) (v := ?v6_7) rfl (by kernel_rfl) (by kernel_rfl) (by kernel_rfl) (fun _ _ _ h => h) (Or.inl ⟨by rfl, ?hy6_7⟩) (by assumption) ?rest6_7
      case hy6_7 => (intro w hSw; (try dsimp only at hSw); go_simp; (try with_reducible rfl))
      try simp only [Act.put, List.getElem_toArray, List.getElem_cons_zero, List.getElem_cons_succ, List.setIfInBounds_toArray, List.set_cons_zero, List.set_cons_succ]
      refine wpAnyH_ready (rs := [7]) (by kernel_rfl) (by simp) ?_
      refine AllReadyH.cons rfl (fun K hK => ?_) AllReadyH.nil
      go_simp; go_at_call 97; refine (HV.out _ (hHeld.2.2.2.2.2)).mono ?_; rintro e' w' ⟨rfl, hb'⟩
      refine hK.out _ _ (⟨keepW hb' hHeld.1, keepW hb' hHeld.2.1, keepW hb' hHeld.2.2.1, keepW hb' hHeld.2.2.2.1, keepW hb' hHeld.2.2.2.2.1, hHeld.2.2.2.2.2.trans (hb'.mono hHeld.2.2.2.2.2.size)⟩) (fun hHeld2 => ?_)
      clear hK K hHeld hb'
      have hHeld := hHeld2
      clear hHeld2
      try simp only [Act.put, List.getElem_toArray, List.getElem_cons_zero, List.getElem_cons_succ, List.setIfInBounds_toArray, List.set_cons_zero, List.set_cons_succ]
      refine wpAnyH_ready (rs := [8]) (by kernel_rfl) (by simp) ?_
      refine AllReadyH.cons rfl (fun K hK => ?_) AllReadyH.nil
      go_simp; go_at_call 59; refine (HBe.out _).mono ?_; rintro e' w' ⟨rfl, hb'⟩
      refine hK.out _ _ (⟨keepW hb' hHeld.1, keepW hb' hHeld.2.1, keepW hb' hHeld.2.2.1, keepW hb' hHeld.2.2.2.1, keepW hb' hHeld.2.2.2.2.1, hHeld.2.2.2.2.2.trans (hb'.mono hHeld.2.2.2.2.2.size)⟩) (fun hHeld2 => ?_)
      clear hK K hHeld hb'
      have hHeld := hHeld2
      clear hHeld2
      try simp only [Act.put, List.getElem_toArray, List.getElem_cons_zero, List.getElem_cons_succ, List.setIfInBounds_toArray, List.set_cons_zero, List.set_cons_succ]
      refine wpAnyH_done (by kernel_rfl) ?_ _
      change wpList _ _ _ _ _ _
      simp only [List.drop_succ_cons, List.drop_zero]
      obtain ⟨d0, d1, d2, d3, d4, gb⟩ := hHeld
      rename World => V
      have RX := HRq.out.keep gb
      have y0 := RX.t0
      have y1 := RX.t1
      rw [HTL.out.1] at y0
      rw [HTL.out.2] at y1
      have g0 := RX.u0
      have g1 := RX.u1
      have HN := Lib.hid (RX.next NL NH HNx.out.1 HNx.out.2)
      clear RX gb d0 d1 d2 d3 d4 HRq HV HBe HS HNx
      go_wp2
      go_roundw
      case rel => exact ⟨k + 1, by omega, by go_num, HN.out⟩
      case measure => simp [intOf]; omega
    · obtain rfl : m = k := by omega
      have HF := Lib.hid (show SliceIs wr (some ⟨X.heap.size + 1, 0, none⟩) m m (rstOf n zs ms) from .inr ⟨_, 0, rfl, hR.lr, fun j hj => by
        have a := hR.row.c0 j hj
        have b := hR.row.c1 j hj
        simp only [hj, if_true] at a b
        rw [Nat.zero_add]
        exact ⟨a, b⟩⟩)
      have hbw := hR.bel
      clear hR HR
      go_wp2
      go_ret
      exact ⟨_, rfl, HF.out, hbw⟩

end Go.Proofs.Ytdmbkhmhaininaa
