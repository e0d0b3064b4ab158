/-
  What passes a ray.
-/
import Derived.Test.YtdmbkhmhaininaaF
import Derived.Test.YtdmbkhmhaininaaP
namespace Go.Proofs.Ytdmbkhmhaininaa
open Go.RowKit
set_option linter.unusedVariables false
set_option linter.unusedSimpArgs false

/-- the numbers of a slice -/
def PowAt (w : World) (b off m : Nat) (ps : Nat → Int) : Prop := ∀ j, j < m → w.cell? ⟨b, off + j, none⟩ = some (.int .i64 (ps j))
def PowIs (w : World) (a : Option Addr) (m : Nat) (ps : Nat → Int) : Prop := m = 0 ∨ ∃ b off, a = some ⟨b, off, none⟩ ∧ b < w.heap.size ∧ PowAt w b off m ps
theorem PowAt.keep {B b off m : Nat} {W w1 : World} {ps : Nat → Int} (s : PowAt W b off m ps) (hb : Below B W w1) (h : b < B) : PowAt w1 b off m ps := fun j hj => keepB hb h (s j hj)
theorem PowIs.keep {a : Option Addr} {m : Nat} {W w1 : World} {ps : Nat → Int} (s : PowIs W a m ps) (hb : Below W.heap.size W w1) : PowIs w1 a m ps := by
  rcases s with h | ⟨b, off, h, hl, hs⟩
  · exact .inl h
  · exact .inr ⟨b, off, h, Nat.lt_of_lt_of_le hl hb.size, hs.keep hb hl⟩
theorem info24 : (Try.prog.info? 24).map (fun i => (i.zero, i.size, i.bytes)) = some (some (.agg #[.int .i64 0, .int .i64 0]), 2, 16) := by kernel_rfl
theorem make_spans (n : Nat) (h : n ≤ 1000000) (w : World) :
    (Instr.makeSlice 44 (.int .i64 (n : Int)) (.int .i64 (n : Int))).run Try.prog w = .ok (.slice (some ⟨w.heap.size, 0, none⟩) n n) (w.alloc (.cells (madeCells #[.int .i64 0, .int .i64 0] (n * 2)) 24)) := by
  obtain ⟨i, hi, hzz⟩ := Option.map_eq_some_iff.1 info24
  simp only [Prod.mk.injEq] at hzz
  obtain ⟨hz, hs, hb⟩ := hzz
  have hr := run_make (P := Try.prog) w 44 24 i _ Try.underlying44 hi hz .i64 .i64 n n (by omega) (Int.le_refl _) (by rw [hb]; omega) (by omega)
  simp only [Int.toNat_natCast, hs] at hr
  exact hr
theorem made2_get (n k : Nat) (h : k < n) : (madeCells #[.int .i64 0, .int .i64 0] n)[k]? = some (.int .i64 0) := by
  have h2 : k % 2 = 0 ∨ k % 2 = 1 := by omega
  rcases h2 with h2 | h2 <;> simp [madeCells, h, h2]
theorem SpRow.made (w : World) (n : Nat) : SpRow (w.alloc (.cells (madeCells #[.int .i64 0, .int .i64 0] (n * 2)) 24)) w.heap.size n (fun _ => 0) (fun _ => 0) :=
  ⟨fun k hk => alloc_new rfl (made2_get _ _ (by omega)), fun k hk => alloc_new rfl (made2_get _ _ (by omega)), fun k hk => alloc_newF rfl, fun k hk => alloc_newF rfl⟩

/-- what the loop over the gates keeps -/
structure PRel (w wr : World) (c b off n cap : Nat) (zs : Nat → Int × Int) (pb poff m : Nat) (ps : Nat → Int) (p r k : Nat) : Prop where
  box : BoxAt wr c b off n cap zs
  pow : PowAt wr pb poff m ps
  row : SpRow wr r m (fun j => if j < k then (mesOf n zs ps j).1 else 0) (fun j => if j < k then (mesOf n zs ps j).2 else 0)
  t0 : wr.cell? ⟨p, 0, none⟩ = some (.int .i64 (pasLo n zs ps k))
  t1 : wr.cell? ⟨p, 1, none⟩ = some (.int .i64 (pasHi n zs ps k))
  u0 : wr.frozen? ⟨p, 0, none⟩ = false
  u1 : wr.frozen? ⟨p, 1, none⟩ = false
  lc : c < p
  lb : b < p
  lpb : pb < p
  lp : p < r
  lr : r < wr.heap.size
  lw : w.heap.size ≤ p
  bel : Below w.heap.size w wr
theorem PRel.keep {w W w1 : World} {c b off n cap : Nat} {zs : Nat → Int × Int} {pb poff m : Nat} {ps : Nat → Int} {p r k : Nat} (R : PRel w W c b off n cap zs pb poff m ps p r k) (hb : Below W.heap.size W w1) : PRel w w1 c b off n cap zs pb poff m ps p r k := by
  have l1 := R.lp
  have l2 := R.lr
  have l3 := R.lpb
  exact ⟨R.box.keep hb, R.pow.keep hb (by omega), R.row.keep hb (by omega), keepB hb (by omega) R.t0, keepB hb (by omega) R.t1, keepF hb (by omega) R.u0, keepF hb (by omega) R.u1, R.lc, R.lb, R.lpb, R.lp, Nat.lt_of_lt_of_le R.lr hb.size, R.lw, R.bel.trans (hb.mono R.bel.size)⟩
/-- the same, once a measure is stored -/
structure PMid (w wr : World) (c b off n cap : Nat) (zs : Nat → Int × Int) (pb poff m : Nat) (ps : Nat → Int) (p r k : Nat) : Prop where
  box : BoxAt wr c b off n cap zs
  pow : PowAt wr pb poff m ps
  row : SpRow wr r m (fun j => if j < k + 1 then (mesOf n zs ps j).1 else 0) (fun j => if j < k + 1 then (mesOf n zs ps j).2 else 0)
  t0 : wr.cell? ⟨p, 0, none⟩ = some (.int .i64 (pasLo n zs ps k))
  t1 : wr.cell? ⟨p, 1, none⟩ = some (.int .i64 (pasHi n zs ps k))
  u0 : wr.frozen? ⟨p, 0, none⟩ = false
  u1 : wr.frozen? ⟨p, 1, none⟩ = false
  lc : c < p
  lb : b < p
  lpb : pb < p
  lp : p < r
  lr : r < wr.heap.size
  lw : w.heap.size ≤ p
  bel : Below w.heap.size w wr
theorem PMid.keep {w W w1 : World} {c b off n cap : Nat} {zs : Nat → Int × Int} {pb poff m : Nat} {ps : Nat → Int} {p r k : Nat} (R : PMid w W c b off n cap zs pb poff m ps p r k) (hb : Below W.heap.size W w1) : PMid w w1 c b off n cap zs pb poff m ps p r k := by
  have l1 := R.lp
  have l2 := R.lr
  have l3 := R.lpb
  exact ⟨R.box.keep hb, R.pow.keep hb (by omega), R.row.keep hb (by omega), keepB hb (by omega) R.t0, keepB hb (by omega) R.t1, keepF hb (by omega) R.u0, keepF hb (by omega) R.u1, R.lc, R.lb, R.lpb, R.lp, Nat.lt_of_lt_of_le R.lr hb.size, R.lw, R.bel.trans (hb.mono R.bel.size)⟩
theorem PRel.put {w W : World} {c b off n cap : Nat} {zs : Nat → Int × Int} {pb poff m : Nat} {ps : Nat → Int} {p r k : Nat} (R : PRel w W c b off n cap zs pb poff m ps p r k) (x y : Int) (hx : (mesOf n zs ps k).1 = x) (hy : (mesOf n zs ps k).2 = y) :
    PMid w ((W.setCell ⟨r, k * 2, none⟩ (.int .i64 x)).setCell ⟨r, k * 2 + 1, none⟩ (.int .i64 y)) c b off n cap zs pb poff m ps p r k := by
  have l1 := R.lp
  have l2 := R.lr
  have l3 := R.lpb
  have l4 := R.lb
  have l5 := R.lc
  have l6 := R.lw
  have hB : Below r W ((W.setCell ⟨r, k * 2, none⟩ (.int .i64 x)).setCell ⟨r, k * 2 + 1, none⟩ (.int .i64 y)) := ((Below.refl r W).setCell (p := ⟨r, k * 2, none⟩) (Nat.le_refl _) _).setCell (p := ⟨r, k * 2 + 1, none⟩) (Nat.le_refl _) _
  refine ⟨⟨keepB hB (by omega) R.box.cell, by simp; have := R.box.lc; omega, by simp; have := R.box.lb; omega, R.box.sp.keep hB (by omega)⟩, R.pow.keep hB (by omega), ?_, keepB hB (by omega) R.t0, keepB hB (by omega) R.t1, keepF hB (by omega) R.u0, keepF hB (by omega) R.u1, l5, l4, l3, l1, by simp; exact l2, l6, R.bel.trans (hB.mono (by omega))⟩
  refine SpRow.setH (SpRow.setL R.row (L2 := fun j => if j < k + 1 then (mesOf n zs ps j).1 else 0) ?_ ?_) ?_ ?_
  · show (if k < k + 1 then _ else _) = x
    rw [if_pos (by omega), hx]
  · intro i hi
    show (if i < k + 1 then _ else _) = (if i < k then _ else _)
    by_cases h : i < k
    · rw [if_pos h, if_pos (by omega)]
    · rw [if_neg h, if_neg (by omega)]
  · show (if k < k + 1 then _ else _) = y
    rw [if_pos (by omega), hy]
  · intro i hi
    show (if i < k + 1 then _ else _) = (if i < k then _ else _)
    by_cases h : i < k
    · rw [if_pos h, if_pos (by omega)]
    · rw [if_neg h, if_neg (by omega)]
theorem PMid.next {w W : World} {c b off n cap : Nat} {zs : Nat → Int × Int} {pb poff m : Nat} {ps : Nat → Int} {p r k : Nat} (R : PMid w W c b off n cap zs pb poff m ps p r k) (x y : Int) (hx : pasLo n zs ps (k + 1) = x) (hy : pasHi n zs ps (k + 1) = y) :
    PRel w ((W.setCell ⟨p, 0, none⟩ (.int .i64 x)).setCell ⟨p, 1, none⟩ (.int .i64 y)) c b off n cap zs pb poff m ps p r (k + 1) := by
  have l1 := R.lp
  have l2 := R.lr
  have l3 := R.lpb
  have l4 := R.lb
  have l5 := R.lc
  have l6 := R.lw
  have hB : Below p W ((W.setCell ⟨p, 0, none⟩ (.int .i64 x)).setCell ⟨p, 1, none⟩ (.int .i64 y)) := ((Below.refl p W).setCell (p := ⟨p, 0, none⟩) (Nat.le_refl _) _).setCell (p := ⟨p, 1, none⟩) (Nat.le_refl _) _
  refine ⟨⟨keepB hB (by omega) R.box.cell, by simp; have := R.box.lc; omega, by simp; have := R.box.lb; omega, R.box.sp.keep hB (by omega)⟩, R.pow.keep hB (by omega), ?_, ?_, ?_, by simp; exact R.u0, by simp; exact R.u1, l5, l4, l3, l1, by simp; exact l2, l6, R.bel.trans (hB.mono (by omega))⟩
  · exact ⟨fun j hj => cell_far (by omega) (cell_far (by omega) (R.row.c0 j hj)), fun j hj => cell_far (by omega) (cell_far (by omega) (R.row.c1 j hj)), fun j hj => by simp; exact R.row.f0 j hj, fun j hj => by simp; exact R.row.f1 j hj⟩
  · rw [hx]; exact set_other (by decide) (set_same R.t0)
  · rw [hy]; exact set_same (set_other (by decide) R.t1)
theorem pass_start {w wr Y Z : World} {b off n cap : Nat} {zs : Nat → Int × Int} {pb poff m : Nat} {ps : Nat → Int} (hw : Below w.heap.size w wr) (hB : BoxAt Y wr.heap.size b off n cap zs) (hp : PowAt wr pb poff m ps) (hpb : pb < wr.heap.size) (hY : Below wr.heap.size wr Y) (hZ : Below Y.heap.size Y Z) :
    PRel w ((Z.alloc (.cells #[.int .i64 1073741824, .int .i64 1073741824] 24)).alloc (.cells (madeCells #[.int .i64 0, .int .i64 0] (m * 2)) 24)) wr.heap.size b off n cap zs pb poff m ps Z.heap.size (Z.heap.size + 1) 0 := by
  have z1 := hw.size
  have z2 := hY.size
  have z3 := hZ.size
  have z4 := hB.lc
  have z5 := hB.lb
  obtain ⟨A, hA⟩ : ∃ A, A = Z.alloc (.cells #[.int .i64 1073741824, .int .i64 1073741824] 24) := ⟨_, rfl⟩
  have sA : A.heap.size = Z.heap.size + 1 := by rw [hA]; exact World.size_alloc _ _
  have bA : Below Z.heap.size Z A := by rw [hA]; exact below_alloc _ _
  have a0 : A.cell? ⟨Z.heap.size, 0, none⟩ = some (.int .i64 1073741824) := by rw [hA]; exact alloc_new rfl rfl
  have a1 : A.cell? ⟨Z.heap.size, 1, none⟩ = some (.int .i64 1073741824) := by rw [hA]; exact alloc_new rfl rfl
  have a2 : A.frozen? ⟨Z.heap.size, 0, none⟩ = false := by rw [hA]; exact alloc_newF rfl
  have a3 : A.frozen? ⟨Z.heap.size, 1, none⟩ = false := by rw [hA]; exact alloc_newF rfl
  rw [← hA]
  have bV := below_alloc A (.cells (madeCells #[.int .i64 0, .int .i64 0] (m * 2)) 24)
  have b2 : Below Y.heap.size Y (A.alloc (.cells (madeCells #[.int .i64 0, .int .i64 0] (m * 2)) 24)) := hZ.trans ((bA.trans (bV.mono bA.size)).mono z3)
  have b3 : Below wr.heap.size wr (A.alloc (.cells (madeCells #[.int .i64 0, .int .i64 0] (m * 2)) 24)) := hY.trans (b2.mono z2)
  refine ⟨hB.keep b2, hp.keep b3 hpb, ?_, alloc_keep (by omega) a0, alloc_keep (by omega) a1, alloc_keepF (by omega) a2, alloc_keepF (by omega) a3, by omega, by omega, by omega, by omega, by rw [World.size_alloc]; omega, by omega, hw.trans (b3.mono z1)⟩
  have h := SpRow.made A m
  rw [sA] at h
  exact h.ext (fun k hk => if_neg (by omega)) (fun k hk => if_neg (by omega))
/-- spans in memory, and an error: none, if there is one -/
def outN (c : Int) (n : Nat) : Nat := if c = 0 then n else 0
def SpTup (n : Nat) (zs : Nat → Int × Int) (c : Int) (w : World) (e : Ending) (w' : World) : Prop := ∃ (a : Option Addr) (cap : Nat), e = .returned (.tuple #[.slice a (outN c n) cap, .int .i64 c]) ∧ SliceIs w' a (outN c n) cap zs ∧ Below w.heap.size w w'
theorem SpTup.err {n : Nat} {zs : Nat → Int × Int} {c : Int} {w w' : World} (hc : c ≠ 0) (hb : Below w.heap.size w w') : SpTup n zs c w (.returned (.tuple #[.slice none 0 0, .int .i64 c])) w' := by
  have e : outN c n = 0 := by unfold outN; rw [if_neg hc]
  exact ⟨none, 0, by rw [e], .inl e, hb⟩
theorem powE_bad {ps : Nat → Int} {k m : Nat} (hk : k < m) (h0 : firstE (powE ps) k = 0) (h : inB (ps k) 0 1073741824 = false) : firstE (powE ps) m = 3 := by
  have e : powE ps k = 3 := by unfold powE; rw [h]; rfl
  rw [firstE_stop hk h0 (by rw [e]; decide), e]
theorem powE_ok {ps : Nat → Int} {k : Nat} (h0 : firstE (powE ps) k = 0) (h : inB (ps k) 0 1073741824 = true) : firstE (powE ps) (k + 1) = 0 := by
  have e : powE ps k = 0 := by unfold powE; rw [h]; rfl
  rw [firstE_next h0, e]
theorem powE_all {ps : Nat → Int} {m : Nat} (h : firstE (powE ps) m = 0) : ∀ j, j < m → 0 ≤ ps j ∧ ps j ≤ 1073741824 := fun j hj => by
  have h1 := firstE_all h j hj
  unfold powE at h1
  cases h2 : inB (ps j) 0 1073741824
  · rw [h2] at h1; exact absurd h1 (by decide)
  · exact inB_true.1 h2

set_option maxRecDepth 100000 in
set_option maxHeartbeats 6400000 in
theorem Pass_some (b off n cap : Nat) (zs : Nat → Int × Int) (pb poff m pc : Nat) (ps : Nat → Int) (w : World) (hm1 : 1 ≤ m) (hm : m ≤ 200) (hT0 : tabC n zs 32768 = 0) (hs : SpansAt w b off n zs) (hb : b < w.heap.size) (hp : PowAt w pb poff m ps) (hpb : pb < w.heap.size) :
    Calls Try.prog 23 #[.slice (some ⟨b, off, none⟩) n cap, .slice (some ⟨pb, poff, none⟩) m pc] w (SpTup m (mesOf n zs ps) (firstE (powE ps) m) w) := by
  have hT := tab_ok hT0
  have hn := hT.n32
  have HC : Hid (Calls Try.prog 56 #[.slice (some ⟨b, off, none⟩) n cap, .int .i64 (m : Int)] w fun e w' => e = .returned (.int .i64 0) ∧ Below w.heap.size w w') := Lib.hid (by
    have h := checkRay_any (some ⟨b, off, none⟩) n cap zs m w (by unfold maxLen; omega) (.inr ⟨b, off, rfl, hb, hs⟩)
    have e : rayC n zs m = 0 := by unfold rayC; rw [if_pos hT0, if_neg (by omega)]
    rw [e] at h; exact h)
  have HS := Lib.hid hs
  have HP := Lib.hid hp
  have hmk := make_spans m (by omega)
  clear hs hp hT0
  go_enter Try.func23, Try.ntmps23
  go_wp2_with fail
  refine HC.out.mono ?_; rintro e X ⟨rfl, hbX⟩
  have HX := Lib.hid hbX
  have hpX : pb < X.heap.size := Nat.lt_of_lt_of_le hpb hbX.size
  clear hbX
  go_wp2
  go_loopw [23] (fun i wr => ∃ k : Nat, k ≤ m ∧ i = .int .i64 k ∧ Below w.heap.size w wr ∧ firstE (powE ps) k = 0) (fun i _ => m - (intOf i).toNat)
  case atStart => exact ⟨0, Nat.zero_le _, rfl, HX.out, rfl⟩
  case round =>
    obtain ⟨k, hk, rfl, hbw, h0⟩ := hrel
    have H0 := Lib.hid h0
    clear h0
    by_cases hlt : k < m
    · have c0 := keepB hbw hpb (HP.out k hlt)
      rcases (Bool.eq_false_or_eq_true (inB (ps k) 0 1073741824)).symm with hc | hc
      · have HE := Lib.hid (powE_bad hlt H0.out hc)
        have HZ : Hid (∀ W : World, Calls Try.prog 49 #[.int .i64 (ps k), .int .i64 0, .int .i64 1073741824] W fun e w' => e = .returned (.bool false) ∧ W = w') := Lib.hid fun W => by rw [← hc]; exact isIn_any _ _ _ W
        clear hc
        generalize ps k = z at c0 HZ
        go_wp2_with fail
        refine (HZ.out _).mono ?_; rintro e w' ⟨rfl, rfl⟩
        go_wp2
        go_ret2
        rw [HE.out]
        exact SpTup.err (by decide) hbw
      · have HE := Lib.hid (powE_ok H0.out hc)
        have HZ : Hid (∀ W : World, Calls Try.prog 49 #[.int .i64 (ps k), .int .i64 0, .int .i64 1073741824] W fun e w' => e = .returned (.bool true) ∧ W = w') := Lib.hid fun W => by rw [← hc]; exact isIn_any _ _ _ W
        clear hc
        generalize ps k = z at c0 HZ
        go_wp2_with fail
        refine (HZ.out _).mono ?_; rintro e w' ⟨rfl, rfl⟩
        have HW := Lib.hid hbw
        go_wp2
        go_roundw
        case rel => exact ⟨k + 1, by omega, by go_num, HW.out, HE.out⟩
        case measure => simp [intOf]; omega
    · obtain rfl : m = k := by omega
      have HA := Lib.hid (powE_all H0.out)
      have hbr : b < wr.heap.size := Nat.lt_of_lt_of_le hb hbw.size
      have hpr : pb < wr.heap.size := Nat.lt_of_lt_of_le hpb hbw.size
      have HSr := Lib.hid (HS.out.keep hbw hb)
      have HPr := Lib.hid (HP.out.keep hbw hpb)
      have HW := Lib.hid hbw
      have zW := hbw.size
      clear hlt hbw HS HP
      go_wp2_with fail
      refine (worthOf_any b off n cap zs _ HSr.out hbr).mono ?_; rintro e Y ⟨rfl, hB, hbY⟩
      have HB := Lib.hid hB
      have HY := Lib.hid hbY
      have zY := hbY.size
      have lY := hB.lc
      clear hB hbY
      go_wp2_with fail
      refine (only_any _ _).mono ?_; rintro e Z ⟨rfl, hbZ⟩
      have zZ := hbZ.size
      have HRel := Lib.hid (pass_start (ps := ps) HW.out HB.out HPr.out hpr HY.out hbZ)
      clear hbZ
      go_wp2
      go_loopw [39] (fun i wr2 => ∃ k : Nat, k ≤ m ∧ i = .int .i64 k ∧ PRel w wr2 wr.heap.size b off n cap zs pb poff m ps Z.heap.size (Z.heap.size + 1) k) (fun i _ => m - (intOf i).toNat)
      case atStart => exact ⟨0, Nat.zero_le _, rfl, HRel.out⟩
      case round =>
      clear HRel HB HPr HSr hmk HW HY
      obtain ⟨k, hk, rfl, hR⟩ := hrel
      have HR := Lib.hid hR
      by_cases hlt : k < m
      · have c0 := hR.pow k hlt
        have t0 := hR.t0
        have t1 := hR.t1
        obtain ⟨w1, w2, w3, w4⟩ := pas_bd hT (p := ps) k (fun j hj => (HA.out j (by omega)).1)
        obtain ⟨z0, z1⟩ := HA.out k hlt
        obtain ⟨m1, m2, m3, m4, m5, m6, m7⟩ := mes_bd z0 z1 w1 w2 w3
        obtain ⟨v1, v2, v3⟩ := hT.val (by decide) z0
        have HMes := Lib.hid (show (mesOf n zs ps k).1 = ps k * pasLo n zs ps k / 1073741824 ∧ (mesOf n zs ps k).2 = cdiv (ps k * pasHi n zs ps k) 1073741824 from ⟨rfl, rfl⟩)
        have HPas := Lib.hid (show pasLo n zs ps (k + 1) = pasLo n zs ps k * (65536 - valHi n zs (ps k)) / 65536 ∧ pasHi n zs ps (k + 1) = cdiv (pasHi n zs ps k * (65536 - valLo n zs (ps k))) 65536 from ⟨rfl, rfl⟩)
        have q0 : (0 : Int) ≤ (k : Int) := by omega
        have q1 : (k : Int) < (m : Int) := by omega
        have HVa := Lib.hid (fun (cc : Nat) (W : World) (h : BoxAt W cc b off n cap zs) => worth_any cc b off n cap zs 32768 (ps k) W hT (by decide) z0 z1 h)
        have HBe := Lib.hid (fun W => behind_any (pasLo n zs ps k) (pasHi n zs ps k) (valLo n zs (ps k)) (valHi n zs (ps k)) W w1 w2 w3 v1 (by omega) (by omega) v3)
        generalize ps k = z at *
        generalize hTL : pasLo n zs ps k = TL at *
        generalize hTH : pasHi n zs ps k = TH at *
        have HTL := Lib.hid (And.intro hTL hTH)
        clear hTL hTH
        generalize valLo n zs z = VL at *
        generalize valHi n zs z = VH at *
        generalize TL * (65536 - VH) / 65536 = NL at *
        generalize cdiv (TH * (65536 - VL)) 65536 = NH at *
        obtain ⟨M1, hM1⟩ : ∃ x, x = z * TL := ⟨_, rfl⟩
        obtain ⟨M2, hM2⟩ : ∃ x, x = z * TH := ⟨_, rfl⟩
        have i5 : z * TL = M1 := hM1.symm
        have i6 : z * TH = M2 := hM2.symm
        rw [← hM1] at m1 m2 m5 m6 HMes
        rw [← hM2] at m3 m4 m6 m7 HMes
        have j1 : IntKind.i64.wrap M1 = M1 := IntWalk.i64_in _ (by omega)
        have j2 : IntKind.i64.wrap M2 = M2 := IntWalk.i64_in _ (by omega)
        have i3 : IntKind.i64.wrap (z * TL) = M1 := by rw [← hM1]; exact j1
        have i4 : IntKind.i64.wrap (z * TH) = M2 := by rw [← hM2]; exact j2
        obtain ⟨Q1, hQ1⟩ : ∃ x, x = M1 / 1073741824 := ⟨_, rfl⟩
        obtain ⟨C1, hC1⟩ : ∃ x, x = cdiv M2 1073741824 := ⟨_, rfl⟩
        have HU := Lib.hid (fun W => show Calls Try.prog 58 #[.int .i64 M2, .int .i64 1073741824] W fun e w' => e = .returned (.int .i64 C1) ∧ W = w' from by rw [hC1]; exact up_any M2 1073741824 W (by decide) (by decide) m3 (by omega))
        rw [← hQ1] at m5 m6 HMes
        rw [← hC1] at m6 m7 HMes
        have td : M1.tdiv 1073741824 = Q1 := by rw [hQ1]; exact Int.tdiv_eq_ediv_of_nonneg m1
        have td2 : M1 / 1073741824 = Q1 := hQ1.symm
        have i7 : IntKind.i64.wrap Q1 = Q1 := IntWalk.i64_in _ (by omega)
        clear hM1 hM2 hQ1 hC1 hR
        go_wp2_with fail
        have HS := Lib.hid (show (fun w' : World => w'.cell? ⟨Z.heap.size, 0, none⟩ = some (.int .i64 TL) ∧ w'.cell? ⟨Z.heap.size, 1, none⟩ = some (.int .i64 TH) ∧ Below wr.drew.heap.size wr.drew w') wr.drew from ⟨t0, t1, Below.refl _ _⟩)
        clear t0 t1
        refine wp_region_held_tail (S := (fun w' : World => w'.cell? ⟨Z.heap.size, 0, none⟩ = some (.int .i64 TL) ∧ w'.cell? ⟨Z.heap.size, 1, none⟩ = some (.int .i64 TH) ∧ Below wr.drew.heap.size wr.drew w')) 14 (by kernel_rfl) (by kernel_rfl) HS.out (fun hHeld => ?_)
        refine wpAnyH_take (i := 0) (v := ?v0_1) rfl (by kernel_rfl) (by kernel_rfl) (by kernel_rfl) (fun _ _ _ h => h) (Or.inl ⟨by rfl, ?hy0_1⟩) (by assumption) ?rest0_1
        case hy0_1 => (intro w hSw; (try dsimp only at hSw); go_simp; (try with_reducible rfl))
        try simp only [Act.put, List.setIfInBounds_toArray, List.set_cons_zero, List.set_cons_succ]
        refine wpAnyH_take (i := 1) (v := ?v1_2) rfl (by kernel_rfl) (by kernel_rfl) (by kernel_rfl) (fun _ _ _ h => h) (Or.inl ⟨by rfl, ?hy1_2⟩) (by assumption) ?rest1_2
        case hy1_2 => (intro w hSw; (try dsimp only at hSw); go_simp; (try with_reducible rfl))
        try simp only [Act.put, List.setIfInBounds_toArray, List.set_cons_zero, List.set_cons_succ]
        refine wpAnyH_take (i := 2) (v := ?v2_3) rfl (by kernel_rfl) (by kernel_rfl) (by kernel_rfl) (fun _ _ _ h => h) (Or.inl ⟨by rfl, ?hy2_3⟩) (by assumption) ?rest2_3
        case hy2_3 => (intro w hSw; (try dsimp only at hSw); go_simp; (try with_reducible rfl))
        try simp only [Act.put, List.setIfInBounds_toArray, List.set_cons_zero, List.set_cons_succ]
        refine wpAnyH_take (i := 3) (v := ?v3_4) rfl (by kernel_rfl) (by kernel_rfl) (by kernel_rfl) (fun _ _ _ h => h) (Or.inl ⟨by rfl, ?hy3_4⟩) (by assumption) ?rest3_4
        case hy3_4 => (intro w hSw; (try dsimp only at hSw); go_simp; (try with_reducible rfl))
        try simp only [Act.put, List.setIfInBounds_toArray, List.set_cons_zero, List.set_cons_succ]
        refine wpAnyH_take (i := 4) (v := ?v4_5) rfl (by kernel_rfl) (by kernel_rfl) (by kernel_rfl) (fun _ _ _ h => h) (Or.inl ⟨by rfl, ?hy4_5⟩) (by assumption) ?rest4_5
        case hy4_5 => (intro w hSw; (try dsimp only at hSw); go_simp; (try with_reducible rfl))
        try simp only [Act.put, List.setIfInBounds_toArray, List.set_cons_zero, List.set_cons_succ]
        refine wpAnyH_take (i := 5) (v := ?v5_6) rfl (by kernel_rfl) (by kernel_rfl) (by kernel_rfl) (fun _ _ _ h => h) (Or.inl ⟨by rfl, ?hy5_6⟩) (by assumption) ?rest5_6
        case hy5_6 => (intro w hSw; (try dsimp only at hSw); go_simp; (try with_reducible rfl))
        try simp only [Act.put, List.setIfInBounds_toArray, List.set_cons_zero, List.set_cons_succ]
        refine wpAnyH_take (i := 6) (v := ?v6_7) rfl (by kernel_rfl) (by kernel_rfl) (by kernel_rfl) (fun _ _ _ h => h) (Or.inl ⟨by rfl, ?hy6_7⟩) (by assumption) ?rest6_7
        case hy6_7 => (intro w hSw; (try dsimp only at hSw); go_simp; (try with_reducible rfl))
        try simp only [Act.put, List.setIfInBounds_toArray, List.set_cons_zero, List.set_cons_succ]
        refine wpAnyH_take (i := 7) (v := ?v7_8) rfl (by kernel_rfl) (by kernel_rfl) (by kernel_rfl) (fun _ _ _ h => h) (Or.inl ⟨by rfl, ?hy7_8⟩) (by assumption) ?rest7_8
        case hy7_8 => (intro w hSw; (try dsimp only at hSw); go_simp; (try with_reducible rfl))
        try simp only [Act.put, List.setIfInBounds_toArray, List.set_cons_zero, List.set_cons_succ]
        refine wpAnyH_take (i := 8) (v := ?v8_9) rfl (by kernel_rfl) (by kernel_rfl) (by kernel_rfl) (fun _ _ _ h => h) (Or.inl ⟨by rfl, ?hy8_9⟩) (by assumption) ?rest8_9
        case hy8_9 => (intro w hSw; (try dsimp only at hSw); go_simp; (try with_reducible rfl))
        try simp only [Act.put, List.setIfInBounds_toArray, List.set_cons_zero, List.set_cons_succ]
        refine wpAnyH_take (i := 9) (v := ?v9_10) rfl (by kernel_rfl) (by kernel_rfl) (by kernel_rfl) (fun _ _ _ h => h) (Or.inl ⟨by rfl, ?hy9_10⟩) (by assumption) ?rest9_10
        case hy9_10 => (intro w hSw; (try dsimp only at hSw); go_simp; (try with_reducible rfl))
        try simp only [Act.put, List.setIfInBounds_toArray, List.set_cons_zero, List.set_cons_succ]
        refine wpAnyH_take (i := 10) (v := ?v10_11) rfl (by kernel_rfl) (by kernel_rfl) (by kernel_rfl) (fun _ _ _ h => h) (Or.inl ⟨by rfl, ?hy10_11⟩) (by assumption) ?rest10_11
        case hy10_11 => (intro w hSw; (try dsimp only at hSw); go_simp; (try with_reducible rfl))
        try simp only [Act.put, List.setIfInBounds_toArray, List.set_cons_zero, List.set_cons_succ]
        refine wpAnyH_ready (rs := [11]) (by kernel_rfl) (by simp) ?_
        refine AllReadyH.cons rfl (fun K hK => ?_) AllReadyH.nil
        go_simp; go_at_call 58; refine (HU.out _).mono ?_; rintro e' w' ⟨rfl, rfl⟩
        refine hK.out _ _ hHeld (fun hHeld => ?_)
        clear hK K
        try simp only [Act.put, List.setIfInBounds_toArray, List.set_cons_zero, List.set_cons_succ]
        refine wpAnyH_take (i := 12) (v := ?v12_12) rfl (by kernel_rfl) (by kernel_rfl) (by kernel_rfl) (fun _ _ _ h => h) (Or.inl ⟨by rfl, ?hy12_12⟩) (by assumption) ?rest12_12
        case hy12_12 => (intro w hSw; (try dsimp only at hSw); go_simp; (try with_reducible rfl))
        try simp only [Act.put, List.setIfInBounds_toArray, List.set_cons_zero, List.set_cons_succ]
        refine wpAnyH_take (i := 13) (v := ?v13_13) rfl (by kernel_rfl) (by kernel_rfl) (by kernel_rfl) (fun _ _ _ h => h) (Or.inl ⟨by rfl, ?hy13_13⟩) (by assumption) ?rest13_13
        case hy13_13 => (intro w hSw; (try dsimp only at hSw); go_simp; (try with_reducible rfl))
        try simp only [Act.put, List.setIfInBounds_toArray, List.set_cons_zero, List.set_cons_succ]
        refine wpAnyH_done (by kernel_rfl) ?_ _
        change wpList _ _ _ _ _ _
        simp only [List.drop_succ_cons, List.drop_zero]
        obtain ⟨d0, d1, gb⟩ := hHeld
        have RV := HR.out.keep (Below.refl wr.heap.size wr).drew
        obtain ⟨V, hV⟩ : ∃ V, V = wr.drew := ⟨_, rfl⟩
        rw [← hV] at RV d0 d1 ⊢
        have r0 := RV.row.c0 k hlt
        have r1 := RV.row.c1 k hlt
        rw [if_neg (Nat.lt_irrefl k)] at r0 r1
        have g0 := RV.row.f0 k hlt
        have g1 := RV.row.f1 k hlt
        have RP := Lib.hid (RV.put Q1 C1 HMes.out.1 HMes.out.2)
        clear hV gb HR HS RV i3 i4 i5 i6 i7 j1 j2 td td2 HMes
        go_wp2_with fail
        obtain ⟨U, hU⟩ : ∃ U, U = (V.setCell ⟨Z.heap.size + 1, k * 2, none⟩ (.int .i64 Q1)).setCell ⟨Z.heap.size + 1, k * 2 + 1, none⟩ (.int .i64 C1) := ⟨_, rfl⟩
        rw [← hU] at RP ⊢
        have y0 := RP.out.t0
        have y1 := RP.out.t1
        rw [HTL.out.1] at y0
        rw [HTL.out.2] at y1
        have HRq := Lib.hid (RP.out.keep (Below.refl U.heap.size U).drew)
        have HV := Lib.hid (fun W (hW : Below U.drew.heap.size U.drew W) => HVa.out _ W (HRq.out.box.keep hW))
        clear hU r0 r1 g0 g1 d0 d1 HU HVa
        have HS := Lib.hid (show (fun w' : World => w'.cell? ⟨Z.heap.size, 0, none⟩ = some (.int .i64 TL) ∧ w'.cell? ⟨Z.heap.size, 1, none⟩ = some (.int .i64 TH) ∧ Below U.drew.heap.size U.drew w') U.drew from ⟨y0, y1, Below.refl _ _⟩)
        clear y0 y1
        refine wp_region_held_tail (S := (fun w' : World => w'.cell? ⟨Z.heap.size, 0, none⟩ = some (.int .i64 TL) ∧ w'.cell? ⟨Z.heap.size, 1, none⟩ = some (.int .i64 TH) ∧ Below U.drew.heap.size U.drew w')) 5 (by kernel_rfl) (by kernel_rfl) HS.out (fun hHeld => ?_)
        refine wpAnyH_take (i := 0) (v := ?v0_14) rfl (by kernel_rfl) (by kernel_rfl) (by kernel_rfl) (fun _ _ _ h => h) (Or.inl ⟨by rfl, ?hy0_14⟩) (by assumption) ?rest0_14
        case hy0_14 => (intro w hSw; (try dsimp only at hSw); go_simp; (try with_reducible rfl))
        try simp only [Act.put, List.setIfInBounds_toArray, List.set_cons_zero, List.set_cons_succ]
        refine wpAnyH_take (i := 1) (v := ?v1_15) rfl (by kernel_rfl) (by kernel_rfl) (by kernel_rfl) (fun _ _ _ h => h) (Or.inl ⟨by rfl, ?hy1_15⟩) (by assumption) ?rest1_15
        case hy1_15 => (intro w hSw; (try dsimp only at hSw); go_simp; (try with_reducible rfl))
        try simp only [Act.put, List.setIfInBounds_toArray, List.set_cons_zero, List.set_cons_succ]
        refine wpAnyH_take (i := 2) (v := ?v2_16) rfl (by kernel_rfl) (by kernel_rfl) (by kernel_rfl) (fun _ _ _ h => h) (Or.inl ⟨by rfl, ?hy2_16⟩) (by assumption) ?rest2_16
        case hy2_16 => (intro w hSw; (try dsimp only at hSw); go_simp; (try with_reducible rfl))
        try simp only [Act.put, List.setIfInBounds_toArray, List.set_cons_zero, List.set_cons_succ]
        refine wpAnyH_ready (rs := [3]) (by kernel_rfl) (by simp) ?_
        refine AllReadyH.cons rfl (fun K hK => ?_) AllReadyH.nil
        go_simp; go_at_call 93; refine (HV.out _ (hHeld.2.2)).mono ?_; rintro e' w' ⟨rfl, hb'⟩
        refine hK.out _ _ (⟨keepW hb' hHeld.1, keepW hb' hHeld.2.1, hHeld.2.2.trans (hb'.mono hHeld.2.2.size)⟩) (fun hHeld => ?_)
        clear hK K
        try simp only [Act.put, List.setIfInBounds_toArray, List.set_cons_zero, List.set_cons_succ]
        refine wpAnyH_ready (rs := [4]) (by kernel_rfl) (by simp) ?_
        refine AllReadyH.cons rfl (fun K hK => ?_) AllReadyH.nil
        go_simp; go_at_call 59; refine (HBe.out _).mono ?_; rintro e' w' ⟨rfl, hb'⟩
        refine hK.out _ _ (⟨keepW hb' hHeld.1, keepW hb' hHeld.2.1, hHeld.2.2.trans (hb'.mono hHeld.2.2.size)⟩) (fun hHeld => ?_)
        clear hK K
        try simp only [Act.put, List.setIfInBounds_toArray, List.set_cons_zero, List.set_cons_succ]
        refine wpAnyH_done (by kernel_rfl) ?_ _
        change wpList _ _ _ _ _ _
        simp only [List.drop_succ_cons, List.drop_zero]
        obtain ⟨d0, d1, gb⟩ := hHeld
        rename World => X
        have RX := HRq.out.keep gb
        have y0 := RX.t0
        have y1 := RX.t1
        rw [HTL.out.1] at y0
        rw [HTL.out.2] at y1
        have g0 := RX.u0
        have g1 := RX.u1
        have HN := Lib.hid (RX.next NL NH HPas.out.1 HPas.out.2)
        clear RX gb d0 d1 HRq RP HV HBe HS HPas
        go_wp2
        go_roundw
        case rel => exact ⟨k + 1, by omega, by go_num, HN.out⟩
        case measure => simp [intOf]; omega
      · obtain rfl : m = k := by omega
        have HF := Lib.hid (show SliceIs wr (some ⟨Z.heap.size + 1, 0, none⟩) m m (mesOf n zs ps) from .inr ⟨_, 0, rfl, hR.lr, fun j hj => by
          have a := hR.row.c0 j hj
          have b := hR.row.c1 j hj
          simp only [hj, if_true] at a b
          rw [Nat.zero_add]
          exact ⟨a, b⟩⟩)
        have hbw := hR.bel
        clear hR HR
        go_wp2
        go_ret2
        rw [H0.out]
        exact ⟨_, _, rfl, HF.out, hbw⟩

end Go.Proofs.Ytdmbkhmhaininaa
