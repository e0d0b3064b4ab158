/-
  The reference's restore.
-/
import Derived.Test.YtdmbkhmhaininaaDE
import Derived.Test.YtdmbkhmhaininaaDG
import Derived.Deep.Cut
namespace Go.Proofs.Ytdmbkhmhaininaa
open Go.RowKit
set_option linter.unusedVariables false
set_option linter.unusedSimpArgs false

/-- what the loop over the gates keeps, when the reference restores -/
structure RRel (w wr : World) (b off n : Nat) (zs : Nat → Int × Int) (pb poff m : Nat) (ms : Nat → Int × Int) (p k : Nat) (v : Value) : Prop where
  sp : SpansAt wr b off n zs
  src : SpansAt wr pb poff m ms
  own : wr.ownsRow (p + 1) 24 2 v k (spv (fun j => (rstOf n zs ms j).1) (fun j => (rstOf n zs ms j).2) k)
  nil : k = 0 → v = .slice none 0 0
  t0 : wr.cell? ⟨p, 0, none⟩ = some (.int .i64 ((rstT n zs ms k).1))
  t1 : wr.cell? ⟨p, 1, none⟩ = some (.int .i64 ((rstT n zs ms k).2))
  u0 : wr.frozen? ⟨p, 0, none⟩ = false
  u1 : wr.frozen? ⟨p, 1, none⟩ = false
  lb : b < p
  lpb : pb < p
  lr : p < wr.heap.size
  lw : w.heap.size ≤ p
  bel : Below w.heap.size w wr
/-- the same, once a measure is appended, when restored -/
structure RMid (w wr : World) (b off n : Nat) (zs : Nat → Int × Int) (pb poff m : Nat) (ms : Nat → Int × Int) (p k : Nat) (v : Value) : Prop where
  sp : SpansAt wr b off n zs
  src : SpansAt wr pb poff m ms
  own : wr.ownsRow (p + 1) 24 2 v (k + 1) (spv (fun j => (rstOf n zs ms j).1) (fun j => (rstOf n zs ms j).2) (k + 1))
  t0 : wr.cell? ⟨p, 0, none⟩ = some (.int .i64 ((rstT n zs ms k).1))
  t1 : wr.cell? ⟨p, 1, none⟩ = some (.int .i64 ((rstT n zs ms k).2))
  u0 : wr.frozen? ⟨p, 0, none⟩ = false
  u1 : wr.frozen? ⟨p, 1, none⟩ = false
  lb : b < p
  lpb : pb < p
  lr : p < wr.heap.size
  lw : w.heap.size ≤ p
  bel : Below w.heap.size w wr
theorem RRel.keep {w wr : World} {b off n : Nat} {zs : Nat → Int × Int} {pb poff m : Nat} {ms : Nat → Int × Int} {p k : Nat} {v : Value} {w1 : World} (R : RRel w wr b off n zs pb poff m ms p k v) (hb : Below wr.heap.size wr w1) : RRel w w1 b off n zs pb poff m ms p k v := by
  have l1 := R.lr
  have l2 := R.lpb
  have l3 := R.lb
  exact ⟨R.sp.keep hb (by omega), R.src.keep hb (by omega), owns_keep R.own hb, R.nil, keepB hb (by omega) R.t0, keepB hb (by omega) R.t1, keepF hb (by omega) R.u0, keepF hb (by omega) R.u1, R.lb, R.lpb, Nat.lt_of_lt_of_le R.lr hb.size, R.lw, R.bel.trans (hb.mono R.bel.size)⟩
theorem RMid.keep {w wr : World} {b off n : Nat} {zs : Nat → Int × Int} {pb poff m : Nat} {ms : Nat → Int × Int} {p k : Nat} {v : Value} {w1 : World} (R : RMid w wr b off n zs pb poff m ms p k v) (hb : Below wr.heap.size wr w1) : RMid w w1 b off n zs pb poff m ms p k v := by
  have l1 := R.lr
  have l2 := R.lpb
  have l3 := R.lb
  exact ⟨R.sp.keep hb (by omega), R.src.keep hb (by omega), owns_keep R.own hb, keepB hb (by omega) R.t0, keepB hb (by omega) R.t1, keepF hb (by omega) R.u0, keepF hb (by omega) R.u1, R.lb, R.lpb, Nat.lt_of_lt_of_le R.lr hb.size, R.lw, R.bel.trans (hb.mono R.bel.size)⟩
theorem RRel.put {w wr : World} {b off n : Nat} {zs : Nat → Int × Int} {pb poff m : Nat} {ms : Nat → Int × Int} {p k : Nat} {v : Value} {w1 : World} {v' : Value} {x y : Int} {W1 : World} (R : RRel w wr b off n zs pb poff m ms p k v) (hx : (rstOf n zs ms k).1 = x) (hy : (rstOf n zs ms k).2 = y)
    (hW : Below (p + 1) wr W1) (hg : W1.grownBy w1 v.ownBlock) (ho : w1.ownsRow (p + 1) 24 2 v' (k + 1) (spv (fun j => (rstOf n zs ms j).1) (fun j => (rstOf n zs ms j).2) k ++ [.int .i64 x, .int .i64 y])) : RMid w w1 b off n zs pb poff m ms p k v' := by
  have l1 := R.lr
  have l2 := R.lpb
  have l3 := R.lb
  have l4 := R.lw
  have hb : Below (p + 1) wr w1 := Below.grown hW hg (by have := hW.size; omega) (fun k hk => (R.own.lt k hk).1)
  subst hx hy
  exact ⟨R.sp.keep hb (by omega), R.src.keep hb (by omega), ho, keepB hb (by omega) R.t0, keepB hb (by omega) R.t1, keepF hb (by omega) R.u0, keepF hb (by omega) R.u1, R.lb, R.lpb, Nat.lt_of_lt_of_le R.lr hb.size, R.lw, R.bel.trans (hb.mono (by omega))⟩
theorem RMid.next {w wr : World} {b off n : Nat} {zs : Nat → Int × Int} {pb poff m : Nat} {ms : Nat → Int × Int} {p k : Nat} {v : Value} (R : RMid w wr b off n zs pb poff m ms p k v) (x y : Int) (hx : (rstT n zs ms (k + 1)).1 = x) (hy : (rstT n zs ms (k + 1)).2 = y) :
    RRel w ((wr.setCell ⟨p, 0, none⟩ (.int .i64 x)).setCell ⟨p, 1, none⟩ (.int .i64 y)) b off n zs pb poff m ms p (k + 1) v := by
  have l1 := R.lr
  have l2 := R.lpb
  have l3 := R.lb
  have l4 := R.lw
  have hB : Below p wr ((wr.setCell ⟨p, 0, none⟩ (.int .i64 x)).setCell ⟨p, 1, none⟩ (.int .i64 y)) := ((Below.refl p wr).setCell (p := ⟨p, 0, none⟩) (Nat.le_refl _) _).setCell (p := ⟨p, 1, none⟩) (Nat.le_refl _) _
  refine ⟨R.sp.keep hB (by omega), R.src.keep hB (by omega), row_far (row_far R.own (by omega)) (by omega), fun h => absurd h (by omega), ?_, ?_, by simp; exact R.u0, by simp; exact R.u1, l3, l2, by simp; exact l1, l4, R.bel.trans (hB.mono (by omega))⟩
  · rw [hx]; exact set_other (by decide) (set_same R.t0)
  · rw [hy]; exact set_same (set_other (by decide) R.t1)

theorem row_other {w : World} {base T size n q j : Nat} {v x : Value} {xs : List Value} (h : w.ownsRow base T size v n xs) (hq : v.ownBlock ≠ some q) : (w.setCell ⟨q, j, none⟩ x).ownsRow base T size v n xs := by
  refine ⟨h.1, ?_⟩
  rcases h.2 with hn | ⟨g, cap, cur, rfl, h1, h2, rest⟩
  · exact .inl hn
  · refine .inr ⟨g, cap, cur, rfl, h1, ?_, rest⟩
    have hne : q ≠ g := fun e => hq (by simp [Value.ownBlock, e])
    have e : (w.setCell ⟨q, j, none⟩ x).heap[g]? = w.heap[g]? := by
      unfold World.setCell
      simp only [Array.getElem?_modify]
      rw [if_neg (by omega)]
    rw [e]; exact h2
theorem RRel.setq {w wr : World} {b off n : Nat} {zs : Nat → Int × Int} {pb poff m : Nat} {ms : Nat → Int × Int} {p k : Nat} {v : Value} {q j : Nat} {x : Value} (R : RRel w wr b off n zs pb poff m ms p k v) (hq : p < q) (hv : v.ownBlock ≠ some q) : RRel w (wr.setCell ⟨q, j, none⟩ x) b off n zs pb poff m ms p k v := by
  have l1 := R.lr
  have l2 := R.lpb
  have l3 := R.lb
  have l4 := R.lw
  have hb : Below q wr (wr.setCell ⟨q, j, none⟩ x) := (Below.refl q wr).setCell (p := ⟨q, j, none⟩) (Nat.le_refl _) _
  exact ⟨R.sp.keep hb (by omega), R.src.keep hb (by omega), row_other R.own hv, R.nil, keepB hb (by omega) R.t0, keepB hb (by omega) R.t1, keepF hb (by omega) R.u0, keepF hb (by omega) R.u1, R.lb, R.lpb, by simp; exact R.lr, R.lw, R.bel.trans (hb.mono (by omega))⟩
/-- the box of a gate's power -/
structure ZBox (W : World) (v : Value) (q : Nat) (x y : Int) : Prop where
  z0 : W.cell? ⟨q, 0, none⟩ = some (.int .i64 x)
  z1 : W.cell? ⟨q, 1, none⟩ = some (.int .i64 y)
  f0 : W.frozen? ⟨q, 0, none⟩ = false
  f1 : W.frozen? ⟨q, 1, none⟩ = false
  lq : q < W.heap.size
  nv : v.ownBlock ≠ some q
theorem ZBox.new {W : World} {base T size n : Nat} {v : Value} {xs : List Value} (h : W.ownsRow base T size v n xs) : ZBox (W.alloc (.cells #[.int .i64 0, .int .i64 0] 24)) v W.heap.size 0 0 :=
  ⟨alloc_new rfl rfl, alloc_new rfl rfl, alloc_newF rfl, alloc_newF rfl, by rw [World.size_alloc]; omega, fun e => by have := (h.lt _ e).2; omega⟩
theorem ZBox.keep {W w1 : World} {v : Value} {q : Nat} {x y : Int} (h : ZBox W v q x y) (hb : Below W.heap.size W w1) : ZBox w1 v q x y :=
  ⟨keepB hb h.lq h.z0, keepB hb h.lq h.z1, keepF hb h.lq h.f0, keepF hb h.lq h.f1, Nat.lt_of_lt_of_le h.lq hb.size, h.nv⟩
theorem ZBox.set0 {W : World} {v : Value} {q : Nat} {x y z : Int} (h : ZBox W v q x y) : ZBox (W.setCell ⟨q, 0, none⟩ (.int .i64 z)) v q z y :=
  ⟨set_same h.z0, set_other (by decide) h.z1, by simp; exact h.f0, by simp; exact h.f1, by simp; exact h.lq, h.nv⟩
theorem ZBox.set1 {W : World} {v : Value} {q : Nat} {x y z : Int} (h : ZBox W v q x y) : ZBox (W.setCell ⟨q, 1, none⟩ (.int .i64 z)) v q x z :=
  ⟨set_other (by decide) h.z0, set_same h.z1, by simp; exact h.f0, by simp; exact h.f1, by simp; exact h.lq, h.nv⟩
theorem ZBox.grown {W w1 : World} {v : Value} {q : Nat} {x y : Int} {tmp : Obj} (h : ZBox W v q x y) (hg : (W.alloc tmp).grownBy w1 v.ownBlock) : w1.cell? ⟨q, 0, none⟩ = some (.int .i64 x) ∧ w1.cell? ⟨q, 1, none⟩ = some (.int .i64 y) := by
  have l : q < (W.alloc tmp).heap.size := by rw [World.size_alloc]; have := h.lq; omega
  refine ⟨?_, ?_⟩
  · rw [hg.cell_far ⟨q, 0, none⟩ l (fun e => h.nv e.symm)]; exact alloc_keep h.lq h.z0
  · rw [hg.cell_far ⟨q, 1, none⟩ l (fun e => h.nv e.symm)]; exact alloc_keep h.lq h.z1
theorem rrest_start {w : World} {b off n : Nat} {zs : Nat → Int × Int} {pb poff m : Nat} {ms : Nat → Int × Int} (hs : SpansAt w b off n zs) (hb : b < w.heap.size) (hp : SpansAt w pb poff m ms) (hpb : pb < w.heap.size) :
    RRel w (w.alloc (.cells #[.int .i64 1073741824, .int .i64 1073741824] 24)) b off n zs pb poff m ms w.heap.size 0 (.slice none 0 0) := by
  have bA := below_alloc w (.cells #[.int .i64 1073741824, .int .i64 1073741824] 24)
  exact ⟨hs.keep bA hb, hp.keep bA hpb, World.ownsRow_nil _ _ _ _, fun _ => rfl, alloc_new rfl rfl, alloc_new rfl rfl, alloc_newF rfl, alloc_newF rfl, by omega, by omega, by rw [World.size_alloc]; omega, Nat.le_refl _, bA⟩

set_option maxRecDepth 100000 in
set_option maxHeartbeats 12800000 in
theorem refrestore_some (b off n cap : Nat) (zs : Nat → Int × Int) (pb poff m pc : Nat) (ms : Nat → Int × Int) (w : World) (hm : m ≤ 200) (hT : TabOk n zs 32768) (hs : SpansAt w b off n zs) (hb : b < w.heap.size) (hp : SpansAt w pb poff m ms) (hpb : pb < w.heap.size) (hms : ∀ j, j < m → 0 ≤ (ms j).1 ∧ (ms j).1 ≤ (ms j).2 ∧ (ms j).2 ≤ 1073741824) :
    Calls Try.prog 65 #[.slice (some ⟨b, off, none⟩) n cap, .slice (some ⟨pb, poff, none⟩) m pc] w fun e w' => ∃ a cp, e = .returned (.slice a m cp) ∧ SliceIs w' a m cp (rstOf n zs ms) ∧ Below w.heap.size w w' := by
  have HMs := Lib.hid hms
  have HRel := Lib.hid (rrest_start hs hb hp hpb)
  obtain ⟨i0, hi0, hz0, hz1, hz2⟩ := info_parts info24
  clear hs hp hms
  obtain ⟨p, hp0⟩ : ∃ p, p = w.heap.size := ⟨_, rfl⟩
  obtain ⟨A, hA⟩ : ∃ A, A = w.alloc (.cells #[.int .i64 1073741824, .int .i64 1073741824] 24) := ⟨_, rfl⟩
  rw [← hA, ← hp0] at HRel
  go_enter Try.func65, Try.ntmps65
  go_wp2
  try rw [← hA]
  try rw [← hp0]
  clear hA hp0
  go_loopw [6, 7] (fun v i wr => ∃ k : Nat, k ≤ m ∧ i = .int .i64 k ∧ RRel w wr b off n zs pb poff m ms p k v) (fun _ i _ => m - (intOf i).toNat)
  case atStart => exact ⟨0, Nat.zero_le _, rfl, HRel.out⟩
  case round =>
    clear HRel
    obtain ⟨k, hk, rfl, hR⟩ := hrel
    have HR := Lib.hid hR
    by_cases hlt : k < m
    · obtain ⟨c0, c1⟩ := hR.src k hlt
      have q0 : (0 : Int) ≤ (k : Int) := by omega
      have q1 : (k : Int) < (m : Int) := by omega
      obtain ⟨w1, w2, w3, w4⟩ := rst_bd hT (ms := ms) k (fun j hj => HMs.out j (by omega))
      obtain ⟨m1, m2, m3⟩ := HMs.out k hlt
      obtain ⟨r1, r2, r3⟩ := res_bd w1 w2 w4 w3 m1 m2 m3
      have r4 : resLo (rstT n zs ms k) (ms k) ≤ 1073741824 := by omega
      have r5 : 0 ≤ resHi (rstT n zs ms k) (ms k) := by omega
      have HN := Lib.hid (fun (W : World) (h : SpansAt W b off n zs) (h2 : b < W.heap.size) => next_any b off n cap zs (rstT n zs ms k).1 (rstT n zs ms k).2 (resLo (rstT n zs ms k) (ms k)) (resHi (rstT n zs ms k) (ms k)) W hT w1 w2 w3 r1 r4 r5 r3 h h2)
      have HM := Lib.hid (show (rstOf n zs ms k).1 = resLo (rstT n zs ms k) (ms k) ∧ (rstOf n zs ms k).2 = resHi (rstT n zs ms k) (ms k) from ⟨rfl, rfl⟩)
      have HNx := Lib.hid (show (rstT n zs ms (k + 1)).1 = (rstT n zs ms k).1 * (65536 - valHi n zs (resHi (rstT n zs ms k) (ms k))) / 65536 ∧ (rstT n zs ms (k + 1)).2 = cdiv ((rstT n zs ms k).2 * (65536 - valLo n zs (resLo (rstT n zs ms k) (ms k)))) 65536 from ⟨rfl, rfl⟩)
      clear r4 r5
      have t0 := hR.t0
      have t1 := hR.t1
      have lp := hR.lr
      have lpb : pb < wr.heap.size := by have := hR.lpb; omega
      clear hR
      by_cases h : 1048576 ≤ (rstT n zs ms k).1
      · have hpart := h
        have HRL0 := Lib.hid (show resLo (rstT n zs ms k) (ms k) = min 1073741824 ((ms k).1 * 1073741824 / (rstT n zs ms k).2) from rfl)
        have hRL := HRL0.out
        have k1 : 0 ≤ (ms k).1 * 1073741824 ∧ (ms k).1 * 1073741824 ≤ 1152921504606846976 := by omega
        have HD := Lib.hid (fun W => Down_any ((ms k).1 * 1073741824) (rstT n zs ms k).2 W w4 (by omega) (by omega))
        have d1' : 1 ≤ (rstT n zs ms k).1 := by omega
        have k2 : 0 ≤ (ms k).2 * 1073741824 ∧ (ms k).2 * 1073741824 ≤ 1152921504606846976 := by omega
        have HU := Lib.hid (fun W => Up_any ((ms k).2 * 1073741824) (rstT n zs ms k).1 W d1' (by omega) (by omega))
        have hRH : resHi (rstT n zs ms k) (ms k) = min 1073741824 (cdiv ((ms k).2 * 1073741824) (rstT n zs ms k).1) := by unfold resHi; rw [if_pos hpart]
        have f8 : decide (1048576 ≤ (rstT n zs ms k).1) = true := decide_eq_true hpart
        clear hpart h
        generalize resLo (rstT n zs ms k) (ms k) = RL at *
        generalize resHi (rstT n zs ms k) (ms k) = RH at *
        generalize valLo n zs RL = VL at *
        generalize valHi n zs RH = VH at *
        generalize hTL : (rstT n zs ms k).1 = TL at *
        generalize hTH : (rstT n zs ms k).2 = TH at *
        have HTL := Lib.hid (And.intro hTL hTH)
        clear hTL hTH HRL0
        generalize TL * (65536 - VH) / 65536 = NL at *
        generalize cdiv (TH * (65536 - VL)) 65536 = NH at *
        generalize hz1' : (ms k).1 = z1 at *
        generalize hz2' : (ms k).2 = z2 at *
        have HMk := Lib.hid (And.intro hz1' hz2')
        clear hz1' hz2'
        have e2 : IntKind.i64.wrap (z1 * 1073741824) = z1 * 1073741824 := IntWalk.i64_in _ (by omega)
        generalize z1 * 1073741824 / TH = Q1 at *
        have e11 : (if Q1 < 1073741824 then Q1 else 1073741824) = RL := by rw [hRL]; split <;> omega
        have e12 : min 1073741824 Q1 = RL := hRL.symm
        have f2 : IntKind.i64.wrap (z2 * 1073741824) = z2 * 1073741824 := IntWalk.i64_in _ (by omega)
        generalize cdiv (z2 * 1073741824) TL = C1 at *
        have f6 : (if C1 < 1073741824 then C1 else 1073741824) = RH := by rw [hRH]; split <;> omega
        have f7 : min 1073741824 C1 = RH := hRH.symm
        clear hRL hRH k1 w1 w2 w3 w4 m1 m2 m3 r1 r2 r3 k2 d1'
        
        go_upto_region 6 with fail
        have HS := Lib.hid (show (fun w' : World => w'.cell? ⟨pb, poff + k * 2, none⟩ = some (.int .i64 z1) ∧ w'.cell? ⟨p, 1, none⟩ = some (.int .i64 TH) ∧ Below wr.drew.heap.size wr.drew w') wr.drew from ⟨c0, t1, Below.refl _ _⟩)
        clear c0 c1 t0 t1
        refine wp_region_held_tail (S := (fun w' : World => w'.cell? ⟨pb, poff + k * 2, none⟩ = some (.int .i64 z1) ∧ w'.cell? ⟨p, 1, none⟩ = some (.int .i64 TH) ∧ Below wr.drew.heap.size wr.drew w')) 12 (by kernel_rfl) (by kernel_rfl) HS.out (fun hHeld => ?_)
        refine wpAnyH_take (i := 0) (v := ?v0_9) rfl (by kernel_rfl) (by kernel_rfl) (by kernel_rfl) (fun _ _ _ h => h) (Or.inl ⟨by rfl, ?hy0_9⟩) (by assumption) ?rest0_9
        case hy0_9 => (intro w hSw; (try dsimp only at hSw); go_simp; (try with_reducible rfl))
        try simp only [Act.put, List.getElem_toArray, List.getElem_cons_zero, List.getElem_cons_succ, List.setIfInBounds_toArray, List.set_cons_zero, List.set_cons_succ]
        refine wpAnyH_take (i := 1) (v := ?v1_10) rfl (by kernel_rfl) (by kernel_rfl) (by kernel_rfl) (fun _ _ _ h => h) (Or.inl ⟨by rfl, ?hy1_10⟩) (by assumption) ?rest1_10
        case hy1_10 => (intro w hSw; (try dsimp only at hSw); go_simp; (try with_reducible rfl))
        try simp only [Act.put, List.getElem_toArray, List.getElem_cons_zero, List.getElem_cons_succ, List.setIfInBounds_toArray, List.set_cons_zero, List.set_cons_succ]
        refine wpAnyH_take (i := 2) (v := ?v2_11) rfl (by kernel_rfl) (by kernel_rfl) (by kernel_rfl) (fun _ _ _ h => h) (Or.inl ⟨by rfl, ?hy2_11⟩) (by assumption) ?rest2_11
        case hy2_11 => (intro w hSw; (try dsimp only at hSw); go_simp; (try with_reducible rfl))
        try simp only [Act.put, List.getElem_toArray, List.getElem_cons_zero, List.getElem_cons_succ, List.setIfInBounds_toArray, List.set_cons_zero, List.set_cons_succ]
        refine wpAnyH_take (i := 3) (v := ?v3_12) rfl (by kernel_rfl) (by kernel_rfl) (by kernel_rfl) (fun _ _ _ h => h) (Or.inl ⟨by rfl, ?hy3_12⟩) (by assumption) ?rest3_12
        case hy3_12 => (intro w hSw; (try dsimp only at hSw); go_simp; (try with_reducible rfl))
        try simp only [Act.put, List.getElem_toArray, List.getElem_cons_zero, List.getElem_cons_succ, List.setIfInBounds_toArray, List.set_cons_zero, List.set_cons_succ]
        refine wpAnyH_take (i := 4) (v := ?v4_13) rfl (by kernel_rfl) (by kernel_rfl) (by kernel_rfl) (fun _ _ _ h => h) (Or.inl ⟨by rfl, ?hy4_13⟩) (by assumption) ?rest4_13
        case hy4_13 => (intro w hSw; (try dsimp only at hSw); go_simp; (try with_reducible rfl))
        try simp only [Act.put, List.getElem_toArray, List.getElem_cons_zero, List.getElem_cons_succ, List.setIfInBounds_toArray, List.set_cons_zero, List.set_cons_succ]
        refine wpAnyH_take (i := 5) (v := ?v5_14) rfl (by kernel_rfl) (by kernel_rfl) (by kernel_rfl) (fun _ _ _ h => h) (Or.inl ⟨by rfl, ?hy5_14⟩) (by assumption) ?rest5_14
        case hy5_14 => (intro w hSw; (try dsimp only at hSw); go_simp; (try with_reducible rfl))
        try simp only [Act.put, List.getElem_toArray, List.getElem_cons_zero, List.getElem_cons_succ, List.setIfInBounds_toArray, List.set_cons_zero, List.set_cons_succ]
        refine wpAnyH_take (i := 6) (v := ?v6_15) rfl (by kernel_rfl) (by kernel_rfl) (by kernel_rfl) (fun _ _ _ h => h) (Or.inl ⟨by rfl, ?hy6_15⟩) (by assumption) ?rest6_15
        case hy6_15 => (intro w hSw; (try dsimp only at hSw); go_simp; (try with_reducible rfl))
        try simp only [Act.put, List.getElem_toArray, List.getElem_cons_zero, List.getElem_cons_succ, List.setIfInBounds_toArray, List.set_cons_zero, List.set_cons_succ]
        refine wpAnyH_take (i := 7) (v := ?v7_16) rfl (by kernel_rfl) (by kernel_rfl) (by kernel_rfl) (fun _ _ _ h => h) (Or.inl ⟨by rfl, ?hy7_16⟩) (by assumption) ?rest7_16
        case hy7_16 => (intro w hSw; (try dsimp only at hSw); go_simp; (try with_reducible rfl))
        try simp only [Act.put, List.getElem_toArray, List.getElem_cons_zero, List.getElem_cons_succ, List.setIfInBounds_toArray, List.set_cons_zero, List.set_cons_succ]
        refine wpAnyH_ready (rs := [8, 11]) (by kernel_rfl) (by simp) ?_
        refine AllReadyH.cons rfl (fun K hK => ?_) (AllReadyH.cons rfl (fun K hK => ?_) AllReadyH.nil)
        · skip
          go_simp; go_at_call 60; refine (HD.out _).mono ?_; rintro e' w' ⟨rfl, rfl⟩
          refine hK.out _ _ hHeld (fun hHeld2 => ?_)
          clear hK K hHeld
          have hHeld := hHeld2
          clear hHeld2
          try simp only [Act.put, List.getElem_toArray, List.getElem_cons_zero, List.getElem_cons_succ, List.setIfInBounds_toArray, List.set_cons_zero, List.set_cons_succ]
          refine wpAnyH_take (i := 9) (v := ?v9_17) rfl (by kernel_rfl) (by kernel_rfl) (by kernel_rfl) (fun _ _ _ h => h) (Or.inl ⟨by rfl, ?hy9_17⟩) (by assumption) ?rest9_17
          case hy9_17 => (intro w hSw; (try dsimp only at hSw); go_simp; (try with_reducible rfl))
          try simp only [Act.put, List.getElem_toArray, List.getElem_cons_zero, List.getElem_cons_succ, List.setIfInBounds_toArray, List.set_cons_zero, List.set_cons_succ]
          refine wpAnyH_take (i := 10) (v := ?v10_18) rfl (by kernel_rfl) (by kernel_rfl) (by kernel_rfl) (fun _ _ _ h => h) (Or.inl ⟨by rfl, ?hy10_18⟩) (by assumption) ?rest10_18
          case hy10_18 => (intro w hSw; (try dsimp only at hSw); go_simp; (try with_reducible rfl))
          try simp only [Act.put, List.getElem_toArray, List.getElem_cons_zero, List.getElem_cons_succ, List.setIfInBounds_toArray, List.set_cons_zero, List.set_cons_succ]
          refine wpAnyH_ready (rs := [11]) (by kernel_rfl) (by simp) ?_
          refine AllReadyH.cons rfl (fun K hK => ?_) AllReadyH.nil
          go_simp
          refine hK.out _ _ (⟨keepW (below_alloc _ _) hHeld.1, keepW (below_alloc _ _) hHeld.2.1, hHeld.2.2.trans ((below_alloc _ _).mono hHeld.2.2.size)⟩) (fun hHeld2 => ?_)
          clear hK K hHeld
          have hHeld := hHeld2
          clear hHeld2
          try simp only [Act.put, List.getElem_toArray, List.getElem_cons_zero, List.getElem_cons_succ, List.setIfInBounds_toArray, List.set_cons_zero, List.set_cons_succ]
          refine wpAnyH_done (by kernel_rfl) ?_ _
          change wpList _ _ _ _ _ _
          simp only [List.drop_succ_cons, List.drop_zero]
          obtain ⟨d0, d1, gb⟩ := hHeld
          clear gb d0 d1
          have hown := HR.out.own
          have HZ0 := Lib.hid ((ZBox.new hown).keep (Below.refl _ _).drew)
          have HRG := Lib.hid ((HR.out.keep (below_alloc wr (.cells #[.int .i64 0, .int .i64 0] 24))).keep (Below.refl _ _).drew)
          obtain ⟨q, hq⟩ : ∃ q, q = wr.heap.size := ⟨_, rfl⟩
          have lpq : p < q := by have := HR.out.lr; omega
          obtain ⟨G, hG⟩ : ∃ G, G = (wr.alloc (.cells #[.int .i64 0, .int .i64 0] 24)).drew := ⟨_, rfl⟩
          rw [← hG] at HRG
          rw [← hG, ← hq] at HZ0
          have x0 := HZ0.out.z0
          have x1 := HZ0.out.z1
          have x2 := HZ0.out.f0
          have x3 := HZ0.out.f1
          try rw [← hG]
          try rw [← hq]
          clear hG hq hown HR
          go_upto_region 7 with fail
          try rw [← hG]
          have HRU := Lib.hid ((HRG.out.setq (j := 0) (x := .int .i64 RL) lpq HZ0.out.nv).setq (j := 1) (x := .int .i64 1073741824) lpq HZ0.out.nv)
          have HZU := Lib.hid ((HZ0.out.set0 (z := RL)).set1 (z := 1073741824))
          obtain ⟨U, hU⟩ : ∃ U, U = (G.setCell ⟨q, 0, none⟩ (.int .i64 RL)).setCell ⟨q, 1, none⟩ (.int .i64 1073741824) := ⟨_, rfl⟩
          rw [← hU] at HRU HZU
          rw [← hU]
          clear hU HRG HZ0 x0 x1 x2 x3
          obtain ⟨c0, c1⟩ := HRU.out.src k hlt
          have t0 := HRU.out.t0
          rw [HTL.out.1] at t0
          rw [HMk.out.2] at c1
          go_upto_region 8 with fail
          have HS := Lib.hid (show (fun w' : World => w'.cell? ⟨pb, poff + k * 2 + 1, none⟩ = some (.int .i64 z2) ∧ w'.cell? ⟨p, 0, none⟩ = some (.int .i64 TL) ∧ Below U.drew.heap.size U.drew w') U.drew from ⟨c1, t0, Below.refl _ _⟩)
          have HRV := Lib.hid (HRU.out.keep (Below.refl U.heap.size U).drew)
          have HZV := Lib.hid (HZU.out.keep (Below.refl U.heap.size U).drew)
          clear c0 c1 t0 HRU HZU
          refine wp_region_held_tail (S := (fun w' : World => w'.cell? ⟨pb, poff + k * 2 + 1, none⟩ = some (.int .i64 z2) ∧ w'.cell? ⟨p, 0, none⟩ = some (.int .i64 TL) ∧ Below U.drew.heap.size U.drew w')) 8 (by kernel_rfl) (by kernel_rfl) HS.out (fun hHeld => ?_)
          refine wpAnyH_take (i := 0) (v := ?v0_19) rfl (by kernel_rfl) (by kernel_rfl) (by kernel_rfl) (fun _ _ _ h => h) (Or.inl ⟨by rfl, ?hy0_19⟩) (by assumption) ?rest0_19
          case hy0_19 => (intro w hSw; (try dsimp only at hSw); go_simp; (try with_reducible rfl))
          try simp only [Act.put, List.getElem_toArray, List.getElem_cons_zero, List.getElem_cons_succ, List.setIfInBounds_toArray, List.set_cons_zero, List.set_cons_succ]
          refine wpAnyH_take (i := 1) (v := ?v1_20) rfl (by kernel_rfl) (by kernel_rfl) (by kernel_rfl) (fun _ _ _ h => h) (Or.inl ⟨by rfl, ?hy1_20⟩) (by assumption) ?rest1_20
          case hy1_20 => (intro w hSw; (try dsimp only at hSw); go_simp; (try with_reducible rfl))
          try simp only [Act.put, List.getElem_toArray, List.getElem_cons_zero, List.getElem_cons_succ, List.setIfInBounds_toArray, List.set_cons_zero, List.set_cons_succ]
          refine wpAnyH_take (i := 2) (v := ?v2_21) rfl (by kernel_rfl) (by kernel_rfl) (by kernel_rfl) (fun _ _ _ h => h) (Or.inl ⟨by rfl, ?hy2_21⟩) (by assumption) ?rest2_21
          case hy2_21 => (intro w hSw; (try dsimp only at hSw); go_simp; (try with_reducible rfl))
          try simp only [Act.put, List.getElem_toArray, List.getElem_cons_zero, List.getElem_cons_succ, List.setIfInBounds_toArray, List.set_cons_zero, List.set_cons_succ]
          refine wpAnyH_take (i := 3) (v := ?v3_22) rfl (by kernel_rfl) (by kernel_rfl) (by kernel_rfl) (fun _ _ _ h => h) (Or.inl ⟨by rfl, ?hy3_22⟩) (by assumption) ?rest3_22
          case hy3_22 => (intro w hSw; (try dsimp only at hSw); go_simp; (try with_reducible rfl))
          try simp only [Act.put, List.getElem_toArray, List.getElem_cons_zero, List.getElem_cons_succ, List.setIfInBounds_toArray, List.set_cons_zero, List.set_cons_succ]
          refine wpAnyH_take (i := 4) (v := ?v4_23) rfl (by kernel_rfl) (by kernel_rfl) (by kernel_rfl) (fun _ _ _ h => h) (Or.inl ⟨by rfl, ?hy4_23⟩) (by assumption) ?rest4_23
          case hy4_23 => (intro w hSw; (try dsimp only at hSw); go_simp; (try with_reducible rfl))
          try simp only [Act.put, List.getElem_toArray, List.getElem_cons_zero, List.getElem_cons_succ, List.setIfInBounds_toArray, List.set_cons_zero, List.set_cons_succ]
          refine wpAnyH_take (i := 5) (v := ?v5_24) rfl (by kernel_rfl) (by kernel_rfl) (by kernel_rfl) (fun _ _ _ h => h) (Or.inl ⟨by rfl, ?hy5_24⟩) (by assumption) ?rest5_24
          case hy5_24 => (intro w hSw; (try dsimp only at hSw); go_simp; (try with_reducible rfl))
          try simp only [Act.put, List.getElem_toArray, List.getElem_cons_zero, List.getElem_cons_succ, List.setIfInBounds_toArray, List.set_cons_zero, List.set_cons_succ]
          refine wpAnyH_take (i := 6) (v := ?v6_25) rfl (by kernel_rfl) (by kernel_rfl) (by kernel_rfl) (fun _ _ _ h => h) (Or.inl ⟨by rfl, ?hy6_25⟩) (by assumption) ?rest6_25
          case hy6_25 => (intro w hSw; (try dsimp only at hSw); go_simp; (try with_reducible rfl))
          try simp only [Act.put, List.getElem_toArray, List.getElem_cons_zero, List.getElem_cons_succ, List.setIfInBounds_toArray, List.set_cons_zero, List.set_cons_succ]
          refine wpAnyH_take (i := 7) (v := ?v7_26) rfl (by kernel_rfl) (by kernel_rfl) (by kernel_rfl) (fun _ _ _ h => h) (Or.inl ⟨by rfl, ?hy7_26⟩) (by assumption) ?rest7_26
          case hy7_26 => (intro w hSw; (try dsimp only at hSw); go_simp; (try with_reducible rfl))
          try simp only [Act.put, List.getElem_toArray, List.getElem_cons_zero, List.getElem_cons_succ, List.setIfInBounds_toArray, List.set_cons_zero, List.set_cons_succ]
          refine wpAnyH_done (by kernel_rfl) ?_ _
          change wpList _ _ _ _ _ _
          simp only [List.drop_succ_cons, List.drop_zero]
          clear hHeld HS
          generalize U.drew = V at *
          have x0 := HZV.out.z0
          have x1 := HZV.out.z1
          have x2 := HZV.out.f0
          have x3 := HZV.out.f1
          go_wp2_with fail
          refine (HU.out _).mono ?_; rintro e w' ⟨rfl, rfl⟩
          have HRY := Lib.hid (HRV.out.setq (j := 1) (x := .int .i64 RH) lpq HZV.out.nv)
          have HZY := Lib.hid (HZV.out.set1 (z := RH))
          clear HRV HZV
          go_upto_region 9 with fail
          obtain ⟨Y, hY⟩ : ∃ Y, Y = V.setCell ⟨q, 1, none⟩ (.int .i64 RH) := ⟨_, rfl⟩
          rw [← hY] at HRY HZY
          rw [← hY]
          clear hY x0 x1 x2 x3 V
          have hown := HRY.out.own
          have lY := HRY.out.lr
          have ly0 := HZY.out.z0
          have ly1 := HZY.out.z1
          go_wp2_with (first | (at_builtin; refine wpList_append_own _ rfl _ _ 44 rfl (p + 1) 24 i0 (.agg #[.int .i64 0, .int .i64 0]) 2 16 Try.underlying44 hi0 hz0 hz1 hz2 rfl (by decide) _ _ _ rfl (hown.alloc _) ⟨Y.heap.size, 0, none⟩ 1 1 [.int .i64 RL, .int .i64 RH] rfl rfl (cell_two_new _ _ _ _) ?c2 ?c3 ?c4 ?c5 ?_) | go_in)
          case c2 => first | (simp [Value.oneCell']; done) | (intro u hu; simp at hu; rcases hu with rfl | rfl <;> rfl)
          case c3 => unfold maxLen; omega
          case c4 => omega
          case c5 => first | omega | (simp; omega)
          intro v' w7 hown' hgrow _
          have R7 := Lib.hid (HRY.out.put HM.out.1 HM.out.2 ((Below.refl (p + 1) Y).alloc (by omega) _) hgrow hown')
          have hz7 := HZY.out.grown hgrow
          obtain ⟨y2, y3⟩ := hz7
          clear hown' hgrow hown HRY HZY lY ly0 ly1 HM
          have y0 := R7.out.t0
          have y1 := R7.out.t1
          rw [HTL.out.1] at y0
          rw [HTL.out.2] at y1
          have l7 : b < w7.heap.size := by have := R7.out.lb; have := R7.out.lr; omega
          have HN7 := Lib.hid (HN.out w7 R7.out.sp l7)
          clear HN
          go_wp2_with fail
          refine (HN7.out).mono ?_; rintro e V7 ⟨rfl, gb⟩
          have RX := R7.out.keep gb
          have y0 := RX.t0
          have y1 := RX.t1
          rw [HTL.out.1] at y0
          rw [HTL.out.2] at y1
          have g0 := RX.u0
          have g1 := RX.u1
          have HN := Lib.hid (RX.next NL NH HNx.out.1 HNx.out.2)
          clear RX gb R7 HN7 HNx l7 y2 y3
          go_wp2
          go_roundw
          case rel => exact ⟨k + 1, by omega, by go_num, HN.out⟩
          case measure => simp [intOf]; omega
        · skip
          go_simp
          refine hK.out _ _ (⟨keepW (below_alloc _ _) hHeld.1, keepW (below_alloc _ _) hHeld.2.1, hHeld.2.2.trans ((below_alloc _ _).mono hHeld.2.2.size)⟩) (fun hHeld2 => ?_)
          clear hK K hHeld
          have hHeld := hHeld2
          clear hHeld2
          try simp only [Act.put, List.getElem_toArray, List.getElem_cons_zero, List.getElem_cons_succ, List.setIfInBounds_toArray, List.set_cons_zero, List.set_cons_succ]
          refine wpAnyH_ready (rs := [8]) (by kernel_rfl) (by simp) ?_
          refine AllReadyH.cons rfl (fun K hK => ?_) AllReadyH.nil
          go_simp; go_at_call 60; refine (HD.out _).mono ?_; rintro e' w' ⟨rfl, rfl⟩
          refine hK.out _ _ hHeld (fun hHeld2 => ?_)
          clear hK K hHeld
          have hHeld := hHeld2
          clear hHeld2
          try simp only [Act.put, List.getElem_toArray, List.getElem_cons_zero, List.getElem_cons_succ, List.setIfInBounds_toArray, List.set_cons_zero, List.set_cons_succ]
          refine wpAnyH_take (i := 9) (v := ?v9_27) rfl (by kernel_rfl) (by kernel_rfl) (by kernel_rfl) (fun _ _ _ h => h) (Or.inl ⟨by rfl, ?hy9_27⟩) (by assumption) ?rest9_27
          case hy9_27 => (intro w hSw; (try dsimp only at hSw); go_simp; (try with_reducible rfl))
          try simp only [Act.put, List.getElem_toArray, List.getElem_cons_zero, List.getElem_cons_succ, List.setIfInBounds_toArray, List.set_cons_zero, List.set_cons_succ]
          refine wpAnyH_take (i := 10) (v := ?v10_28) rfl (by kernel_rfl) (by kernel_rfl) (by kernel_rfl) (fun _ _ _ h => h) (Or.inl ⟨by rfl, ?hy10_28⟩) (by assumption) ?rest10_28
          case hy10_28 => (intro w hSw; (try dsimp only at hSw); go_simp; (try with_reducible rfl))
          try simp only [Act.put, List.getElem_toArray, List.getElem_cons_zero, List.getElem_cons_succ, List.setIfInBounds_toArray, List.set_cons_zero, List.set_cons_succ]
          refine wpAnyH_done (by kernel_rfl) ?_ _
          change wpList _ _ _ _ _ _
          simp only [List.drop_succ_cons, List.drop_zero]
          obtain ⟨d0, d1, gb⟩ := hHeld
          clear gb d0 d1
          have hown := HR.out.own
          have HZ0 := Lib.hid ((ZBox.new hown).keep (Below.refl _ _).drew)
          have HRG := Lib.hid ((HR.out.keep (below_alloc wr (.cells #[.int .i64 0, .int .i64 0] 24))).keep (Below.refl _ _).drew)
          obtain ⟨q, hq⟩ : ∃ q, q = wr.heap.size := ⟨_, rfl⟩
          have lpq : p < q := by have := HR.out.lr; omega
          obtain ⟨G, hG⟩ : ∃ G, G = (wr.alloc (.cells #[.int .i64 0, .int .i64 0] 24)).drew := ⟨_, rfl⟩
          rw [← hG] at HRG
          rw [← hG, ← hq] at HZ0
          have x0 := HZ0.out.z0
          have x1 := HZ0.out.z1
          have x2 := HZ0.out.f0
          have x3 := HZ0.out.f1
          try rw [← hG]
          try rw [← hq]
          clear hG hq hown HR
          go_upto_region 7 with fail
          try rw [← hG]
          have HRU := Lib.hid ((HRG.out.setq (j := 0) (x := .int .i64 RL) lpq HZ0.out.nv).setq (j := 1) (x := .int .i64 1073741824) lpq HZ0.out.nv)
          have HZU := Lib.hid ((HZ0.out.set0 (z := RL)).set1 (z := 1073741824))
          obtain ⟨U, hU⟩ : ∃ U, U = (G.setCell ⟨q, 0, none⟩ (.int .i64 RL)).setCell ⟨q, 1, none⟩ (.int .i64 1073741824) := ⟨_, rfl⟩
          rw [← hU] at HRU HZU
          rw [← hU]
          clear hU HRG HZ0 x0 x1 x2 x3
          obtain ⟨c0, c1⟩ := HRU.out.src k hlt
          have t0 := HRU.out.t0
          rw [HTL.out.1] at t0
          rw [HMk.out.2] at c1
          go_upto_region 8 with fail
          have HS := Lib.hid (show (fun w' : World => w'.cell? ⟨pb, poff + k * 2 + 1, none⟩ = some (.int .i64 z2) ∧ w'.cell? ⟨p, 0, none⟩ = some (.int .i64 TL) ∧ Below U.drew.heap.size U.drew w') U.drew from ⟨c1, t0, Below.refl _ _⟩)
          have HRV := Lib.hid (HRU.out.keep (Below.refl U.heap.size U).drew)
          have HZV := Lib.hid (HZU.out.keep (Below.refl U.heap.size U).drew)
          clear c0 c1 t0 HRU HZU
          refine wp_region_held_tail (S := (fun w' : World => w'.cell? ⟨pb, poff + k * 2 + 1, none⟩ = some (.int .i64 z2) ∧ w'.cell? ⟨p, 0, none⟩ = some (.int .i64 TL) ∧ Below U.drew.heap.size U.drew w')) 8 (by kernel_rfl) (by kernel_rfl) HS.out (fun hHeld => ?_)
          refine wpAnyH_take (i := 0) (v := ?v0_29) rfl (by kernel_rfl) (by kernel_rfl) (by kernel_rfl) (fun _ _ _ h => h) (Or.inl ⟨by rfl, ?hy0_29⟩) (by assumption) ?rest0_29
          case hy0_29 => (intro w hSw; (try dsimp only at hSw); go_simp; (try with_reducible rfl))
          try simp only [Act.put, List.getElem_toArray, List.getElem_cons_zero, List.getElem_cons_succ, List.setIfInBounds_toArray, List.set_cons_zero, List.set_cons_succ]
          refine wpAnyH_take (i := 1) (v := ?v1_30) rfl (by kernel_rfl) (by kernel_rfl) (by kernel_rfl) (fun _ _ _ h => h) (Or.inl ⟨by rfl, ?hy1_30⟩) (by assumption) ?rest1_30
          case hy1_30 => (intro w hSw; (try dsimp only at hSw); go_simp; (try with_reducible rfl))
          try simp only [Act.put, List.getElem_toArray, List.getElem_cons_zero, List.getElem_cons_succ, List.setIfInBounds_toArray, List.set_cons_zero, List.set_cons_succ]
          refine wpAnyH_take (i := 2) (v := ?v2_31) rfl (by kernel_rfl) (by kernel_rfl) (by kernel_rfl) (fun _ _ _ h => h) (Or.inl ⟨by rfl, ?hy2_31⟩) (by assumption) ?rest2_31
          case hy2_31 => (intro w hSw; (try dsimp only at hSw); go_simp; (try with_reducible rfl))
          try simp only [Act.put, List.getElem_toArray, List.getElem_cons_zero, List.getElem_cons_succ, List.setIfInBounds_toArray, List.set_cons_zero, List.set_cons_succ]
          refine wpAnyH_take (i := 3) (v := ?v3_32) rfl (by kernel_rfl) (by kernel_rfl) (by kernel_rfl) (fun _ _ _ h => h) (Or.inl ⟨by rfl, ?hy3_32⟩) (by assumption) ?rest3_32
          case hy3_32 => (intro w hSw; (try dsimp only at hSw); go_simp; (try with_reducible rfl))
          try simp only [Act.put, List.getElem_toArray, List.getElem_cons_zero, List.getElem_cons_succ, List.setIfInBounds_toArray, List.set_cons_zero, List.set_cons_succ]
          refine wpAnyH_take (i := 4) (v := ?v4_33) rfl (by kernel_rfl) (by kernel_rfl) (by kernel_rfl) (fun _ _ _ h => h) (Or.inl ⟨by rfl, ?hy4_33⟩) (by assumption) ?rest4_33
          case hy4_33 => (intro w hSw; (try dsimp only at hSw); go_simp; (try with_reducible rfl))
          try simp only [Act.put, List.getElem_toArray, List.getElem_cons_zero, List.getElem_cons_succ, List.setIfInBounds_toArray, List.set_cons_zero, List.set_cons_succ]
          refine wpAnyH_take (i := 5) (v := ?v5_34) rfl (by kernel_rfl) (by kernel_rfl) (by kernel_rfl) (fun _ _ _ h => h) (Or.inl ⟨by rfl, ?hy5_34⟩) (by assumption) ?rest5_34
          case hy5_34 => (intro w hSw; (try dsimp only at hSw); go_simp; (try with_reducible rfl))
          try simp only [Act.put, List.getElem_toArray, List.getElem_cons_zero, List.getElem_cons_succ, List.setIfInBounds_toArray, List.set_cons_zero, List.set_cons_succ]
          refine wpAnyH_take (i := 6) (v := ?v6_35) rfl (by kernel_rfl) (by kernel_rfl) (by kernel_rfl) (fun _ _ _ h => h) (Or.inl ⟨by rfl, ?hy6_35⟩) (by assumption) ?rest6_35
          case hy6_35 => (intro w hSw; (try dsimp only at hSw); go_simp; (try with_reducible rfl))
          try simp only [Act.put, List.getElem_toArray, List.getElem_cons_zero, List.getElem_cons_succ, List.setIfInBounds_toArray, List.set_cons_zero, List.set_cons_succ]
          refine wpAnyH_take (i := 7) (v := ?v7_36) rfl (by kernel_rfl) (by kernel_rfl) (by kernel_rfl) (fun _ _ _ h => h) (Or.inl ⟨by rfl, ?hy7_36⟩) (by assumption) ?rest7_36
          case hy7_36 => (intro w hSw; (try dsimp only at hSw); go_simp; (try with_reducible rfl))
          try simp only [Act.put, List.getElem_toArray, List.getElem_cons_zero, List.getElem_cons_succ, List.setIfInBounds_toArray, List.set_cons_zero, List.set_cons_succ]
          refine wpAnyH_done (by kernel_rfl) ?_ _
          change wpList _ _ _ _ _ _
          simp only [List.drop_succ_cons, List.drop_zero]
          clear hHeld HS
          generalize U.drew = V at *
          have x0 := HZV.out.z0
          have x1 := HZV.out.z1
          have x2 := HZV.out.f0
          have x3 := HZV.out.f1
          go_wp2_with fail
          refine (HU.out _).mono ?_; rintro e w' ⟨rfl, rfl⟩
          have HRY := Lib.hid (HRV.out.setq (j := 1) (x := .int .i64 RH) lpq HZV.out.nv)
          have HZY := Lib.hid (HZV.out.set1 (z := RH))
          clear HRV HZV
          go_upto_region 9 with fail
          obtain ⟨Y, hY⟩ : ∃ Y, Y = V.setCell ⟨q, 1, none⟩ (.int .i64 RH) := ⟨_, rfl⟩
          rw [← hY] at HRY HZY
          rw [← hY]
          clear hY x0 x1 x2 x3 V
          have hown := HRY.out.own
          have lY := HRY.out.lr
          have ly0 := HZY.out.z0
          have ly1 := HZY.out.z1
          go_wp2_with (first | (at_builtin; refine wpList_append_own _ rfl _ _ 44 rfl (p + 1) 24 i0 (.agg #[.int .i64 0, .int .i64 0]) 2 16 Try.underlying44 hi0 hz0 hz1 hz2 rfl (by decide) _ _ _ rfl (hown.alloc _) ⟨Y.heap.size, 0, none⟩ 1 1 [.int .i64 RL, .int .i64 RH] rfl rfl (cell_two_new _ _ _ _) ?c2 ?c3 ?c4 ?c5 ?_) | go_in)
          case c2 => first | (simp [Value.oneCell']; done) | (intro u hu; simp at hu; rcases hu with rfl | rfl <;> rfl)
          case c3 => unfold maxLen; omega
          case c4 => omega
          case c5 => first | omega | (simp; omega)
          intro v' w7 hown' hgrow _
          have R7 := Lib.hid (HRY.out.put HM.out.1 HM.out.2 ((Below.refl (p + 1) Y).alloc (by omega) _) hgrow hown')
          have hz7 := HZY.out.grown hgrow
          obtain ⟨y2, y3⟩ := hz7
          clear hown' hgrow hown HRY HZY lY ly0 ly1 HM
          have y0 := R7.out.t0
          have y1 := R7.out.t1
          rw [HTL.out.1] at y0
          rw [HTL.out.2] at y1
          have l7 : b < w7.heap.size := by have := R7.out.lb; have := R7.out.lr; omega
          have HN7 := Lib.hid (HN.out w7 R7.out.sp l7)
          clear HN
          go_wp2_with fail
          refine (HN7.out).mono ?_; rintro e V7 ⟨rfl, gb⟩
          have RX := R7.out.keep gb
          have y0 := RX.t0
          have y1 := RX.t1
          rw [HTL.out.1] at y0
          rw [HTL.out.2] at y1
          have g0 := RX.u0
          have g1 := RX.u1
          have HN := Lib.hid (RX.next NL NH HNx.out.1 HNx.out.2)
          clear RX gb R7 HN7 HNx l7 y2 y3
          go_wp2
          go_roundw
          case rel => exact ⟨k + 1, by omega, by go_num, HN.out⟩
          case measure => simp [intOf]; omega

      · have hpart := h
        have HRL0 := Lib.hid (show resLo (rstT n zs ms k) (ms k) = min 1073741824 ((ms k).1 * 1073741824 / (rstT n zs ms k).2) from rfl)
        have hRL := HRL0.out
        have k1 : 0 ≤ (ms k).1 * 1073741824 ∧ (ms k).1 * 1073741824 ≤ 1152921504606846976 := by omega
        have HD := Lib.hid (fun W => Down_any ((ms k).1 * 1073741824) (rstT n zs ms k).2 W w4 (by omega) (by omega))
        have hRH : resHi (rstT n zs ms k) (ms k) = 1073741824 := by unfold resHi; rw [if_neg hpart]
        rw [hRH] at HNx HM HN r2 r3
        have f8 : decide (1048576 ≤ (rstT n zs ms k).1) = false := decide_eq_false hpart
        clear hpart h
        generalize resLo (rstT n zs ms k) (ms k) = RL at *
        generalize valLo n zs RL = VL at *
        generalize valHi n zs 1073741824 = VH at *
        generalize hTL : (rstT n zs ms k).1 = TL at *
        generalize hTH : (rstT n zs ms k).2 = TH at *
        have HTL := Lib.hid (And.intro hTL hTH)
        clear hTL hTH HRL0
        generalize TL * (65536 - VH) / 65536 = NL at *
        generalize cdiv (TH * (65536 - VL)) 65536 = NH at *
        generalize hz1' : (ms k).1 = z1 at *
        generalize hz2' : (ms k).2 = z2 at *
        have HMk := Lib.hid (And.intro hz1' hz2')
        clear hz1' hz2'
        have e2 : IntKind.i64.wrap (z1 * 1073741824) = z1 * 1073741824 := IntWalk.i64_in _ (by omega)
        generalize z1 * 1073741824 / TH = Q1 at *
        have e11 : (if Q1 < 1073741824 then Q1 else 1073741824) = RL := by rw [hRL]; split <;> omega
        have e12 : min 1073741824 Q1 = RL := hRL.symm
        clear hRL hRH k1 w1 w2 w3 w4 m1 m2 m3 r1 r2 r3
        go_upto_region 6 with fail
        have HS := Lib.hid (show (fun w' : World => w'.cell? ⟨pb, poff + k * 2, none⟩ = some (.int .i64 z1) ∧ w'.cell? ⟨p, 1, none⟩ = some (.int .i64 TH) ∧ Below wr.drew.heap.size wr.drew w') wr.drew from ⟨c0, t1, Below.refl _ _⟩)
        clear c0 c1 t0 t1
        refine wp_region_held_tail (S := (fun w' : World => w'.cell? ⟨pb, poff + k * 2, none⟩ = some (.int .i64 z1) ∧ w'.cell? ⟨p, 1, none⟩ = some (.int .i64 TH) ∧ Below wr.drew.heap.size wr.drew w')) 12 (by kernel_rfl) (by kernel_rfl) HS.out (fun hHeld => ?_)
        refine wpAnyH_take (i := 0) (v := ?v0_37) rfl (by kernel_rfl) (by kernel_rfl) (by kernel_rfl) (fun _ _ _ h => h) (Or.inl ⟨by rfl, ?hy0_37⟩) (by assumption) ?rest0_37
        case hy0_37 => (intro w hSw; (try dsimp only at hSw); go_simp; (try with_reducible rfl))
        try simp only [Act.put, List.getElem_toArray, List.getElem_cons_zero, List.getElem_cons_succ, List.setIfInBounds_toArray, List.set_cons_zero, List.set_cons_succ]
        refine wpAnyH_take (i := 1) (v := ?v1_38) rfl (by kernel_rfl) (by kernel_rfl) (by kernel_rfl) (fun _ _ _ h => h) (Or.inl ⟨by rfl, ?hy1_38⟩) (by assumption) ?rest1_38
        case hy1_38 => (intro w hSw; (try dsimp only at hSw); go_simp; (try with_reducible rfl))
        try simp only [Act.put, List.getElem_toArray, List.getElem_cons_zero, List.getElem_cons_succ, List.setIfInBounds_toArray, List.set_cons_zero, List.set_cons_succ]
        refine wpAnyH_take (i := 2) (v := ?v2_39) rfl (by kernel_rfl) (by kernel_rfl) (by kernel_rfl) (fun _ _ _ h => h) (Or.inl ⟨by rfl, ?hy2_39⟩) (by assumption) ?rest2_39
        case hy2_39 => (intro w hSw; (try dsimp only at hSw); go_simp; (try with_reducible rfl))
        try simp only [Act.put, List.getElem_toArray, List.getElem_cons_zero, List.getElem_cons_succ, List.setIfInBounds_toArray, List.set_cons_zero, List.set_cons_succ]
        refine wpAnyH_take (i := 3) (v := ?v3_40) rfl (by kernel_rfl) (by kernel_rfl) (by kernel_rfl) (fun _ _ _ h => h) (Or.inl ⟨by rfl, ?hy3_40⟩) (by assumption) ?rest3_40
        case hy3_40 => (intro w hSw; (try dsimp only at hSw); go_simp; (try with_reducible rfl))
        try simp only [Act.put, List.getElem_toArray, List.getElem_cons_zero, List.getElem_cons_succ, List.setIfInBounds_toArray, List.set_cons_zero, List.set_cons_succ]
        refine wpAnyH_take (i := 4) (v := ?v4_41) rfl (by kernel_rfl) (by kernel_rfl) (by kernel_rfl) (fun _ _ _ h => h) (Or.inl ⟨by rfl, ?hy4_41⟩) (by assumption) ?rest4_41
        case hy4_41 => (intro w hSw; (try dsimp only at hSw); go_simp; (try with_reducible rfl))
        try simp only [Act.put, List.getElem_toArray, List.getElem_cons_zero, List.getElem_cons_succ, List.setIfInBounds_toArray, List.set_cons_zero, List.set_cons_succ]
        refine wpAnyH_take (i := 5) (v := ?v5_42) rfl (by kernel_rfl) (by kernel_rfl) (by kernel_rfl) (fun _ _ _ h => h) (Or.inl ⟨by rfl, ?hy5_42⟩) (by assumption) ?rest5_42
        case hy5_42 => (intro w hSw; (try dsimp only at hSw); go_simp; (try with_reducible rfl))
        try simp only [Act.put, List.getElem_toArray, List.getElem_cons_zero, List.getElem_cons_succ, List.setIfInBounds_toArray, List.set_cons_zero, List.set_cons_succ]
        refine wpAnyH_take (i := 6) (v := ?v6_43) rfl (by kernel_rfl) (by kernel_rfl) (by kernel_rfl) (fun _ _ _ h => h) (Or.inl ⟨by rfl, ?hy6_43⟩) (by assumption) ?rest6_43
        case hy6_43 => (intro w hSw; (try dsimp only at hSw); go_simp; (try with_reducible rfl))
        try simp only [Act.put, List.getElem_toArray, List.getElem_cons_zero, List.getElem_cons_succ, List.setIfInBounds_toArray, List.set_cons_zero, List.set_cons_succ]
        refine wpAnyH_take (i := 7) (v := ?v7_44) rfl (by kernel_rfl) (by kernel_rfl) (by kernel_rfl) (fun _ _ _ h => h) (Or.inl ⟨by rfl, ?hy7_44⟩) (by assumption) ?rest7_44
        case hy7_44 => (intro w hSw; (try dsimp only at hSw); go_simp; (try with_reducible rfl))
        try simp only [Act.put, List.getElem_toArray, List.getElem_cons_zero, List.getElem_cons_succ, List.setIfInBounds_toArray, List.set_cons_zero, List.set_cons_succ]
        refine wpAnyH_ready (rs := [8, 11]) (by kernel_rfl) (by simp) ?_
        refine AllReadyH.cons rfl (fun K hK => ?_) (AllReadyH.cons rfl (fun K hK => ?_) AllReadyH.nil)
        · skip
          go_simp; go_at_call 60; refine (HD.out _).mono ?_; rintro e' w' ⟨rfl, rfl⟩
          refine hK.out _ _ hHeld (fun hHeld2 => ?_)
          clear hK K hHeld
          have hHeld := hHeld2
          clear hHeld2
          try simp only [Act.put, List.getElem_toArray, List.getElem_cons_zero, List.getElem_cons_succ, List.setIfInBounds_toArray, List.set_cons_zero, List.set_cons_succ]
          refine wpAnyH_take (i := 9) (v := ?v9_45) rfl (by kernel_rfl) (by kernel_rfl) (by kernel_rfl) (fun _ _ _ h => h) (Or.inl ⟨by rfl, ?hy9_45⟩) (by assumption) ?rest9_45
          case hy9_45 => (intro w hSw; (try dsimp only at hSw); go_simp; (try with_reducible rfl))
          try simp only [Act.put, List.getElem_toArray, List.getElem_cons_zero, List.getElem_cons_succ, List.setIfInBounds_toArray, List.set_cons_zero, List.set_cons_succ]
          refine wpAnyH_take (i := 10) (v := ?v10_46) rfl (by kernel_rfl) (by kernel_rfl) (by kernel_rfl) (fun _ _ _ h => h) (Or.inl ⟨by rfl, ?hy10_46⟩) (by assumption) ?rest10_46
          case hy10_46 => (intro w hSw; (try dsimp only at hSw); go_simp; (try with_reducible rfl))
          try simp only [Act.put, List.getElem_toArray, List.getElem_cons_zero, List.getElem_cons_succ, List.setIfInBounds_toArray, List.set_cons_zero, List.set_cons_succ]
          refine wpAnyH_ready (rs := [11]) (by kernel_rfl) (by simp) ?_
          refine AllReadyH.cons rfl (fun K hK => ?_) AllReadyH.nil
          go_simp
          refine hK.out _ _ (⟨keepW (below_alloc _ _) hHeld.1, keepW (below_alloc _ _) hHeld.2.1, hHeld.2.2.trans ((below_alloc _ _).mono hHeld.2.2.size)⟩) (fun hHeld2 => ?_)
          clear hK K hHeld
          have hHeld := hHeld2
          clear hHeld2
          try simp only [Act.put, List.getElem_toArray, List.getElem_cons_zero, List.getElem_cons_succ, List.setIfInBounds_toArray, List.set_cons_zero, List.set_cons_succ]
          refine wpAnyH_done (by kernel_rfl) ?_ _
          change wpList _ _ _ _ _ _
          simp only [List.drop_succ_cons, List.drop_zero]
          obtain ⟨d0, d1, gb⟩ := hHeld
          clear gb d0 d1
          have hown := HR.out.own
          have HZ0 := Lib.hid ((ZBox.new hown).keep (Below.refl _ _).drew)
          have HRG := Lib.hid ((HR.out.keep (below_alloc wr (.cells #[.int .i64 0, .int .i64 0] 24))).keep (Below.refl _ _).drew)
          obtain ⟨q, hq⟩ : ∃ q, q = wr.heap.size := ⟨_, rfl⟩
          have lpq : p < q := by have := HR.out.lr; omega
          obtain ⟨G, hG⟩ : ∃ G, G = (wr.alloc (.cells #[.int .i64 0, .int .i64 0] 24)).drew := ⟨_, rfl⟩
          rw [← hG] at HRG
          rw [← hG, ← hq] at HZ0
          have x0 := HZ0.out.z0
          have x1 := HZ0.out.z1
          have x2 := HZ0.out.f0
          have x3 := HZ0.out.f1
          try rw [← hG]
          try rw [← hq]
          clear hG hq hown HR
          go_upto_region 7 with fail
          try rw [← hG]
          have HRY := Lib.hid ((HRG.out.setq (j := 0) (x := .int .i64 RL) lpq HZ0.out.nv).setq (j := 1) (x := .int .i64 1073741824) lpq HZ0.out.nv)
          have HZY := Lib.hid ((HZ0.out.set0 (z := RL)).set1 (z := 1073741824))
          obtain ⟨Y, hY⟩ : ∃ Y, Y = (G.setCell ⟨q, 0, none⟩ (.int .i64 RL)).setCell ⟨q, 1, none⟩ (.int .i64 1073741824) := ⟨_, rfl⟩
          rw [← hY] at HRY HZY
          rw [← hY]
          clear hY HRG HZ0 x0 x1 x2 x3
          have t0 := HRY.out.t0
          rw [HTL.out.1] at t0
          go_upto_region 9 with fail
          clear t0
          have hown := HRY.out.own
          have lY := HRY.out.lr
          have ly0 := HZY.out.z0
          have ly1 := HZY.out.z1
          go_wp2_with (first | (at_builtin; refine wpList_append_own _ rfl _ _ 44 rfl (p + 1) 24 i0 (.agg #[.int .i64 0, .int .i64 0]) 2 16 Try.underlying44 hi0 hz0 hz1 hz2 rfl (by decide) _ _ _ rfl (hown.alloc _) ⟨Y.heap.size, 0, none⟩ 1 1 [.int .i64 RL, .int .i64 1073741824] rfl rfl (cell_two_new _ _ _ _) ?c2 ?c3 ?c4 ?c5 ?_) | go_in)
          case c2 => first | (simp [Value.oneCell']; done) | (intro u hu; simp at hu; rcases hu with rfl | rfl <;> rfl)
          case c3 => unfold maxLen; omega
          case c4 => omega
          case c5 => first | omega | (simp; omega)
          intro v' w7 hown' hgrow _
          have R7 := Lib.hid (HRY.out.put HM.out.1 HM.out.2 ((Below.refl (p + 1) Y).alloc (by omega) _) hgrow hown')
          have hz7 := HZY.out.grown hgrow
          obtain ⟨y2, y3⟩ := hz7
          clear hown' hgrow hown HRY HZY lY ly0 ly1 HM
          have y0 := R7.out.t0
          have y1 := R7.out.t1
          rw [HTL.out.1] at y0
          rw [HTL.out.2] at y1
          have l7 : b < w7.heap.size := by have := R7.out.lb; have := R7.out.lr; omega
          have HN7 := Lib.hid (HN.out w7 R7.out.sp l7)
          clear HN
          go_wp2_with fail
          refine (HN7.out).mono ?_; rintro e V7 ⟨rfl, gb⟩
          have RX := R7.out.keep gb
          have y0 := RX.t0
          have y1 := RX.t1
          rw [HTL.out.1] at y0
          rw [HTL.out.2] at y1
          have g0 := RX.u0
          have g1 := RX.u1
          have HN := Lib.hid (RX.next NL NH HNx.out.1 HNx.out.2)
          clear RX gb R7 HN7 HNx l7 y2 y3
          go_wp2
          go_roundw
          case rel => exact ⟨k + 1, by omega, by go_num, HN.out⟩
          case measure => simp [intOf]; omega
        · skip
          go_simp
          refine hK.out _ _ (⟨keepW (below_alloc _ _) hHeld.1, keepW (below_alloc _ _) hHeld.2.1, hHeld.2.2.trans ((below_alloc _ _).mono hHeld.2.2.size)⟩) (fun hHeld2 => ?_)
          clear hK K hHeld
          have hHeld := hHeld2
          clear hHeld2
          try simp only [Act.put, List.getElem_toArray, List.getElem_cons_zero, List.getElem_cons_succ, List.setIfInBounds_toArray, List.set_cons_zero, List.set_cons_succ]
          refine wpAnyH_ready (rs := [8]) (by kernel_rfl) (by simp) ?_
          refine AllReadyH.cons rfl (fun K hK => ?_) AllReadyH.nil
          go_simp; go_at_call 60; refine (HD.out _).mono ?_; rintro e' w' ⟨rfl, rfl⟩
          refine hK.out _ _ hHeld (fun hHeld2 => ?_)
          clear hK K hHeld
          have hHeld := hHeld2
          clear hHeld2
          try simp only [Act.put, List.getElem_toArray, List.getElem_cons_zero, List.getElem_cons_succ, List.setIfInBounds_toArray, List.set_cons_zero, List.set_cons_succ]
          refine wpAnyH_take (i := 9) (v := ?v9_55) rfl (by kernel_rfl) (by kernel_rfl) (by kernel_rfl) (fun _ _ _ h => h) (Or.inl ⟨by rfl, ?hy9_55⟩) (by assumption) ?rest9_55
          case hy9_55 => (intro w hSw; (try dsimp only at hSw); go_simp; (try with_reducible rfl))
          try simp only [Act.put, List.getElem_toArray, List.getElem_cons_zero, List.getElem_cons_succ, List.setIfInBounds_toArray, List.set_cons_zero, List.set_cons_succ]
          refine wpAnyH_take (i := 10) (v := ?v10_56) rfl (by kernel_rfl) (by kernel_rfl) (by kernel_rfl) (fun _ _ _ h => h) (Or.inl ⟨by rfl, ?hy10_56⟩) (by assumption) ?rest10_56
          case hy10_56 => (intro w hSw; (try dsimp only at hSw); go_simp; (try with_reducible rfl))
          try simp only [Act.put, List.getElem_toArray, List.getElem_cons_zero, List.getElem_cons_succ, List.setIfInBounds_toArray, List.set_cons_zero, List.set_cons_succ]
          refine wpAnyH_done (by kernel_rfl) ?_ _
          change wpList _ _ _ _ _ _
          simp only [List.drop_succ_cons, List.drop_zero]
          obtain ⟨d0, d1, gb⟩ := hHeld
          clear gb d0 d1
          have hown := HR.out.own
          have HZ0 := Lib.hid ((ZBox.new hown).keep (Below.refl _ _).drew)
          have HRG := Lib.hid ((HR.out.keep (below_alloc wr (.cells #[.int .i64 0, .int .i64 0] 24))).keep (Below.refl _ _).drew)
          obtain ⟨q, hq⟩ : ∃ q, q = wr.heap.size := ⟨_, rfl⟩
          have lpq : p < q := by have := HR.out.lr; omega
          obtain ⟨G, hG⟩ : ∃ G, G = (wr.alloc (.cells #[.int .i64 0, .int .i64 0] 24)).drew := ⟨_, rfl⟩
          rw [← hG] at HRG
          rw [← hG, ← hq] at HZ0
          have x0 := HZ0.out.z0
          have x1 := HZ0.out.z1
          have x2 := HZ0.out.f0
          have x3 := HZ0.out.f1
          try rw [← hG]
          try rw [← hq]
          clear hG hq hown HR
          go_upto_region 7 with fail
          try rw [← hG]
          have HRY := Lib.hid ((HRG.out.setq (j := 0) (x := .int .i64 RL) lpq HZ0.out.nv).setq (j := 1) (x := .int .i64 1073741824) lpq HZ0.out.nv)
          have HZY := Lib.hid ((HZ0.out.set0 (z := RL)).set1 (z := 1073741824))
          obtain ⟨Y, hY⟩ : ∃ Y, Y = (G.setCell ⟨q, 0, none⟩ (.int .i64 RL)).setCell ⟨q, 1, none⟩ (.int .i64 1073741824) := ⟨_, rfl⟩
          rw [← hY] at HRY HZY
          rw [← hY]
          clear hY HRG HZ0 x0 x1 x2 x3
          have t0 := HRY.out.t0
          rw [HTL.out.1] at t0
          go_upto_region 9 with fail
          clear t0
          have hown := HRY.out.own
          have lY := HRY.out.lr
          have ly0 := HZY.out.z0
          have ly1 := HZY.out.z1
          go_wp2_with (first | (at_builtin; refine wpList_append_own _ rfl _ _ 44 rfl (p + 1) 24 i0 (.agg #[.int .i64 0, .int .i64 0]) 2 16 Try.underlying44 hi0 hz0 hz1 hz2 rfl (by decide) _ _ _ rfl (hown.alloc _) ⟨Y.heap.size, 0, none⟩ 1 1 [.int .i64 RL, .int .i64 1073741824] rfl rfl (cell_two_new _ _ _ _) ?c2 ?c3 ?c4 ?c5 ?_) | go_in)
          case c2 => first | (simp [Value.oneCell']; done) | (intro u hu; simp at hu; rcases hu with rfl | rfl <;> rfl)
          case c3 => unfold maxLen; omega
          case c4 => omega
          case c5 => first | omega | (simp; omega)
          intro v' w7 hown' hgrow _
          have R7 := Lib.hid (HRY.out.put HM.out.1 HM.out.2 ((Below.refl (p + 1) Y).alloc (by omega) _) hgrow hown')
          have hz7 := HZY.out.grown hgrow
          obtain ⟨y2, y3⟩ := hz7
          clear hown' hgrow hown HRY HZY lY ly0 ly1 HM
          have y0 := R7.out.t0
          have y1 := R7.out.t1
          rw [HTL.out.1] at y0
          rw [HTL.out.2] at y1
          have l7 : b < w7.heap.size := by have := R7.out.lb; have := R7.out.lr; omega
          have HN7 := Lib.hid (HN.out w7 R7.out.sp l7)
          clear HN
          go_wp2_with fail
          refine (HN7.out).mono ?_; rintro e V7 ⟨rfl, gb⟩
          have RX := R7.out.keep gb
          have y0 := RX.t0
          have y1 := RX.t1
          rw [HTL.out.1] at y0
          rw [HTL.out.2] at y1
          have g0 := RX.u0
          have g1 := RX.u1
          have HN := Lib.hid (RX.next NL NH HNx.out.1 HNx.out.2)
          clear RX gb R7 HN7 HNx l7 y2 y3
          go_wp2
          go_roundw
          case rel => exact ⟨k + 1, by omega, by go_num, HN.out⟩
          case measure => simp [intOf]; omega
    · obtain rfl : m = k := by omega
      obtain ⟨r, cp, rfl, hsl⟩ := own_spans (zs := rstOf n zs ms) hR.own hR.nil
      have HF := Lib.hid hsl
      have hbw := Lib.hid hR.bel
      clear hsl hR HR
      go_wp2
      go_ret
      exact ⟨_, _, rfl, HF.out, hbw.out⟩
set_option maxHeartbeats 800000 in
theorem refrestore_nil (a pa : Option Addr) (n cap pc : Nat) (zs ms : Nat → Int × Int) (w : World) :
    Calls Try.prog 65 #[.slice a n cap, .slice pa 0 pc] w fun e w' => ∃ a cp, e = .returned (.slice a 0 cp) ∧ SliceIs w' a 0 cp (rstOf n zs ms) ∧ Below w.heap.size w w' := by
  have bA := Lib.hid (below_alloc w (.cells #[.int .i64 1073741824, .int .i64 1073741824] 24))
  obtain ⟨A, hA⟩ : ∃ A, A = w.alloc (.cells #[.int .i64 1073741824, .int .i64 1073741824] 24) := ⟨_, rfl⟩
  rw [← hA] at bA
  go_enter Try.func65, Try.ntmps65
  go_wp2
  try rw [← hA]
  clear hA
  go_loopw [6, 7] (fun v i wr => v = .slice none 0 0 ∧ i = .int .i64 0 ∧ Below w.heap.size w wr) (fun _ i _ => 0)
  case atStart => exact ⟨rfl, rfl, bA.out⟩
  case round =>
    obtain ⟨rfl, rfl, hbw⟩ := hrel
    clear bA
    go_wp2
    go_ret
    exact ⟨none, 0, rfl, .inl rfl, hbw⟩

end Go.Proofs.Ytdmbkhmhaininaa
