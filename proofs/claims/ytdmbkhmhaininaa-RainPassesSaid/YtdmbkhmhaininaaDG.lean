/-
  The reference's Pass.
-/
import Derived.Test.YtdmbkhmhaininaaDE
import Derived.Test.YtdmbkhmhaininaaP
import Derived.Test.YtdmbkhmhaininaaG
import Derived.Deep.Cut
namespace Go.Proofs.Ytdmbkhmhaininaa
open Go.RowKit
set_option linter.unusedVariables false
set_option linter.unusedSimpArgs false

/-- what the loop over the gates keeps, in the reference -/
structure QRel (w wr : World) (b off n : Nat) (zs : Nat → Int × Int) (pb poff m : Nat) (ps : Nat → Int) (p k : Nat) (v : Value) : Prop where
  sp : SpansAt wr b off n zs
  pow : PowAt wr pb poff m ps
  own : wr.ownsRow (p + 1) 24 2 v k (spv (fun j => (mesOf n zs ps j).1) (fun j => (mesOf n zs ps j).2) k)
  nil : k = 0 → v = .slice none 0 0
  t0 : wr.cell? ⟨p, 0, none⟩ = some (.int .i64 (pasLo n zs ps k))
  t1 : wr.cell? ⟨p, 1, none⟩ = some (.int .i64 (pasHi n zs ps k))
  u0 : wr.frozen? ⟨p, 0, none⟩ = false
  u1 : wr.frozen? ⟨p, 1, none⟩ = false
  lb : b < p
  lpb : pb < p
  lr : p < wr.heap.size
  lw : w.heap.size ≤ p
  bel : Below w.heap.size w wr
/-- the same, once a measure is appended -/
structure QMid (w wr : World) (b off n : Nat) (zs : Nat → Int × Int) (pb poff m : Nat) (ps : Nat → Int) (p k : Nat) (v : Value) : Prop where
  sp : SpansAt wr b off n zs
  pow : PowAt wr pb poff m ps
  own : wr.ownsRow (p + 1) 24 2 v (k + 1) (spv (fun j => (mesOf n zs ps j).1) (fun j => (mesOf n zs ps j).2) (k + 1))
  t0 : wr.cell? ⟨p, 0, none⟩ = some (.int .i64 (pasLo n zs ps k))
  t1 : wr.cell? ⟨p, 1, none⟩ = some (.int .i64 (pasHi n zs ps k))
  u0 : wr.frozen? ⟨p, 0, none⟩ = false
  u1 : wr.frozen? ⟨p, 1, none⟩ = false
  lb : b < p
  lpb : pb < p
  lr : p < wr.heap.size
  lw : w.heap.size ≤ p
  bel : Below w.heap.size w wr
theorem QRel.keep {w wr : World} {b off n : Nat} {zs : Nat → Int × Int} {pb poff m : Nat} {ps : Nat → Int} {p k : Nat} {v : Value} {w1 : World} (R : QRel w wr b off n zs pb poff m ps p k v) (hb : Below wr.heap.size wr w1) : QRel w w1 b off n zs pb poff m ps p k v := by
  have l1 := R.lr
  have l2 := R.lpb
  have l3 := R.lb
  exact ⟨R.sp.keep hb (by omega), R.pow.keep hb (by omega), owns_keep R.own hb, R.nil, keepB hb (by omega) R.t0, keepB hb (by omega) R.t1, keepF hb (by omega) R.u0, keepF hb (by omega) R.u1, R.lb, R.lpb, Nat.lt_of_lt_of_le R.lr hb.size, R.lw, R.bel.trans (hb.mono R.bel.size)⟩
theorem QMid.keep {w wr : World} {b off n : Nat} {zs : Nat → Int × Int} {pb poff m : Nat} {ps : Nat → Int} {p k : Nat} {v : Value} {w1 : World} (R : QMid w wr b off n zs pb poff m ps p k v) (hb : Below wr.heap.size wr w1) : QMid w w1 b off n zs pb poff m ps p k v := by
  have l1 := R.lr
  have l2 := R.lpb
  have l3 := R.lb
  exact ⟨R.sp.keep hb (by omega), R.pow.keep hb (by omega), owns_keep R.own hb, keepB hb (by omega) R.t0, keepB hb (by omega) R.t1, keepF hb (by omega) R.u0, keepF hb (by omega) R.u1, R.lb, R.lpb, Nat.lt_of_lt_of_le R.lr hb.size, R.lw, R.bel.trans (hb.mono R.bel.size)⟩
theorem QRel.put {w wr : World} {b off n : Nat} {zs : Nat → Int × Int} {pb poff m : Nat} {ps : Nat → Int} {p k : Nat} {v : Value} {w1 : World} {v' : Value} {x y : Int} {W1 : World} (R : QRel w wr b off n zs pb poff m ps p k v) (hx : (mesOf n zs ps k).1 = x) (hy : (mesOf n zs ps k).2 = y)
    (hW : Below (p + 1) wr W1) (hg : W1.grownBy w1 v.ownBlock) (ho : w1.ownsRow (p + 1) 24 2 v' (k + 1) (spv (fun j => (mesOf n zs ps j).1) (fun j => (mesOf n zs ps j).2) k ++ [.int .i64 x, .int .i64 y])) : QMid w w1 b off n zs pb poff m ps p k v' := by
  have l1 := R.lr
  have l2 := R.lpb
  have l3 := R.lb
  have l4 := R.lw
  have hb : Below (p + 1) wr w1 := Below.grown hW hg (by have := hW.size; omega) (fun k hk => (R.own.lt k hk).1)
  subst hx hy
  exact ⟨R.sp.keep hb (by omega), R.pow.keep hb (by omega), ho, keepB hb (by omega) R.t0, keepB hb (by omega) R.t1, keepF hb (by omega) R.u0, keepF hb (by omega) R.u1, R.lb, R.lpb, Nat.lt_of_lt_of_le R.lr hb.size, R.lw, R.bel.trans (hb.mono (by omega))⟩
theorem row_far {w : World} {base T size n q j : Nat} {v x : Value} {xs : List Value} (h : w.ownsRow base T size v n xs) (hq : q < base) : (w.setCell ⟨q, j, none⟩ x).ownsRow base T size v n xs := by
  refine ⟨h.1, ?_⟩
  rcases h.2 with hn | ⟨g, cap, cur, rfl, h1, h2, rest⟩
  · exact .inl hn
  · refine .inr ⟨g, cap, cur, rfl, h1, ?_, rest⟩
    have e : (w.setCell ⟨q, j, none⟩ x).heap[g]? = w.heap[g]? := by
      unfold World.setCell
      simp only [Array.getElem?_modify]
      rw [if_neg (by omega)]
    rw [e]; exact h2
theorem QMid.next {w wr : World} {b off n : Nat} {zs : Nat → Int × Int} {pb poff m : Nat} {ps : Nat → Int} {p k : Nat} {v : Value} (R : QMid w wr b off n zs pb poff m ps p k v) (x y : Int) (hx : pasLo n zs ps (k + 1) = x) (hy : pasHi n zs ps (k + 1) = y) :
    QRel w ((wr.setCell ⟨p, 0, none⟩ (.int .i64 x)).setCell ⟨p, 1, none⟩ (.int .i64 y)) b off n zs pb poff m ps p (k + 1) v := by
  have l1 := R.lr
  have l2 := R.lpb
  have l3 := R.lb
  have l4 := R.lw
  have hB : Below p wr ((wr.setCell ⟨p, 0, none⟩ (.int .i64 x)).setCell ⟨p, 1, none⟩ (.int .i64 y)) := ((Below.refl p wr).setCell (p := ⟨p, 0, none⟩) (Nat.le_refl _) _).setCell (p := ⟨p, 1, none⟩) (Nat.le_refl _) _
  refine ⟨R.sp.keep hB (by omega), R.pow.keep hB (by omega), row_far (row_far R.own (by omega)) (by omega), fun h => absurd h (by omega), ?_, ?_, by simp; exact R.u0, by simp; exact R.u1, l3, l2, by simp; exact l1, l4, R.bel.trans (hB.mono (by omega))⟩
  · rw [hx]; exact set_other (by decide) (set_same R.t0)
  · rw [hy]; exact set_same (set_other (by decide) R.t1)

theorem rpass_start {w X : World} {b off n : Nat} {zs : Nat → Int × Int} {pb poff m : Nat} {ps : Nat → Int} (hX : Below w.heap.size w X) (hs : SpansAt w b off n zs) (hb : b < w.heap.size) (hp : PowAt w pb poff m ps) (hpb : pb < w.heap.size) :
    QRel w (X.alloc (.cells #[.int .i64 1073741824, .int .i64 1073741824] 24)) b off n zs pb poff m ps X.heap.size 0 (.slice none 0 0) := by
  have z1 := hX.size
  have bA := below_alloc X (.cells #[.int .i64 1073741824, .int .i64 1073741824] 24)
  have b2 := hX.trans (bA.mono z1)
  exact ⟨hs.keep b2 hb, hp.keep b2 hpb, World.ownsRow_nil _ _ _ _, fun _ => rfl, alloc_new rfl rfl, alloc_new rfl rfl, alloc_newF rfl, alloc_newF rfl, by omega, by omega, by rw [World.size_alloc]; omega, z1, b2⟩

set_option maxRecDepth 100000 in
set_option maxHeartbeats 6400000 in
theorem refPass_some (b off n cap : Nat) (zs : Nat → Int × Int) (pb poff m pc : Nat) (ps : Nat → Int) (w : World) (hm : m ≤ 200) (hT0 : tabC n zs 32768 = 0) (hs : SpansAt w b off n zs) (hb : b < w.heap.size) (hp : PowAt w pb poff m ps) (hpb : pb < w.heap.size) :
    Calls Try.prog 24 #[.slice (some ⟨b, off, none⟩) n cap, .slice (some ⟨pb, poff, none⟩) m pc] w (SpTup m (mesOf n zs ps) (firstE (powE ps) m) w) := by
  have hT := tab_ok hT0
  have HC := Lib.hid (refCheckTable_any (some ⟨b, off, none⟩) n cap zs 32768 w (.inr ⟨b, off, rfl, hb, hs⟩))
  rw [hT0] at HC
  have d : decide (200 < (m : Int)) = false := decide_eq_false (by omega)
  have HS0 := Lib.hid (And.intro hs hp)
  obtain ⟨i0, hi0, hz0, hz1, hz2⟩ := info_parts info24
  clear hs hp hT0
  go_enter Try.func24, Try.ntmps24
  go_wp2_with fail
  refine HC.out.mono ?_; rintro e X ⟨rfl, hbX⟩
  have HRel := Lib.hid (rpass_start hbX HS0.out.1 hb HS0.out.2 hpb)
  clear hbX
  go_wp2
  obtain ⟨p, hp0⟩ : ∃ p, p = X.heap.size := ⟨_, rfl⟩
  obtain ⟨A, hA⟩ : ∃ A, A = X.alloc (.cells #[.int .i64 1073741824, .int .i64 1073741824] 24) := ⟨_, rfl⟩
  rw [← hA, ← hp0] at HRel
  try rw [← hA]
  try rw [← hp0]
  clear hA hp0 HS0 HC X
  go_loopw [8, 9] (fun v i wr => ∃ k : Nat, k ≤ m ∧ i = .int .i64 k ∧ QRel w wr b off n zs pb poff m ps p k v ∧ firstE (powE ps) k = 0) (fun _ i _ => m - (intOf i).toNat)
  case atStart => exact ⟨0, Nat.zero_le _, rfl, HRel.out, rfl⟩
  case round =>
    clear HRel
    obtain ⟨k, hk, rfl, hR, h0⟩ := hrel
    have H0 := Lib.hid h0
    clear h0
    have HR := Lib.hid hR
    by_cases hlt : k < m
    · have c0 := hR.pow k hlt
      have q0 : (0 : Int) ≤ (k : Int) := by omega
      have q1 : (k : Int) < (m : Int) := by omega
      rcases (Bool.eq_false_or_eq_true (inB (ps k) 0 1073741824)).symm with hc | hc
      · have HE := Lib.hid (powE_bad hlt H0.out hc)
        have HZ : Hid (∀ W : World, Calls Try.prog 51 #[.int .i64 (ps k), .int .i64 0, .int .i64 1073741824] W fun e w' => e = .returned (.bool false) ∧ W = w') := Lib.hid fun W => by rw [← hc]; exact refIn_any _ _ _ W
        clear hc hR
        generalize ps k = z at c0 HZ
        go_wp2_with fail
        refine (HZ.out _).mono ?_; rintro e w' ⟨rfl, rfl⟩
        go_wp2
        go_ret2
        rw [HE.out]
        exact SpTup.err (by decide) HR.out.bel
      · have HE := Lib.hid (powE_ok H0.out hc)
        have HZ : Hid (∀ W : World, Calls Try.prog 51 #[.int .i64 (ps k), .int .i64 0, .int .i64 1073741824] W fun e w' => e = .returned (.bool true) ∧ W = w') := Lib.hid fun W => by rw [← hc]; exact refIn_any _ _ _ W
        have HA := powE_all HE.out
        obtain ⟨w1, w2, w3, w4⟩ := pas_bd hT (p := ps) k (fun j hj => (HA j (by omega)).1)
        obtain ⟨z1, z2⟩ := HA k (by omega)
        obtain ⟨m1, m2, m3, m4, _, _, _⟩ := mes_bd z1 z2 w1 w2 w3
        have HD := Lib.hid (fun W => Down_any (ps k * pasLo n zs ps k) 1073741824 W (by decide) (by omega) (by omega))
        have HU := Lib.hid (fun W => Up_any (ps k * pasHi n zs ps k) 1073741824 W (by decide) (by omega) (by omega))
        have HM := Lib.hid (show (mesOf n zs ps k).1 = ps k * pasLo n zs ps k / 1073741824 ∧ (mesOf n zs ps k).2 = cdiv (ps k * pasHi n zs ps k) 1073741824 from ⟨rfl, rfl⟩)
        have HN := Lib.hid (fun (W : World) (h : SpansAt W b off n zs) (h2 : b < W.heap.size) => next_any b off n cap zs (pasLo n zs ps k) (pasHi n zs ps k) (ps k) (ps k) W hT w1 w2 w3 z1 z2 z1 z2 h h2)
        have HNx := Lib.hid (show pasLo n zs ps (k + 1) = pasLo n zs ps k * (65536 - valHi n zs (ps k)) / 65536 ∧ pasHi n zs ps (k + 1) = cdiv (pasHi n zs ps k * (65536 - valLo n zs (ps k))) 65536 from ⟨rfl, rfl⟩)
        have t0 := hR.t0
        have t1 := hR.t1
        have lp := hR.lr
        clear hc hR HA
        generalize pasLo n zs ps k * (65536 - valHi n zs (ps k)) / 65536 = NL at *
        generalize cdiv (pasHi n zs ps k * (65536 - valLo n zs (ps k))) 65536 = NH at *
        generalize hTL : pasLo n zs ps k = TL at *
        generalize hTH : pasHi n zs ps k = TH at *
        have HTL := Lib.hid (And.intro hTL hTH)
        clear hTL hTH
        generalize ps k = z at *
        have e1 : IntKind.i64.wrap (z * TL) = z * TL := IntWalk.i64_in _ (by omega)
        have e2 : IntKind.i64.wrap (z * TH) = z * TH := IntWalk.i64_in _ (by omega)
        generalize z * TL / 1073741824 = ML at *
        generalize cdiv (z * TH) 1073741824 = MH at *
        clear w1 w2 w3 w4 z1 z2 m1 m2 m3 m4
        go_wp2_with fail
        refine (HZ.out _).mono ?_; rintro e w' ⟨rfl, rfl⟩
        go_upto_region 14 with fail
        have HS := Lib.hid (show (fun w' : World => w'.cell? ⟨p, 0, none⟩ = some (.int .i64 TL) ∧ w'.cell? ⟨p, 1, none⟩ = some (.int .i64 TH) ∧ Below wr.drew.heap.size wr.drew w') wr.drew from ⟨t0, t1, Below.refl _ _⟩)
        clear t0 t1 HZ c0
        refine wp_region_held_tail (S := (fun w' : World => w'.cell? ⟨p, 0, none⟩ = some (.int .i64 TL) ∧ w'.cell? ⟨p, 1, none⟩ = some (.int .i64 TH) ∧ Below wr.drew.heap.size wr.drew w')) 13 (by kernel_rfl) (by kernel_rfl) HS.out (fun hHeld => ?_)
        refine wpAnyH_take (i := 0) (v := ?v0_1) rfl (by kernel_rfl) (by kernel_rfl) (by kernel_rfl) (fun _ _ _ h => h) (Or.inl ⟨by rfl, ?hy0_1⟩) (by assumption) ?rest0_1
        case hy0_1 => (intro w hSw; (try dsimp only at hSw); go_simp; (try with_reducible rfl))
        try simp only [Act.put, List.getElem_toArray, List.getElem_cons_zero, List.getElem_cons_succ, List.setIfInBounds_toArray, List.set_cons_zero, List.set_cons_succ]
        refine wpAnyH_take (i := 1) (v := ?v1_2) rfl (by kernel_rfl) (by kernel_rfl) (by kernel_rfl) (fun _ _ _ h => h) (Or.inl ⟨by rfl, ?hy1_2⟩) (by assumption) ?rest1_2
        case hy1_2 => (intro w hSw; (try dsimp only at hSw); go_simp; (try with_reducible rfl))
        try simp only [Act.put, List.getElem_toArray, List.getElem_cons_zero, List.getElem_cons_succ, List.setIfInBounds_toArray, List.set_cons_zero, List.set_cons_succ]
        refine wpAnyH_take (i := 2) (v := ?v2_3) rfl (by kernel_rfl) (by kernel_rfl) (by kernel_rfl) (fun _ _ _ h => h) (Or.inl ⟨by rfl, ?hy2_3⟩) (by assumption) ?rest2_3
        case hy2_3 => (intro w hSw; (try dsimp only at hSw); go_simp; (try with_reducible rfl))
        try simp only [Act.put, List.getElem_toArray, List.getElem_cons_zero, List.getElem_cons_succ, List.setIfInBounds_toArray, List.set_cons_zero, List.set_cons_succ]
        refine wpAnyH_take (i := 3) (v := ?v3_4) rfl (by kernel_rfl) (by kernel_rfl) (by kernel_rfl) (fun _ _ _ h => h) (Or.inl ⟨by rfl, ?hy3_4⟩) (by assumption) ?rest3_4
        case hy3_4 => (intro w hSw; (try dsimp only at hSw); go_simp; (try with_reducible rfl))
        try simp only [Act.put, List.getElem_toArray, List.getElem_cons_zero, List.getElem_cons_succ, List.setIfInBounds_toArray, List.set_cons_zero, List.set_cons_succ]
        refine wpAnyH_take (i := 4) (v := ?v4_5) rfl (by kernel_rfl) (by kernel_rfl) (by kernel_rfl) (fun _ _ _ h => h) (Or.inl ⟨by rfl, ?hy4_5⟩) (by assumption) ?rest4_5
        case hy4_5 => (intro w hSw; (try dsimp only at hSw); go_simp; (try with_reducible rfl))
        try simp only [Act.put, List.getElem_toArray, List.getElem_cons_zero, List.getElem_cons_succ, List.setIfInBounds_toArray, List.set_cons_zero, List.set_cons_succ]
        refine wpAnyH_take (i := 6) (v := ?v6_6) rfl (by kernel_rfl) (by kernel_rfl) (by kernel_rfl) (fun _ _ _ h => h) (Or.inl ⟨by rfl, ?hy6_6⟩) (by assumption) ?rest6_6
        case hy6_6 => (intro w hSw; (try dsimp only at hSw); go_simp; (try with_reducible rfl))
        try simp only [Act.put, List.getElem_toArray, List.getElem_cons_zero, List.getElem_cons_succ, List.setIfInBounds_toArray, List.set_cons_zero, List.set_cons_succ]
        refine wpAnyH_take (i := 7) (v := ?v7_7) rfl (by kernel_rfl) (by kernel_rfl) (by kernel_rfl) (fun _ _ _ h => h) (Or.inl ⟨by rfl, ?hy7_7⟩) (by assumption) ?rest7_7
        case hy7_7 => (intro w hSw; (try dsimp only at hSw); go_simp; (try with_reducible rfl))
        try simp only [Act.put, List.getElem_toArray, List.getElem_cons_zero, List.getElem_cons_succ, List.setIfInBounds_toArray, List.set_cons_zero, List.set_cons_succ]
        refine wpAnyH_take (i := 8) (v := ?v8_8) rfl (by kernel_rfl) (by kernel_rfl) (by kernel_rfl) (fun _ _ _ h => h) (Or.inl ⟨by rfl, ?hy8_8⟩) (by assumption) ?rest8_8
        case hy8_8 => (intro w hSw; (try dsimp only at hSw); go_simp; (try with_reducible rfl))
        try simp only [Act.put, List.getElem_toArray, List.getElem_cons_zero, List.getElem_cons_succ, List.setIfInBounds_toArray, List.set_cons_zero, List.set_cons_succ]
        refine wpAnyH_take (i := 9) (v := ?v9_9) rfl (by kernel_rfl) (by kernel_rfl) (by kernel_rfl) (fun _ _ _ h => h) (Or.inl ⟨by rfl, ?hy9_9⟩) (by assumption) ?rest9_9
        case hy9_9 => (intro w hSw; (try dsimp only at hSw); go_simp; (try with_reducible rfl))
        try simp only [Act.put, List.getElem_toArray, List.getElem_cons_zero, List.getElem_cons_succ, List.setIfInBounds_toArray, List.set_cons_zero, List.set_cons_succ]
        refine wpAnyH_ready (rs := [5]) (by kernel_rfl) (by simp) ?_
        refine AllReadyH.cons rfl (fun K hK => ?_) AllReadyH.nil
        go_simp; go_at_call 60; refine (HD.out _).mono ?_; rintro e' w' ⟨rfl, rfl⟩
        refine hK.out _ _ hHeld (fun hHeld2 => ?_)
        clear hK K hHeld
        have hHeld := hHeld2
        clear hHeld2
        try simp only [Act.put, List.getElem_toArray, List.getElem_cons_zero, List.getElem_cons_succ, List.setIfInBounds_toArray, List.set_cons_zero, List.set_cons_succ]
        refine wpAnyH_ready (rs := [10]) (by kernel_rfl) (by simp) ?_
        refine AllReadyH.cons rfl (fun K hK => ?_) AllReadyH.nil
        go_simp; go_at_call 61; refine (HU.out _).mono ?_; rintro e' w' ⟨rfl, rfl⟩
        refine hK.out _ _ hHeld (fun hHeld2 => ?_)
        clear hK K hHeld
        have hHeld := hHeld2
        clear hHeld2
        try simp only [Act.put, List.getElem_toArray, List.getElem_cons_zero, List.getElem_cons_succ, List.setIfInBounds_toArray, List.set_cons_zero, List.set_cons_succ]
        refine wpAnyH_take (i := 11) (v := ?v11_10) rfl (by kernel_rfl) (by kernel_rfl) (by kernel_rfl) (fun _ _ _ h => h) (Or.inl ⟨by rfl, ?hy11_10⟩) (by assumption) ?rest11_10
        case hy11_10 => (intro w hSw; (try dsimp only at hSw); go_simp; (try with_reducible rfl))
        try simp only [Act.put, List.getElem_toArray, List.getElem_cons_zero, List.getElem_cons_succ, List.setIfInBounds_toArray, List.set_cons_zero, List.set_cons_succ]
        refine wpAnyH_ready (rs := [12]) (by kernel_rfl) (by simp) ?_
        refine AllReadyH.cons rfl (fun K hK => ?_) AllReadyH.nil
        go_simp
        refine hK.out _ _ (⟨keepW (below_alloc _ _) hHeld.1, keepW (below_alloc _ _) hHeld.2.1, hHeld.2.2.trans ((below_alloc _ _).mono hHeld.2.2.size)⟩) (fun hHeld2 => ?_)
        clear hK K hHeld
        have hHeld := hHeld2
        clear hHeld2
        try simp only [Act.put, List.getElem_toArray, List.getElem_cons_zero, List.getElem_cons_succ, List.setIfInBounds_toArray, List.set_cons_zero, List.set_cons_succ]
        refine wpAnyH_done (by kernel_rfl) ?_ _
        change wpList _ _ _ _ _ _
        simp only [List.drop_succ_cons, List.drop_zero]
        obtain ⟨d0, d1, gb⟩ := hHeld
        clear gb d0 d1
        have hown := HR.out.own
        have lD := HR.out.lr
        have bD := Lib.hid (((Below.refl (p + 1) wr).alloc (by omega) (.cells #[.int .i64 ML, .int .i64 MH] 24)).drew)
        go_wp2_with (first | (at_builtin; refine wpList_append_own _ rfl _ _ 44 rfl (p + 1) 24 i0 (.agg #[.int .i64 0, .int .i64 0]) 2 16 Try.underlying44 hi0 hz0 hz1 hz2 rfl (by decide) _ _ _ rfl (owns_keep (hown.alloc (.cells #[.int .i64 ML, .int .i64 MH] 24)) (Below.refl _ _).drew) ⟨wr.heap.size, 0, none⟩ 1 1 [.int .i64 ML, .int .i64 MH] rfl rfl (cell_two_new wr _ _ _) ?c2 ?c3 ?c4 ?c5 ?_) | go_in)
        case c2 => first | (simp [Value.oneCell']; done) | (intro u hu; simp at hu; rcases hu with rfl | rfl <;> rfl)
        case c3 => unfold maxLen; omega
        case c4 => omega
        case c5 => first | omega | (simp; omega)
        · intro v' w7 hown' hgrow _
          have R7 := Lib.hid (HR.out.put HM.out.1 HM.out.2 bD.out hgrow hown')
          clear hown' hgrow hown HR lD bD HD HU HS HM
          have y0 := R7.out.t0
          have y1 := R7.out.t1
          rw [HTL.out.1] at y0
          rw [HTL.out.2] at y1
          have l7 : b < w7.heap.size := by have := R7.out.lb; have := R7.out.lr; omega
          have HN7 := Lib.hid (HN.out w7 R7.out.sp l7)
          clear HN
          go_wp2_with fail
          refine (HN7.out).mono ?_; rintro e V ⟨rfl, gb⟩
          have RX := R7.out.keep gb
          have y0 := RX.t0
          have y1 := RX.t1
          rw [HTL.out.1] at y0
          rw [HTL.out.2] at y1
          have g0 := RX.u0
          have g1 := RX.u1
          have HN := Lib.hid (RX.next NL NH HNx.out.1 HNx.out.2)
          clear RX gb R7 HN7 HNx l7
          go_wp2
          go_roundw
          case rel => exact ⟨k + 1, by omega, by go_num, HN.out, HE.out⟩
          case measure => simp [intOf]; omega
    · obtain rfl : m = k := by omega
      obtain ⟨r, cp, rfl, hsl⟩ := own_spans (zs := mesOf n zs ps) hR.own hR.nil
      have HF := Lib.hid hsl
      have hbw := Lib.hid hR.bel
      clear hsl hR HR
      go_wp2
      go_ret2
      rw [H0.out]
      exact ⟨_, _, rfl, HF.out, hbw.out⟩

end Go.Proofs.Ytdmbkhmhaininaa
