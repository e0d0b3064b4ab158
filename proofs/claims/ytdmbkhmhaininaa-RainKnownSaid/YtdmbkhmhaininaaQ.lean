/-
  A record is checked.
-/
import Derived.Test.YtdmbkhmhaininaaK
import Derived.Test.YtdmbkhmhaininaaN
namespace Go.Proofs.Ytdmbkhmhaininaa
open Go.RowKit
set_option linter.unusedVariables false
set_option linter.unusedSimpArgs false

/-- the readings of a slice -/
def RecsAt (w : World) (b off n : Nat) (rs : Nat → Rc) : Prop := ∀ i, i < n → w.cell? ⟨b, off + i * 3, none⟩ = some (.int .i64 (rs i).t) ∧ w.cell? ⟨b, off + i * 3 + 1, none⟩ = some (.int .i64 (rs i).lo) ∧ w.cell? ⟨b, off + i * 3 + 2, none⟩ = some (.int .i64 (rs i).hi)
def RecsIs (w : World) (a : Option Addr) (n : Nat) (rs : Nat → Rc) : Prop := n = 0 ∨ ∃ b off, a = some ⟨b, off, none⟩ ∧ b < w.heap.size ∧ RecsAt w b off n rs
theorem RecsAt.keep {B b off n : Nat} {W w1 : World} {rs : Nat → Rc} (s : RecsAt W b off n rs) (hb : Below B W w1) (h : b < B) : RecsAt w1 b off n rs := fun i hi => ⟨keepB hb h (s i hi).1, keepB hb h (s i hi).2.1, keepB hb h (s i hi).2.2⟩
theorem RecsIs.keep {a : Option Addr} {n : Nat} {W w1 : World} {rs : Nat → Rc} (s : RecsIs W a n rs) (hb : Below W.heap.size W w1) : RecsIs w1 a n rs := by
  rcases s with h | ⟨b, off, h, hl, hs⟩
  · exact .inl h
  · exact .inr ⟨b, off, h, Nat.lt_of_lt_of_le hl hb.size, hs.keep hb hl⟩
set_option maxHeartbeats 400000 in
theorem unknownRate_any (w : World) : Calls Try.prog 114 #[] w fun e w' => e = .returned (.agg #[.int .i64 0, .int .i64 1000000]) ∧ Below w.heap.size w w' := by
  go_enter Try.func114, Try.ntmps114
  go_wp2
  exact bodyPost_ret (v := .agg #[.int .i64 0, .int .i64 1000000]) (by simp [results, Try.results114, go_sem]) rfl ⟨rfl, by repeat (first | exact Below.refl _ _ | (refine Below.alloc ?_ (by first | (simp; done) | (simp only [World.size_alloc]; omega) | (simp; omega)) _))⟩

theorem rate_boxes (w : World) (lo hi : Int) : ∃ A, A = w.alloc (.cells #[.int .i64 lo, .int .i64 hi] 24) ∧ Below w.heap.size w A ∧ A.heap.size = w.heap.size + 1 ∧ A.cell? ⟨w.heap.size, 0, none⟩ = some (.int .i64 lo) ∧ A.cell? ⟨w.heap.size, 1, none⟩ = some (.int .i64 hi) := by
  exact ⟨_, rfl, below_alloc _ _, by rw [World.size_alloc], alloc_new rfl rfl, alloc_new rfl rfl⟩

set_option maxHeartbeats 1600000 in
theorem isRate_any (lo hi : Int) (w : World) : Calls Try.prog 99 #[.agg #[.int .i64 lo, .int .i64 hi]] w fun e w' => e = .returned (.bool (spanB lo hi 0 1000000)) ∧ Below w.heap.size w w' := by
  obtain ⟨E, hE, bE, zE, c0, c1⟩ := rate_boxes w lo hi
  have HS := Lib.hid (show (fun w' : World => w'.cell? ⟨w.heap.size, 0, none⟩ = some (.int .i64 lo) ∧ w'.cell? ⟨w.heap.size, 1, none⟩ = some (.int .i64 hi) ∧ Below E.drew.heap.size E.drew w') E.drew from ⟨c0, c1, Below.refl _ _⟩)
  clear c0 c1
  go_enter Try.func99, Try.ntmps99
  go_wp2_with fail
  rw [← hE]
  clear hE
  refine wp_region_held_tail (S := (fun w' : World => w'.cell? ⟨w.heap.size, 0, none⟩ = some (.int .i64 lo) ∧ w'.cell? ⟨w.heap.size, 1, none⟩ = some (.int .i64 hi) ∧ Below E.drew.heap.size E.drew w')) 3 (by kernel_rfl) (by kernel_rfl) HS.out (fun hHeld => ?_)
  refine wpAnyH_take (i := 0) (v := ?v0_1) rfl (by kernel_rfl) (by kernel_rfl) (by kernel_rfl) (fun _ _ _ h => h) (Or.inl ⟨by rfl, ?hy0_1⟩) (by assumption) ?rest0_1
  case hy0_1 => (intro w hSw; (try dsimp only at hSw); go_simp; (try with_reducible rfl))
  try simp only [Act.put, List.getElem_toArray, List.getElem_cons_zero, List.getElem_cons_succ, List.setIfInBounds_toArray, List.set_cons_zero, List.set_cons_succ]
  refine wpAnyH_ready (rs := [1]) (by kernel_rfl) (by simp) ?_
  refine AllReadyH.cons rfl (fun K hK => ?_) AllReadyH.nil
  go_simp; go_at_call 114; refine (unknownRate_any _).mono ?_; rintro e' w' ⟨rfl, hb'⟩
  refine hK.out _ _ (⟨keepW hb' hHeld.1, keepW hb' hHeld.2.1, hHeld.2.2.trans (hb'.mono hHeld.2.2.size)⟩) (fun hHeld2 => ?_)
  clear hK K hHeld hb'
  have hHeld := hHeld2
  clear hHeld2
  try simp only [Act.put, List.getElem_toArray, List.getElem_cons_zero, List.getElem_cons_succ, List.setIfInBounds_toArray, List.set_cons_zero, List.set_cons_succ]
  refine wpAnyH_ready (rs := [2]) (by kernel_rfl) (by simp) ?_
  refine AllReadyH.cons rfl (fun K hK => ?_) AllReadyH.nil
  go_simp; go_at_call 52; refine (isWithin_any _ _ _ _ _).mono ?_; rintro e' w' ⟨rfl, hb'⟩
  refine hK.out _ _ (⟨keepW hb' hHeld.1, keepW hb' hHeld.2.1, hHeld.2.2.trans (hb'.mono hHeld.2.2.size)⟩) (fun hHeld2 => ?_)
  clear hK K hHeld hb'
  have hHeld := hHeld2
  clear hHeld2
  try simp only [Act.put, List.getElem_toArray, List.getElem_cons_zero, List.getElem_cons_succ, List.setIfInBounds_toArray, List.set_cons_zero, List.set_cons_succ]
  refine wpAnyH_done (by kernel_rfl) ?_ _
  change wpList _ _ _ _ _ _
  simp only [List.drop_succ_cons, List.drop_zero]
  have bV := bE.drew.trans (hHeld.2.2.mono bE.drew.size)
  clear hHeld HS
  go_wp2
  go_ret
  exact ⟨rfl, bV⟩
theorem recE_a {rs : Nat → Rc} {k n : Nat} (hk : k < n) (h0 : firstE (recE rs) k = 0) (h : inB (rs k).t 0 4294967296 = false) : firstE (recE rs) n = 3 := by
  have e : recE rs k = 3 := by unfold recE; rw [h]; rfl
  rw [firstE_stop hk h0 (by rw [e]; decide), e]
theorem recE_b {rs : Nat → Rc} {k n : Nat} (hk : k < n) (h0 : firstE (recE rs) k = 0) (h : inB (rs k).t 0 4294967296 = true) (h2 : spanB (rs k).lo (rs k).hi 0 1000000 = false) : firstE (recE rs) n = 3 := by
  have e : recE rs k = 3 := by unfold recE; rw [h, h2]; rfl
  rw [firstE_stop hk h0 (by rw [e]; decide), e]
theorem recE_c {rs : Nat → Rc} {k n : Nat} (hk : k < n) (h0 : firstE (recE rs) k = 0) (h : inB (rs k).t 0 4294967296 = true) (h2 : spanB (rs k).lo (rs k).hi 0 1000000 = true) (h3 : ¬ (k = 0 ∨ (rs (k - 1)).t < (rs k).t)) : firstE (recE rs) n = 12 := by
  have e : recE rs k = 12 := by unfold recE; rw [h, h2]; simp only [Bool.and_true, if_true]; rw [if_neg h3]
  rw [firstE_stop hk h0 (by rw [e]; decide), e]
theorem recE_d {rs : Nat → Rc} {k : Nat} (h0 : firstE (recE rs) k = 0) (h : inB (rs k).t 0 4294967296 = true) (h2 : spanB (rs k).lo (rs k).hi 0 1000000 = true) (h3 : k = 0 ∨ (rs (k - 1)).t < (rs k).t) : firstE (recE rs) (k + 1) = 0 := by
  have e : recE rs k = 0 := by unfold recE; rw [h, h2]; simp only [Bool.and_true, if_true]; rw [if_pos h3]
  rw [firstE_next h0, e]
theorem checkRecord_nil (a : Option Addr) (cap : Nat) (w : World) : Calls Try.prog 70 #[.slice a 0 cap] w fun e w' => e = .returned (.int .i64 18) ∧ Below w.heap.size w w' := by
  go_enter Try.func70, Try.ntmps70
  go_wp2
  go_ret
  exact ⟨rfl, Below.refl _ _⟩

set_option maxRecDepth 100000 in
set_option maxHeartbeats 6400000 in
theorem checkRecord_some (b off n cap : Nat) (rs : Nat → Rc) (w : World) (h1 : 1 ≤ n) (hl : n ≤ 1000000) (hs : RecsAt w b off n rs) (hb : b < w.heap.size) :
    Calls Try.prog 70 #[.slice (some ⟨b, off, none⟩) n cap] w fun e w' => e = .returned (.int .i64 (firstE (recE rs) n)) ∧ Below w.heap.size w w' := by
  have HS := Lib.hid hs
  clear hs
  have d1 : ((n : Int) == 0) = false := by rw [beq_eq_false_iff_ne]; omega
  go_enter Try.func70, Try.ntmps70
  go_wp2
  go_loopw [10] (fun i wr => ∃ k : Nat, k ≤ n ∧ i = .int .i64 k ∧ Below w.heap.size w wr ∧ firstE (recE rs) k = 0) (fun i _ => n - (intOf i).toNat)
  case atStart => exact ⟨0, Nat.zero_le _, rfl, Below.refl _ _, rfl⟩
  case round =>
    obtain ⟨k, hk, rfl, hbw, h0⟩ := hrel
    have H0 := Lib.hid h0
    clear h0
    by_cases hlt : k < n
    · have c0 := keepB hbw hb (HS.out k hlt).1
      have c1 := keepB hbw hb (HS.out k hlt).2.1
      have c2 := keepB hbw hb (HS.out k hlt).2.2
      have HE := Lib.hid (And.intro (recE_a hlt H0.out) (And.intro (recE_b hlt H0.out) (And.intro (recE_c hlt H0.out) (recE_d H0.out))))
      have HZ : Hid (∀ W : World, Calls Try.prog 49 #[.int .i64 (rs k).t, .int .i64 0, .int .i64 4294967296] W fun e w' => e = .returned (.bool (inB (rs k).t 0 4294967296)) ∧ W = w') := Lib.hid fun W => isIn_any _ _ _ W
      have HR : Hid (∀ W : World, Calls Try.prog 99 #[.agg #[.int .i64 (rs k).lo, .int .i64 (rs k).hi]] W fun e w' => e = .returned (.bool (spanB (rs k).lo (rs k).hi 0 1000000)) ∧ Below W.heap.size W w') := Lib.hid fun W => isRate_any _ _ W
      have HJ := Lib.hid (fun j (h : k = j + 1) => keepB hbw hb (HS.out j (by omega)).1)
      have q0 : (0 : Int) ≤ (k : Int) := by omega
      have q1 : (k : Int) < (n : Int) := by omega
      have i0 : IntKind.i64.wrap (k : Int) = (k : Int) := IntWalk.i64_in _ (by omega)
      have hbr : b < wr.heap.size := Nat.lt_of_lt_of_le hb hbw.size
      have BW := Lib.hid hbw
      have Hp : Hid (∀ j, k = j + 1 → (rs (k - 1)).t = (rs j).t) := Lib.hid (fun j h => by rw [show k - 1 = j by omega])
      generalize (rs k).t = t at *
      generalize (rs k).lo = lo at *
      generalize (rs k).hi = hi at *
      generalize (rs (k - 1)).t = tp at *
      generalize inB t 0 4294967296 = bz at *
      generalize spanB lo hi 0 1000000 = br at *
      have BA := Lib.hid (below_alloc wr (.cells #[.int .i64 t, .int .i64 lo, .int .i64 hi] 60))
      clear hbw
      cases bz
      · have HE2 := Lib.hid (HE.out.1 rfl)
        clear HE
        go_wp2_with fail
        refine (HZ.out _).mono ?_; rintro e w' ⟨rfl, rfl⟩
        go_wp2
        go_ret
        rw [HE2.out]
        exact ⟨rfl, BW.out.trans (BA.out.mono BW.out.size)⟩
      · cases br
        · have HE2 := Lib.hid (HE.out.2.1 rfl rfl)
          clear HE
          go_wp2_with fail
          refine (HZ.out _).mono ?_; rintro e w' ⟨rfl, rfl⟩
          go_wp2_with fail
          refine (HR.out _).mono ?_; rintro e X ⟨rfl, hbX⟩
          have bX := BA.out.trans (hbX.mono BA.out.size)
          have bx0 := keepB hbX (show wr.heap.size < (wr.alloc (.cells #[.int .i64 t, .int .i64 lo, .int .i64 hi] 60)).heap.size by rw [World.size_alloc]; omega) (alloc_new rfl rfl : (wr.alloc (.cells #[.int .i64 t, .int .i64 lo, .int .i64 hi] 60)).cell? ⟨wr.heap.size, 0, none⟩ = some (.int .i64 t))
          go_wp2
          go_ret
          rw [HE2.out]
          exact ⟨rfl, BW.out.trans (bX.mono BW.out.size)⟩
        · rcases Nat.eq_zero_or_pos k with hk0 | hk0
          · have y1 : decide (0 < (k : Int)) = false := decide_eq_false (by omega)
            have y1n : decide (0 < k) = false := decide_eq_false (by omega)
            have HE2 := Lib.hid (HE.out.2.2.2 rfl rfl (.inl hk0))
            have Hk := Lib.hid hk0
            clear HE hk0
            go_wp2_with fail
            refine (HZ.out _).mono ?_; rintro e w' ⟨rfl, rfl⟩
            go_wp2_with fail
            refine (HR.out _).mono ?_; rintro e X ⟨rfl, hbX⟩
            have bX := BA.out.trans (hbX.mono BA.out.size)
            have bx0 := keepB hbX (show wr.heap.size < (wr.alloc (.cells #[.int .i64 t, .int .i64 lo, .int .i64 hi] 60)).heap.size by rw [World.size_alloc]; omega) (alloc_new rfl rfl : (wr.alloc (.cells #[.int .i64 t, .int .i64 lo, .int .i64 hi] 60)).cell? ⟨wr.heap.size, 0, none⟩ = some (.int .i64 t))
            have bY := BW.out.trans (bX.mono BW.out.size)
            clear hbX bX
            go_wp2
            go_quiet (fail)
            go_wp2
            go_roundw
            case rel => exact ⟨k + 1, by omega, by go_num, drewN_below bY _, HE2.out⟩
            case measure => simp [intOf]; omega
          · obtain ⟨j, hj⟩ : ∃ j, k = j + 1 := ⟨k - 1, by omega⟩
            have p0 := HJ.out j hj
            rw [← Hp.out j hj] at p0
            have y1 : decide (0 < (k : Int)) = true := decide_eq_true (by omega)
            have y1n : decide (0 < k) = true := decide_eq_true (by omega)
            have q2 : 0 ≤ (k : Int) - 1 := by omega
            have q3 : (k : Int) - 1 < (n : Int) := by omega
            have t1 : ((k : Int) - 1).toNat = j := by omega
            have i1 : IntKind.i64.wrap ((k : Int) - 1) = (k : Int) - 1 := IntWalk.i64_in _ (by omega)
            have Hj := Lib.hid hj
            clear hj HJ Hp
            by_cases hlt2 : tp < t
            · have x1 : decide (t ≤ tp) = false := decide_eq_false (by omega)
              have HE2 := Lib.hid (HE.out.2.2.2 rfl rfl (.inr hlt2))
              clear HE hk0
              go_wp2_with fail
              refine (HZ.out _).mono ?_; rintro e w' ⟨rfl, rfl⟩
              go_wp2_with fail
              refine (HR.out _).mono ?_; rintro e X ⟨rfl, hbX⟩
              have bX := BA.out.trans (hbX.mono BA.out.size)
              have bx0 := keepB hbX (show wr.heap.size < (wr.alloc (.cells #[.int .i64 t, .int .i64 lo, .int .i64 hi] 60)).heap.size by rw [World.size_alloc]; omega) (alloc_new rfl rfl : (wr.alloc (.cells #[.int .i64 t, .int .i64 lo, .int .i64 hi] 60)).cell? ⟨wr.heap.size, 0, none⟩ = some (.int .i64 t))
              have bY := BW.out.trans (bX.mono BW.out.size)
              have p0 := keepW (BA.out.trans (hbX.mono BA.out.size)) p0
              have lbX : b < X.heap.size := Nat.lt_of_lt_of_le hbr bX.size
              clear hbX bX
              go_wp2
              go_quiet (fail)
              go_wp2
              go_roundw
              case rel => exact ⟨k + 1, by omega, by go_num, drewN_below bY _, HE2.out⟩
              case measure => simp [intOf]; omega
            · have x1 : decide (t ≤ tp) = true := decide_eq_true (by omega)
              have HE2 := Lib.hid (HE.out.2.2.1 rfl rfl (by omega))
              clear HE hk0
              go_wp2_with fail
              refine (HZ.out _).mono ?_; rintro e w' ⟨rfl, rfl⟩
              go_wp2_with fail
              refine (HR.out _).mono ?_; rintro e X ⟨rfl, hbX⟩
              have bX := BA.out.trans (hbX.mono BA.out.size)
              have bx0 := keepB hbX (show wr.heap.size < (wr.alloc (.cells #[.int .i64 t, .int .i64 lo, .int .i64 hi] 60)).heap.size by rw [World.size_alloc]; omega) (alloc_new rfl rfl : (wr.alloc (.cells #[.int .i64 t, .int .i64 lo, .int .i64 hi] 60)).cell? ⟨wr.heap.size, 0, none⟩ = some (.int .i64 t))
              have bY := BW.out.trans (bX.mono BW.out.size)
              have p0 := keepW (BA.out.trans (hbX.mono BA.out.size)) p0
              have lbX : b < X.heap.size := Nat.lt_of_lt_of_le hbr bX.size
              clear hbX bX
              go_wp2
              go_quiet (fail)
              go_wp2
              go_ret
              rw [HE2.out]
              exact ⟨rfl, drewN_below bY _⟩
    · obtain rfl : n = k := by omega
      go_wp2
      go_ret
      rw [H0.out]
      exact ⟨rfl, hbw⟩
theorem checkRecord_any (a : Option Addr) (n cap : Nat) (rs : Nat → Rc) (w : World) (hl : n ≤ 1000000) (hs : RecsIs w a n rs) :
    Calls Try.prog 70 #[.slice a n cap] w fun e w' => e = .returned (.int .i64 (recC n rs)) ∧ Below w.heap.size w w' := by
  unfold recC
  by_cases h0 : n = 0
  · subst h0; rw [if_pos rfl]; exact checkRecord_nil a cap w
  rw [if_neg h0]
  rcases hs with h | ⟨b, off, rfl, hb, hs⟩
  · exact absurd h h0
  · exact checkRecord_some b off n cap rs w (by omega) hl hs hb

end Go.Proofs.Ytdmbkhmhaininaa
