/-
  The pairs of Adjust are examined.
-/
import Derived.Test.YtdmbkhmhaininaaGP
import Derived.Deep.Cut
namespace Go.Proofs.Ytdmbkhmhaininaa
open Go.RowKit
set_option linter.unusedVariables false
set_option linter.unusedSimpArgs false

theorem prE_bad {ps : Nat → Pr} {k n : Nat} (hk : k < n) (h0 : firstE (fun j => prE (ps j)) k = 0) (h : prE (ps k) = 3) : firstE (fun j => prE (ps j)) n = 3 := by
  rw [firstE_stop hk h0 (by show prE (ps k) ≠ 0; rw [h]; decide)]; exact h
theorem prE_fine {ps : Nat → Pr} {k : Nat} (h0 : firstE (fun j => prE (ps j)) k = 0) (h : prE (ps k) = 0) : firstE (fun j => prE (ps j)) (k + 1) = 0 := by
  rw [firstE_next h0]; exact h
theorem prE_span {p : Pr} (h : spanB p.s1 p.s2 0 2147483648 = false) : prE p = 3 := by unfold prE; rw [h]; rfl
theorem prE_feE {p : Pr} (h : spanB p.s1 p.s2 0 2147483648 = true) : prE p = feE p.ti p.sz := by unfold prE feE; rw [h]; rfl
set_option maxRecDepth 100000 in
set_option maxHeartbeats 3200000 in
theorem checkPairs_some (b off n cap : Nat) (ps : Nat → Pr) (w : World) (h1 : 1 ≤ n) (h2 : n ≤ 100) (hs : PrsAt w b off n ps) (hb : b < w.heap.size) :
    Calls Try.prog 73 #[.slice (some ⟨b, off, none⟩) n cap] w fun e w' => e = .returned (.int .i64 (firstE (fun j => prE (ps j)) n)) ∧ Below w.heap.size w w' := by
  have HS := Lib.hid hs
  have d0 : ((n : Int) == 0) = false := by rw [beq_eq_false_iff_ne]; omega
  have d1 : decide (100 < (n : Int)) = false := decide_eq_false (by omega)
  clear hs
  go_enter Try.func73, Try.ntmps73
  go_wp2
  go_loopw [15] (fun i wr => ∃ k : Nat, k ≤ n ∧ i = .int .i64 k ∧ Below w.heap.size w wr ∧ firstE (fun j => prE (ps j)) k = 0) (fun i _ => n - (intOf i).toNat)
  case atStart => exact ⟨0, Nat.zero_le _, rfl, Below.refl _ _, rfl⟩
  case round =>
    obtain ⟨k, hk, rfl, hbw, h0⟩ := hrel
    have H0 := Lib.hid h0
    clear h0
    by_cases hlt : k < n
    · have c0 := keepB hbw hb (HS.out k hlt).1
      have c1 := keepB hbw hb (HS.out k hlt).2.1
      have c2 := keepB hbw hb (HS.out k hlt).2.2.1
      have c3 := keepB hbw hb (HS.out k hlt).2.2.2
      have q0 : (0 : Int) ≤ (k : Int) := by omega
      have q1 : (k : Int) < (n : Int) := by omega
      have HW := Lib.hid hbw
      have zw := hbw.size
      have HZ := Lib.hid (fun W => isWithin_any (ps k).s1 (ps k).s2 0 2147483648 W)
      have HF := Lib.hid (fun W => Fell_any (ps k).ti (ps k).sz W)
      have HE1 := Lib.hid (fun h => prE_span (p := ps k) h)
      have HE2 := Lib.hid (fun h => prE_feE (p := ps k) h)
      have HB1 := Lib.hid (fun h => prE_bad (ps := ps) hlt H0.out h)
      have HB2 := Lib.hid (fun h => prE_fine (ps := ps) (k := k) H0.out h)
      generalize prE (ps k) = pe at *
      generalize hfe : feE (ps k).ti (ps k).sz = fe at *
      have hf3 : fe = 0 ∨ fe = 3 := by rw [← hfe]; unfold feE; split <;> simp
      clear hfe hbw H0
      generalize feLo (ps k).ti (ps k).sz = fl at *
      generalize feHi (ps k).ti (ps k).sz = fh at *
      generalize (ps k).s1 = x1 at *
      generalize (ps k).s2 = x2 at *
      generalize (ps k).ti = x3 at *
      generalize (ps k).sz = x4 at *
      have bb := below_alloc wr (.cells #[.int .i64 x1, .int .i64 x2, .int .i64 x3, .int .i64 x4] 70)
      have y0 : (wr.alloc (.cells #[.int .i64 x1, .int .i64 x2, .int .i64 x3, .int .i64 x4] 70)).cell? ⟨wr.heap.size, 0, none⟩ = some (.int .i64 x1) := alloc_new rfl rfl
      have y1 : (wr.alloc (.cells #[.int .i64 x1, .int .i64 x2, .int .i64 x3, .int .i64 x4] 70)).cell? ⟨wr.heap.size, 1, none⟩ = some (.int .i64 x2) := alloc_new rfl rfl
      have y2 : (wr.alloc (.cells #[.int .i64 x1, .int .i64 x2, .int .i64 x3, .int .i64 x4] 70)).cell? ⟨wr.heap.size, 2, none⟩ = some (.int .i64 x3) := alloc_new rfl rfl
      have y3 : (wr.alloc (.cells #[.int .i64 x1, .int .i64 x2, .int .i64 x3, .int .i64 x4] 70)).cell? ⟨wr.heap.size, 3, none⟩ = some (.int .i64 x4) := alloc_new rfl rfl
      have yz : wr.heap.size < (wr.alloc (.cells #[.int .i64 x1, .int .i64 x2, .int .i64 x3, .int .i64 x4] 70)).heap.size := by rw [World.size_alloc]; omega
      have bD := HW.out.trans (bb.mono zw)
      obtain ⟨q, hq⟩ : ∃ q, q = wr.heap.size := ⟨_, rfl⟩
      obtain ⟨D, hD⟩ : ∃ D, D = wr.alloc (.cells #[.int .i64 x1, .int .i64 x2, .int .i64 x3, .int .i64 x4] 70) := ⟨_, rfl⟩
      go_upto_region 8 with fail
      rw [← hD, ← hq] at y0 y1 y2 y3 yz
      rw [← hD] at bD
      rw [← hD]
      try rw [← hq]
      clear hD hq bb c0 c1 c2 c3 HW
      have zD := bD.size
      rcases (Bool.eq_false_or_eq_true (spanB x1 x2 0 2147483648)).symm with hc | hc
      · rw [hc] at HZ
        have HE := Lib.hid (HB1.out (HE1.out hc))
        clear hc HE1 HE2 HB1 HB2
        go_wp2_with fail
        refine (HZ.out _).mono ?_; rintro e w' ⟨rfl, hb2⟩
        have bV := bD.trans (hb2.mono zD)
        clear hb2
        go_wp2
        go_ret
        rw [HE.out]
        exact ⟨rfl, bV⟩
      · rw [hc] at HZ
        have he := HE2.out hc
        subst he
        clear hc HE1 HE2
        go_wp2_with fail
        refine (HZ.out _).mono ?_; rintro e w' ⟨rfl, hb2⟩
        have y2 := keepB hb2 yz y2
        have y3 := keepB hb2 yz y3
        have bV := bD.trans (hb2.mono zD)
        have zV := bV.size
        clear hb2 y0 y1 yz bD zD
        go_wp2_with fail
        refine (HF.out _).mono ?_; rintro e V ⟨rfl, hb2⟩
        have bU := bV.trans (hb2.mono zV)
        have bU2 := Lib.hid (bU.trans ((below_alloc V (.cells #[.int .i64 fl, .int .i64 fh] 24)).mono bU.size))
        clear hb2 bV bU y2 y3
        rcases hf3 with rfl | rfl
        · have HE := Lib.hid (HB2.out rfl)
          clear HB1 HB2
          go_wp2
          go_roundw
          case rel => exact ⟨k + 1, by omega, by go_num, bU2.out, HE.out⟩
          case measure => simp [intOf]; omega
        · have HE := Lib.hid (HB1.out rfl)
          clear HB1 HB2
          go_wp2
          go_ret
          rw [HE.out]
          exact ⟨rfl, bU2.out⟩
    · obtain rfl : n = k := by omega
      go_wp2
      go_ret
      rw [H0.out]
      exact ⟨rfl, hbw⟩
set_option maxHeartbeats 800000 in
theorem checkPairs_nil (a : Option Addr) (cap : Nat) (w : World) : Calls Try.prog 73 #[.slice a 0 cap] w fun e w' => e = .returned (.int .i64 18) ∧ w = w' := by
  go_enter Try.func73, Try.ntmps73
  go_wp2
  go_ret
  exact ⟨rfl, rfl⟩
set_option maxHeartbeats 800000 in
theorem checkPairs_many (a : Option Addr) (n cap : Nat) (w : World) (h : 100 < n) (hm : n ≤ maxLen) : Calls Try.prog 73 #[.slice a n cap] w fun e w' => e = .returned (.int .i64 9) ∧ w = w' := by
  unfold maxLen at hm
  have d0 : ((n : Int) == 0) = false := by rw [beq_eq_false_iff_ne]; omega
  have d1 : decide (100 < (n : Int)) = true := decide_eq_true (by omega)
  go_enter Try.func73, Try.ntmps73
  go_wp2
  go_ret
  exact ⟨rfl, rfl⟩
theorem checkPairs_any (a : Option Addr) (n cap : Nat) (ps : Nat → Pr) (w : World) (hm : n ≤ maxLen) (hs : PrsIs w a n ps) :
    Calls Try.prog 73 #[.slice a n cap] w fun e w' => e = .returned (.int .i64 (adjC n ps)) ∧ Below w.heap.size w w' := by
  unfold adjC
  by_cases h0 : n = 0
  · rw [if_pos h0]; subst h0
    exact (checkPairs_nil a cap w).mono fun e w' ⟨h, h2⟩ => ⟨h, by subst h2; exact Below.refl _ _⟩
  rw [if_neg h0]
  by_cases h1 : 100 < n
  · rw [if_pos h1]
    exact (checkPairs_many a n cap w h1 hm).mono fun e w' ⟨h, h2⟩ => ⟨h, by subst h2; exact Below.refl _ _⟩
  rw [if_neg h1]
  rcases hs with h | ⟨b, off, rfl, hb, hs⟩
  · exact absurd h h0
  exact checkPairs_some b off n cap ps w (by omega) (by omega) hs hb
theorem adj_ok {n : Nat} {ps : Nat → Pr} (h : adjC n ps = 0) : 1 ≤ n ∧ n ≤ 100 ∧ ∀ j, j < n → PrOk (ps j) := by
  unfold adjC at h
  by_cases h0 : n = 0
  · rw [if_pos h0] at h; exact absurd h (by decide)
  rw [if_neg h0] at h
  by_cases h1 : 100 < n
  · rw [if_pos h1] at h; exact absurd h (by decide)
  rw [if_neg h1] at h
  exact ⟨by omega, by omega, fun j hj => prE_ok (firstE_all h j hj)⟩

end Go.Proofs.Ytdmbkhmhaininaa
