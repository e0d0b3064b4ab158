/-
  A table is checked by the reference.
-/
import Derived.Test.YtdmbkhmhaininaaB
namespace Go.Proofs.Ytdmbkhmhaininaa
open Go.RowKit
set_option linter.unusedVariables false
set_option linter.unusedSimpArgs false

theorem folB_zero {zs : Nat → Int × Int} {k : Nat} (h : k = 0) : folB zs k = ((zs k).1 == 0) := by subst h; rfl
theorem folB_next {zs : Nat → Int × Int} {k j : Nat} (h : k = j + 1) : folB zs k = (decide ((zs j).1 < (zs k).1) && decide ((zs j).2 ≤ (zs k).2)) := by subst h; rfl
set_option maxRecDepth 100000 in
set_option maxHeartbeats 6400000 in
theorem refCheckTable_some (b off n cap : Nat) (zs : Nat → Int × Int) (most : Int) (w : World) (h2 : 2 ≤ n) (hl : n ≤ 32) (hs : SpansAt w b off n zs) (hb : b < w.heap.size) :
    Calls Try.prog 15 #[.slice (some ⟨b, off, none⟩) n cap, .int .i64 most] w fun e w' => e = .returned (.int .i64 (firstE (ptE zs most) n)) ∧ Below w.heap.size w w' := by
  have HS := Lib.hid hs
  clear hs
  have d1 : decide ((n : Int) < 2) = false := decide_eq_false (by omega)
  have d2 : decide (32 < (n : Int)) = false := decide_eq_false (by omega)
  go_enter Try.func15, Try.ntmps15
  go_wp2
  go_loopw [5] (fun i wr => ∃ k : Nat, k ≤ n ∧ i = .int .i64 k ∧ TabRel w zs most k wr) (fun i _ => n - (intOf i).toNat)
  case atStart => exact ⟨0, Nat.zero_le _, rfl, Below.refl _ _, rfl⟩
  case round =>
    obtain ⟨k, hk, rfl, hbw, h0⟩ := hrel
    have H0 := Lib.hid h0
    clear h0
    by_cases hlt : k < n
    · have c0 := keepB hbw hb (HS.out k hlt).1
      have c1 := keepB hbw hb (HS.out k hlt).2
      have HE := Lib.hid (And.intro (ptE_a hlt H0.out) (And.intro (ptE_b hlt H0.out) (And.intro (ptE_c hlt H0.out) (ptE_d H0.out))))
      have HZ : Hid (∀ W : World, Calls Try.prog 51 #[.int .i64 (zs k).1, .int .i64 0, .int .i64 1073741824] W fun e w' => e = .returned (.bool (inB (zs k).1 0 1073741824)) ∧ W = w') := Lib.hid fun W => refIn_any _ _ _ W
      have HR : Hid (∀ W : World, Calls Try.prog 51 #[.int .i64 (zs k).2, .int .i64 0, .int .i64 most] W fun e w' => e = .returned (.bool (inB (zs k).2 0 most)) ∧ W = w') := Lib.hid fun W => refIn_any _ _ _ W
      have HJ := Lib.hid (fun j (h : k = j + 1) => And.intro (keepB hbw hb (HS.out j (by omega)).1) (keepB hbw hb (HS.out j (by omega)).2))
      have F0 := Lib.hid (fun h => folB_zero (zs := zs) (k := k) h)
      have F1 := Lib.hid (fun j h => folB_next (zs := zs) (k := k) (j := j) h)
      have q0 : (0 : Int) ≤ (k : Int) := by omega
      have q1 : (k : Int) < (n : Int) := by omega
      have i0 : IntKind.i64.wrap (k : Int) = (k : Int) := IntWalk.i64_in _ (by omega)
      have BW := Lib.hid hbw
      obtain ⟨g, hg⟩ : ∃ g, g = zs := ⟨_, rfl⟩
      generalize (zs k).1 = z at c0 HZ HE F0 F1
      generalize (zs k).2 = r at c1 HR HE F1
      generalize inB z 0 1073741824 = bz at HZ HE
      generalize inB r 0 most = br at HR HE
      generalize folB zs k = bf at F0 F1 HE
      clear hg hbw
      cases bz
      · have HE2 := Lib.hid (HE.out.1 rfl)
        clear HE
        go_wp2_with fail
        refine (HZ.out _).mono ?_; rintro e w' ⟨rfl, rfl⟩
        go_wp2
        go_ret
        rw [HE2.out]
        exact ⟨rfl, BW.out⟩
      · cases br
        · have HE2 := Lib.hid (HE.out.2.1 rfl rfl)
          clear HE
          go_wp2_with fail
          refine (HZ.out _).mono ?_; rintro e w' ⟨rfl, rfl⟩
          go_wp2_with fail
          refine (HR.out _).mono ?_; rintro e w' ⟨rfl, rfl⟩
          go_wp2
          go_ret
          rw [HE2.out]
          exact ⟨rfl, BW.out⟩
        · rcases Nat.eq_zero_or_pos k with hk0 | hk0
          · have e1 := F0.out hk0
            have y0 : ((k : Int) == 0) = true := by rw [beq_iff_eq]; omega
            have y1 : decide (0 < (k : Int)) = false := decide_eq_false (by omega)
            have y1n : decide (0 < k) = false := decide_eq_false (by omega)
            have Hk := Lib.hid hk0
            clear hk0
            cases bf
            · have y2 : (z == 0) = false := e1.symm
              have y3 : (z != 0) = true := by rw [bne_iff_ne]; exact beq_eq_false_iff_ne.1 y2
              have HE2 := Lib.hid (HE.out.2.2.1 rfl rfl rfl)
              clear HE e1
              go_wp2_with fail
              refine (HZ.out _).mono ?_; rintro e w' ⟨rfl, rfl⟩
              go_wp2_with fail
              refine (HR.out _).mono ?_; rintro e w' ⟨rfl, rfl⟩
              go_wp2
              go_quiet (fail)
              go_wp2
              go_ret
              rw [HE2.out]
              exact ⟨rfl, drewN_below BW.out _⟩
            · have y2 : (z == 0) = true := e1.symm
              have y3 : (z != 0) = false := by rw [bne_eq_false_iff_eq]; exact beq_iff_eq.1 y2
              have HE2 := Lib.hid (HE.out.2.2.2 rfl rfl rfl)
              clear HE e1
              go_wp2_with fail
              refine (HZ.out _).mono ?_; rintro e w' ⟨rfl, rfl⟩
              go_wp2_with fail
              refine (HR.out _).mono ?_; rintro e w' ⟨rfl, rfl⟩
              go_wp2
              go_quiet (fail)
              go_wp2
              go_roundw
              case rel => exact ⟨k + 1, by omega, by go_num, drewN_below BW.out _, HE2.out⟩
              case measure => simp [intOf]; omega
          · obtain ⟨j, hj⟩ : ∃ j, k = j + 1 := ⟨k - 1, by omega⟩
            have e1 := F1.out j hj
            obtain ⟨p0, p1⟩ := HJ.out j hj
            have y0 : ((k : Int) == 0) = false := by rw [beq_eq_false_iff_ne]; omega
            have y1 : decide (0 < (k : Int)) = true := decide_eq_true (by omega)
            have y1n : decide (0 < k) = true := decide_eq_true (by omega)
            have q2 : 0 ≤ (k : Int) - 1 := by omega
            have q3 : (k : Int) - 1 < (n : Int) := by omega
            have t1 : ((k : Int) - 1).toNat = j := by omega
            have i1 : IntKind.i64.wrap ((k : Int) - 1) = (k : Int) - 1 := IntWalk.i64_in _ (by omega)
            have Hj := Lib.hid hj
            generalize (zs j).1 = zp at p0 e1
            generalize (zs j).2 = rp at p1 e1
            clear hj hk0 HJ F0 F1
            by_cases l1 : zp < z
            · have x1 : decide (z ≤ zp) = false := decide_eq_false (by omega)
              by_cases l2 : rp ≤ r
              · have x2 : decide (r < rp) = false := decide_eq_false (by omega)
                rw [decide_eq_true l1, decide_eq_true l2] at e1
                have e1 : bf = true := e1
                have HE2 := Lib.hid (HE.out.2.2.2 rfl rfl e1)
                clear HE e1
                go_wp2_with fail
                refine (HZ.out _).mono ?_; rintro e w' ⟨rfl, rfl⟩
                go_wp2_with fail
                refine (HR.out _).mono ?_; rintro e w' ⟨rfl, rfl⟩
                go_wp2
                go_quiet (fail)
                go_wp2
                go_roundw
                case rel => exact ⟨k + 1, by omega, by go_num, drewN_below BW.out _, HE2.out⟩
                case measure => simp [intOf]; omega
              · have x2 : decide (r < rp) = true := decide_eq_true (by omega)
                rw [decide_eq_true l1, decide_eq_false l2] at e1
                have e1 : bf = false := e1
                have HE2 := Lib.hid (HE.out.2.2.1 rfl rfl e1)
                clear HE e1
                go_wp2_with fail
                refine (HZ.out _).mono ?_; rintro e w' ⟨rfl, rfl⟩
                go_wp2_with fail
                refine (HR.out _).mono ?_; rintro e w' ⟨rfl, rfl⟩
                go_wp2
                go_quiet (fail)
                go_wp2
                go_ret
                rw [HE2.out]
                exact ⟨rfl, drewN_below BW.out _⟩
            · have x1 : decide (z ≤ zp) = true := decide_eq_true (by omega)
              rw [decide_eq_false l1] at e1
              have e1 : bf = false := e1
              have HE2 := Lib.hid (HE.out.2.2.1 rfl rfl e1)
              clear HE e1
              go_wp2_with fail
              refine (HZ.out _).mono ?_; rintro e w' ⟨rfl, rfl⟩
              go_wp2_with fail
              refine (HR.out _).mono ?_; rintro e w' ⟨rfl, rfl⟩
              go_wp2
              go_quiet (fail)
              go_wp2
              go_ret
              rw [HE2.out]
              exact ⟨rfl, drewN_below BW.out _⟩
    · obtain rfl : n = k := by omega
      go_wp2
      go_ret
      rw [H0.out]
      exact ⟨rfl, hbw⟩
theorem refCheckTable_few (a : Option Addr) (n cap : Nat) (most : Int) (w : World) (h : n < 2) :
    Calls Try.prog 15 #[.slice a n cap, .int .i64 most] w fun e w' => e = .returned (.int .i64 18) ∧ Below w.heap.size w w' := by
  have d1 : decide ((n : Int) < 2) = true := decide_eq_true (by omega)
  go_enter Try.func15, Try.ntmps15
  go_wp2
  go_ret
  exact ⟨rfl, Below.refl _ _⟩
theorem refCheckTable_many (a : Option Addr) (n cap : Nat) (most : Int) (w : World) (h : 32 < n) :
    Calls Try.prog 15 #[.slice a n cap, .int .i64 most] w fun e w' => e = .returned (.int .i64 9) ∧ Below w.heap.size w w' := by
  have d1 : decide ((n : Int) < 2) = false := decide_eq_false (by omega)
  have d2 : decide (32 < (n : Int)) = true := decide_eq_true (by omega)
  go_enter Try.func15, Try.ntmps15
  go_wp2
  go_ret
  exact ⟨rfl, Below.refl _ _⟩
theorem refCheckTable_any (a : Option Addr) (n cap : Nat) (zs : Nat → Int × Int) (most : Int) (w : World) (hs : SliceIs w a n cap zs) :
    Calls Try.prog 15 #[.slice a n cap, .int .i64 most] w fun e w' => e = .returned (.int .i64 (tabC n zs most)) ∧ Below w.heap.size w w' := by
  unfold tabC
  by_cases h1 : n < 2
  · rw [if_pos h1]; exact refCheckTable_few a n cap most w h1
  rw [if_neg h1]
  by_cases h2 : 32 < n
  · rw [if_pos h2]; exact refCheckTable_many a n cap most w h2
  rw [if_neg h2]
  rcases hs with h | ⟨b, off, rfl, hb, h⟩
  · omega
  · exact refCheckTable_some b off n cap zs most w (by omega) (by omega) h hb

end Go.Proofs.Ytdmbkhmhaininaa
