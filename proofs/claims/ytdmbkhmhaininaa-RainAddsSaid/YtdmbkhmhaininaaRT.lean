/-
  Sum of the reference: valid records, wrong numbers.
-/
import Derived.Test.YtdmbkhmhaininaaRS
namespace Go.Proofs.Ytdmbkhmhaininaa
open Go.RowKit
set_option linter.unusedVariables false
set_option linter.unusedSimpArgs false

set_option maxRecDepth 100000 in
set_option maxHeartbeats 6400000 in
theorem refSum_end (b off n cap : Nat) (rs : Nat → Rc) (en sl : Int) (w : World) (hk : RecOk n rs) (hl : n ≤ 1000000) (hs : RecsAt w b off n rs) (hb : b < w.heap.size) (hIE : inB en 0 4294967296 = false) :
    Calls Try.prog 33 #[.slice (some ⟨b, off, none⟩) n cap, .int .i64 en, .int .i64 sl] w fun e w' => e = .returned (.tuple #[.agg #[.int .i64 0, .int .i64 0], .int .i64 3]) ∧ Below w.heap.size w w' := by
  have HS := Lib.hid hs
  clear hs
  have hn1 := hk.n1
  have d1 : ((n : Int) == 0) = false := by rw [beq_eq_false_iff_ne]; omega
  have HK := Lib.hid hk
  clear hk
  go_enter Try.func33, Try.ntmps33
  go_wp2
  go_loopw [8] (fun i wr => ∃ k : Nat, k ≤ n ∧ i = .int .i64 k ∧ RsW w wr) (fun i _ => n - (intOf i).toNat)
  case atStart => exact ⟨0, Nat.zero_le _, rfl, RsW.new w⟩
  case round =>
    obtain ⟨k, hk, rfl, hRW⟩ := hrel
    have RW := Lib.hid hRW
    have hbw := hRW.b
    by_cases hlt : k < n
    · have c0 := keepB hbw hb (HS.out k hlt).1
      have c1 := keepB hbw hb (HS.out k hlt).2.1
      have c2 := keepB hbw hb (HS.out k hlt).2.2
      have HC0 := Lib.hid (HS.out k hlt).1
      have HSj := Lib.hid (fun j (h : j < n) => HS.out j h)
      have HZ : Hid (∀ W : World, Calls Try.prog 51 #[.int .i64 (rs k).t, .int .i64 0, .int .i64 4294967296] W fun e w' => e = .returned (.bool true) ∧ W = w') := Lib.hid fun W => by rw [← inB_true.2 (HK.out.tb k hlt)]; exact refIn_any _ _ _ W
      have HR : Hid (∀ W : World, Calls Try.prog 53 #[.agg #[.int .i64 (rs k).lo, .int .i64 (rs k).hi], .int .i64 0, .int .i64 1000000] W fun e w' => e = .returned (.bool true) ∧ Below W.heap.size W w') := Lib.hid fun W => by rw [← spanB_true.2 (HK.out.rb k hlt)]; exact Valid_any _ _ _ _ W
      have q0 : (0 : Int) ≤ (k : Int) := by omega
      have q1 : (k : Int) < (n : Int) := by omega
      have i0 : IntKind.i64.wrap (k : Int) = (k : Int) := IntWalk.i64_in _ (by omega)
      have lbr : b < wr.heap.size := Nat.lt_of_lt_of_le hb hbw.size
      have Hp : Hid (∀ j, k = j + 1 → (rs j).t < (rs k).t) := Lib.hid (fun j h => by subst h; exact HK.out.asc j (by omega))
      generalize (rs k).t = t at *
      generalize (rs k).lo = lo at *
      generalize (rs k).hi = hi at *
      clear hbw hRW HS
      rcases Nat.eq_zero_or_pos k with hk0 | hk0
      · have y1 : decide (0 < (k : Int)) = false := decide_eq_false (by omega)
        have y1n : decide (0 < k) = false := decide_eq_false (by omega)
        have Hk := Lib.hid hk0
        clear hk0
        go_wp2_with fail
        refine (HZ.out _).mono ?_; rintro e w' ⟨rfl, rfl⟩
        go_wp2_with fail
        refine (HR.out _).mono ?_; rintro e X ⟨rfl, hbX⟩
        have RX := Lib.hid (RW.out.keep hbX)
        obtain ⟨r0, r1, g0, g1, hz, hbw⟩ := RX.out
        clear hbX
        go_wp2
        go_quiet (fail)
        go_wp2
        go_roundw
        case rel => exact ⟨k + 1, by omega, by go_num, RX.out.keep (drewN_below (Below.refl _ _) _)⟩
        case measure => simp [intOf]; omega
      · obtain ⟨j, hj⟩ : ∃ j, k = j + 1 := ⟨k - 1, by omega⟩
        have y1 : decide (0 < (k : Int)) = true := decide_eq_true (by omega)
        have y1n : decide (0 < k) = true := decide_eq_true (by omega)
        have q2 : 0 ≤ (k : Int) - 1 := by omega
        have q3 : (k : Int) - 1 < (n : Int) := by omega
        have t1 : ((k : Int) - 1).toNat = j := by omega
        have i1 : IntKind.i64.wrap ((k : Int) - 1) = (k : Int) - 1 := IntWalk.i64_in _ (by omega)
        have htt := Hp.out j hj
        have Hj := Lib.hid hj
        clear hj Hp hk0
        have x1 : decide (t ≤ (rs j).t) = false := decide_eq_false (by omega)
        go_wp2_with fail
        refine (HZ.out _).mono ?_; rintro e w' ⟨rfl, rfl⟩
        go_wp2_with fail
        refine (HR.out _).mono ?_; rintro e X ⟨rfl, hbX⟩
        have RX := Lib.hid (RW.out.keep hbX)
        obtain ⟨r0, r1, g0, g1, hz, hbw⟩ := RX.out
        clear hbX
        have lbX : b < X.heap.size := Nat.lt_of_lt_of_le hb hbw.size
        have p0 := keepB hbw hb (HSj.out j (by omega)).1
        have c0 := keepB hbw hb HC0.out
        generalize (rs j).t = tj at *
        go_wp2
        go_quiet (fail)
        go_wp2
        go_roundw
        case rel => exact ⟨k + 1, by omega, by go_num, RX.out.keep (drewN_below (Below.refl _ _) _)⟩
        case measure => simp [intOf]; omega
    · have hkn : k = n := by omega
      subst hkn
      have RX := RW
      have hbk := hRW.b
      clear hRW hbw RW
      have IE : Hid (∀ W : World, Calls Try.prog 51 #[.int .i64 en, .int .i64 0, .int .i64 4294967296] W fun e w' => e = .returned (.bool false) ∧ W = w') := Lib.hid fun W => by rw [← hIE]; exact refIn_any _ _ _ W
      clear hIE hbk
      obtain ⟨r0, r1, g0, g1, hz, hbw⟩ := RX.out
      go_wp2_with fail
      refine (IE.out _).mono ?_; rintro e w' ⟨rfl, rfl⟩
      go_wp2
      exact bodyPost_ret (v := .tuple #[.agg #[.int .i64 0, .int .i64 0], .int .i64 3]) (by simp [results, Try.results33, go_sem, set_same (i := 0) (v := .int .i64 0) r0, set_other (i := 1) (j := 0) (v := .int .i64 0) (by decide) (set_same (i := 0) (v := .int .i64 0) r0), set_same (i := 1) (v := .int .i64 0) (set_other (i := 0) (j := 1) (v := .int .i64 0) (by decide) r1)]) rfl ⟨rfl, ((hbw.setCell (p := ⟨w.heap.size, 0, none⟩) (by dsimp only; omega) _).setCell (p := ⟨w.heap.size, 1, none⟩) (by dsimp only; omega) _)⟩

set_option maxRecDepth 100000 in
set_option maxHeartbeats 6400000 in
theorem refSum_slack (b off n cap : Nat) (rs : Nat → Rc) (en sl : Int) (w : World) (hk : RecOk n rs) (hl : n ≤ 1000000) (hs : RecsAt w b off n rs) (hb : b < w.heap.size) (hIE : inB en 0 4294967296 = true) (hIS : inB sl 0 1000 = false) :
    Calls Try.prog 33 #[.slice (some ⟨b, off, none⟩) n cap, .int .i64 en, .int .i64 sl] w fun e w' => e = .returned (.tuple #[.agg #[.int .i64 0, .int .i64 0], .int .i64 3]) ∧ Below w.heap.size w w' := by
  have HS := Lib.hid hs
  clear hs
  have hn1 := hk.n1
  have d1 : ((n : Int) == 0) = false := by rw [beq_eq_false_iff_ne]; omega
  have HK := Lib.hid hk
  clear hk
  go_enter Try.func33, Try.ntmps33
  go_wp2
  go_loopw [8] (fun i wr => ∃ k : Nat, k ≤ n ∧ i = .int .i64 k ∧ RsW w wr) (fun i _ => n - (intOf i).toNat)
  case atStart => exact ⟨0, Nat.zero_le _, rfl, RsW.new w⟩
  case round =>
    obtain ⟨k, hk, rfl, hRW⟩ := hrel
    have RW := Lib.hid hRW
    have hbw := hRW.b
    by_cases hlt : k < n
    · have c0 := keepB hbw hb (HS.out k hlt).1
      have c1 := keepB hbw hb (HS.out k hlt).2.1
      have c2 := keepB hbw hb (HS.out k hlt).2.2
      have HC0 := Lib.hid (HS.out k hlt).1
      have HSj := Lib.hid (fun j (h : j < n) => HS.out j h)
      have HZ : Hid (∀ W : World, Calls Try.prog 51 #[.int .i64 (rs k).t, .int .i64 0, .int .i64 4294967296] W fun e w' => e = .returned (.bool true) ∧ W = w') := Lib.hid fun W => by rw [← inB_true.2 (HK.out.tb k hlt)]; exact refIn_any _ _ _ W
      have HR : Hid (∀ W : World, Calls Try.prog 53 #[.agg #[.int .i64 (rs k).lo, .int .i64 (rs k).hi], .int .i64 0, .int .i64 1000000] W fun e w' => e = .returned (.bool true) ∧ Below W.heap.size W w') := Lib.hid fun W => by rw [← spanB_true.2 (HK.out.rb k hlt)]; exact Valid_any _ _ _ _ W
      have q0 : (0 : Int) ≤ (k : Int) := by omega
      have q1 : (k : Int) < (n : Int) := by omega
      have i0 : IntKind.i64.wrap (k : Int) = (k : Int) := IntWalk.i64_in _ (by omega)
      have lbr : b < wr.heap.size := Nat.lt_of_lt_of_le hb hbw.size
      have Hp : Hid (∀ j, k = j + 1 → (rs j).t < (rs k).t) := Lib.hid (fun j h => by subst h; exact HK.out.asc j (by omega))
      generalize (rs k).t = t at *
      generalize (rs k).lo = lo at *
      generalize (rs k).hi = hi at *
      clear hbw hRW HS
      rcases Nat.eq_zero_or_pos k with hk0 | hk0
      · have y1 : decide (0 < (k : Int)) = false := decide_eq_false (by omega)
        have y1n : decide (0 < k) = false := decide_eq_false (by omega)
        have Hk := Lib.hid hk0
        clear hk0
        go_wp2_with fail
        refine (HZ.out _).mono ?_; rintro e w' ⟨rfl, rfl⟩
        go_wp2_with fail
        refine (HR.out _).mono ?_; rintro e X ⟨rfl, hbX⟩
        have RX := Lib.hid (RW.out.keep hbX)
        obtain ⟨r0, r1, g0, g1, hz, hbw⟩ := RX.out
        clear hbX
        go_wp2
        go_quiet (fail)
        go_wp2
        go_roundw
        case rel => exact ⟨k + 1, by omega, by go_num, RX.out.keep (drewN_below (Below.refl _ _) _)⟩
        case measure => simp [intOf]; omega
      · obtain ⟨j, hj⟩ : ∃ j, k = j + 1 := ⟨k - 1, by omega⟩
        have y1 : decide (0 < (k : Int)) = true := decide_eq_true (by omega)
        have y1n : decide (0 < k) = true := decide_eq_true (by omega)
        have q2 : 0 ≤ (k : Int) - 1 := by omega
        have q3 : (k : Int) - 1 < (n : Int) := by omega
        have t1 : ((k : Int) - 1).toNat = j := by omega
        have i1 : IntKind.i64.wrap ((k : Int) - 1) = (k : Int) - 1 := IntWalk.i64_in _ (by omega)
        have htt := Hp.out j hj
        have Hj := Lib.hid hj
        clear hj Hp hk0
        have x1 : decide (t ≤ (rs j).t) = false := decide_eq_false (by omega)
        go_wp2_with fail
        refine (HZ.out _).mono ?_; rintro e w' ⟨rfl, rfl⟩
        go_wp2_with fail
        refine (HR.out _).mono ?_; rintro e X ⟨rfl, hbX⟩
        have RX := Lib.hid (RW.out.keep hbX)
        obtain ⟨r0, r1, g0, g1, hz, hbw⟩ := RX.out
        clear hbX
        have lbX : b < X.heap.size := Nat.lt_of_lt_of_le hb hbw.size
        have p0 := keepB hbw hb (HSj.out j (by omega)).1
        have c0 := keepB hbw hb HC0.out
        generalize (rs j).t = tj at *
        go_wp2
        go_quiet (fail)
        go_wp2
        go_roundw
        case rel => exact ⟨k + 1, by omega, by go_num, RX.out.keep (drewN_below (Below.refl _ _) _)⟩
        case measure => simp [intOf]; omega
    · have hkn : k = n := by omega
      subst hkn
      have RX := RW
      have hbk := hRW.b
      clear hRW hbw RW
      have IE : Hid (∀ W : World, Calls Try.prog 51 #[.int .i64 en, .int .i64 0, .int .i64 4294967296] W fun e w' => e = .returned (.bool true) ∧ W = w') := Lib.hid fun W => by rw [← hIE]; exact refIn_any _ _ _ W
      have IS : Hid (∀ W : World, Calls Try.prog 51 #[.int .i64 sl, .int .i64 0, .int .i64 1000] W fun e w' => e = .returned (.bool false) ∧ W = w') := Lib.hid fun W => by rw [← hIS]; exact refIn_any _ _ _ W
      clear hIE hIS hbk
      obtain ⟨r0, r1, g0, g1, hz, hbw⟩ := RX.out
      go_wp2_with fail
      refine (IE.out _).mono ?_; rintro e w' ⟨rfl, rfl⟩
      go_wp2_with fail
      refine (IS.out _).mono ?_; rintro e w' ⟨rfl, rfl⟩
      go_wp2
      exact bodyPost_ret (v := .tuple #[.agg #[.int .i64 0, .int .i64 0], .int .i64 3]) (by simp [results, Try.results33, go_sem, set_same (i := 0) (v := .int .i64 0) r0, set_other (i := 1) (j := 0) (v := .int .i64 0) (by decide) (set_same (i := 0) (v := .int .i64 0) r0), set_same (i := 1) (v := .int .i64 0) (set_other (i := 0) (j := 1) (v := .int .i64 0) (by decide) r1)]) rfl ⟨rfl, ((hbw.setCell (p := ⟨w.heap.size, 0, none⟩) (by dsimp only; omega) _).setCell (p := ⟨w.heap.size, 1, none⟩) (by dsimp only; omega) _)⟩

set_option maxRecDepth 100000 in
set_option maxHeartbeats 6400000 in
theorem refSum_late (b off n cap : Nat) (rs : Nat → Rc) (en sl : Int) (w : World) (hk : RecOk n rs) (hl : n ≤ 1000000) (hs : RecsAt w b off n rs) (hb : b < w.heap.size) (hIE : inB en 0 4294967296 = true) (hIS : inB sl 0 1000 = true) (hle : en < (rs (n - 1)).t) :
    Calls Try.prog 33 #[.slice (some ⟨b, off, none⟩) n cap, .int .i64 en, .int .i64 sl] w fun e w' => e = .returned (.tuple #[.agg #[.int .i64 0, .int .i64 0], .int .i64 17]) ∧ Below w.heap.size w w' := by
  have HS := Lib.hid hs
  clear hs
  have hn1 := hk.n1
  have d1 : ((n : Int) == 0) = false := by rw [beq_eq_false_iff_ne]; omega
  have HK := Lib.hid hk
  clear hk
  go_enter Try.func33, Try.ntmps33
  go_wp2
  go_loopw [8] (fun i wr => ∃ k : Nat, k ≤ n ∧ i = .int .i64 k ∧ RsW w wr) (fun i _ => n - (intOf i).toNat)
  case atStart => exact ⟨0, Nat.zero_le _, rfl, RsW.new w⟩
  case round =>
    obtain ⟨k, hk, rfl, hRW⟩ := hrel
    have RW := Lib.hid hRW
    have hbw := hRW.b
    by_cases hlt : k < n
    · have c0 := keepB hbw hb (HS.out k hlt).1
      have c1 := keepB hbw hb (HS.out k hlt).2.1
      have c2 := keepB hbw hb (HS.out k hlt).2.2
      have HC0 := Lib.hid (HS.out k hlt).1
      have HSj := Lib.hid (fun j (h : j < n) => HS.out j h)
      have HZ : Hid (∀ W : World, Calls Try.prog 51 #[.int .i64 (rs k).t, .int .i64 0, .int .i64 4294967296] W fun e w' => e = .returned (.bool true) ∧ W = w') := Lib.hid fun W => by rw [← inB_true.2 (HK.out.tb k hlt)]; exact refIn_any _ _ _ W
      have HR : Hid (∀ W : World, Calls Try.prog 53 #[.agg #[.int .i64 (rs k).lo, .int .i64 (rs k).hi], .int .i64 0, .int .i64 1000000] W fun e w' => e = .returned (.bool true) ∧ Below W.heap.size W w') := Lib.hid fun W => by rw [← spanB_true.2 (HK.out.rb k hlt)]; exact Valid_any _ _ _ _ W
      have q0 : (0 : Int) ≤ (k : Int) := by omega
      have q1 : (k : Int) < (n : Int) := by omega
      have i0 : IntKind.i64.wrap (k : Int) = (k : Int) := IntWalk.i64_in _ (by omega)
      have lbr : b < wr.heap.size := Nat.lt_of_lt_of_le hb hbw.size
      have Hp : Hid (∀ j, k = j + 1 → (rs j).t < (rs k).t) := Lib.hid (fun j h => by subst h; exact HK.out.asc j (by omega))
      generalize (rs k).t = t at *
      generalize (rs k).lo = lo at *
      generalize (rs k).hi = hi at *
      clear hbw hRW HS
      rcases Nat.eq_zero_or_pos k with hk0 | hk0
      · have y1 : decide (0 < (k : Int)) = false := decide_eq_false (by omega)
        have y1n : decide (0 < k) = false := decide_eq_false (by omega)
        have Hk := Lib.hid hk0
        clear hk0
        go_wp2_with fail
        refine (HZ.out _).mono ?_; rintro e w' ⟨rfl, rfl⟩
        go_wp2_with fail
        refine (HR.out _).mono ?_; rintro e X ⟨rfl, hbX⟩
        have RX := Lib.hid (RW.out.keep hbX)
        obtain ⟨r0, r1, g0, g1, hz, hbw⟩ := RX.out
        clear hbX
        go_wp2
        go_quiet (fail)
        go_wp2
        go_roundw
        case rel => exact ⟨k + 1, by omega, by go_num, RX.out.keep (drewN_below (Below.refl _ _) _)⟩
        case measure => simp [intOf]; omega
      · obtain ⟨j, hj⟩ : ∃ j, k = j + 1 := ⟨k - 1, by omega⟩
        have y1 : decide (0 < (k : Int)) = true := decide_eq_true (by omega)
        have y1n : decide (0 < k) = true := decide_eq_true (by omega)
        have q2 : 0 ≤ (k : Int) - 1 := by omega
        have q3 : (k : Int) - 1 < (n : Int) := by omega
        have t1 : ((k : Int) - 1).toNat = j := by omega
        have i1 : IntKind.i64.wrap ((k : Int) - 1) = (k : Int) - 1 := IntWalk.i64_in _ (by omega)
        have htt := Hp.out j hj
        have Hj := Lib.hid hj
        clear hj Hp hk0
        have x1 : decide (t ≤ (rs j).t) = false := decide_eq_false (by omega)
        go_wp2_with fail
        refine (HZ.out _).mono ?_; rintro e w' ⟨rfl, rfl⟩
        go_wp2_with fail
        refine (HR.out _).mono ?_; rintro e X ⟨rfl, hbX⟩
        have RX := Lib.hid (RW.out.keep hbX)
        obtain ⟨r0, r1, g0, g1, hz, hbw⟩ := RX.out
        clear hbX
        have lbX : b < X.heap.size := Nat.lt_of_lt_of_le hb hbw.size
        have p0 := keepB hbw hb (HSj.out j (by omega)).1
        have c0 := keepB hbw hb HC0.out
        generalize (rs j).t = tj at *
        go_wp2
        go_quiet (fail)
        go_wp2
        go_roundw
        case rel => exact ⟨k + 1, by omega, by go_num, RX.out.keep (drewN_below (Below.refl _ _) _)⟩
        case measure => simp [intOf]; omega
    · have hkn : k = n := by omega
      subst hkn
      have RX := RW
      have hbk := hRW.b
      clear hRW hbw RW
      obtain ⟨j, hj⟩ : ∃ j, k = j + 1 := ⟨k - 1, by omega⟩
      have c0 := keepB hbk hb (HS.out (k - 1) (by omega)).1
      have i1 : IntKind.i64.wrap ((k : Int) - 1) = (j : Int) := by rw [show (k : Int) - 1 = j by omega]; exact IntWalk.i64_in _ (by omega)
      have i2 : (k : Int) - 1 = (j : Int) := by omega
      rw [show k - 1 = j by omega] at c0 hle
      have q0 : (0 : Int) ≤ (j : Int) := by omega
      have q1 : (j : Int) < (k : Int) := by omega
      have lbr : b < wr.heap.size := Nat.lt_of_lt_of_le hb hbk.size
      have Hj := Lib.hid hj
      clear hj
      have hd : decide (en < (rs j).t) = true := decide_eq_true hle
      generalize (rs j).t = tt at *
      have IE : Hid (∀ W : World, Calls Try.prog 51 #[.int .i64 en, .int .i64 0, .int .i64 4294967296] W fun e w' => e = .returned (.bool true) ∧ W = w') := Lib.hid fun W => by rw [← hIE]; exact refIn_any _ _ _ W
      have IS : Hid (∀ W : World, Calls Try.prog 51 #[.int .i64 sl, .int .i64 0, .int .i64 1000] W fun e w' => e = .returned (.bool true) ∧ W = w') := Lib.hid fun W => by rw [← hIS]; exact refIn_any _ _ _ W
      clear hIE hIS hbk
      obtain ⟨r0, r1, g0, g1, hz, hbw⟩ := RX.out
      go_wp2_with fail
      refine (IE.out _).mono ?_; rintro e w' ⟨rfl, rfl⟩
      go_wp2_with fail
      refine (IS.out _).mono ?_; rintro e w' ⟨rfl, rfl⟩
      go_wp2
      exact bodyPost_ret (v := .tuple #[.agg #[.int .i64 0, .int .i64 0], .int .i64 17]) (by simp [results, Try.results33, go_sem, set_same (i := 0) (v := .int .i64 0) r0, set_other (i := 1) (j := 0) (v := .int .i64 0) (by decide) (set_same (i := 0) (v := .int .i64 0) r0), set_same (i := 1) (v := .int .i64 0) (set_other (i := 0) (j := 1) (v := .int .i64 0) (by decide) r1)]) rfl ⟨rfl, ((hbw.setCell (p := ⟨w.heap.size, 0, none⟩) (by dsimp only; omega) _).setCell (p := ⟨w.heap.size, 1, none⟩) (by dsimp only; omega) _)⟩

end Go.Proofs.Ytdmbkhmhaininaa
