/-
  Sum of the reference.
-/
import Derived.Test.YtdmbkhmhaininaaRT
import Derived.Deep.Cut
import Derived.BigRegion
namespace Go.Proofs.Ytdmbkhmhaininaa
open Go.RowKit
set_option linter.unusedVariables false
set_option linter.unusedSimpArgs false

theorem RsW.keep2 {w W w1 : World} {C : Nat} (R : RsW w W) (hb : Below C W w1) (hC : w.heap.size < C) : RsW w w1 :=
  ⟨keepB hb hC R.r0, keepB hb hC R.r1, keepF hb hC R.g0, keepF hb hC R.g1, Nat.lt_of_lt_of_le R.z hb.size, R.b.trans (hb.mono (by omega))⟩

set_option maxRecDepth 100000 in
set_option maxHeartbeats 6400000 in
theorem refSum_ok (b off n cap : Nat) (rs : Nat → Rc) (en sl : Int) (w : World) (hk : RecOk n rs) (hl : n ≤ 1000000) (hs : RecsAt w b off n rs) (hb : b < w.heap.size) (hIE : inB en 0 4294967296 = true) (hIS : inB sl 0 1000 = true) (hle : (rs (n - 1)).t ≤ en) :
    Calls Try.prog 33 #[.slice (some ⟨b, off, none⟩) n cap, .int .i64 en, .int .i64 sl] w fun e w' => e = .returned (.tuple #[.agg #[.int .i64 (prL n rs en n * (1000 - sl) / 360000), .int .i64 (cdiv (prH n rs en n * (1000 + sl)) 360000)], .int .i64 0]) ∧ Below w.heap.size w w' := by
  have HS := Lib.hid hs
  clear hs
  have hn1 := hk.n1
  have d1 : ((n : Int) == 0) = false := by rw [beq_eq_false_iff_ne]; omega
  have HK := Lib.hid hk
  clear hk
  go_enter Try.func33, Try.ntmps33
  go_wp2
  go_loopw [8] (fun i wr => ∃ k : Nat, k ≤ n ∧ i = .int .i64 k ∧ RsW w wr) (fun i _ => n - (intOf i).toNat)
  case atStart => exact ⟨0, Nat.zero_le _, rfl, RsW.new w⟩
  case round =>
    obtain ⟨k, hk, rfl, hRW⟩ := hrel
    have RW := Lib.hid hRW
    have hbw := hRW.b
    by_cases hlt : k < n
    · have c0 := keepB hbw hb (HS.out k hlt).1
      have c1 := keepB hbw hb (HS.out k hlt).2.1
      have c2 := keepB hbw hb (HS.out k hlt).2.2
      have HC0 := Lib.hid (HS.out k hlt).1
      have HSj := Lib.hid (fun j (h : j < n) => HS.out j h)
      have HZ : Hid (∀ W : World, Calls Try.prog 51 #[.int .i64 (rs k).t, .int .i64 0, .int .i64 4294967296] W fun e w' => e = .returned (.bool true) ∧ W = w') := Lib.hid fun W => by rw [← inB_true.2 (HK.out.tb k hlt)]; exact refIn_any _ _ _ W
      have HR : Hid (∀ W : World, Calls Try.prog 53 #[.agg #[.int .i64 (rs k).lo, .int .i64 (rs k).hi], .int .i64 0, .int .i64 1000000] W fun e w' => e = .returned (.bool true) ∧ Below W.heap.size W w') := Lib.hid fun W => by rw [← spanB_true.2 (HK.out.rb k hlt)]; exact Valid_any _ _ _ _ W
      have q0 : (0 : Int) ≤ (k : Int) := by omega
      have q1 : (k : Int) < (n : Int) := by omega
      have i0 : IntKind.i64.wrap (k : Int) = (k : Int) := IntWalk.i64_in _ (by omega)
      have lbr : b < wr.heap.size := Nat.lt_of_lt_of_le hb hbw.size
      have Hp : Hid (∀ j, k = j + 1 → (rs j).t < (rs k).t) := Lib.hid (fun j h => by subst h; exact HK.out.asc j (by omega))
      generalize (rs k).t = t at *
      generalize (rs k).lo = lo at *
      generalize (rs k).hi = hi at *
      clear hbw hRW HS
      rcases Nat.eq_zero_or_pos k with hk0 | hk0
      · have y1 : decide (0 < (k : Int)) = false := decide_eq_false (by omega)
        have y1n : decide (0 < k) = false := decide_eq_false (by omega)
        have Hk := Lib.hid hk0
        clear hk0
        go_wp2_with fail
        refine (HZ.out _).mono ?_; rintro e w' ⟨rfl, rfl⟩
        go_wp2_with fail
        refine (HR.out _).mono ?_; rintro e X ⟨rfl, hbX⟩
        have RX := Lib.hid (RW.out.keep hbX)
        obtain ⟨r0, r1, g0, g1, hz, hbw⟩ := RX.out
        clear hbX
        go_wp2
        go_quiet (fail)
        go_wp2
        go_roundw
        case rel => exact ⟨k + 1, by omega, by go_num, RX.out.keep (drewN_below (Below.refl _ _) _)⟩
        case measure => simp [intOf]; omega
      · obtain ⟨j, hj⟩ : ∃ j, k = j + 1 := ⟨k - 1, by omega⟩
        have y1 : decide (0 < (k : Int)) = true := decide_eq_true (by omega)
        have y1n : decide (0 < k) = true := decide_eq_true (by omega)
        have q2 : 0 ≤ (k : Int) - 1 := by omega
        have q3 : (k : Int) - 1 < (n : Int) := by omega
        have t1 : ((k : Int) - 1).toNat = j := by omega
        have i1 : IntKind.i64.wrap ((k : Int) - 1) = (k : Int) - 1 := IntWalk.i64_in _ (by omega)
        have htt := Hp.out j hj
        have Hj := Lib.hid hj
        clear hj Hp hk0
        have x1 : decide (t ≤ (rs j).t) = false := decide_eq_false (by omega)
        go_wp2_with fail
        refine (HZ.out _).mono ?_; rintro e w' ⟨rfl, rfl⟩
        go_wp2_with fail
        refine (HR.out _).mono ?_; rintro e X ⟨rfl, hbX⟩
        have RX := Lib.hid (RW.out.keep hbX)
        obtain ⟨r0, r1, g0, g1, hz, hbw⟩ := RX.out
        clear hbX
        have lbX : b < X.heap.size := Nat.lt_of_lt_of_le hb hbw.size
        have p0 := keepB hbw hb (HSj.out j (by omega)).1
        have c0 := keepB hbw hb HC0.out
        generalize (rs j).t = tj at *
        go_wp2
        go_quiet (fail)
        go_wp2
        go_roundw
        case rel => exact ⟨k + 1, by omega, by go_num, RX.out.keep (drewN_below (Below.refl _ _) _)⟩
        case measure => simp [intOf]; omega
    · have hkn : k = n := by omega
      subst hkn
      have RX := RW
      have hbk := hRW.b
      clear hRW hbw RW
      obtain ⟨j, hj⟩ : ∃ j, k = j + 1 := ⟨k - 1, by omega⟩
      have c0 := keepB hbk hb (HS.out (k - 1) (by omega)).1
      have i1 : IntKind.i64.wrap ((k : Int) - 1) = (j : Int) := by rw [show (k : Int) - 1 = j by omega]; exact IntWalk.i64_in _ (by omega)
      have i2 : (k : Int) - 1 = (j : Int) := by omega
      rw [show k - 1 = j by omega] at c0 hle
      have q0 : (0 : Int) ≤ (j : Int) := by omega
      have q1 : (j : Int) < (k : Int) := by omega
      have lbr : b < wr.heap.size := Nat.lt_of_lt_of_le hb hbk.size
      have Hj := Lib.hid hj
      clear hj
      have hle0 : (rs (k - 1)).t ≤ en := by rw [show k - 1 = j by have := Hj.out; omega]; exact hle
      obtain ⟨s1, s2⟩ := inB_true.1 hIS
      obtain ⟨n1, n2⟩ := inB_true.1 hIE
      have hd : decide (en < (rs j).t) = false := decide_eq_false (by omega)
      have IE : Hid (∀ W : World, Calls Try.prog 51 #[.int .i64 en, .int .i64 0, .int .i64 4294967296] W fun e w' => e = .returned (.bool true) ∧ W = w') := Lib.hid fun W => by rw [← hIE]; exact refIn_any _ _ _ W
      have IS : Hid (∀ W : World, Calls Try.prog 51 #[.int .i64 sl, .int .i64 0, .int .i64 1000] W fun e w' => e = .returned (.bool true) ∧ W = w') := Lib.hid fun W => by rw [← hIS]; exact refIn_any _ _ _ W
      clear hIE hIS hbk hle
      have HLE := Lib.hid hle0
      clear hle0
      obtain ⟨r0, r1, g0, g1, hz, hbw⟩ := RX.out
      go_wp2_with fail
      refine (IE.out _).mono ?_; rintro e w' ⟨rfl, rfl⟩
      go_wp2_with fail
      refine (IS.out _).mono ?_; rintro e w' ⟨rfl, rfl⟩
      go_wp2
      clear r0 r1 g0 g1 hz hbw c0 i1 i2 q0 q1 hd IE IS
      go_loopw [9, 10, 11] (fun a c i wr2 => ∃ m : Nat, m ≤ k ∧ i = .int .i64 m ∧ a = .int .i64 (prL k rs en m * (1000 - sl)) ∧ c = .int .i64 (prH k rs en m * (1000 + sl)) ∧ RsW w wr2) (fun _ _ i _ => k - (intOf i).toNat)
      case atStart => exact ⟨0, Nat.zero_le _, rfl, by show _ = Value.int .i64 (0 * (1000 - sl)); rw [Int.zero_mul], by show _ = Value.int .i64 (0 * (1000 + sl)); rw [Int.zero_mul], RX.out⟩
      case round =>
        clear RX lbr
        obtain ⟨m, hm0, rfl, rfl, rfl, hRW⟩ := hrel
        have RW := Lib.hid hRW
        have hbk := hRW.b
        by_cases hm : m < k
        · have hle0 := HLE.out
          have tb := HK.out.tb m hm
          have rb := HK.out.rb m hm
          have sb := HK.out.sums_bd hle0 n2 (k := m) (by omega)
          have sb2 := HK.out.sums_bd hle0 n2 (k := m + 1) (by omega)
          have sx := HK.out.step hle0 hm
          have hrr := HK.out.rates hm
          have a1 := mul_bd (a := prL k rs en m) (b := 1000 - sl) (A := 4294967296000000) (B := 1000) sb.1 (by omega) (by omega) (by omega)
          have a2 := mul_bd (a := prH k rs en m) (b := 1000 + sl) (A := 4294967296000000) (B := 2000) (by omega) sb.2.2 (by omega) (by omega)
          have a3 := mul_bd (a := prL k rs en (m + 1)) (b := 1000 - sl) (A := 4294967296000000) (B := 1000) sb2.1 (by omega) (by omega) (by omega)
          have a4 := mul_bd (a := prH k rs en (m + 1)) (b := 1000 + sl) (A := 4294967296000000) (B := 2000) (by omega) sb2.2.2 (by omega) (by omega)
          have ux : unt k rs en m ≤ 4294967296 := by
            unfold unt
            by_cases h : m + 1 < k
            · rw [if_pos h]; exact (HK.out.tb (m + 1) h).2
            · rw [if_neg h]; exact n2
          have m1 := mul_bd (a := rlo k rs m) (b := 1000 - sl) (A := 1000000) (B := 1000) hrr.1 (by omega) (by omega) (by omega)
          have m2 := mul_bd (a := rhi k rs m) (b := 1000 + sl) (A := 1000000) (B := 2000) (by omega) (by omega) (by omega) (by omega)
          have m3 := mul_bd (a := rlo k rs m * (1000 - sl)) (b := unt k rs en m - (rs m).t) (A := 1000000 * 1000) (B := 4294967296) m1.1 m1.2 sx (by omega)
          have m4 := mul_bd (a := rhi k rs m * (1000 + sl)) (b := unt k rs en m - (rs m).t) (A := 1000000 * 2000) (B := 4294967296) m2.1 m2.2 sx (by omega)
          have HPS := Lib.hid (And.intro (prod_step (n := k) (rs := rs) (en := en) (1000 - sl) m) (prod_stepH (n := k) (rs := rs) (en := en) (1000 + sl) m))
          rw [HPS.out.1] at a3
          rw [HPS.out.2] at a4
          have c0 := keepB hbk hb (HS.out m hm).1
          have c1 := keepB hbk hb (HS.out m hm).2.1
          have c2 := keepB hbk hb (HS.out m hm).2.2
          have lbr : b < wr.heap.size := Nat.lt_of_lt_of_le hb hbk.size
          have q0 : (0 : Int) ≤ (m : Int) := by omega
          have q1 : (m : Int) < (k : Int) := by omega
          have i0 : IntKind.i64.wrap ((m : Int) + 1) = (m : Int) + 1 := IntWalk.i64_in _ (by omega)
          clear hle0 hRW
          by_cases hm2 : m + 1 < k
          · have z1 : rlo k rs m = min (rs m).lo (rs (m + 1)).lo := by unfold rlo; rw [if_pos hm2]
            have z2 : rhi k rs m = max (rs m).hi (rs (m + 1)).hi := by unfold rhi; rw [if_pos hm2]
            have z3 : unt k rs en m = (rs (m + 1)).t := by unfold unt; rw [if_pos hm2]
            have dl : decide ((m : Int) + 1 < (k : Int)) = true := decide_eq_true (by omega)
            have q2 : (0 : Int) ≤ (m : Int) + 1 := by omega
            have q3 : (m : Int) + 1 < (k : Int) := by omega
            have t1 : ((m : Int) + 1).toNat = m + 1 := by omega
            have w0 := keepB hbk hb (HS.out (m + 1) hm2).1
            have w1 := keepB hbk hb (HS.out (m + 1) hm2).2.1
            have w2 := keepB hbk hb (HS.out (m + 1) hm2).2.2
            have tb2 := HK.out.tb (m + 1) hm2
            have tb3 := HK.out.tb m hm
            rw [z3] at sx ux
            obtain ⟨SA, hSA⟩ : ∃ x, x = prL k rs en m * (1000 - sl) := ⟨_, rfl⟩
            obtain ⟨SB, hSB⟩ : ∃ x, x = prH k rs en m * (1000 + sl) := ⟨_, rfl⟩
            rw [← hSA] at a1 a3 HPS ⊢
            rw [← hSB] at a2 a4 HPS ⊢
            clear hSA hSB sb sb2 tb rb
            rw [z1] at m1 m3 a3 HPS
            rw [z2] at m2 m4 a4 HPS
            rw [z3] at m3 m4 a3 a4 HPS
            clear z1 z2 z3 hrr
            obtain ⟨LO, hLO⟩ : ∃ x, x = min (rs m).lo (rs (m + 1)).lo := ⟨_, rfl⟩
            obtain ⟨HI, hHI⟩ : ∃ x, x = max (rs m).hi (rs (m + 1)).hi := ⟨_, rfl⟩
            rw [← hLO] at m1 m3 a3 HPS
            rw [← hHI] at m2 m4 a4 HPS
            generalize (rs m).t = t at *
            generalize (rs m).lo = lo at *
            generalize (rs m).hi = hi at *
            generalize (rs (m + 1)).t = t2 at *
            generalize (rs (m + 1)).lo = lo2 at *
            generalize (rs (m + 1)).hi = hi2 at *
            have y1 : (if lo < lo2 then lo else lo2) = LO := by rw [hLO]; split <;> omega
            have y2 : (if lo2 < lo then lo2 else lo) = LO := by rw [hLO]; split <;> omega
            have y3 : (if hi2 < hi then hi else hi2) = HI := by rw [hHI]; split <;> omega
            have y4 : (if hi < hi2 then hi2 else hi) = HI := by rw [hHI]; split <;> omega
            have y5 : min lo lo2 = LO := hLO.symm
            have y6 : max hi hi2 = HI := hHI.symm
            clear hLO hHI
            obtain ⟨dt, hdt⟩ : ∃ x, x = t2 - t := ⟨_, rfl⟩
            rw [← hdt] at m3 m4 a3 a4 HPS sx
            have v1 : t2 - t = dt := hdt.symm
            have v2 : IntKind.i64.wrap (t2 - t) = dt := by rw [v1]; exact IntWalk.i64_in _ (by omega)
            have v3 : IntKind.i64.wrap (en - t) = en - t := IntWalk.i64_in _ (by omega)
            clear hdt
            go_upto_region 18 with fail
            go_region
            go_wp2_with fail
            obtain ⟨E, hE⟩ : ∃ E, E = (wr.alloc (.cells #[.int .i64 lo, .int .i64 hi] 24)).drew := ⟨_, rfl⟩
            obtain ⟨p, hp⟩ : ∃ p, p = wr.heap.size := ⟨_, rfl⟩
            have bE : Below wr.heap.size wr E := by rw [hE]; exact (below_alloc _ _).drew
            have x0 : E.cell? ⟨p, 0, none⟩ = some (.int .i64 lo) := by rw [hE, hp]; exact (alloc_new rfl rfl : (wr.alloc (.cells #[.int .i64 lo, .int .i64 hi] 24)).cell? ⟨wr.heap.size, 0, none⟩ = _)
            have x1 : E.cell? ⟨p, 1, none⟩ = some (.int .i64 hi) := by rw [hE, hp]; exact (alloc_new rfl rfl : (wr.alloc (.cells #[.int .i64 lo, .int .i64 hi] 24)).cell? ⟨wr.heap.size, 1, none⟩ = _)
            have x2 : E.frozen? ⟨p, 0, none⟩ = false := by rw [hE, hp]; exact (alloc_newF rfl : (wr.alloc (.cells #[.int .i64 lo, .int .i64 hi] 24)).frozen? ⟨wr.heap.size, 0, none⟩ = _)
            have x3 : E.frozen? ⟨p, 1, none⟩ = false := by rw [hE, hp]; exact (alloc_newF rfl : (wr.alloc (.cells #[.int .i64 lo, .int .i64 hi] 24)).frozen? ⟨wr.heap.size, 1, none⟩ = _)
            have pE : p < E.heap.size := World.block_lt_of_cell? _ ⟨p, 0, none⟩ x0
            have RE := Lib.hid (RW.out.keep bE)
            have w0 := keepB bE lbr w0
            have w1 := keepB bE lbr w1
            have w2 := keepB bE lbr w2
            have c0 := keepB bE lbr c0
            have bp : b < p := by omega
            have wp : w.heap.size < p := by have := RW.out.z; omega
            rw [← hE, ← hp]
            clear hE hp bE c1 c2 lbr RW hbk
            have HS20 := Lib.hid (show (fun w' : World => w'.cell? ⟨p, 0, none⟩ = some (.int .i64 lo) ∧ w'.cell? ⟨p, 1, none⟩ = some (.int .i64 hi) ∧ w'.cell? ⟨b, off + (m + 1) * 3 + 1, none⟩ = some (.int .i64 lo2) ∧ w'.cell? ⟨b, off + (m + 1) * 3 + 2, none⟩ = some (.int .i64 hi2) ∧ Below E.drew.heap.size E.drew w') E.drew from ⟨x0, x1, w1, w2, Below.refl _ _⟩)
            refine wp_region_held_tail (S := (fun w' : World => w'.cell? ⟨p, 0, none⟩ = some (.int .i64 lo) ∧ w'.cell? ⟨p, 1, none⟩ = some (.int .i64 hi) ∧ w'.cell? ⟨b, off + (m + 1) * 3 + 1, none⟩ = some (.int .i64 lo2) ∧ w'.cell? ⟨b, off + (m + 1) * 3 + 2, none⟩ = some (.int .i64 hi2) ∧ Below E.drew.heap.size E.drew w')) 21 (by kernel_rfl) (by kernel_rfl) HS20.out (fun hHeld => ?_)
            refine wpAnyH_take (i := 0) (v := ?v0_1) rfl (by kernel_rfl) (by kernel_rfl) (by kernel_rfl) (fun _ _ _ h => h) (Or.inl ⟨by rfl, ?hy0_1⟩) (by assumption) ?rest0_1
            case hy0_1 => (intro w hSw; (try dsimp only at hSw); go_simp; (try with_reducible rfl))
            try simp only [Act.put, List.getElem_toArray, List.getElem_cons_zero, List.getElem_cons_succ, List.setIfInBounds_toArray, List.set_cons_zero, List.set_cons_succ]
            refine wpAnyH_take (i := 1) (v := ?v1_2) rfl (by kernel_rfl) (by kernel_rfl) (by kernel_rfl) (fun _ _ _ h => h) (Or.inl ⟨by rfl, ?hy1_2⟩) (by assumption) ?rest1_2
            case hy1_2 => (intro w hSw; (try dsimp only at hSw); go_simp; (try with_reducible rfl))
            try simp only [Act.put, List.getElem_toArray, List.getElem_cons_zero, List.getElem_cons_succ, List.setIfInBounds_toArray, List.set_cons_zero, List.set_cons_succ]
            refine wpAnyH_take (i := 2) (v := ?v2_3) rfl (by kernel_rfl) (by kernel_rfl) (by kernel_rfl) (fun _ _ _ h => h) (Or.inl ⟨by rfl, ?hy2_3⟩) (by assumption) ?rest2_3
            case hy2_3 => (intro w hSw; (try dsimp only at hSw); go_simp; (try with_reducible rfl))
            try simp only [Act.put, List.getElem_toArray, List.getElem_cons_zero, List.getElem_cons_succ, List.setIfInBounds_toArray, List.set_cons_zero, List.set_cons_succ]
            refine wpAnyH_take (i := 3) (v := ?v3_4) rfl (by kernel_rfl) (by kernel_rfl) (by kernel_rfl) (fun _ _ _ h => h) (Or.inl ⟨by rfl, ?hy3_4⟩) (by assumption) ?rest3_4
            case hy3_4 => (intro w hSw; (try dsimp only at hSw); go_simp; (try with_reducible rfl))
            try simp only [Act.put, List.getElem_toArray, List.getElem_cons_zero, List.getElem_cons_succ, List.setIfInBounds_toArray, List.set_cons_zero, List.set_cons_succ]
            refine wpAnyH_take (i := 4) (v := ?v4_5) rfl (by kernel_rfl) (by kernel_rfl) (by kernel_rfl) (fun _ _ _ h => h) (Or.inl ⟨by rfl, ?hy4_5⟩) (by assumption) ?rest4_5
            case hy4_5 => (intro w hSw; (try dsimp only at hSw); go_simp; (try with_reducible rfl))
            try simp only [Act.put, List.getElem_toArray, List.getElem_cons_zero, List.getElem_cons_succ, List.setIfInBounds_toArray, List.set_cons_zero, List.set_cons_succ]
            refine wpAnyH_take (i := 5) (v := ?v5_6) rfl (by kernel_rfl) (by kernel_rfl) (by kernel_rfl) (fun _ _ _ h => h) (Or.inl ⟨by rfl, ?hy5_6⟩) (by assumption) ?rest5_6
            case hy5_6 => (intro w hSw; (try dsimp only at hSw); go_simp; (try with_reducible rfl))
            try simp only [Act.put, List.getElem_toArray, List.getElem_cons_zero, List.getElem_cons_succ, List.setIfInBounds_toArray, List.set_cons_zero, List.set_cons_succ]
            refine wpAnyH_take (i := 6) (v := ?v6_7) rfl (by kernel_rfl) (by kernel_rfl) (by kernel_rfl) (fun _ _ _ h => h) (Or.inl ⟨by rfl, ?hy6_7⟩) (by assumption) ?rest6_7
            case hy6_7 => (intro w hSw; (try dsimp only at hSw); go_simp; (try with_reducible rfl))
            try simp only [Act.put, List.getElem_toArray, List.getElem_cons_zero, List.getElem_cons_succ, List.setIfInBounds_toArray, List.set_cons_zero, List.set_cons_succ]
            refine wpAnyH_take (i := 7) (v := ?v7_8) rfl (by kernel_rfl) (by kernel_rfl) (by kernel_rfl) (fun _ _ _ h => h) (Or.inl ⟨by rfl, ?hy7_8⟩) (by assumption) ?rest7_8
            case hy7_8 => (intro w hSw; (try dsimp only at hSw); go_simp; (try with_reducible rfl))
            try simp only [Act.put, List.getElem_toArray, List.getElem_cons_zero, List.getElem_cons_succ, List.setIfInBounds_toArray, List.set_cons_zero, List.set_cons_succ]
            refine wpAnyH_take (i := 8) (v := ?v8_9) rfl (by kernel_rfl) (by kernel_rfl) (by kernel_rfl) (fun _ _ _ h => h) (Or.inl ⟨by rfl, ?hy8_9⟩) (by assumption) ?rest8_9
            case hy8_9 => (intro w hSw; (try dsimp only at hSw); go_simp; (try with_reducible rfl))
            try simp only [Act.put, List.getElem_toArray, List.getElem_cons_zero, List.getElem_cons_succ, List.setIfInBounds_toArray, List.set_cons_zero, List.set_cons_succ]
            refine wpAnyH_take (i := 9) (v := ?v9_10) rfl (by kernel_rfl) (by kernel_rfl) (by kernel_rfl) (fun _ _ _ h => h) (Or.inl ⟨by rfl, ?hy9_10⟩) (by assumption) ?rest9_10
            case hy9_10 => (intro w hSw; (try dsimp only at hSw); go_simp; (try with_reducible rfl))
            try simp only [Act.put, List.getElem_toArray, List.getElem_cons_zero, List.getElem_cons_succ, List.setIfInBounds_toArray, List.set_cons_zero, List.set_cons_succ]
            refine wpAnyH_take (i := 10) (v := ?v10_11) rfl (by kernel_rfl) (by kernel_rfl) (by kernel_rfl) (fun _ _ _ h => h) (Or.inl ⟨by rfl, ?hy10_11⟩) (by assumption) ?rest10_11
            case hy10_11 => (intro w hSw; (try dsimp only at hSw); go_simp; (try with_reducible rfl))
            try simp only [Act.put, List.getElem_toArray, List.getElem_cons_zero, List.getElem_cons_succ, List.setIfInBounds_toArray, List.set_cons_zero, List.set_cons_succ]
            refine wpAnyH_take (i := 11) (v := ?v11_12) rfl (by kernel_rfl) (by kernel_rfl) (by kernel_rfl) (fun _ _ _ h => h) (Or.inl ⟨by rfl, ?hy11_12⟩) (by assumption) ?rest11_12
            case hy11_12 => (intro w hSw; (try dsimp only at hSw); go_simp; (try with_reducible rfl))
            try simp only [Act.put, List.getElem_toArray, List.getElem_cons_zero, List.getElem_cons_succ, List.setIfInBounds_toArray, List.set_cons_zero, List.set_cons_succ]
            refine wpAnyH_take (i := 12) (v := ?v12_13) rfl (by kernel_rfl) (by kernel_rfl) (by kernel_rfl) (fun _ _ _ h => h) (Or.inl ⟨by rfl, ?hy12_13⟩) (by assumption) ?rest12_13
            case hy12_13 => (intro w hSw; (try dsimp only at hSw); go_simp; (try with_reducible rfl))
            try simp only [Act.put, List.getElem_toArray, List.getElem_cons_zero, List.getElem_cons_succ, List.setIfInBounds_toArray, List.set_cons_zero, List.set_cons_succ]
            refine wpAnyH_take (i := 13) (v := ?v13_14) rfl (by kernel_rfl) (by kernel_rfl) (by kernel_rfl) (fun _ _ _ h => h) (Or.inl ⟨by rfl, ?hy13_14⟩) (by assumption) ?rest13_14
            case hy13_14 => (intro w hSw; (try dsimp only at hSw); go_simp; (try with_reducible rfl))
            try simp only [Act.put, List.getElem_toArray, List.getElem_cons_zero, List.getElem_cons_succ, List.setIfInBounds_toArray, List.set_cons_zero, List.set_cons_succ]
            refine wpAnyH_take (i := 14) (v := ?v14_15) rfl (by kernel_rfl) (by kernel_rfl) (by kernel_rfl) (fun _ _ _ h => h) (Or.inl ⟨by rfl, ?hy14_15⟩) (by assumption) ?rest14_15
            case hy14_15 => (intro w hSw; (try dsimp only at hSw); go_simp; (try with_reducible rfl))
            try simp only [Act.put, List.getElem_toArray, List.getElem_cons_zero, List.getElem_cons_succ, List.setIfInBounds_toArray, List.set_cons_zero, List.set_cons_succ]
            refine wpAnyH_take (i := 15) (v := ?v15_16) rfl (by kernel_rfl) (by kernel_rfl) (by kernel_rfl) (fun _ _ _ h => h) (Or.inl ⟨by rfl, ?hy15_16⟩) (by assumption) ?rest15_16
            case hy15_16 => (intro w hSw; (try dsimp only at hSw); go_simp; (try with_reducible rfl))
            try simp only [Act.put, List.getElem_toArray, List.getElem_cons_zero, List.getElem_cons_succ, List.setIfInBounds_toArray, List.set_cons_zero, List.set_cons_succ]
            refine wpAnyH_take (i := 16) (v := ?v16_17) rfl (by kernel_rfl) (by kernel_rfl) (by kernel_rfl) (fun _ _ _ h => h) (Or.inl ⟨by rfl, ?hy16_17⟩) (by assumption) ?rest16_17
            case hy16_17 => (intro w hSw; (try dsimp only at hSw); go_simp; (try with_reducible rfl))
            try simp only [Act.put, List.getElem_toArray, List.getElem_cons_zero, List.getElem_cons_succ, List.setIfInBounds_toArray, List.set_cons_zero, List.set_cons_succ]
            refine wpAnyH_take (i := 17) (v := ?v17_18) rfl (by kernel_rfl) (by kernel_rfl) (by kernel_rfl) (fun _ _ _ h => h) (Or.inl ⟨by rfl, ?hy17_18⟩) (by assumption) ?rest17_18
            case hy17_18 => (intro w hSw; (try dsimp only at hSw); go_simp; (try with_reducible rfl))
            try simp only [Act.put, List.getElem_toArray, List.getElem_cons_zero, List.getElem_cons_succ, List.setIfInBounds_toArray, List.set_cons_zero, List.set_cons_succ]
            refine wpAnyH_take (i := 18) (v := ?v18_19) rfl (by kernel_rfl) (by kernel_rfl) (by kernel_rfl) (fun _ _ _ h => h) (Or.inl ⟨by rfl, ?hy18_19⟩) (by assumption) ?rest18_19
            case hy18_19 => (intro w hSw; (try dsimp only at hSw); go_simp; (try with_reducible rfl))
            try simp only [Act.put, List.getElem_toArray, List.getElem_cons_zero, List.getElem_cons_succ, List.setIfInBounds_toArray, List.set_cons_zero, List.set_cons_succ]
            refine wpAnyH_take (i := 19) (v := ?v19_20) rfl (by kernel_rfl) (by kernel_rfl) (by kernel_rfl) (fun _ _ _ h => h) (Or.inl ⟨by rfl, ?hy19_20⟩) (by assumption) ?rest19_20
            case hy19_20 => (intro w hSw; (try dsimp only at hSw); go_simp; (try with_reducible rfl))
            try simp only [Act.put, List.getElem_toArray, List.getElem_cons_zero, List.getElem_cons_succ, List.setIfInBounds_toArray, List.set_cons_zero, List.set_cons_succ]
            refine wpAnyH_take (i := 20) (v := ?v20_21) rfl (by kernel_rfl) (by kernel_rfl) (by kernel_rfl) (fun _ _ _ h => h) (Or.inl ⟨by rfl, ?hy20_21⟩) (by assumption) ?rest20_21
            case hy20_21 => (intro w hSw; (try dsimp only at hSw); go_simp; (try with_reducible rfl))
            try simp only [Act.put, List.getElem_toArray, List.getElem_cons_zero, List.getElem_cons_succ, List.setIfInBounds_toArray, List.set_cons_zero, List.set_cons_succ]
            refine wpAnyH_done (by kernel_rfl) ?_ _
            change wpList _ _ _ _ _ _
            simp only [List.drop_succ_cons, List.drop_zero]
            obtain ⟨h0, h1, h2, h3, hb4⟩ := hHeld
            have x2 : E.drew.frozen? ⟨p, 0, none⟩ = false := x2
            have x3 : E.drew.frozen? ⟨p, 1, none⟩ = false := x3
            have RE := Lib.hid (RE.out.keep (Below.refl E.heap.size E).drew)
            have w0 : E.drew.cell? ⟨b, off + (m + 1) * 3, none⟩ = some (.int .i64 t2) := w0
            have c0 : E.drew.cell? ⟨b, off + m * 3, none⟩ = some (.int .i64 t) := c0
            have pE : p < E.drew.heap.size := pE
            obtain ⟨V, hV⟩ : ∃ V, V = E.drew := ⟨_, rfl⟩
            rw [← hV] at h0 h1 h2 h3 x2 x3 RE w0 c0 pE ⊢
            clear hV hb4 HS20
            go_wp2_with fail
            obtain ⟨G, hG⟩ : ∃ G, G = (V.setCell ⟨p, 0, none⟩ (.int .i64 LO)).setCell ⟨p, 1, none⟩ (.int .i64 HI) := ⟨_, rfl⟩
            have bG : Below p V G := by rw [hG]; exact ((Below.refl p V).setCell (p := ⟨p, 0, none⟩) (Nat.le_refl _) _).setCell (p := ⟨p, 1, none⟩) (Nat.le_refl _) _
            have z0 : G.cell? ⟨p, 0, none⟩ = some (.int .i64 LO) := by rw [hG]; exact set_other (by decide) (set_same h0)
            have z1 : G.cell? ⟨p, 1, none⟩ = some (.int .i64 HI) := by rw [hG]; exact set_same (set_other (by decide) h1)
            have w0 := keepB bG bp w0
            have c0 := keepB bG bp c0
            have RG := Lib.hid (RsW.keep2 RE.out bG wp)
            have pG : p < G.heap.size := World.block_lt_of_cell? _ ⟨p, 0, none⟩ z0
            have lG : b < G.heap.size := by omega
            rw [← hG]
            clear hG bG h0 h1 h2 h3 x0 x1 x2 x3 w1 w2 RE y1 y2 y3 y4 y5 y6
            go_quiet (fail)
            have bF : Below G.heap.size G (G.drewN nq) := drewN_below (Below.refl _ _) nq
            obtain ⟨F, hF⟩ : ∃ F, F = G.drewN nq := ⟨_, rfl⟩
            rw [← hF] at bF ⊢
            have z0 := keepB bF pG z0
            have z1 := keepB bF pG z1
            have RF := Lib.hid (RG.out.keep bF)
            have pF : p < F.heap.size := Nat.lt_of_lt_of_le pG bF.size
            clear hF bF RG w0 c0 v1 v2 v3 t1 i0
            obtain ⟨R1, hR1⟩ : ∃ x, x = LO * (1000 - sl) := ⟨_, rfl⟩
            obtain ⟨R2, hR2⟩ : ∃ x, x = HI * (1000 + sl) := ⟨_, rfl⟩
            rw [← hR1] at m1 m3 a3 HPS
            rw [← hR2] at m2 m4 a4 HPS
            obtain ⟨T1, hT1⟩ : ∃ x, x = R1 * dt := ⟨_, rfl⟩
            obtain ⟨T2, hT2⟩ : ∃ x, x = R2 * dt := ⟨_, rfl⟩
            rw [← hT1] at m3 a3 HPS
            rw [← hT2] at m4 a4 HPS
            have e1 : LO * (1000 - sl) = R1 := hR1.symm
            have e2 : HI * (1000 + sl) = R2 := hR2.symm
            have e3 : R1 * dt = T1 := hT1.symm
            have e4 : R2 * dt = T2 := hT2.symm
            have f1 : IntKind.i64.wrap R1 = R1 := IntWalk.i64_in _ (by omega)
            have f2 : IntKind.i64.wrap R2 = R2 := IntWalk.i64_in _ (by omega)
            have f3 : IntKind.i64.wrap T1 = T1 := IntWalk.i64_in _ (by omega)
            have f4 : IntKind.i64.wrap T2 = T2 := IntWalk.i64_in _ (by omega)
            have f5 : IntKind.i64.wrap (LO * (1000 - sl)) = R1 := by rw [e1]; exact f1
            have f6 : IntKind.i64.wrap (HI * (1000 + sl)) = R2 := by rw [e2]; exact f2
            have f7 : IntKind.i64.wrap (R1 * dt) = T1 := by rw [e3]; exact f3
            have f8 : IntKind.i64.wrap (R2 * dt) = T2 := by rw [e4]; exact f4
            have f9 : IntKind.i64.wrap (1000 - sl) = 1000 - sl := IntWalk.i64_in _ (by omega)
            have f10 : IntKind.i64.wrap (1000 + sl) = 1000 + sl := IntWalk.i64_in _ (by omega)
            have f11 : IntKind.i64.wrap (SA + T1) = SA + T1 := IntWalk.i64_in _ (by omega)
            have f12 : IntKind.i64.wrap (SB + T2) = SB + T2 := IntWalk.i64_in _ (by omega)
            clear hR1 hR2 hT1 hT2
            go_wp2
            go_roundw
            case rel => exact ⟨m + 1, by omega, by go_num, by rw [HPS.out.1], by rw [HPS.out.2], RF.out⟩
            case measure => simp [intOf]; omega
          · have z1 : rlo k rs m = (rs m).lo := by unfold rlo; rw [if_neg hm2]
            have z2 : rhi k rs m = (rs m).hi := by unfold rhi; rw [if_neg hm2]
            have z3 : unt k rs en m = en := by unfold unt; rw [if_neg hm2]
            have dl : decide ((m : Int) + 1 < (k : Int)) = false := decide_eq_false (by omega)
            have tb3 := HK.out.tb m hm
            rw [z3] at sx ux
            obtain ⟨SA, hSA⟩ : ∃ x, x = prL k rs en m * (1000 - sl) := ⟨_, rfl⟩
            obtain ⟨SB, hSB⟩ : ∃ x, x = prH k rs en m * (1000 + sl) := ⟨_, rfl⟩
            rw [← hSA] at a1 a3 HPS ⊢
            rw [← hSB] at a2 a4 HPS ⊢
            clear hSA hSB sb sb2 tb rb
            rw [z1] at m1 m3 a3 HPS
            rw [z2] at m2 m4 a4 HPS
            rw [z3] at m3 m4 a3 a4 HPS
            clear z1 z2 z3 hrr
            generalize (rs m).t = t at *
            generalize (rs m).lo = LO at *
            generalize (rs m).hi = HI at *
            obtain ⟨dt, hdt⟩ : ∃ x, x = en - t := ⟨_, rfl⟩
            rw [← hdt] at m3 m4 a3 a4 HPS sx
            have v1 : en - t = dt := hdt.symm
            have v3 : IntKind.i64.wrap (en - t) = dt := by rw [v1]; exact IntWalk.i64_in _ (by omega)
            clear hdt
            go_upto_region 18 with fail
            go_region
            go_upto_region 22 with fail
            obtain ⟨F, hE⟩ : ∃ E, E = (wr.alloc (.cells #[.int .i64 LO, .int .i64 HI] 24)).drew := ⟨_, rfl⟩
            obtain ⟨p, hp⟩ : ∃ p, p = wr.heap.size := ⟨_, rfl⟩
            have bE : Below wr.heap.size wr F := by rw [hE]; exact (below_alloc _ _).drew
            have z0 : F.cell? ⟨p, 0, none⟩ = some (.int .i64 LO) := by rw [hE, hp]; exact (alloc_new rfl rfl : (wr.alloc (.cells #[.int .i64 LO, .int .i64 HI] 24)).cell? ⟨wr.heap.size, 0, none⟩ = _)
            have z1 : F.cell? ⟨p, 1, none⟩ = some (.int .i64 HI) := by rw [hE, hp]; exact (alloc_new rfl rfl : (wr.alloc (.cells #[.int .i64 LO, .int .i64 HI] 24)).cell? ⟨wr.heap.size, 1, none⟩ = _)
            have pF : p < F.heap.size := World.block_lt_of_cell? _ ⟨p, 0, none⟩ z0
            have RF := Lib.hid (RW.out.keep bE)
            rw [← hE, ← hp]
            clear hE hp bE c0 c1 c2 lbr RW hbk v1 v3 i0
            obtain ⟨R1, hR1⟩ : ∃ x, x = LO * (1000 - sl) := ⟨_, rfl⟩
            obtain ⟨R2, hR2⟩ : ∃ x, x = HI * (1000 + sl) := ⟨_, rfl⟩
            rw [← hR1] at m1 m3 a3 HPS
            rw [← hR2] at m2 m4 a4 HPS
            obtain ⟨T1, hT1⟩ : ∃ x, x = R1 * dt := ⟨_, rfl⟩
            obtain ⟨T2, hT2⟩ : ∃ x, x = R2 * dt := ⟨_, rfl⟩
            rw [← hT1] at m3 a3 HPS
            rw [← hT2] at m4 a4 HPS
            have e1 : LO * (1000 - sl) = R1 := hR1.symm
            have e2 : HI * (1000 + sl) = R2 := hR2.symm
            have e3 : R1 * dt = T1 := hT1.symm
            have e4 : R2 * dt = T2 := hT2.symm
            have f1 : IntKind.i64.wrap R1 = R1 := IntWalk.i64_in _ (by omega)
            have f2 : IntKind.i64.wrap R2 = R2 := IntWalk.i64_in _ (by omega)
            have f3 : IntKind.i64.wrap T1 = T1 := IntWalk.i64_in _ (by omega)
            have f4 : IntKind.i64.wrap T2 = T2 := IntWalk.i64_in _ (by omega)
            have f5 : IntKind.i64.wrap (LO * (1000 - sl)) = R1 := by rw [e1]; exact f1
            have f6 : IntKind.i64.wrap (HI * (1000 + sl)) = R2 := by rw [e2]; exact f2
            have f7 : IntKind.i64.wrap (R1 * dt) = T1 := by rw [e3]; exact f3
            have f8 : IntKind.i64.wrap (R2 * dt) = T2 := by rw [e4]; exact f4
            have f9 : IntKind.i64.wrap (1000 - sl) = 1000 - sl := IntWalk.i64_in _ (by omega)
            have f10 : IntKind.i64.wrap (1000 + sl) = 1000 + sl := IntWalk.i64_in _ (by omega)
            have f11 : IntKind.i64.wrap (SA + T1) = SA + T1 := IntWalk.i64_in _ (by omega)
            have f12 : IntKind.i64.wrap (SB + T2) = SB + T2 := IntWalk.i64_in _ (by omega)
            clear hR1 hR2 hT1 hT2
            go_wp2
            go_roundw
            case rel => exact ⟨m + 1, by omega, by go_num, by rw [HPS.out.1], by rw [HPS.out.2], RF.out⟩
            case measure => simp [intOf]; omega
        · have hmk : m = k := by omega
          subst hmk
          have sb := HK.out.sums_bd HLE.out n2 (k := m) (by omega)
          have a1 := mul_bd (a := prL m rs en m) (b := 1000 - sl) (A := 4294967296000000) (B := 1000) sb.1 (by omega) (by omega) (by omega)
          have a2 := mul_bd (a := prH m rs en m) (b := 1000 + sl) (A := 4294967296000000) (B := 2000) (by omega) sb.2.2 (by omega) (by omega)
          obtain ⟨r0, r1, g0, g1, hz, hbw⟩ := hRW
          generalize hSA : prL m rs en m * (1000 - sl) = SA at *
          generalize hSB : prH m rs en m * (1000 + sl) = SB at *
          have HSA := Lib.hid (And.intro hSA hSB)
          clear hSA hSB
          have HD := Lib.hid (fun W => Down_any SA 360000 W (by decide) (by omega) (by omega))
          have HU := Lib.hid (fun W => Up_any SB 360000 W (by decide) (by omega) (by omega))
          generalize hQA : SA / 360000 = QA at HD
          generalize hQB : cdiv SB 360000 = QB at HU
          have HQA := Lib.hid (And.intro hQA hQB)
          clear hQA hQB
          clear RW hbk HS HK HLE
          go_wp2_with fail
          refine (HD.out _).mono ?_; rintro e w' ⟨rfl, rfl⟩
          go_wp2_with fail
          refine (HU.out _).mono ?_; rintro e w' ⟨rfl, rfl⟩
          go_wp2
          exact bodyPost_ret (v := .tuple #[.agg #[.int .i64 QA, .int .i64 QB], .int .i64 0]) (by simp [results, Try.results33, go_sem, set_same (i := 0) (v := .int .i64 QA) r0, set_other (i := 1) (j := 0) (v := .int .i64 QB) (by decide) (set_same (i := 0) (v := .int .i64 QA) r0), set_same (i := 1) (v := .int .i64 QB) (set_other (i := 0) (j := 1) (v := .int .i64 QA) (by decide) r1)]) rfl ⟨by rw [HSA.out.1, HSA.out.2, HQA.out.1, HQA.out.2], ((hbw.setCell (p := ⟨w.heap.size, 0, none⟩) (by dsimp only; omega) _).setCell (p := ⟨w.heap.size, 1, none⟩) (by dsimp only; omega) _)⟩

theorem refSum_any (a : Option Addr) (n cap : Nat) (rs : Nat → Rc) (en sl : Int) (w : World) (hl : n ≤ 1000000) (hs : RecsIs w a n rs) :
    Calls Try.prog 33 #[.slice a n cap, .int .i64 en, .int .i64 sl] w fun e w' => e = .returned (.tuple #[.agg #[.int .i64 (smL n rs en sl), .int .i64 (smH n rs en sl)], .int .i64 (smE n rs en sl)]) ∧ Below w.heap.size w w' := by
  have z : ∀ e, smE n rs en sl = e → e ≠ 0 → smL n rs en sl = 0 ∧ smH n rs en sl = 0 := fun e he hne => by unfold smL smH; rw [he, if_neg hne, if_neg hne]; exact ⟨rfl, rfl⟩
  by_cases h0 : n = 0
  · subst h0
    have hr : recC 0 rs = 18 := by unfold recC; rw [if_pos rfl]
    have e : smE 0 rs en sl = 18 := by unfold smE; rw [hr, if_neg (by decide)]
    rw [e, (z 18 e (by decide)).1, (z 18 e (by decide)).2]
    exact refSum_nil a cap en sl w
  rcases hs with h | ⟨b, off, rfl, hb, hs⟩
  · exact absurd h h0
  have hrc : recC n rs = firstE (recE rs) n := by unfold recC; rw [if_neg h0]
  by_cases h : recC n rs = 0
  · have hk := rec_ok h
    cases hIE : inB en 0 4294967296
    · have e : smE n rs en sl = 3 := by unfold smE; rw [if_pos h, hIE]; rfl
      rw [e, (z 3 e (by decide)).1, (z 3 e (by decide)).2]
      exact refSum_end b off n cap rs en sl w hk hl hs hb hIE
    cases hIS : inB sl 0 1000
    · have e : smE n rs en sl = 3 := by unfold smE; rw [if_pos h, hIE, hIS]; rfl
      rw [e, (z 3 e (by decide)).1, (z 3 e (by decide)).2]
      exact refSum_slack b off n cap rs en sl w hk hl hs hb hIE hIS
    by_cases hle : (rs (n - 1)).t ≤ en
    · have e : smE n rs en sl = 0 := by unfold smE; rw [if_pos h, hIE, hIS]; simp only [Bool.and_true, if_true]; rw [if_pos hle]
      have e2 : smL n rs en sl = prL n rs en n * (1000 - sl) / 360000 ∧ smH n rs en sl = cdiv (prH n rs en n * (1000 + sl)) 360000 := by unfold smL smH; rw [if_pos e, if_pos e]; exact ⟨rfl, rfl⟩
      rw [e, e2.1, e2.2]
      exact refSum_ok b off n cap rs en sl w hk hl hs hb hIE hIS hle
    · have e : smE n rs en sl = 17 := by unfold smE; rw [if_pos h, hIE, hIS]; simp only [Bool.and_true, if_true]; rw [if_neg hle]
      rw [e, (z 17 e (by decide)).1, (z 17 e (by decide)).2]
      exact refSum_late b off n cap rs en sl w hk hl hs hb hIE hIS (by omega)
  · have e : smE n rs en sl = recC n rs := by unfold smE; rw [if_neg h]
    rw [e, (z _ e h).1, (z _ e h).2, hrc]
    exact refSum_recs b off n cap rs en sl w (by omega) hl hs hb (by rw [← hrc]; exact h)

end Go.Proofs.Ytdmbkhmhaininaa
