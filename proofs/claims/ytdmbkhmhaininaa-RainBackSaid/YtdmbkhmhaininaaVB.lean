/-
  RainBack, walked.
-/
import Derived.Test.YtdmbkhmhaininaaBB
import Derived.Test.YtdmbkhmhaininaaDS
import Derived.Test.YtdmbkhmhaininaaWK
import Derived.Maps.AppendAt
import Derived.Deep.AppendLies
import Derived.Deep.Cut
import Derived.Deep.CutRange
namespace Go.Proofs.Ytdmbkhmhaininaa
open Go.RowKit
set_option linter.unusedVariables false
set_option linter.unusedSimpArgs false

theorem u32_wrap {v : Int} (h1 : 0 ≤ v) (h2 : v < 4294967296) : IntKind.u32.wrap v = v := IntWalk.u32_in v (by omega)
set_option maxRecDepth 100000 in
set_option maxHeartbeats 3200000 in
theorem RainBack_big (pa : Option Addr) (pn pc : Nat) (na : Option Addr) (nn nc : Nat) (ca : Option Addr) (cn cc : Nat) (ga : Option Addr) (gn gc : Nat) (w : World) (hb : pn ≤ maxLen ∧ nn ≤ maxLen) (h : 100 < pn ∨ 60 < nn) :
    Calls Try.prog 8 #[.slice pa pn pc, .slice na nn nc, .slice ca cn cc, .slice ga gn gc] w fun e w' => e = .returned (.bool true) ∧ Below w.heap.size w w' := by
  unfold maxLen at hb
  by_cases h1 : 100 < pn
  · have d1 : decide (100 < (pn : Int)) = true := decide_eq_true (by omega)
    clear h
    go_enter Try.func8, Try.ntmps8
    go_wp2_with fail
    refine (works_any _).mono ?_; rintro e X ⟨rfl, hbX⟩
    go_wp2
    go_ret
    exact ⟨rfl, hbX⟩
  · have d1 : decide (100 < (pn : Int)) = false := decide_eq_false (by omega)
    have d2 : decide (60 < (nn : Int)) = true := decide_eq_true (by omega)
    clear h
    go_enter Try.func8, Try.ntmps8
    go_wp2_with fail
    refine (works_any _).mono ?_; rintro e X ⟨rfl, hbX⟩
    go_wp2
    go_ret
    exact ⟨rfl, hbX⟩
set_option maxRecDepth 100000 in
set_option maxHeartbeats 3200000 in
theorem RainBack_bad (pa : Option Addr) (pn pc : Nat) (na : Option Addr) (nn nc : Nat) (ca : Option Addr) (cn cc : Nat) (ga : Option Addr) (gn gc : Nat) (pz : Nat → Int × Int) (w : World) (h1 : pn ≤ 100) (h2 : nn ≤ 60) (hp : SliceIs w pa pn pc pz) (h : tabC pn pz 32768 ≠ 0) :
    Calls Try.prog 8 #[.slice pa pn pc, .slice na nn nc, .slice ca cn cc, .slice ga gn gc] w fun e w' => e = .returned (.bool true) ∧ Below w.heap.size w w' := by
  have d1 : decide (100 < (pn : Int)) = false := decide_eq_false (by omega)
  have d2 : decide (60 < (nn : Int)) = false := decide_eq_false (by omega)
  have HC := Lib.hid (CheckTable_any pa pn pc pz 32768 w hp)
  have hne : (tabC pn pz 32768 != 0) = true := bne_iff_ne.2 h
  have hne2 : (tabC pn pz 32768 == 0) = false := beq_eq_false_iff_ne.2 h
  clear hp h
  generalize tabC pn pz 32768 = e0 at *
  go_enter Try.func8, Try.ntmps8
  go_wp2_with fail
  refine HC.out.mono ?_; rintro e X ⟨rfl, hb⟩
  go_wp2_with fail
  refine (works_any _).mono ?_; rintro e Y ⟨rfl, hbX⟩
  have bX := hb.trans (hbX.mono hb.size)
  go_wp2
  go_ret
  exact ⟨rfl, bX⟩

set_option maxRecDepth 100000 in
set_option maxHeartbeats 25600000 in
theorem RainBack_few (pa : Option Addr) (pn pc : Nat) (na : Option Addr) (nn nc : Nat) (ca : Option Addr) (cn cc : Nat) (ga : Option Addr) (gn gc : Nat) (pz : Nat → Int × Int) (ns cs gs : Nat → Int) (w : World) (h1 : pn ≤ 100) (h2 : nn ≤ 60) (hcn : cn ≤ maxLen) (hgn : gn ≤ maxLen) (hp : SliceIs w pa pn pc pz) (hn : NumsIs .u32 w na nn ns) (hc : NumsIs .u32 w ca cn cs) (hg : NumsIs .u16 w ga gn gs) (wn : ∀ i, (Lit.int .u32 (ns i)).wf = true) (wcs : ∀ i, (Lit.int .u32 (cs i)).wf = true) (wg : ∀ i, 0 ≤ gs i ∧ gs i < 65536) (h : tabC pn pz 32768 = 0) :
    Calls Try.prog 8 #[.slice pa pn pc, .slice na nn nc, .slice ca cn cc, .slice ga gn gc] w fun e w' => e = .returned (.bool true) ∧ Below w.heap.size w w' := by
  have d1 : decide (100 < (pn : Int)) = false := decide_eq_false (by omega)
  have d2 : decide (60 < (nn : Int)) = false := decide_eq_false (by omega)
  have hT := tab_ok h
  have hpw := powB_bd ns
  have hmx : (300 : Nat) ≤ maxLen := by decide
  have hmes := mesOk_of hT (k := nn) (p := powB ns) (fun j _ => hpw j)
  have hwid := widB_in (un := cn) (us := cs) hmes
  have hmor := morB_in (gn := gn) (gs := gs) hwid.1 (fun j => (wg j).1)
  have HC := Lib.hid (CheckTable_any pa pn pc pz 32768 w hp)
  rw [h] at HC
  have HP := Lib.hid (fun (a : Option Addr) (c : Nat) W (hW : Below w.heap.size w W) (hz : PowIs W a nn (powB ns)) => show Calls Try.prog 23 #[.slice pa pn pc, .slice a nn c] W fun e w' => ∃ (a : Option Addr) (cp : Nat), e = .returned (.tuple #[.slice a nn cp, .int .i64 0]) ∧ SliceIs w' a nn cp (mesOf pn pz (powB ns)) ∧ Below W.heap.size W w' from by
    have hh := Pass_any pa pn pc pz a nn c (powB ns) W (by omega) (hp.keep hW) hz
    rw [pasC_zero h (by omega) (fun j _ => hpw j)] at hh
    unfold SpTup at hh
    rw [show outN 0 nn = nn from if_pos rfl] at hh
    exact hh)
  have hRs : ∀ ms : Nat → Int × Int, MesOk ms nn → ∀ (a : Option Addr) (c : Nat) W (hW : Below w.heap.size w W) (hz : SliceIs W a nn c ms), Calls Try.prog 25 #[.slice pa pn pc, .slice a nn c] W fun e w' => ∃ (a : Option Addr) (cp : Nat), e = .returned (.tuple #[.slice a nn cp, .int .i64 0]) ∧ SliceIs w' a nn cp (rstOf pn pz ms) ∧ Below W.heap.size W w' := fun ms hms a c W hW hz => by
    have hh := Restore_any pa pn pc pz a nn c ms W (by omega) (hp.keep hW) hz
    rw [mesC_zero h (by omega) hms] at hh
    unfold SpTup at hh
    rw [show outN 0 nn = nn from if_pos rfl] at hh
    exact hh
  have HR1 := Lib.hid (hRs _ hmes)
  have HR2 := Lib.hid (hRs _ hwid.1)
  have HR3 := Lib.hid (hRs _ hmor.1)
  have HB1 := Lib.hid (fun k (hk : k < nn) => (back_has hT (p := powB ns) k (fun j _ => hpw j)).2)
  have HB2 := Lib.hid (fun k (hk : k < nn) => (back_in hT (ms := (mesOf pn pz (powB ns))) (Ms := widB (mesOf pn pz (powB ns)) cn cs) k (fun j hj => hmes j (by omega)) (fun j hj => hwid.1 j (by omega)) (fun j hj => hwid.2 j (by omega))).2)
  have HB3 := Lib.hid (fun k (hk : k < nn) => (back_up hT (ms := widB (mesOf pn pz (powB ns)) cn cs) (Ms := morB (widB (mesOf pn pz (powB ns)) cn cs) gn gs) k (fun j hj => hwid.1 j (by omega)) (fun j hj => hmor.1 j (by omega)) (fun j hj => hmor.2 j (by omega))).2)
  have HB4 := Lib.hid (fun k (hk : k < nn) => rst_valid hT (ms := (mesOf pn pz (powB ns))) (k := k) (fun j hj => hmes j (by omega)))
  have HMe := Lib.hid hmes
  have HWi := Lib.hid hwid.1
  have HPw := Lib.hid hpw
  have HGb := Lib.hid wg
  have HNs := Lib.hid (fun i => u32_bd (wn i))
  have HCs := Lib.hid (fun i => nthC_bd (n := cn) wcs i)
  have HN0 := Lib.hid (fun (i : Nat) (hi : i ≤ 1000000) W (hW : Below w.heap.size w W) => nth_any ca cn cc cs i W hcn hi (hc.keep hW))
  have HG := Lib.hid hg
  have HN := Lib.hid hn
  obtain ⟨i3, hi3, hz30, hz31, hz32⟩ := info_parts info3
  obtain ⟨i0, hi0, hz0, hz1, hz2⟩ := info_parts info24
  unfold maxLen at hcn hgn
  clear hp hn hc hg hRs hmes hwid hmor hpw wg wn wcs h hT hmx h1
  go_enter Try.func8, Try.ntmps8
  go_wp2_with fail
  refine HC.out.mono ?_; rintro e X ⟨rfl, bX⟩
  clear HC
  go_wp2
  go_loopw [9, 10] (fun v i wr => ∃ k : Nat, k ≤ nn ∧ i = .int .i64 k ∧ NuRel X wr k v (powB ns)) (fun _ i _ => nn - (intOf i).toNat)
  case atStart => exact ⟨0, Nat.zero_le _, rfl, World.ownsRow_nil _ _ _ _, fun _ => rfl, Below.refl _ _⟩
  case round =>
    obtain ⟨k, hk, rfl, hR⟩ := hrel
    have HR := Lib.hid hR
    have bw := bX.trans (hR.b.mono bX.size)
    by_cases hlt : k < nn
    · rcases HN.out with h9 | ⟨nb, noff, rfl, hnb, hnn⟩
      · omega
      have c0 := keepB bw hnb (hnn k hlt)
      have lnb : nb < wr.heap.size := Nat.lt_of_lt_of_le hnb bw.size
      have q0 : (0 : Int) ≤ (k : Int) := by omega
      have q1 : (k : Int) < (nn : Int) := by omega
      have nk := HNs.out k
      have pk := HPw.out k
      have hpk : ns k % 1073741825 = powB ns k := rfl
      have hpk2 : (ns k).tmod 1073741825 = powB ns k := by rw [Int.tmod_eq_emod_of_nonneg nk.1]; exact hpk
      have w1 : IntKind.i64.wrap (ns k) = ns k := IntWalk.i64_in _ (by omega)
      have w2 : IntKind.i64.wrap (powB ns k) = powB ns k := IntWalk.i64_in _ (by omega)
      have lX := hR.b.size
      have HPk := Lib.hid (show ∀ (W W1 w1 : World) (v v' : Value) (x : Int), powB ns k = x → NuRel X W k v (powB ns) → Below X.heap.size W W1 → W1.grownBy w1 v.ownBlock → w1.ownsRow X.heap.size 3 1 v' (k + 1) (nuv (powB ns) k ++ [.int .i64 x]) → NuRel X w1 (k + 1) v' (powB ns) from fun W W1 w1 v v' x hx R a b c => by subst hx; exact R.put a b c)
      generalize hx : powB ns k = x at *
      generalize ns k = y at *
      clear hR hnn HR1 HR2 HR3 HB1 HB2 HB3 HB4 HP HN0
      have hown := HR.out.own
      go_wp2_with (first | (at_builtin; refine wpList_append_own _ rfl _ _ 43 rfl X.heap.size 3 i3 (.int .i64 0) 1 8 Try.underlying43 hi3 hz30 hz31 hz32 rfl (by decide) _ _ _ rfl (hown.alloc _) ⟨wr.heap.size, 0, none⟩ 1 1 [.int .i64 x] rfl rfl (cell_1_new _ _ _) ?c2 ?c3 ?c4 ?c5 ?_) | go_in)
      case c2 => first | (simp [Value.oneCell']; done) | (intro u hu; simp at hu; rcases hu with rfl <;> rfl)
      case c3 => unfold maxLen; omega
      case c4 => omega
      case c5 => first | omega | (simp; omega)
      intro v' w7 hown' hgrow _
      have R7 := Lib.hid (HPk.out _ _ _ _ _ _ rfl HR.out ((Below.refl X.heap.size wr).alloc (by omega) _) hgrow hown')
      clear hown' hgrow hown HR HPk hpk hpk2
      go_wp2
      go_roundw
      case rel => exact ⟨k + 1, by omega, by go_num, R7.out⟩
      case measure => simp [intOf]; omega
    · obtain rfl : nn = k := by omega
      obtain ⟨za, zc, rfl, hz⟩ := own_nums hR.own hR.nil
      have HZ := Lib.hid hz
      clear hz hR HR hlt hk HN HNs
      go_wp2_with fail
      refine (HP.out _ _ _ bw HZ.out).mono ?_; rintro e B ⟨ma, mc, rfl, s1, b1⟩
      have HZ := Lib.hid (PowIs.keep HZ.out b1)
      have HM := Lib.hid s1
      have bB := bw.trans (b1.mono bw.size)
      clear s1 b1 bw HP
      go_wp2_with fail
      refine (HR1.out _ _ _ bB HM.out).mono ?_; rintro e L0 ⟨ba, bc, rfl, s1, b1⟩
      have HZ := Lib.hid (PowIs.keep HZ.out b1)
      have HM := Lib.hid (HM.out.keep b1)
      have HB := Lib.hid s1
      have bL := bB.trans (b1.mono bB.size)
      clear s1 b1 bB HR1
      obtain ⟨La, hLa⟩ : ∃ x, x = L0 := ⟨_, rfl⟩
      rw [← hLa] at HZ HM HB bL
      rw [← hLa]
      clear hLa L0
      have bwL := Lib.hid bL
      go_wp2
      go_loopw [14, 15, 16] (fun v u i wr => ∃ k : Nat, k ≤ nn ∧ i = .int .i64 k ∧ BkR La wr k v u (widB (mesOf pn pz (powB ns)) cn cs) (morB (widB (mesOf pn pz (powB ns)) cn cs) gn gs)) (fun _ _ i _ => nn - (intOf i).toNat)
      case atStart => exact ⟨0, Nat.zero_le _, rfl, BkR.new La _ _⟩
      case round =>
      obtain ⟨k, hk, rfl, hR⟩ := hrel
      have HR := Lib.hid hR
      have hbL := hR.b
      have bw := bwL.out.trans (hbL.mono bwL.out.size)
      clear hR
      by_cases hlt : k < nn
      · rcases HZ.out with h9 | ⟨zb, zo, rfl, lzb, hzz⟩
        · omega
        rcases HM.out with h9 | ⟨mb, mo, rfl, lmb, hmm⟩
        · omega
        rcases HB.out with h9 | ⟨bb, bo, rfl, lbb, hbb⟩
        · omega
        have c0 := keepB hbL lzb (hzz k hlt)
        have c1 := keepB hbL lbb (hbb k hlt).1
        have c2 := keepB hbL lbb (hbb k hlt).2
        have c3 := keepB hbL lmb (hmm k hlt).1
        have c4 := keepB hbL lmb (hmm k hlt).2
        have lz1 : zb < wr.heap.size := Nat.lt_of_lt_of_le lzb hbL.size
        have lb1 : bb < wr.heap.size := Nat.lt_of_lt_of_le lbb hbL.size
        have lm1 : mb < wr.heap.size := Nat.lt_of_lt_of_le lmb hbL.size
        have q0 : (0 : Int) ≤ (k : Int) := by omega
        have q1 : (k : Int) < (nn : Int) := by omega
        obtain ⟨m5, m6, m7⟩ := HMe.out k hlt
        have wk := HWi.out k hlt
        have hbk := HB1.out k hlt
        have ca1 := HCs.out (2 * k)
        have ca2 := HCs.out (2 * k + 1)
        have hN1 := HN0.out (2 * k) (by omega)
        have hN2 := HN0.out (2 * k + 1) (by omega)
        have HWd := Lib.hid (show (widB (mesOf pn pz (powB ns)) cn cs k).1 = max 0 (((mesOf pn pz (powB ns)) k).1 - nthC cn cs (2 * k) % 1000) ∧ (widB (mesOf pn pz (powB ns)) cn cs k).2 = min 1073741824 (((mesOf pn pz (powB ns)) k).2 + nthC cn cs (2 * k + 1) % 1000) from ⟨rfl, rfl⟩)
        have k2 : ((2 * k : Nat) : Int) = 2 * (k : Int) := by omega
        have k3 : ((2 * k + 1 : Nat) : Int) = 2 * (k : Int) + 1 := by omega
        rw [k2] at hN1
        rw [k3] at hN2
        have HL := Lib.hid (fun W => lies_true (powB ns k) (powB ns k) (rstOf pn pz (mesOf pn pz (powB ns)) k).1 (rstOf pn pz (mesOf pn pz (powB ns)) k).2 W (Int.le_refl _) hbk.1 hbk.2)
        have i1 : IntKind.i64.wrap (2 * (k : Int)) = 2 * (k : Int) := IntWalk.i64_in _ (by omega)
        have i2 : IntKind.i64.wrap (2 * (k : Int) + 1) = 2 * (k : Int) + 1 := IntWalk.i64_in _ (by omega)
        clear k2 k3 hbk hzz hmm hbb HR2 HR3 HB1 HB2 HB3 HB4 HZ HM HB HN0 HWi
        rw [HWd.out.1, HWd.out.2] at wk
        generalize nthC cn cs (2 * k) = t1 at *
        generalize nthC cn cs (2 * k + 1) = t2 at *
        generalize powB ns k = p at *
        generalize (rstOf pn pz (mesOf pn pz (powB ns)) k).1 = b1 at *
        generalize (rstOf pn pz (mesOf pn pz (powB ns)) k).2 = b2 at *
        generalize ((mesOf pn pz (powB ns)) k).1 = m1 at *
        generalize ((mesOf pn pz (powB ns)) k).2 = m2 at *
        have HN1 := Lib.hid hN1
        have HN2 := Lib.hid hN2
        clear hN1 hN2
        have r1 := Int.emod_nonneg t1 (b := 1000) (by decide)
        have r2 := Int.emod_lt_of_pos t1 (b := 1000) (by decide)
        have r3 := Int.emod_nonneg t2 (b := 1000) (by decide)
        have r4 := Int.emod_lt_of_pos t2 (b := 1000) (by decide)
        have s1 : t1.tmod 1000 = t1 % 1000 := Int.tmod_eq_emod_of_nonneg ca1.1
        have s2 : t2.tmod 1000 = t2 % 1000 := Int.tmod_eq_emod_of_nonneg ca2.1
        obtain ⟨x, hx⟩ : ∃ z, z = max 0 (m1 - t1 % 1000) := ⟨_, rfl⟩
        obtain ⟨y, hy⟩ : ∃ z, z = min 1073741824 (m2 + t2 % 1000) := ⟨_, rfl⟩
        rw [← hx, ← hy] at HWd wk
        have e1 : max 0 (m1 - t1 % 1000) = x := hx.symm
        have e2 : (if 0 < m1 - t1 % 1000 then m1 - t1 % 1000 else 0) = x := by rw [hx]; split <;> omega
        have e3 : min 1073741824 (m2 + t2 % 1000) = y := hy.symm
        have e4 : (if m2 + t2 % 1000 < 1073741824 then m2 + t2 % 1000 else 1073741824) = y := by rw [hy]; split <;> omega
        have eb : (if m1 - t1 % 1000 < 0 then 0 else m1 - t1 % 1000) = x := by rw [hx]; split <;> omega
        have ec : (if 1073741824 < m2 + t2 % 1000 then 1073741824 else m2 + t2 % 1000) = y := by rw [hy]; split <;> omega
        have ef : (if t1 % 1000 < m1 then m1 - t1 % 1000 else 0) = x := by rw [hx]; split <;> omega
        have eg : (if m1 < t1 % 1000 then 0 else m1 - t1 % 1000) = x := by rw [hx]; split <;> omega
        have ed : max (m1 - t1 % 1000) 0 = x := by rw [hx, Int.max_comm]
        have ee : min (m2 + t2 % 1000) 1073741824 = y := by rw [hy, Int.min_comm]
        have e5 : IntKind.i64.wrap (m1 - t1 % 1000) = m1 - t1 % 1000 := IntWalk.i64_in _ (by omega)
        have e6 : IntKind.i64.wrap (m2 + t2 % 1000) = m2 + t2 % 1000 := IntWalk.i64_in _ (by omega)
        have e7 : IntKind.i64.wrap (t1 % 1000) = t1 % 1000 := IntWalk.i64_in _ (by omega)
        have e8 : IntKind.i64.wrap (t2 % 1000) = t2 % 1000 := IntWalk.i64_in _ (by omega)
        have e9 : IntKind.u32.wrap (t1 % 1000) = t1 % 1000 := u32_wrap (by omega) (by omega)
        have ea : IntKind.u32.wrap (t2 % 1000) = t2 % 1000 := u32_wrap (by omega) (by omega)
        have dd1 : decide (m1 < 0) = false := decide_eq_false (by omega)
        have dd2 : decide (1073741824 < m2) = false := decide_eq_false (by omega)
        have dd3 : decide (m2 < m1) = false := decide_eq_false (by omega)
        clear hx hy hbL
        go_upto_region 18 with fail
        have HS := Lib.hid (show (fun w' : World => w'.cell? ⟨zb, zo + k, none⟩ = some (.int .i64 p) ∧ w'.cell? ⟨bb, bo + k * 2, none⟩ = some (.int .i64 b1) ∧ w'.cell? ⟨bb, bo + k * 2 + 1, none⟩ = some (.int .i64 b2) ∧ w'.cell? ⟨mb, mo + k * 2, none⟩ = some (.int .i64 m1) ∧ w'.cell? ⟨mb, mo + k * 2 + 1, none⟩ = some (.int .i64 m2) ∧ Below wr.heap.size wr w') wr.drew from ⟨c0, c1, c2, c3, c4, (Below.refl _ _).drew⟩)
        clear c0 c1 c2 c3 c4
        refine wp_region_held_tail (S := (fun w' : World => w'.cell? ⟨zb, zo + k, none⟩ = some (.int .i64 p) ∧ w'.cell? ⟨bb, bo + k * 2, none⟩ = some (.int .i64 b1) ∧ w'.cell? ⟨bb, bo + k * 2 + 1, none⟩ = some (.int .i64 b2) ∧ w'.cell? ⟨mb, mo + k * 2, none⟩ = some (.int .i64 m1) ∧ w'.cell? ⟨mb, mo + k * 2 + 1, none⟩ = some (.int .i64 m2) ∧ Below wr.heap.size wr w')) 38 (by kernel_rfl) (by kernel_rfl) HS.out (fun hHeld => ?_)
        obtain ⟨D, hD⟩ : ∃ D, D = wr.drew := ⟨_, rfl⟩
        rw [← hD] at hHeld ⊢
        clear hD
        refine wpAnyH_take (i := 0) (v := ?v0_1) rfl (by kernel_rfl) (by kernel_rfl) (by kernel_rfl) (fun _ _ _ h => h) (Or.inl ⟨by rfl, ?hy0_1⟩) (by assumption) ?rest0_1
        case hy0_1 => (intro w hSw; (try dsimp only at hSw); go_simp; (try with_reducible rfl))
        try simp only [Act.put, List.getElem_toArray, List.getElem_cons_zero, List.getElem_cons_succ, List.setIfInBounds_toArray, List.set_cons_zero, List.set_cons_succ]
        refine wpAnyH_take (i := 1) (v := ?v1_2) rfl (by kernel_rfl) (by kernel_rfl) (by kernel_rfl) (fun _ _ _ h => h) (Or.inl ⟨by rfl, ?hy1_2⟩) (by assumption) ?rest1_2
        case hy1_2 => (intro w hSw; (try dsimp only at hSw); go_simp; (try with_reducible rfl))
        try simp only [Act.put, List.getElem_toArray, List.getElem_cons_zero, List.getElem_cons_succ, List.setIfInBounds_toArray, List.set_cons_zero, List.set_cons_succ]
        refine wpAnyH_take (i := 2) (v := ?v2_3) rfl (by kernel_rfl) (by kernel_rfl) (by kernel_rfl) (fun _ _ _ h => h) (Or.inl ⟨by rfl, ?hy2_3⟩) (by assumption) ?rest2_3
        case hy2_3 => (intro w hSw; (try dsimp only at hSw); go_simp; (try with_reducible rfl))
        try simp only [Act.put, List.getElem_toArray, List.getElem_cons_zero, List.getElem_cons_succ, List.setIfInBounds_toArray, List.set_cons_zero, List.set_cons_succ]
        refine wpAnyH_take (i := 3) (v := ?v3_4) rfl (by kernel_rfl) (by kernel_rfl) (by kernel_rfl) (fun _ _ _ h => h) (Or.inl ⟨by rfl, ?hy3_4⟩) (by assumption) ?rest3_4
        case hy3_4 => (intro w hSw; (try dsimp only at hSw); go_simp; (try with_reducible rfl))
        try simp only [Act.put, List.getElem_toArray, List.getElem_cons_zero, List.getElem_cons_succ, List.setIfInBounds_toArray, List.set_cons_zero, List.set_cons_succ]
        refine wpAnyH_take (i := 5) (v := ?v5_5) rfl (by kernel_rfl) (by kernel_rfl) (by kernel_rfl) (fun _ _ _ h => h) (Or.inl ⟨by rfl, ?hy5_5⟩) (by assumption) ?rest5_5
        case hy5_5 => (intro w hSw; (try dsimp only at hSw); go_simp; (try with_reducible rfl))
        try simp only [Act.put, List.getElem_toArray, List.getElem_cons_zero, List.getElem_cons_succ, List.setIfInBounds_toArray, List.set_cons_zero, List.set_cons_succ]
        refine wpAnyH_take (i := 6) (v := ?v6_6) rfl (by kernel_rfl) (by kernel_rfl) (by kernel_rfl) (fun _ _ _ h => h) (Or.inl ⟨by rfl, ?hy6_6⟩) (by assumption) ?rest6_6
        case hy6_6 => (intro w hSw; (try dsimp only at hSw); go_simp; (try with_reducible rfl))
        try simp only [Act.put, List.getElem_toArray, List.getElem_cons_zero, List.getElem_cons_succ, List.setIfInBounds_toArray, List.set_cons_zero, List.set_cons_succ]
        refine wpAnyH_take (i := 7) (v := ?v7_7) rfl (by kernel_rfl) (by kernel_rfl) (by kernel_rfl) (fun _ _ _ h => h) (Or.inl ⟨by rfl, ?hy7_7⟩) (by assumption) ?rest7_7
        case hy7_7 => (intro w hSw; (try dsimp only at hSw); go_simp; (try with_reducible rfl))
        try simp only [Act.put, List.getElem_toArray, List.getElem_cons_zero, List.getElem_cons_succ, List.setIfInBounds_toArray, List.set_cons_zero, List.set_cons_succ]
        refine wpAnyH_take (i := 8) (v := ?v8_8) rfl (by kernel_rfl) (by kernel_rfl) (by kernel_rfl) (fun _ _ _ h => h) (Or.inl ⟨by rfl, ?hy8_8⟩) (by assumption) ?rest8_8
        case hy8_8 => (intro w hSw; (try dsimp only at hSw); go_simp; (try with_reducible rfl))
        try simp only [Act.put, List.getElem_toArray, List.getElem_cons_zero, List.getElem_cons_succ, List.setIfInBounds_toArray, List.set_cons_zero, List.set_cons_succ]
        refine wpAnyH_ready (rs := [4]) (by kernel_rfl) (by simp) ?_
        refine AllReadyH.cons rfl (fun K hK => ?_) AllReadyH.nil
        go_simp
        go_at_call 34; refine (point_any p _).mono ?_; rintro e' W1 ⟨rfl, hb'⟩
        refine hK.out _ _ (⟨keepW hb' hHeld.1, keepW hb' hHeld.2.1, keepW hb' hHeld.2.2.1, keepW hb' hHeld.2.2.2.1, keepW hb' hHeld.2.2.2.2.1, hHeld.2.2.2.2.2.trans (hb'.mono hHeld.2.2.2.2.2.size)⟩) (fun hHeld2 => ?_)
        clear hK K hHeld hb'
        have hHeld := hHeld2
        clear hHeld2
        try simp only [Act.put, List.getElem_toArray, List.getElem_cons_zero, List.getElem_cons_succ, List.setIfInBounds_toArray, List.set_cons_zero, List.set_cons_succ]
        refine wpAnyH_ready (rs := [9]) (by kernel_rfl) (by simp) ?_
        refine AllReadyH.cons rfl (fun K hK => ?_) AllReadyH.nil
        go_simp
        go_at_call 39; refine (HL.out _).mono ?_; rintro e' W2 ⟨rfl, hb'⟩
        refine hK.out _ _ (⟨keepW hb' hHeld.1, keepW hb' hHeld.2.1, keepW hb' hHeld.2.2.1, keepW hb' hHeld.2.2.2.1, keepW hb' hHeld.2.2.2.2.1, hHeld.2.2.2.2.2.trans (hb'.mono hHeld.2.2.2.2.2.size)⟩) (fun hHeld2 => ?_)
        clear hK K hHeld hb'
        have hHeld := hHeld2
        clear hHeld2
        try simp only [Act.put, List.getElem_toArray, List.getElem_cons_zero, List.getElem_cons_succ, List.setIfInBounds_toArray, List.set_cons_zero, List.set_cons_succ]
        refine wpAnyH_take (i := 10) (v := ?v10_9) rfl (by kernel_rfl) (by kernel_rfl) (by kernel_rfl) (fun _ _ _ h => h) (Or.inl ⟨by rfl, ?hy10_9⟩) (by assumption) ?rest10_9
        case hy10_9 => (intro w hSw; (try dsimp only at hSw); go_simp; (try with_reducible rfl))
        try simp only [Act.put, List.getElem_toArray, List.getElem_cons_zero, List.getElem_cons_succ, List.setIfInBounds_toArray, List.set_cons_zero, List.set_cons_succ]
        refine wpAnyH_take (i := 11) (v := ?v11_10) rfl (by kernel_rfl) (by kernel_rfl) (by kernel_rfl) (fun _ _ _ h => h) (Or.inl ⟨by rfl, ?hy11_10⟩) (by assumption) ?rest11_10
        case hy11_10 => (intro w hSw; (try dsimp only at hSw); go_simp; (try with_reducible rfl))
        try simp only [Act.put, List.getElem_toArray, List.getElem_cons_zero, List.getElem_cons_succ, List.setIfInBounds_toArray, List.set_cons_zero, List.set_cons_succ]
        refine wpAnyH_take (i := 12) (v := ?v12_11) rfl (by kernel_rfl) (by kernel_rfl) (by kernel_rfl) (fun _ _ _ h => h) (Or.inl ⟨by rfl, ?hy12_11⟩) (by assumption) ?rest12_11
        case hy12_11 => (intro w hSw; (try dsimp only at hSw); go_simp; (try with_reducible rfl))
        try simp only [Act.put, List.getElem_toArray, List.getElem_cons_zero, List.getElem_cons_succ, List.setIfInBounds_toArray, List.set_cons_zero, List.set_cons_succ]
        refine wpAnyH_take (i := 13) (v := ?v13_12) rfl (by kernel_rfl) (by kernel_rfl) (by kernel_rfl) (fun _ _ _ h => h) (Or.inl ⟨by rfl, ?hy13_12⟩) (by assumption) ?rest13_12
        case hy13_12 => (intro w hSw; (try dsimp only at hSw); go_simp; (try with_reducible rfl))
        try simp only [Act.put, List.getElem_toArray, List.getElem_cons_zero, List.getElem_cons_succ, List.setIfInBounds_toArray, List.set_cons_zero, List.set_cons_succ]
        refine wpAnyH_take (i := 14) (v := ?v14_13) rfl (by kernel_rfl) (by kernel_rfl) (by kernel_rfl) (fun _ _ _ h => h) (Or.inl ⟨by rfl, ?hy14_13⟩) (by assumption) ?rest14_13
        case hy14_13 => (intro w hSw; (try dsimp only at hSw); go_simp; (try with_reducible rfl))
        try simp only [Act.put, List.getElem_toArray, List.getElem_cons_zero, List.getElem_cons_succ, List.setIfInBounds_toArray, List.set_cons_zero, List.set_cons_succ]
        refine wpAnyH_take (i := 15) (v := ?v15_14) rfl (by kernel_rfl) (by kernel_rfl) (by kernel_rfl) (fun _ _ _ h => h) (Or.inl ⟨by rfl, ?hy15_14⟩) (by assumption) ?rest15_14
        case hy15_14 => (intro w hSw; (try dsimp only at hSw); go_simp; (try with_reducible rfl))
        try simp only [Act.put, List.getElem_toArray, List.getElem_cons_zero, List.getElem_cons_succ, List.setIfInBounds_toArray, List.set_cons_zero, List.set_cons_succ]
        refine wpAnyH_take (i := 16) (v := ?v16_15) rfl (by kernel_rfl) (by kernel_rfl) (by kernel_rfl) (fun _ _ _ h => h) (Or.inl ⟨by rfl, ?hy16_15⟩) (by assumption) ?rest16_15
        case hy16_15 => (intro w hSw; (try dsimp only at hSw); go_simp; (try with_reducible rfl))
        try simp only [Act.put, List.getElem_toArray, List.getElem_cons_zero, List.getElem_cons_succ, List.setIfInBounds_toArray, List.set_cons_zero, List.set_cons_succ]
        refine wpAnyH_take (i := 17) (v := ?v17_16) rfl (by kernel_rfl) (by kernel_rfl) (by kernel_rfl) (fun _ _ _ h => h) (Or.inl ⟨by rfl, ?hy17_16⟩) (by assumption) ?rest17_16
        case hy17_16 => (intro w hSw; (try dsimp only at hSw); go_simp; (try with_reducible rfl))
        try simp only [Act.put, List.getElem_toArray, List.getElem_cons_zero, List.getElem_cons_succ, List.setIfInBounds_toArray, List.set_cons_zero, List.set_cons_succ]
        refine wpAnyH_take (i := 18) (v := ?v18_17) rfl (by kernel_rfl) (by kernel_rfl) (by kernel_rfl) (fun _ _ _ h => h) (Or.inl ⟨by rfl, ?hy18_17⟩) (by assumption) ?rest18_17
        case hy18_17 => (intro w hSw; (try dsimp only at hSw); go_simp; (try with_reducible rfl))
        try simp only [Act.put, List.getElem_toArray, List.getElem_cons_zero, List.getElem_cons_succ, List.setIfInBounds_toArray, List.set_cons_zero, List.set_cons_succ]
        refine wpAnyH_take (i := 19) (v := ?v19_18) rfl (by kernel_rfl) (by kernel_rfl) (by kernel_rfl) (fun _ _ _ h => h) (Or.inl ⟨by rfl, ?hy19_18⟩) (by assumption) ?rest19_18
        case hy19_18 => (intro w hSw; (try dsimp only at hSw); go_simp; (try with_reducible rfl))
        try simp only [Act.put, List.getElem_toArray, List.getElem_cons_zero, List.getElem_cons_succ, List.setIfInBounds_toArray, List.set_cons_zero, List.set_cons_succ]
        refine wpAnyH_take (i := 20) (v := ?v20_19) rfl (by kernel_rfl) (by kernel_rfl) (by kernel_rfl) (fun _ _ _ h => h) (Or.inl ⟨by rfl, ?hy20_19⟩) (by assumption) ?rest20_19
        case hy20_19 => (intro w hSw; (try dsimp only at hSw); go_simp; (try with_reducible rfl))
        try simp only [Act.put, List.getElem_toArray, List.getElem_cons_zero, List.getElem_cons_succ, List.setIfInBounds_toArray, List.set_cons_zero, List.set_cons_succ]
        refine wpAnyH_take (i := 21) (v := ?v21_20) rfl (by kernel_rfl) (by kernel_rfl) (by kernel_rfl) (fun _ _ _ h => h) (Or.inl ⟨by rfl, ?hy21_20⟩) (by assumption) ?rest21_20
        case hy21_20 => (intro w hSw; (try dsimp only at hSw); go_simp; (try with_reducible rfl))
        try simp only [Act.put, List.getElem_toArray, List.getElem_cons_zero, List.getElem_cons_succ, List.setIfInBounds_toArray, List.set_cons_zero, List.set_cons_succ]
        refine wpAnyH_take (i := 22) (v := ?v22_21) rfl (by kernel_rfl) (by kernel_rfl) (by kernel_rfl) (fun _ _ _ h => h) (Or.inl ⟨by rfl, ?hy22_21⟩) (by assumption) ?rest22_21
        case hy22_21 => (intro w hSw; (try dsimp only at hSw); go_simp; (try with_reducible rfl))
        try simp only [Act.put, List.getElem_toArray, List.getElem_cons_zero, List.getElem_cons_succ, List.setIfInBounds_toArray, List.set_cons_zero, List.set_cons_succ]
        refine wpAnyH_take (i := 23) (v := ?v23_22) rfl (by kernel_rfl) (by kernel_rfl) (by kernel_rfl) (fun _ _ _ h => h) (Or.inl ⟨by rfl, ?hy23_22⟩) (by assumption) ?rest23_22
        case hy23_22 => (intro w hSw; (try dsimp only at hSw); go_simp; (try with_reducible rfl))
        try simp only [Act.put, List.getElem_toArray, List.getElem_cons_zero, List.getElem_cons_succ, List.setIfInBounds_toArray, List.set_cons_zero, List.set_cons_succ]
        refine wpAnyH_take (i := 24) (v := ?v24_23) rfl (by kernel_rfl) (by kernel_rfl) (by kernel_rfl) (fun _ _ _ h => h) (Or.inl ⟨by rfl, ?hy24_23⟩) (by assumption) ?rest24_23
        case hy24_23 => (intro w hSw; (try dsimp only at hSw); go_simp; (try with_reducible rfl))
        try simp only [Act.put, List.getElem_toArray, List.getElem_cons_zero, List.getElem_cons_succ, List.setIfInBounds_toArray, List.set_cons_zero, List.set_cons_succ]
        refine wpAnyH_take (i := 25) (v := ?v25_24) rfl (by kernel_rfl) (by kernel_rfl) (by kernel_rfl) (fun _ _ _ h => h) (Or.inl ⟨by rfl, ?hy25_24⟩) (by assumption) ?rest25_24
        case hy25_24 => (intro w hSw; (try dsimp only at hSw); go_simp; (try with_reducible rfl))
        try simp only [Act.put, List.getElem_toArray, List.getElem_cons_zero, List.getElem_cons_succ, List.setIfInBounds_toArray, List.set_cons_zero, List.set_cons_succ]
        refine wpAnyH_take (i := 26) (v := ?v26_25) rfl (by kernel_rfl) (by kernel_rfl) (by kernel_rfl) (fun _ _ _ h => h) (Or.inl ⟨by rfl, ?hy26_25⟩) (by assumption) ?rest26_25
        case hy26_25 => (intro w hSw; (try dsimp only at hSw); go_simp; (try with_reducible rfl))
        try simp only [Act.put, List.getElem_toArray, List.getElem_cons_zero, List.getElem_cons_succ, List.setIfInBounds_toArray, List.set_cons_zero, List.set_cons_succ]
        refine wpAnyH_take (i := 27) (v := ?v27_26) rfl (by kernel_rfl) (by kernel_rfl) (by kernel_rfl) (fun _ _ _ h => h) (Or.inl ⟨by rfl, ?hy27_26⟩) (by assumption) ?rest27_26
        case hy27_26 => (intro w hSw; (try dsimp only at hSw); go_simp; (try with_reducible rfl))
        try simp only [Act.put, List.getElem_toArray, List.getElem_cons_zero, List.getElem_cons_succ, List.setIfInBounds_toArray, List.set_cons_zero, List.set_cons_succ]
        refine wpAnyH_take (i := 28) (v := ?v28_27) rfl (by kernel_rfl) (by kernel_rfl) (by kernel_rfl) (fun _ _ _ h => h) (Or.inl ⟨by rfl, ?hy28_27⟩) (by assumption) ?rest28_27
        case hy28_27 => (intro w hSw; (try dsimp only at hSw); go_simp; (try with_reducible rfl))
        try simp only [Act.put, List.getElem_toArray, List.getElem_cons_zero, List.getElem_cons_succ, List.setIfInBounds_toArray, List.set_cons_zero, List.set_cons_succ]
        refine wpAnyH_take (i := 29) (v := ?v29_28) rfl (by kernel_rfl) (by kernel_rfl) (by kernel_rfl) (fun _ _ _ h => h) (Or.inl ⟨by rfl, ?hy29_28⟩) (by assumption) ?rest29_28
        case hy29_28 => (intro w hSw; (try dsimp only at hSw); go_simp; (try with_reducible rfl))
        try simp only [Act.put, List.getElem_toArray, List.getElem_cons_zero, List.getElem_cons_succ, List.setIfInBounds_toArray, List.set_cons_zero, List.set_cons_succ]
        refine wpAnyH_take (i := 30) (v := ?v30_29) rfl (by kernel_rfl) (by kernel_rfl) (by kernel_rfl) (fun _ _ _ h => h) (Or.inl ⟨by rfl, ?hy30_29⟩) (by assumption) ?rest30_29
        case hy30_29 => (intro w hSw; (try dsimp only at hSw); go_simp; (try with_reducible rfl))
        try simp only [Act.put, List.getElem_toArray, List.getElem_cons_zero, List.getElem_cons_succ, List.setIfInBounds_toArray, List.set_cons_zero, List.set_cons_succ]
        refine wpAnyH_take (i := 31) (v := ?v31_30) rfl (by kernel_rfl) (by kernel_rfl) (by kernel_rfl) (fun _ _ _ h => h) (Or.inl ⟨by rfl, ?hy31_30⟩) (by assumption) ?rest31_30
        case hy31_30 => (intro w hSw; (try dsimp only at hSw); go_simp; (try with_reducible rfl))
        try simp only [Act.put, List.getElem_toArray, List.getElem_cons_zero, List.getElem_cons_succ, List.setIfInBounds_toArray, List.set_cons_zero, List.set_cons_succ]
        refine wpAnyH_take (i := 32) (v := ?v32_31) rfl (by kernel_rfl) (by kernel_rfl) (by kernel_rfl) (fun _ _ _ h => h) (Or.inl ⟨by rfl, ?hy32_31⟩) (by assumption) ?rest32_31
        case hy32_31 => (intro w hSw; (try dsimp only at hSw); go_simp; (try with_reducible rfl))
        try simp only [Act.put, List.getElem_toArray, List.getElem_cons_zero, List.getElem_cons_succ, List.setIfInBounds_toArray, List.set_cons_zero, List.set_cons_succ]
        refine wpAnyH_take (i := 33) (v := ?v33_32) rfl (by kernel_rfl) (by kernel_rfl) (by kernel_rfl) (fun _ _ _ h => h) (Or.inl ⟨by rfl, ?hy33_32⟩) (by assumption) ?rest33_32
        case hy33_32 => (intro w hSw; (try dsimp only at hSw); go_simp; (try with_reducible rfl))
        try simp only [Act.put, List.getElem_toArray, List.getElem_cons_zero, List.getElem_cons_succ, List.setIfInBounds_toArray, List.set_cons_zero, List.set_cons_succ]
        refine wpAnyH_take (i := 34) (v := ?v34_33) rfl (by kernel_rfl) (by kernel_rfl) (by kernel_rfl) (fun _ _ _ h => h) (Or.inl ⟨by rfl, ?hy34_33⟩) (by assumption) ?rest34_33
        case hy34_33 => (intro w hSw; (try dsimp only at hSw); go_simp; (try with_reducible rfl))
        try simp only [Act.put, List.getElem_toArray, List.getElem_cons_zero, List.getElem_cons_succ, List.setIfInBounds_toArray, List.set_cons_zero, List.set_cons_succ]
        refine wpAnyH_take (i := 35) (v := ?v35_34) rfl (by kernel_rfl) (by kernel_rfl) (by kernel_rfl) (fun _ _ _ h => h) (Or.inl ⟨by rfl, ?hy35_34⟩) (by assumption) ?rest35_34
        case hy35_34 => (intro w hSw; (try dsimp only at hSw); go_simp; (try with_reducible rfl))
        try simp only [Act.put, List.getElem_toArray, List.getElem_cons_zero, List.getElem_cons_succ, List.setIfInBounds_toArray, List.set_cons_zero, List.set_cons_succ]
        refine wpAnyH_take (i := 36) (v := ?v36_35) rfl (by kernel_rfl) (by kernel_rfl) (by kernel_rfl) (fun _ _ _ h => h) (Or.inl ⟨by rfl, ?hy36_35⟩) (by assumption) ?rest36_35
        case hy36_35 => (intro w hSw; (try dsimp only at hSw); go_simp; (try with_reducible rfl))
        try simp only [Act.put, List.getElem_toArray, List.getElem_cons_zero, List.getElem_cons_succ, List.setIfInBounds_toArray, List.set_cons_zero, List.set_cons_succ]
        refine wpAnyH_take (i := 37) (v := ?v37_36) rfl (by kernel_rfl) (by kernel_rfl) (by kernel_rfl) (fun _ _ _ h => h) (Or.inl ⟨by rfl, ?hy37_36⟩) (by assumption) ?rest37_36
        case hy37_36 => (intro w hSw; (try dsimp only at hSw); go_simp; (try with_reducible rfl))
        try simp only [Act.put, List.getElem_toArray, List.getElem_cons_zero, List.getElem_cons_succ, List.setIfInBounds_toArray, List.set_cons_zero, List.set_cons_succ]
        refine wpAnyH_done (by kernel_rfl) ?_ _
        change wpList _ _ _ _ _ _
        simp only [List.drop_succ_cons, List.drop_zero]
        obtain ⟨d0, d1', d2', d3, d4, gb⟩ := hHeld
        have HR := Lib.hid (HR.out.keep gb)
        have bE := bw.trans (gb.mono bw.size)
        obtain ⟨Ea, hEa⟩ : ∃ x, x = W2 := ⟨_, rfl⟩
        rw [← hEa] at d3 d4 gb HR bE
        rw [← hEa]
        clear hEa W2 d0 d1' d2' gb HS HL bw
        go_upto_region 20 with fail
        have HS20 := Lib.hid (show (fun w' : World => w'.cell? ⟨mb, mo + k * 2, none⟩ = some (.int .i64 m1) ∧ w'.cell? ⟨mb, mo + k * 2 + 1, none⟩ = some (.int .i64 m2) ∧ Below Ea.heap.size Ea w') Ea.drew from ⟨d3, d4, (Below.refl _ _).drew⟩)
        go_cut [17] from 127 to 154 (fun a wQ => ∃ q : Nat, a = .pointer (some ⟨q, 0, none⟩) ∧ NS Ea wQ q x y)
        case first =>
          refine wp_region_held_tail (S := (fun w' : World => w'.cell? ⟨mb, mo + k * 2, none⟩ = some (.int .i64 m1) ∧ w'.cell? ⟨mb, mo + k * 2 + 1, none⟩ = some (.int .i64 m2) ∧ Below Ea.heap.size Ea w')) 29 (by kernel_rfl) (by kernel_rfl) HS20.out (fun hHeld => ?_)
          obtain ⟨D, hD⟩ : ∃ D, D = Ea.drew := ⟨_, rfl⟩
          rw [← hD] at hHeld ⊢
          clear hD
          refine wpAnyH_take (i := 0) (v := ?v0_37) rfl (by kernel_rfl) (by kernel_rfl) (by kernel_rfl) (fun _ _ _ h => h) (Or.inl ⟨by rfl, ?hy0_37⟩) (by assumption) ?rest0_37
          case hy0_37 => (intro w hSw; (try dsimp only at hSw); go_simp; (try with_reducible rfl))
          try simp only [Act.put, List.getElem_toArray, List.getElem_cons_zero, List.getElem_cons_succ, List.setIfInBounds_toArray, List.set_cons_zero, List.set_cons_succ]
          refine wpAnyH_take (i := 1) (v := ?v1_38) rfl (by kernel_rfl) (by kernel_rfl) (by kernel_rfl) (fun _ _ _ h => h) (Or.inl ⟨by rfl, ?hy1_38⟩) (by assumption) ?rest1_38
          case hy1_38 => (intro w hSw; (try dsimp only at hSw); go_simp; (try with_reducible rfl))
          try simp only [Act.put, List.getElem_toArray, List.getElem_cons_zero, List.getElem_cons_succ, List.setIfInBounds_toArray, List.set_cons_zero, List.set_cons_succ]
          refine wpAnyH_take (i := 2) (v := ?v2_39) rfl (by kernel_rfl) (by kernel_rfl) (by kernel_rfl) (fun _ _ _ h => h) (Or.inl ⟨by rfl, ?hy2_39⟩) (by assumption) ?rest2_39
          case hy2_39 => (intro w hSw; (try dsimp only at hSw); go_simp; (try with_reducible rfl))
          try simp only [Act.put, List.getElem_toArray, List.getElem_cons_zero, List.getElem_cons_succ, List.setIfInBounds_toArray, List.set_cons_zero, List.set_cons_succ]
          refine wpAnyH_take (i := 3) (v := ?v3_40) rfl (by kernel_rfl) (by kernel_rfl) (by kernel_rfl) (fun _ _ _ h => h) (Or.inl ⟨by rfl, ?hy3_40⟩) (by assumption) ?rest3_40
          case hy3_40 => (intro w hSw; (try dsimp only at hSw); go_simp; (try with_reducible rfl))
          try simp only [Act.put, List.getElem_toArray, List.getElem_cons_zero, List.getElem_cons_succ, List.setIfInBounds_toArray, List.set_cons_zero, List.set_cons_succ]
          refine wpAnyH_take (i := 4) (v := ?v4_41) rfl (by kernel_rfl) (by kernel_rfl) (by kernel_rfl) (fun _ _ _ h => h) (Or.inl ⟨by rfl, ?hy4_41⟩) (by assumption) ?rest4_41
          case hy4_41 => (intro w hSw; (try dsimp only at hSw); go_simp; (try with_reducible rfl))
          try simp only [Act.put, List.getElem_toArray, List.getElem_cons_zero, List.getElem_cons_succ, List.setIfInBounds_toArray, List.set_cons_zero, List.set_cons_succ]
          refine wpAnyH_take (i := 5) (v := ?v5_42) rfl (by kernel_rfl) (by kernel_rfl) (by kernel_rfl) (fun _ _ _ h => h) (Or.inl ⟨by rfl, ?hy5_42⟩) (by assumption) ?rest5_42
          case hy5_42 => (intro w hSw; (try dsimp only at hSw); go_simp; (try with_reducible rfl))
          try simp only [Act.put, List.getElem_toArray, List.getElem_cons_zero, List.getElem_cons_succ, List.setIfInBounds_toArray, List.set_cons_zero, List.set_cons_succ]
          refine wpAnyH_take (i := 6) (v := ?v6_43) rfl (by kernel_rfl) (by kernel_rfl) (by kernel_rfl) (fun _ _ _ h => h) (Or.inl ⟨by rfl, ?hy6_43⟩) (by assumption) ?rest6_43
          case hy6_43 => (intro w hSw; (try dsimp only at hSw); go_simp; (try with_reducible rfl))
          try simp only [Act.put, List.getElem_toArray, List.getElem_cons_zero, List.getElem_cons_succ, List.setIfInBounds_toArray, List.set_cons_zero, List.set_cons_succ]
          refine wpAnyH_take (i := 7) (v := ?v7_44) rfl (by kernel_rfl) (by kernel_rfl) (by kernel_rfl) (fun _ _ _ h => h) (Or.inl ⟨by rfl, ?hy7_44⟩) (by assumption) ?rest7_44
          case hy7_44 => (intro w hSw; (try dsimp only at hSw); go_simp; (try with_reducible rfl))
          try simp only [Act.put, List.getElem_toArray, List.getElem_cons_zero, List.getElem_cons_succ, List.setIfInBounds_toArray, List.set_cons_zero, List.set_cons_succ]
          refine wpAnyH_take (i := 13) (v := ?v13_45) rfl (by kernel_rfl) (by kernel_rfl) (by kernel_rfl) (fun _ _ _ h => h) (Or.inl ⟨by rfl, ?hy13_45⟩) (by assumption) ?rest13_45
          case hy13_45 => (intro w hSw; (try dsimp only at hSw); go_simp; (try with_reducible rfl))
          try simp only [Act.put, List.getElem_toArray, List.getElem_cons_zero, List.getElem_cons_succ, List.setIfInBounds_toArray, List.set_cons_zero, List.set_cons_succ]
          refine wpAnyH_take (i := 14) (v := ?v14_46) rfl (by kernel_rfl) (by kernel_rfl) (by kernel_rfl) (fun _ _ _ h => h) (Or.inl ⟨by rfl, ?hy14_46⟩) (by assumption) ?rest14_46
          case hy14_46 => (intro w hSw; (try dsimp only at hSw); go_simp; (try with_reducible rfl))
          try simp only [Act.put, List.getElem_toArray, List.getElem_cons_zero, List.getElem_cons_succ, List.setIfInBounds_toArray, List.set_cons_zero, List.set_cons_succ]
          refine wpAnyH_take (i := 15) (v := ?v15_47) rfl (by kernel_rfl) (by kernel_rfl) (by kernel_rfl) (fun _ _ _ h => h) (Or.inl ⟨by rfl, ?hy15_47⟩) (by assumption) ?rest15_47
          case hy15_47 => (intro w hSw; (try dsimp only at hSw); go_simp; (try with_reducible rfl))
          try simp only [Act.put, List.getElem_toArray, List.getElem_cons_zero, List.getElem_cons_succ, List.setIfInBounds_toArray, List.set_cons_zero, List.set_cons_succ]
          refine wpAnyH_take (i := 16) (v := ?v16_48) rfl (by kernel_rfl) (by kernel_rfl) (by kernel_rfl) (fun _ _ _ h => h) (Or.inl ⟨by rfl, ?hy16_48⟩) (by assumption) ?rest16_48
          case hy16_48 => (intro w hSw; (try dsimp only at hSw); go_simp; (try with_reducible rfl))
          try simp only [Act.put, List.getElem_toArray, List.getElem_cons_zero, List.getElem_cons_succ, List.setIfInBounds_toArray, List.set_cons_zero, List.set_cons_succ]
          refine wpAnyH_take (i := 17) (v := ?v17_49) rfl (by kernel_rfl) (by kernel_rfl) (by kernel_rfl) (fun _ _ _ h => h) (Or.inl ⟨by rfl, ?hy17_49⟩) (by assumption) ?rest17_49
          case hy17_49 => (intro w hSw; (try dsimp only at hSw); go_simp; (try with_reducible rfl))
          try simp only [Act.put, List.getElem_toArray, List.getElem_cons_zero, List.getElem_cons_succ, List.setIfInBounds_toArray, List.set_cons_zero, List.set_cons_succ]
          refine wpAnyH_take (i := 18) (v := ?v18_50) rfl (by kernel_rfl) (by kernel_rfl) (by kernel_rfl) (fun _ _ _ h => h) (Or.inl ⟨by rfl, ?hy18_50⟩) (by assumption) ?rest18_50
          case hy18_50 => (intro w hSw; (try dsimp only at hSw); go_simp; (try with_reducible rfl))
          try simp only [Act.put, List.getElem_toArray, List.getElem_cons_zero, List.getElem_cons_succ, List.setIfInBounds_toArray, List.set_cons_zero, List.set_cons_succ]
          refine wpAnyH_take (i := 19) (v := ?v19_51) rfl (by kernel_rfl) (by kernel_rfl) (by kernel_rfl) (fun _ _ _ h => h) (Or.inl ⟨by rfl, ?hy19_51⟩) (by assumption) ?rest19_51
          case hy19_51 => (intro w hSw; (try dsimp only at hSw); go_simp; (try with_reducible rfl))
          try simp only [Act.put, List.getElem_toArray, List.getElem_cons_zero, List.getElem_cons_succ, List.setIfInBounds_toArray, List.set_cons_zero, List.set_cons_succ]
          refine wpAnyH_take (i := 20) (v := ?v20_52) rfl (by kernel_rfl) (by kernel_rfl) (by kernel_rfl) (fun _ _ _ h => h) (Or.inl ⟨by rfl, ?hy20_52⟩) (by assumption) ?rest20_52
          case hy20_52 => (intro w hSw; (try dsimp only at hSw); go_simp; (try with_reducible rfl))
          try simp only [Act.put, List.getElem_toArray, List.getElem_cons_zero, List.getElem_cons_succ, List.setIfInBounds_toArray, List.set_cons_zero, List.set_cons_succ]
          refine wpAnyH_take (i := 21) (v := ?v21_53) rfl (by kernel_rfl) (by kernel_rfl) (by kernel_rfl) (fun _ _ _ h => h) (Or.inl ⟨by rfl, ?hy21_53⟩) (by assumption) ?rest21_53
          case hy21_53 => (intro w hSw; (try dsimp only at hSw); go_simp; (try with_reducible rfl))
          try simp only [Act.put, List.getElem_toArray, List.getElem_cons_zero, List.getElem_cons_succ, List.setIfInBounds_toArray, List.set_cons_zero, List.set_cons_succ]
          refine wpAnyH_ready (rs := [8, 28]) (by kernel_rfl) (by simp) ?_
          refine AllReadyH.cons rfl (fun K hK => ?_) (AllReadyH.cons rfl (fun K hK => ?_) AllReadyH.nil)
          · skip
            go_simp
            go_at_call 40; refine (HN1.out _ (bE.trans (hHeld.2.2.mono bE.size))).mono ?_; rintro e' w' ⟨rfl, rfl⟩
            refine hK.out _ _ hHeld (fun hHeld2 => ?_)
            clear hK K hHeld
            have hHeld := hHeld2
            clear hHeld2
            try simp only [Act.put, List.getElem_toArray, List.getElem_cons_zero, List.getElem_cons_succ, List.setIfInBounds_toArray, List.set_cons_zero, List.set_cons_succ]
            refine wpAnyH_take (i := 9) (v := ?v9_54) rfl (by kernel_rfl) (by kernel_rfl) (by kernel_rfl) (fun _ _ _ h => h) (Or.inl ⟨by rfl, ?hy9_54⟩) (by assumption) ?rest9_54
            case hy9_54 => (intro w hSw; (try dsimp only at hSw); go_simp; (try with_reducible rfl))
            try simp only [Act.put, List.getElem_toArray, List.getElem_cons_zero, List.getElem_cons_succ, List.setIfInBounds_toArray, List.set_cons_zero, List.set_cons_succ]
            refine wpAnyH_take (i := 10) (v := ?v10_55) rfl (by kernel_rfl) (by kernel_rfl) (by kernel_rfl) (fun _ _ _ h => h) (Or.inl ⟨by rfl, ?hy10_55⟩) (by assumption) ?rest10_55
            case hy10_55 => (intro w hSw; (try dsimp only at hSw); go_simp; (try with_reducible rfl))
            try simp only [Act.put, List.getElem_toArray, List.getElem_cons_zero, List.getElem_cons_succ, List.setIfInBounds_toArray, List.set_cons_zero, List.set_cons_succ]
            refine wpAnyH_take (i := 11) (v := ?v11_56) rfl (by kernel_rfl) (by kernel_rfl) (by kernel_rfl) (fun _ _ _ h => h) (Or.inl ⟨by rfl, ?hy11_56⟩) (by assumption) ?rest11_56
            case hy11_56 => (intro w hSw; (try dsimp only at hSw); go_simp; (try with_reducible rfl))
            try simp only [Act.put, List.getElem_toArray, List.getElem_cons_zero, List.getElem_cons_succ, List.setIfInBounds_toArray, List.set_cons_zero, List.set_cons_succ]
            refine wpAnyH_take (i := 12) (v := ?v12_57) rfl (by kernel_rfl) (by kernel_rfl) (by kernel_rfl) (fun _ _ _ h => h) (Or.inl ⟨by rfl, ?hy12_57⟩) (by assumption) ?rest12_57
            case hy12_57 => (intro w hSw; (try dsimp only at hSw); go_simp; (try with_reducible rfl))
            try simp only [Act.put, List.getElem_toArray, List.getElem_cons_zero, List.getElem_cons_succ, List.setIfInBounds_toArray, List.set_cons_zero, List.set_cons_succ]
            refine wpAnyH_ready (rs := [22, 28]) (by kernel_rfl) (by simp) ?_
            refine AllReadyH.cons rfl (fun K hK => ?_) (AllReadyH.cons rfl (fun K hK => ?_) AllReadyH.nil)
            · skip
              go_simp
              go_at_call 40; refine (HN2.out _ (bE.trans (hHeld.2.2.mono bE.size))).mono ?_; rintro e' w' ⟨rfl, rfl⟩
              refine hK.out _ _ hHeld (fun hHeld2 => ?_)
              clear hK K hHeld
              have hHeld := hHeld2
              clear hHeld2
              try simp only [Act.put, List.getElem_toArray, List.getElem_cons_zero, List.getElem_cons_succ, List.setIfInBounds_toArray, List.set_cons_zero, List.set_cons_succ]
              refine wpAnyH_take (i := 23) (v := ?v23_58) rfl (by kernel_rfl) (by kernel_rfl) (by kernel_rfl) (fun _ _ _ h => h) (Or.inl ⟨by rfl, ?hy23_58⟩) (by assumption) ?rest23_58
              case hy23_58 => (intro w hSw; (try dsimp only at hSw); go_simp; (try with_reducible rfl))
              try simp only [Act.put, List.getElem_toArray, List.getElem_cons_zero, List.getElem_cons_succ, List.setIfInBounds_toArray, List.set_cons_zero, List.set_cons_succ]
              refine wpAnyH_take (i := 24) (v := ?v24_59) rfl (by kernel_rfl) (by kernel_rfl) (by kernel_rfl) (fun _ _ _ h => h) (Or.inl ⟨by rfl, ?hy24_59⟩) (by assumption) ?rest24_59
              case hy24_59 => (intro w hSw; (try dsimp only at hSw); go_simp; (try with_reducible rfl))
              try simp only [Act.put, List.getElem_toArray, List.getElem_cons_zero, List.getElem_cons_succ, List.setIfInBounds_toArray, List.set_cons_zero, List.set_cons_succ]
              refine wpAnyH_take (i := 25) (v := ?v25_60) rfl (by kernel_rfl) (by kernel_rfl) (by kernel_rfl) (fun _ _ _ h => h) (Or.inl ⟨by rfl, ?hy25_60⟩) (by assumption) ?rest25_60
              case hy25_60 => (intro w hSw; (try dsimp only at hSw); go_simp; (try with_reducible rfl))
              try simp only [Act.put, List.getElem_toArray, List.getElem_cons_zero, List.getElem_cons_succ, List.setIfInBounds_toArray, List.set_cons_zero, List.set_cons_succ]
              refine wpAnyH_take (i := 26) (v := ?v26_61) rfl (by kernel_rfl) (by kernel_rfl) (by kernel_rfl) (fun _ _ _ h => h) (Or.inl ⟨by rfl, ?hy26_61⟩) (by assumption) ?rest26_61
              case hy26_61 => (intro w hSw; (try dsimp only at hSw); go_simp; (try with_reducible rfl))
              try simp only [Act.put, List.getElem_toArray, List.getElem_cons_zero, List.getElem_cons_succ, List.setIfInBounds_toArray, List.set_cons_zero, List.set_cons_succ]
              refine wpAnyH_take (i := 27) (v := ?v27_62) rfl (by kernel_rfl) (by kernel_rfl) (by kernel_rfl) (fun _ _ _ h => h) (Or.inl ⟨by rfl, ?hy27_62⟩) (by assumption) ?rest27_62
              case hy27_62 => (intro w hSw; (try dsimp only at hSw); go_simp; (try with_reducible rfl))
              try simp only [Act.put, List.getElem_toArray, List.getElem_cons_zero, List.getElem_cons_succ, List.setIfInBounds_toArray, List.set_cons_zero, List.set_cons_succ]
              refine wpAnyH_ready (rs := [28]) (by kernel_rfl) (by simp) ?_
              refine AllReadyH.cons rfl (fun K hK => ?_) AllReadyH.nil
              go_simp
              have pq := SpB.new D
              have zq : D.heap.size < (D.alloc (.cells #[.int .i64 0, .int .i64 0] 24)).heap.size := by rw [World.size_alloc]; omega
              have lq : Ea.heap.size ≤ D.heap.size := hHeld.2.2.size
              have hb' : Below D.heap.size D (D.alloc (.cells #[.int .i64 0, .int .i64 0] 24)) := below_alloc _ _
              obtain ⟨q, hq⟩ : ∃ q, q = D.heap.size := ⟨_, rfl⟩
              obtain ⟨W1, hF⟩ : ∃ F, F = D.alloc (.cells #[.int .i64 0, .int .i64 0] 24) := ⟨_, rfl⟩
              rw [← hF, ← hq] at pq zq
              rw [← hq] at lq
              rw [← hF] at hb' ⊢
              rw [← hq]
              refine hK.out _ _ (⟨keepW hb' hHeld.1, keepW hb' hHeld.2.1, hHeld.2.2.trans (hb'.mono hHeld.2.2.size)⟩) (fun hHeld2 => ?_)
              clear hK K hHeld hb' hF hq
              have hHeld := hHeld2
              clear hHeld2
              try simp only [Act.put, List.getElem_toArray, List.getElem_cons_zero, List.getElem_cons_succ, List.setIfInBounds_toArray, List.set_cons_zero, List.set_cons_succ]
              refine wpAnyH_done (by kernel_rfl) ?_ _
              change wpList _ _ _ _ _ _
              simp only [List.drop_succ_cons, List.drop_zero]
              have HP := Lib.hid (SpB.put (u := x) (v := y) pq)
              have zz := zq
              obtain ⟨oc0, oc1, of0, of1⟩ := pq
              have bZ := Lib.hid ((hHeld.2.2.setCell (p := ⟨q, 0, none⟩) (by dsimp only; omega) (.int .i64 x)).setCell (p := ⟨q, 1, none⟩) (by dsimp only; omega) (.int .i64 y))
              go_wp2_with fail
              go_meet
              exact ⟨q, rfl, HP.out.c0, HP.out.c1, HP.out.f0, HP.out.f1, lq, by simp; exact zz, bZ.out⟩
            · skip
              go_simp
              have pq := SpB.new D
              have zq : D.heap.size < (D.alloc (.cells #[.int .i64 0, .int .i64 0] 24)).heap.size := by rw [World.size_alloc]; omega
              have lq : Ea.heap.size ≤ D.heap.size := hHeld.2.2.size
              have hb' : Below D.heap.size D (D.alloc (.cells #[.int .i64 0, .int .i64 0] 24)) := below_alloc _ _
              obtain ⟨q, hq⟩ : ∃ q, q = D.heap.size := ⟨_, rfl⟩
              obtain ⟨W2, hF⟩ : ∃ F, F = D.alloc (.cells #[.int .i64 0, .int .i64 0] 24) := ⟨_, rfl⟩
              rw [← hF, ← hq] at pq zq
              rw [← hq] at lq
              rw [← hF] at hb' ⊢
              rw [← hq]
              refine hK.out _ _ (⟨keepW hb' hHeld.1, keepW hb' hHeld.2.1, hHeld.2.2.trans (hb'.mono hHeld.2.2.size)⟩) (fun hHeld2 => ?_)
              clear hK K hHeld hb' hF hq
              have hHeld := hHeld2
              clear hHeld2
              try simp only [Act.put, List.getElem_toArray, List.getElem_cons_zero, List.getElem_cons_succ, List.setIfInBounds_toArray, List.set_cons_zero, List.set_cons_succ]
              refine wpAnyH_ready (rs := [22]) (by kernel_rfl) (by simp) ?_
              refine AllReadyH.cons rfl (fun K hK => ?_) AllReadyH.nil
              go_simp
              go_at_call 40; refine (HN2.out _ (bE.trans (hHeld.2.2.mono bE.size))).mono ?_; rintro e' w' ⟨rfl, rfl⟩
              refine hK.out _ _ hHeld (fun hHeld2 => ?_)
              clear hK K hHeld
              have hHeld := hHeld2
              clear hHeld2
              try simp only [Act.put, List.getElem_toArray, List.getElem_cons_zero, List.getElem_cons_succ, List.setIfInBounds_toArray, List.set_cons_zero, List.set_cons_succ]
              refine wpAnyH_take (i := 23) (v := ?v23_63) rfl (by kernel_rfl) (by kernel_rfl) (by kernel_rfl) (fun _ _ _ h => h) (Or.inl ⟨by rfl, ?hy23_63⟩) (by assumption) ?rest23_63
              case hy23_63 => (intro w hSw; (try dsimp only at hSw); go_simp; (try with_reducible rfl))
              try simp only [Act.put, List.getElem_toArray, List.getElem_cons_zero, List.getElem_cons_succ, List.setIfInBounds_toArray, List.set_cons_zero, List.set_cons_succ]
              refine wpAnyH_take (i := 24) (v := ?v24_64) rfl (by kernel_rfl) (by kernel_rfl) (by kernel_rfl) (fun _ _ _ h => h) (Or.inl ⟨by rfl, ?hy24_64⟩) (by assumption) ?rest24_64
              case hy24_64 => (intro w hSw; (try dsimp only at hSw); go_simp; (try with_reducible rfl))
              try simp only [Act.put, List.getElem_toArray, List.getElem_cons_zero, List.getElem_cons_succ, List.setIfInBounds_toArray, List.set_cons_zero, List.set_cons_succ]
              refine wpAnyH_take (i := 25) (v := ?v25_65) rfl (by kernel_rfl) (by kernel_rfl) (by kernel_rfl) (fun _ _ _ h => h) (Or.inl ⟨by rfl, ?hy25_65⟩) (by assumption) ?rest25_65
              case hy25_65 => (intro w hSw; (try dsimp only at hSw); go_simp; (try with_reducible rfl))
              try simp only [Act.put, List.getElem_toArray, List.getElem_cons_zero, List.getElem_cons_succ, List.setIfInBounds_toArray, List.set_cons_zero, List.set_cons_succ]
              refine wpAnyH_take (i := 26) (v := ?v26_66) rfl (by kernel_rfl) (by kernel_rfl) (by kernel_rfl) (fun _ _ _ h => h) (Or.inl ⟨by rfl, ?hy26_66⟩) (by assumption) ?rest26_66
              case hy26_66 => (intro w hSw; (try dsimp only at hSw); go_simp; (try with_reducible rfl))
              try simp only [Act.put, List.getElem_toArray, List.getElem_cons_zero, List.getElem_cons_succ, List.setIfInBounds_toArray, List.set_cons_zero, List.set_cons_succ]
              refine wpAnyH_take (i := 27) (v := ?v27_67) rfl (by kernel_rfl) (by kernel_rfl) (by kernel_rfl) (fun _ _ _ h => h) (Or.inl ⟨by rfl, ?hy27_67⟩) (by assumption) ?rest27_67
              case hy27_67 => (intro w hSw; (try dsimp only at hSw); go_simp; (try with_reducible rfl))
              try simp only [Act.put, List.getElem_toArray, List.getElem_cons_zero, List.getElem_cons_succ, List.setIfInBounds_toArray, List.set_cons_zero, List.set_cons_succ]
              refine wpAnyH_done (by kernel_rfl) ?_ _
              change wpList _ _ _ _ _ _
              simp only [List.drop_succ_cons, List.drop_zero]
              have HP := Lib.hid (SpB.put (u := x) (v := y) pq)
              have zz := zq
              obtain ⟨oc0, oc1, of0, of1⟩ := pq
              have bZ := Lib.hid ((hHeld.2.2.setCell (p := ⟨q, 0, none⟩) (by dsimp only; omega) (.int .i64 x)).setCell (p := ⟨q, 1, none⟩) (by dsimp only; omega) (.int .i64 y))
              go_wp2_with fail
              go_meet
              exact ⟨q, rfl, HP.out.c0, HP.out.c1, HP.out.f0, HP.out.f1, lq, by simp; exact zz, bZ.out⟩
          · skip
            go_simp
            have pq := SpB.new D
            have zq : D.heap.size < (D.alloc (.cells #[.int .i64 0, .int .i64 0] 24)).heap.size := by rw [World.size_alloc]; omega
            have lq : Ea.heap.size ≤ D.heap.size := hHeld.2.2.size
            have hb' : Below D.heap.size D (D.alloc (.cells #[.int .i64 0, .int .i64 0] 24)) := below_alloc _ _
            obtain ⟨q, hq⟩ : ∃ q, q = D.heap.size := ⟨_, rfl⟩
            obtain ⟨W3, hF⟩ : ∃ F, F = D.alloc (.cells #[.int .i64 0, .int .i64 0] 24) := ⟨_, rfl⟩
            rw [← hF, ← hq] at pq zq
            rw [← hq] at lq
            rw [← hF] at hb' ⊢
            rw [← hq]
            refine hK.out _ _ (⟨keepW hb' hHeld.1, keepW hb' hHeld.2.1, hHeld.2.2.trans (hb'.mono hHeld.2.2.size)⟩) (fun hHeld2 => ?_)
            clear hK K hHeld hb' hF hq
            have hHeld := hHeld2
            clear hHeld2
            try simp only [Act.put, List.getElem_toArray, List.getElem_cons_zero, List.getElem_cons_succ, List.setIfInBounds_toArray, List.set_cons_zero, List.set_cons_succ]
            refine wpAnyH_ready (rs := [8]) (by kernel_rfl) (by simp) ?_
            refine AllReadyH.cons rfl (fun K hK => ?_) AllReadyH.nil
            go_simp
            go_at_call 40; refine (HN1.out _ (bE.trans (hHeld.2.2.mono bE.size))).mono ?_; rintro e' w' ⟨rfl, rfl⟩
            refine hK.out _ _ hHeld (fun hHeld2 => ?_)
            clear hK K hHeld
            have hHeld := hHeld2
            clear hHeld2
            try simp only [Act.put, List.getElem_toArray, List.getElem_cons_zero, List.getElem_cons_succ, List.setIfInBounds_toArray, List.set_cons_zero, List.set_cons_succ]
            refine wpAnyH_take (i := 9) (v := ?v9_68) rfl (by kernel_rfl) (by kernel_rfl) (by kernel_rfl) (fun _ _ _ h => h) (Or.inl ⟨by rfl, ?hy9_68⟩) (by assumption) ?rest9_68
            case hy9_68 => (intro w hSw; (try dsimp only at hSw); go_simp; (try with_reducible rfl))
            try simp only [Act.put, List.getElem_toArray, List.getElem_cons_zero, List.getElem_cons_succ, List.setIfInBounds_toArray, List.set_cons_zero, List.set_cons_succ]
            refine wpAnyH_take (i := 10) (v := ?v10_69) rfl (by kernel_rfl) (by kernel_rfl) (by kernel_rfl) (fun _ _ _ h => h) (Or.inl ⟨by rfl, ?hy10_69⟩) (by assumption) ?rest10_69
            case hy10_69 => (intro w hSw; (try dsimp only at hSw); go_simp; (try with_reducible rfl))
            try simp only [Act.put, List.getElem_toArray, List.getElem_cons_zero, List.getElem_cons_succ, List.setIfInBounds_toArray, List.set_cons_zero, List.set_cons_succ]
            refine wpAnyH_take (i := 11) (v := ?v11_70) rfl (by kernel_rfl) (by kernel_rfl) (by kernel_rfl) (fun _ _ _ h => h) (Or.inl ⟨by rfl, ?hy11_70⟩) (by assumption) ?rest11_70
            case hy11_70 => (intro w hSw; (try dsimp only at hSw); go_simp; (try with_reducible rfl))
            try simp only [Act.put, List.getElem_toArray, List.getElem_cons_zero, List.getElem_cons_succ, List.setIfInBounds_toArray, List.set_cons_zero, List.set_cons_succ]
            refine wpAnyH_take (i := 12) (v := ?v12_71) rfl (by kernel_rfl) (by kernel_rfl) (by kernel_rfl) (fun _ _ _ h => h) (Or.inl ⟨by rfl, ?hy12_71⟩) (by assumption) ?rest12_71
            case hy12_71 => (intro w hSw; (try dsimp only at hSw); go_simp; (try with_reducible rfl))
            try simp only [Act.put, List.getElem_toArray, List.getElem_cons_zero, List.getElem_cons_succ, List.setIfInBounds_toArray, List.set_cons_zero, List.set_cons_succ]
            refine wpAnyH_ready (rs := [22]) (by kernel_rfl) (by simp) ?_
            refine AllReadyH.cons rfl (fun K hK => ?_) AllReadyH.nil
            go_simp
            go_at_call 40; refine (HN2.out _ (bE.trans (hHeld.2.2.mono bE.size))).mono ?_; rintro e' w' ⟨rfl, rfl⟩
            refine hK.out _ _ hHeld (fun hHeld2 => ?_)
            clear hK K hHeld
            have hHeld := hHeld2
            clear hHeld2
            try simp only [Act.put, List.getElem_toArray, List.getElem_cons_zero, List.getElem_cons_succ, List.setIfInBounds_toArray, List.set_cons_zero, List.set_cons_succ]
            refine wpAnyH_take (i := 23) (v := ?v23_72) rfl (by kernel_rfl) (by kernel_rfl) (by kernel_rfl) (fun _ _ _ h => h) (Or.inl ⟨by rfl, ?hy23_72⟩) (by assumption) ?rest23_72
            case hy23_72 => (intro w hSw; (try dsimp only at hSw); go_simp; (try with_reducible rfl))
            try simp only [Act.put, List.getElem_toArray, List.getElem_cons_zero, List.getElem_cons_succ, List.setIfInBounds_toArray, List.set_cons_zero, List.set_cons_succ]
            refine wpAnyH_take (i := 24) (v := ?v24_73) rfl (by kernel_rfl) (by kernel_rfl) (by kernel_rfl) (fun _ _ _ h => h) (Or.inl ⟨by rfl, ?hy24_73⟩) (by assumption) ?rest24_73
            case hy24_73 => (intro w hSw; (try dsimp only at hSw); go_simp; (try with_reducible rfl))
            try simp only [Act.put, List.getElem_toArray, List.getElem_cons_zero, List.getElem_cons_succ, List.setIfInBounds_toArray, List.set_cons_zero, List.set_cons_succ]
            refine wpAnyH_take (i := 25) (v := ?v25_74) rfl (by kernel_rfl) (by kernel_rfl) (by kernel_rfl) (fun _ _ _ h => h) (Or.inl ⟨by rfl, ?hy25_74⟩) (by assumption) ?rest25_74
            case hy25_74 => (intro w hSw; (try dsimp only at hSw); go_simp; (try with_reducible rfl))
            try simp only [Act.put, List.getElem_toArray, List.getElem_cons_zero, List.getElem_cons_succ, List.setIfInBounds_toArray, List.set_cons_zero, List.set_cons_succ]
            refine wpAnyH_take (i := 26) (v := ?v26_75) rfl (by kernel_rfl) (by kernel_rfl) (by kernel_rfl) (fun _ _ _ h => h) (Or.inl ⟨by rfl, ?hy26_75⟩) (by assumption) ?rest26_75
            case hy26_75 => (intro w hSw; (try dsimp only at hSw); go_simp; (try with_reducible rfl))
            try simp only [Act.put, List.getElem_toArray, List.getElem_cons_zero, List.getElem_cons_succ, List.setIfInBounds_toArray, List.set_cons_zero, List.set_cons_succ]
            refine wpAnyH_take (i := 27) (v := ?v27_76) rfl (by kernel_rfl) (by kernel_rfl) (by kernel_rfl) (fun _ _ _ h => h) (Or.inl ⟨by rfl, ?hy27_76⟩) (by assumption) ?rest27_76
            case hy27_76 => (intro w hSw; (try dsimp only at hSw); go_simp; (try with_reducible rfl))
            try simp only [Act.put, List.getElem_toArray, List.getElem_cons_zero, List.getElem_cons_succ, List.setIfInBounds_toArray, List.set_cons_zero, List.set_cons_succ]
            refine wpAnyH_done (by kernel_rfl) ?_ _
            change wpList _ _ _ _ _ _
            simp only [List.drop_succ_cons, List.drop_zero]
            have HP := Lib.hid (SpB.put (u := x) (v := y) pq)
            have zz := zq
            obtain ⟨oc0, oc1, of0, of1⟩ := pq
            have bZ := Lib.hid ((hHeld.2.2.setCell (p := ⟨q, 0, none⟩) (by dsimp only; omega) (.int .i64 x)).setCell (p := ⟨q, 1, none⟩) (by dsimp only; omega) (.int .i64 y))
            go_wp2_with fail
            go_meet
            exact ⟨q, rfl, HP.out.c0, HP.out.c1, HP.out.f0, HP.out.f1, lq, by simp; exact zz, bZ.out⟩
        case rest =>
        obtain ⟨q, rfl, hNS⟩ := hcut
        obtain ⟨Fa, hFa⟩ : ∃ x, x = wc := ⟨_, rfl⟩
        rw [← hFa] at hNS ⊢
        clear hFa wc HS20 d3 d4 HN1 HN2
        have nq1 : u14.ownBlock ≠ some q := fun e => by have := (HR.out.o1.lt _ e).2; have := hNS.l; omega
        have nq2 : u15.ownBlock ≠ some q := fun e => by have := (HR.out.o2.lt _ e).2; have := hNS.l; omega
        have lqL : La.heap.size ≤ q := Nat.le_trans HR.out.b.size hNS.l
        have HR := Lib.hid (HR.out.keep hNS.b)
        have bw := bE.trans (hNS.b.mono bE.size)
        have q0' := hNS.c0
        have q1' := hNS.c1
        have q2' := hNS.f0
        have q3' := hNS.f1
        have qz := hNS.z
        have lW := HR.out.b.size
        clear hNS bE
        go_wp2_with (first | (at_builtin; refine wpList_append_own_at _ rfl _ _ 44 rfl La.heap.size 24 i0 (.agg #[.int .i64 0, .int .i64 0]) 2 16 Try.underlying44 hi0 hz0 hz1 hz2 rfl (by decide) _ _ _ rfl (HR.out.o1.alloc _) ⟨Fa.heap.size, 0, none⟩ 1 1 [.int .i64 x, .int .i64 y] rfl rfl (cell_two_new _ _ _ _) ?c2 ?c3 ?c4 ?c5 ?_) | go_in)
        case c2 => first | (simp [Value.oneCell']; done) | (intro u hu; simp at hu; rcases hu with rfl | rfl <;> rfl)
        case c3 => unfold maxLen; omega
        case c4 => omega
        case c5 => first | omega | (simp; omega)
        intro v9 Ga hown hgrow _ hat
        have nq3 : v9.ownBlock ≠ some q := fun e => by
          rcases hat with h9 | h9
          · exact nq1 (h9 ▸ e)
          · rw [h9] at e; injection e with e; omega
        have HM := Lib.hid (HR.out.put1 HWd.out.1 HWd.out.2 (below_alloc Fa _) hgrow hown (by rw [World.size_alloc]; exact hat))
        have zA : q < (Fa.alloc (.cells #[.int .i64 x, .int .i64 y] 24)).heap.size := by rw [World.size_alloc]; omega
        have q0' := hgrow.cell (alloc_keep qz q0') (fun e => nq1 e.symm)
        have q1' := hgrow.cell (alloc_keep qz q1') (fun e => nq1 e.symm)
        have q2' : Ga.frozen? ⟨q, 0, none⟩ = false := by rw [hgrow.frozen_far ⟨q, 0, none⟩ zA (fun e => nq1 e.symm)]; exact alloc_keepF qz q2'
        have q3' : Ga.frozen? ⟨q, 1, none⟩ = false := by rw [hgrow.frozen_far ⟨q, 1, none⟩ zA (fun e => nq1 e.symm)]; exact alloc_keepF qz q3'
        have qz : q < Ga.heap.size := Nat.lt_of_lt_of_le zA hgrow.size
        have bG := bwL.out.trans (HM.out.b.mono bwL.out.size)
        clear hown hgrow hat HR nq1 bw zA
        by_cases hgk : k < gn
        · have dg : decide ((k : Int) < (gn : Int)) = true := decide_eq_true (by omega)
          have q5 : (k : Int) < (gn : Int) := by omega
          rcases HG.out with h9 | ⟨gb, go, rfl, lgb, hgs⟩
          · omega
          have cg := keepB bG lgb (hgs k hgk)
          have hg2 := HGb.out k
          have HMo := Lib.hid (show (morB (widB (mesOf pn pz (powB ns)) cn cs) gn gs k).1 = min 1073741824 (x + gs k) ∧ (morB (widB (mesOf pn pz (powB ns)) cn cs) gn gs k).2 = min 1073741824 (y + gs k) from by
            unfold morB; rw [if_pos hgk, HWd.out.1, HWd.out.2]; exact ⟨rfl, rfl⟩)
          have lgG : gb < Ga.heap.size := Nat.lt_of_lt_of_le lgb bG.size
          clear hgs HWd bG
          generalize gs k = g at *
          obtain ⟨x2, hx2⟩ : ∃ z, z = min 1073741824 (x + g) := ⟨_, rfl⟩
          obtain ⟨y2, hy2⟩ : ∃ z, z = min 1073741824 (y + g) := ⟨_, rfl⟩
          rw [← hx2, ← hy2] at HMo
          have g1 : min 1073741824 (x + g) = x2 := hx2.symm
          have g2 : min 1073741824 (y + g) = y2 := hy2.symm
          have g3 : (if x + g < 1073741824 then x + g else 1073741824) = x2 := by rw [hx2]; split <;> omega
          have g4 : (if y + g < 1073741824 then y + g else 1073741824) = y2 := by rw [hy2]; split <;> omega
          have g8 : (if 1073741824 < x + g then 1073741824 else x + g) = x2 := by rw [hx2]; split <;> omega
          have g9 : (if 1073741824 < y + g then 1073741824 else y + g) = y2 := by rw [hy2]; split <;> omega
          have ga : min (x + g) 1073741824 = x2 := by rw [hx2, Int.min_comm]
          have gb9 : min (y + g) 1073741824 = y2 := by rw [hy2, Int.min_comm]
          have g5 : IntKind.i64.wrap (x + g) = x + g := IntWalk.i64_in _ (by omega)
          have g6 : IntKind.i64.wrap (y + g) = y + g := IntWalk.i64_in _ (by omega)
          have g7 : IntKind.i64.wrap g = g := IntWalk.i64_in _ (by omega)
          clear hx2 hy2
          go_upto_region 23 with fail
          have HS := Lib.hid (show (fun w' : World => w'.cell? ⟨q, 0, none⟩ = some (.int .i64 x) ∧ w'.cell? ⟨q, 1, none⟩ = some (.int .i64 y) ∧ w'.cell? ⟨gb, go + k, none⟩ = some (.int .u16 g) ∧ Below Ga.drew.heap.size Ga.drew w') Ga.drew from ⟨q0', q1', cg, Below.refl _ _⟩)
          refine wp_region_held_tail (S := (fun w' : World => w'.cell? ⟨q, 0, none⟩ = some (.int .i64 x) ∧ w'.cell? ⟨q, 1, none⟩ = some (.int .i64 y) ∧ w'.cell? ⟨gb, go + k, none⟩ = some (.int .u16 g) ∧ Below Ga.drew.heap.size Ga.drew w')) 19 (by kernel_rfl) (by kernel_rfl) HS.out (fun hHeld => ?_)
          refine wpAnyH_take (i := 0) (v := ?v0_77) rfl (by kernel_rfl) (by kernel_rfl) (by kernel_rfl) (fun _ _ _ h => h) (Or.inl ⟨by rfl, ?hy0_77⟩) (by assumption) ?rest0_77
          case hy0_77 => (intro w hSw; (try dsimp only at hSw); go_simp; (try with_reducible rfl))
          try simp only [Act.put, List.getElem_toArray, List.getElem_cons_zero, List.getElem_cons_succ, List.setIfInBounds_toArray, List.set_cons_zero, List.set_cons_succ]
          refine wpAnyH_take (i := 1) (v := ?v1_78) rfl (by kernel_rfl) (by kernel_rfl) (by kernel_rfl) (fun _ _ _ h => h) (Or.inl ⟨by rfl, ?hy1_78⟩) (by assumption) ?rest1_78
          case hy1_78 => (intro w hSw; (try dsimp only at hSw); go_simp; (try with_reducible rfl))
          try simp only [Act.put, List.getElem_toArray, List.getElem_cons_zero, List.getElem_cons_succ, List.setIfInBounds_toArray, List.set_cons_zero, List.set_cons_succ]
          refine wpAnyH_take (i := 2) (v := ?v2_79) rfl (by kernel_rfl) (by kernel_rfl) (by kernel_rfl) (fun _ _ _ h => h) (Or.inl ⟨by rfl, ?hy2_79⟩) (by assumption) ?rest2_79
          case hy2_79 => (intro w hSw; (try dsimp only at hSw); go_simp; (try with_reducible rfl))
          try simp only [Act.put, List.getElem_toArray, List.getElem_cons_zero, List.getElem_cons_succ, List.setIfInBounds_toArray, List.set_cons_zero, List.set_cons_succ]
          refine wpAnyH_take (i := 3) (v := ?v3_80) rfl (by kernel_rfl) (by kernel_rfl) (by kernel_rfl) (fun _ _ _ h => h) (Or.inl ⟨by rfl, ?hy3_80⟩) (by assumption) ?rest3_80
          case hy3_80 => (intro w hSw; (try dsimp only at hSw); go_simp; (try with_reducible rfl))
          try simp only [Act.put, List.getElem_toArray, List.getElem_cons_zero, List.getElem_cons_succ, List.setIfInBounds_toArray, List.set_cons_zero, List.set_cons_succ]
          refine wpAnyH_take (i := 4) (v := ?v4_81) rfl (by kernel_rfl) (by kernel_rfl) (by kernel_rfl) (fun _ _ _ h => h) (Or.inl ⟨by rfl, ?hy4_81⟩) (by assumption) ?rest4_81
          case hy4_81 => (intro w hSw; (try dsimp only at hSw); go_simp; (try with_reducible rfl))
          try simp only [Act.put, List.getElem_toArray, List.getElem_cons_zero, List.getElem_cons_succ, List.setIfInBounds_toArray, List.set_cons_zero, List.set_cons_succ]
          refine wpAnyH_take (i := 5) (v := ?v5_82) rfl (by kernel_rfl) (by kernel_rfl) (by kernel_rfl) (fun _ _ _ h => h) (Or.inl ⟨by rfl, ?hy5_82⟩) (by assumption) ?rest5_82
          case hy5_82 => (intro w hSw; (try dsimp only at hSw); go_simp; (try with_reducible rfl))
          try simp only [Act.put, List.getElem_toArray, List.getElem_cons_zero, List.getElem_cons_succ, List.setIfInBounds_toArray, List.set_cons_zero, List.set_cons_succ]
          refine wpAnyH_take (i := 6) (v := ?v6_83) rfl (by kernel_rfl) (by kernel_rfl) (by kernel_rfl) (fun _ _ _ h => h) (Or.inl ⟨by rfl, ?hy6_83⟩) (by assumption) ?rest6_83
          case hy6_83 => (intro w hSw; (try dsimp only at hSw); go_simp; (try with_reducible rfl))
          try simp only [Act.put, List.getElem_toArray, List.getElem_cons_zero, List.getElem_cons_succ, List.setIfInBounds_toArray, List.set_cons_zero, List.set_cons_succ]
          refine wpAnyH_take (i := 7) (v := ?v7_84) rfl (by kernel_rfl) (by kernel_rfl) (by kernel_rfl) (fun _ _ _ h => h) (Or.inl ⟨by rfl, ?hy7_84⟩) (by assumption) ?rest7_84
          case hy7_84 => (intro w hSw; (try dsimp only at hSw); go_simp; (try with_reducible rfl))
          try simp only [Act.put, List.getElem_toArray, List.getElem_cons_zero, List.getElem_cons_succ, List.setIfInBounds_toArray, List.set_cons_zero, List.set_cons_succ]
          refine wpAnyH_take (i := 8) (v := ?v8_85) rfl (by kernel_rfl) (by kernel_rfl) (by kernel_rfl) (fun _ _ _ h => h) (Or.inl ⟨by rfl, ?hy8_85⟩) (by assumption) ?rest8_85
          case hy8_85 => (intro w hSw; (try dsimp only at hSw); go_simp; (try with_reducible rfl))
          try simp only [Act.put, List.getElem_toArray, List.getElem_cons_zero, List.getElem_cons_succ, List.setIfInBounds_toArray, List.set_cons_zero, List.set_cons_succ]
          refine wpAnyH_take (i := 9) (v := ?v9_86) rfl (by kernel_rfl) (by kernel_rfl) (by kernel_rfl) (fun _ _ _ h => h) (Or.inl ⟨by rfl, ?hy9_86⟩) (by assumption) ?rest9_86
          case hy9_86 => (intro w hSw; (try dsimp only at hSw); go_simp; (try with_reducible rfl))
          try simp only [Act.put, List.getElem_toArray, List.getElem_cons_zero, List.getElem_cons_succ, List.setIfInBounds_toArray, List.set_cons_zero, List.set_cons_succ]
          refine wpAnyH_take (i := 10) (v := ?v10_87) rfl (by kernel_rfl) (by kernel_rfl) (by kernel_rfl) (fun _ _ _ h => h) (Or.inl ⟨by rfl, ?hy10_87⟩) (by assumption) ?rest10_87
          case hy10_87 => (intro w hSw; (try dsimp only at hSw); go_simp; (try with_reducible rfl))
          try simp only [Act.put, List.getElem_toArray, List.getElem_cons_zero, List.getElem_cons_succ, List.setIfInBounds_toArray, List.set_cons_zero, List.set_cons_succ]
          refine wpAnyH_take (i := 11) (v := ?v11_88) rfl (by kernel_rfl) (by kernel_rfl) (by kernel_rfl) (fun _ _ _ h => h) (Or.inl ⟨by rfl, ?hy11_88⟩) (by assumption) ?rest11_88
          case hy11_88 => (intro w hSw; (try dsimp only at hSw); go_simp; (try with_reducible rfl))
          try simp only [Act.put, List.getElem_toArray, List.getElem_cons_zero, List.getElem_cons_succ, List.setIfInBounds_toArray, List.set_cons_zero, List.set_cons_succ]
          refine wpAnyH_take (i := 12) (v := ?v12_89) rfl (by kernel_rfl) (by kernel_rfl) (by kernel_rfl) (fun _ _ _ h => h) (Or.inl ⟨by rfl, ?hy12_89⟩) (by assumption) ?rest12_89
          case hy12_89 => (intro w hSw; (try dsimp only at hSw); go_simp; (try with_reducible rfl))
          try simp only [Act.put, List.getElem_toArray, List.getElem_cons_zero, List.getElem_cons_succ, List.setIfInBounds_toArray, List.set_cons_zero, List.set_cons_succ]
          refine wpAnyH_take (i := 13) (v := ?v13_90) rfl (by kernel_rfl) (by kernel_rfl) (by kernel_rfl) (fun _ _ _ h => h) (Or.inl ⟨by rfl, ?hy13_90⟩) (by assumption) ?rest13_90
          case hy13_90 => (intro w hSw; (try dsimp only at hSw); go_simp; (try with_reducible rfl))
          try simp only [Act.put, List.getElem_toArray, List.getElem_cons_zero, List.getElem_cons_succ, List.setIfInBounds_toArray, List.set_cons_zero, List.set_cons_succ]
          refine wpAnyH_take (i := 14) (v := ?v14_91) rfl (by kernel_rfl) (by kernel_rfl) (by kernel_rfl) (fun _ _ _ h => h) (Or.inl ⟨by rfl, ?hy14_91⟩) (by assumption) ?rest14_91
          case hy14_91 => (intro w hSw; (try dsimp only at hSw); go_simp; (try with_reducible rfl))
          try simp only [Act.put, List.getElem_toArray, List.getElem_cons_zero, List.getElem_cons_succ, List.setIfInBounds_toArray, List.set_cons_zero, List.set_cons_succ]
          refine wpAnyH_take (i := 15) (v := ?v15_92) rfl (by kernel_rfl) (by kernel_rfl) (by kernel_rfl) (fun _ _ _ h => h) (Or.inl ⟨by rfl, ?hy15_92⟩) (by assumption) ?rest15_92
          case hy15_92 => (intro w hSw; (try dsimp only at hSw); go_simp; (try with_reducible rfl))
          try simp only [Act.put, List.getElem_toArray, List.getElem_cons_zero, List.getElem_cons_succ, List.setIfInBounds_toArray, List.set_cons_zero, List.set_cons_succ]
          refine wpAnyH_take (i := 16) (v := ?v16_93) rfl (by kernel_rfl) (by kernel_rfl) (by kernel_rfl) (fun _ _ _ h => h) (Or.inl ⟨by rfl, ?hy16_93⟩) (by assumption) ?rest16_93
          case hy16_93 => (intro w hSw; (try dsimp only at hSw); go_simp; (try with_reducible rfl))
          try simp only [Act.put, List.getElem_toArray, List.getElem_cons_zero, List.getElem_cons_succ, List.setIfInBounds_toArray, List.set_cons_zero, List.set_cons_succ]
          refine wpAnyH_take (i := 17) (v := ?v17_94) rfl (by kernel_rfl) (by kernel_rfl) (by kernel_rfl) (fun _ _ _ h => h) (Or.inl ⟨by rfl, ?hy17_94⟩) (by assumption) ?rest17_94
          case hy17_94 => (intro w hSw; (try dsimp only at hSw); go_simp; (try with_reducible rfl))
          try simp only [Act.put, List.getElem_toArray, List.getElem_cons_zero, List.getElem_cons_succ, List.setIfInBounds_toArray, List.set_cons_zero, List.set_cons_succ]
          refine wpAnyH_take (i := 18) (v := ?v18_95) rfl (by kernel_rfl) (by kernel_rfl) (by kernel_rfl) (fun _ _ _ h => h) (Or.inl ⟨by rfl, ?hy18_95⟩) (by assumption) ?rest18_95
          case hy18_95 => (intro w hSw; (try dsimp only at hSw); go_simp; (try with_reducible rfl))
          try simp only [Act.put, List.getElem_toArray, List.getElem_cons_zero, List.getElem_cons_succ, List.setIfInBounds_toArray, List.set_cons_zero, List.set_cons_succ]
          refine wpAnyH_done (by kernel_rfl) ?_ _
          change wpList _ _ _ _ _ _
          simp only [List.drop_succ_cons, List.drop_zero]
          clear hHeld HS
          have HM := Lib.hid (HM.out.keep (Below.refl Ga.heap.size Ga).drew)
          have q0' : Ga.drew.cell? ⟨q, 0, none⟩ = some (.int .i64 x) := q0'
          have q1' : Ga.drew.cell? ⟨q, 1, none⟩ = some (.int .i64 y) := q1'
          have q2' : Ga.drew.frozen? ⟨q, 0, none⟩ = false := q2'
          have q3' : Ga.drew.frozen? ⟨q, 1, none⟩ = false := q3'
          clear cg lgG qz g1 g2 g3 g4 g5 g6 g7
          generalize Ga.drew = Ha at *
          have HM2 := Lib.hid ((HM.out.setq (j := 0) (x := .int .i64 x2) nq3 nq2 lqL).setq (j := 1) (x := .int .i64 y2) nq3 nq2 lqL)
          have q4' : ((Ha.setCell ⟨q, 0, none⟩ (.int .i64 x2)).setCell ⟨q, 1, none⟩ (.int .i64 y2)).cell? ⟨q, 0, none⟩ = some (.int .i64 x2) := set_other (by decide) (set_same q0')
          have q5' : ((Ha.setCell ⟨q, 0, none⟩ (.int .i64 x2)).setCell ⟨q, 1, none⟩ (.int .i64 y2)).cell? ⟨q, 1, none⟩ = some (.int .i64 y2) := set_same (set_other (by decide) q1')
          obtain ⟨Ia, hIa⟩ : ∃ z, z = (Ha.setCell ⟨q, 0, none⟩ (.int .i64 x2)).setCell ⟨q, 1, none⟩ (.int .i64 y2) := ⟨_, rfl⟩
          rw [← hIa] at HM2 q4' q5'
          clear HM
          have HM := HM2
          clear HM2
          go_upto_region 24 with fail
          rw [← hIa]
          clear hIa q0' q1' q2' q3' Ha
          have lW := HM.out.b.size
          go_wp2_with (first | (at_builtin; refine wpList_append_own_at _ rfl _ _ 44 rfl La.heap.size 24 i0 (.agg #[.int .i64 0, .int .i64 0]) 2 16 Try.underlying44 hi0 hz0 hz1 hz2 rfl (by decide) _ _ _ rfl (HM.out.o2.alloc _) ⟨Ia.heap.size, 0, none⟩ 1 1 [.int .i64 x2, .int .i64 y2] rfl rfl (cell_two_new _ _ _ _) ?c2 ?c3 ?c4 ?c5 ?_) | go_in)
          case c2 => first | (simp [Value.oneCell']; done) | (intro u hu; simp at hu; rcases hu with rfl | rfl <;> rfl)
          case c3 => unfold maxLen; omega
          case c4 => omega
          case c5 => first | omega | (simp; omega)
          intro v8 w8 hown hgrow _ hat
          have R9 := Lib.hid (HM.out.put2 HMo.out.1 HMo.out.2 (below_alloc Ia _) hgrow hown (by rw [World.size_alloc]; exact hat))
          clear hown hgrow hat HM
          go_wp2
          go_roundw
          case rel => exact ⟨k + 1, by omega, by go_num, R9.out⟩
          case measure => simp [intOf]; omega
        · have dg : decide ((k : Int) < (gn : Int)) = false := decide_eq_false (by omega)
          have HMo := Lib.hid (show (morB (widB (mesOf pn pz (powB ns)) cn cs) gn gs k).1 = x ∧ (morB (widB (mesOf pn pz (powB ns)) cn cs) gn gs k).2 = y from by
            unfold morB; rw [if_neg hgk]; exact HWd.out)
          clear HWd bG q2' q3'
          go_upto_region 24 with fail
          have lW := HM.out.b.size
          go_wp2_with (first | (at_builtin; refine wpList_append_own_at _ rfl _ _ 44 rfl La.heap.size 24 i0 (.agg #[.int .i64 0, .int .i64 0]) 2 16 Try.underlying44 hi0 hz0 hz1 hz2 rfl (by decide) _ _ _ rfl (HM.out.o2.alloc _) ⟨Ga.heap.size, 0, none⟩ 1 1 [.int .i64 x, .int .i64 y] rfl rfl (cell_two_new _ _ _ _) ?c2 ?c3 ?c4 ?c5 ?_) | go_in)
          case c2 => first | (simp [Value.oneCell']; done) | (intro u hu; simp at hu; rcases hu with rfl | rfl <;> rfl)
          case c3 => unfold maxLen; omega
          case c4 => omega
          case c5 => first | omega | (simp; omega)
          intro v8 w8 hown hgrow _ hat
          have R9 := Lib.hid (HM.out.put2 HMo.out.1 HMo.out.2 (below_alloc Ga _) hgrow hown (by rw [World.size_alloc]; exact hat))
          clear hown hgrow hat HM
          go_wp2
          go_roundw
          case rel => exact ⟨k + 1, by omega, by go_num, R9.out⟩
          case measure => simp [intOf]; omega
      · obtain rfl : nn = k := by omega
        obtain ⟨wa, wcap, rfl, hw⟩ := own_spans (zs := widB (mesOf pn pz (powB ns)) cn cs) HR.out.o1 HR.out.n1
        obtain ⟨xa, xcap, rfl, hx⟩ := own_spans (zs := morB (widB (mesOf pn pz (powB ns)) cn cs) gn gs) HR.out.o2 HR.out.n2
        have HW := Lib.hid hw
        have HX := Lib.hid hx
        have HB := Lib.hid (HB.out.keep hbL)
        clear hw hx HR hlt hk HZ HM HWi HMe HB1 HN0 HCs HG HGb HPw hbL
        go_wp2_with fail
        refine (HR2.out _ _ _ bw HW.out).mono ?_; rintro e B2 ⟨aa, ac, rfl, s1, b1⟩
        have HX := Lib.hid (HX.out.keep b1)
        have HB := Lib.hid (HB.out.keep b1)
        have HA := Lib.hid s1
        have bB := bw.trans (b1.mono bw.size)
        clear s1 b1 bw HR2 HW
        go_wp2_with fail
        refine (HR3.out _ _ _ bB HX.out).mono ?_; rintro e N0 ⟨da, dc, rfl, s1, b1⟩
        have HB := Lib.hid (HB.out.keep b1)
        have HA := Lib.hid (HA.out.keep b1)
        have HD := Lib.hid s1
        have bN := bB.trans (b1.mono bB.size)
        clear s1 b1 bB HR3 HX
        obtain ⟨Na, hNa⟩ : ∃ x, x = N0 := ⟨_, rfl⟩
        rw [← hNa] at HB HA HD bN
        rw [← hNa]
        clear hNa N0
        go_wp2
        go_loopw [21] (fun i wr => ∃ k : Nat, k ≤ nn ∧ i = .int .i64 k ∧ Below Na.heap.size Na wr) (fun i _ => nn - (intOf i).toNat)
        case atStart => exact ⟨0, Nat.zero_le _, rfl, Below.refl _ _⟩
        case round =>
        obtain ⟨k, hk, rfl, hbw⟩ := hrel
        by_cases hlt : k < nn
        · rcases HB.out with h9 | ⟨bb, bo, rfl, lbb, hbb⟩
          · omega
          rcases HA.out with h9 | ⟨ab, ao, rfl, lab, haa⟩
          · omega
          rcases HD.out with h9 | ⟨db, do_, rfl, ldb, hdd⟩
          · omega
          have c1 := keepB hbw lbb (hbb k hlt).1
          have c2 := keepB hbw lbb (hbb k hlt).2
          have c3 := keepB hbw lab (haa k hlt).1
          have c4 := keepB hbw lab (haa k hlt).2
          have c5 := keepB hbw ldb (hdd k hlt).1
          have c6 := keepB hbw ldb (hdd k hlt).2
          have l1 : bb < wr.heap.size := Nat.lt_of_lt_of_le lbb hbw.size
          have l2 : ab < wr.heap.size := Nat.lt_of_lt_of_le lab hbw.size
          have l3 : db < wr.heap.size := Nat.lt_of_lt_of_le ldb hbw.size
          have q0 : (0 : Int) ≤ (k : Int) := by omega
          have q1 : (k : Int) < (nn : Int) := by omega
          have f1 := HB2.out k hlt
          have f2 := HB3.out k hlt
          have f3 := HB4.out k hlt
          have HL := Lib.hid (fun W => lies_true (rstOf pn pz (mesOf pn pz (powB ns)) k).1 (rstOf pn pz (mesOf pn pz (powB ns)) k).2 (rstOf pn pz (widB (mesOf pn pz (powB ns)) cn cs) k).1 (rstOf pn pz (widB (mesOf pn pz (powB ns)) cn cs) k).2 W f3.2.1 f1.1 f1.2)
          clear hbb haa hdd HB2 HB3 HB4
          generalize (rstOf pn pz (mesOf pn pz (powB ns)) k).1 = b1 at *
          generalize (rstOf pn pz (mesOf pn pz (powB ns)) k).2 = b2 at *
          generalize (rstOf pn pz (widB (mesOf pn pz (powB ns)) cn cs) k).1 = a1 at *
          generalize (rstOf pn pz (widB (mesOf pn pz (powB ns)) cn cs) k).2 = a2 at *
          generalize (rstOf pn pz (morB (widB (mesOf pn pz (powB ns)) cn cs) gn gs) k).1 = e1 at *
          generalize (rstOf pn pz (morB (widB (mesOf pn pz (powB ns)) cn cs) gn gs) k).2 = e2 at *
          have dd1 : decide (e1 < a1) = false := decide_eq_false (by omega)
          have dd2 : decide (e2 < a2) = false := decide_eq_false (by omega)
          clear f1 f2 f3
          go_upto_region 32 with fail
          have HS := Lib.hid (show (fun w' : World => w'.cell? ⟨bb, bo + k * 2, none⟩ = some (.int .i64 b1) ∧ w'.cell? ⟨bb, bo + k * 2 + 1, none⟩ = some (.int .i64 b2) ∧ w'.cell? ⟨ab, ao + k * 2, none⟩ = some (.int .i64 a1) ∧ w'.cell? ⟨ab, ao + k * 2 + 1, none⟩ = some (.int .i64 a2) ∧ w'.cell? ⟨db, do_ + k * 2, none⟩ = some (.int .i64 e1) ∧ w'.cell? ⟨db, do_ + k * 2 + 1, none⟩ = some (.int .i64 e2) ∧ Below wr.heap.size wr w') wr.drew from ⟨c1, c2, c3, c4, c5, c6, (Below.refl _ _).drew⟩)
          clear c1 c2 c3 c4 c5 c6
          refine wp_region_held_tail (S := (fun w' : World => w'.cell? ⟨bb, bo + k * 2, none⟩ = some (.int .i64 b1) ∧ w'.cell? ⟨bb, bo + k * 2 + 1, none⟩ = some (.int .i64 b2) ∧ w'.cell? ⟨ab, ao + k * 2, none⟩ = some (.int .i64 a1) ∧ w'.cell? ⟨ab, ao + k * 2 + 1, none⟩ = some (.int .i64 a2) ∧ w'.cell? ⟨db, do_ + k * 2, none⟩ = some (.int .i64 e1) ∧ w'.cell? ⟨db, do_ + k * 2 + 1, none⟩ = some (.int .i64 e2) ∧ Below wr.heap.size wr w')) 34 (by kernel_rfl) (by kernel_rfl) HS.out (fun hHeld => ?_)
          obtain ⟨D, hD⟩ : ∃ D, D = wr.drew := ⟨_, rfl⟩
          rw [← hD] at hHeld ⊢
          clear hD
          refine wpAnyH_take (i := 0) (v := ?v0_96) rfl (by kernel_rfl) (by kernel_rfl) (by kernel_rfl) (fun _ _ _ h => h) (Or.inl ⟨by rfl, ?hy0_96⟩) (by assumption) ?rest0_96
          case hy0_96 => (intro w hSw; (try dsimp only at hSw); go_simp; (try with_reducible rfl))
          try simp only [Act.put, List.getElem_toArray, List.getElem_cons_zero, List.getElem_cons_succ, List.setIfInBounds_toArray, List.set_cons_zero, List.set_cons_succ]
          refine wpAnyH_take (i := 1) (v := ?v1_97) rfl (by kernel_rfl) (by kernel_rfl) (by kernel_rfl) (fun _ _ _ h => h) (Or.inl ⟨by rfl, ?hy1_97⟩) (by assumption) ?rest1_97
          case hy1_97 => (intro w hSw; (try dsimp only at hSw); go_simp; (try with_reducible rfl))
          try simp only [Act.put, List.getElem_toArray, List.getElem_cons_zero, List.getElem_cons_succ, List.setIfInBounds_toArray, List.set_cons_zero, List.set_cons_succ]
          refine wpAnyH_take (i := 2) (v := ?v2_98) rfl (by kernel_rfl) (by kernel_rfl) (by kernel_rfl) (fun _ _ _ h => h) (Or.inl ⟨by rfl, ?hy2_98⟩) (by assumption) ?rest2_98
          case hy2_98 => (intro w hSw; (try dsimp only at hSw); go_simp; (try with_reducible rfl))
          try simp only [Act.put, List.getElem_toArray, List.getElem_cons_zero, List.getElem_cons_succ, List.setIfInBounds_toArray, List.set_cons_zero, List.set_cons_succ]
          refine wpAnyH_take (i := 3) (v := ?v3_99) rfl (by kernel_rfl) (by kernel_rfl) (by kernel_rfl) (fun _ _ _ h => h) (Or.inl ⟨by rfl, ?hy3_99⟩) (by assumption) ?rest3_99
          case hy3_99 => (intro w hSw; (try dsimp only at hSw); go_simp; (try with_reducible rfl))
          try simp only [Act.put, List.getElem_toArray, List.getElem_cons_zero, List.getElem_cons_succ, List.setIfInBounds_toArray, List.set_cons_zero, List.set_cons_succ]
          refine wpAnyH_take (i := 4) (v := ?v4_100) rfl (by kernel_rfl) (by kernel_rfl) (by kernel_rfl) (fun _ _ _ h => h) (Or.inl ⟨by rfl, ?hy4_100⟩) (by assumption) ?rest4_100
          case hy4_100 => (intro w hSw; (try dsimp only at hSw); go_simp; (try with_reducible rfl))
          try simp only [Act.put, List.getElem_toArray, List.getElem_cons_zero, List.getElem_cons_succ, List.setIfInBounds_toArray, List.set_cons_zero, List.set_cons_succ]
          refine wpAnyH_take (i := 5) (v := ?v5_101) rfl (by kernel_rfl) (by kernel_rfl) (by kernel_rfl) (fun _ _ _ h => h) (Or.inl ⟨by rfl, ?hy5_101⟩) (by assumption) ?rest5_101
          case hy5_101 => (intro w hSw; (try dsimp only at hSw); go_simp; (try with_reducible rfl))
          try simp only [Act.put, List.getElem_toArray, List.getElem_cons_zero, List.getElem_cons_succ, List.setIfInBounds_toArray, List.set_cons_zero, List.set_cons_succ]
          refine wpAnyH_take (i := 6) (v := ?v6_102) rfl (by kernel_rfl) (by kernel_rfl) (by kernel_rfl) (fun _ _ _ h => h) (Or.inl ⟨by rfl, ?hy6_102⟩) (by assumption) ?rest6_102
          case hy6_102 => (intro w hSw; (try dsimp only at hSw); go_simp; (try with_reducible rfl))
          try simp only [Act.put, List.getElem_toArray, List.getElem_cons_zero, List.getElem_cons_succ, List.setIfInBounds_toArray, List.set_cons_zero, List.set_cons_succ]
          refine wpAnyH_take (i := 7) (v := ?v7_103) rfl (by kernel_rfl) (by kernel_rfl) (by kernel_rfl) (fun _ _ _ h => h) (Or.inl ⟨by rfl, ?hy7_103⟩) (by assumption) ?rest7_103
          case hy7_103 => (intro w hSw; (try dsimp only at hSw); go_simp; (try with_reducible rfl))
          try simp only [Act.put, List.getElem_toArray, List.getElem_cons_zero, List.getElem_cons_succ, List.setIfInBounds_toArray, List.set_cons_zero, List.set_cons_succ]
          refine wpAnyH_ready (rs := [8]) (by kernel_rfl) (by simp) ?_
          refine AllReadyH.cons rfl (fun K hK => ?_) AllReadyH.nil
          go_simp
          go_at_call 39; refine (HL.out _).mono ?_; rintro e' W1 ⟨rfl, hb'⟩
          refine hK.out _ _ (⟨keepW hb' hHeld.1, keepW hb' hHeld.2.1, keepW hb' hHeld.2.2.1, keepW hb' hHeld.2.2.2.1, keepW hb' hHeld.2.2.2.2.1, keepW hb' hHeld.2.2.2.2.2.1, hHeld.2.2.2.2.2.2.trans (hb'.mono hHeld.2.2.2.2.2.2.size)⟩) (fun hHeld2 => ?_)
          clear hK K hHeld hb'
          have hHeld := hHeld2
          clear hHeld2
          try simp only [Act.put, List.getElem_toArray, List.getElem_cons_zero, List.getElem_cons_succ, List.setIfInBounds_toArray, List.set_cons_zero, List.set_cons_succ]
          refine wpAnyH_take (i := 9) (v := ?v9_104) rfl (by kernel_rfl) (by kernel_rfl) (by kernel_rfl) (fun _ _ _ h => h) (Or.inl ⟨by rfl, ?hy9_104⟩) (by assumption) ?rest9_104
          case hy9_104 => (intro w hSw; (try dsimp only at hSw); go_simp; (try with_reducible rfl))
          try simp only [Act.put, List.getElem_toArray, List.getElem_cons_zero, List.getElem_cons_succ, List.setIfInBounds_toArray, List.set_cons_zero, List.set_cons_succ]
          refine wpAnyH_take (i := 10) (v := ?v10_105) rfl (by kernel_rfl) (by kernel_rfl) (by kernel_rfl) (fun _ _ _ h => h) (Or.inl ⟨by rfl, ?hy10_105⟩) (by assumption) ?rest10_105
          case hy10_105 => (intro w hSw; (try dsimp only at hSw); go_simp; (try with_reducible rfl))
          try simp only [Act.put, List.getElem_toArray, List.getElem_cons_zero, List.getElem_cons_succ, List.setIfInBounds_toArray, List.set_cons_zero, List.set_cons_succ]
          refine wpAnyH_take (i := 11) (v := ?v11_106) rfl (by kernel_rfl) (by kernel_rfl) (by kernel_rfl) (fun _ _ _ h => h) (Or.inl ⟨by rfl, ?hy11_106⟩) (by assumption) ?rest11_106
          case hy11_106 => (intro w hSw; (try dsimp only at hSw); go_simp; (try with_reducible rfl))
          try simp only [Act.put, List.getElem_toArray, List.getElem_cons_zero, List.getElem_cons_succ, List.setIfInBounds_toArray, List.set_cons_zero, List.set_cons_succ]
          refine wpAnyH_take (i := 12) (v := ?v12_107) rfl (by kernel_rfl) (by kernel_rfl) (by kernel_rfl) (fun _ _ _ h => h) (Or.inl ⟨by rfl, ?hy12_107⟩) (by assumption) ?rest12_107
          case hy12_107 => (intro w hSw; (try dsimp only at hSw); go_simp; (try with_reducible rfl))
          try simp only [Act.put, List.getElem_toArray, List.getElem_cons_zero, List.getElem_cons_succ, List.setIfInBounds_toArray, List.set_cons_zero, List.set_cons_succ]
          refine wpAnyH_take (i := 13) (v := ?v13_108) rfl (by kernel_rfl) (by kernel_rfl) (by kernel_rfl) (fun _ _ _ h => h) (Or.inl ⟨by rfl, ?hy13_108⟩) (by assumption) ?rest13_108
          case hy13_108 => (intro w hSw; (try dsimp only at hSw); go_simp; (try with_reducible rfl))
          try simp only [Act.put, List.getElem_toArray, List.getElem_cons_zero, List.getElem_cons_succ, List.setIfInBounds_toArray, List.set_cons_zero, List.set_cons_succ]
          refine wpAnyH_take (i := 14) (v := ?v14_109) rfl (by kernel_rfl) (by kernel_rfl) (by kernel_rfl) (fun _ _ _ h => h) (Or.inl ⟨by rfl, ?hy14_109⟩) (by assumption) ?rest14_109
          case hy14_109 => (intro w hSw; (try dsimp only at hSw); go_simp; (try with_reducible rfl))
          try simp only [Act.put, List.getElem_toArray, List.getElem_cons_zero, List.getElem_cons_succ, List.setIfInBounds_toArray, List.set_cons_zero, List.set_cons_succ]
          refine wpAnyH_take (i := 15) (v := ?v15_110) rfl (by kernel_rfl) (by kernel_rfl) (by kernel_rfl) (fun _ _ _ h => h) (Or.inl ⟨by rfl, ?hy15_110⟩) (by assumption) ?rest15_110
          case hy15_110 => (intro w hSw; (try dsimp only at hSw); go_simp; (try with_reducible rfl))
          try simp only [Act.put, List.getElem_toArray, List.getElem_cons_zero, List.getElem_cons_succ, List.setIfInBounds_toArray, List.set_cons_zero, List.set_cons_succ]
          refine wpAnyH_take (i := 16) (v := ?v16_111) rfl (by kernel_rfl) (by kernel_rfl) (by kernel_rfl) (fun _ _ _ h => h) (Or.inl ⟨by rfl, ?hy16_111⟩) (by assumption) ?rest16_111
          case hy16_111 => (intro w hSw; (try dsimp only at hSw); go_simp; (try with_reducible rfl))
          try simp only [Act.put, List.getElem_toArray, List.getElem_cons_zero, List.getElem_cons_succ, List.setIfInBounds_toArray, List.set_cons_zero, List.set_cons_succ]
          refine wpAnyH_take (i := 17) (v := ?v17_112) rfl (by kernel_rfl) (by kernel_rfl) (by kernel_rfl) (fun _ _ _ h => h) (Or.inl ⟨by rfl, ?hy17_112⟩) (by assumption) ?rest17_112
          case hy17_112 => (intro w hSw; (try dsimp only at hSw); go_simp; (try with_reducible rfl))
          try simp only [Act.put, List.getElem_toArray, List.getElem_cons_zero, List.getElem_cons_succ, List.setIfInBounds_toArray, List.set_cons_zero, List.set_cons_succ]
          refine wpAnyH_take (i := 18) (v := ?v18_113) rfl (by kernel_rfl) (by kernel_rfl) (by kernel_rfl) (fun _ _ _ h => h) (Or.inl ⟨by rfl, ?hy18_113⟩) (by assumption) ?rest18_113
          case hy18_113 => (intro w hSw; (try dsimp only at hSw); go_simp; (try with_reducible rfl))
          try simp only [Act.put, List.getElem_toArray, List.getElem_cons_zero, List.getElem_cons_succ, List.setIfInBounds_toArray, List.set_cons_zero, List.set_cons_succ]
          refine wpAnyH_take (i := 19) (v := ?v19_114) rfl (by kernel_rfl) (by kernel_rfl) (by kernel_rfl) (fun _ _ _ h => h) (Or.inl ⟨by rfl, ?hy19_114⟩) (by assumption) ?rest19_114
          case hy19_114 => (intro w hSw; (try dsimp only at hSw); go_simp; (try with_reducible rfl))
          try simp only [Act.put, List.getElem_toArray, List.getElem_cons_zero, List.getElem_cons_succ, List.setIfInBounds_toArray, List.set_cons_zero, List.set_cons_succ]
          refine wpAnyH_take (i := 20) (v := ?v20_115) rfl (by kernel_rfl) (by kernel_rfl) (by kernel_rfl) (fun _ _ _ h => h) (Or.inl ⟨by rfl, ?hy20_115⟩) (by assumption) ?rest20_115
          case hy20_115 => (intro w hSw; (try dsimp only at hSw); go_simp; (try with_reducible rfl))
          try simp only [Act.put, List.getElem_toArray, List.getElem_cons_zero, List.getElem_cons_succ, List.setIfInBounds_toArray, List.set_cons_zero, List.set_cons_succ]
          refine wpAnyH_take (i := 21) (v := ?v21_116) rfl (by kernel_rfl) (by kernel_rfl) (by kernel_rfl) (fun _ _ _ h => h) (Or.inl ⟨by rfl, ?hy21_116⟩) (by assumption) ?rest21_116
          case hy21_116 => (intro w hSw; (try dsimp only at hSw); go_simp; (try with_reducible rfl))
          try simp only [Act.put, List.getElem_toArray, List.getElem_cons_zero, List.getElem_cons_succ, List.setIfInBounds_toArray, List.set_cons_zero, List.set_cons_succ]
          refine wpAnyH_take (i := 22) (v := ?v22_117) rfl (by kernel_rfl) (by kernel_rfl) (by kernel_rfl) (fun _ _ _ h => h) (Or.inl ⟨by rfl, ?hy22_117⟩) (by assumption) ?rest22_117
          case hy22_117 => (intro w hSw; (try dsimp only at hSw); go_simp; (try with_reducible rfl))
          try simp only [Act.put, List.getElem_toArray, List.getElem_cons_zero, List.getElem_cons_succ, List.setIfInBounds_toArray, List.set_cons_zero, List.set_cons_succ]
          refine wpAnyH_take (i := 23) (v := ?v23_118) rfl (by kernel_rfl) (by kernel_rfl) (by kernel_rfl) (fun _ _ _ h => h) (Or.inl ⟨by rfl, ?hy23_118⟩) (by assumption) ?rest23_118
          case hy23_118 => (intro w hSw; (try dsimp only at hSw); go_simp; (try with_reducible rfl))
          try simp only [Act.put, List.getElem_toArray, List.getElem_cons_zero, List.getElem_cons_succ, List.setIfInBounds_toArray, List.set_cons_zero, List.set_cons_succ]
          refine wpAnyH_take (i := 24) (v := ?v24_119) rfl (by kernel_rfl) (by kernel_rfl) (by kernel_rfl) (fun _ _ _ h => h) (Or.inl ⟨by rfl, ?hy24_119⟩) (by assumption) ?rest24_119
          case hy24_119 => (intro w hSw; (try dsimp only at hSw); go_simp; (try with_reducible rfl))
          try simp only [Act.put, List.getElem_toArray, List.getElem_cons_zero, List.getElem_cons_succ, List.setIfInBounds_toArray, List.set_cons_zero, List.set_cons_succ]
          refine wpAnyH_take (i := 25) (v := ?v25_120) rfl (by kernel_rfl) (by kernel_rfl) (by kernel_rfl) (fun _ _ _ h => h) (Or.inl ⟨by rfl, ?hy25_120⟩) (by assumption) ?rest25_120
          case hy25_120 => (intro w hSw; (try dsimp only at hSw); go_simp; (try with_reducible rfl))
          try simp only [Act.put, List.getElem_toArray, List.getElem_cons_zero, List.getElem_cons_succ, List.setIfInBounds_toArray, List.set_cons_zero, List.set_cons_succ]
          refine wpAnyH_take (i := 26) (v := ?v26_121) rfl (by kernel_rfl) (by kernel_rfl) (by kernel_rfl) (fun _ _ _ h => h) (Or.inl ⟨by rfl, ?hy26_121⟩) (by assumption) ?rest26_121
          case hy26_121 => (intro w hSw; (try dsimp only at hSw); go_simp; (try with_reducible rfl))
          try simp only [Act.put, List.getElem_toArray, List.getElem_cons_zero, List.getElem_cons_succ, List.setIfInBounds_toArray, List.set_cons_zero, List.set_cons_succ]
          refine wpAnyH_take (i := 27) (v := ?v27_122) rfl (by kernel_rfl) (by kernel_rfl) (by kernel_rfl) (fun _ _ _ h => h) (Or.inl ⟨by rfl, ?hy27_122⟩) (by assumption) ?rest27_122
          case hy27_122 => (intro w hSw; (try dsimp only at hSw); go_simp; (try with_reducible rfl))
          try simp only [Act.put, List.getElem_toArray, List.getElem_cons_zero, List.getElem_cons_succ, List.setIfInBounds_toArray, List.set_cons_zero, List.set_cons_succ]
          refine wpAnyH_take (i := 28) (v := ?v28_123) rfl (by kernel_rfl) (by kernel_rfl) (by kernel_rfl) (fun _ _ _ h => h) (Or.inl ⟨by rfl, ?hy28_123⟩) (by assumption) ?rest28_123
          case hy28_123 => (intro w hSw; (try dsimp only at hSw); go_simp; (try with_reducible rfl))
          try simp only [Act.put, List.getElem_toArray, List.getElem_cons_zero, List.getElem_cons_succ, List.setIfInBounds_toArray, List.set_cons_zero, List.set_cons_succ]
          refine wpAnyH_take (i := 29) (v := ?v29_124) rfl (by kernel_rfl) (by kernel_rfl) (by kernel_rfl) (fun _ _ _ h => h) (Or.inl ⟨by rfl, ?hy29_124⟩) (by assumption) ?rest29_124
          case hy29_124 => (intro w hSw; (try dsimp only at hSw); go_simp; (try with_reducible rfl))
          try simp only [Act.put, List.getElem_toArray, List.getElem_cons_zero, List.getElem_cons_succ, List.setIfInBounds_toArray, List.set_cons_zero, List.set_cons_succ]
          refine wpAnyH_take (i := 30) (v := ?v30_125) rfl (by kernel_rfl) (by kernel_rfl) (by kernel_rfl) (fun _ _ _ h => h) (Or.inl ⟨by rfl, ?hy30_125⟩) (by assumption) ?rest30_125
          case hy30_125 => (intro w hSw; (try dsimp only at hSw); go_simp; (try with_reducible rfl))
          try simp only [Act.put, List.getElem_toArray, List.getElem_cons_zero, List.getElem_cons_succ, List.setIfInBounds_toArray, List.set_cons_zero, List.set_cons_succ]
          refine wpAnyH_take (i := 31) (v := ?v31_126) rfl (by kernel_rfl) (by kernel_rfl) (by kernel_rfl) (fun _ _ _ h => h) (Or.inl ⟨by rfl, ?hy31_126⟩) (by assumption) ?rest31_126
          case hy31_126 => (intro w hSw; (try dsimp only at hSw); go_simp; (try with_reducible rfl))
          try simp only [Act.put, List.getElem_toArray, List.getElem_cons_zero, List.getElem_cons_succ, List.setIfInBounds_toArray, List.set_cons_zero, List.set_cons_succ]
          refine wpAnyH_take (i := 32) (v := ?v32_127) rfl (by kernel_rfl) (by kernel_rfl) (by kernel_rfl) (fun _ _ _ h => h) (Or.inl ⟨by rfl, ?hy32_127⟩) (by assumption) ?rest32_127
          case hy32_127 => (intro w hSw; (try dsimp only at hSw); go_simp; (try with_reducible rfl))
          try simp only [Act.put, List.getElem_toArray, List.getElem_cons_zero, List.getElem_cons_succ, List.setIfInBounds_toArray, List.set_cons_zero, List.set_cons_succ]
          refine wpAnyH_take (i := 33) (v := ?v33_128) rfl (by kernel_rfl) (by kernel_rfl) (by kernel_rfl) (fun _ _ _ h => h) (Or.inl ⟨by rfl, ?hy33_128⟩) (by assumption) ?rest33_128
          case hy33_128 => (intro w hSw; (try dsimp only at hSw); go_simp; (try with_reducible rfl))
          try simp only [Act.put, List.getElem_toArray, List.getElem_cons_zero, List.getElem_cons_succ, List.setIfInBounds_toArray, List.set_cons_zero, List.set_cons_succ]
          refine wpAnyH_done (by kernel_rfl) ?_ _
          change wpList _ _ _ _ _ _
          simp only [List.drop_succ_cons, List.drop_zero]
          have gb := hHeld.2.2.2.2.2.2
          have bE := Lib.hid (hbw.trans (gb.mono hbw.size))
          clear hHeld gb HS HL hbw
          go_wp2
          go_roundw
          case rel => exact ⟨k + 1, by omega, by go_num, bE.out⟩
          case measure => simp [intOf]; omega
        · have bE := bN.trans (hbw.mono bN.size)
          clear hbw HB HA HD HB2 HB3 HB4
          obtain rfl : nn = k := by omega
          go_wp2_with fail
          refine (works_any _).mono ?_; rintro e X9 ⟨rfl, hbX⟩
          have bX9 := bE.trans (hbX.mono bE.size)
          go_wp2
          go_ret
          exact ⟨rfl, bX9⟩
theorem RainBack_walk (pa : Option Addr) (pn pc : Nat) (na : Option Addr) (nn nc : Nat) (ca : Option Addr) (cn cc : Nat) (ga : Option Addr) (gn gc : Nat) (pz : Nat → Int × Int) (ns cs gs : Nat → Int) (w : World) (hpn : pn ≤ maxLen) (hp : SliceIs w pa pn pc pz) (hnn : nn ≤ maxLen) (hn : NumsIs .u32 w na nn ns) (wn : ∀ i, (Lit.int .u32 (ns i)).wf = true) (hcn : cn ≤ maxLen) (hc : NumsIs .u32 w ca cn cs) (wcs : ∀ i, (Lit.int .u32 (cs i)).wf = true) (hgn : gn ≤ maxLen) (hg : NumsIs .u16 w ga gn gs) (wg : ∀ i, (Lit.int .u16 (gs i)).wf = true) :
    Calls Try.prog 8 #[.slice pa pn pc, .slice na nn nc, .slice ca cn cc, .slice ga gn gc] w fun e w' => e = .returned (.bool true) ∧ Below w.heap.size w w' := by
  by_cases h : 100 < pn ∨ 60 < nn
  · exact RainBack_big pa pn pc na nn nc ca cn cc ga gn gc w ⟨hpn, hnn⟩ h
  by_cases h0 : tabC pn pz 32768 = 0
  · refine RainBack_few pa pn pc na nn nc ca cn cc ga gn gc pz ns cs gs w (by omega) (by omega) hcn hgn hp hn hc hg wn wcs (fun i => ?_) h0
    have h1 : (decide (IntKind.u16.min ≤ gs i) && decide (gs i ≤ IntKind.u16.max)) = true := wg i
    rw [Bool.and_eq_true, decide_eq_true_eq, decide_eq_true_eq, show IntKind.u16.min = 0 by decide, show IntKind.u16.max = 65535 by decide] at h1
    omega
  · exact RainBack_bad pa pn pc na nn nc ca cn cc ga gn gc pz w (by omega) (by omega) hp h0

end Go.Proofs.Ytdmbkhmhaininaa
