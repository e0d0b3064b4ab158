/-
  What View of the reference returns.
-/
import Derived.Test.YthnjfnapjpdchaaZ2
import Derived.Maps.AppendAt
import Derived.Deep.AppendLies
namespace Go.Proofs.Ythnjfnapjpdchaa
open Go.RowKit
set_option linter.unusedVariables false

theorem refFind_v (nm : ByteArray) (x y z : Int) (n g : Nat) (step width t ax ay dx dy v : Int) (hdx : ax - x = dx) (hdy : ay - y = dy) (hs : nm.size ≤ maxLen) (h0 : siteC nm x y z n g step width = 0) (hk : SiteOk x y z n g step width) (c0 : inB t 0 256 = true) (c1 : inB ax (-4194304) 4194304 = true) (c2 : inB ay (-4194304) 4194304 = true) (hv : ViewIs n g step t dx dy v) :
    ∃ p q e : Int, FindCalls 39 nm x y z n g step width t ax ay p q e ∧ (((e != 0) = true ∧ v = -1) ∨ (e = 0 ∧ v = p * g + q ∧ (0 ≤ p ∧ p < 4 * n) ∧ -1 ≤ q ∧ q < g)) := by
  have hn : 1 ≤ n := by have := hk.r1; omega
  have hg : 1 ≤ g := by have := hk.g1; omega
  have hg2 : g ≤ 200 := by have := hk.g2; omega
  obtain ⟨ht0, ht⟩ := inB_true.1 c0
  obtain ⟨r, hr, hv⟩ := hv
  by_cases hz : dx = 0 ∧ dy = 0
  · have hr1 : r = 1 := by
      rw [hz.1, hz.2] at hr
      exact srch_zero hg ht0 ht hk.s1 hr
    refine ⟨0, 0, 0, fun w => refFind_zero nm x y z n g step width t ax ay dx dy hdx hdy w hs h0 c0 c1 c2 (by simp [hz.1]) (by simp [hz.2]), .inr ⟨rfl, ?_, by omega, by omega, by omega⟩⟩
    rcases hv with ⟨e1, _⟩ | ⟨_, pr, hpr, rfl⟩
    · omega
    · obtain rfl := ray_det hn hpr (.inl ⟨hz.1, hz.2, rfl⟩)
      rw [hr1]; omega
  · obtain ⟨pr, hpr⟩ := ray_exists (n := n) dx dy
    obtain ⟨⟨hp0, hp1⟩, hsec⟩ := sec_unique hn hz hpr
    obtain ⟨P, rfl⟩ := Int.eq_ofNat_of_zero_le hp0
    have hr1 : 1 ≤ r := srch_one (by have := M.sq_nonneg dx; have := M.sq_nonneg dy; omega) hr
    have hrN := hr.1
    have key : ∀ (Res : Value), (r ≤ g → Res = .tuple #[.int .i64 P, .int .i64 ((r : Int) - 1), .int .i64 0]) → (¬ r ≤ g → Res = .tuple #[.int .i64 0, .int .i64 0, .int .i64 29]) → ∀ w : World, Calls Try.prog 39 #[.agg #[.string nm, .int .i64 x, .int .i64 y, .int .i64 z, .int .i64 (n : Nat), .int .i64 (g : Nat), .int .i64 step, .int .i64 width], .int .i64 t, .int .i64 ax, .int .i64 ay] w fun e w' => e = .returned Res ∧ Below w.heap.size w w' := by
      intro Res k1 k2 w
      by_cases z1 : dx = 0
      · exact refFind_b nm x y z n g step width t ax ay dx dy hdx hdy r hr hr1 w hs h0 hk c0 c1 c2 P hp1 Res k1 k2 hsec (by simp [z1]) (by rw [beq_eq_false_iff_ne]; exact fun h => hz ⟨z1, h⟩)
      · exact refFind_a nm x y z n g step width t ax ay dx dy hdx hdy r hr hr1 w hs h0 hk c0 c1 c2 P hp1 Res k1 k2 hsec (by rw [beq_eq_false_iff_ne]; exact z1)
    rcases hv with ⟨e1, rfl⟩ | ⟨e1, p2, hp2, rfl⟩
    · exact ⟨0, 0, 29, key _ (fun h => by omega) (fun _ => rfl), .inl ⟨by decide, rfl⟩⟩
    · obtain rfl := ray_det hn hpr hp2
      exact ⟨P, (r : Int) - 1, 0, key _ (fun _ => rfl) (fun h => absurd e1 h), .inr ⟨rfl, rfl, by omega, by omega, by omega⟩⟩

def vals (V : Nat → Int) (j : Nat) : List Value := (List.range j).map fun k => Value.int .i64 (V k)
theorem vals_succ (V : Nat → Int) (j : Nat) : vals V (j + 1) = vals V j ++ [.int .i64 (V j)] := by unfold vals; rw [List.range_succ, List.map_append]; rfl
theorem vals_get (V : Nat → Int) (n k : Nat) (h : k < n) : (vals V n)[k]? = some (.int .i64 (V k)) := by unfold vals; simp [h]

theorem owns_keep {w w' : World} {base : Nat} {e : TypeId} {size : Nat} {v : Value} {n : Nat} {xs : List Value} (h : w.ownsRow base e size v n xs) (hb : Below w.heap.size w w') : w'.ownsRow base e size v n xs := by
  have hl := h.lt
  refine ⟨h.1, ?_⟩
  rcases h.2 with hn | ⟨g, cap, cur, rfl, h1, h2, rest⟩
  · exact .inl hn
  · refine .inr ⟨g, cap, cur, rfl, h1, ?_, rest⟩
    rw [hb.block g (hl g rfl).2]; exact h2

structure RRel (w wr : World) (N j : Nat) (v : Value) (V : Nat → Int) (nm : ByteArray) (x y z : Int) (n g : Nat) (step width gx gy size wide high : Int) : Prop where
  own : wr.ownsRow (w.heap.size + 2) 3 1 v j (vals V j)
  sg : SG w wr nm x y z n g step width gx gy size wide high

set_option maxRecDepth 100000 in
set_option maxHeartbeats 12800000 in
theorem refView_ok (nm : ByteArray) (x y z : Int) (n g : Nat) (step width gx gy size wide high : Int) (t : Int) (N : Nat) (hN : wide * high = N) (V : Nat → Int) (hV : ∀ k : Nat, k < N → ViewIs n g step t (midX gx size wide k - x) (midY gy size wide k - y) (V k)) (w : World) (hs : nm.size ≤ maxLen) (h0 : siteC nm x y z n g step width = 0) (hk : SiteOk x y z n g step width) (hg : gridC gx gy size wide high = 0) (c0 : inB t 0 256 = true) :
    Calls Try.prog 44 #[.agg #[.string nm, .int .i64 x, .int .i64 y, .int .i64 z, .int .i64 (n : Nat), .int .i64 (g : Nat), .int .i64 step, .int .i64 width], .int .i64 t, .agg #[.int .i64 gx, .int .i64 gy, .int .i64 size, .int .i64 wide, .int .i64 high]] w (ListRet N V w) := by
  obtain ⟨i0, hi, hz0, hz1, hz2⟩ := info_parts info3
  have HS := Lib.hid hs
  have H0 := Lib.hid h0
  have HG := Lib.hid hg
  have gg2 := hk.g2
  have q2 := hk.r2
  obtain ⟨_, _, _, ⟨v1, v2⟩, v3, v4⟩ := gridB_bd (gridC_zero.1 hg)
  have v6 := M.mul_bd (a := wide) (b := high) (A := 64) (B := 64) (by omega) v2 (by omega) v4
  have v7 : 1 * 1 ≤ wide * high := Int.mul_le_mul v1 v3 (by omega) (by omega)
  have hN2 : N ≤ 4096 := by omega
  have hN1 : 1 ≤ N := by omega
  have HM := Lib.hid (fun (k : Nat) (hk2 : k < N) (w : World) => refMiddle_any gx gy size wide high k w hg (by omega))
  have HF := Lib.hid (fun (k : Nat) (hk2 : k < N) => refFind_v nm x y z n g step width t (midX gx size wide k) (midY gy size wide k) _ _ (V k) rfl rfl hs h0 hk c0 (by
    obtain ⟨⟨a1, a2⟩, _⟩ := mid_bd (k := k) hg (show (k : Int) < wide * high by omega)
    exact inB_true.2 ⟨by omega, by omega⟩) (by
    obtain ⟨_, a1, a2⟩ := mid_bd (k := k) hg (show (k : Int) < wide * high by omega)
    exact inB_true.2 ⟨by omega, by omega⟩) (hV k hk2))
  have i1 : IntKind.i64.wrap (wide * high) = wide * high := IntWalk.i64_in _ (by omega)
  clear hs h0 hg hV hk v7
  go_enter Try.func44, Try.ntmps44
  go_wp2_with fail
  refine (refCheckSite_any _ _ _ _ _ _ _ _ _ HS.out).mono ?_; rintro e w1 ⟨rfl, hb1⟩
  have O1 := (SG.new w nm x y z n g step width gx gy size wide high).keep hb1 (by simp)
  clear hb1
  obtain ⟨⟨k0, k1, k2, k3, k4, k5, k6, k7⟩, ⟨g0, g1, g2, g3, g4⟩, hz, hbw⟩ := O1
  have y0 : w.heap.size < w1.heap.size := by omega
  have y1 : w.heap.size + 1 < w1.heap.size := by omega
  rw [H0.out]
  go_wp2_with fail
  refine (refCheckGrid_any _ _ _ _ _ _).mono ?_; rintro e w2 ⟨rfl, hb2⟩
  have O2 := (⟨⟨k0, k1, k2, k3, k4, k5, k6, k7⟩, ⟨g0, g1, g2, g3, g4⟩, hz, hbw⟩ : SG w w1 nm x y z n g step width gx gy size wide high).keep hb2 hz
  clear k0 k1 k2 k3 k4 k5 k6 k7 g0 g1 g2 g3 g4 hz hbw y0 y1 hb2
  obtain ⟨⟨k0, k1, k2, k3, k4, k5, k6, k7⟩, ⟨g0, g1, g2, g3, g4⟩, hz, hbw⟩ := O2
  have y0 : w.heap.size < w2.heap.size := by omega
  have y1 : w.heap.size + 1 < w2.heap.size := by omega
  rw [HG.out]
  go_wp2_with fail
  refine (refIn_any _ _ _ _).mono ?_; rintro e w' ⟨rfl, rfl⟩
  have RST := Lib.hid (show RRel w w2 N 0 (.slice none 0 0) V nm x y z n g step width gx gy size wide high from ⟨World.ownsRow_nil _ _ _ _, ⟨⟨k0, k1, k2, k3, k4, k5, k6, k7⟩, ⟨g0, g1, g2, g3, g4⟩, hz, hbw⟩⟩)
  go_wp2
  clear k0 k1 k2 k3 k4 k5 k6 k7 g0 g1 g2 g3 g4 hz hbw y0 y1
  go_loopw [9, 10] (fun v i wr => ∃ j : Nat, j ≤ N ∧ i = .int .i64 j ∧ RRel w wr N j v V nm x y z n g step width gx gy size wide high) (fun _ i _ => N - (intOf i).toNat)
  case atStart => exact ⟨0, Nat.zero_le _, rfl, RST.out⟩
  case round =>
    clear RST
    rename_i v _ _
    obtain ⟨j, hj, rfl, hown, hsg⟩ := hrel
    have HW := Lib.hid hown
    have HSG := Lib.hid hsg
    obtain ⟨⟨k0, k1, k2, k3, k4, k5, k6, k7⟩, ⟨g0, g1, g2, g3, g4⟩, hz, hbw⟩ := hsg
    have y0 : w.heap.size < wr.heap.size := by omega
    have y1 : w.heap.size + 1 < wr.heap.size := by omega
    clear hown
    by_cases hlt : j < N
    · obtain ⟨p, q, e, hF, hcase⟩ := HF.out j hlt
      have HFj := Lib.hid hF
      clear hF
      go_wp2_with fail
      refine (HM.out j hlt _).mono ?_; rintro e5 w5 ⟨rfl, hb5⟩
      have HW := Lib.hid (owns_keep HW.out hb5)
      have HSG := Lib.hid (HSG.out.keep hb5 (by omega))
      clear k0 k1 k2 k3 k4 k5 k6 k7 g0 g1 g2 g3 g4 hz hbw y0 y1 hb5
      obtain ⟨⟨k0, k1, k2, k3, k4, k5, k6, k7⟩, ⟨g0, g1, g2, g3, g4⟩, hz, hbw⟩ := HSG.out
      have y0 : w.heap.size < w5.heap.size := by omega
      have y1 : w.heap.size + 1 < w5.heap.size := by omega
      go_wp2_with fail
      refine (HFj.out _).mono ?_; rintro e6 w6 ⟨rfl, hb6⟩
      have HW := Lib.hid (owns_keep HW.out hb6)
      have SG6 := Lib.hid (HSG.out.keep hb6 (by omega))
      clear k0 k1 k2 k3 k4 k5 k6 k7 g0 g1 g2 g3 g4 hz hbw y0 y1 hb6
      obtain ⟨⟨k0, k1, k2, k3, k4, k5, k6, k7⟩, ⟨g0, g1, g2, g3, g4⟩, hz, hbw⟩ := SG6.out
      have y0 : w.heap.size < w6.heap.size := by omega
      have y1 : w.heap.size + 1 < w6.heap.size := by omega
      rcases hcase with ⟨he, hv⟩ | ⟨rfl, hv, ⟨p1, p2⟩, q1, q3⟩
      · have hown := HW.out
        have HVj := Lib.hid hv
        clear hv
        go_wp2_with (first | (at_builtin; refine wpList_append_own _ rfl _ _ 54 rfl (w.heap.size + 2) 3 i0 (.int .i64 0) 1 8 Try.underlying54 hi hz0 hz1 hz2 rfl (by decide) _ _ _ rfl (hown.alloc _) ⟨w6.heap.size, 0, none⟩ 1 1 [.int .i64 (-1)] rfl rfl (cell_one_new _ _ _) ?c2 ?c3 ?c4 ?c5 ?_) | go_in)
        case c2 => intro u hu; simp at hu; subst hu; rfl
        case c3 => unfold maxLen; omega
        case c4 => omega
        case c5 => simp; omega
        · intro v' w7 hown' hgrow _
          have B7 : Below (w.heap.size + 2) w6 w7 := Below.grown ((Below.refl (w.heap.size + 2) w6).alloc (by omega) _) hgrow (by simp; omega) (fun k hk => (HW.out.lt k hk).1)
          have R7 := Lib.hid (show RRel w w7 N (j + 1) v' V nm x y z n g step width gx gy size wide high from ⟨by rw [vals_succ, HVj.out]; exact hown', SG6.out.keep B7 (by omega)⟩)
          clear hown' hgrow B7
          go_wp2
          go_roundw
          case rel => exact ⟨j + 1, by omega, by go_num, R7.out⟩
          case measure => simp [intOf]; omega

      · have m1 := M.mul_bd (a := p) (b := (g : Int)) (A := 360) (B := 200) p1 (by omega) (by omega) gg2
        have i2 : IntKind.i64.wrap (p * g) = p * g := IntWalk.i64_in _ (by omega)
        have i3 : IntKind.i64.wrap (p * g + q) = p * g + q := IntWalk.i64_in _ (by omega)
        have hown := HW.out
        have HVj := Lib.hid hv
        clear hv
        go_wp2_with (first | (at_builtin; refine wpList_append_own _ rfl _ _ 54 rfl (w.heap.size + 2) 3 i0 (.int .i64 0) 1 8 Try.underlying54 hi hz0 hz1 hz2 rfl (by decide) _ _ _ rfl (hown.alloc _) ⟨w6.heap.size, 0, none⟩ 1 1 [.int .i64 (p * g + q)] rfl rfl (cell_one_new _ _ _) ?c2 ?c3 ?c4 ?c5 ?_) | go_in)
        case c2 => intro u hu; simp at hu; subst hu; rfl
        case c3 => unfold maxLen; omega
        case c4 => omega
        case c5 => simp; omega
        · intro v' w7 hown' hgrow _
          have B7 : Below (w.heap.size + 2) w6 w7 := Below.grown ((Below.refl (w.heap.size + 2) w6).alloc (by omega) _) hgrow (by simp; omega) (fun k hk => (HW.out.lt k hk).1)
          have R7 := Lib.hid (show RRel w w7 N (j + 1) v' V nm x y z n g step width gx gy size wide high from ⟨by rw [vals_succ, HVj.out]; exact hown', SG6.out.keep B7 (by omega)⟩)
          clear hown' hgrow B7
          go_wp2
          go_roundw
          case rel => exact ⟨j + 1, by omega, by go_num, R7.out⟩
          case measure => simp [intOf]; omega

    · obtain rfl : j = N := by omega
      obtain ⟨b, cap, rfl, hb1, hb2⟩ := HW.out.form (by omega)
      have HI := Lib.hid (show IntsAt wr b j V from fun k hk => by rw [HW.out.cellAt k (by omega)]; exact vals_get V j k hk)
      go_wp2
      go_ret2
      exact ⟨_, _, rfl, HI.out, by omega, hb2, hbw⟩

end Go.Proofs.Ythnjfnapjpdchaa
