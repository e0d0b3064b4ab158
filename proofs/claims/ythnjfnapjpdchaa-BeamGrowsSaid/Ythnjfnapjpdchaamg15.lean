/-
  What View of the reference returns.
-/
import Derived.Maps.AppendAt
import Derived.Deep.AppendLies
import Derived.Deep.CutRange
import Derived.Deep.DeepCutAuto
import Derived.Test.Ythnjfnapjpdchaamg13
import Derived.Test.Ythnjfnapjpdchaamg14
import Derived.Test.Ythnjfnapjpdchaamg10
namespace Go.Proofs.Ythnjfnapjpdchaa
open Go.RowKit
set_option linter.unusedVariables false

theorem refFind_v (nm : ByteArray) (x y z : Int) (n g : Nat) (step width t ax ay dx dy v : Int) (hdx : ax - x = dx) (hdy : ay - y = dy) (hs : nm.size ≤ maxLen) (h0 : siteC nm x y z n g step width = 0) (hk : SiteOk x y z n g step width) (c0 : inB t 0 256 = true) (c1 : inB ax (-4194304) 4194304 = true) (c2 : inB ay (-4194304) 4194304 = true) (hv : ViewIs n g step t dx dy v) :
    ∃ p q e : Int, FindCalls 39 nm x y z n g step width t ax ay p q e ∧ (((e != 0) = true ∧ v = -1) ∨ (e = 0 ∧ v = p * g + q ∧ (0 ≤ p ∧ p < 4 * n) ∧ -1 ≤ q ∧ q < g)) := by
  have hn : 1 ≤ n := by have := hk.r1; omega
  have hg : 1 ≤ g := by have := hk.g1; omega
  have hg2 : g ≤ 200 := by have := hk.g2; omega
  obtain ⟨ht0, ht⟩ := inB_true.1 c0
  obtain ⟨r, hr, hv⟩ := hv
  by_cases hz : dx = 0 ∧ dy = 0
  · have hr1 : r = 1 := by
      rw [hz.1, hz.2] at hr
      exact srch_zero hg ht0 ht hk.s1 hr
    refine ⟨0, 0, 0, fun w => refFind_zero nm x y z n g step width t ax ay dx dy hdx hdy w hs h0 c0 c1 c2 (by simp [hz.1]) (by simp [hz.2]), .inr ⟨rfl, ?_, by omega, by omega, by omega⟩⟩
    rcases hv with ⟨e1, _⟩ | ⟨_, pr, hpr, rfl⟩
    · omega
    · obtain rfl := ray_det hn hpr (.inl ⟨hz.1, hz.2, rfl⟩)
      rw [hr1]; omega
  · obtain ⟨pr, hpr⟩ := ray_exists (n := n) dx dy
    obtain ⟨⟨hp0, hp1⟩, hsec⟩ := sec_unique hn hz hpr
    obtain ⟨P, rfl⟩ := Int.eq_ofNat_of_zero_le hp0
    have hr1 : 1 ≤ r := srch_one (by have := M.sq_nonneg dx; have := M.sq_nonneg dy; omega) hr
    have hrN := hr.1
    have key : ∀ (Res : Value), (r ≤ g → Res = .tuple #[.int .i64 P, .int .i64 ((r : Int) - 1), .int .i64 0]) → (¬ r ≤ g → Res = .tuple #[.int .i64 0, .int .i64 0, .int .i64 29]) → ∀ w : World, Calls Try.prog 39 #[.agg #[.string nm, .int .i64 x, .int .i64 y, .int .i64 z, .int .i64 (n : Nat), .int .i64 (g : Nat), .int .i64 step, .int .i64 width], .int .i64 t, .int .i64 ax, .int .i64 ay] w fun e w' => e = .returned Res ∧ Below w.heap.size w w' := by
      intro Res k1 k2 w
      by_cases z1 : dx = 0
      · exact refFind_b nm x y z n g step width t ax ay dx dy hdx hdy r hr hr1 w hs h0 hk c0 c1 c2 P hp1 Res k1 k2 hsec (by simp [z1]) (by rw [beq_eq_false_iff_ne]; exact fun h => hz ⟨z1, h⟩)
      · exact refFind_a nm x y z n g step width t ax ay dx dy hdx hdy r hr hr1 w hs h0 hk c0 c1 c2 P hp1 Res k1 k2 hsec (by rw [beq_eq_false_iff_ne]; exact z1)
    rcases hv with ⟨e1, rfl⟩ | ⟨e1, p2, hp2, rfl⟩
    · exact ⟨0, 0, 29, key _ (fun h => by omega) (fun _ => rfl), .inl ⟨by decide, rfl⟩⟩
    · obtain rfl := ray_det hn hpr hp2
      exact ⟨P, (r : Int) - 1, 0, key _ (fun _ => rfl) (fun h => absurd e1 h), .inr ⟨rfl, rfl, by omega, by omega, by omega⟩⟩

def vals (V : Nat → Int) (j : Nat) : List Value := (List.range j).map fun k => Value.int .i64 (V k)
theorem vals_succ (V : Nat → Int) (j : Nat) : vals V (j + 1) = vals V j ++ [.int .i64 (V j)] := by unfold vals; rw [List.range_succ, List.map_append]; rfl
theorem vals_get (V : Nat → Int) (n k : Nat) (h : k < n) : (vals V n)[k]? = some (.int .i64 (V k)) := by unfold vals; simp [h]

theorem owns_keep {w w' : World} {base : Nat} {e : TypeId} {size : Nat} {v : Value} {n : Nat} {xs : List Value} (h : w.ownsRow base e size v n xs) (hb : Below w.heap.size w w') : w'.ownsRow base e size v n xs := by
  have hl := h.lt
  refine ⟨h.1, ?_⟩
  rcases h.2 with hn | ⟨g, cap, cur, rfl, h1, h2, rest⟩
  · exact .inl hn
  · refine .inr ⟨g, cap, cur, rfl, h1, ?_, rest⟩
    rw [hb.block g (hl g rfl).2]; exact h2

structure RRel (w wr : World) (N j : Nat) (v : Value) (V : Nat → Int) (nm : ByteArray) (x y z : Int) (n g : Nat) (step width gx gy size wide high : Int) : Prop where
  own : wr.ownsRow (w.heap.size + 2) 3 1 v j (vals V j)
  sg : SG w wr nm x y z n g step width gx gy size wide high

set_option maxRecDepth 100000 in
set_option maxHeartbeats 12800000 in
theorem refView_ok (nm : ByteArray) (x y z : Int) (n g : Nat) (step width gx gy size wide high : Int) (t : Int) (N : Nat) (hN : wide * high = N) (V : Nat → Int) (hV : ∀ k : Nat, k < N → ViewIs n g step t (midX gx size wide k - x) (midY gy size wide k - y) (V k)) (w : World) (hs : nm.size ≤ maxLen) (h0 : siteC nm x y z n g step width = 0) (hk : SiteOk x y z n g step width) (hg : gridC gx gy size wide high = 0) (c0 : inB t 0 256 = true) :
    Calls Try.prog 44 #[.agg #[.string nm, .int .i64 x, .int .i64 y, .int .i64 z, .int .i64 (n : Nat), .int .i64 (g : Nat), .int .i64 step, .int .i64 width], .int .i64 t, .agg #[.int .i64 gx, .int .i64 gy, .int .i64 size, .int .i64 wide, .int .i64 high]] w (ListRet N V w) := by
  obtain ⟨i0, hi, hz0, hz1, hz2⟩ := info_parts info3
  have HS := Lib.hid hs
  have H0 := Lib.hid h0
  have HG := Lib.hid hg
  have gg2 := hk.g2
  have q2 := hk.r2
  obtain ⟨_, _, _, ⟨v1, v2⟩, v3, v4⟩ := gridB_bd (gridC_zero.1 hg)
  have v6 := M.mul_bd (a := wide) (b := high) (A := 64) (B := 64) (by omega) v2 (by omega) v4
  have v7 : 1 * 1 ≤ wide * high := Int.mul_le_mul v1 v3 (by omega) (by omega)
  have hN2 : N ≤ 4096 := by omega
  have hN1 : 1 ≤ N := by omega
  have HM := Lib.hid (fun (k : Nat) (hk2 : k < N) (w : World) => refMiddle_any gx gy size wide high k w hg (by omega))
  have HF := Lib.hid (fun (k : Nat) (hk2 : k < N) => refFind_v nm x y z n g step width t (midX gx size wide k) (midY gy size wide k) _ _ (V k) rfl rfl hs h0 hk c0 (by
    obtain ⟨⟨a1, a2⟩, _⟩ := mid_bd (k := k) hg (show (k : Int) < wide * high by omega)
    exact inB_true.2 ⟨by omega, by omega⟩) (by
    obtain ⟨_, a1, a2⟩ := mid_bd (k := k) hg (show (k : Int) < wide * high by omega)
    exact inB_true.2 ⟨by omega, by omega⟩) (hV k hk2))
  have i1 : IntKind.i64.wrap (wide * high) = wide * high := IntWalk.i64_in _ (by omega)
  clear hs h0 hg hV hk v7
  go_enter Try.func44, Try.ntmps44
  go_wp2_with fail
  refine (refCheckSite_any _ _ _ _ _ _ _ _ _ HS.out).mono ?_; rintro e w1 ⟨rfl, hb1⟩
  have O1 := (SG.new w nm x y z n g step width gx gy size wide high).keep hb1 (by simp)
  clear hb1
  obtain ⟨⟨k0, k1, k2, k3, k4, k5, k6, k7⟩, ⟨g0, g1, g2, g3, g4⟩, hz, hbw⟩ := O1
  have y0 : w.heap.size < w1.heap.size := by omega
  have y1 : w.heap.size + 1 < w1.heap.size := by omega
  rw [H0.out]
  go_wp2_with fail
  refine (refCheckGrid_any _ _ _ _ _ _).mono ?_; rintro e w2 ⟨rfl, hb2⟩
  have O2 := (⟨⟨k0, k1, k2, k3, k4, k5, k6, k7⟩, ⟨g0, g1, g2, g3, g4⟩, hz, hbw⟩ : SG w w1 nm x y z n g step width gx gy size wide high).keep hb2 hz
  clear k0 k1 k2 k3 k4 k5 k6 k7 g0 g1 g2 g3 g4 hz hbw y0 y1 hb2
  obtain ⟨⟨k0, k1, k2, k3, k4, k5, k6, k7⟩, ⟨g0, g1, g2, g3, g4⟩, hz, hbw⟩ := O2
  have y0 : w.heap.size < w2.heap.size := by omega
  have y1 : w.heap.size + 1 < w2.heap.size := by omega
  rw [HG.out]
  go_wp2_with fail
  refine (refIn_any _ _ _ _).mono ?_; rintro e w' ⟨rfl, rfl⟩
  have RST := Lib.hid (show RRel w w2 N 0 (.slice none 0 0) V nm x y z n g step width gx gy size wide high from ⟨World.ownsRow_nil _ _ _ _, ⟨⟨k0, k1, k2, k3, k4, k5, k6, k7⟩, ⟨g0, g1, g2, g3, g4⟩, hz, hbw⟩⟩)
  go_wp2
  clear k0 k1 k2 k3 k4 k5 k6 k7 g0 g1 g2 g3 g4 hz hbw y0 y1
  go_loopw [9, 10] (fun v i wr => ∃ j : Nat, j ≤ N ∧ i = .int .i64 j ∧ RRel w wr N j v V nm x y z n g step width gx gy size wide high) (fun _ i _ => N - (intOf i).toNat)
  case atStart => exact ⟨0, Nat.zero_le _, rfl, RST.out⟩
  case round =>
    clear RST
    rename_i v _ _
    obtain ⟨j, hj, rfl, hown, hsg⟩ := hrel
    have HW := Lib.hid hown
    have HSG := Lib.hid hsg
    obtain ⟨⟨k0, k1, k2, k3, k4, k5, k6, k7⟩, ⟨g0, g1, g2, g3, g4⟩, hz, hbw⟩ := hsg
    have y0 : w.heap.size < wr.heap.size := by omega
    have y1 : w.heap.size + 1 < wr.heap.size := by omega
    clear hown
    by_cases hlt : j < N
    · obtain ⟨p, q, e, hF, hcase⟩ := HF.out j hlt
      have HFj := Lib.hid hF
      clear hF
      go_wp2_with fail
      refine (HM.out j hlt _).mono ?_; rintro e5 w5 ⟨rfl, hb5⟩
      have HW := Lib.hid (owns_keep HW.out hb5)
      have HSG := Lib.hid (HSG.out.keep hb5 (by omega))
      clear k0 k1 k2 k3 k4 k5 k6 k7 g0 g1 g2 g3 g4 hz hbw y0 y1 hb5
      obtain ⟨⟨k0, k1, k2, k3, k4, k5, k6, k7⟩, ⟨g0, g1, g2, g3, g4⟩, hz, hbw⟩ := HSG.out
      have y0 : w.heap.size < w5.heap.size := by omega
      have y1 : w.heap.size + 1 < w5.heap.size := by omega
      go_wp2_with fail
      refine (HFj.out _).mono ?_; rintro e6 w6 ⟨rfl, hb6⟩
      have HW := Lib.hid (owns_keep HW.out hb6)
      have SG6 := Lib.hid (HSG.out.keep hb6 (by omega))
      clear k0 k1 k2 k3 k4 k5 k6 k7 g0 g1 g2 g3 g4 hz hbw y0 y1 hb6
      obtain ⟨⟨k0, k1, k2, k3, k4, k5, k6, k7⟩, ⟨g0, g1, g2, g3, g4⟩, hz, hbw⟩ := SG6.out
      have y0 : w.heap.size < w6.heap.size := by omega
      have y1 : w.heap.size + 1 < w6.heap.size := by omega
      rcases hcase with ⟨he, hv⟩ | ⟨rfl, hv, ⟨p1, p2⟩, q1, q3⟩
      · have hown := HW.out
        have HVj := Lib.hid hv
        clear hv
        go_wp2_with (first | (at_builtin; refine wpList_append_own _ rfl _ _ 54 rfl (w.heap.size + 2) 3 i0 (.int .i64 0) 1 8 Try.underlying54 hi hz0 hz1 hz2 rfl (by decide) _ _ _ rfl (hown.alloc _) ⟨w6.heap.size, 0, none⟩ 1 1 [.int .i64 (-1)] rfl rfl (cell_one_new _ _ _) ?c2 ?c3 ?c4 ?c5 ?_) | go_in)
        case c2 => intro u hu; simp at hu; subst hu; rfl
        case c3 => unfold maxLen; omega
        case c4 => omega
        case c5 => simp; omega
        · intro v' w7 hown' hgrow _
          have B7 : Below (w.heap.size + 2) w6 w7 := Below.grown ((Below.refl (w.heap.size + 2) w6).alloc (by omega) _) hgrow (by simp; omega) (fun k hk => (HW.out.lt k hk).1)
          have R7 := Lib.hid (show RRel w w7 N (j + 1) v' V nm x y z n g step width gx gy size wide high from ⟨by rw [vals_succ, HVj.out]; exact hown', SG6.out.keep B7 (by omega)⟩)
          clear hown' hgrow B7
          go_wp2
          go_roundw
          case rel => exact ⟨j + 1, by omega, by go_num, R7.out⟩
          case measure => simp [intOf]; omega

      · have m1 := M.mul_bd (a := p) (b := (g : Int)) (A := 360) (B := 200) p1 (by omega) (by omega) gg2
        have i2 : IntKind.i64.wrap (p * g) = p * g := IntWalk.i64_in _ (by omega)
        have i3 : IntKind.i64.wrap (p * g + q) = p * g + q := IntWalk.i64_in _ (by omega)
        have hown := HW.out
        have HVj := Lib.hid hv
        clear hv
        go_wp2_with (first | (at_builtin; refine wpList_append_own _ rfl _ _ 54 rfl (w.heap.size + 2) 3 i0 (.int .i64 0) 1 8 Try.underlying54 hi hz0 hz1 hz2 rfl (by decide) _ _ _ rfl (hown.alloc _) ⟨w6.heap.size, 0, none⟩ 1 1 [.int .i64 (p * g + q)] rfl rfl (cell_one_new _ _ _) ?c2 ?c3 ?c4 ?c5 ?_) | go_in)
        case c2 => intro u hu; simp at hu; subst hu; rfl
        case c3 => unfold maxLen; omega
        case c4 => omega
        case c5 => simp; omega
        · intro v' w7 hown' hgrow _
          have B7 : Below (w.heap.size + 2) w6 w7 := Below.grown ((Below.refl (w.heap.size + 2) w6).alloc (by omega) _) hgrow (by simp; omega) (fun k hk => (HW.out.lt k hk).1)
          have R7 := Lib.hid (show RRel w w7 N (j + 1) v' V nm x y z n g step width gx gy size wide high from ⟨by rw [vals_succ, HVj.out]; exact hown', SG6.out.keep B7 (by omega)⟩)
          clear hown' hgrow B7
          go_wp2
          go_roundw
          case rel => exact ⟨j + 1, by omega, by go_num, R7.out⟩
          case measure => simp [intOf]; omega

    · obtain rfl : j = N := by omega
      obtain ⟨b, cap, rfl, hb1, hb2⟩ := HW.out.form (by omega)
      have HI := Lib.hid (show IntsAt wr b j V from fun k hk => by rw [HW.out.cellAt k (by omega)]; exact vals_get V j k hk)
      go_wp2
      go_ret2
      exact ⟨_, _, rfl, HI.out, by omega, hb2, hbw⟩

end Go.Proofs.Ythnjfnapjpdchaa

namespace Go.Proofs.Ythnjfnapjpdchaa
open Go.RowKit
set_option linter.unusedVariables false

theorem info4 : (Try.prog.info? 4).map (fun i => (i.zero, i.size, i.bytes)) = some (some (.bool false), 1, 1) := by kernel_rfl
theorem make_bools (n : Nat) (h : n ≤ 1000000) (w : World) :
    (Instr.makeSlice 110 (.int .i64 (n : Int)) (.int .i64 (n : Int))).run Try.prog w = .ok (.slice (some ⟨w.heap.size, 0, none⟩) n n) (w.alloc (.cells (madeCells #[.bool false] n) 4)) := by
  obtain ⟨i, hi, hzz⟩ := Option.map_eq_some_iff.1 info4
  simp only [Prod.mk.injEq] at hzz
  obtain ⟨hz, hs, hb⟩ := hzz
  have hr := run_make (P := Try.prog) w 110 4 i _ Try.underlying110 hi hz .i64 .i64 n n (by omega) (Int.le_refl _) (by rw [hb]; omega) (by omega)
  simp only [Int.toNat_natCast, hs, Nat.mul_one] at hr
  exact hr
theorem madeB_get (n k : Nat) (h : k < n) : (madeCells #[.bool false] n)[k]? = some (.bool false) := by
  rw [← Array.getElem?_toList, toList_madeCells_one]
  simp [h]

/-- a row of Booleans that may be written -/
structure BoolRow (w : World) (b n : Nat) (B : Nat → Bool) : Prop where
  c : ∀ k, k < n → w.cell? ⟨b, k, none⟩ = some (.bool (B k))
  f : ∀ k, k < n → w.frozen? ⟨b, k, none⟩ = false
theorem BoolRow.keep {C b n : Nat} {W w1 : World} {B : Nat → Bool} (s : BoolRow W b n B) (hb : Below C W w1) (h : b < C) : BoolRow w1 b n B := ⟨fun k hk => keepB hb h (s.c k hk), fun k hk => keepF hb h (s.f k hk)⟩
theorem BoolRow.ext {b n : Nat} {W : World} {B B2 : Nat → Bool} (s : BoolRow W b n B) (h : ∀ k, k < n → B2 k = B k) : BoolRow W b n B2 := ⟨fun k hk => by rw [h k hk]; exact s.c k hk, s.f⟩
theorem BoolRow.made (w : World) (n : Nat) : BoolRow (w.alloc (.cells (madeCells #[.bool false] n) 4)) w.heap.size n (fun _ => false) :=
  ⟨fun k hk => alloc_new rfl (madeB_get _ _ hk), fun k hk => alloc_newF rfl⟩
theorem BoolRow.set {w : World} {b n k : Nat} {v : Bool} {B B2 : Nat → Bool} (s : BoolRow w b n B) (h1 : B2 k = v) (h2 : ∀ i, i ≠ k → B2 i = B i) : BoolRow (w.setCell ⟨b, k, none⟩ (.bool v)) b n B2 := by
  refine ⟨fun i hi => ?_, fun i hi => ?_⟩
  · by_cases e : i = k
    · subst e
      rw [h1]
      exact World.cell?_setCell_same' _ _ _ (by rw [s.c i hi]; rfl)
    · rw [World.cell?_setCell_other _ _ _ _ (fun h => e (by injection h with _ h3; exact h3.symm)), h2 i e]; exact s.c i hi
  · simp; exact s.f i hi
theorem cell_far {w : World} {b c i j : Nat} {u v : Value} (h : c ≠ b) (hc : w.cell? ⟨b, i, none⟩ = some v) : (w.setCell ⟨c, j, none⟩ u).cell? ⟨b, i, none⟩ = some v := by
  rw [World.cell?_setCell_far _ _ _ _ (by dsimp only; omega)]; exact hc
theorem BoolRow.far {w : World} {b n c j : Nat} {u : Value} {B : Nat → Bool} (s : BoolRow w b n B) (h : c ≠ b) : BoolRow (w.setCell ⟨c, j, none⟩ u) b n B :=
  ⟨fun i hi => cell_far h (s.c i hi), fun i hi => by simp; exact s.f i hi⟩
theorem owns_far {w : World} {base c j : Nat} {e : TypeId} {size : Nat} {v u : Value} {n : Nat} {xs : List Value} (h : w.ownsRow base e size v n xs) (hne : ∀ g, v.ownBlock = some g → g ≠ c) : (w.setCell ⟨c, j, none⟩ u).ownsRow base e size v n xs := by
  refine ⟨h.1, ?_⟩
  rcases h.2 with hn | ⟨g, cap, cur, rfl, h1, h2, rest⟩
  · exact .inl hn
  · refine .inr ⟨g, cap, cur, rfl, h1, ?_, rest⟩
    rw [← h2]
    exact Below.heap_setCell _ _ _ _ (hne g rfl)

/-- spans in a row, one behind the other -/
def spv (L H : Nat → Int) : Nat → List Value
  | 0 => []
  | j + 1 => spv L H j ++ [.int .i64 (L j), .int .i64 (H j)]
theorem spv_len (L H : Nat → Int) (j : Nat) : (spv L H j).length = j * 2 := by
  induction j with
  | zero => rfl
  | succ j ih => unfold spv; rw [List.length_append, ih]; simp; omega
theorem spv_get (L H : Nat → Int) (n k : Nat) (h : k < n) : (spv L H n)[k * 2]? = some (.int .i64 (L k)) ∧ (spv L H n)[k * 2 + 1]? = some (.int .i64 (H k)) := by
  induction n with
  | zero => omega
  | succ n ih =>
    have hl := spv_len L H n
    by_cases e : k = n
    · subst e
      unfold spv
      rw [List.getElem?_append_right (by omega), List.getElem?_append_right (by omega), hl]
      refine ⟨by rw [Nat.sub_self]; rfl, by rw [show k * 2 + 1 - k * 2 = 1 by omega]; rfl⟩
    · have := ih (by omega)
      unfold spv
      rw [List.getElem?_append_left (by omega), List.getElem?_append_left (by omega)]
      exact this
theorem cell_two_new (w : World) (x y : Value) (t : TypeId) : ∀ j u, [x, y][j]? = some u → (w.alloc (.cells #[x, y] t)).cell? ((⟨w.heap.size, 0, none⟩ : Addr).add j) = some u := by
  intro j u hj
  match j, hj with
  | 0, hj => simp at hj; subst hj; simp [Addr.add]
  | 1, hj => simp at hj; subst hj; simp [Addr.add]

/-- the state of the outer loop -/
structure JRel (w wr : World) (B s1 s2 T j : Nat) (v : Value) (p q : Nat → Nat → Bool) (nm : ByteArray) (x y z rose : Int) (g : Nat) (step width lo hi gx gy size wide high : Int) (fb off len cap : Nat) : Prop where
  sef : SEF w wr nm x y z rose (g : Int) step width lo hi gx gy size wide high (.slice (some ⟨fb, off, none⟩) len cap)
  r1 : BoolRow wr s1 T (fun k => seen p k j)
  r2 : BoolRow wr s2 T (fun k => seen q k j)
  own : wr.ownsRow (B) 43 2 v j (spv (sumsOf p T) (sumsOf q T) j)
  zz : B ≤ wr.heap.size

theorem JRel.keep {w W w1 : World} {B s1 s2 T j : Nat} {v : Value} {p q : Nat → Nat → Bool} {nm : ByteArray} {x y z rose : Int} {g : Nat} {step width lo hi gx gy size wide high : Int} {fb off len cap : Nat} (R : JRel w W B s1 s2 T j v p q nm x y z rose g step width lo hi gx gy size wide high fb off len cap) (h1 : s1 < B) (h2 : s2 < B) (l1 : w.heap.size + 3 ≤ s1) (hb : Below W.heap.size W w1) : JRel w w1 B s1 s2 T j v p q nm x y z rose g step width lo hi gx gy size wide high fb off len cap := by
  have e1 := R.zz
  exact ⟨R.sef.keep hb (by omega), R.r1.keep hb (by omega), R.r2.keep hb (by omega), owns_keep R.own hb, Nat.le_trans R.zz hb.size⟩
/-- a cell of a box that counts -/
def bump (W : World) (b i : Nat) (P : Bool) (n : Int) : World := if P = true then W.setCell ⟨b, i, none⟩ (.int .i64 (n + 1)) else W

/-- the state of the inner loop -/
structure IRel (w wr : World) (B s1 s2 T j k bl bn : Nat) (v : Value) (p q : Nat → Nat → Bool) (gl gh : Int) (nm : ByteArray) (x y z rose : Int) (g : Nat) (step width lo hi gx gy size wide high : Int) (fb off len cap : Nat) : Prop where
  sef : SEF w wr nm x y z rose (g : Int) step width lo hi gx gy size wide high (.slice (some ⟨fb, off, none⟩) len cap)
  r1 : BoolRow wr s1 T (fun i => seen p i (if i < k then j + 1 else j))
  r2 : BoolRow wr s2 T (fun i => seen q i (if i < k then j + 1 else j))
  land : PairAt wr bl (.int .i64 gl) (.int .i64 gh)
  n : PairAt wr bn (.int .i64 (cnt (fun i => seen p i (j + 1)) k : Nat)) (.int .i64 (cnt (fun i => seen q i (j + 1)) k : Nat))
  f0 : wr.frozen? ⟨bn, 0, none⟩ = false
  f1 : wr.frozen? ⟨bn, 1, none⟩ = false
  own : wr.ownsRow (B) 43 2 v j (spv (sumsOf p T) (sumsOf q T) j)
  ob : ∀ g, v.ownBlock = some g → g < bl
  zz : B ≤ bl
  zn : bn = bl + 1
  z : bn < wr.heap.size

theorem IRel.keep {w W w1 : World} {B s1 s2 T j k bl bn : Nat} {v : Value} {p q : Nat → Nat → Bool} {gl gh : Int} {nm : ByteArray} {x y z rose : Int} {g : Nat} {step width lo hi gx gy size wide high : Int} {fb off len cap : Nat} (R : IRel w W B s1 s2 T j k bl bn v p q gl gh nm x y z rose g step width lo hi gx gy size wide high fb off len cap) (h1 : s1 < B) (h2 : s2 < B) (l1 : w.heap.size + 3 ≤ s1) (hb : Below W.heap.size W w1) : IRel w w1 B s1 s2 T j k bl bn v p q gl gh nm x y z rose g step width lo hi gx gy size wide high fb off len cap := by
  have e1 := R.zz
  have e2 := R.zn
  have e3 := R.z
  exact ⟨R.sef.keep hb (by omega), R.r1.keep hb (by omega), R.r2.keep hb (by omega), R.land.keep hb (by omega), R.n.keep hb (by omega), keepF hb (by omega) R.f0, keepF hb (by omega) R.f1, owns_keep R.own hb, R.ob, R.zz, R.zn, Nat.lt_of_lt_of_le R.z hb.size⟩

theorem IRel.start {w W : World} {B s1 s2 T j : Nat} {v : Value} {p q : Nat → Nat → Bool} (gl gh : Int) {nm : ByteArray} {x y z rose : Int} {g : Nat} {step width lo hi gx gy size wide high : Int} {fb off len cap : Nat} (R : JRel w W B s1 s2 T j v p q nm x y z rose g step width lo hi gx gy size wide high fb off len cap) (h1 : s1 < B) (h2 : s2 < B) (l1 : w.heap.size + 3 ≤ s1) : IRel w ((W.alloc (.cells #[.int .i64 gl, .int .i64 gh] 43)).alloc (.cells #[.int .i64 0, .int .i64 0] 43)) B s1 s2 T j 0 W.heap.size (W.heap.size + 1) v p q gl gh nm x y z rose g step width lo hi gx gy size wide high fb off len cap := by
  obtain ⟨X, hX⟩ : ∃ X, X = W.alloc (.cells #[.int .i64 gl, .int .i64 gh] 43) := ⟨_, rfl⟩
  have sX : X.heap.size = W.heap.size + 1 := by rw [hX]; simp
  have R2 : JRel w (X.alloc (.cells #[.int .i64 0, .int .i64 0] 43)) B s1 s2 T j v p q nm x y z rose g step width lo hi gx gy size wide high fb off len cap := (R.keep h1 h2 l1 (by rw [hX]; exact below_alloc _ _)).keep h1 h2 l1 (below_alloc _ _)
  have la : PairAt (X.alloc (.cells #[.int .i64 0, .int .i64 0] 43)) W.heap.size (.int .i64 gl) (.int .i64 gh) := PairAt.keep (by rw [hX]; exact PairAt.new _ _ _ _) (below_alloc _ _) (by omega)
  have nn : PairAt (X.alloc (.cells #[.int .i64 0, .int .i64 0] 43)) (W.heap.size + 1) (.int .i64 0) (.int .i64 0) := by rw [← sX]; exact PairAt.new _ _ _ _
  rw [← hX]
  exact ⟨R2.sef, R2.r1.ext (fun k _ => by rw [if_neg (by omega)]), R2.r2.ext (fun k _ => by rw [if_neg (by omega)]), la, nn, alloc_newF sX.symm, alloc_newF sX.symm, R2.own, fun g hg => (R.own.lt g hg).2, R.zz, rfl, by simp; omega⟩

theorem IRel.step {w W : World} {B s1 s2 T j k bl bn : Nat} {v : Value} {p q : Nat → Nat → Bool} {gl gh : Int} {nm : ByteArray} {x y z rose : Int} {g : Nat} {step width lo hi gx gy size wide high : Int} {fb off len cap : Nat} (R : IRel w W B s1 s2 T j k bl bn v p q gl gh nm x y z rose g step width lo hi gx gy size wide high fb off len cap) (h1 : s1 < B) (h2 : s2 < B) (h3 : s1 ≠ s2) (l1 : w.heap.size + 3 ≤ s1) (l2 : w.heap.size + 3 ≤ s2) {P Q : Bool} (hP : seen p k (j + 1) = P) (hQ : seen q k (j + 1) = Q) :
    IRel w (bump (bump ((W.setCell ⟨s1, k, none⟩ (.bool P)).setCell ⟨s2, k, none⟩ (.bool Q)) bn 0 P (cnt (fun i => seen p i (j + 1)) k : Nat)) bn 1 Q (cnt (fun i => seen q i (j + 1)) k : Nat)) B s1 s2 T j (k + 1) bl bn v p q gl gh nm x y z rose g step width lo hi gx gy size wide high fb off len cap := by
  have e1 := R.zz
  have e2 := R.zn
  have e3 := R.z
  obtain ⟨W1, hW1⟩ : ∃ W1, W1 = W.setCell ⟨s1, k, none⟩ (.bool P) := ⟨_, rfl⟩
  obtain ⟨W2, hW2⟩ : ∃ W2, W2 = W1.setCell ⟨s2, k, none⟩ (.bool Q) := ⟨_, rfl⟩
  rw [← hW1, ← hW2]
  have b1 : Below (w.heap.size + 3) W W1 := by rw [hW1]; exact (Below.refl _ _).setCell (by dsimp only; omega) _
  have b2 : Below (w.heap.size + 3) W W2 := by rw [hW2]; exact b1.setCell (by dsimp only; omega) _
  have z2 : W2.heap.size = W.heap.size := by rw [hW2, hW1]; simp
  have r1 : BoolRow W2 s1 T (fun i => seen p i (if i < k + 1 then j + 1 else j)) := by
    rw [hW2, hW1]
    refine BoolRow.far (R.r1.set (by rw [if_pos (by omega)]; exact hP) (fun i hi => ?_)) (fun h => h3 h.symm)
    by_cases e : i < k
    · rw [if_pos e, if_pos (by omega)]
    · rw [if_neg e, if_neg (by omega)]
  have r2 : BoolRow W2 s2 T (fun i => seen q i (if i < k + 1 then j + 1 else j)) := by
    rw [hW2, hW1]
    refine (R.r2.far h3).set (by rw [if_pos (by omega)]; exact hQ) (fun i hi => ?_)
    by_cases e : i < k
    · rw [if_pos e, if_pos (by omega)]
    · rw [if_neg e, if_neg (by omega)]
  have la : PairAt W2 bl (.int .i64 gl) (.int .i64 gh) := by rw [hW2, hW1]; exact ⟨cell_far (by omega) (cell_far (by omega) R.land.c0), cell_far (by omega) (cell_far (by omega) R.land.c1)⟩
  have nn : PairAt W2 bn (.int .i64 (cnt (fun i => seen p i (j + 1)) k : Nat)) (.int .i64 (cnt (fun i => seen q i (j + 1)) k : Nat)) := by rw [hW2, hW1]; exact ⟨cell_far (by omega) (cell_far (by omega) R.n.c0), cell_far (by omega) (cell_far (by omega) R.n.c1)⟩
  have f0 : W2.frozen? ⟨bn, 0, none⟩ = false := by rw [hW2, hW1]; simp; exact R.f0
  have f1 : W2.frozen? ⟨bn, 1, none⟩ = false := by rw [hW2, hW1]; simp; exact R.f1
  have own : W2.ownsRow (B) 43 2 v j (spv (sumsOf p T) (sumsOf q T) j) := by
    rw [hW2, hW1]
    exact owns_far (owns_far R.own (fun g hg => by have := (R.own.lt g hg).1; omega)) (fun g hg => by have := (R.own.lt g hg).1; omega)
  have ss := R.sef.keep b2 (Nat.le_refl _)
  clear hW1 hW2
  have key : ∀ (X : World) (i : Nat) (C : Bool) (m : Int), SEF w X nm x y z rose (g : Int) step width lo hi gx gy size wide high (.slice (some ⟨fb, off, none⟩) len cap) → BoolRow X s1 T (fun i => seen p i (if i < k + 1 then j + 1 else j)) → BoolRow X s2 T (fun i => seen q i (if i < k + 1 then j + 1 else j)) → PairAt X bl (.int .i64 gl) (.int .i64 gh) → X.frozen? ⟨bn, 0, none⟩ = false → X.frozen? ⟨bn, 1, none⟩ = false → X.ownsRow (B) 43 2 v j (spv (sumsOf p T) (sumsOf q T) j) → X.heap.size = W.heap.size →
      SEF w (bump X bn i C m) nm x y z rose (g : Int) step width lo hi gx gy size wide high (.slice (some ⟨fb, off, none⟩) len cap) ∧ BoolRow (bump X bn i C m) s1 T (fun i => seen p i (if i < k + 1 then j + 1 else j)) ∧ BoolRow (bump X bn i C m) s2 T (fun i => seen q i (if i < k + 1 then j + 1 else j)) ∧ PairAt (bump X bn i C m) bl (.int .i64 gl) (.int .i64 gh) ∧ (bump X bn i C m).frozen? ⟨bn, 0, none⟩ = false ∧ (bump X bn i C m).frozen? ⟨bn, 1, none⟩ = false ∧ (bump X bn i C m).ownsRow (B) 43 2 v j (spv (sumsOf p T) (sumsOf q T) j) ∧ (bump X bn i C m).heap.size = W.heap.size := by
    intro X i C m x1 x2 x3 x4 x5 x6 x7 x8
    unfold bump
    cases C
    · exact ⟨x1, x2, x3, x4, x5, x6, x7, x8⟩
    · rw [if_pos rfl]
      exact ⟨x1.keep (B := w.heap.size + 3) ((Below.refl _ _).setCell (by dsimp only; omega) _) (Nat.le_refl _), x2.far (by omega), x3.far (by omega), ⟨cell_far (by omega) x4.c0, cell_far (by omega) x4.c1⟩, by simp; exact x5, by simp; exact x6, owns_far x7 (fun g hg => by have := R.ob g hg; omega), by simp; exact x8⟩
  obtain ⟨a1, a2, a3, a4, a5, a6, a7, a8⟩ := key W2 0 P (cnt (fun i => seen p i (j + 1)) k : Nat) ss r1 r2 la f0 f1 own z2
  have m1 : PairAt (bump W2 bn 0 P (cnt (fun i => seen p i (j + 1)) k : Nat)) bn (.int .i64 (cnt (fun i => seen p i (j + 1)) (k + 1) : Nat)) (.int .i64 (cnt (fun i => seen q i (j + 1)) k : Nat)) := by
    cases P
    · rw [cnt_no (q := fun i => seen p i (j + 1)) hP]; exact nn
    · rw [cnt_yes (q := fun i => seen p i (j + 1)) hP]; exact ⟨set_same nn.c0, set_other (by decide) nn.c1⟩
  obtain ⟨c1, c2, c3, c4, c5, c6, c7, c8⟩ := key _ 1 Q (cnt (fun i => seen q i (j + 1)) k : Nat) a1 a2 a3 a4 a5 a6 a7 a8
  have m2 : PairAt (bump (bump W2 bn 0 P (cnt (fun i => seen p i (j + 1)) k : Nat)) bn 1 Q (cnt (fun i => seen q i (j + 1)) k : Nat)) bn (.int .i64 (cnt (fun i => seen p i (j + 1)) (k + 1) : Nat)) (.int .i64 (cnt (fun i => seen q i (j + 1)) (k + 1) : Nat)) := by
    generalize bump W2 bn 0 P (cnt (fun i => seen p i (j + 1)) k : Nat) = W3 at m1 ⊢
    cases Q
    · rw [cnt_no (q := fun i => seen q i (j + 1)) hQ]; exact m1
    · rw [cnt_yes (q := fun i => seen q i (j + 1)) hQ]; exact ⟨set_other (by decide) m1.c0, set_same m1.c1⟩
  exact ⟨c1, c2, c3, c4, m2, c5, c6, c7, R.ob, R.zz, R.zn, by rw [c8]; exact e3⟩

end Go.Proofs.Ythnjfnapjpdchaa

namespace Go.Proofs.Ythnjfnapjpdchaa
open Go.RowKit
set_option linter.unusedVariables false

theorem ov_gnd {x y rose step t ray gx gy size wide high : Int} {zs : Nat → Int × Int} {g j : Nat} {GL GH : Nat → Int} (hG : GndIs x y rose step t ray gx gy size wide high zs g GL GH) (hj : j < g) : ovL gx gy size wide high (plX x rose step t ray j) (plY y rose step t ray j) zs = GL j ∧ ovH gx gy size wide high (plX x rose step t ray j) (plY y rose step t ray j) zs = GH j := by
  obtain ⟨h1, h2⟩ := hG j hj
  unfold ovL ovH
  rcases (Bool.eq_false_or_eq_true (pixB gx gy size wide high (plX x rose step t ray j) (plY y rose step t ray j))).symm with hc | hc
  · obtain ⟨a, b⟩ := h2 hc
    rw [if_neg (by rw [hc]; decide), if_neg (by rw [hc]; decide)]; exact ⟨a.symm, b.symm⟩
  · obtain ⟨a, b⟩ := h1 hc
    rw [if_pos hc, if_pos hc]; exact ⟨a.symm, b.symm⟩

theorem two_rows {w W : World} {T : Nat} {nm : ByteArray} {x y z rose gates step width lo hi gx gy size wide high : Int} {sl : Value} (S : SEF w W nm x y z rose gates step width lo hi gx gy size wide high sl) :
    BoolRow ((W.alloc (.cells (madeCells #[.bool false] T) 4)).alloc (.cells (madeCells #[.bool false] T) 4)).drew W.heap.size T (fun _ => false) ∧ BoolRow ((W.alloc (.cells (madeCells #[.bool false] T) 4)).alloc (.cells (madeCells #[.bool false] T) 4)).drew (W.heap.size + 1) T (fun _ => false) ∧ SEF w ((W.alloc (.cells (madeCells #[.bool false] T) 4)).alloc (.cells (madeCells #[.bool false] T) 4)).drew nm x y z rose gates step width lo hi gx gy size wide high sl ∧ w.heap.size + 3 ≤ W.heap.size ∧ ((W.alloc (.cells (madeCells #[.bool false] T) 4)).alloc (.cells (madeCells #[.bool false] T) 4)).drew.heap.size = W.heap.size + 2 := by
  obtain ⟨X, hX⟩ : ∃ X, X = W.alloc (.cells (madeCells #[.bool false] T) 4) := ⟨_, rfl⟩
  have sX : X.heap.size = W.heap.size + 1 := by rw [hX]; simp
  have hz := S.z
  rw [← hX]
  have a1 : BoolRow (X.alloc (.cells (madeCells #[.bool false] T) 4)) W.heap.size T (fun _ => false) := BoolRow.keep (by rw [hX]; exact BoolRow.made _ _) (below_alloc _ _) (by omega)
  have a2 : BoolRow (X.alloc (.cells (madeCells #[.bool false] T) 4)) (W.heap.size + 1) T (fun _ => false) := by rw [← sX]; exact BoolRow.made _ _
  have a3 : SEF w (X.alloc (.cells (madeCells #[.bool false] T) 4)) nm x y z rose gates step width lo hi gx gy size wide high sl := (S.keep (by rw [hX]; exact below_alloc _ _) hz).keep (below_alloc _ _) (by omega)
  exact ⟨⟨a1.c, a1.f⟩, ⟨a2.c, a2.f⟩, a3.keep ((Below.refl _ _).drew) a3.z, hz, by simp; omega⟩

set_option maxRecDepth 100000 in
set_option maxHeartbeats 25600000 in
theorem refBlocked_gen (nm : ByteArray) (x y z rose : Int) (g : Nat) (step width lo hi gx gy size wide high : Int) (fb off len cap : Nat) (zs : Nat → Int × Int) (t ray : Int) (T : Nat) (hT : (T : Int) = 2 * width + 1) (GL GH : Nat → Int) (p q : Nat → Nat → Bool) (w : World) (hs : nm.size ≤ maxLen) (hl : len ≤ 1000000) (hsp : SpansAt w fb off len zs) (hfb : fb < w.heap.size) (h0 : siteC nm x y z rose g step width = 0) (hk : SiteOk x y z rose g step width) (hg : fieldC gx gy size wide high len zs 20000 = 0) (c0 : inB t 0 256 = true) (c1 : spanB lo hi 1000000 100000000 = true) (c2 : inB ray 0 (4 * rose - 1) = true) (hG : GndIs x y rose step t ray gx gy size wide high zs g GL GH)
    (hp : ∀ k j, k < T → j < g → p k j = decide (climbHi z step (t - width + k) j lo ≤ GL j)) (hq : ∀ k j, k < T → j < g → q k j = decide (climbLo z step (t - width + k) j hi ≤ GH j)) :
    Calls Try.prog 47 #[.agg #[.string nm, .int .i64 x, .int .i64 y, .int .i64 z, .int .i64 rose, .int .i64 (g : Nat), .int .i64 step, .int .i64 width], .int .i64 t, .agg #[.int .i64 lo, .int .i64 hi], .agg #[.int .i64 gx, .int .i64 gy, .int .i64 size, .int .i64 wide, .int .i64 high, .slice (some ⟨fb, off, none⟩) len cap], .int .i64 ray] w (BlkRet g (sumsOf p T) (sumsOf q T) w) := by
  obtain ⟨i0, hi0, hz0, hz1, hz2⟩ := info_parts info43
  have HS := Lib.hid hs
  have HSL := Lib.hid (show SliceIs w (some ⟨fb, off, none⟩) len cap zs from .inr ⟨fb, off, rfl, hfb, hsp⟩)
  have H0 := Lib.hid h0
  have HG := Lib.hid hg
  obtain ⟨hg1, hg2, hg3⟩ := ground_zero hg
  obtain ⟨t1, t2⟩ := inB_true.1 c0
  obtain ⟨e1, e0, e4⟩ := spanB_true.1 c1
  obtain ⟨v1, v2⟩ := inB_true.1 c2
  have r1 := hk.r1
  have r2 := hk.r2
  have gg := hk.g2
  have gg1 := hk.g1
  have d1 := hk.d1
  have d2 := hk.d2
  have HPL := Lib.hid (fun (j : Nat) (hj : j < g) (wx : World) => show Calls Try.prog 37 #[.agg #[.string nm, .int .i64 x, .int .i64 y, .int .i64 z, .int .i64 rose, .int .i64 (g : Nat), .int .i64 step, .int .i64 width], .int .i64 t, .int .i64 ray, .int .i64 j] wx (fun e w' => e = .returned (.tuple #[.int .i64 (plX x rose step t ray j), .int .i64 (plY y rose step t ray j), .int .i64 0]) ∧ Below wx.heap.size wx w') from by
    have h := refPlace_any nm x y z rose g step width t ray j wx hs
    have hc : codeE (siteC nm x y z rose g step width) (inB t 0 256 && inB ray 0 (4 * rose - 1) && inB j 0 ((g : Int) - 1)) = 0 := by
      rw [h0, c0, c2, inB_true.2 (show (0 : Int) ≤ (j : Int) ∧ (j : Int) ≤ (g : Int) - 1 by omega)]; rfl
    rw [hc, val_ok, val_ok] at h
    exact h)
  have HOV := Lib.hid (fun (j : Nat) (hj : j < g) (wx : World) (hb : Below w.heap.size w wx) => show Calls Try.prog 89 #[.agg #[.int .i64 gx, .int .i64 gy, .int .i64 size, .int .i64 wide, .int .i64 high, .slice (some ⟨fb, off, none⟩) len cap], .int .i64 (plX x rose step t ray j), .int .i64 (plY y rose step t ray j)] wx (fun e w' => e = .returned (.agg #[.int .i64 (GL j), .int .i64 (GH j)]) ∧ Below wx.heap.size wx w') from by
    have h := over_any gx gy size wide high (plX x rose step t ray j) (plY y rose step t ray j) fb off len cap zs wx hg1 hg2 (hsp.keep hb hfb) (Nat.lt_of_lt_of_le hfb hb.size)
    rw [(ov_gnd hG hj).1, (ov_gnd hG hj).2] at h
    exact h)
  have HHT := Lib.hid (fun (j k : Nat) (hj : j < g) (hk2 : k < T) (wx : World) => refheight_any nm x y z rose g step width (t - width + k) lo hi j wx (by omega) (by omega) hk.s1 hk.s2 (by omega) (by omega) hk.z1 hk.z2 e1 (by omega) (by omega) e4)
  have HP := Lib.hid hp
  have HQ := Lib.hid hq
  have HT := Lib.hid hT
  have i1 : IntKind.i64.wrap (4 * rose) = 4 * rose := IntWalk.i64_in _ (by omega)
  have i2 : IntKind.i64.wrap (4 * rose - 1) = 4 * rose - 1 := IntWalk.i64_in _ (by omega)
  have i3 : IntKind.i64.wrap (2 * width) = 2 * width := IntWalk.i64_in _ (by omega)
  have i4 : IntKind.i64.wrap (2 * width + 1) = 2 * width + 1 := IntWalk.i64_in _ (by omega)
  have i5 : IntKind.i64.wrap (t - width) = t - width := IntWalk.i64_in _ (by omega)
  have hmk : ∀ wx : World, (Instr.makeSlice 110 (.int .i64 (2 * width + 1)) (.int .i64 (2 * width + 1))).run Try.prog wx = .ok (.slice (some ⟨wx.heap.size, 0, none⟩) T T) (wx.alloc (.cells (madeCells #[.bool false] T) 4)) := fun wx => by rw [← hT]; exact make_bools T (by omega) wx
  have hT17 : T ≤ 17 := by omega
  clear hs hsp hfb h0 hg hg1 hg2 hg3 hG hp hq hk
  clear hT
  go_enter Try.func47, Try.ntmps47
  go_wp2_with fail
  refine (refCheckSite_any _ _ _ _ _ _ _ _ _ HS.out).mono ?_; rintro e w1 ⟨rfl, hb1⟩
  have O1 := (SEF.new w nm x y z rose g step width lo hi gx gy size wide high (.slice (some ⟨fb, off, none⟩) len cap)).keep hb1 (by simp)
  clear hb1
  obtain ⟨⟨k0, k1, k2, k3, k4, k5, k6, k7⟩, ⟨p0, p1⟩, ⟨f0, f1, f2, f3, f4, f5⟩, hz, hbw⟩ := O1
  have y0 : w.heap.size < w1.heap.size := by omega
  have y1 : w.heap.size + 1 < w1.heap.size := by omega
  have y2 : w.heap.size + 1 + 1 < w1.heap.size := by omega
  rw [H0.out]
  go_wp2_with fail
  refine (fits_any _ _ _ _ _ (some ⟨fb, off, none⟩) len cap zs 20000 _ hl (HSL.out.keep hbw)).mono ?_; rintro e w2 ⟨rfl, hb2⟩
  have O2 := (⟨⟨k0, k1, k2, k3, k4, k5, k6, k7⟩, ⟨p0, p1⟩, ⟨f0, f1, f2, f3, f4, f5⟩, hz, hbw⟩ : SEF w w1 nm x y z rose g step width lo hi gx gy size wide high (.slice (some ⟨fb, off, none⟩) len cap)).keep hb2 hz
  clear k0 k1 k2 k3 k4 k5 k6 k7 p0 p1 f0 f1 f2 f3 f4 f5 hz hbw y0 y1 y2 hb2
  obtain ⟨⟨k0, k1, k2, k3, k4, k5, k6, k7⟩, ⟨p0, p1⟩, ⟨f0, f1, f2, f3, f4, f5⟩, hz, hbw⟩ := O2
  have y0 : w.heap.size < w2.heap.size := by omega
  have y1 : w.heap.size + 1 < w2.heap.size := by omega
  have y2 : w.heap.size + 1 + 1 < w2.heap.size := by omega
  rw [HG.out]
  go_wp2_with fail
  refine (refIn_any _ _ _ _).mono ?_; rintro e w' ⟨rfl, rfl⟩
  go_wp2_with fail
  refine (Earth_any _ _ _).mono ?_; rintro e w3 ⟨rfl, hb3⟩
  have O3 := (⟨⟨k0, k1, k2, k3, k4, k5, k6, k7⟩, ⟨p0, p1⟩, ⟨f0, f1, f2, f3, f4, f5⟩, hz, hbw⟩ : SEF w w2 nm x y z rose g step width lo hi gx gy size wide high (.slice (some ⟨fb, off, none⟩) len cap)).keep hb3 hz
  clear k0 k1 k2 k3 k4 k5 k6 k7 p0 p1 f0 f1 f2 f3 f4 f5 hz hbw y0 y1 y2 hb3
  obtain ⟨⟨k0, k1, k2, k3, k4, k5, k6, k7⟩, ⟨p0, p1⟩, ⟨f0, f1, f2, f3, f4, f5⟩, hz, hbw⟩ := O3
  have y0 : w.heap.size < w3.heap.size := by omega
  have y1 : w.heap.size + 1 < w3.heap.size := by omega
  have y2 : w.heap.size + 1 + 1 < w3.heap.size := by omega
  go_wp2_with fail
  refine (refIn_any _ _ _ _).mono ?_; rintro e w' ⟨rfl, rfl⟩
  have RST := Lib.hid (show SEF w w3 nm x y z rose (g : Int) step width lo hi gx gy size wide high (.slice (some ⟨fb, off, none⟩) len cap) from ⟨⟨k0, k1, k2, k3, k4, k5, k6, k7⟩, ⟨p0, p1⟩, ⟨f0, f1, f2, f3, f4, f5⟩, hz, hbw⟩)
  go_upto_region 8 with fail
  go_cut [13, 14] from 50 to 59 (fun a b wx => ∃ s1 s2 B : Nat, a = .slice (some ⟨s1, 0, none⟩) T T ∧ b = .slice (some ⟨s2, 0, none⟩) T T ∧ s1 ≠ s2 ∧ w.heap.size + 3 ≤ s1 ∧ w.heap.size + 3 ≤ s2 ∧ s1 < B ∧ s2 < B ∧ B ≤ wx.heap.size ∧ BoolRow wx s1 T (fun _ => false) ∧ BoolRow wx s2 T (fun _ => false) ∧ SEF w wx nm x y z rose (g : Int) step width lo hi gx gy size wide high (.slice (some ⟨fb, off, none⟩) len cap))
  case first =>
    go_region
    all_goals (go_wp2_with fail; go_meet)
    all_goals (obtain ⟨R1, R2, R3, R4, R5⟩ := two_rows (T := T) RST.out)
    all_goals (first | exact ⟨w3.heap.size, w3.heap.size + 1, w3.heap.size + 2, rfl, rfl, by omega, R4, by omega, by omega, by omega, Nat.le_of_eq R5.symm, R1, R2, R3⟩ | exact ⟨w3.heap.size + 1, w3.heap.size, w3.heap.size + 2, rfl, rfl, by omega, by omega, R4, by omega, by omega, Nat.le_of_eq R5.symm, R2, R1, R3⟩)
  case rest =>
  obtain ⟨s1, s2, B, rfl, rfl, hne, l1, l2, s1B, s2B, hBz, b1, b2, hS⟩ := hcut
  have JST := Lib.hid (show JRel w wc B s1 s2 T 0 (.slice none 0 0) p q nm x y z rose g step width lo hi gx gy size wide high fb off len cap from ⟨hS, b1, b2, World.ownsRow_nil _ _ _ _, hBz⟩)
  clear k0 k1 k2 k3 k4 k5 k6 k7 p0 p1 f0 f1 f2 f3 f4 f5 hz hbw y0 y1 y2 b1 b2 hS RST
  go_wp2
  go_loopw [15, 16] (fun v i wr => ∃ j : Nat, j ≤ g ∧ i = .int .i64 j ∧ JRel w wr B s1 s2 T j v p q nm x y z rose g step width lo hi gx gy size wide high fb off len cap) (fun _ i _ => g - (intOf i).toNat)
  case atStart => exact ⟨0, Nat.zero_le _, rfl, JST.out⟩
  case round =>
  clear JST
  obtain ⟨j, hj, rfl, hJ⟩ := hrel
  have HJ := Lib.hid hJ
  obtain ⟨⟨⟨k0, k1, k2, k3, k4, k5, k6, k7⟩, ⟨p0, p1⟩, ⟨f0, f1, f2, f3, f4, f5⟩, hz, hbw⟩, _, _, _, zb⟩ := hJ
  have y0 : w.heap.size < wr.heap.size := by omega
  have y1 : w.heap.size + 1 < wr.heap.size := by omega
  have y2 : w.heap.size + 1 + 1 < wr.heap.size := by omega
  by_cases hlt : j < g
  · go_wp2_with fail
    refine (HPL.out j hlt _).mono ?_; rintro e5 w5 ⟨rfl, hb5⟩
    have HJ := Lib.hid (HJ.out.keep s1B s2B l1 hb5)
    clear k0 k1 k2 k3 k4 k5 k6 k7 p0 p1 f0 f1 f2 f3 f4 f5 hz hbw y0 y1 y2 hb5 zb
    obtain ⟨⟨⟨k0, k1, k2, k3, k4, k5, k6, k7⟩, ⟨p0, p1⟩, ⟨f0, f1, f2, f3, f4, f5⟩, hz, hbw⟩, _, _, _, zb⟩ := HJ.out
    have y0 : w.heap.size < w5.heap.size := by omega
    have y1 : w.heap.size + 1 < w5.heap.size := by omega
    have y2 : w.heap.size + 1 + 1 < w5.heap.size := by omega
    go_wp2_with fail
    refine (HOV.out j hlt _ hbw).mono ?_; rintro e6 w6 ⟨rfl, hb6⟩
    have HJ := Lib.hid (HJ.out.keep s1B s2B l1 hb6)
    clear k0 k1 k2 k3 k4 k5 k6 k7 p0 p1 f0 f1 f2 f3 f4 f5 hz hbw y0 y1 y2 hb6 zb
    obtain ⟨⟨⟨k0, k1, k2, k3, k4, k5, k6, k7⟩, ⟨p0, p1⟩, ⟨f0, f1, f2, f3, f4, f5⟩, hz, hbw⟩, _, _, _, zb⟩ := HJ.out
    have y0 : w.heap.size < w6.heap.size := by omega
    have y1 : w.heap.size + 1 < w6.heap.size := by omega
    have y2 : w.heap.size + 1 + 1 < w6.heap.size := by omega
    have IST := Lib.hid (IRel.start (GL j) (GH j) HJ.out s1B s2B l1)
    go_wp2
    go_loopw [22] (fun i wr => ∃ k : Nat, k ≤ T ∧ i = .int .i64 k ∧ IRel w wr B s1 s2 T j k w6.heap.size (w6.heap.size + 1) u15 p q (GL j) (GH j) nm x y z rose g step width lo hi gx gy size wide high fb off len cap) (fun i _ => T - (intOf i).toNat)
    case atStart => exact ⟨0, Nat.zero_le _, rfl, IST.out⟩
    case round =>
      obtain ⟨k, hk, rfl, hI⟩ := hrel
      have HI := Lib.hid hI
      have HJ0 := HJ
      by_cases hkt : k < T
      · have c1 : wr.cell? ⟨s1, k, none⟩ = some (.bool (seen p k j)) := by have := hI.r1.c k hkt; rwa [if_neg (by omega)] at this
        have c2 : wr.cell? ⟨s2, k, none⟩ = some (.bool (seen q k j)) := by have := hI.r2.c k hkt; rwa [if_neg (by omega)] at this
        obtain ⟨⟨⟨k0, k1, k2, k3, k4, k5, k6, k7⟩, ⟨p0, p1⟩, ⟨f0, f1, f2, f3, f4, f5⟩, hz, hbw⟩, _, _, _, _, _, _, _, _, zb, zn, zl⟩ := hI
        have j5 : IntKind.i64.wrap (t - width + k) = t - width + k := IntWalk.i64_in _ (by omega)
        have y0 : w.heap.size < wr.heap.size := by omega
        have y1 : w.heap.size + 1 < wr.heap.size := by omega
        have y2 : w.heap.size + 1 + 1 < wr.heap.size := by omega
        go_wp2_with fail
        refine (HHT.out j k hlt hkt _).mono ?_; rintro e8 w8 ⟨rfl, hb8⟩
        have R8 := Lib.hid ((HI.out.keep s1B s2B l1 hb8).keep s1B s2B l1 (below_alloc w8 (.cells #[.int .i64 (climbLo z step (t - width + k) j hi), .int .i64 (climbHi z step (t - width + k) j lo)] 43)))
        obtain ⟨h80, h81⟩ := PairAt.new w8 (.int .i64 (climbLo z step (t - width + k) j hi)) (.int .i64 (climbHi z step (t - width + k) j lo)) 43
        have z8 : w8.heap.size < (w8.alloc (.cells #[.int .i64 (climbLo z step (t - width + k) j hi), .int .i64 (climbHi z step (t - width + k) j lo)] 43)).heap.size := by simp
        have z7 : w6.heap.size + 1 < w8.heap.size := Nat.lt_of_lt_of_le zl hb8.size
        clear k0 k1 k2 k3 k4 k5 k6 k7 p0 p1 f0 f1 f2 f3 f4 f5 hz hbw y0 y1 y2 c1 c2 hb8 zn zl
        clear j5
        go_upto_region 20 with fail
        generalize w8.alloc (.cells #[.int .i64 (climbLo z step (t - width + k) j hi), .int .i64 (climbHi z step (t - width + k) j lo)] 43) = X at R8 h80 h81 z8 ⊢
        have c1 : X.cell? ⟨s1, k, none⟩ = some (.bool (seen p k j)) := by have := R8.out.r1.c k hkt; rwa [if_neg (by omega)] at this
        have c2 : X.cell? ⟨s2, k, none⟩ = some (.bool (seen q k j)) := by have := R8.out.r2.c k hkt; rwa [if_neg (by omega)] at this
        have F1 : X.frozen? ⟨s1, k, none⟩ = false := R8.out.r1.f k hkt
        have F2 : X.frozen? ⟨s2, k, none⟩ = false := R8.out.r2.f k hkt
        obtain ⟨m0, m1⟩ := R8.out.n
        have F3 := R8.out.f0
        have F4 := R8.out.f1
        obtain ⟨g0, g1⟩ := R8.out.land
        have x1 : s1 < w6.heap.size := by omega
        have x2 : s2 < w6.heap.size := by omega
        have x3 : s1 < X.heap.size := by omega
        have x4 : s2 < X.heap.size := by omega
        have x5 : w6.heap.size < X.heap.size := by omega
        have x6 : w6.heap.size + 1 < X.heap.size := by omega
        have n1 := cnt_le (fun i => seen p i (j + 1)) k
        have n2 := cnt_le (fun i => seen q i (j + 1)) k
        have i8 : IntKind.i64.wrap ((cnt (fun i => seen p i (j + 1)) k : Nat) + 1) = (cnt (fun i => seen p i (j + 1)) k : Nat) + 1 := IntWalk.i64_in _ (by omega)
        have i9 : IntKind.i64.wrap ((cnt (fun i => seen q i (j + 1)) k : Nat) + 1) = (cnt (fun i => seen q i (j + 1)) k : Nat) + 1 := IntWalk.i64_in _ (by omega)
        have q0 : (0 : Int) ≤ (k : Int) := by omega
        have q1 : (k : Int) < (T : Int) := by omega
        rcases (Bool.eq_false_or_eq_true (seen p k j)).symm with hp | hp
        · rw [hp] at c1
          rcases (Bool.eq_false_or_eq_true (p k j)).symm with hp2 | hp2
          · have sp : seen p k (j + 1) = false := by show (seen p k j || p k j) = false; rw [hp, hp2]; rfl
            have vp : ¬ climbHi z step (t - width + k) j lo ≤ GL j := of_decide_eq_false ((HP.out k j hkt hlt).symm.trans hp2)
            rcases (Bool.eq_false_or_eq_true (seen q k j)).symm with hq | hq
            · rw [hq] at c2
              rcases (Bool.eq_false_or_eq_true (q k j)).symm with hq2 | hq2
              · have sq : seen q k (j + 1) = false := by show (seen q k j || q k j) = false; rw [hq, hq2]; rfl
                have vq : ¬ climbLo z step (t - width + k) j hi ≤ GH j := of_decide_eq_false ((HQ.out k j hkt hlt).symm.trans hq2)
                have HR := Lib.hid (R8.out.step s1B s2B hne l1 l2 sp sq)
                go_wp2
                go_roundw
                case rel => exact ⟨k + 1, by omega, by go_num, HR.out⟩
                case measure => simp [intOf]; omega
              · have sq : seen q k (j + 1) = true := by show (seen q k j || q k j) = true; rw [hq, hq2]; rfl
                have vq : climbLo z step (t - width + k) j hi ≤ GH j := of_decide_eq_true ((HQ.out k j hkt hlt).symm.trans hq2)
                have HR := Lib.hid (R8.out.step s1B s2B hne l1 l2 sp sq)
                go_wp2
                go_roundw
                case rel => exact ⟨k + 1, by omega, by go_num, HR.out⟩
                case measure => simp [intOf]; omega
            · rw [hq] at c2
              have sq : seen q k (j + 1) = true := by show (seen q k j || q k j) = true; rw [hq]; rfl
              have HR := Lib.hid (R8.out.step s1B s2B hne l1 l2 sp sq)
              go_wp2
              go_roundw
              case rel => exact ⟨k + 1, by omega, by go_num, HR.out⟩
              case measure => simp [intOf]; omega
          · have sp : seen p k (j + 1) = true := by show (seen p k j || p k j) = true; rw [hp, hp2]; rfl
            have vp : climbHi z step (t - width + k) j lo ≤ GL j := of_decide_eq_true ((HP.out k j hkt hlt).symm.trans hp2)
            rcases (Bool.eq_false_or_eq_true (seen q k j)).symm with hq | hq
            · rw [hq] at c2
              rcases (Bool.eq_false_or_eq_true (q k j)).symm with hq2 | hq2
              · have sq : seen q k (j + 1) = false := by show (seen q k j || q k j) = false; rw [hq, hq2]; rfl
                have vq : ¬ climbLo z step (t - width + k) j hi ≤ GH j := of_decide_eq_false ((HQ.out k j hkt hlt).symm.trans hq2)
                have HR := Lib.hid (R8.out.step s1B s2B hne l1 l2 sp sq)
                go_wp2
                go_roundw
                case rel => exact ⟨k + 1, by omega, by go_num, HR.out⟩
                case measure => simp [intOf]; omega
              · have sq : seen q k (j + 1) = true := by show (seen q k j || q k j) = true; rw [hq, hq2]; rfl
                have vq : climbLo z step (t - width + k) j hi ≤ GH j := of_decide_eq_true ((HQ.out k j hkt hlt).symm.trans hq2)
                have HR := Lib.hid (R8.out.step s1B s2B hne l1 l2 sp sq)
                go_wp2
                go_roundw
                case rel => exact ⟨k + 1, by omega, by go_num, HR.out⟩
                case measure => simp [intOf]; omega
            · rw [hq] at c2
              have sq : seen q k (j + 1) = true := by show (seen q k j || q k j) = true; rw [hq]; rfl
              have HR := Lib.hid (R8.out.step s1B s2B hne l1 l2 sp sq)
              go_wp2
              go_roundw
              case rel => exact ⟨k + 1, by omega, by go_num, HR.out⟩
              case measure => simp [intOf]; omega
        · rw [hp] at c1
          have sp : seen p k (j + 1) = true := by show (seen p k j || p k j) = true; rw [hp]; rfl
          rcases (Bool.eq_false_or_eq_true (seen q k j)).symm with hq | hq
          · rw [hq] at c2
            rcases (Bool.eq_false_or_eq_true (q k j)).symm with hq2 | hq2
            · have sq : seen q k (j + 1) = false := by show (seen q k j || q k j) = false; rw [hq, hq2]; rfl
              have vq : ¬ climbLo z step (t - width + k) j hi ≤ GH j := of_decide_eq_false ((HQ.out k j hkt hlt).symm.trans hq2)
              have HR := Lib.hid (R8.out.step s1B s2B hne l1 l2 sp sq)
              go_wp2
              go_roundw
              case rel => exact ⟨k + 1, by omega, by go_num, HR.out⟩
              case measure => simp [intOf]; omega
            · have sq : seen q k (j + 1) = true := by show (seen q k j || q k j) = true; rw [hq, hq2]; rfl
              have vq : climbLo z step (t - width + k) j hi ≤ GH j := of_decide_eq_true ((HQ.out k j hkt hlt).symm.trans hq2)
              have HR := Lib.hid (R8.out.step s1B s2B hne l1 l2 sp sq)
              go_wp2
              go_roundw
              case rel => exact ⟨k + 1, by omega, by go_num, HR.out⟩
              case measure => simp [intOf]; omega
          · rw [hq] at c2
            have sq : seen q k (j + 1) = true := by show (seen q k j || q k j) = true; rw [hq]; rfl
            have HR := Lib.hid (R8.out.step s1B s2B hne l1 l2 sp sq)
            go_wp2
            go_roundw
            case rel => exact ⟨k + 1, by omega, by go_num, HR.out⟩
            case measure => simp [intOf]; omega
      · have hkT : k = T := by omega
        have RT := HI.out
        rw [hkT] at RT
        have r1' : BoolRow wr s1 T (fun k => seen p k (j + 1)) := RT.r1.ext (fun i hi => by rw [if_pos hi])
        have r2' : BoolRow wr s2 T (fun k => seen q k (j + 1)) := RT.r2.ext (fun i hi => by rw [if_pos hi])
        have m0 : wr.cell? ⟨w6.heap.size + 1, 0, none⟩ = some (.int .i64 (sumsOf p T j)) := RT.n.c0
        have m1 : wr.cell? ⟨w6.heap.size + 1, 1, none⟩ = some (.int .i64 (sumsOf q T j)) := RT.n.c1
        have zl := RT.z
        have zb2 := RT.zz
        have hown := RT.own
        have HW := Lib.hid hown
        have HSE := Lib.hid RT.sef
        have HR1 := Lib.hid r1'
        have HR2 := Lib.hid r2'
        clear r1' r2' RT hI
        go_wp2_with (first | (at_builtin; refine wpList_append_own _ rfl _ _ 26 rfl B 43 i0 (.agg #[.int .i64 0, .int .i64 0]) 2 16 Try.underlying26 hi0 hz0 hz1 hz2 rfl (by decide) _ _ _ rfl (hown.alloc _) ⟨wr.heap.size, 0, none⟩ 1 1 [.int .i64 (sumsOf p T j), .int .i64 (sumsOf q T j)] rfl rfl (cell_two_new _ _ _ _) ?c2 ?c3 ?c4 ?c5 ?_) | go_in)
        case c2 => intro u hu; simp at hu; rcases hu with rfl | rfl <;> rfl
        case c3 => unfold maxLen; omega
        case c4 => omega
        case c5 => simp; omega
        · intro v' w7 hown' hgrow _
          have B7 : Below B wr w7 := Below.grown ((Below.refl B wr).alloc (by omega) _) hgrow (by simp; omega) (fun k hk => (HW.out.lt k hk).1)
          have R7 := Lib.hid (show JRel w w7 B s1 s2 T (j + 1) v' p q nm x y z rose g step width lo hi gx gy size wide high fb off len cap from ⟨HSE.out.keep B7 (by omega), HR1.out.keep B7 s1B, HR2.out.keep B7 s2B, hown', by have := B7.size; omega⟩)
          clear hown' hgrow B7
          go_wp2
          go_roundw
          case rel => exact ⟨j + 1, by omega, by go_num, R7.out⟩
          case measure => simp [intOf]; omega
  · have hjg : j = g := by omega
    have HO := HJ.out.own
    have HB := HJ.out.sef.b
    clear HJ
    rw [hjg] at HO
    obtain ⟨b, cap, rfl, hb1, hb2⟩ := HO.form (by omega)
    have HI := Lib.hid (show SpansAt wr b 0 g (fun j => (sumsOf p T j, sumsOf q T j)) from fun i hi => ⟨by rw [Nat.zero_add, HO.cellAt (i * 2) (by omega)]; exact (spv_get _ _ g i hi).1, by rw [Nat.zero_add, HO.cellAt (i * 2 + 1) (by omega)]; exact (spv_get _ _ g i hi).2⟩)
    clear HO
    go_wp2
    go_ret2
    exact ⟨_, _, rfl, HI.out, by omega, hb2, HB⟩

end Go.Proofs.Ythnjfnapjpdchaa

namespace Go.Proofs.Ythnjfnapjpdchaa
open Go.RowKit
set_option linter.unusedVariables false

theorem threes_new (w : World) (el : Nat) : SpansAt (w.alloc (.cells #[.int .i64 3, .int .i64 3, .int .i64 3, .int .i64 3, .int .i64 3, .int .i64 3, .int .i64 3, .int .i64 3] el)) w.heap.size 0 4 (fun _ => (3, 3)) := fun k hk => by
  have hk' : k = 0 ∨ k = 1 ∨ k = 2 ∨ k = 3 := by omega
  rcases hk' with rfl | rfl | rfl | rfl <;> exact ⟨alloc_new rfl rfl, alloc_new rfl rfl⟩

set_option maxRecDepth 100000 in
set_option maxHeartbeats 6400000 in
theorem BeamBlocks_few (nm : ByteArray) (x y z rose gates step width lo hi gx gy size wide high : Int) (fa : Option Addr) (len cap : Nat) (t ray : Int) (w : World) (hs : nm.size ≤ maxLen) (hl : len ≤ maxLen) (hf : fewB nm.size rose gates wide high = false) :
    Calls Try.prog 8 #[.agg #[.string nm, .int .i64 x, .int .i64 y, .int .i64 z, .int .i64 rose, .int .i64 gates, .int .i64 step, .int .i64 width], .int .i64 t, .agg #[.int .i64 lo, .int .i64 hi], .agg #[.int .i64 gx, .int .i64 gy, .int .i64 size, .int .i64 wide, .int .i64 high, .slice fa len cap], .int .i64 ray] w fun e w' => e = .returned (.bool true) ∧ Below w.heap.size w w' := by
  have HS := Lib.hid hs
  clear hs
  have HF := Lib.hid hf
  clear hf
  unfold maxLen at hl
  go_enter Try.func8, Try.ntmps8
  go_wp2_with fail
  refine (few_any _ _ _ _ _ _ _ _ _ _ _ _ _ _ HS.out).mono ?_; rintro e w1 ⟨rfl, hb1⟩
  have O1 := (SEF.new w nm x y z rose gates step width lo hi gx gy size wide high (.slice fa len cap)).keep hb1 (by simp)
  clear hb1
  obtain ⟨⟨k0, k1, k2, k3, k4, k5, k6, k7⟩, ⟨p0, p1⟩, ⟨f0, f1, f2, f3, f4, f5⟩, hz, hbw⟩ := O1
  have y0 : w.heap.size < w1.heap.size := by omega
  have y1 : w.heap.size + 1 < w1.heap.size := by omega
  have y2 : w.heap.size + 1 + 1 < w1.heap.size := by omega
  rw [HF.out]
  go_wp2_with fail
  refine (works_any _).mono ?_; rintro e w99 ⟨rfl, hb99⟩
  go_wp2
  go_ret
  exact ⟨rfl, hbw.trans (hb99.mono (by omega))⟩

set_option maxRecDepth 100000 in
set_option maxHeartbeats 6400000 in
theorem BeamBlocks_long (nm : ByteArray) (x y z rose gates step width lo hi gx gy size wide high : Int) (fa : Option Addr) (len cap : Nat) (t ray : Int) (w : World) (hs : nm.size ≤ maxLen) (hl : len ≤ maxLen) (hf : fewB nm.size rose gates wide high = true) (h3 : 300 < len) :
    Calls Try.prog 8 #[.agg #[.string nm, .int .i64 x, .int .i64 y, .int .i64 z, .int .i64 rose, .int .i64 gates, .int .i64 step, .int .i64 width], .int .i64 t, .agg #[.int .i64 lo, .int .i64 hi], .agg #[.int .i64 gx, .int .i64 gy, .int .i64 size, .int .i64 wide, .int .i64 high, .slice fa len cap], .int .i64 ray] w fun e w' => e = .returned (.bool true) ∧ Below w.heap.size w w' := by
  have HS := Lib.hid hs
  clear hs
  have HF := Lib.hid hf
  clear hf
  unfold maxLen at hl
  go_enter Try.func8, Try.ntmps8
  go_wp2_with fail
  refine (few_any _ _ _ _ _ _ _ _ _ _ _ _ _ _ HS.out).mono ?_; rintro e w1 ⟨rfl, hb1⟩
  have O1 := (SEF.new w nm x y z rose gates step width lo hi gx gy size wide high (.slice fa len cap)).keep hb1 (by simp)
  clear hb1
  obtain ⟨⟨k0, k1, k2, k3, k4, k5, k6, k7⟩, ⟨p0, p1⟩, ⟨f0, f1, f2, f3, f4, f5⟩, hz, hbw⟩ := O1
  have y0 : w.heap.size < w1.heap.size := by omega
  have y1 : w.heap.size + 1 < w1.heap.size := by omega
  have y2 : w.heap.size + 1 + 1 < w1.heap.size := by omega
  rw [HF.out]
  go_wp2_with fail
  refine (works_any _).mono ?_; rintro e w99 ⟨rfl, hb99⟩
  go_wp2
  go_ret
  exact ⟨rfl, hbw.trans (hb99.mono (by omega))⟩

set_option maxRecDepth 100000 in
set_option maxHeartbeats 6400000 in
theorem BeamBlocks_err (nm : ByteArray) (x y z rose gates step width lo hi gx gy size wide high : Int) (fa : Option Addr) (len cap : Nat) (t ray : Int) (w : World) (hs : nm.size ≤ maxLen) (hl : len ≤ maxLen) (hf : fewB nm.size rose gates wide high = true) (h3 : len ≤ 300) (c : Int) (f46 : ∀ wx : World, Below w.heap.size w wx → Calls Try.prog 46 #[.agg #[.string nm, .int .i64 x, .int .i64 y, .int .i64 z, .int .i64 rose, .int .i64 gates, .int .i64 step, .int .i64 width], .int .i64 t, .agg #[.int .i64 lo, .int .i64 hi], .agg #[.int .i64 gx, .int .i64 gy, .int .i64 size, .int .i64 wide, .int .i64 high, .slice fa len cap], .int .i64 ray] wx fun e w' => e = .returned (.tuple #[.slice none 0 0, .int .i64 c]) ∧ Below wx.heap.size wx w') (f47 : ∀ wx : World, Below w.heap.size w wx → Calls Try.prog 47 #[.agg #[.string nm, .int .i64 x, .int .i64 y, .int .i64 z, .int .i64 rose, .int .i64 gates, .int .i64 step, .int .i64 width], .int .i64 t, .agg #[.int .i64 lo, .int .i64 hi], .agg #[.int .i64 gx, .int .i64 gy, .int .i64 size, .int .i64 wide, .int .i64 high, .slice fa len cap], .int .i64 ray] wx fun e w' => e = .returned (.tuple #[.slice none 0 0, .int .i64 c]) ∧ Below wx.heap.size wx w') :
    Calls Try.prog 8 #[.agg #[.string nm, .int .i64 x, .int .i64 y, .int .i64 z, .int .i64 rose, .int .i64 gates, .int .i64 step, .int .i64 width], .int .i64 t, .agg #[.int .i64 lo, .int .i64 hi], .agg #[.int .i64 gx, .int .i64 gy, .int .i64 size, .int .i64 wide, .int .i64 high, .slice fa len cap], .int .i64 ray] w fun e w' => e = .returned (.bool true) ∧ Below w.heap.size w w' := by
  have HS := Lib.hid hs
  clear hs
  have HF := Lib.hid hf
  have F46 := Lib.hid f46
  have F47 := Lib.hid f47
  clear hf f46 f47 hl
  go_enter Try.func8, Try.ntmps8
  go_wp2_with fail
  refine (few_any _ _ _ _ _ _ _ _ _ _ _ _ _ _ HS.out).mono ?_; rintro e w1 ⟨rfl, hb1⟩
  have O1 := (SEF.new w nm x y z rose gates step width lo hi gx gy size wide high (.slice fa len cap)).keep hb1 (by simp)
  clear hb1
  obtain ⟨⟨k0, k1, k2, k3, k4, k5, k6, k7⟩, ⟨p0, p1⟩, ⟨f0, f1, f2, f3, f4, f5⟩, hz, hbw⟩ := O1
  have y0 : w.heap.size < w1.heap.size := by omega
  have y1 : w.heap.size + 1 < w1.heap.size := by omega
  have y2 : w.heap.size + 1 + 1 < w1.heap.size := by omega
  rw [HF.out]
  go_wp2_with fail
  refine (F46.out _ hbw).mono ?_; rintro e w2 ⟨rfl, hb2⟩
  have O2 := (⟨⟨k0, k1, k2, k3, k4, k5, k6, k7⟩, ⟨p0, p1⟩, ⟨f0, f1, f2, f3, f4, f5⟩, hz, hbw⟩ : SEF w w1 nm x y z rose gates step width lo hi gx gy size wide high (.slice fa len cap)).keep hb2 hz
  clear k0 k1 k2 k3 k4 k5 k6 k7 p0 p1 f0 f1 f2 f3 f4 f5 hz hbw y0 y1 y2 hb2
  obtain ⟨⟨k0, k1, k2, k3, k4, k5, k6, k7⟩, ⟨p0, p1⟩, ⟨f0, f1, f2, f3, f4, f5⟩, hz, hbw⟩ := O2
  have y0 : w.heap.size < w2.heap.size := by omega
  have y1 : w.heap.size + 1 < w2.heap.size := by omega
  have y2 : w.heap.size + 1 + 1 < w2.heap.size := by omega
  go_wp2_with fail
  refine (F47.out _ hbw).mono ?_; rintro e w3 ⟨rfl, hb3⟩
  have hzz : w.heap.size ≤ w2.heap.size := by omega
  clear k0 k1 k2 k3 k4 k5 k6 k7 p0 p1 f0 f1 f2 f3 f4 f5 hz y0 y1 y2
  have hbw : Below w.heap.size w w3 := hbw.trans (hb3.mono hzz)
  have hzz : w.heap.size ≤ w3.heap.size := Nat.le_trans hzz hb3.size
  clear hb3
  go_wp2_with fail
  refine (S_any _).mono ?_; rintro e w4 ⟨rfl, hb4⟩
  have hbw : Below w.heap.size w w4 := hbw.trans (hb4.mono hzz)
  have hzz : w.heap.size ≤ w4.heap.size := Nat.le_trans hzz hb4.size
  clear hb4
  go_wp2_with fail
  refine (point_any _ _).mono ?_; rintro e w5 ⟨rfl, hb5⟩
  have hbw : Below w.heap.size w w5 := hbw.trans (hb5.mono hzz)
  have hzz : w.heap.size ≤ w5.heap.size := Nat.le_trans hzz hb5.size
  clear hb5
  go_wp2_with fail
  refine (Hill_any _).mono ?_; rintro e w6 ⟨bh, rfl, H1, hb6⟩
  have hbw : Below w.heap.size w w6 := hbw.trans (hb6.mono hzz)
  have hzz : w.heap.size ≤ w6.heap.size := Nat.le_trans hzz hb6.size
  clear hb6
  go_wp2_with fail
  refine (Blocked_S0 bh _ H1).mono ?_; rintro e w7 ⟨bl, cl, rfl, SL, _, bll, hb7⟩
  have hbw : Below w.heap.size w w7 := hbw.trans (hb7.mono hzz)
  have hzz : w.heap.size ≤ w7.heap.size := Nat.le_trans hzz hb7.size
  clear hb7
  clear H1
  go_wp2_with fail
  refine (spans_nil _).mono ?_; rintro e w8 ⟨rfl, hb8⟩
  have SL := SL.keep hb8 bll
  have bll : bl < w8.heap.size := Nat.lt_of_lt_of_le bll hb8.size
  have hbw : Below w.heap.size w w8 := hbw.trans (hb8.mono hzz)
  have hzz : w.heap.size ≤ w8.heap.size := Nat.le_trans hzz hb8.size
  clear hb8
  go_wp2_with fail
  refine (point_any _ _).mono ?_; rintro e w9 ⟨rfl, hb9⟩
  have SL := SL.keep hb9 bll
  have bll : bl < w9.heap.size := Nat.lt_of_lt_of_le bll hb9.size
  have hbw : Below w.heap.size w w9 := hbw.trans (hb9.mono hzz)
  have hzz : w.heap.size ≤ w9.heap.size := Nat.le_trans hzz hb9.size
  clear hb9
  go_wp2_with fail
  refine (point_any _ _).mono ?_; rintro e w10 ⟨rfl, hb10⟩
  have SL := SL.keep hb10 bll
  have bll : bl < w10.heap.size := Nat.lt_of_lt_of_le bll hb10.size
  have hbw : Below w.heap.size w w10 := hbw.trans (hb10.mono hzz)
  have hzz : w.heap.size ≤ w10.heap.size := Nat.le_trans hzz hb10.size
  clear hb10
  go_wp2_with fail
  refine (point_any _ _).mono ?_; rintro e w11 ⟨rfl, hb11⟩
  have SL := SL.keep hb11 bll
  have bll : bl < w11.heap.size := Nat.lt_of_lt_of_le bll hb11.size
  have hbw : Below w.heap.size w w11 := hbw.trans (hb11.mono hzz)
  have hzz : w.heap.size ≤ w11.heap.size := Nat.le_trans hzz hb11.size
  clear hb11
  go_wp2_with fail
  refine (point_any _ _).mono ?_; rintro e w12 ⟨rfl, hb12⟩
  have SL := SL.keep hb12 bll
  have bll : bl < w12.heap.size := Nat.lt_of_lt_of_le bll hb12.size
  have hbw : Below w.heap.size w w12 := hbw.trans (hb12.mono hzz)
  have hzz : w.heap.size ≤ w12.heap.size := Nat.le_trans hzz hb12.size
  clear hb12
  go_wp2_with fail
  refine (spans_same 4 bl w12.heap.size 0 0 cl 4 (fun _ => (3, 3)) _ (by decide) (SpansAt.keep SL (below_alloc _ _) bll) (threes_new _ _) (by simp; omega) (by simp)).mono ?_; rintro e w13 ⟨rfl, hb13⟩
  have hbw := hbw.trans ((Below.trans (below_alloc _ _) (hb13.mono (by simp))).mono hzz)
  have hzz : w.heap.size ≤ w13.heap.size := hbw.size
  clear SL bll hb13
  go_wp2_with fail
  refine (works_any _).mono ?_; rintro e w99 ⟨rfl, hb99⟩
  go_wp2
  go_ret
  exact ⟨rfl, hbw.trans (hb99.mono (by omega))⟩

set_option maxRecDepth 100000 in
set_option maxHeartbeats 6400000 in
theorem BeamBlocks_ok (nm : ByteArray) (x y z rose : Int) (g : Nat) (step width lo hi gx gy size wide high : Int) (fa : Option Addr) (len cap : Nat) (t ray : Int) (w : World) (hs : nm.size ≤ maxLen) (hl : len ≤ maxLen) (hf : fewB nm.size rose g wide high = true) (h3 : len ≤ 300) (L H : Nat → Int) (hg2 : (g : Int) ≤ 200) (f46 : ∀ wx : World, Below w.heap.size w wx → Calls Try.prog 46 #[.agg #[.string nm, .int .i64 x, .int .i64 y, .int .i64 z, .int .i64 rose, .int .i64 (g : Nat), .int .i64 step, .int .i64 width], .int .i64 t, .agg #[.int .i64 lo, .int .i64 hi], .agg #[.int .i64 gx, .int .i64 gy, .int .i64 size, .int .i64 wide, .int .i64 high, .slice fa len cap], .int .i64 ray] wx (BlkRet g L H wx)) (f47 : ∀ wx : World, Below w.heap.size w wx → Calls Try.prog 47 #[.agg #[.string nm, .int .i64 x, .int .i64 y, .int .i64 z, .int .i64 rose, .int .i64 (g : Nat), .int .i64 step, .int .i64 width], .int .i64 t, .agg #[.int .i64 lo, .int .i64 hi], .agg #[.int .i64 gx, .int .i64 gy, .int .i64 size, .int .i64 wide, .int .i64 high, .slice fa len cap], .int .i64 ray] wx (BlkRet g L H wx)) :
    Calls Try.prog 8 #[.agg #[.string nm, .int .i64 x, .int .i64 y, .int .i64 z, .int .i64 rose, .int .i64 (g : Nat), .int .i64 step, .int .i64 width], .int .i64 t, .agg #[.int .i64 lo, .int .i64 hi], .agg #[.int .i64 gx, .int .i64 gy, .int .i64 size, .int .i64 wide, .int .i64 high, .slice fa len cap], .int .i64 ray] w fun e w' => e = .returned (.bool true) ∧ Below w.heap.size w w' := by
  have HS := Lib.hid hs
  clear hs
  have HF := Lib.hid hf
  have F46 := Lib.hid f46
  have F47 := Lib.hid f47
  clear hf f46 f47 hl
  go_enter Try.func8, Try.ntmps8
  go_wp2_with fail
  refine (few_any _ _ _ _ _ _ _ _ _ _ _ _ _ _ HS.out).mono ?_; rintro e w1 ⟨rfl, hb1⟩
  have O1 := (SEF.new w nm x y z rose g step width lo hi gx gy size wide high (.slice fa len cap)).keep hb1 (by simp)
  clear hb1
  obtain ⟨⟨k0, k1, k2, k3, k4, k5, k6, k7⟩, ⟨p0, p1⟩, ⟨f0, f1, f2, f3, f4, f5⟩, hz, hbw⟩ := O1
  have y0 : w.heap.size < w1.heap.size := by omega
  have y1 : w.heap.size + 1 < w1.heap.size := by omega
  have y2 : w.heap.size + 1 + 1 < w1.heap.size := by omega
  rw [HF.out]
  go_wp2_with fail
  refine (F46.out _ hbw).mono ?_; rintro e w2 ⟨ba, ca, rfl, SA, _, bal, hb2⟩
  have O2 := (⟨⟨k0, k1, k2, k3, k4, k5, k6, k7⟩, ⟨p0, p1⟩, ⟨f0, f1, f2, f3, f4, f5⟩, hz, hbw⟩ : SEF w w1 nm x y z rose g step width lo hi gx gy size wide high (.slice fa len cap)).keep hb2 hz
  clear k0 k1 k2 k3 k4 k5 k6 k7 p0 p1 f0 f1 f2 f3 f4 f5 hz hbw y0 y1 y2 hb2
  obtain ⟨⟨k0, k1, k2, k3, k4, k5, k6, k7⟩, ⟨p0, p1⟩, ⟨f0, f1, f2, f3, f4, f5⟩, hz, hbw⟩ := O2
  have y0 : w.heap.size < w2.heap.size := by omega
  have y1 : w.heap.size + 1 < w2.heap.size := by omega
  have y2 : w.heap.size + 1 + 1 < w2.heap.size := by omega
  go_wp2_with fail
  refine (F47.out _ hbw).mono ?_; rintro e w3 ⟨bb, cb, rfl, SB, _, bbl, hb3⟩
  have hzz : w.heap.size ≤ w2.heap.size := by omega
  clear k0 k1 k2 k3 k4 k5 k6 k7 p0 p1 f0 f1 f2 f3 f4 f5 hz y0 y1 y2
  have SA := SA.keep hb3 bal
  have bal : ba < w3.heap.size := Nat.lt_of_lt_of_le bal hb3.size
  have hbw : Below w.heap.size w w3 := hbw.trans (hb3.mono hzz)
  have hzz : w.heap.size ≤ w3.heap.size := Nat.le_trans hzz hb3.size
  clear hb3
  go_wp2_with fail
  refine (S_any _).mono ?_; rintro e w4 ⟨rfl, hb4⟩
  have SA := SA.keep hb4 bal
  have bal : ba < w4.heap.size := Nat.lt_of_lt_of_le bal hb4.size
  have SB := SB.keep hb4 bbl
  have bbl : bb < w4.heap.size := Nat.lt_of_lt_of_le bbl hb4.size
  have hbw : Below w.heap.size w w4 := hbw.trans (hb4.mono hzz)
  have hzz : w.heap.size ≤ w4.heap.size := Nat.le_trans hzz hb4.size
  clear hb4
  go_wp2_with fail
  refine (point_any _ _).mono ?_; rintro e w5 ⟨rfl, hb5⟩
  have SA := SA.keep hb5 bal
  have bal : ba < w5.heap.size := Nat.lt_of_lt_of_le bal hb5.size
  have SB := SB.keep hb5 bbl
  have bbl : bb < w5.heap.size := Nat.lt_of_lt_of_le bbl hb5.size
  have hbw : Below w.heap.size w w5 := hbw.trans (hb5.mono hzz)
  have hzz : w.heap.size ≤ w5.heap.size := Nat.le_trans hzz hb5.size
  clear hb5
  go_wp2_with fail
  refine (Hill_any _).mono ?_; rintro e w6 ⟨bh, rfl, H1, hb6⟩
  have SA := SA.keep hb6 bal
  have bal : ba < w6.heap.size := Nat.lt_of_lt_of_le bal hb6.size
  have SB := SB.keep hb6 bbl
  have bbl : bb < w6.heap.size := Nat.lt_of_lt_of_le bbl hb6.size
  have hbw : Below w.heap.size w w6 := hbw.trans (hb6.mono hzz)
  have hzz : w.heap.size ≤ w6.heap.size := Nat.le_trans hzz hb6.size
  clear hb6
  go_wp2_with fail
  refine (Blocked_S0 bh _ H1).mono ?_; rintro e w7 ⟨bl, cl, rfl, SL, _, bll, hb7⟩
  have SA := SA.keep hb7 bal
  have bal : ba < w7.heap.size := Nat.lt_of_lt_of_le bal hb7.size
  have SB := SB.keep hb7 bbl
  have bbl : bb < w7.heap.size := Nat.lt_of_lt_of_le bbl hb7.size
  have hbw : Below w.heap.size w w7 := hbw.trans (hb7.mono hzz)
  have hzz : w.heap.size ≤ w7.heap.size := Nat.le_trans hzz hb7.size
  clear hb7
  clear H1
  go_wp2_with fail
  refine (spans_same g ba bb 0 0 ca cb (fun j => (L j, H j)) _ (by omega) SA SB bal bbl).mono ?_; rintro e w8 ⟨rfl, hb8⟩
  clear SA bal
  clear SB bbl
  have SL := SL.keep hb8 bll
  have bll : bl < w8.heap.size := Nat.lt_of_lt_of_le bll hb8.size
  have hbw : Below w.heap.size w w8 := hbw.trans (hb8.mono hzz)
  have hzz : w.heap.size ≤ w8.heap.size := Nat.le_trans hzz hb8.size
  clear hb8
  go_wp2_with fail
  refine (point_any _ _).mono ?_; rintro e w9 ⟨rfl, hb9⟩
  have SL := SL.keep hb9 bll
  have bll : bl < w9.heap.size := Nat.lt_of_lt_of_le bll hb9.size
  have hbw : Below w.heap.size w w9 := hbw.trans (hb9.mono hzz)
  have hzz : w.heap.size ≤ w9.heap.size := Nat.le_trans hzz hb9.size
  clear hb9
  go_wp2_with fail
  refine (point_any _ _).mono ?_; rintro e w10 ⟨rfl, hb10⟩
  have SL := SL.keep hb10 bll
  have bll : bl < w10.heap.size := Nat.lt_of_lt_of_le bll hb10.size
  have hbw : Below w.heap.size w w10 := hbw.trans (hb10.mono hzz)
  have hzz : w.heap.size ≤ w10.heap.size := Nat.le_trans hzz hb10.size
  clear hb10
  go_wp2_with fail
  refine (point_any _ _).mono ?_; rintro e w11 ⟨rfl, hb11⟩
  have SL := SL.keep hb11 bll
  have bll : bl < w11.heap.size := Nat.lt_of_lt_of_le bll hb11.size
  have hbw : Below w.heap.size w w11 := hbw.trans (hb11.mono hzz)
  have hzz : w.heap.size ≤ w11.heap.size := Nat.le_trans hzz hb11.size
  clear hb11
  go_wp2_with fail
  refine (point_any _ _).mono ?_; rintro e w12 ⟨rfl, hb12⟩
  have SL := SL.keep hb12 bll
  have bll : bl < w12.heap.size := Nat.lt_of_lt_of_le bll hb12.size
  have hbw : Below w.heap.size w w12 := hbw.trans (hb12.mono hzz)
  have hzz : w.heap.size ≤ w12.heap.size := Nat.le_trans hzz hb12.size
  clear hb12
  go_wp2_with fail
  refine (spans_same 4 bl w12.heap.size 0 0 cl 4 (fun _ => (3, 3)) _ (by decide) (SpansAt.keep SL (below_alloc _ _) bll) (threes_new _ _) (by simp; omega) (by simp)).mono ?_; rintro e w13 ⟨rfl, hb13⟩
  have hbw := hbw.trans ((Below.trans (below_alloc _ _) (hb13.mono (by simp))).mono hzz)
  have hzz : w.heap.size ≤ w13.heap.size := hbw.size
  clear SL bll hb13
  go_wp2_with fail
  refine (works_any _).mono ?_; rintro e w99 ⟨rfl, hb99⟩
  go_wp2
  go_ret
  exact ⟨rfl, hbw.trans (hb99.mono (by omega))⟩

end Go.Proofs.Ythnjfnapjpdchaa
