/-
  BeamSectors returns true for every site, tilt and place: a place near a radar lies in the sector of exactly one ray and between the borders of at most one gate, those that Find returns, and a quarter turn is a quarter of the rays further. No conditions.
-/
import Derived.Test.YthnjfnapjpdchaaRows
import Derived.WalkKit
import Derived.ProofKit
import Derived.OpenShut
import Derived.ShutString
import Derived.ChangeOld
import Derived.Below
import Derived.Test.YthnjfnapjpdchaaW9
import Derived.Test.YthnjfnapjpdchaaU0
namespace Go.Proofs.Ythnjfnapjpdchaa.beamSectors
open Go.ChangeShapes Go.WideShapes Go.ChangeAt Go.RowKit
open Go.ChangeMaps (open_string shut_string)
set_option linter.unusedVariables false

theorem tmod_bd (a : Int) : -1000000 ≤ a.tmod 1000000 ∧ a.tmod 1000000 ≤ 1000000 := by
  by_cases h : 0 ≤ a
  · rw [Int.tmod_eq_emod_of_nonneg h]; omega
  · have := tmod_neg_bd (a := a) (b := 1000000) (by omega) (by omega)
    omega

theorem BeamSectors_good (nm : ByteArray) (x y z rose gates step width : Int) (t xx yy : Int) (w : World) (hs : nm.size ≤ maxLen) (i1 : -2147483648 ≤ xx) (i2 : xx ≤ 2147483647) (i3 : -2147483648 ≤ yy) (i4 : yy ≤ 2147483647)
    (hf : fewB nm.size rose gates 0 0 = true) (h0 : siteC nm x y z rose gates step width = 0) (ht0 : 0 ≤ t) (ht : t ≤ 256) :
    Calls Try.prog 10 #[.agg #[.string nm, .int .i64 x, .int .i64 y, .int .i64 z, .int .i64 rose, .int .i64 gates, .int .i64 step, .int .i64 width], .int .i64 t, .int .i32 xx, .int .i32 yy] w fun e w' => e = .returned (.bool true) ∧ Below w.heap.size w w' := by
  have hk := (siteC_zero.1 h0).2
  obtain ⟨n, rfl⟩ := Int.eq_ofNat_of_zero_le (show 0 ≤ rose by have := hk.r1; omega)
  obtain ⟨g, rfl⟩ := Int.eq_ofNat_of_zero_le (show 0 ≤ gates by have := hk.g1; omega)
  have hn : 1 ≤ n := by have := hk.r1; omega
  have hg : 1 ≤ g := by have := hk.g1; omega
  have hg2 : g ≤ 200 := by have := hk.g2; omega
  obtain ⟨dx, hdx⟩ : ∃ d, xx.tmod 1000000 = d := ⟨_, rfl⟩
  obtain ⟨dy, hdy⟩ : ∃ d, yy.tmod 1000000 = d := ⟨_, rfl⟩
  have bx := tmod_bd xx
  have bY := tmod_bd yy
  rw [hdx] at bx
  rw [hdy] at bY
  have hx1 := hk.x1
  have hx2 := hk.x2
  have hy1 := hk.y1
  have hy2 := hk.y2
  have c0 : inB t 0 256 = true := inB_true.2 ⟨ht0, ht⟩
  have c1 : inB (x + dx) (-4194304) 4194304 = true := inB_true.2 ⟨by omega, by omega⟩
  have c2 : inB (y + dy) (-4194304) 4194304 = true := inB_true.2 ⟨by omega, by omega⟩
  have c3 : inB (x + dy) (-4194304) 4194304 = true := inB_true.2 ⟨by omega, by omega⟩
  have c4 : inB (y - dx) (-4194304) 4194304 = true := inB_true.2 ⟨by omega, by omega⟩
  obtain ⟨r, hr⟩ := srch_exists (g + 1) (inside (dx * dx + dy * dy) (bordI step t)) (inside_mono (bord_mono (step := step) (t := t) ht0 ht hk.s1 hk.s2 (by omega)))
  by_cases hz : dx = 0 ∧ dy = 0
  · have hr1 : r = 1 := by
      rw [hz.1, hz.2] at hr
      exact srch_zero hg ht0 ht hk.s1 hr
    refine BeamSectors_zero nm x y z n g step width t xx yy dx dy w hs hf h0 hk ht0 ht i1 i2 i3 i4 hdx hdy bx.1 bx.2 bY.1 bY.2 (by simp [hz.1]) (by simp [hz.2]) fun w => ?_
    have h := Find_in nm x y z n g step width t (x + dx) (y + dy) dx dy (by omega) (by omega) r hr w hs h0 hk c0 c1 c2 (by omega) hn 0 (.inl ⟨hz.1, hz.2, rfl⟩)
    rw [hr1] at h
    exact h
  · have hnz : (dx == 0 && dy == 0) = false := by
      rw [Bool.and_eq_false_iff]
      by_cases hd : dx = 0
      · right; rw [beq_eq_false_iff_ne]; exact fun h => hz ⟨hd, h⟩
      · left; rw [beq_eq_false_iff_ne]; exact hd
    obtain ⟨pr, hpr⟩ := ray_exists (n := n) dx dy
    obtain ⟨pr2, hpr2⟩ := ray_exists (n := n) dy (-dx)
    have hturn := ray_turn hn hz hpr hpr2
    rw [hturn] at hpr2
    obtain ⟨⟨hp0, hp1⟩, hsec⟩ := sec_unique hn hz hpr
    have hr1 : 1 ≤ r := srch_one (by have := M.sq_nonneg dx; have := M.sq_nonneg dy; omega) hr
    have hr2 : SrchIs (g + 1) (inside (dy * dy + -dx * -dx) (bordI step t)) r := by
      have e : dy * dy + -dx * -dx = dx * dx + dy * dy := by rw [Int.neg_mul_neg]; omega
      rw [e]; exact hr
    have hrN := hr.1
    by_cases hin : r ≤ g
    · exact BeamSectors_in nm x y z n g step width t xx yy dx dy w hs hf h0 hk ht0 ht i1 i2 i3 i4 hdx hdy bx.1 bx.2 bY.1 bY.2 hnz r pr hr1 hin hp0 hp1 hsec (fun j hj => gate_test hr hj)
        (fun w => Find_in nm x y z n g step width t (x + dx) (y + dy) dx dy (by omega) (by omega) r hr w hs h0 hk c0 c1 c2 hin hn pr hpr)
        (fun w => Find_in nm x y z n g step width t (x + dy) (y - dx) dy (-dx) (by omega) (by omega) r hr2 w hs h0 hk c0 c3 c4 hin hn _ hpr2)
    · exact BeamSectors_out nm x y z n g step width t xx yy dx dy w hs hf h0 hk ht0 ht i1 i2 i3 i4 hdx hdy bx.1 bx.2 bY.1 bY.2 hnz r pr hr1 (by omega) hp0 hp1 hsec (fun j hj => gate_test hr hj)
        (fun w => Find_out nm x y z n g step width t (x + dx) (y + dy) dx dy (by omega) (by omega) r hr w hs h0 hk c0 c1 c2 (by omega))
        (fun w => Find_out nm x y z n g step width t (x + dy) (y - dx) dy (-dx) (by omega) (by omega) r hr2 w hs h0 hk c0 c3 c4 (by omega))

theorem BeamSectors_w (nm : ByteArray) (x y z rose gates step width : Int) (t xx yy : Int) (w : World) (w0 : nm.size ≤ maxLen ∧ (Lit.int .i64 x).wf = true ∧ (Lit.int .i64 y).wf = true ∧ (Lit.int .i64 z).wf = true ∧ (Lit.int .i64 rose).wf = true ∧ (Lit.int .i64 gates).wf = true ∧ (Lit.int .i64 step).wf = true ∧ (Lit.int .i64 width).wf = true) (w1 : (Lit.int .i64 t).wf = true) (w2 : (Lit.int .i32 xx).wf = true) (w3 : (Lit.int .i32 yy).wf = true) :
    Calls Try.prog 10 #[.agg #[.string nm, .int .i64 x, .int .i64 y, .int .i64 z, .int .i64 rose, .int .i64 gates, .int .i64 step, .int .i64 width], .int .i64 t, .int .i32 xx, .int .i32 yy] w fun e w' => e = .returned (.bool true) ∧ Below w.heap.size w w' := by
  have hs := w0.1
  have b2 := bounds_i32 w2
  have b3 := bounds_i32 w3
  rcases (Bool.eq_false_or_eq_true (fewB nm.size rose gates 0 0)).symm with hf | hf
  · exact BeamSectors_few nm x y z rose gates step width t xx yy w hs hf
  · by_cases h0 : siteC nm x y z rose gates step width = 0
    · by_cases ht0 : 0 ≤ t
      · by_cases ht : t ≤ 256
        · exact BeamSectors_good nm x y z rose gates step width t xx yy w hs b2.1 b2.2 b3.1 b3.2 hf h0 ht0 ht
        · exact BeamSectors_high nm x y z rose gates step width t xx yy w hs hf h0 ht0 (by omega)
      · exact BeamSectors_low nm x y z rose gates step width t xx yy w hs hf h0 (by omega)
    · exact BeamSectors_site nm x y z rose gates step width t xx yy w hs hf (bne_iff_ne.2 h0)

theorem own : ownKnob Try.prog.godebug = none := by kernel_rfl
theorem laidOut : laidOutB Try.prog = true := by kernel_rfl

set_option maxRecDepth 100000 in
theorem lifted (os : Os) (started : os.Started) (H : Type) (enc : TypeId × Value → H) :
    ReturnsInHanded {} Try.checked os 10 .any (Rows.beamSectorsSpec.pre6 enc Try.prog Try.f10 Rows.beamSectorsRow.domain false) (Rows.beamSectorsSpec.post enc Try.prog Try.f10 false true false false) := by
  refine returnsInHanded_of_change (C := Try.checked) own started (by kernel_rfl) Try.func10
    (ChangeSpec.witness6 (enc := enc) (C := Try.checked) false ⟨#[], #[.agg #[.string ByteArray.empty, .int .i64 0, .int .i64 0, .int .i64 0, .int .i64 0, .int .i64 0, .int .i64 0, .int .i64 0], .int .i64 0, .int .i32 0, .int .i32 0], []⟩ 8 (by kernel_rfl) (by kernel_rfl) (by kernel_rfl) (by kernel_rfl)) ?_
  intro W base args ds gs before hval0 hW hcnd _
  have hval : ∀ (j : Nat) t v, Try.f10.params[j]? = some t → args[j]? = some v → Value.okWide Try.prog W .any base t v := hval0
  have hW' := hW
  obtain ⟨p, q, hA0, hV, rfl, hfz, hnd⟩ := hW
  have hA : DataW.TrodAll enc Try.prog W 0 (fun _ => true) true Try.f10.params.toList args.toList ds p := hA0
  rw [Try.params10] at hA hval
  obtain ⟨v0, vs0, d0, ds0, p0, q0, hargs, rfl, rfl, h0, r0⟩ := trodAll_cons hA
  obtain ⟨v1, vs1, d1, ds1, p1, q1, rfl, rfl, rfl, h1, r1⟩ := trodAll_cons r0
  obtain ⟨v2, vs2, d2, ds2, p2, q2, rfl, rfl, rfl, h2, r2⟩ := trodAll_cons r1
  obtain ⟨v3, vs3, d3, ds3, p3, q3, rfl, rfl, rfl, h3, r3⟩ := trodAll_cons r2
  obtain ⟨rfl, rfl, rfl⟩ := trodAll_nil r3
  obtain rfl : args = #[v0, v1, v2, v3] := by cases args; simp_all
  obtain ⟨rfl, rfl⟩ := trodVars_none hV
  have k0 := h0
  have lt0 : ∀ x ∈ p0, x.block < W.heap.size := by obtain ⟨m, hm⟩ := k0; exact DataW.trod_lt m _ _ _ hm
  have k1 := h1
  have lt1 : ∀ x ∈ p1, x.block < W.heap.size := by obtain ⟨m, hm⟩ := k1; exact DataW.trod_lt m _ _ _ hm
  have k2 := h2
  have lt2 : ∀ x ∈ p2, x.block < W.heap.size := by obtain ⟨m, hm⟩ := k2; exact DataW.trod_lt m _ _ _ hm
  have k3 := h3
  have lt3 : ∀ x ∈ p3, x.block < W.heap.size := by obtain ⟨m, hm⟩ := k3; exact DataW.trod_lt m _ _ _ hm
  obtain ⟨nm0, s01, s02, s03, s04, s05, s06, s07, rfl, w0⟩ := site_open (hval 0 23 v0 rfl rfl) h0
  obtain ⟨a1, rfl, rfl, rfl, w1⟩ := open_int Try.underlying3 (hval 1 3 v1 rfl rfl) h1
  obtain ⟨a2, rfl, rfl, rfl, w2⟩ := open_int Try.underlying21 (hval 2 21 v2 rfl rfl) h2
  obtain ⟨a3, rfl, rfl, rfl, w3⟩ := open_int Try.underlying21 (hval 3 21 v3 rfl rfl) h3
  clear hA0 hval0
  refine (BeamSectors_w nm0 s01 s02 s03 s04 s05 s06 s07 a1 a2 a3 W w0 w1 w2 w3).mono fun e W' ⟨he, bel⟩ => ?_
  subst he
  exact ⟨_, rfl, _, _, _, [], _, [], hW', trodAll_mk1 (shut_bool Try.underlying4 _), (trodAll_cons_mk (Below.trod laidOut (by kernel_rfl) (of_decide_eq_true (by kernel_rfl)) k0 bel lt0) (trodAll_cons_mk (Below.trod laidOut (by kernel_rfl) (of_decide_eq_true (by kernel_rfl)) k1 bel lt1) (trodAll_cons_mk (Below.trod laidOut (by kernel_rfl) (of_decide_eq_true (by kernel_rfl)) k2 bel lt2) (trodAll_cons_mk (Below.trod laidOut (by kernel_rfl) (of_decide_eq_true (by kernel_rfl)) k3 bel lt3) trodAll_mk0)))), rfl, bel.frame _, fun h => by cases h⟩

theorem over : Rows.beamSectorsRow.holds Try.pinned (OpenSpec.ofChange Rows.beamSectorsSpec) :=
  OpenClaim.holds_of_wide 10 Try.f10 rfl rfl rfl rfl rfl rfl rfl ⟨rfl, rfl, rfl, rfl, rfl⟩ rfl rfl rfl rfl rfl (by kernel_rfl) Try.func10 (by kernel_rfl)
    (of_decide_eq_true (by kernel_rfl)) (by unfold Func.isWrapper; first | (rw [if_pos (by decide +kernel)]; kernel_rfl) | (rw [if_neg (by decide +kernel)]; exact ⟨rfl, rfl⟩))
    (fun os started H enc _ => lifted os started H enc)

/-- the statement -/
theorem proved : Rows.BeamSectorsSaid := over
#print axioms proved
end Go.Proofs.Ythnjfnapjpdchaa.beamSectors
