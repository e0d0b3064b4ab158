/-
  BeamViews returns true for every site, tilt and grid: what a grid sees of a site is what the reference says. No conditions.
-/
import Derived.Test.YthnjfnapjpdchaaRows
import Derived.WalkKit
import Derived.ProofKit
import Derived.OpenShut
import Derived.ShutString
import Derived.ChangeOld
import Derived.Below
import Derived.Test.YthnjfnapjpdchaaZ4
import Derived.Test.YthnjfnapjpdchaaU0
namespace Go.Proofs.Ythnjfnapjpdchaa.beamViews
open Go.ChangeShapes Go.WideShapes Go.ChangeAt Go.RowKit
open Go.ChangeMaps (open_string shut_string)
set_option linter.unusedVariables false

theorem BeamViews_w (nm : ByteArray) (x y z rose gates step width t gx gy size wide high : Int) (w : World) (w0 : nm.size ≤ maxLen ∧ (Lit.int .i64 x).wf = true ∧ (Lit.int .i64 y).wf = true ∧ (Lit.int .i64 z).wf = true ∧ (Lit.int .i64 rose).wf = true ∧ (Lit.int .i64 gates).wf = true ∧ (Lit.int .i64 step).wf = true ∧ (Lit.int .i64 width).wf = true) (w1 : (Lit.int .i64 t).wf = true) (w2 : (Lit.int .i64 gx).wf = true ∧ (Lit.int .i64 gy).wf = true ∧ (Lit.int .i64 size).wf = true ∧ (Lit.int .i64 wide).wf = true ∧ (Lit.int .i64 high).wf = true) :
    Calls Try.prog 7 #[.agg #[.string nm, .int .i64 x, .int .i64 y, .int .i64 z, .int .i64 rose, .int .i64 gates, .int .i64 step, .int .i64 width], .int .i64 t, .agg #[.int .i64 gx, .int .i64 gy, .int .i64 size, .int .i64 wide, .int .i64 high]] w fun e w' => e = .returned (.bool true) ∧ Below w.heap.size w w' := by
  have hs := w0.1
  rcases (Bool.eq_false_or_eq_true (fewB nm.size rose gates wide high)).symm with hf | hf
  · exact BeamViews_few nm x y z rose gates step width gx gy size wide high t w hs hf
  by_cases h0 : siteC nm x y z rose gates step width = 0
  · by_cases hg : gridC gx gy size wide high = 0
    · rcases (Bool.eq_false_or_eq_true (inB t 0 256)).symm with c0 | c0
      · exact BeamViews_err nm x y z rose gates step width gx gy size wide high t w hs hf 3 (fun w => View_tilt nm x y z rose gates step width gx gy size wide high t w hs h0 hg c0) (fun w => refView_tilt nm x y z rose gates step width gx gy size wide high t w hs h0 hg c0)
      · have hk := (siteC_zero.1 h0).2
        obtain ⟨n, rfl⟩ := Int.eq_ofNat_of_zero_le (show 0 ≤ rose by have := hk.r1; omega)
        obtain ⟨g, rfl⟩ := Int.eq_ofNat_of_zero_le (show 0 ≤ gates by have := hk.g1; omega)
        obtain ⟨ht0, ht⟩ := inB_true.1 c0
        obtain ⟨_, _, _, ⟨v1, v2⟩, v3, v4⟩ := gridB_bd (gridC_zero.1 hg)
        have v6 := M.mul_bd (a := wide) (b := high) (A := 64) (B := 64) (by omega) v2 (by omega) v4
        obtain ⟨N, hN⟩ := Int.eq_ofNat_of_zero_le v6.1
        have hex : ∀ k : Nat, ∃ v : Int, ViewIs n g step t (midX gx size wide k - x) (midY gy size wide k - y) v := fun k => view_exists ht0 ht hk.s1 hk.s2 (by have := hk.g2; omega) _ _
        exact BeamViews_ok nm x y z n g step width gx gy size wide high t w hs hf N (fun k => Classical.choose (hex k)) (by omega)
          (fun w => View_ok nm x y z n g step width gx gy size wide high t N hN _ (fun k _ => Classical.choose_spec (hex k)) w hs h0 hk hg c0)
          (fun w => refView_ok nm x y z n g step width gx gy size wide high t N hN _ (fun k _ => Classical.choose_spec (hex k)) w hs h0 hk hg c0)
    · exact BeamViews_err nm x y z rose gates step width gx gy size wide high t w hs hf _ (fun w => View_grid nm x y z rose gates step width gx gy size wide high t w hs h0 (bne_iff_ne.2 hg)) (fun w => refView_grid nm x y z rose gates step width gx gy size wide high t w hs h0 (bne_iff_ne.2 hg))
  · exact BeamViews_err nm x y z rose gates step width gx gy size wide high t w hs hf _ (fun w => View_site nm x y z rose gates step width gx gy size wide high t w hs (bne_iff_ne.2 h0)) (fun w => refView_site nm x y z rose gates step width gx gy size wide high t w hs (bne_iff_ne.2 h0))

theorem own : ownKnob Try.prog.godebug = none := by kernel_rfl
theorem laidOut : laidOutB Try.prog = true := by kernel_rfl

set_option maxRecDepth 100000 in
theorem lifted (os : Os) (started : os.Started) (H : Type) (enc : TypeId × Value → H) :
    ReturnsInHanded {} Try.checked os 7 .any (Rows.beamViewsSpec.pre6 enc Try.prog Try.f7 Rows.beamViewsRow.domain false) (Rows.beamViewsSpec.post enc Try.prog Try.f7 false true false false) := by
  refine returnsInHanded_of_change (C := Try.checked) own started (by kernel_rfl) Try.func7
    (ChangeSpec.witness6 (enc := enc) (C := Try.checked) false ⟨#[], #[.agg #[.string ByteArray.empty, .int .i64 0, .int .i64 0, .int .i64 0, .int .i64 0, .int .i64 0, .int .i64 0, .int .i64 0], .int .i64 0, .agg #[.int .i64 0, .int .i64 0, .int .i64 0, .int .i64 0, .int .i64 0]], []⟩ 8 (by kernel_rfl) (by kernel_rfl) (by kernel_rfl) (by kernel_rfl)) ?_
  intro W base args ds gs before hval0 hW hcnd _
  have hval : ∀ (j : Nat) t v, Try.f7.params[j]? = some t → args[j]? = some v → Value.okWide Try.prog W .any base t v := hval0
  have hW' := hW
  obtain ⟨p, q, hA0, hV, rfl, hfz, hnd⟩ := hW
  have hA : DataW.TrodAll enc Try.prog W 0 (fun _ => true) true Try.f7.params.toList args.toList ds p := hA0
  rw [Try.params7] at hA hval
  obtain ⟨v0, vs0, d0, ds0, p0, q0, hargs, rfl, rfl, h0, r0⟩ := trodAll_cons hA
  obtain ⟨v1, vs1, d1, ds1, p1, q1, rfl, rfl, rfl, h1, r1⟩ := trodAll_cons r0
  obtain ⟨v2, vs2, d2, ds2, p2, q2, rfl, rfl, rfl, h2, r2⟩ := trodAll_cons r1
  obtain ⟨rfl, rfl, rfl⟩ := trodAll_nil r2
  obtain rfl : args = #[v0, v1, v2] := by cases args; simp_all
  obtain ⟨rfl, rfl⟩ := trodVars_none hV
  have k0 := h0
  have lt0 : ∀ x ∈ p0, x.block < W.heap.size := by obtain ⟨m, hm⟩ := k0; exact DataW.trod_lt m _ _ _ hm
  have k1 := h1
  have lt1 : ∀ x ∈ p1, x.block < W.heap.size := by obtain ⟨m, hm⟩ := k1; exact DataW.trod_lt m _ _ _ hm
  have k2 := h2
  have lt2 : ∀ x ∈ p2, x.block < W.heap.size := by obtain ⟨m, hm⟩ := k2; exact DataW.trod_lt m _ _ _ hm
  obtain ⟨nm0, s01, s02, s03, s04, s05, s06, s07, rfl, w0⟩ := site_open (hval 0 23 v0 rfl rfl) h0
  obtain ⟨a1, rfl, rfl, rfl, w1⟩ := open_int Try.underlying3 (hval 1 3 v1 rfl rfl) h1
  obtain ⟨g21, g22, g23, g24, g25, rfl, w2⟩ := grid_open (hval 2 25 v2 rfl rfl) h2
  clear hA0 hval0
  refine (BeamViews_w nm0 s01 s02 s03 s04 s05 s06 s07 a1 g21 g22 g23 g24 g25 W w0 w1 w2).mono fun e W' ⟨he, bel⟩ => ?_
  subst he
  exact ⟨_, rfl, _, _, _, [], _, [], hW', trodAll_mk1 (shut_bool Try.underlying4 _), (trodAll_cons_mk (Below.trod laidOut (by kernel_rfl) (of_decide_eq_true (by kernel_rfl)) k0 bel lt0) (trodAll_cons_mk (Below.trod laidOut (by kernel_rfl) (of_decide_eq_true (by kernel_rfl)) k1 bel lt1) (trodAll_cons_mk (Below.trod laidOut (by kernel_rfl) (of_decide_eq_true (by kernel_rfl)) k2 bel lt2) trodAll_mk0))), rfl, bel.frame _, fun h => by cases h⟩

theorem over : Rows.beamViewsRow.holds Try.pinned (OpenSpec.ofChange Rows.beamViewsSpec) :=
  OpenClaim.holds_of_wide 7 Try.f7 rfl rfl rfl rfl rfl rfl rfl ⟨rfl, rfl, rfl, rfl, rfl⟩ rfl rfl rfl rfl rfl (by kernel_rfl) Try.func7 (by kernel_rfl)
    (of_decide_eq_true (by kernel_rfl)) (by unfold Func.isWrapper; first | (rw [if_pos (by decide +kernel)]; kernel_rfl) | (rw [if_neg (by decide +kernel)]; exact ⟨rfl, rfl⟩))
    (fun os started H enc _ => lifted os started H enc)

/-- the statement -/
theorem proved : Rows.BeamViewsSaid := over
#print axioms proved
end Go.Proofs.Ythnjfnapjpdchaa.beamViews
