/-
  BeamBlocks returns true for every site, tilt, earth, ground and ray: what is in the way is what the reference says. No conditions.
-/
import Derived.Test.YthnjfnapjpdchaaRows
import Derived.WalkKit
import Derived.ProofKit
import Derived.OpenShut
import Derived.ShutString
import Derived.ChangeOld
import Derived.Below
import Derived.Test.Ythnjfnapjpdchaamg15
import Derived.Test.Ythnjfnapjpdchaamg16
namespace Go.Proofs.Ythnjfnapjpdchaa.beamBlocks
open Go.ChangeShapes Go.WideShapes Go.ChangeAt Go.RowKit
open Go.ChangeMaps (open_string shut_string)
set_option linter.unusedVariables false

theorem BeamBlocks_w (nm : ByteArray) (x y z rose gates step width : Int) (t lo hi : Int) (gx gy size wide high : Int) (a : Option Addr) (len cap : Nat) (zs : Nat → Int × Int) (ray : Int) (w : World) (w0 : nm.size ≤ maxLen ∧ (Lit.int .i64 x).wf = true ∧ (Lit.int .i64 y).wf = true ∧ (Lit.int .i64 z).wf = true ∧ (Lit.int .i64 rose).wf = true ∧ (Lit.int .i64 gates).wf = true ∧ (Lit.int .i64 step).wf = true ∧ (Lit.int .i64 width).wf = true) (w1 : (Lit.int .i64 t).wf = true) (w2 : (Lit.int .i64 lo).wf = true ∧ (Lit.int .i64 hi).wf = true) (w3 : len ≤ maxLen ∧ SliceIs w a len cap zs) (w4 : (Lit.int .i64 ray).wf = true) :
    Calls Try.prog 8 #[.agg #[.string nm, .int .i64 x, .int .i64 y, .int .i64 z, .int .i64 rose, .int .i64 gates, .int .i64 step, .int .i64 width], .int .i64 t, .agg #[.int .i64 lo, .int .i64 hi], .agg #[.int .i64 gx, .int .i64 gy, .int .i64 size, .int .i64 wide, .int .i64 high, .slice a len cap], .int .i64 ray] w fun e w' => e = .returned (.bool true) ∧ Below w.heap.size w w' := by
  have hs := w0.1
  rcases (Bool.eq_false_or_eq_true (fewB nm.size rose gates wide high)).symm with hf | hf
  · exact BeamBlocks_few nm x y z rose gates step width lo hi gx gy size wide high a len cap t ray w hs w3.1 hf
  by_cases h3 : len ≤ 300
  · rcases blocked_cases nm x y z rose gates step width lo hi gx gy size wide high a len cap zs t ray w hs (by omega) w3.2 with ⟨c, _, f46, f47⟩ | h
    · exact BeamBlocks_err nm x y z rose gates step width lo hi gx gy size wide high a len cap t ray w hs w3.1 hf h3 c f46 f47
    · have hk := (siteC_zero.1 h.h0).2
      obtain ⟨g, rfl⟩ := Int.eq_ofNat_of_zero_le (show 0 ≤ gates by have := hk.g1; omega)
      obtain ⟨T, hT⟩ := Int.eq_ofNat_of_zero_le (show 0 ≤ 2 * width + 1 by have := hk.d1; omega)
      exact BeamBlocks_ok nm x y z rose g step width lo hi gx gy size wide high a len cap t ray w hs w3.1 hf h3 _ _ hk.g2
        (fun wx hb => (blocked_good nm x y z rose g step width lo hi gx gy size wide high a len cap zs t ray T hT.symm wx hs (by omega) (w3.2.keep hb) h).1)
        (fun wx hb => (blocked_good nm x y z rose g step width lo hi gx gy size wide high a len cap zs t ray T hT.symm wx hs (by omega) (w3.2.keep hb) h).2)
  · exact BeamBlocks_long nm x y z rose gates step width lo hi gx gy size wide high a len cap t ray w hs w3.1 hf (by omega)

theorem own : ownKnob Try.prog.godebug = none := by kernel_rfl
theorem laidOut : laidOutB Try.prog = true := by kernel_rfl

set_option maxRecDepth 100000 in
theorem lifted (os : Os) (started : os.Started) (H : Type) (enc : TypeId × Value → H) :
    ReturnsInHanded {} Try.checked os 8 .any (Rows.beamBlocksSpec.pre6 enc Try.prog Try.f8 Rows.beamBlocksRow.domain false) (Rows.beamBlocksSpec.post enc Try.prog Try.f8 false true false false) := by
  refine returnsInHanded_of_change (C := Try.checked) own started (by kernel_rfl) Try.func8
    (ChangeSpec.witness6 (enc := enc) (C := Try.checked) false ⟨#[], #[.agg #[.string ByteArray.empty, .int .i64 0, .int .i64 0, .int .i64 0, .int .i64 0, .int .i64 0, .int .i64 0, .int .i64 0], .int .i64 0, .agg #[.int .i64 0, .int .i64 0], .agg #[.int .i64 0, .int .i64 0, .int .i64 0, .int .i64 0, .int .i64 0, .slice none 0 0], .int .i64 0], []⟩ 8 (by kernel_rfl) (by kernel_rfl) (by kernel_rfl) (by kernel_rfl)) ?_
  intro W base args ds gs before hval0 hW hcnd _
  have hval : ∀ (j : Nat) t v, Try.f8.params[j]? = some t → args[j]? = some v → Value.okWide Try.prog W .any base t v := hval0
  have hW' := hW
  obtain ⟨p, q, hA0, hV, rfl, hfz, hnd⟩ := hW
  have hA : DataW.TrodAll enc Try.prog W 0 (fun _ => true) true Try.f8.params.toList args.toList ds p := hA0
  rw [Try.params8] at hA hval
  obtain ⟨v0, vs0, d0, ds0, p0, q0, hargs, rfl, rfl, h0, r0⟩ := trodAll_cons hA
  obtain ⟨v1, vs1, d1, ds1, p1, q1, rfl, rfl, rfl, h1, r1⟩ := trodAll_cons r0
  obtain ⟨v2, vs2, d2, ds2, p2, q2, rfl, rfl, rfl, h2, r2⟩ := trodAll_cons r1
  obtain ⟨v3, vs3, d3, ds3, p3, q3, rfl, rfl, rfl, h3, r3⟩ := trodAll_cons r2
  obtain ⟨v4, vs4, d4, ds4, p4, q4, rfl, rfl, rfl, h4, r4⟩ := trodAll_cons r3
  obtain ⟨rfl, rfl, rfl⟩ := trodAll_nil r4
  obtain rfl : args = #[v0, v1, v2, v3, v4] := by cases args; simp_all
  obtain ⟨rfl, rfl⟩ := trodVars_none hV
  have k0 := h0
  have lt0 : ∀ x ∈ p0, x.block < W.heap.size := by obtain ⟨m, hm⟩ := k0; exact DataW.trod_lt m _ _ _ hm
  have k1 := h1
  have lt1 : ∀ x ∈ p1, x.block < W.heap.size := by obtain ⟨m, hm⟩ := k1; exact DataW.trod_lt m _ _ _ hm
  have k2 := h2
  have lt2 : ∀ x ∈ p2, x.block < W.heap.size := by obtain ⟨m, hm⟩ := k2; exact DataW.trod_lt m _ _ _ hm
  have k3 := h3
  have lt3 : ∀ x ∈ p3, x.block < W.heap.size := by obtain ⟨m, hm⟩ := k3; exact DataW.trod_lt m _ _ _ hm
  have k4 := h4
  have lt4 : ∀ x ∈ p4, x.block < W.heap.size := by obtain ⟨m, hm⟩ := k4; exact DataW.trod_lt m _ _ _ hm
  obtain ⟨nm0, s01, s02, s03, s04, s05, s06, s07, rfl, w0⟩ := site_open (hval 0 23 v0 rfl rfl) h0
  obtain ⟨a1, rfl, rfl, rfl, w1⟩ := open_int Try.underlying3 (hval 1 3 v1 rfl rfl) h1
  obtain ⟨lo2, hi2, rfl, w2⟩ := span_open (hval 2 43 v2 rfl rfl) h2
  obtain ⟨g31, g32, g33, g34, g35, va3, len3, cap3, zs3, rfl, w3⟩ := field_open (hval 3 28 v3 rfl rfl) h3
  obtain ⟨a4, rfl, rfl, rfl, w4⟩ := open_int Try.underlying3 (hval 4 3 v4 rfl rfl) h4
  clear hA0 hval0
  refine (BeamBlocks_w nm0 s01 s02 s03 s04 s05 s06 s07 a1 lo2 hi2 g31 g32 g33 g34 g35 va3 len3 cap3 zs3 a4 W w0 w1 w2 w3 w4).mono fun e W' ⟨he, bel⟩ => ?_
  subst he
  exact ⟨_, rfl, _, _, _, [], _, [], hW', trodAll_mk1 (shut_bool Try.underlying4 _), (trodAll_cons_mk (Below.trod laidOut (by kernel_rfl) (of_decide_eq_true (by kernel_rfl)) k0 bel lt0) (trodAll_cons_mk (Below.trod laidOut (by kernel_rfl) (of_decide_eq_true (by kernel_rfl)) k1 bel lt1) (trodAll_cons_mk (Below.trod laidOut (by kernel_rfl) (of_decide_eq_true (by kernel_rfl)) k2 bel lt2) (trodAll_cons_mk (Below.trod laidOut (by kernel_rfl) (of_decide_eq_true (by kernel_rfl)) k3 bel lt3) (trodAll_cons_mk (Below.trod laidOut (by kernel_rfl) (of_decide_eq_true (by kernel_rfl)) k4 bel lt4) trodAll_mk0))))), rfl, bel.frame _, fun h => by cases h⟩

theorem over : Rows.beamBlocksRow.holds Try.pinned (OpenSpec.ofChange Rows.beamBlocksSpec) :=
  OpenClaim.holds_of_wide 8 Try.f8 rfl rfl rfl rfl rfl rfl rfl ⟨rfl, rfl, rfl, rfl, rfl⟩ rfl rfl rfl rfl rfl (by kernel_rfl) Try.func8 (by kernel_rfl)
    (of_decide_eq_true (by kernel_rfl)) (by unfold Func.isWrapper; first | (rw [if_pos (by decide +kernel)]; kernel_rfl) | (rw [if_neg (by decide +kernel)]; exact ⟨rfl, rfl⟩))
    (fun os started H enc _ => lifted os started H enc)

/-- the statement -/
theorem proved : Rows.BeamBlocksSaid := over
#print axioms proved
end Go.Proofs.Ythnjfnapjpdchaa.beamBlocks
