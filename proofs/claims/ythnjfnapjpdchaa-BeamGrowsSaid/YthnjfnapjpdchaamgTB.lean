/-
  BeamGrows returns true for every input: blocked threads grow along a ray; with narrower earths and ground the numbers lie within; with higher ground none is less. No conditions.
-/
import Derived.Test.YthnjfnapjpdchaaRows
import Derived.WalkKit
import Derived.ProofKit
import Derived.OpenShut
import Derived.ShutString
import Derived.ChangeOld
import Derived.Below
import Derived.Test.Ythnjfnapjpdchaamg18
import Derived.Test.Ythnjfnapjpdchaamg16
namespace Go.Proofs.Ythnjfnapjpdchaa.beamGrows
open Go.ChangeShapes Go.WideShapes Go.ChangeAt Go.RowKit
open Go.ChangeMaps (open_string shut_string)
set_option linter.unusedVariables false

theorem BeamGrows_w (nm : ByteArray) (x y z rose gates step width : Int) (t lo hi : Int) (gx gy size wide high : Int) (a : Option Addr) (len cap : Nat) (zs : Nat → Int × Int) (ray : Int) (ca : Option Addr) (cl cc : Nat) (cs : Nat → Int) (ua : Option Addr) (ul uc : Nat) (us : Nat → Int) (w : World) (w0 : nm.size ≤ maxLen ∧ (Lit.int .i64 x).wf = true ∧ (Lit.int .i64 y).wf = true ∧ (Lit.int .i64 z).wf = true ∧ (Lit.int .i64 rose).wf = true ∧ (Lit.int .i64 gates).wf = true ∧ (Lit.int .i64 step).wf = true ∧ (Lit.int .i64 width).wf = true) (w1 : (Lit.int .i64 t).wf = true) (w2 : (Lit.int .i64 lo).wf = true ∧ (Lit.int .i64 hi).wf = true) (w3 : len ≤ maxLen ∧ SliceIs w a len cap zs) (w4 : (Lit.int .i64 ray).wf = true) (w5 : cl ≤ maxLen ∧ NumsIs .u32 w ca cl cs ∧ ∀ i, (Lit.int .u32 (cs i)).wf = true) (w6 : ul ≤ maxLen ∧ NumsIs .u8 w ua ul us ∧ ∀ i, (Lit.int .u8 (us i)).wf = true) :
    Calls Try.prog 12 #[.agg #[.string nm, .int .i64 x, .int .i64 y, .int .i64 z, .int .i64 rose, .int .i64 gates, .int .i64 step, .int .i64 width], .int .i64 t, .agg #[.int .i64 lo, .int .i64 hi], .agg #[.int .i64 gx, .int .i64 gy, .int .i64 size, .int .i64 wide, .int .i64 high, .slice a len cap], .int .i64 ray, .slice ca cl cc, .slice ua ul uc] w fun e w' => e = .returned (.bool true) ∧ Below w.heap.size w w' := by
  have hs := w0.1
  rcases (Bool.eq_false_or_eq_true (fewB nm.size rose gates wide high)).symm with hf | hf
  · exact BeamGrows_few nm x y z rose gates step width lo hi gx gy size wide high a len cap t ray ca cl cc ua ul uc w hs w3.1 w5.1 w6.1 hf
  by_cases h3 : len ≤ 300
  · by_cases h4 : cl ≤ 700
    · by_cases h5 : ul ≤ 300
      · rcases blocked_cases nm x y z rose gates step width lo hi gx gy size wide high a len cap zs t ray w hs (by omega) w3.2 with ⟨c, hc, f46, _⟩ | h
        · exact BeamGrows_err nm x y z rose gates step width lo hi gx gy size wide high a len cap t ray ca cl cc ua ul uc w hs w3.1 w5.1 w6.1 hf h3 h4 h5 c hc f46
        · have hk := (siteC_zero.1 h.h0).2
          obtain ⟨g, rfl⟩ := Int.eq_ofNat_of_zero_le (show 0 ≤ gates by have := hk.g1; omega)
          exact BeamGrows_valid nm x y z rose g step width lo hi gx gy size wide high a len cap zs t ray ca cl cc cs ua ul uc us w hs hf h3 h4 h5 w3.2 w5.2.1 (fun i => bounds_u32 (w5.2.2 i)) w6.2.1 (fun i => bounds_u8 (w6.2.2 i)) h
      · exact BeamGrows_ups nm x y z rose gates step width lo hi gx gy size wide high a len cap t ray ca cl cc ua ul uc w hs w3.1 w5.1 w6.1 hf h3 h4 (by omega)
    · exact BeamGrows_cuts nm x y z rose gates step width lo hi gx gy size wide high a len cap t ray ca cl cc ua ul uc w hs w3.1 w5.1 w6.1 hf h3 (by omega)
  · exact BeamGrows_long nm x y z rose gates step width lo hi gx gy size wide high a len cap t ray ca cl cc ua ul uc w hs w3.1 w5.1 w6.1 hf (by omega)

theorem cells64 : Try.prog.cellsOf 64 = 1 := by kernel_rfl
theorem cells5 : Try.prog.cellsOf 5 = 1 := by kernel_rfl
theorem own : ownKnob Try.prog.godebug = none := by kernel_rfl
theorem laidOut : laidOutB Try.prog = true := by kernel_rfl

set_option maxRecDepth 100000 in
theorem lifted (os : Os) (started : os.Started) (H : Type) (enc : TypeId × Value → H) :
    ReturnsInHanded {} Try.checked os 12 .any (Rows.beamGrowsSpec.pre6 enc Try.prog Try.f12 Rows.beamGrowsRow.domain false) (Rows.beamGrowsSpec.post enc Try.prog Try.f12 false true false false) := by
  refine returnsInHanded_of_change (C := Try.checked) own started (by kernel_rfl) Try.func12
    (ChangeSpec.witness6 (enc := enc) (C := Try.checked) false ⟨#[], #[.agg #[.string ByteArray.empty, .int .i64 0, .int .i64 0, .int .i64 0, .int .i64 0, .int .i64 0, .int .i64 0, .int .i64 0], .int .i64 0, .agg #[.int .i64 0, .int .i64 0], .agg #[.int .i64 0, .int .i64 0, .int .i64 0, .int .i64 0, .int .i64 0, .slice none 0 0], .int .i64 0, .slice none 0 0, .slice none 0 0], []⟩ 8 (by kernel_rfl) (by kernel_rfl) (by kernel_rfl) (by kernel_rfl)) ?_
  intro W base args ds gs before hval0 hW hcnd _
  have hval : ∀ (j : Nat) t v, Try.f12.params[j]? = some t → args[j]? = some v → Value.okWide Try.prog W .any base t v := hval0
  have hW' := hW
  obtain ⟨p, q, hA0, hV, rfl, hfz, hnd⟩ := hW
  have hA : DataW.TrodAll enc Try.prog W 0 (fun _ => true) true Try.f12.params.toList args.toList ds p := hA0
  rw [Try.params12] at hA hval
  obtain ⟨v0, vs0, d0, ds0, p0, q0, hargs, rfl, rfl, h0, r0⟩ := trodAll_cons hA
  obtain ⟨v1, vs1, d1, ds1, p1, q1, rfl, rfl, rfl, h1, r1⟩ := trodAll_cons r0
  obtain ⟨v2, vs2, d2, ds2, p2, q2, rfl, rfl, rfl, h2, r2⟩ := trodAll_cons r1
  obtain ⟨v3, vs3, d3, ds3, p3, q3, rfl, rfl, rfl, h3, r3⟩ := trodAll_cons r2
  obtain ⟨v4, vs4, d4, ds4, p4, q4, rfl, rfl, rfl, h4, r4⟩ := trodAll_cons r3
  obtain ⟨v5, vs5, d5, ds5, p5, q5, rfl, rfl, rfl, h5, r5⟩ := trodAll_cons r4
  obtain ⟨v6, vs6, d6, ds6, p6, q6, rfl, rfl, rfl, h6, r6⟩ := trodAll_cons r5
  obtain ⟨rfl, rfl, rfl⟩ := trodAll_nil r6
  obtain rfl : args = #[v0, v1, v2, v3, v4, v5, v6] := by cases args; simp_all
  obtain ⟨rfl, rfl⟩ := trodVars_none hV
  have k0 := h0
  have lt0 : ∀ x ∈ p0, x.block < W.heap.size := by obtain ⟨m, hm⟩ := k0; exact DataW.trod_lt m _ _ _ hm
  have k1 := h1
  have lt1 : ∀ x ∈ p1, x.block < W.heap.size := by obtain ⟨m, hm⟩ := k1; exact DataW.trod_lt m _ _ _ hm
  have k2 := h2
  have lt2 : ∀ x ∈ p2, x.block < W.heap.size := by obtain ⟨m, hm⟩ := k2; exact DataW.trod_lt m _ _ _ hm
  have k3 := h3
  have lt3 : ∀ x ∈ p3, x.block < W.heap.size := by obtain ⟨m, hm⟩ := k3; exact DataW.trod_lt m _ _ _ hm
  have k4 := h4
  have lt4 : ∀ x ∈ p4, x.block < W.heap.size := by obtain ⟨m, hm⟩ := k4; exact DataW.trod_lt m _ _ _ hm
  have k5 := h5
  have lt5 : ∀ x ∈ p5, x.block < W.heap.size := by obtain ⟨m, hm⟩ := k5; exact DataW.trod_lt m _ _ _ hm
  have k6 := h6
  have lt6 : ∀ x ∈ p6, x.block < W.heap.size := by obtain ⟨m, hm⟩ := k6; exact DataW.trod_lt m _ _ _ hm
  obtain ⟨nm0, s01, s02, s03, s04, s05, s06, s07, rfl, w0⟩ := site_open (hval 0 23 v0 rfl rfl) h0
  obtain ⟨a1, rfl, rfl, rfl, w1⟩ := open_int Try.underlying3 (hval 1 3 v1 rfl rfl) h1
  obtain ⟨lo2, hi2, rfl, w2⟩ := span_open (hval 2 43 v2 rfl rfl) h2
  obtain ⟨g31, g32, g33, g34, g35, va3, len3, cap3, zs3, rfl, w3⟩ := field_open (hval 3 28 v3 rfl rfl) h3
  obtain ⟨a4, rfl, rfl, rfl, w4⟩ := open_int Try.underlying3 (hval 4 3 v4 rfl rfl) h4
  obtain ⟨na5, nl5, nc5, ns5, rfl, w5⟩ := nums_open (k := .u32) Try.underlying73 Try.underlying64 cells64 rfl (hval 5 73 v5 rfl rfl) h5
  obtain ⟨na6, nl6, nc6, ns6, rfl, w6⟩ := nums_open (k := .u8) Try.underlying74 Try.underlying5 cells5 rfl (hval 6 74 v6 rfl rfl) h6
  clear hA0 hval0
  refine (BeamGrows_w nm0 s01 s02 s03 s04 s05 s06 s07 a1 lo2 hi2 g31 g32 g33 g34 g35 va3 len3 cap3 zs3 a4 na5 nl5 nc5 ns5 na6 nl6 nc6 ns6 W w0 w1 w2 w3 w4 w5 w6).mono fun e W' ⟨he, bel⟩ => ?_
  subst he
  exact ⟨_, rfl, _, _, _, [], _, [], hW', trodAll_mk1 (shut_bool Try.underlying4 _), (trodAll_cons_mk (Below.trod laidOut (by kernel_rfl) (of_decide_eq_true (by kernel_rfl)) k0 bel lt0) (trodAll_cons_mk (Below.trod laidOut (by kernel_rfl) (of_decide_eq_true (by kernel_rfl)) k1 bel lt1) (trodAll_cons_mk (Below.trod laidOut (by kernel_rfl) (of_decide_eq_true (by kernel_rfl)) k2 bel lt2) (trodAll_cons_mk (Below.trod laidOut (by kernel_rfl) (of_decide_eq_true (by kernel_rfl)) k3 bel lt3) (trodAll_cons_mk (Below.trod laidOut (by kernel_rfl) (of_decide_eq_true (by kernel_rfl)) k4 bel lt4) (trodAll_cons_mk (Below.trod laidOut (by kernel_rfl) (of_decide_eq_true (by kernel_rfl)) k5 bel lt5) (trodAll_cons_mk (Below.trod laidOut (by kernel_rfl) (of_decide_eq_true (by kernel_rfl)) k6 bel lt6) trodAll_mk0))))))), rfl, bel.frame _, fun h => by cases h⟩

theorem over : Rows.beamGrowsRow.holds Try.pinned (OpenSpec.ofChange Rows.beamGrowsSpec) :=
  OpenClaim.holds_of_wide 12 Try.f12 rfl rfl rfl rfl rfl rfl rfl ⟨rfl, rfl, rfl, rfl, rfl⟩ rfl rfl rfl rfl rfl (by kernel_rfl) Try.func12 (by kernel_rfl)
    (of_decide_eq_true (by kernel_rfl)) (by unfold Func.isWrapper; first | (rw [if_pos (by decide +kernel)]; kernel_rfl) | (rw [if_neg (by decide +kernel)]; exact ⟨rfl, rfl⟩))
    (fun os started H enc _ => lifted os started H enc)

/-- the statement -/
theorem proved : Rows.BeamGrowsSaid := over
#print axioms proved
end Go.Proofs.Ythnjfnapjpdchaa.beamGrows
