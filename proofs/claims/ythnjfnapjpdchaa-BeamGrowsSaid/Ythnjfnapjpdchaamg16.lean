/-
  Blocked threads grow along a ray; narrower and higher ground: plain mathematics.
-/
import Derived.Test.YthnjfnapjpdchaaProg
import Derived.ProofKit
import Derived.OpenShut
import Derived.KernelRfl
import Derived.Deep.Slices
import Derived.Deep.Fields
import Derived.Test.Ythnjfnapjpdchaamg14
import Derived.Test.Ythnjfnapjpdchaamg15
import Derived.Test.Ythnjfnapjpdchaamg4
namespace Go.Proofs.Ythnjfnapjpdchaa
open Go.RowKit
set_option linter.unusedVariables false

theorem sums_bd (p : Nat → Nat → Bool) (T j : Nat) : 0 ≤ sumsOf p T j ∧ sumsOf p T j ≤ T := by
  unfold sumsOf
  have := cnt_le (fun k => seen p k (j + 1)) T
  omega
theorem sums_next (p : Nat → Nat → Bool) (T j : Nat) : sumsOf p T j ≤ sumsOf p T (j + 1) := by
  unfold sumsOf
  have := cnt_mono (q := fun k => seen p k (j + 1)) (r := fun k => seen p k (j + 1 + 1)) (n := T) (fun k _ h => seen_later h (by omega))
  omega
theorem sums_le {p q : Nat → Nat → Bool} {T j : Nat} (h : ∀ k i, k < T → i ≤ j → p k i = true → q k i = true) : sumsOf p T j ≤ sumsOf q T j := by
  unfold sumsOf
  have := cnt_mono (q := fun k => seen p k (j + 1)) (r := fun k => seen q k (j + 1)) (n := T) (fun k hk hs => seen_mono (fun i hi => h k i hk (by omega)) hs)
  omega
theorem thrP_mono {z step t width lo lo' : Int} {GL GL' : Nat → Int} {k i : Nat} (e1 : 0 < lo) (e2 : lo ≤ lo') (h : GL i ≤ GL' i) (hp : thrP z step t width lo GL k i = true) : thrP z step t width lo' GL' k i = true := by
  have hp := of_decide_eq_true hp
  have := M.hi_mono (z := z) (step := step) (t := t - width + k) (gate := i) e1 e2
  exact decide_eq_true (by omega)
theorem thrQ_mono {z step t width hi hi' : Int} {GH GH' : Nat → Int} {k i : Nat} (e1 : 0 < hi') (e2 : hi' ≤ hi) (h : GH' i ≤ GH i) (hp : thrQ z step t width hi' GH' k i = true) : thrQ z step t width hi GH k i = true := by
  have hp := of_decide_eq_true hp
  have := M.lo_mono (z := z) (step := step) (t := t - width + k) (gate := i) e1 e2
  exact decide_eq_true (by omega)
theorem gndL_mono {x y rose step t ray gx gy size wide high : Int} {zs zs' : Nat → Int × Int} {len : Nat} (s1 : 1 ≤ size) (w1 : 1 ≤ wide) (hl : (len : Int) = wide * high) (h : ∀ i, i < len → (zs i).1 ≤ (zs' i).1) (j : Nat) : gndL x y rose step t ray gx gy size wide high zs j ≤ gndL x y rose step t ray gx gy size wide high zs' j := by
  unfold gndL
  by_cases hc : pixB gx gy size wide high (plX x rose step t ray j) (plY y rose step t ray j) = true
  · rw [if_pos hc, if_pos hc]
    have := pixN_lt s1 w1 hc
    exact h _ (by omega)
  · rw [if_neg hc, if_neg hc]; exact Int.le_refl _
theorem gndH_mono {x y rose step t ray gx gy size wide high : Int} {zs zs' : Nat → Int × Int} {len : Nat} (s1 : 1 ≤ size) (w1 : 1 ≤ wide) (hl : (len : Int) = wide * high) (h : ∀ i, i < len → (zs i).2 ≤ (zs' i).2) (j : Nat) : gndH x y rose step t ray gx gy size wide high zs j ≤ gndH x y rose step t ray gx gy size wide high zs' j := by
  unfold gndH
  by_cases hc : pixB gx gy size wide high (plX x rose step t ray j) (plY y rose step t ray j) = true
  · rw [if_pos hc, if_pos hc]
    have := pixN_lt s1 w1 hc
    exact h _ (by omega)
  · rw [if_neg hc, if_neg hc]; exact Int.le_refl _

/-- what Blocked counts: at least -/
def blkL (x y rose step t ray gx gy size wide high z width lo : Int) (T : Nat) (zs : Nat → Int × Int) (j : Nat) : Int := sumsOf (thrP z step t width lo (gndL x y rose step t ray gx gy size wide high zs)) T j
/-- what Blocked counts: at most -/
def blkH (x y rose step t ray gx gy size wide high z width hi : Int) (T : Nat) (zs : Nat → Int × Int) (j : Nat) : Int := sumsOf (thrQ z step t width hi (gndH x y rose step t ray gx gy size wide high zs)) T j

/-- a grid's size, its width and its number of pixels -/
structure GrOk (size wide high : Int) (len : Nat) : Prop where
  s1 : 1 ≤ size
  w1 : 1 ≤ wide
  hl : (len : Int) = wide * high

theorem blk_fence {x y rose step t ray gx gy size wide high z width lo hi : Int} {T g len : Nat} {zs : Nat → Int × Int} (G : GrOk size wide high len) (hT : (T : Int) = 2 * width + 1) (d1 : 0 ≤ width) (d2 : width ≤ 8) (t1 : 0 ≤ t) (t2 : t ≤ 256) (s1 : 50 ≤ step) (s2 : step ≤ 2000) (e1 : 1000000 ≤ lo) (e2 : lo ≤ hi) (hg : g ≤ 200) (ha : AllIn len zs 0 20000) (j : Nat) (hj : j < g) :
    0 ≤ blkL x y rose step t ray gx gy size wide high z width lo T zs j ∧ blkL x y rose step t ray gx gy size wide high z width lo T zs j ≤ blkH x y rose step t ray gx gy size wide high z width hi T zs j ∧ blkH x y rose step t ray gx gy size wide high z width hi T zs j ≤ 2 * width + 1 := by
  have h1 := sums_bd (thrP z step t width lo (gndL x y rose step t ray gx gy size wide high zs)) T j
  have h2 := sums_bd (thrQ z step t width hi (gndH x y rose step t ray gx gy size wide high zs)) T j
  have h3 := thr_pq (z := z) (step := step) (t := t) (width := width) (lo := lo) (hi := hi) (GL := gndL x y rose step t ray gx gy size wide high zs) (GH := gndH x y rose step t ray gx gy size wide high zs) (T := T) (g := g) hT d1 d2 t1 t2 s1 s2 e1 e2 hg (fun i _ => (gnd_bd G.s1 G.w1 G.hl ha i).2.1)
  have h4 := sums_le (p := thrP z step t width lo (gndL x y rose step t ray gx gy size wide high zs)) (q := thrQ z step t width hi (gndH x y rose step t ray gx gy size wide high zs)) (T := T) (j := j) (fun k i hk hi' h => h3 k i hk (by omega) h)
  unfold blkL blkH
  omega
theorem blkL_mono {x y rose step t ray gx gy size wide high z width lo lo' : Int} {T len : Nat} {zs zs' : Nat → Int × Int} (G : GrOk size wide high len) (e1 : 0 < lo) (e2 : lo ≤ lo') (h : ∀ i, i < len → (zs i).1 ≤ (zs' i).1) (j : Nat) : blkL x y rose step t ray gx gy size wide high z width lo T zs j ≤ blkL x y rose step t ray gx gy size wide high z width lo' T zs' j :=
  sums_le (fun k i _ _ hp => thrP_mono e1 e2 (gndL_mono G.s1 G.w1 G.hl h i) hp)
theorem blkH_mono {x y rose step t ray gx gy size wide high z width hi hi' : Int} {T len : Nat} {zs zs' : Nat → Int × Int} (G : GrOk size wide high len) (e1 : 0 < hi') (e2 : hi' ≤ hi) (h : ∀ i, i < len → (zs' i).2 ≤ (zs i).2) (j : Nat) : blkH x y rose step t ray gx gy size wide high z width hi' T zs' j ≤ blkH x y rose step t ray gx gy size wide high z width hi T zs j :=
  sums_le (fun k i _ _ hp => thrQ_mono e1 e2 (gndH_mono G.s1 G.w1 G.hl h i) hp)
theorem blkL_next {x y rose step t ray gx gy size wide high z width lo : Int} {T : Nat} {zs : Nat → Int × Int} (j : Nat) : blkL x y rose step t ray gx gy size wide high z width lo T zs j ≤ blkL x y rose step t ray gx gy size wide high z width lo T zs (j + 1) := sums_next _ _ _
theorem blkH_next {x y rose step t ray gx gy size wide high z width hi : Int} {T : Nat} {zs : Nat → Int × Int} (j : Nat) : blkH x y rose step t ray gx gy size wide high z width hi T zs j ≤ blkH x y rose step t ray gx gy size wide high z width hi T zs (j + 1) := sums_next _ _ _

end Go.Proofs.Ythnjfnapjpdchaa

namespace Go.Proofs.Ythnjfnapjpdchaa
open Go.RowKit
set_option linter.unusedVariables false

/-- the arguments of Blocked are valid -/
structure BlkIn (nm : ByteArray) (x y z rose gates step width lo hi gx gy size wide high : Int) (len : Nat) (zs : Nat → Int × Int) (t ray : Int) : Prop where
  h0 : siteC nm x y z rose gates step width = 0
  hg : fieldC gx gy size wide high len zs 20000 = 0
  c0 : inB t 0 256 = true
  c1 : spanB lo hi 1000000 100000000 = true
  c2 : inB ray 0 (4 * rose - 1) = true
theorem blocked_cases (nm : ByteArray) (x y z rose gates step width lo hi gx gy size wide high : Int) (fa : Option Addr) (len cap : Nat) (zs : Nat → Int × Int) (t ray : Int) (w : World) (hs : nm.size ≤ maxLen) (hl : len ≤ 1000000) (hsl : SliceIs w fa len cap zs) :
    (∃ c : Int, (c != 0) = true ∧ (∀ wx : World, Below w.heap.size w wx → Calls Try.prog 46 #[.agg #[.string nm, .int .i64 x, .int .i64 y, .int .i64 z, .int .i64 rose, .int .i64 gates, .int .i64 step, .int .i64 width], .int .i64 t, .agg #[.int .i64 lo, .int .i64 hi], .agg #[.int .i64 gx, .int .i64 gy, .int .i64 size, .int .i64 wide, .int .i64 high, .slice fa len cap], .int .i64 ray] wx fun e w' => e = .returned (.tuple #[.slice none 0 0, .int .i64 c]) ∧ Below wx.heap.size wx w') ∧ (∀ wx : World, Below w.heap.size w wx → Calls Try.prog 47 #[.agg #[.string nm, .int .i64 x, .int .i64 y, .int .i64 z, .int .i64 rose, .int .i64 gates, .int .i64 step, .int .i64 width], .int .i64 t, .agg #[.int .i64 lo, .int .i64 hi], .agg #[.int .i64 gx, .int .i64 gy, .int .i64 size, .int .i64 wide, .int .i64 high, .slice fa len cap], .int .i64 ray] wx fun e w' => e = .returned (.tuple #[.slice none 0 0, .int .i64 c]) ∧ Below wx.heap.size wx w')) ∨ BlkIn nm x y z rose gates step width lo hi gx gy size wide high len zs t ray := by
  by_cases h0 : siteC nm x y z rose gates step width = 0
  · have hk := (siteC_zero.1 h0).2
    by_cases hg : fieldC gx gy size wide high len zs 20000 = 0
    · rcases (Bool.eq_false_or_eq_true (inB t 0 256)).symm with c0 | c0
      · exact .inl ⟨3, by decide, fun wx hb => Blocked_no0 nm x y z rose gates step width lo hi gx gy size wide high fa len cap zs t ray wx hs hl (hsl.keep hb) h0 hk hg c0, fun wx hb => refBlocked_no0 nm x y z rose gates step width lo hi gx gy size wide high fa len cap zs t ray wx hs hl (hsl.keep hb) h0 hk hg c0⟩
      rcases (Bool.eq_false_or_eq_true (spanB lo hi 1000000 100000000)).symm with c1 | c1
      · exact .inl ⟨3, by decide, fun wx hb => Blocked_no1 nm x y z rose gates step width lo hi gx gy size wide high fa len cap zs t ray wx hs hl (hsl.keep hb) h0 hk hg c0 c1, fun wx hb => refBlocked_no1 nm x y z rose gates step width lo hi gx gy size wide high fa len cap zs t ray wx hs hl (hsl.keep hb) h0 hk hg c0 c1⟩
      rcases (Bool.eq_false_or_eq_true (inB ray 0 (4 * rose - 1))).symm with c2 | c2
      · exact .inl ⟨3, by decide, fun wx hb => Blocked_no2 nm x y z rose gates step width lo hi gx gy size wide high fa len cap zs t ray wx hs hl (hsl.keep hb) h0 hk hg c0 c1 c2, fun wx hb => refBlocked_no2 nm x y z rose gates step width lo hi gx gy size wide high fa len cap zs t ray wx hs hl (hsl.keep hb) h0 hk hg c0 c1 c2⟩
      exact .inr ⟨h0, hg, c0, c1, c2⟩
    · exact .inl ⟨_, bne_iff_ne.2 hg, fun wx hb => Blocked_ground nm x y z rose gates step width lo hi gx gy size wide high fa len cap zs t ray wx hs hl (hsl.keep hb) h0 (bne_iff_ne.2 hg), fun wx hb => refBlocked_ground nm x y z rose gates step width lo hi gx gy size wide high fa len cap zs t ray wx hs hl (hsl.keep hb) h0 (bne_iff_ne.2 hg)⟩
  · exact .inl ⟨_, bne_iff_ne.2 h0, fun wx hb => Blocked_site nm x y z rose gates step width lo hi gx gy size wide high fa len cap zs t ray wx hs hl (hsl.keep hb) (bne_iff_ne.2 h0), fun wx hb => refBlocked_site nm x y z rose gates step width lo hi gx gy size wide high fa len cap zs t ray wx hs hl (hsl.keep hb) (bne_iff_ne.2 h0)⟩

theorem blk_slice {fa : Option Addr} {len cap : Nat} {zs : Nat → Int × Int} {gx gy size wide high : Int} {w : World} (hg : fieldC gx gy size wide high len zs 20000 = 0) (hsl : SliceIs w fa len cap zs) : GrOk size wide high len ∧ AllIn len zs 0 20000 ∧ ∃ fb off, fa = some ⟨fb, off, none⟩ ∧ fb < w.heap.size ∧ SpansAt w fb off len zs := by
  obtain ⟨hg1, hg2, ha⟩ := ground_zero hg
  obtain ⟨_, _, ⟨u1, u2⟩, ⟨v1, v2⟩, v3, v4⟩ := gridB_bd (gridC_zero.1 hg1)
  refine ⟨⟨u1, v1, hg2⟩, ha, ?_⟩
  rcases hsl with ⟨rfl, h0⟩ | ⟨fb, off, rfl, hb, hsp⟩
  · have v7 : 1 * 1 ≤ wide * high := Int.mul_le_mul v1 v3 (by omega) (by omega)
    omega
  · exact ⟨fb, off, rfl, hb, hsp⟩

theorem blocked_good (nm : ByteArray) (x y z rose : Int) (g : Nat) (step width lo hi gx gy size wide high : Int) (fa : Option Addr) (len cap : Nat) (zs : Nat → Int × Int) (t ray : Int) (T : Nat) (hT : (T : Int) = 2 * width + 1) (w : World) (hs : nm.size ≤ maxLen) (hl : len ≤ 1000000) (hsl : SliceIs w fa len cap zs) (hi' : BlkIn nm x y z rose g step width lo hi gx gy size wide high len zs t ray) :
    Calls Try.prog 46 #[.agg #[.string nm, .int .i64 x, .int .i64 y, .int .i64 z, .int .i64 rose, .int .i64 (g : Nat), .int .i64 step, .int .i64 width], .int .i64 t, .agg #[.int .i64 lo, .int .i64 hi], .agg #[.int .i64 gx, .int .i64 gy, .int .i64 size, .int .i64 wide, .int .i64 high, .slice fa len cap], .int .i64 ray] w (BlkRet g (blkL x y rose step t ray gx gy size wide high z width lo T zs) (blkH x y rose step t ray gx gy size wide high z width hi T zs) w) ∧ Calls Try.prog 47 #[.agg #[.string nm, .int .i64 x, .int .i64 y, .int .i64 z, .int .i64 rose, .int .i64 (g : Nat), .int .i64 step, .int .i64 width], .int .i64 t, .agg #[.int .i64 lo, .int .i64 hi], .agg #[.int .i64 gx, .int .i64 gy, .int .i64 size, .int .i64 wide, .int .i64 high, .slice fa len cap], .int .i64 ray] w (BlkRet g (blkL x y rose step t ray gx gy size wide high z width lo T zs) (blkH x y rose step t ray gx gy size wide high z width hi T zs) w) := by
  have hk := (siteC_zero.1 hi'.h0).2
  obtain ⟨G, ha, fb, off, rfl, hfb, hsp⟩ := blk_slice hi'.hg hsl
  obtain ⟨t1, t2⟩ := inB_true.1 hi'.c0
  obtain ⟨e1, e0, e4⟩ := spanB_true.1 hi'.c1
  have gg := hk.g2
  exact ⟨Blocked_ok nm x y z rose g step width lo hi gx gy size wide high fb off len cap zs t ray T hT _ _ w hs hl hsp hfb hi'.h0 hk hi'.hg hi'.c0 hi'.c1 hi'.c2 (gnd_is _ _ _ _ _ _ _ _ _ _ _ _ _) (thr_pq hT hk.d1 hk.d2 t1 t2 hk.s1 hk.s2 e1 e0 (by omega) (fun j _ => (gnd_bd G.s1 G.w1 G.hl ha j).2.1)),
    refBlocked_gen nm x y z rose g step width lo hi gx gy size wide high fb off len cap zs t ray T hT _ _ _ _ w hs hl hsp hfb hi'.h0 hk hi'.hg hi'.c0 hi'.c1 hi'.c2 (gnd_is _ _ _ _ _ _ _ _ _ _ _ _ _) (fun _ _ _ _ => rfl) (fun _ _ _ _ => rfl)⟩

end Go.Proofs.Ythnjfnapjpdchaa

namespace Go.Proofs.Ythnjfnapjpdchaa
open Go.ChangeShapes Go.WideShapes Go.ChangeAt Go.RowKit

theorem cells3 : Try.prog.cellsOf 3 = 1 := by kernel_rfl
theorem cells9 : Try.prog.cellsOf 9 = 1 := by kernel_rfl
theorem cells23 : Try.prog.cellsOf 23 = 8 := by kernel_rfl
theorem cells43 : Try.prog.cellsOf 43 = 2 := by kernel_rfl
theorem cells25 : Try.prog.cellsOf 25 = 5 := by kernel_rfl

set_option maxRecDepth 100000 in
theorem site_open {H : Type} {enc : TypeId × Value → H} {w : World} {r : Reach} {b0 base : Nat} {spare : Nat → Bool} {held : Bool} {v : Value} {d : DataW H} {p : List MemPlace}
    (hv : Value.okWide Try.prog w r b0 23 v) (h : DataW.Trod enc Try.prog w base spare held 23 v d p) :
    ∃ (nm : ByteArray) (x y z rose gates step width : Int), v = .agg #[.string nm, .int .i64 x, .int .i64 y, .int .i64 z, .int .i64 rose, .int .i64 gates, .int .i64 step, .int .i64 width] ∧ nm.size ≤ maxLen ∧ (Lit.int .i64 x).wf = true ∧ (Lit.int .i64 y).wf = true ∧ (Lit.int .i64 z).wf = true ∧ (Lit.int .i64 rose).wf = true ∧ (Lit.int .i64 gates).wf = true ∧ (Lit.int .i64 step).wf = true ∧ (Lit.int .i64 width).wf = true := by
  obtain ⟨cs, rfl, hsz⟩ := okWide_struct Try.underlying23 hv
  have hsz2 := hsz.trans cells23
  obtain ⟨l⟩ := cs
  have hl : l.length = 8 := hsz2
  clear hsz hsz2 hv
  match l, hl with
  | [v0, v1, v2, v3, v4, v5, v6, v7], _ =>
    obtain ⟨fuel, hf⟩ := h
    obtain ⟨xs, m, _, _, _, hlen, hg⟩ := DataW.trod_struct Try.underlying23 hf
    match xs, hlen with
    | [y0, y1, y2, y3, y4, y5, y6, y7], _ =>
      have g0 := hg 0 _ rfl
      simp [Value.cells, cells9] at g0
      obtain ⟨nm, e0, _, w0⟩ := DataW.trod_string Try.underlying9 g0
      have g1 := hg 1 _ rfl
      simp [Value.cells, cells3] at g1
      obtain ⟨x, e1, _, w1⟩ := DataW.trod_int Try.underlying3 g1
      have g2 := hg 2 _ rfl
      simp [Value.cells, cells3] at g2
      obtain ⟨y, e2, _, w2⟩ := DataW.trod_int Try.underlying3 g2
      have g3 := hg 3 _ rfl
      simp [Value.cells, cells3] at g3
      obtain ⟨z, e3, _, w3⟩ := DataW.trod_int Try.underlying3 g3
      have g4 := hg 4 _ rfl
      simp [Value.cells, cells3] at g4
      obtain ⟨rose, e4, _, w4⟩ := DataW.trod_int Try.underlying3 g4
      have g5 := hg 5 _ rfl
      simp [Value.cells, cells3] at g5
      obtain ⟨gates, e5, _, w5⟩ := DataW.trod_int Try.underlying3 g5
      have g6 := hg 6 _ rfl
      simp [Value.cells, cells3] at g6
      obtain ⟨step, e6, _, w6⟩ := DataW.trod_int Try.underlying3 g6
      have g7 := hg 7 _ rfl
      simp [Value.cells, cells3] at g7
      obtain ⟨width, e7, _, w7⟩ := DataW.trod_int Try.underlying3 g7
      simp only [List.cons.injEq, and_true] at e0 e1 e2 e3 e4 e5 e6 e7
      subst e0 e1 e2 e3 e4 e5 e6 e7
      exact ⟨nm, x, y, z, rose, gates, step, width, rfl, w0, w1, w2, w3, w4, w5, w6, w7⟩

set_option maxRecDepth 100000 in
theorem span_open {H : Type} {enc : TypeId × Value → H} {w : World} {r : Reach} {b0 base : Nat} {spare : Nat → Bool} {held : Bool} {v : Value} {d : DataW H} {p : List MemPlace}
    (hv : Value.okWide Try.prog w r b0 43 v) (h : DataW.Trod enc Try.prog w base spare held 43 v d p) :
    ∃ (lo hi : Int), v = .agg #[.int .i64 lo, .int .i64 hi] ∧ (Lit.int .i64 lo).wf = true ∧ (Lit.int .i64 hi).wf = true := by
  obtain ⟨cs, rfl, hsz⟩ := okWide_struct Try.underlying43 hv
  have hsz2 := hsz.trans cells43
  obtain ⟨l⟩ := cs
  have hl : l.length = 2 := hsz2
  clear hsz hsz2 hv
  match l, hl with
  | [v0, v1], _ =>
    obtain ⟨fuel, hf⟩ := h
    obtain ⟨xs, m, _, _, _, hlen, hg⟩ := DataW.trod_struct Try.underlying43 hf
    match xs, hlen with
    | [y0, y1], _ =>
      have g0 := hg 0 _ rfl
      simp [Value.cells, cells3] at g0
      obtain ⟨lo, e0, _, w0⟩ := DataW.trod_int Try.underlying3 g0
      have g1 := hg 1 _ rfl
      simp [Value.cells, cells3] at g1
      obtain ⟨hi, e1, _, w1⟩ := DataW.trod_int Try.underlying3 g1
      simp only [List.cons.injEq, and_true] at e0 e1
      subst e0 e1
      exact ⟨lo, hi, rfl, w0, w1⟩

set_option maxRecDepth 100000 in
theorem grid_open {H : Type} {enc : TypeId × Value → H} {w : World} {r : Reach} {b0 base : Nat} {spare : Nat → Bool} {held : Bool} {v : Value} {d : DataW H} {p : List MemPlace}
    (hv : Value.okWide Try.prog w r b0 25 v) (h : DataW.Trod enc Try.prog w base spare held 25 v d p) :
    ∃ (x y size wide high : Int), v = .agg #[.int .i64 x, .int .i64 y, .int .i64 size, .int .i64 wide, .int .i64 high] ∧ (Lit.int .i64 x).wf = true ∧ (Lit.int .i64 y).wf = true ∧ (Lit.int .i64 size).wf = true ∧ (Lit.int .i64 wide).wf = true ∧ (Lit.int .i64 high).wf = true := by
  obtain ⟨cs, rfl, hsz⟩ := okWide_struct Try.underlying25 hv
  have hsz2 := hsz.trans cells25
  obtain ⟨l⟩ := cs
  have hl : l.length = 5 := hsz2
  clear hsz hsz2 hv
  match l, hl with
  | [v0, v1, v2, v3, v4], _ =>
    obtain ⟨fuel, hf⟩ := h
    obtain ⟨xs, m, _, _, _, hlen, hg⟩ := DataW.trod_struct Try.underlying25 hf
    match xs, hlen with
    | [y0, y1, y2, y3, y4], _ =>
      have g0 := hg 0 _ rfl
      simp [Value.cells, cells3] at g0
      obtain ⟨x, e0, _, w0⟩ := DataW.trod_int Try.underlying3 g0
      have g1 := hg 1 _ rfl
      simp [Value.cells, cells3] at g1
      obtain ⟨y, e1, _, w1⟩ := DataW.trod_int Try.underlying3 g1
      have g2 := hg 2 _ rfl
      simp [Value.cells, cells3] at g2
      obtain ⟨size, e2, _, w2⟩ := DataW.trod_int Try.underlying3 g2
      have g3 := hg 3 _ rfl
      simp [Value.cells, cells3] at g3
      obtain ⟨wide, e3, _, w3⟩ := DataW.trod_int Try.underlying3 g3
      have g4 := hg 4 _ rfl
      simp [Value.cells, cells3] at g4
      obtain ⟨high, e4, _, w4⟩ := DataW.trod_int Try.underlying3 g4
      simp only [List.cons.injEq, and_true] at e0 e1 e2 e3 e4
      subst e0 e1 e2 e3 e4
      exact ⟨x, y, size, wide, high, rfl, w0, w1, w2, w3, w4⟩

end Go.Proofs.Ythnjfnapjpdchaa

namespace Go.Proofs.Ythnjfnapjpdchaa
open Go.ChangeShapes Go.WideShapes Go.ChangeAt Go.RowKit

theorem cells26 : Try.prog.cellsOf 26 = 1 := by kernel_rfl
theorem cells28 : Try.prog.cellsOf 28 = 6 := by kernel_rfl

theorem add_at {a : Addr} {i : Nat} (h : a.spot = none) : a.add i = ⟨a.block, a.off + i, none⟩ := by
  obtain ⟨b, off, spot⟩ := a
  subst h
  unfold Addr.add
  by_cases hi : i = 0 <;> simp [hi]

set_option maxRecDepth 100000 in
theorem spans_open {H : Type} {enc : TypeId × Value → H} {w : World} {base : Nat} {spare : Nat → Bool} {held : Bool} {n : Nat} {v : Value} {x : DataW H × List MemPlace}
    (h : DataW.trod enc Try.prog w base spare held n 26 [v] = some x) :
    ∃ (a : Option Addr) (len cap : Nat) (zs : Nat → Int × Int), v = .slice a len cap ∧ len ≤ maxLen ∧ SliceIs w a len cap zs := by
  rcases Go.Deep.open_slice Try.underlying26 h with ⟨hc, _⟩ | ⟨a, len, cap, m, k, D, Pl, hc, _, hl, hm, hmm, _, hi⟩
  · simp only [List.cons.injEq, and_true] at hc
    exact ⟨none, 0, 0, fun _ => (0, 0), hc, by decide, .inl rfl⟩
  · simp only [List.cons.injEq, and_true] at hc
    have hle : len ≤ m := by rw [hmm]; split <;> omega
    have key : ∀ i, ∃ p : Int × Int, i < len → w.cell? (a.add (i * 2)) = some (.int .i64 p.1) ∧ w.cell? ((a.add (i * 2)).add 1) = some (.int .i64 p.2) := by
      intro i
      by_cases hil : i < len
      · obtain ⟨cs', hcs, ht⟩ := hi i (by omega)
        rw [cells43] at hcs
        obtain ⟨_, hcl, hat⟩ := World.cells?_some hcs
        obtain ⟨xs, q, _, _, _, hlen, hg⟩ := DataW.trod_struct Try.underlying43 ht
        match cs', hcl with
        | [c0, c1], _ =>
          match xs, hlen with
          | [y0, y1], _ =>
            have g0 := hg 0 _ rfl
            have g1 := hg 1 _ rfl
            simp [cells3] at g0 g1
            obtain ⟨lo, e0, _, _⟩ := DataW.trod_int Try.underlying3 g0
            obtain ⟨hi', e1, _, _⟩ := DataW.trod_int Try.underlying3 g1
            simp only [List.cons.injEq, and_true] at e0 e1
            subst e0 e1
            refine ⟨(lo, hi'), fun _ => ⟨?_, ?_⟩⟩
            · have h0 := hat 0 (by decide)
              have e : (a.add (i * 2)).add 0 = a.add (i * 2) := by rw [Go.Deep.add_add]; rfl
              rw [e] at h0; exact h0
            · exact hat 1 (by decide)
      · exact ⟨(0, 0), fun h => absurd h hil⟩
    obtain ⟨zs, hz⟩ := Classical.axiomOfChoice key
    refine ⟨some a, len, cap, zs, hc, Nat.le_trans hl hm, ?_⟩
    by_cases h0 : len = 0
    · exact .inl h0
    · have hsp : a.spot = none := World.cell?_spot (show w.cell? a = some _ from (hz 0 (by omega)).1)
      refine .inr ⟨a.block, a.off, ?_, ?_, fun i hil => ?_⟩
      · obtain ⟨b, off, spot⟩ := a
        simp only at hsp
        rw [hsp]
      · have h1 := (hz 0 (by omega)).1
        rw [add_at hsp] at h1
        exact World.block_lt_of_cell? w ⟨a.block, a.off + 0 * 2, none⟩ h1
      · obtain ⟨h1, h2⟩ := hz i hil
        rw [Go.Deep.add_add] at h2
        rw [add_at hsp] at h1 h2
        exact ⟨h1, h2⟩

set_option maxRecDepth 100000 in
theorem field_open {H : Type} {enc : TypeId × Value → H} {w : World} {r : Reach} {b0 base : Nat} {spare : Nat → Bool} {held : Bool} {v : Value} {d : DataW H} {p : List MemPlace}
    (hv : Value.okWide Try.prog w r b0 28 v) (h : DataW.Trod enc Try.prog w base spare held 28 v d p) :
    ∃ (gx gy size wide high : Int) (a : Option Addr) (len cap : Nat) (zs : Nat → Int × Int), v = .agg #[.int .i64 gx, .int .i64 gy, .int .i64 size, .int .i64 wide, .int .i64 high, .slice a len cap] ∧ len ≤ maxLen ∧ SliceIs w a len cap zs := by
  obtain ⟨cs, rfl, hsz⟩ := okWide_struct Try.underlying28 hv
  have hsz2 := hsz.trans cells28
  obtain ⟨l⟩ := cs
  have hl : l.length = 6 := hsz2
  clear hsz hsz2 hv
  match l, hl with
  | [v0, v1, v2, v3, v4, v5], _ =>
    obtain ⟨fuel, hf⟩ := h
    obtain ⟨xs, m, _, _, _, hlen, hg⟩ := DataW.trod_struct Try.underlying28 hf
    match xs, hlen with
    | [y0, y1], _ =>
      have g0 := hg 0 _ rfl
      have g1 := hg 1 _ rfl
      simp [Value.cells, cells25] at g0
      simp [Value.cells, cells26] at g1
      obtain ⟨xs2, m2, _, _, _, hlen2, hg2⟩ := DataW.trod_struct Try.underlying25 g0
      match xs2, hlen2 with
      | [z0, z1, z2, z3, z4], _ =>
        have t0 := hg2 0 _ rfl
        have t1 := hg2 1 _ rfl
        have t2 := hg2 2 _ rfl
        have t3 := hg2 3 _ rfl
        have t4 := hg2 4 _ rfl
        simp [cells3] at t0 t1 t2 t3 t4
        obtain ⟨gx, e0, _, _⟩ := DataW.trod_int Try.underlying3 t0
        obtain ⟨gy, e1, _, _⟩ := DataW.trod_int Try.underlying3 t1
        obtain ⟨size, e2, _, _⟩ := DataW.trod_int Try.underlying3 t2
        obtain ⟨wide, e3, _, _⟩ := DataW.trod_int Try.underlying3 t3
        obtain ⟨high, e4, _, _⟩ := DataW.trod_int Try.underlying3 t4
        obtain ⟨a, len, cap, zs, e5, hm, hs⟩ := spans_open g1
        simp only [List.cons.injEq, and_true] at e0 e1 e2 e3 e4
        subst e0 e1 e2 e3 e4 e5
        exact ⟨gx, gy, size, wide, high, a, len, cap, zs, rfl, hm, hs⟩

end Go.Proofs.Ythnjfnapjpdchaa
