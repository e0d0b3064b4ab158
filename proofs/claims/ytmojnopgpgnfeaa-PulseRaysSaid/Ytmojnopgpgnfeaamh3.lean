/-
  Structs by value, opened: trains, receivers, echoes, spans, pairs.
-/
import Derived.Test.YtmojnopgpgnfeaaProg
import Derived.ProofKit
import Derived.OpenShut
import Derived.KernelRfl
import Derived.Deep.Slices
import Derived.Deep.Fields
import Derived.Test.Ytmojnopgpgnfeaamg1
import Derived.Test.Ytmojnopgpgnfeaamh1
namespace Go.Proofs.Ytmojnopgpgnfeaa
open Go.ChangeShapes Go.WideShapes Go.ChangeAt Go.RowKit
set_option linter.unusedVariables false
set_option linter.unusedSimpArgs false

theorem cells3 : Try.prog.cellsOf 3 = 1 := by kernel_rfl
theorem cells23 : Try.prog.cellsOf 23 = 5 := by kernel_rfl
theorem cells25 : Try.prog.cellsOf 25 = 2 := by kernel_rfl
theorem cells27 : Try.prog.cellsOf 27 = 4 := by kernel_rfl
theorem cells28 : Try.prog.cellsOf 28 = 4 := by kernel_rfl
theorem cells30 : Try.prog.cellsOf 30 = 14 := by kernel_rfl
theorem cells67 : Try.prog.cellsOf 67 = 2 := by kernel_rfl

set_option maxRecDepth 100000 in
theorem span_trod {H : Type} {enc : TypeId × Value → H} {w : World} {base : Nat} {spare : Nat → Bool} {held : Bool} {fuel : Nat} {v0 v1 : Value} {y : DataW H × List MemPlace}
    (hf : DataW.trod enc Try.prog w base spare held fuel 25 [v0, v1] = some y) : ∃ (lo hi : Int), v0 = .int .i64 lo ∧ v1 = .int .i64 hi ∧ (Lit.int .i64 lo).wf = true ∧ (Lit.int .i64 hi).wf = true := by
  obtain ⟨xs, m, _, _, _, hlen, hg⟩ := DataW.trod_struct Try.underlying25 hf
  match xs, hlen with
  | [y0, y1], _ =>
    have g0 := hg 0 _ rfl
    simp [Value.cells, cells3] at g0
    obtain ⟨lo, e0, _, w0⟩ := DataW.trod_int Try.underlying3 g0
    have g1 := hg 1 _ rfl
    simp [Value.cells, cells3] at g1
    obtain ⟨hi, e1, _, w1⟩ := DataW.trod_int Try.underlying3 g1
    simp only [List.cons.injEq, and_true] at e0 e1
    exact ⟨lo, hi, e0, e1, w0, w1⟩
set_option maxRecDepth 100000 in
theorem steps_trod {H : Type} {enc : TypeId × Value → H} {w : World} {base : Nat} {spare : Nat → Bool} {held : Bool} {fuel : Nat} {v0 v1 v2 v3 : Value} {y : DataW H × List MemPlace}
    (hf : DataW.trod enc Try.prog w base spare held fuel 28 [v0, v1, v2, v3] = some y) : ∃ (a b c d : Int), v0 = .int .i64 a ∧ v1 = .int .i64 b ∧ v2 = .int .i64 c ∧ v3 = .int .i64 d ∧ (Lit.int .i64 a).wf = true ∧ (Lit.int .i64 b).wf = true ∧ (Lit.int .i64 c).wf = true ∧ (Lit.int .i64 d).wf = true := by
  obtain ⟨xs, m, _, _, _, hlen, hg⟩ := DataW.trod_array Try.underlying28 hf
  match xs, hlen with
  | [y0, y1], _ =>
    have g0 := hg 0 (by decide)
    simp [cells25] at g0
    have g1 := hg 1 (by decide)
    simp [cells25] at g1
    obtain ⟨a, b, e0, e1, w0, w1⟩ := span_trod g0
    obtain ⟨c, d, e2, e3, w2, w3⟩ := span_trod g1
    exact ⟨a, b, c, d, e0, e1, e2, e3, w0, w1, w2, w3⟩

set_option maxRecDepth 100000 in
theorem span_open {H : Type} {enc : TypeId × Value → H} {w : World} {r : Reach} {b0 base : Nat} {spare : Nat → Bool} {held : Bool} {v : Value} {d : DataW H} {p : List MemPlace}
    (hv : Value.okWide Try.prog w r b0 25 v) (h : DataW.Trod enc Try.prog w base spare held 25 v d p) :
    ∃ (lo hi : Int), v = .agg #[.int .i64 lo, .int .i64 hi] ∧ (Lit.int .i64 lo).wf = true ∧ (Lit.int .i64 hi).wf = true := by
  obtain ⟨cs, rfl, hsz⟩ := okWide_struct Try.underlying25 hv
  have hsz2 := hsz.trans cells25
  obtain ⟨l⟩ := cs
  have hl : l.length = 2 := hsz2
  clear hsz hsz2 hv
  match l, hl with
  | [v0, v1], _ =>
    obtain ⟨fuel, hf⟩ := h
    obtain ⟨xs, m, _, _, _, hlen, hg⟩ := DataW.trod_struct Try.underlying25 hf
    match xs, hlen with
    | [y0, y1], _ =>
      have g0 := hg 0 _ rfl
      simp [Value.cells, cells3] at g0
      obtain ⟨lo, e0, _, w0⟩ := DataW.trod_int Try.underlying3 g0
      have g1 := hg 1 _ rfl
      simp [Value.cells, cells3] at g1
      obtain ⟨hi, e1, _, w1⟩ := DataW.trod_int Try.underlying3 g1
      try simp only [List.cons.injEq, and_true] at e0 e1
      subst e0 e1
      exact ⟨lo, hi, rfl, w0, w1⟩

set_option maxRecDepth 100000 in
theorem train_open {H : Type} {enc : TypeId × Value → H} {w : World} {r : Reach} {b0 base : Nat} {spare : Nat → Bool} {held : Bool} {v : Value} {d : DataW H} {p : List MemPlace}
    (hv : Value.okWide Try.prog w r b0 23 v) (h : DataW.Trod enc Try.prog w base spare held 23 v d p) :
    ∃ (l k f s c : Int), v = .agg #[.int .i64 l, .int .i64 k, .int .i64 f, .int .i64 s, .int .i64 c] ∧ (Lit.int .i64 l).wf = true ∧ (Lit.int .i64 k).wf = true ∧ (Lit.int .i64 f).wf = true ∧ (Lit.int .i64 s).wf = true ∧ (Lit.int .i64 c).wf = true := by
  obtain ⟨cs, rfl, hsz⟩ := okWide_struct Try.underlying23 hv
  have hsz2 := hsz.trans cells23
  obtain ⟨l⟩ := cs
  have hl : l.length = 5 := hsz2
  clear hsz hsz2 hv
  match l, hl with
  | [v0, v1, v2, v3, v4], _ =>
    obtain ⟨fuel, hf⟩ := h
    obtain ⟨xs, m, _, _, _, hlen, hg⟩ := DataW.trod_struct Try.underlying23 hf
    match xs, hlen with
    | [y0, y1, y2, y3, y4], _ =>
      have g0 := hg 0 _ rfl
      simp [Value.cells, cells3] at g0
      obtain ⟨l, e0, _, w0⟩ := DataW.trod_int Try.underlying3 g0
      have g1 := hg 1 _ rfl
      simp [Value.cells, cells3] at g1
      obtain ⟨k, e1, _, w1⟩ := DataW.trod_int Try.underlying3 g1
      have g2 := hg 2 _ rfl
      simp [Value.cells, cells3] at g2
      obtain ⟨f, e2, _, w2⟩ := DataW.trod_int Try.underlying3 g2
      have g3 := hg 3 _ rfl
      simp [Value.cells, cells3] at g3
      obtain ⟨s, e3, _, w3⟩ := DataW.trod_int Try.underlying3 g3
      have g4 := hg 4 _ rfl
      simp [Value.cells, cells3] at g4
      obtain ⟨c, e4, _, w4⟩ := DataW.trod_int Try.underlying3 g4
      try simp only [List.cons.injEq, and_true] at e0 e1 e2 e3 e4
      subst e0 e1 e2 e3 e4
      exact ⟨l, k, f, s, c, rfl, w0, w1, w2, w3, w4⟩

set_option maxRecDepth 100000 in
theorem recv_open {H : Type} {enc : TypeId × Value → H} {w : World} {r : Reach} {b0 base : Nat} {spare : Nat → Bool} {held : Bool} {v : Value} {d : DataW H} {p : List MemPlace}
    (hv : Value.okWide Try.prog w r b0 27 v) (h : DataW.Trod enc Try.prog w base spare held 27 v d p) :
    ∃ (lv ph n0 n1 : Int), v = .agg #[.int .i64 lv, .int .i64 ph, .int .i64 n0, .int .i64 n1] ∧ (Lit.int .i64 lv).wf = true ∧ (Lit.int .i64 ph).wf = true ∧ (Lit.int .i64 n0).wf = true ∧ (Lit.int .i64 n1).wf = true := by
  obtain ⟨cs, rfl, hsz⟩ := okWide_struct Try.underlying27 hv
  have hsz2 := hsz.trans cells27
  obtain ⟨l⟩ := cs
  have hl : l.length = 4 := hsz2
  clear hsz hsz2 hv
  match l, hl with
  | [v0, v1, v2, v3], _ =>
    obtain ⟨fuel, hf⟩ := h
    obtain ⟨xs, m, _, _, _, hlen, hg⟩ := DataW.trod_struct Try.underlying27 hf
    match xs, hlen with
    | [y0, y1, y2], _ =>
      have g0 := hg 0 _ rfl
      simp [Value.cells, cells3] at g0
      obtain ⟨lv, e0, _, w0⟩ := DataW.trod_int Try.underlying3 g0
      have g1 := hg 1 _ rfl
      simp [Value.cells, cells3] at g1
      obtain ⟨ph, e1, _, w1⟩ := DataW.trod_int Try.underlying3 g1
      have g2 := hg 2 _ rfl
      simp [Value.cells, cells25] at g2
      obtain ⟨n0, n1, e2, e3, w2, w3⟩ := span_trod g2
      try simp only [List.cons.injEq, and_true] at e0 e1 e2 e3
      subst e0 e1 e2 e3
      exact ⟨lv, ph, n0, n1, rfl, w0, w1, w2, w3⟩

set_option maxRecDepth 100000 in
theorem echo_open {H : Type} {enc : TypeId × Value → H} {w : World} {r : Reach} {b0 base : Nat} {spare : Nat → Bool} {held : Bool} {v : Value} {d : DataW H} {p : List MemPlace}
    (hv : Value.okWide Try.prog w r b0 30 v) (h : DataW.Trod enc Try.prog w base spare held 30 v d p) :
    ∃ (kd p0 p1 s0 s1 s2 s3 sp r0 r1 m0 m1 t0 t1 : Int), v = .agg #[.int .i64 kd, .int .i64 p0, .int .i64 p1, .int .i64 s0, .int .i64 s1, .int .i64 s2, .int .i64 s3, .int .i64 sp, .int .i64 r0, .int .i64 r1, .int .i64 m0, .int .i64 m1, .int .i64 t0, .int .i64 t1] ∧ (Lit.int .i64 kd).wf = true ∧ (Lit.int .i64 p0).wf = true ∧ (Lit.int .i64 p1).wf = true ∧ (Lit.int .i64 s0).wf = true ∧ (Lit.int .i64 s1).wf = true ∧ (Lit.int .i64 s2).wf = true ∧ (Lit.int .i64 s3).wf = true ∧ (Lit.int .i64 sp).wf = true ∧ (Lit.int .i64 r0).wf = true ∧ (Lit.int .i64 r1).wf = true ∧ (Lit.int .i64 m0).wf = true ∧ (Lit.int .i64 m1).wf = true ∧ (Lit.int .i64 t0).wf = true ∧ (Lit.int .i64 t1).wf = true := by
  obtain ⟨cs, rfl, hsz⟩ := okWide_struct Try.underlying30 hv
  have hsz2 := hsz.trans cells30
  obtain ⟨l⟩ := cs
  have hl : l.length = 14 := hsz2
  clear hsz hsz2 hv
  match l, hl with
  | [v0, v1, v2, v3, v4, v5, v6, v7, v8, v9, v10, v11, v12, v13], _ =>
    obtain ⟨fuel, hf⟩ := h
    obtain ⟨xs, m, _, _, _, hlen, hg⟩ := DataW.trod_struct Try.underlying30 hf
    match xs, hlen with
    | [y0, y1, y2, y3, y4, y5, y6], _ =>
      have g0 := hg 0 _ rfl
      simp [Value.cells, cells3] at g0
      obtain ⟨kd, e0, _, w0⟩ := DataW.trod_int Try.underlying3 g0
      have g1 := hg 1 _ rfl
      simp [Value.cells, cells25] at g1
      obtain ⟨p0, p1, e1, e2, w1, w2⟩ := span_trod g1
      have g2 := hg 2 _ rfl
      simp [Value.cells, cells28] at g2
      obtain ⟨s0, s1, s2, s3, e3, e4, e5, e6, w3, w4, w5, w6⟩ := steps_trod g2
      have g3 := hg 3 _ rfl
      simp [Value.cells, cells3] at g3
      obtain ⟨sp, e7, _, w7⟩ := DataW.trod_int Try.underlying3 g3
      have g4 := hg 4 _ rfl
      simp [Value.cells, cells25] at g4
      obtain ⟨r0, r1, e8, e9, w8, w9⟩ := span_trod g4
      have g5 := hg 5 _ rfl
      simp [Value.cells, cells25] at g5
      obtain ⟨m0, m1, e10, e11, w10, w11⟩ := span_trod g5
      have g6 := hg 6 _ rfl
      simp [Value.cells, cells25] at g6
      obtain ⟨t0, t1, e12, e13, w12, w13⟩ := span_trod g6
      try simp only [List.cons.injEq, and_true] at e0 e1 e2 e3 e4 e5 e6 e7 e8 e9 e10 e11 e12 e13
      subst e0 e1 e2 e3 e4 e5 e6 e7 e8 e9 e10 e11 e12 e13
      exact ⟨kd, p0, p1, s0, s1, s2, s3, sp, r0, r1, m0, m1, t0, t1, rfl, w0, w1, w2, w3, w4, w5, w6, w7, w8, w9, w10, w11, w12, w13⟩

set_option maxRecDepth 100000 in
theorem pair_open {H : Type} {enc : TypeId × Value → H} {w : World} {r : Reach} {b0 base : Nat} {spare : Nat → Bool} {held : Bool} {v : Value} {d : DataW H} {p : List MemPlace}
    (hv : Value.okWide Try.prog w r b0 67 v) (h : DataW.Trod enc Try.prog w base spare held 67 v d p) :
    ∃ (a b : Int), v = .agg #[.int .i64 a, .int .i64 b] ∧ (Lit.int .i64 a).wf = true ∧ (Lit.int .i64 b).wf = true := by
  simp only [Value.okWide, Try.underlying67] at hv
  obtain ⟨cs, rfl, hsz, _⟩ := hv
  have hsz2 := hsz.trans cells67
  obtain ⟨l⟩ := cs
  have hl : l.length = 2 := hsz2
  clear hsz hsz2
  match l, hl with
  | [v0, v1], _ =>
    obtain ⟨fuel, hf⟩ := h
    obtain ⟨xs, m, _, _, _, hlen, hg⟩ := DataW.trod_array Try.underlying67 hf
    match xs, hlen with
    | [y0, y1], _ =>
      have g0 := hg 0 (by decide)
      simp [cells3, Value.cells] at g0
      have g1 := hg 1 (by decide)
      simp [cells3, Value.cells] at g1
      obtain ⟨a, e0, _, w0⟩ := DataW.trod_int Try.underlying3 g0
      obtain ⟨b, e1, _, w1⟩ := DataW.trod_int Try.underlying3 g1
      simp only [List.cons.injEq, and_true] at e0 e1
      subst e0 e1
      exact ⟨a, b, rfl, w0, w1⟩

end Go.Proofs.Ytmojnopgpgnfeaa

namespace Go.Proofs.Ytmojnopgpgnfeaa
open Go.ChangeShapes Go.WideShapes Go.ChangeAt Go.RowKit
set_option linter.unusedVariables false

theorem add_at {a : Addr} {i : Nat} (h : a.spot = none) : a.add i = ⟨a.block, a.off + i, none⟩ := by
  obtain ⟨b, off, spot⟩ := a
  subst h
  unfold Addr.add
  by_cases hi : i = 0 <;> simp [hi]

/-- the numbers of a slice -/
def NumsAt (k : IntKind) (w : World) (b off len : Nat) (cs : Nat → Int) : Prop := ∀ i, i < len → w.cell? ⟨b, off + i, none⟩ = some (.int k (cs i))
def NumsIs (k : IntKind) (w : World) (a : Option Addr) (len : Nat) (cs : Nat → Int) : Prop :=
  len = 0 ∨ ∃ b off, a = some ⟨b, off, none⟩ ∧ b < w.heap.size ∧ NumsAt k w b off len cs
theorem NumsAt.keep {k : IntKind} {B b off len : Nat} {W w1 : World} {cs : Nat → Int} (s : NumsAt k W b off len cs) (hb : Below B W w1) (h : b < B) : NumsAt k w1 b off len cs := fun i hi => keepB hb h (s i hi)
theorem NumsIs.keep {k : IntKind} {a : Option Addr} {len : Nat} {W w1 : World} {cs : Nat → Int} (s : NumsIs k W a len cs) (hb : Below W.heap.size W w1) : NumsIs k w1 a len cs := by
  rcases s with h | ⟨b, off, h, hl, hs⟩
  · exact .inl h
  · exact .inr ⟨b, off, h, Nat.lt_of_lt_of_le hl hb.size, hs.keep hb hl⟩

set_option maxRecDepth 100000 in
theorem nums_open {H : Type} {enc : TypeId × Value → H} {w : World} {r : Reach} {b0 base : Nat} {spare : Nat → Bool} {held : Bool} {v : Value} {d : DataW H} {p : List MemPlace} {t e : TypeId} {k : IntKind}
    (ht : Try.prog.underlying t = some (.slice e)) (he : Try.prog.underlying e = some (.int k)) (hc : Try.prog.cellsOf e = 1) (h0 : (Lit.int k 0).wf = true)
    (hv : Value.okWide Try.prog w r b0 t v) (h : DataW.Trod enc Try.prog w base spare held t v d p) :
    ∃ (a : Option Addr) (len cap : Nat) (cs : Nat → Int), v = .slice a len cap ∧ len ≤ maxLen ∧ NumsIs k w a len cs ∧ ∀ i, (Lit.int k (cs i)).wf = true := by
  obtain ⟨a, len, cap, rfl⟩ := okWide_slice ht hv
  obtain ⟨fuel, hf⟩ := h
  rcases open_ints ht he hc hf with ⟨hcs, _⟩ | ⟨a2, len2, cap2, zs, hcs, _, hl, hm, hzl, _, hz, hw⟩
  · have hcs2 : [Value.slice a len cap] = [Value.slice none 0 0] := hcs
    simp only [List.cons.injEq, Value.slice.injEq, and_true] at hcs2
    obtain ⟨rfl, rfl, rfl⟩ := hcs2
    exact ⟨none, 0, 0, fun _ => 0, rfl, by decide, .inl rfl, fun _ => h0⟩
  · have hcs2 : [Value.slice a len cap] = [Value.slice (some a2) len2 cap2] := hcs
    simp only [List.cons.injEq, Value.slice.injEq, and_true] at hcs2
    obtain ⟨rfl, rfl, rfl⟩ := hcs2
    have hle : len ≤ zs.length := by rw [hzl]; split <;> omega
    refine ⟨some a2, len, cap, fun i => zs.getD i 0, rfl, by omega, ?_, fun i => ?_⟩
    · by_cases h0 : len = 0
      · exact .inl h0
      · have hsp : a2.spot = none := World.cell?_spot (show w.cell? (a2.add 0) = some _ from hz 0 (by omega))
        refine .inr ⟨a2.block, a2.off, ?_, ?_, fun i hil => ?_⟩
        · obtain ⟨b, off, spot⟩ := a2
          simp only at hsp
          rw [hsp]
        · have h1 := hz 0 (by omega)
          rw [add_at hsp] at h1
          exact World.block_lt_of_cell? w ⟨a2.block, a2.off + 0, none⟩ h1
        · have h1 := hz i (by omega)
          rw [add_at hsp] at h1
          exact h1
    · show (Lit.int k (zs.getD i 0)).wf = true
      by_cases hi : i < zs.length
      · exact hw _ (by rw [List.getD_eq_getElem?_getD, List.getElem?_eq_getElem hi]; exact List.getElem_mem hi)
      · rw [List.getD_eq_getElem?_getD, List.getElem?_eq_none (by omega)]; exact h0

end Go.Proofs.Ytmojnopgpgnfeaa

namespace Go.Proofs.Ytmojnopgpgnfeaa
open Go.ChangeShapes Go.WideShapes Go.ChangeAt Go.RowKit
set_option linter.unusedVariables false
set_option linter.unusedSimpArgs false

theorem cells9 : Try.prog.cellsOf 9 = 1 := by kernel_rfl
theorem cells43 : Try.prog.cellsOf 43 = 8 := by kernel_rfl
theorem cells44 : Try.prog.cellsOf 44 = 1 := by kernel_rfl
theorem cells46 : Try.prog.cellsOf 46 = 11 := by kernel_rfl
theorem cells47 : Try.prog.cellsOf 47 = 1 := by kernel_rfl

/-- echoes, one after the other: their numbers -/
def EchosAt (w : World) (b off len : Nat) (xs : Nat → Nat → Int) : Prop := ∀ i, i < len → ∀ j, j < 14 → w.cell? ⟨b, off + i * 14 + j, none⟩ = some (.int .i64 (xs i j))
def EchosIs (w : World) (a : Option Addr) (len : Nat) (xs : Nat → Nat → Int) : Prop :=
  len = 0 ∨ ∃ b off, a = some ⟨b, off, none⟩ ∧ b < w.heap.size ∧ EchosAt w b off len xs
/-- a ray: its slice, and its echoes -/
structure RayD where
  a : Option Addr
  len : Nat
  cap : Nat
  xs : Nat → Nat → Int
def RaysAt (w : World) (b off n : Nat) (rs : Nat → RayD) : Prop := ∀ i, i < n → w.cell? ⟨b, off + i, none⟩ = some (.slice (rs i).a (rs i).len (rs i).cap) ∧ (rs i).len ≤ maxLen ∧ EchosIs w (rs i).a (rs i).len (rs i).xs
def RaysIs (w : World) (a : Option Addr) (n : Nat) (rs : Nat → RayD) : Prop :=
  n = 0 ∨ ∃ b off, a = some ⟨b, off, none⟩ ∧ b < w.heap.size ∧ RaysAt w b off n rs
theorem EchosAt.keep {B b off len : Nat} {W w1 : World} {xs : Nat → Nat → Int} (s : EchosAt W b off len xs) (hb : Below B W w1) (h : b < B) : EchosAt w1 b off len xs := fun i hi j hj => keepB hb h (s i hi j hj)
theorem EchosIs.keep {a : Option Addr} {len : Nat} {W w1 : World} {xs : Nat → Nat → Int} (s : EchosIs W a len xs) (hb : Below W.heap.size W w1) : EchosIs w1 a len xs := by
  rcases s with h | ⟨b, off, h, hl, hs⟩
  · exact .inl h
  · exact .inr ⟨b, off, h, Nat.lt_of_lt_of_le hl hb.size, hs.keep hb hl⟩
theorem RaysAt.keep {b off n : Nat} {W w1 : World} {rs : Nat → RayD} (s : RaysAt W b off n rs) (hb : Below W.heap.size W w1) (h : b < W.heap.size) : RaysAt w1 b off n rs := fun i hi => ⟨keepB hb h (s i hi).1, (s i hi).2.1, (s i hi).2.2.keep hb⟩
theorem RaysIs.keep {a : Option Addr} {n : Nat} {W w1 : World} {rs : Nat → RayD} (s : RaysIs W a n rs) (hb : Below W.heap.size W w1) : RaysIs w1 a n rs := by
  rcases s with h | ⟨b, off, h, hl, hs⟩
  · exact .inl h
  · exact .inr ⟨b, off, h, Nat.lt_of_lt_of_le hl hb.size, hs.keep hb hl⟩

set_option maxRecDepth 100000 in
theorem echo_trod {H : Type} {enc : TypeId × Value → H} {w : World} {base : Nat} {spare : Nat → Bool} {held : Bool} {fuel : Nat} {v0 v1 v2 v3 v4 v5 v6 v7 v8 v9 v10 v11 v12 v13 : Value} {y : DataW H × List MemPlace}
    (hf : DataW.trod enc Try.prog w base spare held fuel 30 [v0, v1, v2, v3, v4, v5, v6, v7, v8, v9, v10, v11, v12, v13] = some y) : ∃ (kd p0 p1 s0 s1 s2 s3 sp r0 r1 m0 m1 t0 t1 : Int), v0 = .int .i64 kd ∧ v1 = .int .i64 p0 ∧ v2 = .int .i64 p1 ∧ v3 = .int .i64 s0 ∧ v4 = .int .i64 s1 ∧ v5 = .int .i64 s2 ∧ v6 = .int .i64 s3 ∧ v7 = .int .i64 sp ∧ v8 = .int .i64 r0 ∧ v9 = .int .i64 r1 ∧ v10 = .int .i64 m0 ∧ v11 = .int .i64 m1 ∧ v12 = .int .i64 t0 ∧ v13 = .int .i64 t1 := by
  obtain ⟨xs, m, _, _, _, hlen, hg⟩ := DataW.trod_struct Try.underlying30 hf
  match xs, hlen with
  | [y0, y1, y2, y3, y4, y5, y6], _ =>
    have g0 := hg 0 _ rfl
    simp [Value.cells, cells3] at g0
    obtain ⟨kd, e0, _, w0⟩ := DataW.trod_int Try.underlying3 g0
    have g1 := hg 1 _ rfl
    simp [Value.cells, cells25] at g1
    obtain ⟨p0, p1, e1, e2, w1, w2⟩ := span_trod g1
    have g2 := hg 2 _ rfl
    simp [Value.cells, cells28] at g2
    obtain ⟨s0, s1, s2, s3, e3, e4, e5, e6, w3, w4, w5, w6⟩ := steps_trod g2
    have g3 := hg 3 _ rfl
    simp [Value.cells, cells3] at g3
    obtain ⟨sp, e7, _, w7⟩ := DataW.trod_int Try.underlying3 g3
    have g4 := hg 4 _ rfl
    simp [Value.cells, cells25] at g4
    obtain ⟨r0, r1, e8, e9, w8, w9⟩ := span_trod g4
    have g5 := hg 5 _ rfl
    simp [Value.cells, cells25] at g5
    obtain ⟨m0, m1, e10, e11, w10, w11⟩ := span_trod g5
    have g6 := hg 6 _ rfl
    simp [Value.cells, cells25] at g6
    obtain ⟨t0, t1, e12, e13, w12, w13⟩ := span_trod g6
    try simp only [List.cons.injEq, and_true] at e0 e1 e2 e3 e4 e5 e6 e7 e8 e9 e10 e11 e12 e13
    exact ⟨kd, p0, p1, s0, s1, s2, s3, sp, r0, r1, m0, m1, t0, t1, e0, e1, e2, e3, e4, e5, e6, e7, e8, e9, e10, e11, e12, e13⟩
theorem add_at2 {a : Addr} {i j : Nat} (h : a.spot = none) : (a.add i).add j = ⟨a.block, a.off + i + j, none⟩ := by
  rw [Go.Deep.add_add, add_at h, Nat.add_assoc]

set_option maxRecDepth 100000 in
theorem echos_open {H : Type} {enc : TypeId × Value → H} {w : World} {base : Nat} {spare : Nat → Bool} {held : Bool} {n : Nat} {v : Value} {x : DataW H × List MemPlace}
    (h : DataW.trod enc Try.prog w base spare held n 47 [v] = some x) :
    ∃ r : RayD, v = .slice r.a r.len r.cap ∧ r.len ≤ maxLen ∧ EchosIs w r.a r.len r.xs := by
  rcases Go.Deep.open_slice Try.underlying47 h with ⟨hc, _⟩ | ⟨a, len, cap, m, k, D, Pl, hc, _, hl, hm, hmm, _, hi⟩
  · simp only [List.cons.injEq, and_true] at hc
    exact ⟨⟨none, 0, 0, fun _ _ => 0⟩, hc, by decide, .inl rfl⟩
  · simp only [List.cons.injEq, and_true] at hc
    have hle : len ≤ m := by rw [hmm]; split <;> omega
    have key : ∀ i, ∃ p : Nat → Int, i < len → ∀ j, j < 14 → w.cell? ((a.add (i * 14)).add j) = some (.int .i64 (p j)) := by
      intro i
      by_cases hil : i < len
      · obtain ⟨cs', hcs, ht⟩ := hi i (by omega)
        rw [cells30] at hcs
        obtain ⟨_, hcl, hat⟩ := World.cells?_some hcs
        match cs', hcl with
        | [v0, v1, v2, v3, v4, v5, v6, v7, v8, v9, v10, v11, v12, v13], _ =>
          obtain ⟨kd, p0, p1, s0, s1, s2, s3, sp, r0, r1, m0, m1, t0, t1, rfl, rfl, rfl, rfl, rfl, rfl, rfl, rfl, rfl, rfl, rfl, rfl, rfl, rfl⟩ := echo_trod ht
          refine ⟨fun j => ([kd, p0, p1, s0, s1, s2, s3, sp, r0, r1, m0, m1, t0, t1] : List Int)[j]?.getD 0, fun _ j hj => ?_⟩
          have hh := hat j hj
          rw [hh]
          have hj' : j = 0 ∨ j = 1 ∨ j = 2 ∨ j = 3 ∨ j = 4 ∨ j = 5 ∨ j = 6 ∨ j = 7 ∨ j = 8 ∨ j = 9 ∨ j = 10 ∨ j = 11 ∨ j = 12 ∨ j = 13 := by omega
          rcases hj' with rfl | rfl | rfl | rfl | rfl | rfl | rfl | rfl | rfl | rfl | rfl | rfl | rfl | rfl <;> rfl
      · exact ⟨fun _ => 0, fun h => absurd h hil⟩
    obtain ⟨zs, hz⟩ := Classical.axiomOfChoice key
    refine ⟨⟨some a, len, cap, zs⟩, hc, Nat.le_trans hl hm, ?_⟩
    by_cases h0 : len = 0
    · exact .inl h0
    · have h1 := hz 0 (by omega) 0 (by decide)
      have hsp : a.spot = none := by
        have h2 := h1
        rw [Go.Deep.add_add] at h2
        exact World.cell?_spot h2
      refine .inr ⟨a.block, a.off, ?_, ?_, fun i hil j hj => ?_⟩
      · obtain ⟨b, off, spot⟩ := a
        simp only at hsp
        rw [hsp]
      · rw [add_at2 hsp] at h1
        exact World.block_lt_of_cell? w ⟨a.block, a.off + 0 * 14 + 0, none⟩ h1
      · have h2 := hz i hil j hj
        rw [add_at2 hsp] at h2
        exact h2

set_option maxRecDepth 100000 in
theorem rays_open {H : Type} {enc : TypeId × Value → H} {w : World} {base : Nat} {spare : Nat → Bool} {held : Bool} {n : Nat} {v : Value} {x : DataW H × List MemPlace}
    (h : DataW.trod enc Try.prog w base spare held n 44 [v] = some x) :
    ∃ (a : Option Addr) (len cap : Nat) (rs : Nat → RayD), v = .slice a len cap ∧ len ≤ maxLen ∧ RaysIs w a len rs := by
  rcases Go.Deep.open_slice1 Try.underlying44 cells47 h with ⟨hc, _⟩ | ⟨a, len, cap, m, k, V, D, Pl, hc, _, hl, hm, hmm, _, hi⟩
  · simp only [List.cons.injEq, and_true] at hc
    exact ⟨none, 0, 0, fun _ => ⟨none, 0, 0, fun _ _ => 0⟩, hc, by decide, .inl rfl⟩
  · simp only [List.cons.injEq, and_true] at hc
    have hle : len ≤ m := by rw [hmm]; split <;> omega
    have key : ∀ i, ∃ r : RayD, i < len → w.cell? (a.add i) = some (.slice r.a r.len r.cap) ∧ r.len ≤ maxLen ∧ EchosIs w r.a r.len r.xs := by
      intro i
      by_cases hil : i < len
      · obtain ⟨h1, h2⟩ := hi i (by omega)
        obtain ⟨r, e, h3, h4⟩ := echos_open h2
        exact ⟨r, fun _ => ⟨by rw [h1, e], h3, h4⟩⟩
      · exact ⟨⟨none, 0, 0, fun _ _ => 0⟩, fun h => absurd h hil⟩
    obtain ⟨zs, hz⟩ := Classical.axiomOfChoice key
    refine ⟨some a, len, cap, zs, hc, Nat.le_trans hl hm, ?_⟩
    by_cases h0 : len = 0
    · exact .inl h0
    · have h1 := (hz 0 (by omega)).1
      have hsp : a.spot = none := World.cell?_spot h1
      refine .inr ⟨a.block, a.off, ?_, ?_, fun i hil => ?_⟩
      · obtain ⟨b, off, spot⟩ := a
        simp only at hsp
        rw [hsp]
      · rw [add_at hsp] at h1
        exact World.block_lt_of_cell? w ⟨a.block, a.off + 0, none⟩ h1
      · have h2 := hz i hil
        rw [add_at hsp] at h2
        exact h2

set_option maxRecDepth 100000 in
theorem sweep_open {H : Type} {enc : TypeId × Value → H} {w : World} {r : Reach} {b0 base : Nat} {spare : Nat → Bool} {held : Bool} {v : Value} {d : DataW H} {p : List MemPlace}
    (hv : Value.okWide Try.prog w r b0 46 v) (h : DataW.Trod enc Try.prog w base spare held 46 v d p) :
    ∃ (nm : ByteArray) (x y z rose gates step width tilt time : Int) (a : Option Addr) (n cap : Nat) (rs : Nat → RayD), v = .agg #[.string nm, .int .i64 x, .int .i64 y, .int .i64 z, .int .i64 rose, .int .i64 gates, .int .i64 step, .int .i64 width, .int .i64 tilt, .int .i64 time, .slice a n cap] ∧ nm.size ≤ maxLen ∧ n ≤ maxLen ∧ RaysIs w a n rs ∧ (Lit.int .i64 x).wf = true ∧ (Lit.int .i64 y).wf = true ∧ (Lit.int .i64 z).wf = true ∧ (Lit.int .i64 rose).wf = true ∧ (Lit.int .i64 gates).wf = true ∧ (Lit.int .i64 step).wf = true ∧ (Lit.int .i64 width).wf = true ∧ (Lit.int .i64 tilt).wf = true ∧ (Lit.int .i64 time).wf = true := by
  obtain ⟨cs, rfl, hsz⟩ := okWide_struct Try.underlying46 hv
  have hsz2 := hsz.trans cells46
  obtain ⟨l⟩ := cs
  have hl : l.length = 11 := hsz2
  clear hsz hsz2 hv
  match l, hl with
  | [v0, v1, v2, v3, v4, v5, v6, v7, v8, v9, v10], _ =>
    obtain ⟨fuel, hf⟩ := h
    obtain ⟨xs, m, _, _, _, hlen, hg⟩ := DataW.trod_struct Try.underlying46 hf
    match xs, hlen with
    | [q0, q1, q2, q3], _ =>
      have k0 := hg 0 _ rfl
      simp [Value.cells, cells43] at k0
      have k1 := hg 1 _ rfl
      simp [Value.cells, cells3] at k1
      obtain ⟨tilt, e8, _, w8⟩ := DataW.trod_int Try.underlying3 k1
      have k2 := hg 2 _ rfl
      simp [Value.cells, cells3] at k2
      obtain ⟨time, e9, _, w9⟩ := DataW.trod_int Try.underlying3 k2
      have k3 := hg 3 _ rfl
      simp [Value.cells, cells44] at k3
      obtain ⟨a, n, cap, rs, e10, hn, hr⟩ := rays_open k3
      obtain ⟨xs2, m2, _, _, _, hlen2, hg2⟩ := DataW.trod_struct Try.underlying43 k0
      match xs2, hlen2 with
      | [y0, y1, y2, y3, y4, y5, y6, y7], _ =>
        have g0 := hg2 0 _ rfl
        simp [Value.cells, cells9] at g0
        obtain ⟨nm, e0, _, w0⟩ := DataW.trod_string Try.underlying9 g0
        have g1 := hg2 1 _ rfl
        simp [Value.cells, cells3] at g1
        obtain ⟨x, e1, _, w1⟩ := DataW.trod_int Try.underlying3 g1
        have g2 := hg2 2 _ rfl
        simp [Value.cells, cells3] at g2
        obtain ⟨y, e2, _, w2⟩ := DataW.trod_int Try.underlying3 g2
        have g3 := hg2 3 _ rfl
        simp [Value.cells, cells3] at g3
        obtain ⟨z, e3, _, w3⟩ := DataW.trod_int Try.underlying3 g3
        have g4 := hg2 4 _ rfl
        simp [Value.cells, cells3] at g4
        obtain ⟨rose, e4, _, w4⟩ := DataW.trod_int Try.underlying3 g4
        have g5 := hg2 5 _ rfl
        simp [Value.cells, cells3] at g5
        obtain ⟨gates, e5, _, w5⟩ := DataW.trod_int Try.underlying3 g5
        have g6 := hg2 6 _ rfl
        simp [Value.cells, cells3] at g6
        obtain ⟨step, e6, _, w6⟩ := DataW.trod_int Try.underlying3 g6
        have g7 := hg2 7 _ rfl
        simp [Value.cells, cells3] at g7
        obtain ⟨width, e7, _, w7⟩ := DataW.trod_int Try.underlying3 g7
        try simp only [List.cons.injEq, and_true] at e0 e1 e2 e3 e4 e5 e6 e7 e8 e9
        subst e0 e1 e2 e3 e4 e5 e6 e7 e8 e9 e10
        exact ⟨nm, x, y, z, rose, gates, step, width, tilt, time, a, n, cap, rs, rfl, w0, hn, hr, w1, w2, w3, w4, w5, w6, w7, w8, w9⟩

end Go.Proofs.Ytmojnopgpgnfeaa

namespace Go.Proofs.Ytmojnopgpgnfeaa
open Go.ChangeShapes Go.WideShapes Go.ChangeAt Go.RowKit
set_option linter.unusedVariables false
set_option linter.unusedSimpArgs false

theorem cells84 : Try.prog.cellsOf 84 = 4 := by kernel_rfl
theorem cells80 : Try.prog.cellsOf 80 = 1 := by kernel_rfl
theorem cells82 : Try.prog.cellsOf 82 = 4 := by kernel_rfl
theorem cells88 : Try.prog.cellsOf 88 = 4 := by kernel_rfl
theorem wf_u16 {c : Int} (h : (Lit.int .u16 c).wf = true) : 0 ≤ c ∧ c < 65536 := by
  have h1 : (decide (IntKind.u16.min ≤ c) && decide (c ≤ IntKind.u16.max)) = true := h
  rw [Bool.and_eq_true, decide_eq_true_eq, decide_eq_true_eq, show IntKind.u16.min = 0 by decide, show IntKind.u16.max = 65535 by decide] at h1
  omega

set_option maxRecDepth 100000 in
theorem smp_trod {H : Type} {enc : TypeId × Value → H} {w : World} {base : Nat} {spare : Nat → Bool} {held : Bool} {fuel : Nat} {v0 v1 v2 v3 : Value} {y : DataW H × List MemPlace}
    (hf : DataW.trod enc Try.prog w base spare held fuel 84 [v0, v1, v2, v3] = some y) : ∃ z : Smp, v0 = .int .i64 z.h ∧ v1 = .int .i64 z.p ∧ v2 = .int .i64 z.v ∧ v3 = .int .i64 z.q := by
  obtain ⟨xs, m, _, _, _, hlen, hg⟩ := DataW.trod_struct Try.underlying84 hf
  match xs, hlen with
  | [y0, y1, y2, y3], _ =>
    have g0 := hg 0 _ rfl
    simp [Value.cells, cells3] at g0
    obtain ⟨a, e0, _, _⟩ := DataW.trod_int Try.underlying3 g0
    have g1 := hg 1 _ rfl
    simp [Value.cells, cells3] at g1
    obtain ⟨b, e1, _, _⟩ := DataW.trod_int Try.underlying3 g1
    have g2 := hg 2 _ rfl
    simp [Value.cells, cells3] at g2
    obtain ⟨c, e2, _, _⟩ := DataW.trod_int Try.underlying3 g2
    have g3 := hg 3 _ rfl
    simp [Value.cells, cells3] at g3
    obtain ⟨d, e3, _, _⟩ := DataW.trod_int Try.underlying3 g3
    simp only [List.cons.injEq, and_true] at e0 e1 e2 e3
    exact ⟨⟨a, b, c, d⟩, e0, e1, e2, e3⟩

set_option maxRecDepth 100000 in
theorem smps_open {H : Type} {enc : TypeId × Value → H} {w : World} {r : Reach} {b0 base : Nat} {spare : Nat → Bool} {held : Bool} {v : Value} {d : DataW H} {p : List MemPlace}
    (hv : Value.okWide Try.prog w r b0 54 v) (hh : DataW.Trod enc Try.prog w base spare held 54 v d p) :
    ∃ (a : Option Addr) (n cap : Nat) (zs : Nat → Smp), v = .slice a n cap ∧ n ≤ maxLen ∧ SmpsIs w a n zs := by
  obtain ⟨a0, n0, c0, rfl⟩ := okWide_slice Try.underlying54 hv
  obtain ⟨fuel, h⟩ := hh
  rcases Go.Deep.open_slice Try.underlying54 h with ⟨hc, _⟩ | ⟨a, len, cap, m, k, D, Pl, hc, _, hl, hm, hmm, _, hi⟩
  · have hc2 : [Value.slice a0 n0 c0] = [Value.slice none 0 0] := hc
    simp only [List.cons.injEq, and_true] at hc2
    exact ⟨none, 0, 0, fun _ => ⟨0, 0, 0, 0⟩, hc2, by decide, .inl rfl⟩
  · have hc2 : [Value.slice a0 n0 c0] = [Value.slice (some a) len cap] := hc
    simp only [List.cons.injEq, and_true] at hc2
    have hle : len ≤ m := by rw [hmm]; split <;> omega
    have key : ∀ i, ∃ z : Smp, i < len → w.cell? (a.add (i * 4)) = some (.int .i64 z.h) ∧ w.cell? ((a.add (i * 4)).add 1) = some (.int .i64 z.p) ∧ w.cell? ((a.add (i * 4)).add 2) = some (.int .i64 z.v) ∧ w.cell? ((a.add (i * 4)).add 3) = some (.int .i64 z.q) := by
      intro i
      by_cases hil : i < len
      · obtain ⟨cs', hcs, ht⟩ := hi i (by omega)
        rw [cells84] at hcs
        obtain ⟨_, hcl, hat⟩ := World.cells?_some hcs
        match cs', hcl with
        | [v0, v1, v2, v3], _ =>
          obtain ⟨z, rfl, rfl, rfl, rfl⟩ := smp_trod ht
          refine ⟨z, fun _ => ⟨?_, hat 1 (by decide), hat 2 (by decide), hat 3 (by decide)⟩⟩
          have h0 := hat 0 (by decide)
          have e : (a.add (i * 4)).add 0 = a.add (i * 4) := by rw [Go.Deep.add_add]; rfl
          rw [e] at h0; exact h0
      · exact ⟨⟨0, 0, 0, 0⟩, fun h => absurd h hil⟩
    obtain ⟨zs, hz⟩ := Classical.axiomOfChoice key
    refine ⟨some a, len, cap, zs, hc2, Nat.le_trans hl hm, ?_⟩
    by_cases h0 : len = 0
    · exact .inl h0
    · have h1 := (hz 0 (by omega)).1
      have hsp : a.spot = none := World.cell?_spot h1
      refine .inr ⟨a.block, a.off, ?_, ?_, fun i hil => ?_, fun i hil => ?_, fun i hil => ?_, fun i hil => ?_⟩
      · obtain ⟨b, off, spot⟩ := a
        simp only at hsp
        rw [hsp]
      · rw [add_at hsp] at h1
        exact World.block_lt_of_cell? w ⟨a.block, a.off + 0 * 4, none⟩ h1
      · have h2 := (hz i hil).1
        rw [add_at hsp] at h2; exact h2
      · have h2 := (hz i hil).2.1
        rw [add_at2 hsp] at h2; exact h2
      · have h2 := (hz i hil).2.2.1
        rw [add_at2 hsp] at h2; exact h2
      · have h2 := (hz i hil).2.2.2
        rw [add_at2 hsp] at h2; exact h2

set_option maxRecDepth 100000 in
theorem four_open {H : Type} {enc : TypeId × Value → H} {w : World} {r : Reach} {b0 base : Nat} {spare : Nat → Bool} {held : Bool} {v : Value} {d : DataW H} {p : List MemPlace}
    (hv : Value.okWide Try.prog w r b0 88 v) (h : DataW.Trod enc Try.prog w base spare held 88 v d p) :
    ∃ (d0 d1 d2 d3 : Int), v = .agg #[.int .u16 d0, .int .u16 d1, .int .u16 d2, .int .u16 d3] ∧ (0 ≤ d0 ∧ d0 < 65536) ∧ (0 ≤ d1 ∧ d1 < 65536) ∧ (0 ≤ d2 ∧ d2 < 65536) ∧ (0 ≤ d3 ∧ d3 < 65536) := by
  simp only [Value.okWide, Try.underlying88] at hv
  obtain ⟨cs, rfl, hsz, _⟩ := hv
  have hsz2 := hsz.trans cells88
  obtain ⟨l⟩ := cs
  have hl : l.length = 4 := hsz2
  clear hsz hsz2
  match l, hl with
  | [v0, v1, v2, v3], _ =>
    obtain ⟨fuel, hf⟩ := h
    obtain ⟨xs, m, _, _, _, hlen, hg⟩ := DataW.trod_array Try.underlying88 hf
    match xs, hlen with
    | [y0, y1, y2, y3], _ =>
      have g0 := hg 0 (by decide)
      simp [cells80, Value.cells] at g0
      have g1 := hg 1 (by decide)
      simp [cells80, Value.cells] at g1
      have g2 := hg 2 (by decide)
      simp [cells80, Value.cells] at g2
      have g3 := hg 3 (by decide)
      simp [cells80, Value.cells] at g3
      obtain ⟨a, e0, _, w0⟩ := DataW.trod_int Try.underlying80 g0
      obtain ⟨b, e1, _, w1⟩ := DataW.trod_int Try.underlying80 g1
      obtain ⟨c, e2, _, w2⟩ := DataW.trod_int Try.underlying80 g2
      obtain ⟨d, e3, _, w3⟩ := DataW.trod_int Try.underlying80 g3
      simp only [List.cons.injEq, and_true] at e0 e1 e2 e3
      subst e0 e1 e2 e3
      exact ⟨a, b, c, d, rfl, wf_u16 w0, wf_u16 w1, wf_u16 w2, wf_u16 w3⟩

end Go.Proofs.Ytmojnopgpgnfeaa
