/-
  Tables, spans and models by value, opened.
-/
import Derived.Test.YtdmbkhmhaininaaB
import Derived.Test.YtdmbkhmhaininaaChecked
import Derived.Deep.Slices
import Derived.Deep.Fields
import Derived.WalkKit
import Derived.ProofKit
import Derived.OpenShut
import Derived.ShutString
import Derived.ChangeOld
namespace Go.Proofs.Ytdmbkhmhaininaa
open Go.ChangeShapes Go.WideShapes Go.ChangeAt Go.RowKit
set_option linter.unusedVariables false
set_option linter.unusedSimpArgs false

theorem add_at {a : Addr} {i : Nat} (h : a.spot = none) : a.add i = ⟨a.block, a.off + i, none⟩ := by
  obtain ⟨b, off, spot⟩ := a
  subst h
  unfold Addr.add
  by_cases hi : i = 0 <;> simp [hi]
theorem cells3 : Try.prog.cellsOf 3 = 1 := by kernel_rfl
theorem cells22 : Try.prog.cellsOf 22 = 1 := by kernel_rfl
theorem cells24 : Try.prog.cellsOf 24 = 2 := by kernel_rfl
theorem cells26 : Try.prog.cellsOf 26 = 8 := by kernel_rfl
theorem cells112 : Try.prog.cellsOf 112 = 2 := by kernel_rfl

set_option maxRecDepth 100000 in
theorem pts_trod {H : Type} {enc : TypeId × Value → H} {w : World} {base : Nat} {spare : Nat → Bool} {held : Bool} {n : Nat} {v : Value} {x : DataW H × List MemPlace}
    (h : DataW.trod enc Try.prog w base spare held n 22 [v] = some x) :
    ∃ (a : Option Addr) (len cap : Nat) (zs : Nat → Int × Int), v = .slice a len cap ∧ len ≤ maxLen ∧ SliceIs w a len cap zs := by
  rcases Go.Deep.open_slice Try.underlying22 h with ⟨hc, _⟩ | ⟨a, len, cap, m, k, D, Pl, hc, _, hl, hm, hmm, _, hi⟩
  · simp only [List.cons.injEq, and_true] at hc
    exact ⟨none, 0, 0, fun _ => (0, 0), hc, by decide, .inl rfl⟩
  · simp only [List.cons.injEq, and_true] at hc
    have hle : len ≤ m := by rw [hmm]; split <;> omega
    have key : ∀ i, ∃ p : Int × Int, i < len → w.cell? (a.add (i * 2)) = some (.int .i64 p.1) ∧ w.cell? ((a.add (i * 2)).add 1) = some (.int .i64 p.2) := by
      intro i
      by_cases hil : i < len
      · obtain ⟨cs', hcs, ht⟩ := hi i (by omega)
        rw [cells112] at hcs
        obtain ⟨_, hcl, hat⟩ := World.cells?_some hcs
        obtain ⟨xs, q, _, _, _, hlen, hg⟩ := DataW.trod_struct Try.underlying112 ht
        match cs', hcl with
        | [c0, c1], _ =>
          match xs, hlen with
          | [y0, y1], _ =>
            have g0 := hg 0 _ rfl
            have g1 := hg 1 _ rfl
            simp [cells3] at g0 g1
            obtain ⟨lo, e0, _, _⟩ := DataW.trod_int Try.underlying3 g0
            obtain ⟨hi', e1, _, _⟩ := DataW.trod_int Try.underlying3 g1
            simp only [List.cons.injEq, and_true] at e0 e1
            subst e0 e1
            refine ⟨(lo, hi'), fun _ => ⟨?_, ?_⟩⟩
            · have h0 := hat 0 (by decide)
              have e : (a.add (i * 2)).add 0 = a.add (i * 2) := by rw [Go.Deep.add_add]; rfl
              rw [e] at h0; exact h0
            · exact hat 1 (by decide)
      · exact ⟨(0, 0), fun h => absurd h hil⟩
    obtain ⟨zs, hz⟩ := Classical.axiomOfChoice key
    refine ⟨some a, len, cap, zs, hc, Nat.le_trans hl hm, ?_⟩
    by_cases h0 : len = 0
    · exact .inl h0
    · have hsp : a.spot = none := World.cell?_spot (show w.cell? a = some _ from (hz 0 (by omega)).1)
      refine .inr ⟨a.block, a.off, ?_, ?_, fun i hil => ?_⟩
      · obtain ⟨b, off, spot⟩ := a
        simp only at hsp
        rw [hsp]
      · have h1 := (hz 0 (by omega)).1
        rw [add_at hsp] at h1
        exact World.block_lt_of_cell? w ⟨a.block, a.off + 0 * 2, none⟩ h1
      · obtain ⟨h1, h2⟩ := hz i hil
        rw [Go.Deep.add_add] at h2
        rw [add_at hsp] at h1 h2
        exact ⟨h1, h2⟩
set_option maxRecDepth 100000 in
theorem pts_open {H : Type} {enc : TypeId × Value → H} {w : World} {r : Reach} {b0 base : Nat} {spare : Nat → Bool} {held : Bool} {v : Value} {d : DataW H} {p : List MemPlace}
    (hv : Value.okWide Try.prog w r b0 22 v) (hh : DataW.Trod enc Try.prog w base spare held 22 v d p) :
    ∃ (a : Option Addr) (len cap : Nat) (zs : Nat → Int × Int), v = .slice a len cap ∧ len ≤ maxLen ∧ SliceIs w a len cap zs := by
  obtain ⟨a0, n0, c0, rfl⟩ := okWide_slice Try.underlying22 hv
  obtain ⟨fuel, h⟩ := hh
  exact pts_trod h

set_option maxRecDepth 100000 in
theorem spans_trod {H : Type} {enc : TypeId × Value → H} {w : World} {base : Nat} {spare : Nat → Bool} {held : Bool} {n : Nat} {v : Value} {x : DataW H × List MemPlace}
    (h : DataW.trod enc Try.prog w base spare held n 44 [v] = some x) :
    ∃ (a : Option Addr) (len cap : Nat) (zs : Nat → Int × Int), v = .slice a len cap ∧ len ≤ maxLen ∧ SliceIs w a len cap zs := by
  rcases Go.Deep.open_slice Try.underlying44 h with ⟨hc, _⟩ | ⟨a, len, cap, m, k, D, Pl, hc, _, hl, hm, hmm, _, hi⟩
  · simp only [List.cons.injEq, and_true] at hc
    exact ⟨none, 0, 0, fun _ => (0, 0), hc, by decide, .inl rfl⟩
  · simp only [List.cons.injEq, and_true] at hc
    have hle : len ≤ m := by rw [hmm]; split <;> omega
    have key : ∀ i, ∃ p : Int × Int, i < len → w.cell? (a.add (i * 2)) = some (.int .i64 p.1) ∧ w.cell? ((a.add (i * 2)).add 1) = some (.int .i64 p.2) := by
      intro i
      by_cases hil : i < len
      · obtain ⟨cs', hcs, ht⟩ := hi i (by omega)
        rw [cells24] at hcs
        obtain ⟨_, hcl, hat⟩ := World.cells?_some hcs
        obtain ⟨xs, q, _, _, _, hlen, hg⟩ := DataW.trod_struct Try.underlying24 ht
        match cs', hcl with
        | [c0, c1], _ =>
          match xs, hlen with
          | [y0, y1], _ =>
            have g0 := hg 0 _ rfl
            have g1 := hg 1 _ rfl
            simp [cells3] at g0 g1
            obtain ⟨lo, e0, _, _⟩ := DataW.trod_int Try.underlying3 g0
            obtain ⟨hi', e1, _, _⟩ := DataW.trod_int Try.underlying3 g1
            simp only [List.cons.injEq, and_true] at e0 e1
            subst e0 e1
            refine ⟨(lo, hi'), fun _ => ⟨?_, ?_⟩⟩
            · have h0 := hat 0 (by decide)
              have e : (a.add (i * 2)).add 0 = a.add (i * 2) := by rw [Go.Deep.add_add]; rfl
              rw [e] at h0; exact h0
            · exact hat 1 (by decide)
      · exact ⟨(0, 0), fun h => absurd h hil⟩
    obtain ⟨zs, hz⟩ := Classical.axiomOfChoice key
    refine ⟨some a, len, cap, zs, hc, Nat.le_trans hl hm, ?_⟩
    by_cases h0 : len = 0
    · exact .inl h0
    · have hsp : a.spot = none := World.cell?_spot (show w.cell? a = some _ from (hz 0 (by omega)).1)
      refine .inr ⟨a.block, a.off, ?_, ?_, fun i hil => ?_⟩
      · obtain ⟨b, off, spot⟩ := a
        simp only at hsp
        rw [hsp]
      · have h1 := (hz 0 (by omega)).1
        rw [add_at hsp] at h1
        exact World.block_lt_of_cell? w ⟨a.block, a.off + 0 * 2, none⟩ h1
      · obtain ⟨h1, h2⟩ := hz i hil
        rw [Go.Deep.add_add] at h2
        rw [add_at hsp] at h1 h2
        exact ⟨h1, h2⟩
set_option maxRecDepth 100000 in
theorem spans_open {H : Type} {enc : TypeId × Value → H} {w : World} {r : Reach} {b0 base : Nat} {spare : Nat → Bool} {held : Bool} {v : Value} {d : DataW H} {p : List MemPlace}
    (hv : Value.okWide Try.prog w r b0 44 v) (hh : DataW.Trod enc Try.prog w base spare held 44 v d p) :
    ∃ (a : Option Addr) (len cap : Nat) (zs : Nat → Int × Int), v = .slice a len cap ∧ len ≤ maxLen ∧ SliceIs w a len cap zs := by
  obtain ⟨a0, n0, c0, rfl⟩ := okWide_slice Try.underlying44 hv
  obtain ⟨fuel, h⟩ := hh
  exact spans_trod h

set_option maxRecDepth 100000 in
theorem span_trod {H : Type} {enc : TypeId × Value → H} {w : World} {base : Nat} {spare : Nat → Bool} {held : Bool} {fuel : Nat} {v0 v1 : Value} {y : DataW H × List MemPlace}
    (hf : DataW.trod enc Try.prog w base spare held fuel 24 [v0, v1] = some y) : ∃ a b : Int, v0 = .int .i64 a ∧ v1 = .int .i64 b := by
  obtain ⟨xs, m, _, _, _, hlen, hg⟩ := DataW.trod_struct Try.underlying24 hf
  match xs, hlen with
  | [y0, y1], _ =>
    have g0 := hg 0 _ rfl
    have g1 := hg 1 _ rfl
    simp [Value.cells, cells3] at g0 g1
    obtain ⟨a, e0, _, _⟩ := DataW.trod_int Try.underlying3 g0
    obtain ⟨b, e1, _, _⟩ := DataW.trod_int Try.underlying3 g1
    simp only [List.cons.injEq, and_true] at e0 e1
    exact ⟨a, b, e0, e1⟩
set_option maxRecDepth 100000 in
theorem span_open {H : Type} {enc : TypeId × Value → H} {w : World} {r : Reach} {b0 base : Nat} {spare : Nat → Bool} {held : Bool} {v : Value} {d : DataW H} {p : List MemPlace}
    (hv : Value.okWide Try.prog w r b0 24 v) (h : DataW.Trod enc Try.prog w base spare held 24 v d p) :
    ∃ lo hi : Int, v = .agg #[.int .i64 lo, .int .i64 hi] := by
  obtain ⟨cs, rfl, hsz⟩ := okWide_struct Try.underlying24 hv
  have hsz2 := hsz.trans cells24
  obtain ⟨l⟩ := cs
  have hl : l.length = 2 := hsz2
  clear hsz hsz2 hv
  match l, hl with
  | [v0, v1], _ =>
    obtain ⟨fuel, hf⟩ := h
    obtain ⟨a, b, rfl, rfl⟩ := span_trod hf
    exact ⟨a, b, rfl⟩
set_option maxRecDepth 100000 in
theorem model_open {H : Type} {enc : TypeId × Value → H} {w : World} {r : Reach} {b0 base : Nat} {spare : Nat → Bool} {held : Bool} {v : Value} {d : DataW H} {p : List MemPlace}
    (hv : Value.okWide Try.prog w r b0 26 v) (h : DataW.Trod enc Try.prog w base spare held 26 v d p) :
    ∃ (la : Option Addr) (ln lc : Nat) (ra : Option Addr) (rn rc : Nat) (ml mh il ih al ah : Int) (lz rz : Nat → Int × Int), v = .agg #[.slice la ln lc, .slice ra rn rc, .int .i64 ml, .int .i64 mh, .int .i64 il, .int .i64 ih, .int .i64 al, .int .i64 ah] ∧ (ln ≤ maxLen ∧ rn ≤ maxLen) ∧ SliceIs w la ln lc lz ∧ SliceIs w ra rn rc rz := by
  obtain ⟨cs, rfl, hsz⟩ := okWide_struct Try.underlying26 hv
  have hsz2 := hsz.trans cells26
  obtain ⟨l⟩ := cs
  have hl : l.length = 8 := hsz2
  clear hsz hsz2 hv
  match l, hl with
  | [v0, v1, v2, v3, v4, v5, v6, v7], _ =>
    obtain ⟨fuel, hf⟩ := h
    obtain ⟨xs, m, _, _, _, hlen, hg⟩ := DataW.trod_struct Try.underlying26 hf
    match xs, hlen with
    | [y0, y1, y2, y3, y4], _ =>
      have g0 := hg 0 _ rfl
      have g1 := hg 1 _ rfl
      have g2 := hg 2 _ rfl
      have g3 := hg 3 _ rfl
      have g4 := hg 4 _ rfl
      simp [Value.cells, cells22, cells24] at g0 g1 g2 g3 g4
      obtain ⟨la, ln, lc, lz, rfl, h1, s1⟩ := pts_trod g0
      obtain ⟨ra, rn, rc, rz, rfl, h2, s2⟩ := pts_trod g1
      obtain ⟨ml, mh, rfl, rfl⟩ := span_trod g2
      obtain ⟨il, ih, rfl, rfl⟩ := span_trod g3
      obtain ⟨al, ah, rfl, rfl⟩ := span_trod g4
      exact ⟨la, ln, lc, ra, rn, rc, ml, mh, il, ih, al, ah, lz, rz, rfl, ⟨h1, h2⟩, s1, s2⟩

end Go.Proofs.Ytdmbkhmhaininaa
