/-
  Records with room, and three numbers, by value, opened.
-/
import Derived.Test.YtdmbkhmhaininaaUB
import Derived.Test.YtdmbkhmhaininaaSM
namespace Go.Proofs.Ytdmbkhmhaininaa
open Go.ChangeShapes Go.WideShapes Go.ChangeAt Go.RowKit
set_option linter.unusedVariables false
set_option linter.unusedSimpArgs false

set_option maxRecDepth 100000 in
theorem recs_open2 {H : Type} {enc : TypeId × Value → H} {w : World} {r : Reach} {b0 base : Nat} {spare : Nat → Bool} {held : Bool} {v : Value} {d : DataW H} {p : List MemPlace}
    (hv : Value.okWide Try.prog w r b0 56 v) (hh : DataW.Trod enc Try.prog w base spare held 56 v d p) :
    ∃ (a : Option Addr) (n cap : Nat) (zs : Nat → Rc), v = .slice a n cap ∧ (n ≤ cap ∧ cap ≤ maxLen) ∧ RecsIs w a n zs := by
  obtain ⟨a0, n0, c0, rfl⟩ := okWide_slice Try.underlying56 hv
  obtain ⟨fuel, h⟩ := hh
  rcases Go.Deep.open_slice Try.underlying56 h with ⟨hc, _⟩ | ⟨a, len, cap, m, k, D, Pl, hc, _, hl, hm, hmm, _, hi⟩
  · have hc2 : [Value.slice a0 n0 c0] = [Value.slice none 0 0] := hc
    simp only [List.cons.injEq, and_true] at hc2
    exact ⟨none, 0, 0, fun _ => ⟨0, 0, 0⟩, hc2, by decide, .inl rfl⟩
  · have hc2 : [Value.slice a0 n0 c0] = [Value.slice (some a) len cap] := hc
    simp only [List.cons.injEq, and_true] at hc2
    have hle : len ≤ m := by rw [hmm]; split <;> omega
    have key : ∀ i, ∃ z : Rc, i < len → w.cell? (a.add (i * 3)) = some (.int .i64 z.t) ∧ w.cell? ((a.add (i * 3)).add 1) = some (.int .i64 z.lo) ∧ w.cell? ((a.add (i * 3)).add 2) = some (.int .i64 z.hi) := by
      intro i
      by_cases hil : i < len
      · obtain ⟨cs', hcs, ht⟩ := hi i (by omega)
        rw [cells60] at hcs
        obtain ⟨_, hcl, hat⟩ := World.cells?_some hcs
        match cs', hcl with
        | [v0, v1, v2], _ =>
          obtain ⟨z, rfl, rfl, rfl⟩ := rec_trod ht
          refine ⟨z, fun _ => ⟨?_, hat 1 (by decide), hat 2 (by decide)⟩⟩
          have h0 := hat 0 (by decide)
          have e : (a.add (i * 3)).add 0 = a.add (i * 3) := by rw [Go.Deep.add_add]; rfl
          rw [e] at h0; exact h0
      · exact ⟨⟨0, 0, 0⟩, fun h => absurd h hil⟩
    obtain ⟨zs, hz⟩ := Classical.axiomOfChoice key
    refine ⟨some a, len, cap, zs, hc2, ⟨hl, hm⟩, ?_⟩
    by_cases h0 : len = 0
    · exact .inl h0
    · have h1 := (hz 0 (by omega)).1
      have hsp : a.spot = none := World.cell?_spot h1
      refine .inr ⟨a.block, a.off, ?_, ?_, fun i hil => ⟨?_, ?_, ?_⟩⟩
      · obtain ⟨b, off, spot⟩ := a
        simp only at hsp
        rw [hsp]
      · rw [add_at hsp] at h1
        exact World.block_lt_of_cell? w ⟨a.block, a.off + 0 * 3, none⟩ h1
      · have h2 := (hz i hil).1
        rw [add_at hsp] at h2; exact h2
      · have h2 := (hz i hil).2.1
        rw [add_at2 hsp] at h2; exact h2
      · have h2 := (hz i hil).2.2
        rw [add_at2 hsp] at h2; exact h2

theorem cells106 : Try.prog.cellsOf 106 = 3 := by kernel_rfl
theorem cells83 : Try.prog.cellsOf 83 = 1 := by kernel_rfl
set_option maxRecDepth 100000 in
theorem three_open {H : Type} {enc : TypeId × Value → H} {w : World} {r : Reach} {b0 base : Nat} {spare : Nat → Bool} {held : Bool} {v : Value} {d : DataW H} {p : List MemPlace}
    (hv : Value.okWide Try.prog w r b0 106 v) (h : DataW.Trod enc Try.prog w base spare held 106 v d p) :
    ∃ (d0 d1 d2 : Int), v = .agg #[.int .u32 d0, .int .u32 d1, .int .u32 d2] ∧ (0 ≤ d0 ∧ d0 < 4294967296) ∧ (0 ≤ d1 ∧ d1 < 4294967296) ∧ (0 ≤ d2 ∧ d2 < 4294967296) := by
  simp only [Value.okWide, Try.underlying106] at hv
  obtain ⟨cs, rfl, hsz, _⟩ := hv
  have hsz2 := hsz.trans cells106
  obtain ⟨l⟩ := cs
  have hl : l.length = 3 := hsz2
  clear hsz hsz2
  match l, hl with
  | [v0, v1, v2], _ =>
    obtain ⟨fuel, hf⟩ := h
    obtain ⟨xs, m, _, _, _, hlen, hg⟩ := DataW.trod_array Try.underlying106 hf
    match xs, hlen with
    | [y0, y1, y2], _ =>
      have g0 := hg 0 (by decide)
      simp [cells83, Value.cells] at g0
      have g1 := hg 1 (by decide)
      simp [cells83, Value.cells] at g1
      have g2 := hg 2 (by decide)
      simp [cells83, Value.cells] at g2
      obtain ⟨a, e0, _, w0⟩ := DataW.trod_int Try.underlying83 g0
      obtain ⟨b, e1, _, w1⟩ := DataW.trod_int Try.underlying83 g1
      obtain ⟨c, e2, _, w2⟩ := DataW.trod_int Try.underlying83 g2
      simp only [List.cons.injEq, and_true] at e0 e1 e2
      subst e0 e1 e2
      exact ⟨a, b, c, rfl, u32_bd w0, u32_bd w1, u32_bd w2⟩

end Go.Proofs.Ytdmbkhmhaininaa
