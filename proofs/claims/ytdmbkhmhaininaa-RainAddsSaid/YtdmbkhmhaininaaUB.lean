/-
  Records by value, opened.
-/
import Derived.Test.YtdmbkhmhaininaaUA
import Derived.Test.YtdmbkhmhaininaaQ
namespace Go.Proofs.Ytdmbkhmhaininaa
open Go.ChangeShapes Go.WideShapes Go.ChangeAt Go.RowKit
set_option linter.unusedVariables false
set_option linter.unusedSimpArgs false

theorem cells60 : Try.prog.cellsOf 60 = 3 := by kernel_rfl
set_option maxRecDepth 100000 in
theorem rec_trod {H : Type} {enc : TypeId × Value → H} {w : World} {base : Nat} {spare : Nat → Bool} {held : Bool} {fuel : Nat} {v0 v1 v2 : Value} {y : DataW H × List MemPlace}
    (hf : DataW.trod enc Try.prog w base spare held fuel 60 [v0, v1, v2] = some y) : ∃ z : Rc, v0 = .int .i64 z.t ∧ v1 = .int .i64 z.lo ∧ v2 = .int .i64 z.hi := by
  obtain ⟨xs, m, _, _, _, hlen, hg⟩ := DataW.trod_struct Try.underlying60 hf
  match xs, hlen with
  | [y0, y1], _ =>
    have g0 := hg 0 _ rfl
    have g1 := hg 1 _ rfl
    simp [Value.cells, cells3, cells24] at g0 g1
    obtain ⟨a, e0, _, _⟩ := DataW.trod_int Try.underlying3 g0
    obtain ⟨b, c, rfl, rfl⟩ := span_trod g1
    simp only [List.cons.injEq, and_true] at e0
    exact ⟨⟨a, b, c⟩, e0, rfl, rfl⟩
theorem add_at2 {a : Addr} {i j : Nat} (h : a.spot = none) : (a.add i).add j = ⟨a.block, a.off + i + j, none⟩ := by
  rw [Go.Deep.add_add, add_at h, Nat.add_assoc]
set_option maxRecDepth 100000 in
theorem recs_open {H : Type} {enc : TypeId × Value → H} {w : World} {r : Reach} {b0 base : Nat} {spare : Nat → Bool} {held : Bool} {v : Value} {d : DataW H} {p : List MemPlace}
    (hv : Value.okWide Try.prog w r b0 56 v) (hh : DataW.Trod enc Try.prog w base spare held 56 v d p) :
    ∃ (a : Option Addr) (n cap : Nat) (zs : Nat → Rc), v = .slice a n cap ∧ n ≤ maxLen ∧ RecsIs w a n zs := by
  obtain ⟨a0, n0, c0, rfl⟩ := okWide_slice Try.underlying56 hv
  obtain ⟨fuel, h⟩ := hh
  rcases Go.Deep.open_slice Try.underlying56 h with ⟨hc, _⟩ | ⟨a, len, cap, m, k, D, Pl, hc, _, hl, hm, hmm, _, hi⟩
  · have hc2 : [Value.slice a0 n0 c0] = [Value.slice none 0 0] := hc
    simp only [List.cons.injEq, and_true] at hc2
    exact ⟨none, 0, 0, fun _ => ⟨0, 0, 0⟩, hc2, by decide, .inl rfl⟩
  · have hc2 : [Value.slice a0 n0 c0] = [Value.slice (some a) len cap] := hc
    simp only [List.cons.injEq, and_true] at hc2
    have hle : len ≤ m := by rw [hmm]; split <;> omega
    have key : ∀ i, ∃ z : Rc, i < len → w.cell? (a.add (i * 3)) = some (.int .i64 z.t) ∧ w.cell? ((a.add (i * 3)).add 1) = some (.int .i64 z.lo) ∧ w.cell? ((a.add (i * 3)).add 2) = some (.int .i64 z.hi) := by
      intro i
      by_cases hil : i < len
      · obtain ⟨cs', hcs, ht⟩ := hi i (by omega)
        rw [cells60] at hcs
        obtain ⟨_, hcl, hat⟩ := World.cells?_some hcs
        match cs', hcl with
        | [v0, v1, v2], _ =>
          obtain ⟨z, rfl, rfl, rfl⟩ := rec_trod ht
          refine ⟨z, fun _ => ⟨?_, hat 1 (by decide), hat 2 (by decide)⟩⟩
          have h0 := hat 0 (by decide)
          have e : (a.add (i * 3)).add 0 = a.add (i * 3) := by rw [Go.Deep.add_add]; rfl
          rw [e] at h0; exact h0
      · exact ⟨⟨0, 0, 0⟩, fun h => absurd h hil⟩
    obtain ⟨zs, hz⟩ := Classical.axiomOfChoice key
    refine ⟨some a, len, cap, zs, hc2, Nat.le_trans hl hm, ?_⟩
    by_cases h0 : len = 0
    · exact .inl h0
    · have h1 := (hz 0 (by omega)).1
      have hsp : a.spot = none := World.cell?_spot h1
      refine .inr ⟨a.block, a.off, ?_, ?_, fun i hil => ⟨?_, ?_, ?_⟩⟩
      · obtain ⟨b, off, spot⟩ := a
        simp only at hsp
        rw [hsp]
      · rw [add_at hsp] at h1
        exact World.block_lt_of_cell? w ⟨a.block, a.off + 0 * 3, none⟩ h1
      · have h2 := (hz i hil).1
        rw [add_at hsp] at h2; exact h2
      · have h2 := (hz i hil).2.1
        rw [add_at2 hsp] at h2; exact h2
      · have h2 := (hz i hil).2.2
        rw [add_at2 hsp] at h2; exact h2

end Go.Proofs.Ytdmbkhmhaininaa
