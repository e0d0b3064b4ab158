/-
  Moves that came in, opened.
-/
import Derived.Test.YtgcfecdhnaglhaaHA
import Derived.ProofKit
import Derived.OpenShut
import Derived.KernelRfl
import Derived.Deep.Slices
import Derived.Deep.Fields
namespace Go.Proofs.Ytgcfecdhnaglhaa
open Go.ChangeShapes Go.WideShapes Go.ChangeAt Go.RowKit
set_option linter.unusedVariables false
set_option linter.unusedSimpArgs false
set_option maxRecDepth 100000
set_option maxHeartbeats 4000000
theorem cells3 : Try.prog.cellsOf 3 = 1 := by kernel_rfl
theorem cells26 : Try.prog.cellsOf 26 = 2 := by kernel_rfl
theorem add_at {a : Addr} {i : Nat} (h : a.spot = none) : a.add i = ⟨a.block, a.off + i, none⟩ := by
  obtain ⟨b, off, spot⟩ := a
  subst h
  unfold Addr.add
  by_cases hi : i = 0 <;> simp [hi]
theorem moves_open {H : Type} {enc : TypeId × Value → H} {w : World} {r : Reach} {b0 base : Nat} {spare : Nat → Bool} {held : Bool} {v : Value} {d : DataW H} {p : List MemPlace}
    (hv : Value.okWide Try.prog w r b0 22 v) (h : DataW.Trod enc Try.prog w base spare held 22 v d p) : ∃ l : List Mv, SliceIs w v 2 (l.map Mv.row) := by
  obtain ⟨a0, n0, c0, rfl⟩ := okWide_slice Try.underlying22 hv
  obtain ⟨n, h⟩ := h
  rcases Go.Deep.open_slice Try.underlying22 h with ⟨hc, _⟩ | ⟨a, len, cap, m, k, D, Pl, hc, _, hl, hm, hmm, _, hi⟩
  · have hc : Value.slice a0 n0 c0 = .slice none 0 0 := by simpa [Value.cells] using hc
    rw [hc]
    exact ⟨[], ⟨.inl ⟨rfl, none, 0, rfl⟩⟩⟩
  · have hc : Value.slice a0 n0 c0 = .slice (some a) len cap := by simpa [Value.cells] using hc
    rw [hc]
    clear hc hv h
    have hle : len ≤ m := by rw [hmm]; split <;> omega
    have key : ∀ i, ∃ p : Mv, i < len → w.cell? (a.add (i * 2)) = some (.int .i64 p.a) ∧ w.cell? ((a.add (i * 2)).add 1) = some (.int .i64 p.b) := by
      intro i
      by_cases hil : i < len
      · obtain ⟨cs', hcs, ht⟩ := hi i (by omega)
        rw [cells26] at hcs
        obtain ⟨_, hcl, hat⟩ := World.cells?_some hcs
        obtain ⟨xs, q, _, _, _, hlen, hg⟩ := DataW.trod_struct Try.underlying26 ht
        match cs', hcl with
        | [c0, c1], _ =>
          match xs, hlen with
          | [y0, y1], _ =>
            have g0 := hg 0 _ rfl
            have g1 := hg 1 _ rfl
            simp [cells3] at g0 g1
            obtain ⟨lo, e0, _, _⟩ := DataW.trod_int Try.underlying3 g0
            obtain ⟨hi', e1, _, _⟩ := DataW.trod_int Try.underlying3 g1
            simp only [List.cons.injEq, and_true] at e0 e1
            subst e0 e1
            refine ⟨⟨lo, hi'⟩, fun _ => ⟨?_, ?_⟩⟩
            · have h0 := hat 0 (by decide)
              have e : (a.add (i * 2)).add 0 = a.add (i * 2) := by rw [Go.Deep.add_add]; rfl
              rw [e] at h0; exact h0
            · exact hat 1 (by decide)
      · exact ⟨⟨0, 0⟩, fun h => absurd h hil⟩
    obtain ⟨zs, hz⟩ := Classical.axiomOfChoice key
    refine ⟨(List.range len).map zs, ?_⟩
    by_cases h0 : len = 0
    · subst h0; exact ⟨.inl ⟨rfl, some a, cap, rfl⟩⟩
    · have hsp : a.spot = none := World.cell?_spot (show w.cell? a = some _ from (hz 0 (by omega)).1)
      have h1 := (hz 0 (by omega)).1
      rw [add_at hsp] at h1
      have hlt := World.block_lt_of_cell? w ⟨a.block, a.off + 0 * 2, none⟩ h1
      refine ⟨.inr ⟨a.block, a.off, cap, ?_, hlt, fun i r hr => ?_⟩⟩
      · obtain ⟨b, off, spot⟩ := a
        simp only at hsp
        rw [hsp]; simp
      · rw [List.map_map] at hr
        obtain ⟨hil, hr⟩ := List.getElem?_eq_some_iff.1 hr
        have hil : i < len := by simpa using hil
        have hr : r = Mv.row (zs i) := by rw [← hr]; simp
        subst hr
        obtain ⟨q0, q1⟩ := hz i hil
        rw [Go.Deep.add_add] at q1
        rw [add_at hsp] at q0 q1
        refine ⟨rfl, fun j u hj => ?_⟩
        match j, hj with
        | 0, hj => injection hj with hj; subst hj; exact q0
        | 1, hj => injection hj with hj; subst hj; exact q1
        | j + 2, hj => simp [Mv.row] at hj
end Go.Proofs.Ytgcfecdhnaglhaa
