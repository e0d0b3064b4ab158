/-
  Slices of numbers by value, opened.
-/
import Derived.Test.YtdmbkhmhaininaaUA
namespace Go.Proofs.Ytdmbkhmhaininaa
open Go.ChangeShapes Go.WideShapes Go.ChangeAt Go.RowKit
set_option linter.unusedVariables false
set_option linter.unusedSimpArgs false

/-- the numbers of a slice -/
def NumsAt (k : IntKind) (w : World) (b off len : Nat) (cs : Nat → Int) : Prop := ∀ i, i < len → w.cell? ⟨b, off + i, none⟩ = some (.int k (cs i))
def NumsIs (k : IntKind) (w : World) (a : Option Addr) (len : Nat) (cs : Nat → Int) : Prop :=
  len = 0 ∨ ∃ b off, a = some ⟨b, off, none⟩ ∧ b < w.heap.size ∧ NumsAt k w b off len cs
theorem NumsAt.keep {k : IntKind} {B b off len : Nat} {W w1 : World} {cs : Nat → Int} (s : NumsAt k W b off len cs) (hb : Below B W w1) (h : b < B) : NumsAt k w1 b off len cs := fun i hi => keepB hb h (s i hi)
theorem NumsIs.keep {k : IntKind} {a : Option Addr} {len : Nat} {W w1 : World} {cs : Nat → Int} (s : NumsIs k W a len cs) (hb : Below W.heap.size W w1) : NumsIs k w1 a len cs := by
  rcases s with h | ⟨b, off, h, hl, hs⟩
  · exact .inl h
  · exact .inr ⟨b, off, h, Nat.lt_of_lt_of_le hl hb.size, hs.keep hb hl⟩

set_option maxRecDepth 100000 in
theorem nums_open {H : Type} {enc : TypeId × Value → H} {w : World} {r : Reach} {b0 base : Nat} {spare : Nat → Bool} {held : Bool} {v : Value} {d : DataW H} {p : List MemPlace} {t e : TypeId} {k : IntKind}
    (ht : Try.prog.underlying t = some (.slice e)) (he : Try.prog.underlying e = some (.int k)) (hc : Try.prog.cellsOf e = 1) (h0 : (Lit.int k 0).wf = true)
    (hv : Value.okWide Try.prog w r b0 t v) (h : DataW.Trod enc Try.prog w base spare held t v d p) :
    ∃ (a : Option Addr) (len cap : Nat) (cs : Nat → Int), v = .slice a len cap ∧ len ≤ maxLen ∧ NumsIs k w a len cs ∧ ∀ i, (Lit.int k (cs i)).wf = true := by
  obtain ⟨a, len, cap, rfl⟩ := okWide_slice ht hv
  obtain ⟨fuel, hf⟩ := h
  rcases open_ints ht he hc hf with ⟨hcs, _⟩ | ⟨a2, len2, cap2, zs, hcs, _, hl, hm, hzl, _, hz, hw⟩
  · have hcs2 : [Value.slice a len cap] = [Value.slice none 0 0] := hcs
    simp only [List.cons.injEq, Value.slice.injEq, and_true] at hcs2
    obtain ⟨rfl, rfl, rfl⟩ := hcs2
    exact ⟨none, 0, 0, fun _ => 0, rfl, by decide, .inl rfl, fun _ => h0⟩
  · have hcs2 : [Value.slice a len cap] = [Value.slice (some a2) len2 cap2] := hcs
    simp only [List.cons.injEq, Value.slice.injEq, and_true] at hcs2
    obtain ⟨rfl, rfl, rfl⟩ := hcs2
    have hle : len ≤ zs.length := by rw [hzl]; split <;> omega
    refine ⟨some a2, len, cap, fun i => zs.getD i 0, rfl, by omega, ?_, fun i => ?_⟩
    · by_cases h0 : len = 0
      · exact .inl h0
      · have hsp : a2.spot = none := World.cell?_spot (show w.cell? (a2.add 0) = some _ from hz 0 (by omega))
        refine .inr ⟨a2.block, a2.off, ?_, ?_, fun i hil => ?_⟩
        · obtain ⟨b, off, spot⟩ := a2
          simp only at hsp
          rw [hsp]
        · have h1 := hz 0 (by omega)
          rw [add_at hsp] at h1
          exact World.block_lt_of_cell? w ⟨a2.block, a2.off + 0, none⟩ h1
        · have h1 := hz i (by omega)
          rw [add_at hsp] at h1
          exact h1
    · show (Lit.int k (zs.getD i 0)).wf = true
      by_cases hi : i < zs.length
      · exact hw _ (by rw [List.getD_eq_getElem?_getD, List.getElem?_eq_getElem hi]; exact List.getElem_mem hi)
      · rw [List.getD_eq_getElem?_getD, List.getElem?_eq_none (by omega)]; exact h0

end Go.Proofs.Ytdmbkhmhaininaa
