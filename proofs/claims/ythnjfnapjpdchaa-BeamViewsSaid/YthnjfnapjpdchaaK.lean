/-
  Small laws on worlds: what a callee that only makes memory leaves as it was; a pair of cells that is stored.
-/
import Derived.Test.YthnjfnapjpdchaaI
import Derived.Test.YthnjfnapjpdchaaG
import Derived.Deep.RegionHeld3
namespace Go.Proofs.Ythnjfnapjpdchaa
open Go.RowKit

theorem bcell {B : Nat} {W w1 : World} (hb : Below B W w1) : (∀ b o, b < B → w1.cell? ⟨b, o, none⟩ = W.cell? ⟨b, o, none⟩) ∧ (∀ b o, b < B → w1.frozen? ⟨b, o, none⟩ = W.frozen? ⟨b, o, none⟩) :=
  ⟨fun b o h => hb.cell (p := ⟨b, o, none⟩) h, fun b o h => hb.frozen (p := ⟨b, o, none⟩) h⟩

theorem keepB {B b o : Nat} {W w1 : World} {v : Value} (hb : Below B W w1) (h : b < B) (hc : W.cell? ⟨b, o, none⟩ = some v) : w1.cell? ⟨b, o, none⟩ = some v := by
  rw [hb.cell (p := ⟨b, o, none⟩) h]; exact hc

theorem keepF {B b o : Nat} {W w1 : World} {v : Bool} (hb : Below B W w1) (h : b < B) (hc : W.frozen? ⟨b, o, none⟩ = v) : w1.frozen? ⟨b, o, none⟩ = v := by
  rw [hb.frozen (p := ⟨b, o, none⟩) h]; exact hc

/-- what a cell holds, behind a name -/
def cellAt (w : World) (a : Addr) : Value := (w.cell? a).getD (.bool false)
theorem cellAt_mk {w : World} {a : Addr} {v : Value} (h : w.cell? a = some v) : w.cell? a = some (cellAt w a) := by unfold cellAt; rw [h]; rfl
theorem keepA {B b o : Nat} {W w1 : World} (hb : Below B W w1) (h : b < B) (hc : W.cell? ⟨b, o, none⟩ = some (cellAt W ⟨b, o, none⟩)) : w1.cell? ⟨b, o, none⟩ = some (cellAt w1 ⟨b, o, none⟩) :=
  cellAt_mk (keepB hb h hc)
theorem cellAt_set {w : World} {p q : Addr} {x : Value} (h : w.cell? q = some (cellAt w q)) : (w.setCell p x).cell? q = some (cellAt (w.setCell p x) q) := by
  obtain ⟨v', h'⟩ := cell?_setCell_some (p := p) (x := x) h
  exact cellAt_mk h'

theorem isSome_of_set {w : World} {p q : Addr} {x : Value} (h : ((w.setCell p x).cell? q).isSome = true) : (w.cell? q).isSome = true := by
  unfold World.cell? at *
  simp only [World.setCell, Array.getElem?_modify] at h
  by_cases e : p.block = q.block
  · rw [if_pos e] at h
    cases hq : w.heap[q.block]? with
    | none => rw [hq] at h; exact h
    | some o =>
      rw [hq] at h
      cases o with
      | cells c t f =>
        simp only [Option.map_some] at h
        by_cases hs : q.spot.isSome
        · simp [hs] at h
        · simp only [hs] at h ⊢
          by_cases hp : p.spot.isSome
          · simpa [hp] using h
          · simpa [hp] using h
      | _ => exact h
  · rw [if_neg e] at h; exact h

theorem set_read {w : World} {b i : Nat} {u c0 : Value} (h0 : (w.setCell ⟨b, i, none⟩ u).cell? ⟨b, i, none⟩ = some c0) :
    (w.setCell ⟨b, i, none⟩ u).cell? ⟨b, i, none⟩ = some u :=
  World.cell?_setCell_same' _ _ _ (isSome_of_set (by rw [h0]; rfl))

theorem pair_read {w : World} {b : Nat} {u v c0 c1 : Value} (h0 : ((w.setCell ⟨b, 0, none⟩ u).setCell ⟨b, 1, none⟩ v).cell? ⟨b, 0, none⟩ = some c0)
    (h1 : ((w.setCell ⟨b, 0, none⟩ u).setCell ⟨b, 1, none⟩ v).cell? ⟨b, 1, none⟩ = some c1) :
    ((w.setCell ⟨b, 0, none⟩ u).setCell ⟨b, 1, none⟩ v).cell? ⟨b, 0, none⟩ = some u ∧ ((w.setCell ⟨b, 0, none⟩ u).setCell ⟨b, 1, none⟩ v).cell? ⟨b, 1, none⟩ = some v := by
  have e : (w.setCell ⟨b, 0, none⟩ u).cell? ⟨b, 0, none⟩ = some c0 := by rw [← h0]; exact (World.cell?_setCell_other _ _ _ _ (by simp)).symm
  refine ⟨?_, set_read h1⟩
  rw [World.cell?_setCell_other _ _ _ _ (by simp)]
  exact set_read e

end Go.Proofs.Ythnjfnapjpdchaa
