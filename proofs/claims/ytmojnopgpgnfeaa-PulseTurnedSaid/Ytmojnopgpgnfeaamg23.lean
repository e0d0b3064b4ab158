/-
  Slices of numbers by value, opened.
-/
import Derived.Deep.Slices
import Derived.Deep.Fields
import Derived.Test.Ytmojnopgpgnfeaamg19
import Derived.Test.Ytmojnopgpgnfeaamg1
import Derived.Test.Ytmojnopgpgnfeaamg22
import Derived.Test.Ytmojnopgpgnfeaamg17
namespace Go.Proofs.Ytmojnopgpgnfeaa
open Go.ChangeShapes Go.WideShapes Go.ChangeAt Go.RowKit
set_option linter.unusedVariables false

theorem add_at {a : Addr} {i : Nat} (h : a.spot = none) : a.add i = ⟨a.block, a.off + i, none⟩ := by
  obtain ⟨b, off, spot⟩ := a
  subst h
  unfold Addr.add
  by_cases hi : i = 0 <;> simp [hi]

/-- the numbers of a slice -/
def NumsAt (k : IntKind) (w : World) (b off len : Nat) (cs : Nat → Int) : Prop := ∀ i, i < len → w.cell? ⟨b, off + i, none⟩ = some (.int k (cs i))
def NumsIs (k : IntKind) (w : World) (a : Option Addr) (len : Nat) (cs : Nat → Int) : Prop :=
  len = 0 ∨ ∃ b off, a = some ⟨b, off, none⟩ ∧ b < w.heap.size ∧ NumsAt k w b off len cs
theorem NumsAt.keep {k : IntKind} {B b off len : Nat} {W w1 : World} {cs : Nat → Int} (s : NumsAt k W b off len cs) (hb : Below B W w1) (h : b < B) : NumsAt k w1 b off len cs := fun i hi => keepB hb h (s i hi)
theorem NumsIs.keep {k : IntKind} {a : Option Addr} {len : Nat} {W w1 : World} {cs : Nat → Int} (s : NumsIs k W a len cs) (hb : Below W.heap.size W w1) : NumsIs k w1 a len cs := by
  rcases s with h | ⟨b, off, h, hl, hs⟩
  · exact .inl h
  · exact .inr ⟨b, off, h, Nat.lt_of_lt_of_le hl hb.size, hs.keep hb hl⟩

set_option maxRecDepth 100000 in
theorem nums_open {H : Type} {enc : TypeId × Value → H} {w : World} {r : Reach} {b0 base : Nat} {spare : Nat → Bool} {held : Bool} {v : Value} {d : DataW H} {p : List MemPlace} {t e : TypeId} {k : IntKind}
    (ht : Try.prog.underlying t = some (.slice e)) (he : Try.prog.underlying e = some (.int k)) (hc : Try.prog.cellsOf e = 1) (h0 : (Lit.int k 0).wf = true)
    (hv : Value.okWide Try.prog w r b0 t v) (h : DataW.Trod enc Try.prog w base spare held t v d p) :
    ∃ (a : Option Addr) (len cap : Nat) (cs : Nat → Int), v = .slice a len cap ∧ len ≤ maxLen ∧ NumsIs k w a len cs ∧ ∀ i, (Lit.int k (cs i)).wf = true := by
  obtain ⟨a, len, cap, rfl⟩ := okWide_slice ht hv
  obtain ⟨fuel, hf⟩ := h
  rcases open_ints ht he hc hf with ⟨hcs, _⟩ | ⟨a2, len2, cap2, zs, hcs, _, hl, hm, hzl, _, hz, hw⟩
  · have hcs2 : [Value.slice a len cap] = [Value.slice none 0 0] := hcs
    simp only [List.cons.injEq, Value.slice.injEq, and_true] at hcs2
    obtain ⟨rfl, rfl, rfl⟩ := hcs2
    exact ⟨none, 0, 0, fun _ => 0, rfl, by decide, .inl rfl, fun _ => h0⟩
  · have hcs2 : [Value.slice a len cap] = [Value.slice (some a2) len2 cap2] := hcs
    simp only [List.cons.injEq, Value.slice.injEq, and_true] at hcs2
    obtain ⟨rfl, rfl, rfl⟩ := hcs2
    have hle : len ≤ zs.length := by rw [hzl]; split <;> omega
    refine ⟨some a2, len, cap, fun i => zs.getD i 0, rfl, by omega, ?_, fun i => ?_⟩
    · by_cases h0 : len = 0
      · exact .inl h0
      · have hsp : a2.spot = none := World.cell?_spot (show w.cell? (a2.add 0) = some _ from hz 0 (by omega))
        refine .inr ⟨a2.block, a2.off, ?_, ?_, fun i hil => ?_⟩
        · obtain ⟨b, off, spot⟩ := a2
          simp only at hsp
          rw [hsp]
        · have h1 := hz 0 (by omega)
          rw [add_at hsp] at h1
          exact World.block_lt_of_cell? w ⟨a2.block, a2.off + 0, none⟩ h1
        · have h1 := hz i (by omega)
          rw [add_at hsp] at h1
          exact h1
    · show (Lit.int k (zs.getD i 0)).wf = true
      by_cases hi : i < zs.length
      · exact hw _ (by rw [List.getD_eq_getElem?_getD, List.getElem?_eq_getElem hi]; exact List.getElem_mem hi)
      · rw [List.getD_eq_getElem?_getD, List.getElem?_eq_none (by omega)]; exact h0

end Go.Proofs.Ytmojnopgpgnfeaa

namespace Go.Proofs.Ytmojnopgpgnfeaa
open Go.RowKit
set_option linter.unusedVariables false
set_option linter.unusedSimpArgs false

theorem nums_list {n : Nat} (cs : Nat → Int) (j : Nat) (h : j < n) : ((List.range n).map cs)[j]?.getD 0 = cs j := by
  rw [List.getElem?_map, List.getElem?_range h]; rfl
theorem arcs_same (a : Option Addr) (n cap : Nat) (cs : Nat → Int) (w : World) (hn : n ≤ 1000000) (h : NumsIs .i64 w a n cs) :
    ∃ B W E : Int, ∀ V, Below w.heap.size w V → (Calls Try.prog 25 #[.slice a n cap] V fun e w' => e = .returned (.tuple #[.int .i64 B, .int .i64 W, .int .i64 E]) ∧ Below V.heap.size V w') ∧ (Calls Try.prog 26 #[.slice a n cap] V fun e w' => e = .returned (.tuple #[.int .i64 B, .int .i64 W, .int .i64 E]) ∧ Below V.heap.size V w') := by
  by_cases h0 : n = 0
  · subst h0
    exact ⟨0, 0, 18, fun V _ => ⟨arc_empty _ _ _, refArc_empty _ _ _⟩⟩
  rcases h with h | ⟨b, off, rfl, hb, hc⟩
  · exact absurd h h0
  have hz : ((List.range n).map cs).length = n := by simp
  have hx : ∀ V, Below w.heap.size w V → ∀ j, j < n → V.cell? ⟨b, off + j, none⟩ = some (.int .i64 (((List.range n).map cs)[j]?.getD 0)) := fun V hV j hj => by rw [nums_list cs j hj]; exact keepB hV hb (hc j hj)
  have hbV : ∀ V, Below w.heap.size w V → b < V.heap.size := fun V hV => Nat.lt_of_lt_of_le hb hV.size
  cases hq : allP (fun j => ((List.range n).map cs)[j]?.getD 0) n with
  | false => exact ⟨0, 0, 3, fun V hV => ⟨arc_bad b off n cap _ V hz (by omega) hn (hbV V hV) (hx V hV) hq, refArc_bad b off n cap _ V hz (by omega) hn (hbV V hV) (hx V hV) hq⟩⟩
  | true => exact ⟨_, _, 0, fun V hV => ⟨arc_ok b off n cap _ V hz (by omega) hn (hbV V hV) (hx V hV) hq, refArc_ok b off n cap _ V hz (by omega) hn (hbV V hV) (hx V hV) hq⟩⟩
theorem arc3 (X : World) (T : TypeId) : Calls Try.prog 25 #[.slice (some ⟨X.heap.size, 0, none⟩) 3 3] (X.alloc (.cells #[.int .i64 65000, .int .i64 100, .int .i64 200] T)) fun e w' => e = .returned (.tuple #[.int .i64 65000, .int .i64 736, .int .i64 0]) ∧ Below (X.alloc (.cells #[.int .i64 65000, .int .i64 100, .int .i64 200] T)).heap.size (X.alloc (.cells #[.int .i64 65000, .int .i64 100, .int .i64 200] T)) w' := by
  have h := arc_ok X.heap.size 0 3 3 [65000, 100, 200] (X.alloc (.cells #[.int .i64 65000, .int .i64 100, .int .i64 200] T)) rfl (by decide) (by decide) (by rw [World.size_alloc]; omega) (fun j hj => by
    match j, hj with
    | 0, _ => exact alloc_new rfl rfl
    | 1, _ => exact alloc_new rfl rfl
    | 2, _ => exact alloc_new rfl rfl) (by decide)
  rw [show arcB [65000, 100, 200] = 65000 by decide, show arcW [65000, 100, 200] = 736 by decide] at h
  exact h
set_option maxRecDepth 100000 in
set_option maxHeartbeats 1600000 in
theorem PulseArcs_walk (a : Option Addr) (n cap : Nat) (cs : Nat → Int) (w : World) (h : n ≤ maxLen ∧ NumsIs .i64 w a n cs ∧ ∀ i, (Lit.int .i64 (cs i)).wf = true) :
    Calls Try.prog 5 #[.slice a n cap] w fun e w' => e = .returned (.bool true) ∧ Below w.heap.size w w' := by
  by_cases hn : n ≤ 300
  · obtain ⟨B, W, E, hh⟩ := arcs_same a n cap cs w (by omega) h.2.1
    have HH := Lib.hid hh
    clear hh h
    have hd : decide (300 < (n : Int)) = false := decide_eq_false (by omega)
    go_enter Try.func5, Try.ntmps5
    go_wp2_with fail
    refine (HH.out _ (Below.refl _ _)).1.mono ?_; rintro e' X1 ⟨rfl, hb1⟩
    go_wp2_with fail
    refine (HH.out _ hb1).2.mono ?_; rintro e' X2 ⟨rfl, hb2⟩
    have b2 := hb1.trans (hb2.mono hb1.size)
    go_wp2_with fail
    refine (arc3 _ _).mono ?_; rintro e' X3 ⟨rfl, hb3⟩
    have b3 := b2.trans ((below_alloc X2 (.cells #[.int .i64 65000, .int .i64 100, .int .i64 200] 3)).mono b2.size)
    have b4 := b3.trans (hb3.mono b3.size)
    go_wp2_with fail
    refine (works_any _).mono ?_; rintro e' X4 ⟨rfl, hb5⟩
    go_wp2_with fail
    go_ret
    exact ⟨rfl, b4.trans (hb5.mono b4.size)⟩
  · have hd : decide (300 < (n : Int)) = true := decide_eq_true (by omega)
    go_enter Try.func5, Try.ntmps5
    go_wp2_with fail
    refine (works_any _).mono ?_; rintro e' X4 ⟨rfl, hb5⟩
    go_wp2_with fail
    go_ret
    exact ⟨rfl, hb5⟩

end Go.Proofs.Ytmojnopgpgnfeaa
