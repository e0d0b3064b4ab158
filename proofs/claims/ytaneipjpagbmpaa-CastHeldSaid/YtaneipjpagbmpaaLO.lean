/-
  Lists and fields that came in, opened.
-/
import Derived.Test.YtaneipjpagbmpaaLA
import Derived.ProofKit
import Derived.OpenShut
import Derived.KernelRfl
import Derived.Deep.Slices
import Derived.Deep.Fields
namespace Go.Proofs.Ytaneipjpagbmpaa
open Go.ChangeShapes Go.WideShapes Go.ChangeAt Go.RowKit
set_option linter.unusedVariables false
set_option linter.unusedSimpArgs false
set_option maxRecDepth 100000
set_option maxHeartbeats 4000000
theorem add_at {a : Addr} {i : Nat} (h : a.spot = none) : a.add i = ⟨a.block, a.off + i, none⟩ := by
  obtain ⟨b, off, spot⟩ := a
  subst h
  unfold Addr.add
  by_cases hi : i = 0 <;> simp [hi]
theorem cells3 : Try.prog.cellsOf 3 = 1 := by kernel_rfl
theorem cells23 : Try.prog.cellsOf 23 = 2 := by kernel_rfl
theorem cells48 : Try.prog.cellsOf 48 = 5 := by kernel_rfl
theorem cells49 : Try.prog.cellsOf 49 = 5 := by kernel_rfl
theorem cells50 : Try.prog.cellsOf 50 = 1 := by kernel_rfl
theorem cells86 : Try.prog.cellsOf 86 = 1 := by kernel_rfl
theorem cells88 : Try.prog.cellsOf 88 = 6 := by kernel_rfl
theorem ints_openC {H : Type} {enc : TypeId × Value → H} {w : World} {base : Nat} {spare : Nat → Bool} {held : Bool} {n : Nat} {v : Value} {x : DataW H × List MemPlace}
    (h : DataW.trod enc Try.prog w base spare held n 50 [v] = some x) : ∃ l : List Int, SliceIs w v 1 (l.map one) := by
  rcases Go.Deep.open_slice Try.underlying50 h with ⟨hc, _⟩ | ⟨a, len, cap, m, k, D, Pl, hc, _, hl, hm, hmm, _, hi⟩
  · simp only [List.cons.injEq, and_true] at hc
    rw [hc]
    exact ⟨[], ⟨.inl ⟨rfl, none, 0, rfl⟩⟩⟩
  · simp only [List.cons.injEq, and_true] at hc
    rw [hc]
    clear hc h
    have hle : len ≤ m := by rw [hmm]; split <;> omega
    have key : ∀ i, ∃ p : Int, i < len → w.cell? (a.add (i * 1)) = some (.int .i64 p) := by
      intro i
      by_cases hil : i < len
      · obtain ⟨cs', hcs, ht⟩ := hi i (by omega)
        rw [cells3] at hcs
        obtain ⟨_, hcl, hat⟩ := World.cells?_some hcs
        match cs', hcl with
        | [c0], _ =>
          obtain ⟨lo, e0, _, _⟩ := DataW.trod_int Try.underlying3 ht
          simp only [List.cons.injEq, and_true] at e0
          subst e0
          refine ⟨lo, fun _ => ?_⟩
          have h0 := hat 0 (by decide)
          have e : (a.add (i * 1)).add 0 = a.add (i * 1) := by rw [Go.Deep.add_add]; rfl
          rw [e] at h0; exact h0
      · exact ⟨0, fun h => absurd h hil⟩
    obtain ⟨zs, hz⟩ := Classical.axiomOfChoice key
    refine ⟨(List.range len).map zs, ?_⟩
    by_cases h0 : len = 0
    · subst h0; exact ⟨.inl ⟨rfl, some a, cap, rfl⟩⟩
    · have hsp : a.spot = none := World.cell?_spot (show w.cell? a = some _ from hz 0 (by omega))
      have h1 := hz 0 (by omega)
      rw [add_at hsp] at h1
      have hlt := World.block_lt_of_cell? w ⟨a.block, a.off + 0 * 1, none⟩ h1
      refine ⟨.inr ⟨a.block, a.off, cap, ?_, hlt, fun i r hr => ?_⟩⟩
      · obtain ⟨b, off, spot⟩ := a
        simp only at hsp
        rw [hsp]; simp
      · rw [List.map_map] at hr
        obtain ⟨hil, hr⟩ := List.getElem?_eq_some_iff.1 hr
        have hil : i < len := by simpa using hil
        have hr : r = one (zs i) := by rw [← hr]; simp
        subst hr
        have q0 := hz i hil
        rw [add_at hsp] at q0
        refine ⟨rfl, fun j u hj => ?_⟩
        match j, hj with
        | 0, hj => injection hj with hj; subst hj; exact q0
        | j + 1, hj => simp [one] at hj
theorem ints_open {H : Type} {enc : TypeId × Value → H} {w : World} {r : Reach} {b0 base : Nat} {spare : Nat → Bool} {held : Bool} {v : Value} {d : DataW H} {p : List MemPlace}
    (hv : Value.okWide Try.prog w r b0 50 v) (h : DataW.Trod enc Try.prog w base spare held 50 v d p) : ∃ l : List Int, SliceIs w v 1 (l.map one) := by
  obtain ⟨a0, n0, c0, rfl⟩ := okWide_slice Try.underlying50 hv
  obtain ⟨n, h⟩ := h
  exact ints_openC (by simpa [Value.cells] using h)
theorem spans_openC {H : Type} {enc : TypeId × Value → H} {w : World} {base : Nat} {spare : Nat → Bool} {held : Bool} {n : Nat} {v : Value} {x : DataW H × List MemPlace}
    (h : DataW.trod enc Try.prog w base spare held n 86 [v] = some x) : ∃ l : List Mv, SliceIs w v 2 (l.map Mv.row) := by
  rcases Go.Deep.open_slice Try.underlying86 h with ⟨hc, _⟩ | ⟨a, len, cap, m, k, D, Pl, hc, _, hl, hm, hmm, _, hi⟩
  · simp only [List.cons.injEq, and_true] at hc
    rw [hc]
    exact ⟨[], ⟨.inl ⟨rfl, none, 0, rfl⟩⟩⟩
  · simp only [List.cons.injEq, and_true] at hc
    rw [hc]
    clear hc h
    have hle : len ≤ m := by rw [hmm]; split <;> omega
    have key : ∀ i, ∃ p : Mv, i < len → w.cell? (a.add (i * 2)) = some (.int .i64 p.a) ∧ w.cell? ((a.add (i * 2)).add 1) = some (.int .i64 p.b) := by
      intro i
      by_cases hil : i < len
      · obtain ⟨cs', hcs, ht⟩ := hi i (by omega)
        rw [cells23] at hcs
        obtain ⟨_, hcl, hat⟩ := World.cells?_some hcs
        match cs', hcl with
        | [c0, c1], _ =>
          obtain ⟨xs, q, _, _, _, hlen, hg⟩ := DataW.trod_struct Try.underlying23 ht
          match xs, hlen with
          | [y0, y1], _ =>
            have g0 := hg 0 _ rfl
            have g1 := hg 1 _ rfl
            simp [cells3] at g0 g1
            obtain ⟨u0, e0, _, _⟩ := DataW.trod_int Try.underlying3 g0
            obtain ⟨u1, e1, _, _⟩ := DataW.trod_int Try.underlying3 g1
            simp only [List.cons.injEq, and_true] at e0 e1
            subst e0 e1
            refine ⟨⟨u0, u1⟩, fun _ => ⟨?_, ?_⟩⟩
            · have h0 := hat 0 (by decide)
              have e : (a.add (i * 2)).add 0 = a.add (i * 2) := by rw [Go.Deep.add_add]; rfl
              rw [e] at h0; exact h0
            · exact hat 1 (by decide)
      · exact ⟨default, fun h => absurd h hil⟩
    obtain ⟨zs, hz⟩ := Classical.axiomOfChoice key
    refine ⟨(List.range len).map zs, ?_⟩
    by_cases h0 : len = 0
    · subst h0; exact ⟨.inl ⟨rfl, some a, cap, rfl⟩⟩
    · have hsp : a.spot = none := World.cell?_spot (show w.cell? a = some _ from (hz 0 (by omega)).1)
      have h1 := (hz 0 (by omega)).1
      rw [add_at hsp] at h1
      have hlt := World.block_lt_of_cell? w ⟨a.block, a.off + 0 * 2, none⟩ h1
      refine ⟨.inr ⟨a.block, a.off, cap, ?_, hlt, fun i r hr => ?_⟩⟩
      · obtain ⟨b, off, spot⟩ := a
        simp only at hsp
        rw [hsp]; simp
      · rw [List.map_map] at hr
        obtain ⟨hil, hr⟩ := List.getElem?_eq_some_iff.1 hr
        have hil : i < len := by simpa using hil
        have hr : r = Mv.row (zs i) := by rw [← hr]; simp
        subst hr
        obtain ⟨q0, q1⟩ := hz i hil
        rw [Go.Deep.add_add] at q1
        rw [add_at hsp] at q0 q1
        refine ⟨rfl, fun j u hj => ?_⟩
        match j, hj with
        | 0, hj => injection hj with hj; subst hj; exact q0
        | 1, hj => injection hj with hj; subst hj; exact q1
        | j + 2, hj => simp [Mv.row] at hj
theorem field_open {H : Type} {enc : TypeId × Value → H} {w : World} {r : Reach} {b0 base : Nat} {spare : Nat → Bool} {held : Bool} {v : Value} {d : DataW H} {p : List MemPlace}
    (hv : Value.okWide Try.prog w r b0 88 v) (h : DataW.Trod enc Try.prog w base spare held 88 v d p) :
    ∃ (gx gy size wide high : Int) (s : Value) (l : List Mv), v = .agg #[.int .i64 gx, .int .i64 gy, .int .i64 size, .int .i64 wide, .int .i64 high, s] ∧ SliceIs w s 2 (l.map Mv.row) := by
  obtain ⟨cs, rfl, hsz⟩ := okWide_struct Try.underlying88 hv
  have hsz2 := hsz.trans cells88
  obtain ⟨l⟩ := cs
  have hl : l.length = 6 := hsz2
  have hv5 := hv
  clear hsz hsz2
  match l, hl with
  | [v0, v1, v2, v3, v4, v5], _ =>
    obtain ⟨fuel, hf⟩ := h
    obtain ⟨xs, m, _, _, _, hlen, hg⟩ := DataW.trod_struct Try.underlying88 hf
    match xs, hlen with
    | [y0, y1], _ =>
      have g0 := hg 0 _ rfl
      have g1 := hg 1 _ rfl
      simp [Value.cells, cells49] at g0
      simp [Value.cells, cells86] at g1
      obtain ⟨xs2, m2, _, _, _, hlen2, hg2⟩ := DataW.trod_struct Try.underlying49 g0
      match xs2, hlen2 with
      | [z0, z1, z2, z3, z4], _ =>
        have t0 := hg2 0 _ rfl
        have t1 := hg2 1 _ rfl
        have t2 := hg2 2 _ rfl
        have t3 := hg2 3 _ rfl
        have t4 := hg2 4 _ rfl
        simp [cells3] at t0 t1 t2 t3 t4
        obtain ⟨gx, e0, _, _⟩ := DataW.trod_int Try.underlying3 t0
        obtain ⟨gy, e1, _, _⟩ := DataW.trod_int Try.underlying3 t1
        obtain ⟨size, e2, _, _⟩ := DataW.trod_int Try.underlying3 t2
        obtain ⟨wide, e3, _, _⟩ := DataW.trod_int Try.underlying3 t3
        obtain ⟨high, e4, _, _⟩ := DataW.trod_int Try.underlying3 t4
        simp only [List.cons.injEq, and_true] at e0 e1 e2 e3 e4
        subst e0 e1 e2 e3 e4
        obtain ⟨l, hl⟩ := spans_openC g1
        exact ⟨gx, gy, size, wide, high, _, l, rfl, hl⟩
end Go.Proofs.Ytaneipjpagbmpaa
