/-
  A field by value, opened: its grid, and the spans of its slice.
-/
import Derived.Test.YthnjfnapjpdchaaU0
import Derived.Test.YthnjfnapjpdchaaV0
import Derived.Deep.Slices
import Derived.Deep.Fields
namespace Go.Proofs.Ythnjfnapjpdchaa
open Go.ChangeShapes Go.WideShapes Go.ChangeAt Go.RowKit

theorem cells26 : Try.prog.cellsOf 26 = 1 := by kernel_rfl
theorem cells28 : Try.prog.cellsOf 28 = 6 := by kernel_rfl

theorem add_at {a : Addr} {i : Nat} (h : a.spot = none) : a.add i = ⟨a.block, a.off + i, none⟩ := by
  obtain ⟨b, off, spot⟩ := a
  subst h
  unfold Addr.add
  by_cases hi : i = 0 <;> simp [hi]

set_option maxRecDepth 100000 in
theorem spans_open {H : Type} {enc : TypeId × Value → H} {w : World} {base : Nat} {spare : Nat → Bool} {held : Bool} {n : Nat} {v : Value} {x : DataW H × List MemPlace}
    (h : DataW.trod enc Try.prog w base spare held n 26 [v] = some x) :
    ∃ (a : Option Addr) (len cap : Nat) (zs : Nat → Int × Int), v = .slice a len cap ∧ len ≤ maxLen ∧ SliceIs w a len cap zs := by
  rcases Go.Deep.open_slice Try.underlying26 h with ⟨hc, _⟩ | ⟨a, len, cap, m, k, D, Pl, hc, _, hl, hm, hmm, _, hi⟩
  · simp only [List.cons.injEq, and_true] at hc
    exact ⟨none, 0, 0, fun _ => (0, 0), hc, by decide, .inl rfl⟩
  · simp only [List.cons.injEq, and_true] at hc
    have hle : len ≤ m := by rw [hmm]; split <;> omega
    have key : ∀ i, ∃ p : Int × Int, i < len → w.cell? (a.add (i * 2)) = some (.int .i64 p.1) ∧ w.cell? ((a.add (i * 2)).add 1) = some (.int .i64 p.2) := by
      intro i
      by_cases hil : i < len
      · obtain ⟨cs', hcs, ht⟩ := hi i (by omega)
        rw [cells43] at hcs
        obtain ⟨_, hcl, hat⟩ := World.cells?_some hcs
        obtain ⟨xs, q, _, _, _, hlen, hg⟩ := DataW.trod_struct Try.underlying43 ht
        match cs', hcl with
        | [c0, c1], _ =>
          match xs, hlen with
          | [y0, y1], _ =>
            have g0 := hg 0 _ rfl
            have g1 := hg 1 _ rfl
            simp [cells3] at g0 g1
            obtain ⟨lo, e0, _, _⟩ := DataW.trod_int Try.underlying3 g0
            obtain ⟨hi', e1, _, _⟩ := DataW.trod_int Try.underlying3 g1
            simp only [List.cons.injEq, and_true] at e0 e1
            subst e0 e1
            refine ⟨(lo, hi'), fun _ => ⟨?_, ?_⟩⟩
            · have h0 := hat 0 (by decide)
              have e : (a.add (i * 2)).add 0 = a.add (i * 2) := by rw [Go.Deep.add_add]; rfl
              rw [e] at h0; exact h0
            · exact hat 1 (by decide)
      · exact ⟨(0, 0), fun h => absurd h hil⟩
    obtain ⟨zs, hz⟩ := Classical.axiomOfChoice key
    refine ⟨some a, len, cap, zs, hc, Nat.le_trans hl hm, ?_⟩
    by_cases h0 : len = 0
    · exact .inl h0
    · have hsp : a.spot = none := World.cell?_spot (show w.cell? a = some _ from (hz 0 (by omega)).1)
      refine .inr ⟨a.block, a.off, ?_, ?_, fun i hil => ?_⟩
      · obtain ⟨b, off, spot⟩ := a
        simp only at hsp
        rw [hsp]
      · have h1 := (hz 0 (by omega)).1
        rw [add_at hsp] at h1
        exact World.block_lt_of_cell? w ⟨a.block, a.off + 0 * 2, none⟩ h1
      · obtain ⟨h1, h2⟩ := hz i hil
        rw [Go.Deep.add_add] at h2
        rw [add_at hsp] at h1 h2
        exact ⟨h1, h2⟩

set_option maxRecDepth 100000 in
theorem field_open {H : Type} {enc : TypeId × Value → H} {w : World} {r : Reach} {b0 base : Nat} {spare : Nat → Bool} {held : Bool} {v : Value} {d : DataW H} {p : List MemPlace}
    (hv : Value.okWide Try.prog w r b0 28 v) (h : DataW.Trod enc Try.prog w base spare held 28 v d p) :
    ∃ (gx gy size wide high : Int) (a : Option Addr) (len cap : Nat) (zs : Nat → Int × Int), v = .agg #[.int .i64 gx, .int .i64 gy, .int .i64 size, .int .i64 wide, .int .i64 high, .slice a len cap] ∧ len ≤ maxLen ∧ SliceIs w a len cap zs := by
  obtain ⟨cs, rfl, hsz⟩ := okWide_struct Try.underlying28 hv
  have hsz2 := hsz.trans cells28
  obtain ⟨l⟩ := cs
  have hl : l.length = 6 := hsz2
  clear hsz hsz2 hv
  match l, hl with
  | [v0, v1, v2, v3, v4, v5], _ =>
    obtain ⟨fuel, hf⟩ := h
    obtain ⟨xs, m, _, _, _, hlen, hg⟩ := DataW.trod_struct Try.underlying28 hf
    match xs, hlen with
    | [y0, y1], _ =>
      have g0 := hg 0 _ rfl
      have g1 := hg 1 _ rfl
      simp [Value.cells, cells25] at g0
      simp [Value.cells, cells26] at g1
      obtain ⟨xs2, m2, _, _, _, hlen2, hg2⟩ := DataW.trod_struct Try.underlying25 g0
      match xs2, hlen2 with
      | [z0, z1, z2, z3, z4], _ =>
        have t0 := hg2 0 _ rfl
        have t1 := hg2 1 _ rfl
        have t2 := hg2 2 _ rfl
        have t3 := hg2 3 _ rfl
        have t4 := hg2 4 _ rfl
        simp [cells3] at t0 t1 t2 t3 t4
        obtain ⟨gx, e0, _, _⟩ := DataW.trod_int Try.underlying3 t0
        obtain ⟨gy, e1, _, _⟩ := DataW.trod_int Try.underlying3 t1
        obtain ⟨size, e2, _, _⟩ := DataW.trod_int Try.underlying3 t2
        obtain ⟨wide, e3, _, _⟩ := DataW.trod_int Try.underlying3 t3
        obtain ⟨high, e4, _, _⟩ := DataW.trod_int Try.underlying3 t4
        obtain ⟨a, len, cap, zs, e5, hm, hs⟩ := spans_open g1
        simp only [List.cons.injEq, and_true] at e0 e1 e2 e3 e4
        subst e0 e1 e2 e3 e4 e5
        exact ⟨gx, gy, size, wide, high, a, len, cap, zs, rfl, hm, hs⟩

end Go.Proofs.Ythnjfnapjpdchaa
