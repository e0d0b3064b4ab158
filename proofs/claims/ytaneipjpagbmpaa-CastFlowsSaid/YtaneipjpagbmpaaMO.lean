/-
  Flows that came in, opened.
-/
import Derived.Test.YtaneipjpagbmpaaFC
import Derived.Test.YtaneipjpagbmpaaLA
import Derived.ProofKit
import Derived.OpenShut
import Derived.KernelRfl
import Derived.Deep.Slices
import Derived.Deep.Fields
namespace Go.Proofs.Ytaneipjpagbmpaa
open Go.ChangeShapes Go.WideShapes Go.ChangeAt Go.RowKit
set_option linter.unusedVariables false
set_option linter.unusedSimpArgs false
set_option maxRecDepth 100000
set_option maxHeartbeats 4000000
theorem add_at {a : Addr} {i : Nat} (h : a.spot = none) : a.add i = ⟨a.block, a.off + i, none⟩ := by
  obtain ⟨b, off, spot⟩ := a
  subst h
  unfold Addr.add
  by_cases hi : i = 0 <;> simp [hi]
theorem cells3 : Try.prog.cellsOf 3 = 1 := by kernel_rfl
theorem cells23 : Try.prog.cellsOf 23 = 2 := by kernel_rfl
theorem cells24 : Try.prog.cellsOf 24 = 1 := by kernel_rfl
theorem cells27 : Try.prog.cellsOf 27 = 4 := by kernel_rfl
theorem flows_openC {H : Type} {enc : TypeId × Value → H} {w : World} {base : Nat} {spare : Nat → Bool} {held : Bool} {n : Nat} {v : Value} {x : DataW H × List MemPlace}
    (h : DataW.trod enc Try.prog w base spare held n 24 [v] = some x) : ∃ l : List Fl, SliceIs w v 4 (l.map Fl.row) ∧ l.length ≤ capV v := by
  rcases Go.Deep.open_slice Try.underlying24 h with ⟨hc, _⟩ | ⟨a, len, cap, m, k, D, Pl, hc, _, hl, hm, hmm, _, hi⟩
  · simp only [List.cons.injEq, and_true] at hc
    rw [hc]
    exact ⟨[], ⟨.inl ⟨rfl, none, 0, rfl⟩⟩, Nat.zero_le _⟩
  · simp only [List.cons.injEq, and_true] at hc
    rw [hc]
    clear hc h
    have hle : len ≤ m := by rw [hmm]; split <;> omega
    have key : ∀ i, ∃ p : Fl, i < len → w.cell? (a.add (i * 4)) = some (.int .i64 p.a) ∧ w.cell? ((a.add (i * 4)).add 1) = some (.int .i64 p.b) ∧ w.cell? ((a.add (i * 4)).add 2) = some (.int .i64 p.c) ∧ w.cell? ((a.add (i * 4)).add 3) = some (.int .i64 p.d) := by
      intro i
      by_cases hil : i < len
      · obtain ⟨cs', hcs, ht⟩ := hi i (by omega)
        rw [cells27] at hcs
        obtain ⟨_, hcl, hat⟩ := World.cells?_some hcs
        match cs', hcl with
        | [c0, c1, c2, c3], _ =>
          obtain ⟨xs, q, _, _, _, hlen, hg⟩ := DataW.trod_struct Try.underlying27 ht
          match xs, hlen with
          | [y0, y1], _ =>
            have f0 := hg 0 _ rfl
            have f1 := hg 1 _ rfl
            simp [cells23] at f0 f1
            obtain ⟨xs0, q0, _, _, _, hlen0, hg0⟩ := DataW.trod_struct Try.underlying23 f0
            match xs0, hlen0 with
            | [z0, z1], _ =>
            have g0 := hg0 0 _ rfl
            have g1 := hg0 1 _ rfl
            simp [cells3] at g0 g1
            obtain ⟨u0, e0, _, _⟩ := DataW.trod_int Try.underlying3 g0
            obtain ⟨u1, e1, _, _⟩ := DataW.trod_int Try.underlying3 g1
            obtain ⟨xs1, q1, _, _, _, hlen1, hg1⟩ := DataW.trod_struct Try.underlying23 f1
            match xs1, hlen1 with
            | [z2, z3], _ =>
            have g2 := hg1 0 _ rfl
            have g3 := hg1 1 _ rfl
            simp [cells3] at g2 g3
            obtain ⟨u2, e2, _, _⟩ := DataW.trod_int Try.underlying3 g2
            obtain ⟨u3, e3, _, _⟩ := DataW.trod_int Try.underlying3 g3
            simp only [List.cons.injEq, and_true] at e0 e1 e2 e3
            subst e0 e1 e2 e3
            refine ⟨⟨u0, u1, u2, u3⟩, fun _ => ⟨?_, ?_, ?_, ?_⟩⟩
            · have h0 := hat 0 (by decide)
              have e : (a.add (i * 4)).add 0 = a.add (i * 4) := by rw [Go.Deep.add_add]; rfl
              rw [e] at h0; exact h0
            · exact hat 1 (by decide)
            · exact hat 2 (by decide)
            · exact hat 3 (by decide)
      · exact ⟨default, fun h => absurd h hil⟩
    obtain ⟨zs, hz⟩ := Classical.axiomOfChoice key
    refine ⟨(List.range len).map zs, ?_, (show ((List.range len).map zs).length ≤ cap by rw [List.length_map, List.length_range]; omega)⟩
    by_cases h0 : len = 0
    · subst h0; exact ⟨.inl ⟨rfl, some a, cap, rfl⟩⟩
    · have hsp : a.spot = none := World.cell?_spot (show w.cell? a = some _ from (hz 0 (by omega)).1)
      have h1 := (hz 0 (by omega)).1
      rw [add_at hsp] at h1
      have hlt := World.block_lt_of_cell? w ⟨a.block, a.off + 0 * 4, none⟩ h1
      refine ⟨.inr ⟨a.block, a.off, cap, ?_, hlt, fun i r hr => ?_⟩⟩
      · obtain ⟨b, off, spot⟩ := a
        simp only at hsp
        rw [hsp]; simp
      · rw [List.map_map] at hr
        obtain ⟨hil, hr⟩ := List.getElem?_eq_some_iff.1 hr
        have hil : i < len := by simpa using hil
        have hr : r = Fl.row (zs i) := by rw [← hr]; simp
        subst hr
        obtain ⟨q0, q1, q2, q3⟩ := hz i hil
        rw [Go.Deep.add_add] at q1 q2 q3
        rw [add_at hsp] at q0 q1 q2 q3
        refine ⟨rfl, fun j u hj => ?_⟩
        match j, hj with
        | 0, hj => injection hj with hj; subst hj; exact q0
        | 1, hj => injection hj with hj; subst hj; exact q1
        | 2, hj => injection hj with hj; subst hj; exact q2
        | 3, hj => injection hj with hj; subst hj; exact q3
        | j + 4, hj => simp [Fl.row] at hj
theorem flows_open {H : Type} {enc : TypeId × Value → H} {w : World} {r : Reach} {b0 base : Nat} {spare : Nat → Bool} {held : Bool} {v : Value} {d : DataW H} {p : List MemPlace}
    (hv : Value.okWide Try.prog w r b0 24 v) (h : DataW.Trod enc Try.prog w base spare held 24 v d p) : ∃ l : List Fl, SliceIs w v 4 (l.map Fl.row) ∧ l.length ≤ capV v := by
  obtain ⟨a0, n0, c0, rfl⟩ := okWide_slice Try.underlying24 hv
  obtain ⟨n, h⟩ := h
  exact flows_openC (by simpa [Value.cells] using h)
theorem flow_open {H : Type} {enc : TypeId × Value → H} {w : World} {r : Reach} {b0 base : Nat} {spare : Nat → Bool} {held : Bool} {v : Value} {d : DataW H} {p : List MemPlace}
    (hv : Value.okWide Try.prog w r b0 27 v) (h : DataW.Trod enc Try.prog w base spare held 27 v d p) : ∃ oa ob oc od : Int, v = .agg #[.int .i64 oa, .int .i64 ob, .int .i64 oc, .int .i64 od] := by
  obtain ⟨cs, rfl, hsz⟩ := okWide_struct Try.underlying27 hv
  have hsz2 := hsz.trans cells27
  obtain ⟨l⟩ := cs
  have hl : l.length = 4 := hsz2
  clear hsz hsz2 hv
  match l, hl with
  | [v0, v1, v2, v3], _ =>
    obtain ⟨fuel, hf⟩ := h
    obtain ⟨xs, m, _, _, _, hlen, hg⟩ := DataW.trod_struct Try.underlying27 hf
    match xs, hlen with
    | [y0, y1], _ =>
      have g0 := hg 0 _ rfl
      have g1 := hg 1 _ rfl
      simp [Value.cells, cells23] at g0 g1
      obtain ⟨xs2, m2, _, _, _, hlen2, hg2⟩ := DataW.trod_struct Try.underlying23 g0
      obtain ⟨xs3, m3, _, _, _, hlen3, hg3⟩ := DataW.trod_struct Try.underlying23 g1
      match xs2, hlen2, xs3, hlen3 with
      | [z0, z1], _, [z2, z3], _ =>
        have t0 := hg2 0 _ rfl
        have t1 := hg2 1 _ rfl
        have t2 := hg3 0 _ rfl
        have t3 := hg3 1 _ rfl
        simp [cells3] at t0 t1 t2 t3
        obtain ⟨a, e0, _, _⟩ := DataW.trod_int Try.underlying3 t0
        obtain ⟨b, e1, _, _⟩ := DataW.trod_int Try.underlying3 t1
        obtain ⟨c, e2, _, _⟩ := DataW.trod_int Try.underlying3 t2
        obtain ⟨d, e3, _, _⟩ := DataW.trod_int Try.underlying3 t3
        simp only [List.cons.injEq, and_true] at e0 e1 e2 e3
        subst e0 e1 e2 e3
        exact ⟨a, b, c, d, rfl⟩
theorem i8_bd {v : Int} (h : (Lit.int .i8 v).wf = true) : -128 ≤ v ∧ v ≤ 127 := by
  have h1 : (decide (IntKind.i8.min ≤ v) && decide (v ≤ IntKind.i8.max)) = true := h
  rw [Bool.and_eq_true, decide_eq_true_eq, decide_eq_true_eq, show IntKind.i8.min = -128 by decide, show IntKind.i8.max = 127 by decide] at h1
  omega
theorem u8_bd {v : Int} (h : (Lit.int .u8 v).wf = true) : 0 ≤ v ∧ v ≤ 255 := by
  have h1 : (decide (IntKind.u8.min ≤ v) && decide (v ≤ IntKind.u8.max)) = true := h
  rw [Bool.and_eq_true, decide_eq_true_eq, decide_eq_true_eq, show IntKind.u8.min = 0 by decide, show IntKind.u8.max = 255 by decide] at h1
  omega
theorem u16_bd {v : Int} (h : (Lit.int .u16 v).wf = true) : 0 ≤ v ∧ v ≤ 65535 := by
  have h1 : (decide (IntKind.u16.min ≤ v) && decide (v ≤ IntKind.u16.max)) = true := h
  rw [Bool.and_eq_true, decide_eq_true_eq, decide_eq_true_eq, show IntKind.u16.min = 0 by decide, show IntKind.u16.max = 65535 by decide] at h1
  omega
end Go.Proofs.Ytaneipjpagbmpaa
