/-
  Sweeps by value, opened: a site, two numbers, and a slice of slices of echoes.
-/
import Derived.Test.Ytmojnopgpgnfeaamg19
import Derived.Test.Ytmojnopgpgnfeaamg23
import Derived.Test.Ytmojnopgpgnfeaamg1
namespace Go.Proofs.Ytmojnopgpgnfeaa
open Go.ChangeShapes Go.WideShapes Go.ChangeAt Go.RowKit
set_option linter.unusedVariables false
set_option linter.unusedSimpArgs false

theorem cells9 : Try.prog.cellsOf 9 = 1 := by kernel_rfl
theorem cells43 : Try.prog.cellsOf 43 = 8 := by kernel_rfl
theorem cells44 : Try.prog.cellsOf 44 = 1 := by kernel_rfl
theorem cells46 : Try.prog.cellsOf 46 = 11 := by kernel_rfl
theorem cells47 : Try.prog.cellsOf 47 = 1 := by kernel_rfl

/-- echoes, one after the other: their numbers -/
def EchosAt (w : World) (b off len : Nat) (xs : Nat → Nat → Int) : Prop := ∀ i, i < len → ∀ j, j < 14 → w.cell? ⟨b, off + i * 14 + j, none⟩ = some (.int .i64 (xs i j))
def EchosIs (w : World) (a : Option Addr) (len : Nat) (xs : Nat → Nat → Int) : Prop :=
  len = 0 ∨ ∃ b off, a = some ⟨b, off, none⟩ ∧ b < w.heap.size ∧ EchosAt w b off len xs
/-- a ray: its slice, and its echoes -/
structure RayD where
  a : Option Addr
  len : Nat
  cap : Nat
  xs : Nat → Nat → Int
def RaysAt (w : World) (b off n : Nat) (rs : Nat → RayD) : Prop := ∀ i, i < n → w.cell? ⟨b, off + i, none⟩ = some (.slice (rs i).a (rs i).len (rs i).cap) ∧ (rs i).len ≤ maxLen ∧ EchosIs w (rs i).a (rs i).len (rs i).xs
def RaysIs (w : World) (a : Option Addr) (n : Nat) (rs : Nat → RayD) : Prop :=
  n = 0 ∨ ∃ b off, a = some ⟨b, off, none⟩ ∧ b < w.heap.size ∧ RaysAt w b off n rs
theorem EchosAt.keep {B b off len : Nat} {W w1 : World} {xs : Nat → Nat → Int} (s : EchosAt W b off len xs) (hb : Below B W w1) (h : b < B) : EchosAt w1 b off len xs := fun i hi j hj => keepB hb h (s i hi j hj)
theorem EchosIs.keep {a : Option Addr} {len : Nat} {W w1 : World} {xs : Nat → Nat → Int} (s : EchosIs W a len xs) (hb : Below W.heap.size W w1) : EchosIs w1 a len xs := by
  rcases s with h | ⟨b, off, h, hl, hs⟩
  · exact .inl h
  · exact .inr ⟨b, off, h, Nat.lt_of_lt_of_le hl hb.size, hs.keep hb hl⟩
theorem RaysAt.keep {b off n : Nat} {W w1 : World} {rs : Nat → RayD} (s : RaysAt W b off n rs) (hb : Below W.heap.size W w1) (h : b < W.heap.size) : RaysAt w1 b off n rs := fun i hi => ⟨keepB hb h (s i hi).1, (s i hi).2.1, (s i hi).2.2.keep hb⟩
theorem RaysIs.keep {a : Option Addr} {n : Nat} {W w1 : World} {rs : Nat → RayD} (s : RaysIs W a n rs) (hb : Below W.heap.size W w1) : RaysIs w1 a n rs := by
  rcases s with h | ⟨b, off, h, hl, hs⟩
  · exact .inl h
  · exact .inr ⟨b, off, h, Nat.lt_of_lt_of_le hl hb.size, hs.keep hb hl⟩

set_option maxRecDepth 100000 in
theorem echo_trod {H : Type} {enc : TypeId × Value → H} {w : World} {base : Nat} {spare : Nat → Bool} {held : Bool} {fuel : Nat} {v0 v1 v2 v3 v4 v5 v6 v7 v8 v9 v10 v11 v12 v13 : Value} {y : DataW H × List MemPlace}
    (hf : DataW.trod enc Try.prog w base spare held fuel 30 [v0, v1, v2, v3, v4, v5, v6, v7, v8, v9, v10, v11, v12, v13] = some y) : ∃ (kd p0 p1 s0 s1 s2 s3 sp r0 r1 m0 m1 t0 t1 : Int), v0 = .int .i64 kd ∧ v1 = .int .i64 p0 ∧ v2 = .int .i64 p1 ∧ v3 = .int .i64 s0 ∧ v4 = .int .i64 s1 ∧ v5 = .int .i64 s2 ∧ v6 = .int .i64 s3 ∧ v7 = .int .i64 sp ∧ v8 = .int .i64 r0 ∧ v9 = .int .i64 r1 ∧ v10 = .int .i64 m0 ∧ v11 = .int .i64 m1 ∧ v12 = .int .i64 t0 ∧ v13 = .int .i64 t1 := by
  obtain ⟨xs, m, _, _, _, hlen, hg⟩ := DataW.trod_struct Try.underlying30 hf
  match xs, hlen with
  | [y0, y1, y2, y3, y4, y5, y6], _ =>
    have g0 := hg 0 _ rfl
    simp [Value.cells, cells3] at g0
    obtain ⟨kd, e0, _, w0⟩ := DataW.trod_int Try.underlying3 g0
    have g1 := hg 1 _ rfl
    simp [Value.cells, cells25] at g1
    obtain ⟨p0, p1, e1, e2, w1, w2⟩ := span_trod g1
    have g2 := hg 2 _ rfl
    simp [Value.cells, cells28] at g2
    obtain ⟨s0, s1, s2, s3, e3, e4, e5, e6, w3, w4, w5, w6⟩ := steps_trod g2
    have g3 := hg 3 _ rfl
    simp [Value.cells, cells3] at g3
    obtain ⟨sp, e7, _, w7⟩ := DataW.trod_int Try.underlying3 g3
    have g4 := hg 4 _ rfl
    simp [Value.cells, cells25] at g4
    obtain ⟨r0, r1, e8, e9, w8, w9⟩ := span_trod g4
    have g5 := hg 5 _ rfl
    simp [Value.cells, cells25] at g5
    obtain ⟨m0, m1, e10, e11, w10, w11⟩ := span_trod g5
    have g6 := hg 6 _ rfl
    simp [Value.cells, cells25] at g6
    obtain ⟨t0, t1, e12, e13, w12, w13⟩ := span_trod g6
    try simp only [List.cons.injEq, and_true] at e0 e1 e2 e3 e4 e5 e6 e7 e8 e9 e10 e11 e12 e13
    exact ⟨kd, p0, p1, s0, s1, s2, s3, sp, r0, r1, m0, m1, t0, t1, e0, e1, e2, e3, e4, e5, e6, e7, e8, e9, e10, e11, e12, e13⟩
theorem add_at2 {a : Addr} {i j : Nat} (h : a.spot = none) : (a.add i).add j = ⟨a.block, a.off + i + j, none⟩ := by
  rw [Go.Deep.add_add, add_at h, Nat.add_assoc]

set_option maxRecDepth 100000 in
theorem echos_open {H : Type} {enc : TypeId × Value → H} {w : World} {base : Nat} {spare : Nat → Bool} {held : Bool} {n : Nat} {v : Value} {x : DataW H × List MemPlace}
    (h : DataW.trod enc Try.prog w base spare held n 47 [v] = some x) :
    ∃ r : RayD, v = .slice r.a r.len r.cap ∧ r.len ≤ maxLen ∧ EchosIs w r.a r.len r.xs := by
  rcases Go.Deep.open_slice Try.underlying47 h with ⟨hc, _⟩ | ⟨a, len, cap, m, k, D, Pl, hc, _, hl, hm, hmm, _, hi⟩
  · simp only [List.cons.injEq, and_true] at hc
    exact ⟨⟨none, 0, 0, fun _ _ => 0⟩, hc, by decide, .inl rfl⟩
  · simp only [List.cons.injEq, and_true] at hc
    have hle : len ≤ m := by rw [hmm]; split <;> omega
    have key : ∀ i, ∃ p : Nat → Int, i < len → ∀ j, j < 14 → w.cell? ((a.add (i * 14)).add j) = some (.int .i64 (p j)) := by
      intro i
      by_cases hil : i < len
      · obtain ⟨cs', hcs, ht⟩ := hi i (by omega)
        rw [cells30] at hcs
        obtain ⟨_, hcl, hat⟩ := World.cells?_some hcs
        match cs', hcl with
        | [v0, v1, v2, v3, v4, v5, v6, v7, v8, v9, v10, v11, v12, v13], _ =>
          obtain ⟨kd, p0, p1, s0, s1, s2, s3, sp, r0, r1, m0, m1, t0, t1, rfl, rfl, rfl, rfl, rfl, rfl, rfl, rfl, rfl, rfl, rfl, rfl, rfl, rfl⟩ := echo_trod ht
          refine ⟨fun j => ([kd, p0, p1, s0, s1, s2, s3, sp, r0, r1, m0, m1, t0, t1] : List Int)[j]?.getD 0, fun _ j hj => ?_⟩
          have hh := hat j hj
          rw [hh]
          have hj' : j = 0 ∨ j = 1 ∨ j = 2 ∨ j = 3 ∨ j = 4 ∨ j = 5 ∨ j = 6 ∨ j = 7 ∨ j = 8 ∨ j = 9 ∨ j = 10 ∨ j = 11 ∨ j = 12 ∨ j = 13 := by omega
          rcases hj' with rfl | rfl | rfl | rfl | rfl | rfl | rfl | rfl | rfl | rfl | rfl | rfl | rfl | rfl <;> rfl
      · exact ⟨fun _ => 0, fun h => absurd h hil⟩
    obtain ⟨zs, hz⟩ := Classical.axiomOfChoice key
    refine ⟨⟨some a, len, cap, zs⟩, hc, Nat.le_trans hl hm, ?_⟩
    by_cases h0 : len = 0
    · exact .inl h0
    · have h1 := hz 0 (by omega) 0 (by decide)
      have hsp : a.spot = none := by
        have h2 := h1
        rw [Go.Deep.add_add] at h2
        exact World.cell?_spot h2
      refine .inr ⟨a.block, a.off, ?_, ?_, fun i hil j hj => ?_⟩
      · obtain ⟨b, off, spot⟩ := a
        simp only at hsp
        rw [hsp]
      · rw [add_at2 hsp] at h1
        exact World.block_lt_of_cell? w ⟨a.block, a.off + 0 * 14 + 0, none⟩ h1
      · have h2 := hz i hil j hj
        rw [add_at2 hsp] at h2
        exact h2

set_option maxRecDepth 100000 in
theorem rays_open {H : Type} {enc : TypeId × Value → H} {w : World} {base : Nat} {spare : Nat → Bool} {held : Bool} {n : Nat} {v : Value} {x : DataW H × List MemPlace}
    (h : DataW.trod enc Try.prog w base spare held n 44 [v] = some x) :
    ∃ (a : Option Addr) (len cap : Nat) (rs : Nat → RayD), v = .slice a len cap ∧ len ≤ maxLen ∧ RaysIs w a len rs := by
  rcases Go.Deep.open_slice1 Try.underlying44 cells47 h with ⟨hc, _⟩ | ⟨a, len, cap, m, k, V, D, Pl, hc, _, hl, hm, hmm, _, hi⟩
  · simp only [List.cons.injEq, and_true] at hc
    exact ⟨none, 0, 0, fun _ => ⟨none, 0, 0, fun _ _ => 0⟩, hc, by decide, .inl rfl⟩
  · simp only [List.cons.injEq, and_true] at hc
    have hle : len ≤ m := by rw [hmm]; split <;> omega
    have key : ∀ i, ∃ r : RayD, i < len → w.cell? (a.add i) = some (.slice r.a r.len r.cap) ∧ r.len ≤ maxLen ∧ EchosIs w r.a r.len r.xs := by
      intro i
      by_cases hil : i < len
      · obtain ⟨h1, h2⟩ := hi i (by omega)
        obtain ⟨r, e, h3, h4⟩ := echos_open h2
        exact ⟨r, fun _ => ⟨by rw [h1, e], h3, h4⟩⟩
      · exact ⟨⟨none, 0, 0, fun _ _ => 0⟩, fun h => absurd h hil⟩
    obtain ⟨zs, hz⟩ := Classical.axiomOfChoice key
    refine ⟨some a, len, cap, zs, hc, Nat.le_trans hl hm, ?_⟩
    by_cases h0 : len = 0
    · exact .inl h0
    · have h1 := (hz 0 (by omega)).1
      have hsp : a.spot = none := World.cell?_spot h1
      refine .inr ⟨a.block, a.off, ?_, ?_, fun i hil => ?_⟩
      · obtain ⟨b, off, spot⟩ := a
        simp only at hsp
        rw [hsp]
      · rw [add_at hsp] at h1
        exact World.block_lt_of_cell? w ⟨a.block, a.off + 0, none⟩ h1
      · have h2 := hz i hil
        rw [add_at hsp] at h2
        exact h2

set_option maxRecDepth 100000 in
theorem sweep_open {H : Type} {enc : TypeId × Value → H} {w : World} {r : Reach} {b0 base : Nat} {spare : Nat → Bool} {held : Bool} {v : Value} {d : DataW H} {p : List MemPlace}
    (hv : Value.okWide Try.prog w r b0 46 v) (h : DataW.Trod enc Try.prog w base spare held 46 v d p) :
    ∃ (nm : ByteArray) (x y z rose gates step width tilt time : Int) (a : Option Addr) (n cap : Nat) (rs : Nat → RayD), v = .agg #[.string nm, .int .i64 x, .int .i64 y, .int .i64 z, .int .i64 rose, .int .i64 gates, .int .i64 step, .int .i64 width, .int .i64 tilt, .int .i64 time, .slice a n cap] ∧ nm.size ≤ maxLen ∧ n ≤ maxLen ∧ RaysIs w a n rs ∧ (Lit.int .i64 x).wf = true ∧ (Lit.int .i64 y).wf = true ∧ (Lit.int .i64 z).wf = true ∧ (Lit.int .i64 rose).wf = true ∧ (Lit.int .i64 gates).wf = true ∧ (Lit.int .i64 step).wf = true ∧ (Lit.int .i64 width).wf = true ∧ (Lit.int .i64 tilt).wf = true ∧ (Lit.int .i64 time).wf = true := by
  obtain ⟨cs, rfl, hsz⟩ := okWide_struct Try.underlying46 hv
  have hsz2 := hsz.trans cells46
  obtain ⟨l⟩ := cs
  have hl : l.length = 11 := hsz2
  clear hsz hsz2 hv
  match l, hl with
  | [v0, v1, v2, v3, v4, v5, v6, v7, v8, v9, v10], _ =>
    obtain ⟨fuel, hf⟩ := h
    obtain ⟨xs, m, _, _, _, hlen, hg⟩ := DataW.trod_struct Try.underlying46 hf
    match xs, hlen with
    | [q0, q1, q2, q3], _ =>
      have k0 := hg 0 _ rfl
      simp [Value.cells, cells43] at k0
      have k1 := hg 1 _ rfl
      simp [Value.cells, cells3] at k1
      obtain ⟨tilt, e8, _, w8⟩ := DataW.trod_int Try.underlying3 k1
      have k2 := hg 2 _ rfl
      simp [Value.cells, cells3] at k2
      obtain ⟨time, e9, _, w9⟩ := DataW.trod_int Try.underlying3 k2
      have k3 := hg 3 _ rfl
      simp [Value.cells, cells44] at k3
      obtain ⟨a, n, cap, rs, e10, hn, hr⟩ := rays_open k3
      obtain ⟨xs2, m2, _, _, _, hlen2, hg2⟩ := DataW.trod_struct Try.underlying43 k0
      match xs2, hlen2 with
      | [y0, y1, y2, y3, y4, y5, y6, y7], _ =>
        have g0 := hg2 0 _ rfl
        simp [Value.cells, cells9] at g0
        obtain ⟨nm, e0, _, w0⟩ := DataW.trod_string Try.underlying9 g0
        have g1 := hg2 1 _ rfl
        simp [Value.cells, cells3] at g1
        obtain ⟨x, e1, _, w1⟩ := DataW.trod_int Try.underlying3 g1
        have g2 := hg2 2 _ rfl
        simp [Value.cells, cells3] at g2
        obtain ⟨y, e2, _, w2⟩ := DataW.trod_int Try.underlying3 g2
        have g3 := hg2 3 _ rfl
        simp [Value.cells, cells3] at g3
        obtain ⟨z, e3, _, w3⟩ := DataW.trod_int Try.underlying3 g3
        have g4 := hg2 4 _ rfl
        simp [Value.cells, cells3] at g4
        obtain ⟨rose, e4, _, w4⟩ := DataW.trod_int Try.underlying3 g4
        have g5 := hg2 5 _ rfl
        simp [Value.cells, cells3] at g5
        obtain ⟨gates, e5, _, w5⟩ := DataW.trod_int Try.underlying3 g5
        have g6 := hg2 6 _ rfl
        simp [Value.cells, cells3] at g6
        obtain ⟨step, e6, _, w6⟩ := DataW.trod_int Try.underlying3 g6
        have g7 := hg2 7 _ rfl
        simp [Value.cells, cells3] at g7
        obtain ⟨width, e7, _, w7⟩ := DataW.trod_int Try.underlying3 g7
        try simp only [List.cons.injEq, and_true] at e0 e1 e2 e3 e4 e5 e6 e7 e8 e9
        subst e0 e1 e2 e3 e4 e5 e6 e7 e8 e9 e10
        exact ⟨nm, x, y, z, rose, gates, step, width, tilt, time, a, n, cap, rs, rfl, w0, hn, hr, w1, w2, w3, w4, w5, w6, w7, w8, w9⟩

end Go.Proofs.Ytmojnopgpgnfeaa

namespace Go.Proofs.Ytmojnopgpgnfeaa
open Go.RowKit

def letB (c : Int) : Bool := decide (97 ≤ c ∧ c ≤ 122)
def digB (c : Int) : Bool := decide (48 ≤ c ∧ c ≤ 57)

theorem letB_true {c : Int} : letB c = true ↔ 97 ≤ c ∧ c ≤ 122 := by unfold letB; simp
theorem letB_false {c : Int} : letB c = false ↔ ¬ (97 ≤ c ∧ c ≤ 122) := by unfold letB; rw [decide_eq_false_iff_not]
theorem digB_true {c : Int} : digB c = true ↔ 48 ≤ c ∧ c ≤ 57 := by unfold digB; simp
theorem digB_false {c : Int} : digB c = false ↔ ¬ (48 ≤ c ∧ c ≤ 57) := by unfold digB; rw [decide_eq_false_iff_not]

set_option maxHeartbeats 400000 in
theorem isLetter_any (n : Int) (w : World) :
    Calls Try.prog 94 #[.int .u8 n] w fun e w' => e = .returned (.bool (letB n)) ∧ w = w' := by
  by_cases h1 : 97 ≤ n
  · by_cases h2 : n ≤ 122
    · have h : letB n = true := letB_true.2 ⟨h1, h2⟩
      rw [h]; clear h
      go_enter Try.func94, Try.ntmps94
      go_wp2
      go_ret
      exact ⟨rfl, rfl⟩
    · have h : letB n = false := letB_false.2 (by omega)
      rw [h]; clear h
      go_enter Try.func94, Try.ntmps94
      go_wp2
      go_ret
      exact ⟨rfl, rfl⟩
  · have h : letB n = false := letB_false.2 (by omega)
    rw [h]; clear h
    go_enter Try.func94, Try.ntmps94
    go_wp2
    go_ret
    exact ⟨rfl, rfl⟩

set_option maxHeartbeats 400000 in
theorem isDigit_any (n : Int) (w : World) :
    Calls Try.prog 95 #[.int .u8 n] w fun e w' => e = .returned (.bool (digB n)) ∧ w = w' := by
  by_cases h1 : 48 ≤ n
  · by_cases h2 : n ≤ 57
    · have h : digB n = true := digB_true.2 ⟨h1, h2⟩
      rw [h]; clear h
      go_enter Try.func95, Try.ntmps95
      go_wp2
      go_ret
      exact ⟨rfl, rfl⟩
    · have h : digB n = false := digB_false.2 (by omega)
      rw [h]; clear h
      go_enter Try.func95, Try.ntmps95
      go_wp2
      go_ret
      exact ⟨rfl, rfl⟩
  · have h : digB n = false := digB_false.2 (by omega)
    rw [h]; clear h
    go_enter Try.func95, Try.ntmps95
    go_wp2
    go_ret
    exact ⟨rfl, rfl⟩

def chB (c : Int) : Bool := letB c || digB c || decide (c = 95)
theorem chB_let {c : Int} (h : letB c = true) : chB c = true := by unfold chB; rw [h]; rfl
theorem chB_dig {c : Int} (h : digB c = true) : chB c = true := by unfold chB; rw [h]; simp
theorem chB_us {c : Int} (h : c = 95) : chB c = true := by unfold chB; simp [h]
theorem chB_no {c : Int} (h1 : letB c = false) (h2 : digB c = false) (h3 : c ≠ 95) : chB c = false := by unfold chB; simp [h1, h2, h3]

/-- what a name is -/
def nameP (s : ByteArray) : Prop := 1 ≤ s.size ∧ s.size ≤ 12 ∧ (∀ h : 0 < s.size, letB (s[0].toNat : Int) = true) ∧ ∀ j, ∀ h : j < s.size, chB (s[j].toNat : Int) = true

/-- the answer is whether it is a name -/
def NameRet (s : ByteArray) (w : World) (e : Ending) (w' : World) : Prop := ∃ b : Bool, e = .returned (.bool b) ∧ (b = true ↔ nameP s) ∧ w = w'

theorem NameRet_no {s : ByteArray} {w : World} (h : ¬ nameP s) : NameRet s w (.returned (.bool false)) w := ⟨false, rfl, ⟨(fun h' => by cases h'), fun h' => absurd h' h⟩, rfl⟩
theorem NameRet_yes {s : ByteArray} {w : World} (h : nameP s) : NameRet s w (.returned (.bool true)) w := ⟨true, rfl, ⟨fun _ => h, fun _ => rfl⟩, rfl⟩

theorem name_start {s : ByteArray} (h1 : 1 ≤ s.size) (h3 : letB (s[0].toNat : Int) = true) : ∀ j, j < 1 → ∀ h : j < s.size, chB (s[j].toNat : Int) = true := by
  intro j hj h
  obtain rfl : j = 0 := by omega
  exact chB_let h3

set_option maxHeartbeats 400000 in
theorem Name_in (s : ByteArray) (w : World) (h1 : 1 ≤ s.size) (h2 : s.size ≤ 12) (h3 : letB (s[0].toNat : Int) = true) :
    Calls Try.prog 79 #[.string s] w (NameRet s w) := by
  have H3 := Lib.hid h3
  go_enter Try.func79, Try.ntmps79
  go_wp2_with (go_at_call 94; refine (isLetter_any _ _).mono ?_; rintro e w' ⟨rfl, rfl⟩)
  clear h3
  go_loop [3] (fun i => ∃ k : Nat, k ≤ s.size ∧ i = .int .i64 k ∧ 1 ≤ k ∧ ∀ j, j < k → ∀ h : j < s.size, chB (s[j].toNat : Int) = true) (fun i => s.size - (intOf i).toNat)
  case atStart => exact ⟨1, h1, rfl, Nat.le_refl _, name_start h1 H3.out⟩
  case round =>
    obtain ⟨k, hk, rfl, hk1, hall⟩ := hrel
    have HA := Lib.hid hall
    clear hall
    by_cases hlt : k < s.size
    · have step : ∀ hc : chB (s[k].toNat : Int) = true, ∀ j, j < k + 1 → ∀ h : j < s.size, chB (s[j].toNat : Int) = true := fun hc j hj h => by
        by_cases e : j = k
        · subst e; exact hc
        · exact HA.out j (by omega) h
      have STEP := Lib.hid step
      clear step
      have stop : chB (s[k].toNat : Int) = false → ¬ nameP s := fun hc hn => by
        have := hn.2.2.2 k hlt
        rw [hc] at this; cases this
      have STOP := Lib.hid stop
      clear stop
      cases hl : letB (s[k].toNat : Int)
      · cases hd : digB (s[k].toNat : Int)
        · by_cases hu : (s[k].toNat : Int) = 95
          · have hu' : ((s[k].toNat : Int) != 95) = false := by simp [hu]
            have HU := Lib.hid hu
            clear hu
            go_wp2_with (first | (go_at_call 94; refine (isLetter_any _ _).mono ?_; rintro e w' ⟨rfl, rfl⟩) | (go_at_call 95; refine (isDigit_any _ _).mono ?_; rintro e w' ⟨rfl, rfl⟩))
            go_round
            case rel => exact ⟨k + 1, by omega, by go_num, by omega, STEP.out (chB_us HU.out)⟩
            case measure => simp [intOf]; omega
          · have hu' : ((s[k].toNat : Int) != 95) = true := by simp [hu]
            have hno := STOP.out (chB_no hl hd hu)
            have HNO := Lib.hid hno
            clear hno hu
            go_wp2_with (first | (go_at_call 94; refine (isLetter_any _ _).mono ?_; rintro e w' ⟨rfl, rfl⟩) | (go_at_call 95; refine (isDigit_any _ _).mono ?_; rintro e w' ⟨rfl, rfl⟩))
            go_ret
            exact NameRet_no HNO.out
        · have hc := Lib.hid (chB_dig hd)
          go_wp2_with (first | (go_at_call 94; refine (isLetter_any _ _).mono ?_; rintro e w' ⟨rfl, rfl⟩) | (go_at_call 95; refine (isDigit_any _ _).mono ?_; rintro e w' ⟨rfl, rfl⟩))
          go_round
          case rel => exact ⟨k + 1, by omega, by go_num, by omega, STEP.out hc.out⟩
          case measure => simp [intOf]; omega
      · have hc := Lib.hid (chB_let hl)
        go_wp2_with (first | (go_at_call 94; refine (isLetter_any _ _).mono ?_; rintro e w' ⟨rfl, rfl⟩) | (go_at_call 95; refine (isDigit_any _ _).mono ?_; rintro e w' ⟨rfl, rfl⟩))
        go_round
        case rel => exact ⟨k + 1, by omega, by go_num, by omega, STEP.out hc.out⟩
        case measure => simp [intOf]; omega
    · go_wp2
      go_ret
      exact NameRet_yes ⟨h1, h2, fun _ => H3.out, fun j h => HA.out j (by omega) h⟩

set_option maxHeartbeats 400000 in
theorem Name_any (s : ByteArray) (w : World) (hs : s.size ≤ maxLen) :
    Calls Try.prog 79 #[.string s] w (NameRet s w) := by
  unfold maxLen at hs
  by_cases h1 : 1 ≤ s.size
  · by_cases h2 : s.size ≤ 12
    · cases h3 : letB (s[0].toNat : Int)
      · have hno : ¬ nameP s := fun hn => by
          have := hn.2.2.1 (by omega)
          rw [h3] at this; cases this
        have HNO := Lib.hid hno
        clear hno
        go_enter Try.func79, Try.ntmps79
        go_wp2_with (go_at_call 94; refine (isLetter_any _ _).mono ?_; rintro e w' ⟨rfl, rfl⟩)
        go_ret
        exact NameRet_no HNO.out
      · exact Name_in s w h1 h2 h3
    · have HNO := Lib.hid (show ¬ nameP s from fun hn => h2 hn.2.1)
      go_enter Try.func79, Try.ntmps79
      go_wp2
      go_ret
      exact NameRet_no HNO.out
  · have HNO := Lib.hid (show ¬ nameP s from fun hn => h1 hn.1)
    go_enter Try.func79, Try.ntmps79
    go_wp2
    go_ret
    exact NameRet_no HNO.out

set_option maxHeartbeats 400000 in
theorem refName_in (s : ByteArray) (w : World) (h1 : 1 ≤ s.size) (h2 : s.size ≤ 12) (h3 : (97 : Int) ≤ (s[0].toNat : Int)) (h4 : (s[0].toNat : Int) ≤ 122) :
    Calls Try.prog 82 #[.string s] w (NameRet s w) := by
  have H3 := Lib.hid (letB_true.2 ⟨h3, h4⟩)
  go_enter Try.func82, Try.ntmps82
  go_wp2
  clear h3 h4
  go_loop [3] (fun i => ∃ k : Nat, k ≤ s.size ∧ i = .int .i64 k ∧ ∀ j, j < k → ∀ h : j < s.size, chB (s[j].toNat : Int) = true) (fun i => s.size - (intOf i).toNat)
  case atStart => exact ⟨0, Nat.zero_le _, rfl, by omega⟩
  case round =>
    obtain ⟨k, hk, rfl, hall⟩ := hrel
    have HA := Lib.hid hall
    clear hall
    by_cases hlt : k < s.size
    · have step : ∀ hc : chB (s[k].toNat : Int) = true, ∀ j, j < k + 1 → ∀ h : j < s.size, chB (s[j].toNat : Int) = true := fun hc j hj h => by
        by_cases e : j = k
        · subst e; exact hc
        · exact HA.out j (by omega) h
      have STEP := Lib.hid step
      clear step
      have stop : chB (s[k].toNat : Int) = false → ¬ nameP s := fun hc hn => by
        have := hn.2.2.2 k hlt
        rw [hc] at this; cases this
      have STOP := Lib.hid stop
      clear stop
      by_cases hl : (97 : Int) ≤ (s[k].toNat : Int) ∧ (s[k].toNat : Int) ≤ 122
      · have hc := Lib.hid (chB_let (letB_true.2 hl))
        obtain ⟨hl1, hl2⟩ := hl
        go_wp2
        go_round
        case rel => exact ⟨k + 1, by omega, by go_num, STEP.out hc.out⟩
        case measure => simp [intOf]; omega
      · by_cases hd : (48 : Int) ≤ (s[k].toNat : Int) ∧ (s[k].toNat : Int) ≤ 57
        · have hc := Lib.hid (chB_dig (digB_true.2 hd))
          obtain ⟨hd1, hd2⟩ := hd
          clear hl
          go_wp2
          go_round
          case rel => exact ⟨k + 1, by omega, by go_num, STEP.out hc.out⟩
          case measure => simp [intOf]; omega
        · have HL := Lib.hid hl
          have HD := Lib.hid hd
          have hl' : (s[k].toNat : Int) < 97 ∨ (122 : Int) < (s[k].toNat : Int) := by omega
          have hd' : (s[k].toNat : Int) < 48 ∨ (57 : Int) < (s[k].toNat : Int) := by omega
          clear hl hd
          by_cases hu : (s[k].toNat : Int) = 95
          · have hu' : ((s[k].toNat : Int) != 95) = false := by simp [hu]
            have HU := Lib.hid (chB_us hu)
            clear hl' hd'
            have h5 : (s[k].toNat : Int) < 97 := by omega
            have h6 : (57 : Int) < (s[k].toNat : Int) := by omega
            have h7 : ¬ (s[k].toNat : Int) < 48 := by omega
            clear hu
            go_wp2
            go_round
            case rel => exact ⟨k + 1, by omega, by go_num, STEP.out HU.out⟩
            case measure => simp [intOf]; omega
          · have hu' : ((s[k].toNat : Int) != 95) = true := by simp [hu]
            have HNO := Lib.hid (STOP.out (chB_no (letB_false.2 HL.out) (digB_false.2 HD.out) hu))
            clear hu
            rcases hl' with hl' | hl'
            · rcases hd' with hd' | hd'
              · go_wp2
                go_ret
                exact NameRet_no HNO.out
              · have h7 : ¬ (s[k].toNat : Int) < 48 := by omega
                go_wp2
                go_ret
                exact NameRet_no HNO.out
            · have h7 : ¬ (s[k].toNat : Int) < 48 := by omega
              have h8 : ¬ (s[k].toNat : Int) < 97 := by omega
              have h9 : (57 : Int) < (s[k].toNat : Int) := by omega
              clear hd'
              go_wp2
              go_ret
              exact NameRet_no HNO.out
    · go_wp2
      go_ret
      exact NameRet_yes ⟨h1, h2, fun _ => H3.out, fun j h => HA.out j (by omega) h⟩

set_option maxHeartbeats 400000 in
theorem refName_any (s : ByteArray) (w : World) (hs : s.size ≤ maxLen) :
    Calls Try.prog 82 #[.string s] w (NameRet s w) := by
  unfold maxLen at hs
  by_cases h1 : 1 ≤ s.size
  · by_cases h2 : s.size ≤ 12
    · by_cases h3 : (97 : Int) ≤ (s[0].toNat : Int) ∧ (s[0].toNat : Int) ≤ 122
      · exact refName_in s w h1 h2 h3.1 h3.2
      · have hno : ¬ nameP s := fun hn => h3 (letB_true.1 (hn.2.2.1 (by omega)))
        have HNO := Lib.hid hno
        have h4 : (s[0].toNat : Int) < 97 ∨ (122 : Int) < (s[0].toNat : Int) := by omega
        clear hno h3
        rcases h4 with h4 | h4
        · go_enter Try.func82, Try.ntmps82
          go_wp2
          go_ret
          exact NameRet_no HNO.out
        · have h5 : ¬ (s[0].toNat : Int) < 97 := by omega
          go_enter Try.func82, Try.ntmps82
          go_wp2
          go_ret
          exact NameRet_no HNO.out
    · have HNO := Lib.hid (show ¬ nameP s from fun hn => h2 hn.2.1)
      go_enter Try.func82, Try.ntmps82
      go_wp2
      go_ret
      exact NameRet_no HNO.out
  · have HNO := Lib.hid (show ¬ nameP s from fun hn => h1 hn.1)
    go_enter Try.func82, Try.ntmps82
    go_wp2
    go_ret
    exact NameRet_no HNO.out

end Go.Proofs.Ytmojnopgpgnfeaa
