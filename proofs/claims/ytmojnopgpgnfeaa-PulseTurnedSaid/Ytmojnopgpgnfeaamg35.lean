/-
  Slices of samples that grow; slips; what is true of samples.
-/
import Derived.Test.Ytmojnopgpgnfeaamg34
import Derived.Test.Ytmojnopgpgnfeaamg33
import Derived.Test.Ytmojnopgpgnfeaamg8
namespace Go.Proofs.Ytmojnopgpgnfeaa
open Go.ChangeShapes Go.WideShapes Go.ChangeAt Go.RowKit
set_option linter.unusedVariables false
set_option linter.unusedSimpArgs false

theorem info84 : (Try.prog.info? 84).map (fun i => (i.zero, i.size, i.bytes)) = some (some (.agg #[.int .i64 0, .int .i64 0, .int .i64 0, .int .i64 0]), 4, 32) := by kernel_rfl
theorem info_parts4 {t : TypeId} {z : Value} {s b : Nat} (h : (Try.prog.info? t).map (fun i => (i.zero, i.size, i.bytes)) = some (some z, s, b)) : ∃ i, Try.prog.info? t = some i ∧ i.zero = some z ∧ i.size = s ∧ i.bytes = b := by
  cases hi : Try.prog.info? t with
  | none => rw [hi] at h; cases h
  | some i =>
    rw [hi] at h
    simp only [Option.map_some, Option.some.injEq, Prod.mk.injEq] at h
    exact ⟨i, rfl, h.1, h.2.1, h.2.2⟩
/-- the cells of samples, one after the other -/
def flatS (ys : Nat → Smp) : Nat → List Value
  | 0 => []
  | k + 1 => flatS ys k ++ [.int .i64 (ys k).h, .int .i64 (ys k).p, .int .i64 (ys k).v, .int .i64 (ys k).q]
theorem flatS_len (ys : Nat → Smp) : ∀ k, (flatS ys k).length = k * 4
  | 0 => rfl
  | k + 1 => by rw [flatS, List.length_append, flatS_len ys k]; simp; omega
theorem flatS_at (ys : Nat → Smp) {j : Nat} (hj : j < 4) : ∀ {k i : Nat}, i < k → (flatS ys k)[i * 4 + j]? = ([.int .i64 (ys i).h, .int .i64 (ys i).p, .int .i64 (ys i).v, .int .i64 (ys i).q] : List Value)[j]?
  | k + 1, i, h => by
    rw [flatS]
    by_cases c : i = k
    · subst c
      rw [List.getElem?_append_right (by rw [flatS_len]; omega), flatS_len, Nat.add_sub_cancel_left]
    · rw [List.getElem?_append_left (by rw [flatS_len]; omega)]
      exact flatS_at ys hj (by omega)
theorem row_smps {W : World} {n0 k : Nat} {v : Value} {ys : Nat → Smp} (h : W.ownsRow n0 84 4 v k (flatS ys k)) (hk : 1 ≤ k) : ∃ g cap, v = .slice (some ⟨g, 0, none⟩) k cap ∧ n0 ≤ g ∧ g < W.heap.size ∧ SmpsAt W g 0 k ys := by
  rcases h.2 with ⟨rfl, hm⟩ | ⟨g, cap, cur, rfl, hng, hgb, _, _, _, _⟩
  · omega
  · have key : ∀ i j u, i < k → j < 4 → ([.int .i64 (ys i).h, .int .i64 (ys i).p, .int .i64 (ys i).v, .int .i64 (ys i).q] : List Value)[j]? = some u → W.cell? ⟨g, 0 + (i * 4 + j), none⟩ = some u := fun i j u hi hj hu => by
      have := h.cells (g := g) rfl (i * 4 + j) u (by rw [flatS_at ys hj hi]; exact hu)
      rw [add_at rfl] at this
      exact this
    exact ⟨g, cap, rfl, hng, (Array.getElem?_eq_some_iff.1 hgb).1, fun i hi => key i 0 _ hi (by decide) rfl, fun i hi => key i 1 _ hi (by decide) rfl, fun i hi => key i 2 _ hi (by decide) rfl, fun i hi => key i 3 _ hi (by decide) rfl⟩
theorem row_below {W W' : World} {n0 k s : Nat} {e : TypeId} {v : Value} {xs : List Value} (h : W.ownsRow n0 e s v k xs) (hb : Below W.heap.size W W') : W'.ownsRow n0 e s v k xs := h.kept (grown_below hb) (by
  cases hv : v.ownBlock with
  | none => exact .inl rfl
  | some q => exact .inr (by simp))
/-- samples that grow behind a world -/
structure SmI (V W : World) (v : Value) (k : Nat) (ys : Nat → Smp) : Prop where
  r : W.ownsRow V.heap.size 84 4 v k (flatS ys k)
  b : Below V.heap.size V W
theorem SmI.new (V : World) (ys : Nat → Smp) : SmI V V (.slice none 0 0) 0 ys := ⟨World.ownsRow_nil _ _ _ _, Below.refl _ _⟩
theorem SmI.keep {V W W' : World} {v : Value} {k : Nat} {ys : Nat → Smp} (h : SmI V W v k ys) (hb : Below W.heap.size W W') : SmI V W' v k ys := ⟨row_below h.r hb, h.b.trans (hb.mono h.b.size)⟩
theorem SmI.grown {V W w1 : World} {v v' : Value} {k : Nat} {ys : Nat → Smp} {tmp : Obj} (h : SmI V W v k ys) (hg : (W.alloc tmp).grownBy w1 v.ownBlock) (ho : w1.ownsRow V.heap.size 84 4 v' (k + 1) (flatS ys k ++ [.int .i64 (ys k).h, .int .i64 (ys k).p, .int .i64 (ys k).v, .int .i64 (ys k).q])) : SmI V w1 v' (k + 1) ys := by
  have hb : Below V.heap.size W w1 := ((Below.refl _ W).alloc h.b.size tmp).grown hg (by have := h.b.size; simp; omega) fun j ej => (h.r.lt j ej).1
  exact ⟨ho, h.b.trans hb⟩

theorem cell_four_new (W : World) (a b c d : Value) (T : TypeId) : ∀ j u, ([a, b, c, d] : List Value)[j]? = some u → (W.alloc (.cells #[a, b, c, d] T)).cell? ((⟨W.heap.size, 0, none⟩ : Addr).add j) = some u := fun j u h => by
  rw [add_at rfl]
  have hj : j < 4 := by
    have := (List.getElem?_eq_some_iff.1 h).1
    simpa using this
  have hj' : j = 0 ∨ j = 1 ∨ j = 2 ∨ j = 3 := by omega
  rcases hj' with rfl | rfl | rfl | rfl <;> exact alloc_new rfl h
/-- a slip: four small numbers -/
structure Slp where
  a : Int
  b : Int
  c : Int
  d : Int
def SlpOk (s : Slp) : Prop := (0 ≤ s.a ∧ s.a < 65536) ∧ (0 ≤ s.b ∧ s.b < 65536) ∧ (0 ≤ s.c ∧ s.c < 65536) ∧ (0 ≤ s.d ∧ s.d < 65536)
structure SlpsAt (w : World) (b off n : Nat) (zs : Nat → Slp) : Prop where
  c0 : ∀ i, i < n → w.cell? ⟨b, off + i * 4, none⟩ = some (.int .u16 (zs i).a)
  c1 : ∀ i, i < n → w.cell? ⟨b, off + i * 4 + 1, none⟩ = some (.int .u16 (zs i).b)
  c2 : ∀ i, i < n → w.cell? ⟨b, off + i * 4 + 2, none⟩ = some (.int .u16 (zs i).c)
  c3 : ∀ i, i < n → w.cell? ⟨b, off + i * 4 + 3, none⟩ = some (.int .u16 (zs i).d)
  ok : ∀ i, i < n → SlpOk (zs i)
theorem SlpsAt.keep {B b off n : Nat} {W w1 : World} {zs : Nat → Slp} (s : SlpsAt W b off n zs) (hb : Below B W w1) (h : b < B) : SlpsAt w1 b off n zs :=
  ⟨fun i hi => keepB hb h (s.c0 i hi), fun i hi => keepB hb h (s.c1 i hi), fun i hi => keepB hb h (s.c2 i hi), fun i hi => keepB hb h (s.c3 i hi), s.ok⟩
def SlpsIs (w : World) (a : Option Addr) (n : Nat) (zs : Nat → Slp) : Prop := n = 0 ∨ ∃ b off, a = some ⟨b, off, none⟩ ∧ b < w.heap.size ∧ SlpsAt w b off n zs

set_option maxRecDepth 100000 in
theorem slp_trod {H : Type} {enc : TypeId × Value → H} {w : World} {base : Nat} {spare : Nat → Bool} {held : Bool} {fuel : Nat} {v0 v1 v2 v3 : Value} {y : DataW H × List MemPlace}
    (hf : DataW.trod enc Try.prog w base spare held fuel 82 [v0, v1, v2, v3] = some y) : ∃ z : Slp, v0 = .int .u16 z.a ∧ v1 = .int .u16 z.b ∧ v2 = .int .u16 z.c ∧ v3 = .int .u16 z.d ∧ SlpOk z := by
  obtain ⟨xs, m, _, _, _, hlen, hg⟩ := DataW.trod_struct Try.underlying82 hf
  match xs, hlen with
  | [y0, y1, y2, y3], _ =>
    have g0 := hg 0 _ rfl
    simp [Value.cells, cells80] at g0
    obtain ⟨a, e0, _, w0⟩ := DataW.trod_int Try.underlying80 g0
    have g1 := hg 1 _ rfl
    simp [Value.cells, cells80] at g1
    obtain ⟨b, e1, _, w1⟩ := DataW.trod_int Try.underlying80 g1
    have g2 := hg 2 _ rfl
    simp [Value.cells, cells80] at g2
    obtain ⟨c, e2, _, w2⟩ := DataW.trod_int Try.underlying80 g2
    have g3 := hg 3 _ rfl
    simp [Value.cells, cells80] at g3
    obtain ⟨d, e3, _, w3⟩ := DataW.trod_int Try.underlying80 g3
    simp only [List.cons.injEq, and_true] at e0 e1 e2 e3
    exact ⟨⟨a, b, c, d⟩, e0, e1, e2, e3, wf_u16 w0, wf_u16 w1, wf_u16 w2, wf_u16 w3⟩

set_option maxRecDepth 100000 in
theorem slps_open {H : Type} {enc : TypeId × Value → H} {w : World} {r : Reach} {b0 base : Nat} {spare : Nat → Bool} {held : Bool} {v : Value} {d : DataW H} {p : List MemPlace}
    (hv : Value.okWide Try.prog w r b0 78 v) (hh : DataW.Trod enc Try.prog w base spare held 78 v d p) :
    ∃ (a : Option Addr) (n cap : Nat) (zs : Nat → Slp), v = .slice a n cap ∧ n ≤ maxLen ∧ SlpsIs w a n zs := by
  obtain ⟨a0, n0, c0, rfl⟩ := okWide_slice Try.underlying78 hv
  obtain ⟨fuel, h⟩ := hh
  rcases Go.Deep.open_slice Try.underlying78 h with ⟨hc, _⟩ | ⟨a, len, cap, m, k, D, Pl, hc, _, hl, hm, hmm, _, hi⟩
  · have hc2 : [Value.slice a0 n0 c0] = [Value.slice none 0 0] := hc
    simp only [List.cons.injEq, and_true] at hc2
    exact ⟨none, 0, 0, fun _ => ⟨0, 0, 0, 0⟩, hc2, by decide, .inl rfl⟩
  · have hc2 : [Value.slice a0 n0 c0] = [Value.slice (some a) len cap] := hc
    simp only [List.cons.injEq, and_true] at hc2
    have hle : len ≤ m := by rw [hmm]; split <;> omega
    have key : ∀ i, ∃ z : Slp, i < len → w.cell? (a.add (i * 4)) = some (.int .u16 z.a) ∧ w.cell? ((a.add (i * 4)).add 1) = some (.int .u16 z.b) ∧ w.cell? ((a.add (i * 4)).add 2) = some (.int .u16 z.c) ∧ w.cell? ((a.add (i * 4)).add 3) = some (.int .u16 z.d) ∧ SlpOk z := by
      intro i
      by_cases hil : i < len
      · obtain ⟨cs', hcs, ht⟩ := hi i (by omega)
        rw [cells82] at hcs
        obtain ⟨_, hcl, hat⟩ := World.cells?_some hcs
        match cs', hcl with
        | [v0, v1, v2, v3], _ =>
          obtain ⟨z, rfl, rfl, rfl, rfl, hok⟩ := slp_trod ht
          refine ⟨z, fun _ => ⟨?_, hat 1 (by decide), hat 2 (by decide), hat 3 (by decide), hok⟩⟩
          have h0 := hat 0 (by decide)
          have e : (a.add (i * 4)).add 0 = a.add (i * 4) := by rw [Go.Deep.add_add]; rfl
          rw [e] at h0; exact h0
      · exact ⟨⟨0, 0, 0, 0⟩, fun h => absurd h hil⟩
    obtain ⟨zs, hz⟩ := Classical.axiomOfChoice key
    refine ⟨some a, len, cap, zs, hc2, Nat.le_trans hl hm, ?_⟩
    by_cases h0 : len = 0
    · exact .inl h0
    · have h1 := (hz 0 (by omega)).1
      have hsp : a.spot = none := World.cell?_spot h1
      refine .inr ⟨a.block, a.off, ?_, ?_, fun i hil => ?_, fun i hil => ?_, fun i hil => ?_, fun i hil => ?_, fun i hil => (hz i hil).2.2.2.2⟩
      · obtain ⟨b, off, spot⟩ := a
        simp only at hsp
        rw [hsp]
      · rw [add_at hsp] at h1
        exact World.block_lt_of_cell? w ⟨a.block, a.off + 0 * 4, none⟩ h1
      · have h2 := (hz i hil).1
        rw [add_at hsp] at h2; exact h2
      · have h2 := (hz i hil).2.1
        rw [add_at2 hsp] at h2; exact h2
      · have h2 := (hz i hil).2.2.1
        rw [add_at2 hsp] at h2; exact h2
      · have h2 := (hz i hil).2.2.2.1
        rw [add_at2 hsp] at h2; exact h2

/-- the slip of a sample -/
def slF (m : Nat) (sl : Nat → Slp) (i : Nat) : Slp := if m = 0 then ⟨0, 0, 0, 0⟩ else sl (i % m)
/-- what is true of the samples -/
def truS (lv ph : Int) (zs : Nat → Smp) (s : Nat → Slp) (i : Nat) : Smp := ⟨lvl (zs i).h (offV (s i).a lv), ((zs i).p + offV (s i).b ph) % 65536, lvl (zs i).v (offV (s i).c lv), ((zs i).q + offV (s i).d ph) % 65536⟩
theorem lvl_in {x d lv : Int} (hx : 0 ≤ x ∧ x ≤ 1023) (h : 0 ≤ lv) (hd : -lv ≤ d ∧ d ≤ lv) : mg (-lv) x ≤ lvl x d ∧ lvl x d ≤ mg lv x ∧ lvl x d ≤ 1023 := by
  unfold mg mx lvl
  refine ⟨by split <;> omega, by split <;> omega, by omega⟩
theorem tru_of {lv ph : Int} {n : Nat} {zs : Nat → Smp} (s : Nat → Slp) (hl : 0 ≤ lv) (hp : 0 ≤ ph) (hz : LevOk n zs) : Tru lv ph n zs (truS lv ph zs s) (fun i => offV (s i).b ph) (fun i => offV (s i).d ph) :=
  ⟨fun i hi => lvl_in ⟨(hz i hi).1, (hz i hi).2.1⟩ hl (offV_bd hl), fun i hi => lvl_in ⟨(hz i hi).2.2.1, (hz i hi).2.2.2⟩ hl (offV_bd hl), fun i hi => rfl, fun i hi => rfl, fun i => ⟨offV_bd hp, offV_bd hp⟩⟩

end Go.Proofs.Ytmojnopgpgnfeaa

namespace Go.Proofs.Ytmojnopgpgnfeaa
open Go.RowKit
set_option linter.unusedVariables false
set_option linter.unusedSimpArgs false

structure TrB (w W : World) (l kd f s c lv ph n0 n1 : Int) : Prop where
  c0 : W.cell? ⟨w.heap.size, 0, none⟩ = some (.int .i64 l)
  c1 : W.cell? ⟨w.heap.size, 1, none⟩ = some (.int .i64 kd)
  c2 : W.cell? ⟨w.heap.size, 2, none⟩ = some (.int .i64 f)
  c3 : W.cell? ⟨w.heap.size, 3, none⟩ = some (.int .i64 s)
  c4 : W.cell? ⟨w.heap.size, 4, none⟩ = some (.int .i64 c)
  c5 : W.cell? ⟨w.heap.size + 1, 0, none⟩ = some (.int .i64 lv)
  c6 : W.cell? ⟨w.heap.size + 1, 1, none⟩ = some (.int .i64 ph)
  c7 : W.cell? ⟨w.heap.size + 1, 2, none⟩ = some (.int .i64 n0)
  c8 : W.cell? ⟨w.heap.size + 1, 3, none⟩ = some (.int .i64 n1)
  z : w.heap.size + 2 ≤ W.heap.size
  b : Below w.heap.size w W
theorem TrB.keep {w W w1 : World} {l kd f s c lv ph n0 n1 : Int} (x : TrB w W l kd f s c lv ph n0 n1) (hb : Below W.heap.size W w1) : TrB w w1 l kd f s c lv ph n0 n1 :=
  ⟨keepW hb x.c0, keepW hb x.c1, keepW hb x.c2, keepW hb x.c3, keepW hb x.c4, keepW hb x.c5, keepW hb x.c6, keepW hb x.c7, keepW hb x.c8, Nat.le_trans x.z hb.size, x.b.trans (hb.mono x.b.size)⟩
theorem TrB.new (w : World) (l kd f s c lv ph n0 n1 : Int) : TrB w ((w.alloc (.cells #[.int .i64 l, .int .i64 kd, .int .i64 f, .int .i64 s, .int .i64 c] 23)).alloc (.cells #[.int .i64 lv, .int .i64 ph, .int .i64 n0, .int .i64 n1] 27)) l kd f s c lv ph n0 n1 := by
  obtain ⟨A1, e1⟩ : ∃ A, A = w.alloc (.cells #[.int .i64 l, .int .i64 kd, .int .i64 f, .int .i64 s, .int .i64 c] 23) := ⟨_, rfl⟩
  obtain ⟨A2, e2⟩ : ∃ A, A = A1.alloc (.cells #[.int .i64 lv, .int .i64 ph, .int .i64 n0, .int .i64 n1] 27) := ⟨_, rfl⟩
  have s1 : A1.heap.size = w.heap.size + 1 := by rw [e1]; exact World.size_alloc _ _
  have s2 : A2.heap.size = w.heap.size + 2 := by rw [e2, World.size_alloc, s1]
  rw [← e1, ← e2]
  have b1 : Below w.heap.size w A1 := by rw [e1]; exact below_alloc _ _
  have b2 : Below A1.heap.size A1 A2 := by rw [e2]; exact below_alloc _ _
  exact ⟨keepB b2 (by omega) (by rw [e1]; exact alloc_new rfl rfl), keepB b2 (by omega) (by rw [e1]; exact alloc_new rfl rfl), keepB b2 (by omega) (by rw [e1]; exact alloc_new rfl rfl), keepB b2 (by omega) (by rw [e1]; exact alloc_new rfl rfl), keepB b2 (by omega) (by rw [e1]; exact alloc_new rfl rfl), by rw [e2, ← s1]; exact alloc_new rfl rfl, by rw [e2, ← s1]; exact alloc_new rfl rfl, by rw [e2, ← s1]; exact alloc_new rfl rfl, by rw [e2, ← s1]; exact alloc_new rfl rfl, by omega, b1.trans (b2.mono (by omega))⟩

theorem echo_sp {kd p0 p1 s0 s1 s2 s3 sp r0 r1 m0 m1 t0 t1 : Int} (h : echoC kd p0 p1 s0 s1 s2 s3 sp r0 r1 m0 m1 t0 t1 = 0) : 0 ≤ sp ∧ sp ≤ 65535 := by
  have hb : heardB p0 p1 sp r0 r1 m0 m1 = true → 0 ≤ sp ∧ sp ≤ 65535 := fun h => by
    unfold heardB at h
    rw [Bool.and_eq_true, inB_true] at h
    exact h.2
  unfold echoC at h
  split at h
  · split at h
    · rename_i h2
      unfold quietB at h2
      rw [Bool.and_eq_true, decide_eq_true_eq] at h2
      omega
    · omega
  · split at h
    · split at h
      · rename_i h2
        unfold mixedB at h2
        rw [Bool.and_eq_true] at h2
        exact hb h2.1
      · omega
    · split at h
      · split at h
        · rename_i h2
          unfold clearB at h2
          rw [Bool.and_eq_true] at h2
          exact hb h2.1
        · omega
      · omega
set_option maxRecDepth 100000 in
set_option maxHeartbeats 16000000 in
theorem PulseTruth_walk (l kd f s c lv ph n0 n1 : Int) (a : Option Addr) (n cap : Nat) (zs : Nat → Smp) (sa : Option Addr) (m scap : Nat) (sl : Nat → Slp) (nz : Int) (w : World) (hn : n ≤ maxLen) (hS : SmpsIs w a n zs) (hm : m ≤ maxLen) (hSl : SlpsIs w sa m sl) (hnz : 0 ≤ nz ∧ nz < 4294967296) :
    Calls Try.prog 9 #[.agg #[.int .i64 l, .int .i64 kd, .int .i64 f, .int .i64 s, .int .i64 c], .agg #[.int .i64 lv, .int .i64 ph, .int .i64 n0, .int .i64 n1], .slice a n cap, .slice sa m scap, .int .u32 nz] w fun e w' => e = .returned (.bool true) ∧ Below w.heap.size w w' := by
  have hmaxl : maxLen = 9223372036854775807 := rfl
  have P0 := Lib.hid (TrB.new w l kd f s c lv ph n0 n1)
  obtain ⟨U, hU⟩ : ∃ U, U = ((w.alloc (.cells #[.int .i64 l, .int .i64 kd, .int .i64 f, .int .i64 s, .int .i64 c] 23)).alloc (.cells #[.int .i64 lv, .int .i64 ph, .int .i64 n0, .int .i64 n1] 27)) := ⟨_, rfl⟩
  rw [← hU] at P0
  by_cases h64 : 64 < n
  · have e1 : decide (64 < (n : Int)) = true := decide_eq_true (by omega)
    go_enter Try.func9, Try.ntmps9
    go_wp2_with fail
    rw [← hU]
    clear hU
    refine (works_any _).mono ?_; rintro e' X ⟨rfl, hb⟩
    go_wp2
    go_ret
    exact ⟨rfl, P0.out.b.trans (hb.mono P0.out.b.size)⟩
  have e1 : decide (64 < (n : Int)) = false := decide_eq_false (by omega)
  obtain ⟨E, hE⟩ : ∃ E, E = herE l kd f s c lv ph n0 n1 n zs := ⟨_, rfl⟩
  obtain ⟨g, hg⟩ : ∃ g, g = herV l kd f s c lv ph n0 n1 n zs := ⟨_, rfl⟩
  have H1 : Hid (∀ W : World, Below w.heap.size w W → Calls Try.prog 27 #[.agg #[.int .i64 l, .int .i64 kd, .int .i64 f, .int .i64 s, .int .i64 c], .agg #[.int .i64 lv, .int .i64 ph, .int .i64 n0, .int .i64 n1], .slice a n cap] W fun e w' => e = .returned (.tuple #[.agg #[.int .i64 (g 0), .int .i64 (g 1), .int .i64 (g 2), .int .i64 (g 3), .int .i64 (g 4), .int .i64 (g 5), .int .i64 (g 6), .int .i64 (g 7), .int .i64 (g 8), .int .i64 (g 9), .int .i64 (g 10), .int .i64 (g 11), .int .i64 (g 12), .int .i64 (g 13)], .int .i64 E]) ∧ Below W.heap.size W w') := Lib.hid fun W hW => by rw [hE, hg]; exact Hear_any _ _ _ _ _ _ _ _ _ a n cap zs W (hS.keep hW)
  by_cases hE0 : E = 0
  case neg =>
    have e2 : (E == 0) = false := beq_eq_false_iff_ne.2 hE0
    have e3 : (E != 0) = true := by simpa using hE0
    clear hE hg hE0 hS
    go_enter Try.func9, Try.ntmps9
    go_wp2_with fail
    rw [← hU]
    clear hU
    obtain ⟨c0, c1, c2, c3, c4, c5, c6, c7, c8, hz, hbw⟩ := P0.out
    refine (H1.out _ hbw).mono ?_; rintro e' X1 ⟨rfl, hb1⟩
    have b2 := hbw.trans ((hb1.trans ((below_alloc X1 (.cells #[.int .i64 (g 0), .int .i64 (g 1), .int .i64 (g 2), .int .i64 (g 3), .int .i64 (g 4), .int .i64 (g 5), .int .i64 (g 6), .int .i64 (g 7), .int .i64 (g 8), .int .i64 (g 9), .int .i64 (g 10), .int .i64 (g 11), .int .i64 (g 12), .int .i64 (g 13)] 30)).mono hb1.size)).mono hbw.size)
    clear c0 c1 c2 c3 c4 c5 c6 c7 c8 hz hbw hb1 P0
    go_wp2_with fail
    refine (works_any _).mono ?_; rintro e' X ⟨rfl, hb⟩
    go_wp2
    go_ret
    exact ⟨rfl, b2.trans (hb.mono b2.size)⟩
  obtain ⟨k1, k2, k3, k4⟩ := herE_0 (hE.symm.trans hE0)
  obtain ⟨r1, r2, r3⟩ := recv_ok k2
  have hc2 := (train_ok k1).1
  have hg2 : g = hearOf l kd c lv ph n0 n1 n zs := by rw [hg]; unfold herV; rw [if_pos (hE.symm.trans hE0)]
  rcases hS with h | ⟨b, off, rfl, hb, hs⟩
  · omega
  obtain ⟨r, hr⟩ : ∃ r, r = nz % (n1 - n0 + 1) := ⟨_, rfl⟩
  have hmd : 0 ≤ r ∧ r < n1 - n0 + 1 := by rw [hr]; exact ⟨Int.emod_nonneg _ (by omega), Int.emod_lt_of_pos _ (by omega)⟩
  have tmd : nz.tmod (n1 - n0 + 1) = r := by rw [hr]; exact Int.tmod_eq_emod_of_nonneg hnz.1
  obtain ⟨N, hN⟩ : ∃ N, N = n0 + r := ⟨_, rfl⟩
  have hNb : n0 ≤ N ∧ N ≤ n1 := by omega
  obtain ⟨m1, m2, m3, m4⟩ := truth_within (l := l) (kd := kd) (f := f) (s := s) (c := c) k1 k2 k3 k4 (tru_of (slF m sl) r1.1 r2.1 (lev_ok k4)) hNb
  rw [← hg2] at m3 m4
  obtain ⟨ys, hys⟩ : ∃ y, y = truS lv ph zs (slF m sl) := ⟨_, rfl⟩
  rw [← hys] at m2 m3 m4
  obtain ⟨g2, hg3⟩ : ∃ g, g = hearOf l kd c 0 0 N N n ys := ⟨_, rfl⟩
  rw [← hg3] at m3 m4
  have HW := Lib.hid (fun W : World => within_any g2 g W m3)
  have M4 := Lib.hid m4
  have HH : Hid (∀ (W : World) (q k : Nat), SmpsAt W q 0 n ys → q < W.heap.size → Calls Try.prog 27 #[.agg #[.int .i64 l, .int .i64 kd, .int .i64 f, .int .i64 s, .int .i64 c], .agg #[.int .i64 0, .int .i64 0, .int .i64 N, .int .i64 N], .slice (some ⟨q, 0, none⟩) n k] W fun e w' => e = .returned (.tuple #[.agg #[.int .i64 (g2 0), .int .i64 (g2 1), .int .i64 (g2 2), .int .i64 (g2 3), .int .i64 (g2 4), .int .i64 (g2 5), .int .i64 (g2 6), .int .i64 (g2 7), .int .i64 (g2 8), .int .i64 (g2 9), .int .i64 (g2 10), .int .i64 (g2 11), .int .i64 (g2 12), .int .i64 (g2 13)], .int .i64 0]) ∧ Below W.heap.size W w') := Lib.hid fun W q k h1 h2 => by
    rw [hg3]
    exact Hear_ok l kd f s c 0 0 N N q 0 n k ys W k1 m1 k3 m2 h1 h2
  have HZ := Lib.hid (lev_ok k4)
  have HP := Lib.hid (fun i (hi : i < n) => smpB_true (allS_at k4 hi))
  have HS := Lib.hid hs
  have HSl := Lib.hid hSl
  have HY : Hid (∀ i, ys i = truS lv ph zs (slF m sl) i) := Lib.hid fun i => by rw [hys]
  have hn2 : 2 ≤ n ∧ n ≤ 64 := by omega
  have NB := Lib.hid (And.intro hNb (And.intro hmd (And.intro hN tmd)))
  have SP := Lib.hid (And.intro (echo_sp m3.1) (echo_sp m3.2.1))
  subst hE0
  clear hE hg hg2 hg3 m1 m2 m3 m4 hs hSl k1 k2 k3 k4 hys hmd hNb hN hr tmd
  have d1 : decide (n1 < n0) = false := decide_eq_false (by omega)
  have d2 : decide (lv < 0) = false := decide_eq_false (by omega)
  have d3 : decide (ph < 0) = false := decide_eq_false (by omega)
  obtain ⟨i0, hi, hz0, hz1, hz2⟩ := info_parts4 info84
  go_enter Try.func9, Try.ntmps9
  go_wp2_with fail
  rw [← hU]
  clear hU
  obtain ⟨c0, c1, c2, c3, c4, c5, c6, c7, c8, hz, hbw⟩ := P0.out
  refine (H1.out _ hbw).mono ?_; rintro e' X1 ⟨rfl, hb1⟩
  obtain ⟨V, hV⟩ : ∃ V, V = X1.alloc (.cells #[.int .i64 (g 0), .int .i64 (g 1), .int .i64 (g 2), .int .i64 (g 3), .int .i64 (g 4), .int .i64 (g 5), .int .i64 (g 6), .int .i64 (g 7), .int .i64 (g 8), .int .i64 (g 9), .int .i64 (g 10), .int .i64 (g 11), .int .i64 (g 12), .int .i64 (g 13)] 30) := ⟨_, rfl⟩
  have P1 := Lib.hid (P0.out.keep hb1)
  have bV : Below X1.heap.size X1 V := by rw [hV]; exact below_alloc _ _
  have PV := Lib.hid (P1.out.keep bV)
  have GV := Lib.hid (show EchB V X1.heap.size g by rw [hV]; exact EchB.new X1 g)
  have yV : X1.heap.size < V.heap.size := by rw [hV, World.size_alloc]; omega
  clear c0 c1 c2 c3 c4 c5 c6 c7 c8 hz hbw hb1 P0 bV
  obtain ⟨c0, c1, c2, c3, c4, c5, c6, c7, c8, hz, hbw⟩ := P1.out
  have y0 : w.heap.size < X1.heap.size := by omega
  have y1 : w.heap.size + 1 < X1.heap.size := by omega
  have YY := Lib.hid (And.intro y0 (And.intro y1 yV))
  go_wp2_with fail
  rw [← hV]
  clear hV c0 c1 c2 c3 c4 c5 c6 c7 c8 y0 y1 hz hbw P1 d1 d2 d3 yV
  go_loopw [13, 14] (fun v13 v14 wr => ∃ k : Nat, k ≤ n ∧ v14 = .int .i64 k ∧ SmI V wr v13 k ys) (fun _ v14 _ => n - (intOf v14).toNat)
  case atStart => exact ⟨0, Nat.zero_le _, rfl, SmI.new V ys⟩
  case round =>
    obtain ⟨k, hk, rfl, hI⟩ := hrel
    by_cases hlt : k < n
    · have hbw := hI.b
      have HI := Lib.hid hI
      have bVw := PV.out.b
      have hbV : b < V.heap.size := Nat.lt_of_lt_of_le hb bVw.size
      have hbr : b < wr.heap.size := Nat.lt_of_lt_of_le hbV hbw.size
      have z0 := keepB hbw hbV (keepB bVw hb (HS.out.c0 k hlt))
      have z1 := keepB hbw hbV (keepB bVw hb (HS.out.c1 k hlt))
      have z2 := keepB hbw hbV (keepB bVw hb (HS.out.c2 k hlt))
      have z3 := keepB hbw hbV (keepB bVw hb (HS.out.c3 k hlt))
      obtain ⟨_, _, _, _, _, t0, t1, t2, t3, tz, tb⟩ := PV.out.keep hbw
      have Z := Lib.hid (And.intro z0 (And.intro z1 (And.intro z2 z3)))
      have TT := Lib.hid (And.intro t0 (And.intro t1 (And.intro t2 t3)))
      have TZ := Lib.hid tz
      have HOK : SlpOk (slF m sl k) := by
        unfold slF
        by_cases h0 : m = 0
        · rw [if_pos h0]; exact ⟨by decide, by decide, by decide, by decide⟩
        · rw [if_neg h0]
          rcases HSl.out with h | ⟨sb, so, _, _, hsl⟩
          · exact absurd h h0
          · exact hsl.ok _ (Nat.mod_lt _ (by omega))
      have HT : Hid (∀ W : World, Calls Try.prog 39 #[.agg #[.int .i64 (zs k).h, .int .i64 (zs k).p, .int .i64 (zs k).v, .int .i64 (zs k).q], .agg #[.int .i64 lv, .int .i64 ph, .int .i64 n0, .int .i64 n1], .agg #[.int .u16 (slF m sl k).a, .int .u16 (slF m sl k).b, .int .u16 (slF m sl k).c, .int .u16 (slF m sl k).d]] W fun e w' => e = .returned (.agg #[.int .i64 (ys k).h, .int .i64 (ys k).p, .int .i64 (ys k).v, .int .i64 (ys k).q]) ∧ Below W.heap.size W w') := Lib.hid fun W => by
        rw [HY.out k]
        have hp := HP.out k hlt
        have hz := HZ.out k hlt
        exact truth_any _ _ _ _ lv ph n0 n1 _ _ _ _ W ⟨⟨hz.1, hz.2.1⟩, by omega, ⟨hz.2.2.1, hz.2.2.2⟩, by omega⟩ r1 r2 HOK
      have bw2 := Lib.hid (bVw.trans (hbw.mono bVw.size))
      obtain ⟨yh, hyh⟩ : ∃ x, x = (zs k).h := ⟨_, rfl⟩
      obtain ⟨yp, hyp⟩ : ∃ x, x = (zs k).p := ⟨_, rfl⟩
      obtain ⟨yv, hyv⟩ : ∃ x, x = (zs k).v := ⟨_, rfl⟩
      obtain ⟨yq, hyq⟩ : ∃ x, x = (zs k).q := ⟨_, rfl⟩
      obtain ⟨uh, huh⟩ : ∃ x, x = (ys k).h := ⟨_, rfl⟩
      obtain ⟨up, hup⟩ : ∃ x, x = (ys k).p := ⟨_, rfl⟩
      obtain ⟨uv, huv⟩ : ∃ x, x = (ys k).v := ⟨_, rfl⟩
      obtain ⟨uq, huq⟩ : ∃ x, x = (ys k).q := ⟨_, rfl⟩
      have HU := Lib.hid (And.intro huh (And.intro hup (And.intro huv huq)))
      obtain ⟨xa, hxa⟩ : ∃ x, x = (slF m sl k).a := ⟨_, rfl⟩
      obtain ⟨xb, hxb⟩ : ∃ x, x = (slF m sl k).b := ⟨_, rfl⟩
      obtain ⟨xc, hxc⟩ : ∃ x, x = (slF m sl k).c := ⟨_, rfl⟩
      obtain ⟨xd, hxd⟩ : ∃ x, x = (slF m sl k).d := ⟨_, rfl⟩
      rw [← hyh] at z0
      rw [← hyp] at z1
      rw [← hyv] at z2
      rw [← hyq] at z3
      rw [← hyh, ← hyp, ← hyv, ← hyq, ← huh, ← hup, ← huv, ← huq, ← hxa, ← hxb, ← hxc, ← hxd] at HT
      obtain ⟨A, hA⟩ : ∃ A, A = wr.alloc (.cells #[.int .u16 xa, .int .u16 xb, .int .u16 xc, .int .u16 xd] 82) := ⟨_, rfl⟩
      have bA : Below wr.heap.size wr A := by rw [hA]; exact below_alloc _ _
      have HS15 := Lib.hid (show (fun w' : World => w'.cell? ⟨b, off + k * 4, none⟩ = some (.int .i64 yh) ∧ w'.cell? ⟨b, off + k * 4 + 1, none⟩ = some (.int .i64 yp) ∧ w'.cell? ⟨b, off + k * 4 + 2, none⟩ = some (.int .i64 yv) ∧ w'.cell? ⟨b, off + k * 4 + 3, none⟩ = some (.int .i64 yq) ∧ w'.cell? ⟨w.heap.size + 1, 0, none⟩ = some (.int .i64 lv) ∧ w'.cell? ⟨w.heap.size + 1, 1, none⟩ = some (.int .i64 ph) ∧ w'.cell? ⟨w.heap.size + 1, 2, none⟩ = some (.int .i64 n0) ∧ w'.cell? ⟨w.heap.size + 1, 3, none⟩ = some (.int .i64 n1) ∧ w'.cell? ⟨wr.heap.size, 0, none⟩ = some (.int .u16 xa) ∧ w'.cell? ⟨wr.heap.size, 1, none⟩ = some (.int .u16 xb) ∧ w'.cell? ⟨wr.heap.size, 2, none⟩ = some (.int .u16 xc) ∧ w'.cell? ⟨wr.heap.size, 3, none⟩ = some (.int .u16 xd) ∧ Below A.drew.heap.size A.drew w') A.drew from ⟨(show A.cell? _ = _ from keepB bA hbr z0), (show A.cell? _ = _ from keepB bA hbr z1), (show A.cell? _ = _ from keepB bA hbr z2), (show A.cell? _ = _ from keepB bA hbr z3), (show A.cell? _ = _ from keepB bA (by omega) t0), (show A.cell? _ = _ from keepB bA (by omega) t1), (show A.cell? _ = _ from keepB bA (by omega) t2), (show A.cell? _ = _ from keepB bA (by omega) t3), (show A.cell? _ = _ by rw [hA]; exact alloc_new rfl rfl), (show A.cell? _ = _ by rw [hA]; exact alloc_new rfl rfl), (show A.cell? _ = _ by rw [hA]; exact alloc_new rfl rfl), (show A.cell? _ = _ by rw [hA]; exact alloc_new rfl rfl), Below.refl _ _⟩)
      have HIA := Lib.hid (HI.out.keep bA.drew)
      clear bA hI hbw bVw z0 z1 z2 z3 t0 t1 t2 t3 tz tb huh hup huv huq hyh hyp hyv hyq Z TT HOK HI
      by_cases h0 : m = 0
      · skip
        have e : slF m sl k = ⟨0, 0, 0, 0⟩ := by (unfold slF; rw [if_pos h0])
        rw [e] at hxa hxb hxc hxd
        dsimp only at hxa hxb hxc hxd
        have HA := Lib.hid (show A = wr.alloc (.cells #[.int .u16 0, .int .u16 0, .int .u16 0, .int .u16 0] 82) by (rw [hA, hxa, hxb, hxc, hxd]))
        have em : decide (0 < m) = false := decide_eq_false (by omega)
        have em2 : decide (0 < (m : Int)) = false := decide_eq_false (by omega)
        clear e h0 hA hxa hxb hxc hxd
        go_wp2_with fail
        rw [← HA.out]
        refine wp_region_held_tail (S := (fun w' : World => w'.cell? ⟨b, off + k * 4, none⟩ = some (.int .i64 yh) ∧ w'.cell? ⟨b, off + k * 4 + 1, none⟩ = some (.int .i64 yp) ∧ w'.cell? ⟨b, off + k * 4 + 2, none⟩ = some (.int .i64 yv) ∧ w'.cell? ⟨b, off + k * 4 + 3, none⟩ = some (.int .i64 yq) ∧ w'.cell? ⟨w.heap.size + 1, 0, none⟩ = some (.int .i64 lv) ∧ w'.cell? ⟨w.heap.size + 1, 1, none⟩ = some (.int .i64 ph) ∧ w'.cell? ⟨w.heap.size + 1, 2, none⟩ = some (.int .i64 n0) ∧ w'.cell? ⟨w.heap.size + 1, 3, none⟩ = some (.int .i64 n1) ∧ w'.cell? ⟨wr.heap.size, 0, none⟩ = some (.int .u16 xa) ∧ w'.cell? ⟨wr.heap.size, 1, none⟩ = some (.int .u16 xb) ∧ w'.cell? ⟨wr.heap.size, 2, none⟩ = some (.int .u16 xc) ∧ w'.cell? ⟨wr.heap.size, 3, none⟩ = some (.int .u16 xd) ∧ Below A.drew.heap.size A.drew w')) 9 (by kernel_rfl) (by kernel_rfl) HS15.out (fun hHeld => ?_)
        refine wpAnyH_take (i := 0) (v := ?v0_1) rfl (by kernel_rfl) (by kernel_rfl) (by kernel_rfl) (fun _ _ _ h => h) (Or.inl ⟨by rfl, ?hy0_1⟩) (by assumption) ?rest0_1
        case hy0_1 => (intro w hSw; (try dsimp only at hSw); go_simp; (try with_reducible rfl))
        try simp only [Act.put, List.setIfInBounds_toArray, List.set_cons_zero, List.set_cons_succ]
        refine wpAnyH_take (i := 1) (v := ?v1_2) rfl (by kernel_rfl) (by kernel_rfl) (by kernel_rfl) (fun _ _ _ h => h) (Or.inl ⟨by rfl, ?hy1_2⟩) (by assumption) ?rest1_2
        case hy1_2 => (intro w hSw; (try dsimp only at hSw); go_simp; (try with_reducible rfl))
        try simp only [Act.put, List.setIfInBounds_toArray, List.set_cons_zero, List.set_cons_succ]
        refine wpAnyH_take (i := 2) (v := ?v2_3) rfl (by kernel_rfl) (by kernel_rfl) (by kernel_rfl) (fun _ _ _ h => h) (Or.inl ⟨by rfl, ?hy2_3⟩) (by assumption) ?rest2_3
        case hy2_3 => (intro w hSw; (try dsimp only at hSw); go_simp; (try with_reducible rfl))
        try simp only [Act.put, List.setIfInBounds_toArray, List.set_cons_zero, List.set_cons_succ]
        refine wpAnyH_take (i := 3) (v := ?v3_4) rfl (by kernel_rfl) (by kernel_rfl) (by kernel_rfl) (fun _ _ _ h => h) (Or.inl ⟨by rfl, ?hy3_4⟩) (by assumption) ?rest3_4
        case hy3_4 => (intro w hSw; (try dsimp only at hSw); go_simp; (try with_reducible rfl))
        try simp only [Act.put, List.setIfInBounds_toArray, List.set_cons_zero, List.set_cons_succ]
        refine wpAnyH_take (i := 4) (v := ?v4_5) rfl (by kernel_rfl) (by kernel_rfl) (by kernel_rfl) (fun _ _ _ h => h) (Or.inl ⟨by rfl, ?hy4_5⟩) (by assumption) ?rest4_5
        case hy4_5 => (intro w hSw; (try dsimp only at hSw); go_simp; (try with_reducible rfl))
        try simp only [Act.put, List.setIfInBounds_toArray, List.set_cons_zero, List.set_cons_succ]
        refine wpAnyH_take (i := 5) (v := ?v5_6) rfl (by kernel_rfl) (by kernel_rfl) (by kernel_rfl) (fun _ _ _ h => h) (Or.inl ⟨by rfl, ?hy5_6⟩) (by assumption) ?rest5_6
        case hy5_6 => (intro w hSw; (try dsimp only at hSw); go_simp; (try with_reducible rfl))
        try simp only [Act.put, List.setIfInBounds_toArray, List.set_cons_zero, List.set_cons_succ]
        refine wpAnyH_take (i := 6) (v := ?v6_7) rfl (by kernel_rfl) (by kernel_rfl) (by kernel_rfl) (fun _ _ _ h => h) (Or.inl ⟨by rfl, ?hy6_7⟩) (by assumption) ?rest6_7
        case hy6_7 => (intro w hSw; (try dsimp only at hSw); go_simp; (try with_reducible rfl))
        try simp only [Act.put, List.setIfInBounds_toArray, List.set_cons_zero, List.set_cons_succ]
        refine wpAnyH_ready (rs := [7]) (by kernel_rfl) (by simp) ?_
        refine AllReadyH.cons rfl (fun K hK => ?_) AllReadyH.nil
        go_simp; refine (HT.out _).mono ?_; rintro e' w' ⟨rfl, hb'⟩
        refine hK.out _ _ (⟨keepW hb' hHeld.1, keepW hb' hHeld.2.1, keepW hb' hHeld.2.2.1, keepW hb' hHeld.2.2.2.1, keepW hb' hHeld.2.2.2.2.1, keepW hb' hHeld.2.2.2.2.2.1, keepW hb' hHeld.2.2.2.2.2.2.1, keepW hb' hHeld.2.2.2.2.2.2.2.1, keepW hb' hHeld.2.2.2.2.2.2.2.2.1, keepW hb' hHeld.2.2.2.2.2.2.2.2.2.1, keepW hb' hHeld.2.2.2.2.2.2.2.2.2.2.1, keepW hb' hHeld.2.2.2.2.2.2.2.2.2.2.2.1, hHeld.2.2.2.2.2.2.2.2.2.2.2.2.trans (hb'.mono hHeld.2.2.2.2.2.2.2.2.2.2.2.2.size)⟩) (fun hHeld => ?_)
        clear hK K
        try simp only [Act.put, List.setIfInBounds_toArray, List.set_cons_zero, List.set_cons_succ]
        have HI2 := Lib.hid (HIA.out.keep hHeld.2.2.2.2.2.2.2.2.2.2.2.2)
        refine wpAnyH_ready (rs := [8]) (by kernel_rfl) (by simp) ?_
        refine AllReadyH.cons rfl (fun K hK => ?_) AllReadyH.nil
        go_simp
        refine hK.out _ _ (⟨keepW (below_alloc _ _) hHeld.1, keepW (below_alloc _ _) hHeld.2.1, keepW (below_alloc _ _) hHeld.2.2.1, keepW (below_alloc _ _) hHeld.2.2.2.1, keepW (below_alloc _ _) hHeld.2.2.2.2.1, keepW (below_alloc _ _) hHeld.2.2.2.2.2.1, keepW (below_alloc _ _) hHeld.2.2.2.2.2.2.1, keepW (below_alloc _ _) hHeld.2.2.2.2.2.2.2.1, keepW (below_alloc _ _) hHeld.2.2.2.2.2.2.2.2.1, keepW (below_alloc _ _) hHeld.2.2.2.2.2.2.2.2.2.1, keepW (below_alloc _ _) hHeld.2.2.2.2.2.2.2.2.2.2.1, keepW (below_alloc _ _) hHeld.2.2.2.2.2.2.2.2.2.2.2.1, hHeld.2.2.2.2.2.2.2.2.2.2.2.2.trans ((below_alloc _ _).mono hHeld.2.2.2.2.2.2.2.2.2.2.2.2.size)⟩) (fun hHeld => ?_)
        clear hK K
        try simp only [Act.put, List.setIfInBounds_toArray, List.set_cons_zero, List.set_cons_succ]
        refine wpAnyH_done (by kernel_rfl) ?_ _
        change wpList _ _ _ _ _ _
        simp only [List.drop_succ_cons, List.drop_zero]
        clear hHeld
        go_wp2_with (at_builtin; refine wpList_append_own _ rfl _ _ 54 rfl V.heap.size 84 i0 (.agg #[.int .i64 0, .int .i64 0, .int .i64 0, .int .i64 0]) 4 32 Try.underlying54 hi hz0 hz1 hz2 rfl (by decide) _ _ _ rfl (HI2.out.r.alloc _) ⟨w'.heap.size, 0, none⟩ 1 1 [.int .i64 uh, .int .i64 up, .int .i64 uv, .int .i64 uq] rfl rfl (cell_four_new _ _ _ _ _ _) (by simp [Value.oneCell']) (by omega) (by omega) (by have := HI2.out.b.size; simp; omega) ?_; intro v' w1 hown' hgrow _; have HE := Lib.hid (HI2.out.grown (ys := ys) hgrow (by obtain ⟨a1, a2, a3, a4⟩ := HU.out; rw [← a1, ← a2, ← a3, ← a4]; exact hown')))
        go_roundw
        case rel => exact ⟨k + 1, by omega, by go_num, HE.out⟩
        case measure => simp [intOf]; omega
      · skip
        have e : slF m sl k = sl (k % m) := by (unfold slF; rw [if_neg h0])
        rw [e] at hxa hxb hxc hxd
        obtain ⟨sb, so, hsa, hsb, hsl⟩ := HSl.out.resolve_left h0
        subst hsa
        have hkm : k % m < m := Nat.mod_lt _ (by omega)
        have hsbr : sb < wr.heap.size := Nat.lt_of_lt_of_le hsb bw2.out.size
        have y0 := keepB bw2.out hsb (hsl.c0 (k % m) hkm)
        have y1 := keepB bw2.out hsb (hsl.c1 (k % m) hkm)
        have y2 := keepB bw2.out hsb (hsl.c2 (k % m) hkm)
        have y3 := keepB bw2.out hsb (hsl.c3 (k % m) hkm)
        rw [← hxa] at y0
        rw [← hxb] at y1
        rw [← hxc] at y2
        rw [← hxd] at y3
        have et : ((k : Int)).tmod (m : Int) = ((k % m : Nat) : Int) := by (rw [Int.tmod_eq_emod_of_nonneg (by omega), ← Int.natCast_emod])
        have ez : ((m : Int) == 0) = false := beq_eq_false_iff_ne.2 (by omega)
        have em : decide (0 < m) = true := decide_eq_true (by omega)
        have em2 : decide (0 < (m : Int)) = true := decide_eq_true (by omega)
        have HA := Lib.hid hA
        have h0m : 0 < m := by omega
        clear e h0 hA hxa hxb hxc hxd hsl
        go_wp2_with fail
        rw [← HA.out]
        refine wp_region_held_tail (S := (fun w' : World => w'.cell? ⟨b, off + k * 4, none⟩ = some (.int .i64 yh) ∧ w'.cell? ⟨b, off + k * 4 + 1, none⟩ = some (.int .i64 yp) ∧ w'.cell? ⟨b, off + k * 4 + 2, none⟩ = some (.int .i64 yv) ∧ w'.cell? ⟨b, off + k * 4 + 3, none⟩ = some (.int .i64 yq) ∧ w'.cell? ⟨w.heap.size + 1, 0, none⟩ = some (.int .i64 lv) ∧ w'.cell? ⟨w.heap.size + 1, 1, none⟩ = some (.int .i64 ph) ∧ w'.cell? ⟨w.heap.size + 1, 2, none⟩ = some (.int .i64 n0) ∧ w'.cell? ⟨w.heap.size + 1, 3, none⟩ = some (.int .i64 n1) ∧ w'.cell? ⟨wr.heap.size, 0, none⟩ = some (.int .u16 xa) ∧ w'.cell? ⟨wr.heap.size, 1, none⟩ = some (.int .u16 xb) ∧ w'.cell? ⟨wr.heap.size, 2, none⟩ = some (.int .u16 xc) ∧ w'.cell? ⟨wr.heap.size, 3, none⟩ = some (.int .u16 xd) ∧ Below A.drew.heap.size A.drew w')) 9 (by kernel_rfl) (by kernel_rfl) HS15.out (fun hHeld => ?_)
        refine wpAnyH_take (i := 0) (v := ?v0_8) rfl (by kernel_rfl) (by kernel_rfl) (by kernel_rfl) (fun _ _ _ h => h) (Or.inl ⟨by rfl, ?hy0_8⟩) (by assumption) ?rest0_8
        case hy0_8 => (intro w hSw; (try dsimp only at hSw); go_simp; (try with_reducible rfl))
        try simp only [Act.put, List.setIfInBounds_toArray, List.set_cons_zero, List.set_cons_succ]
        refine wpAnyH_take (i := 1) (v := ?v1_9) rfl (by kernel_rfl) (by kernel_rfl) (by kernel_rfl) (fun _ _ _ h => h) (Or.inl ⟨by rfl, ?hy1_9⟩) (by assumption) ?rest1_9
        case hy1_9 => (intro w hSw; (try dsimp only at hSw); go_simp; (try with_reducible rfl))
        try simp only [Act.put, List.setIfInBounds_toArray, List.set_cons_zero, List.set_cons_succ]
        refine wpAnyH_take (i := 2) (v := ?v2_10) rfl (by kernel_rfl) (by kernel_rfl) (by kernel_rfl) (fun _ _ _ h => h) (Or.inl ⟨by rfl, ?hy2_10⟩) (by assumption) ?rest2_10
        case hy2_10 => (intro w hSw; (try dsimp only at hSw); go_simp; (try with_reducible rfl))
        try simp only [Act.put, List.setIfInBounds_toArray, List.set_cons_zero, List.set_cons_succ]
        refine wpAnyH_take (i := 3) (v := ?v3_11) rfl (by kernel_rfl) (by kernel_rfl) (by kernel_rfl) (fun _ _ _ h => h) (Or.inl ⟨by rfl, ?hy3_11⟩) (by assumption) ?rest3_11
        case hy3_11 => (intro w hSw; (try dsimp only at hSw); go_simp; (try with_reducible rfl))
        try simp only [Act.put, List.setIfInBounds_toArray, List.set_cons_zero, List.set_cons_succ]
        refine wpAnyH_take (i := 4) (v := ?v4_12) rfl (by kernel_rfl) (by kernel_rfl) (by kernel_rfl) (fun _ _ _ h => h) (Or.inl ⟨by rfl, ?hy4_12⟩) (by assumption) ?rest4_12
        case hy4_12 => (intro w hSw; (try dsimp only at hSw); go_simp; (try with_reducible rfl))
        try simp only [Act.put, List.setIfInBounds_toArray, List.set_cons_zero, List.set_cons_succ]
        refine wpAnyH_take (i := 5) (v := ?v5_13) rfl (by kernel_rfl) (by kernel_rfl) (by kernel_rfl) (fun _ _ _ h => h) (Or.inl ⟨by rfl, ?hy5_13⟩) (by assumption) ?rest5_13
        case hy5_13 => (intro w hSw; (try dsimp only at hSw); go_simp; (try with_reducible rfl))
        try simp only [Act.put, List.setIfInBounds_toArray, List.set_cons_zero, List.set_cons_succ]
        refine wpAnyH_take (i := 6) (v := ?v6_14) rfl (by kernel_rfl) (by kernel_rfl) (by kernel_rfl) (fun _ _ _ h => h) (Or.inl ⟨by rfl, ?hy6_14⟩) (by assumption) ?rest6_14
        case hy6_14 => (intro w hSw; (try dsimp only at hSw); go_simp; (try with_reducible rfl))
        try simp only [Act.put, List.setIfInBounds_toArray, List.set_cons_zero, List.set_cons_succ]
        refine wpAnyH_ready (rs := [7]) (by kernel_rfl) (by simp) ?_
        refine AllReadyH.cons rfl (fun K hK => ?_) AllReadyH.nil
        go_simp; refine (HT.out _).mono ?_; rintro e' w' ⟨rfl, hb'⟩
        refine hK.out _ _ (⟨keepW hb' hHeld.1, keepW hb' hHeld.2.1, keepW hb' hHeld.2.2.1, keepW hb' hHeld.2.2.2.1, keepW hb' hHeld.2.2.2.2.1, keepW hb' hHeld.2.2.2.2.2.1, keepW hb' hHeld.2.2.2.2.2.2.1, keepW hb' hHeld.2.2.2.2.2.2.2.1, keepW hb' hHeld.2.2.2.2.2.2.2.2.1, keepW hb' hHeld.2.2.2.2.2.2.2.2.2.1, keepW hb' hHeld.2.2.2.2.2.2.2.2.2.2.1, keepW hb' hHeld.2.2.2.2.2.2.2.2.2.2.2.1, hHeld.2.2.2.2.2.2.2.2.2.2.2.2.trans (hb'.mono hHeld.2.2.2.2.2.2.2.2.2.2.2.2.size)⟩) (fun hHeld => ?_)
        clear hK K
        try simp only [Act.put, List.setIfInBounds_toArray, List.set_cons_zero, List.set_cons_succ]
        have HI2 := Lib.hid (HIA.out.keep hHeld.2.2.2.2.2.2.2.2.2.2.2.2)
        refine wpAnyH_ready (rs := [8]) (by kernel_rfl) (by simp) ?_
        refine AllReadyH.cons rfl (fun K hK => ?_) AllReadyH.nil
        go_simp
        refine hK.out _ _ (⟨keepW (below_alloc _ _) hHeld.1, keepW (below_alloc _ _) hHeld.2.1, keepW (below_alloc _ _) hHeld.2.2.1, keepW (below_alloc _ _) hHeld.2.2.2.1, keepW (below_alloc _ _) hHeld.2.2.2.2.1, keepW (below_alloc _ _) hHeld.2.2.2.2.2.1, keepW (below_alloc _ _) hHeld.2.2.2.2.2.2.1, keepW (below_alloc _ _) hHeld.2.2.2.2.2.2.2.1, keepW (below_alloc _ _) hHeld.2.2.2.2.2.2.2.2.1, keepW (below_alloc _ _) hHeld.2.2.2.2.2.2.2.2.2.1, keepW (below_alloc _ _) hHeld.2.2.2.2.2.2.2.2.2.2.1, keepW (below_alloc _ _) hHeld.2.2.2.2.2.2.2.2.2.2.2.1, hHeld.2.2.2.2.2.2.2.2.2.2.2.2.trans ((below_alloc _ _).mono hHeld.2.2.2.2.2.2.2.2.2.2.2.2.size)⟩) (fun hHeld => ?_)
        clear hK K
        try simp only [Act.put, List.setIfInBounds_toArray, List.set_cons_zero, List.set_cons_succ]
        refine wpAnyH_done (by kernel_rfl) ?_ _
        change wpList _ _ _ _ _ _
        simp only [List.drop_succ_cons, List.drop_zero]
        clear hHeld
        go_wp2_with (at_builtin; refine wpList_append_own _ rfl _ _ 54 rfl V.heap.size 84 i0 (.agg #[.int .i64 0, .int .i64 0, .int .i64 0, .int .i64 0]) 4 32 Try.underlying54 hi hz0 hz1 hz2 rfl (by decide) _ _ _ rfl (HI2.out.r.alloc _) ⟨w'.heap.size, 0, none⟩ 1 1 [.int .i64 uh, .int .i64 up, .int .i64 uv, .int .i64 uq] rfl rfl (cell_four_new _ _ _ _ _ _) (by simp [Value.oneCell']) (by omega) (by omega) (by have := HI2.out.b.size; simp; omega) ?_; intro v' w1 hown' hgrow _; have HE := Lib.hid (HI2.out.grown (ys := ys) hgrow (by obtain ⟨a1, a2, a3, a4⟩ := HU.out; rw [← a1, ← a2, ← a3, ← a4]; exact hown')))
        go_roundw
        case rel => exact ⟨k + 1, by omega, by go_num, HE.out⟩
        case measure => simp [intOf]; omega
    · obtain rfl : n = k := by omega
      obtain ⟨q, qc, rfl, hq0, hq, hsm⟩ := row_smps hI.r (by omega)
      obtain ⟨B, rfl⟩ : ∃ B, B = wr := ⟨_, rfl⟩
      have bVB := hI.b
      have PB := Lib.hid (PV.out.keep bVB)
      have GB := Lib.hid (GV.out.keep bVB)
      have yB : X1.heap.size < B.heap.size := Nat.lt_of_lt_of_le YY.out.2.2 bVB.size
      have H2 : Hid (∀ W : World, Below B.drew.heap.size B.drew W → Calls Try.prog 27 #[.agg #[.int .i64 l, .int .i64 kd, .int .i64 f, .int .i64 s, .int .i64 c], .agg #[.int .i64 0, .int .i64 0, .int .i64 N, .int .i64 N], .slice (some ⟨q, 0, none⟩) n qc] W fun e w' => e = .returned (.tuple #[.agg #[.int .i64 (g2 0), .int .i64 (g2 1), .int .i64 (g2 2), .int .i64 (g2 3), .int .i64 (g2 4), .int .i64 (g2 5), .int .i64 (g2 6), .int .i64 (g2 7), .int .i64 (g2 8), .int .i64 (g2 9), .int .i64 (g2 10), .int .i64 (g2 11), .int .i64 (g2 12), .int .i64 (g2 13)], .int .i64 0]) ∧ Below W.heap.size W w') := Lib.hid fun W hW => by
        have hb := (Below.refl B.heap.size B).drew.trans hW
        exact HH.out W q qc (hsm.keep hb hq) (Nat.lt_of_lt_of_le hq hb.size)
      obtain ⟨c0, c1, c2, c3, c4, c5, c6, c7, c8, hz, hbw⟩ := PB.out
      have HS16 := Lib.hid (show (fun w' : World => w'.cell? ⟨w.heap.size, 0, none⟩ = some (.int .i64 l) ∧ w'.cell? ⟨w.heap.size, 1, none⟩ = some (.int .i64 kd) ∧ w'.cell? ⟨w.heap.size, 2, none⟩ = some (.int .i64 f) ∧ w'.cell? ⟨w.heap.size, 3, none⟩ = some (.int .i64 s) ∧ w'.cell? ⟨w.heap.size, 4, none⟩ = some (.int .i64 c) ∧ w'.cell? ⟨w.heap.size + 1, 0, none⟩ = some (.int .i64 lv) ∧ w'.cell? ⟨w.heap.size + 1, 1, none⟩ = some (.int .i64 ph) ∧ w'.cell? ⟨w.heap.size + 1, 2, none⟩ = some (.int .i64 n0) ∧ w'.cell? ⟨w.heap.size + 1, 3, none⟩ = some (.int .i64 n1) ∧ Below B.drew.heap.size B.drew w') B.drew from ⟨c0, c1, c2, c3, c4, c5, c6, c7, c8, Below.refl _ _⟩)
      obtain ⟨NB1, NB2, NB3, NB4⟩ := NB.out
      have i1 : IntKind.i64.wrap (n1 - n0) = n1 - n0 := IntWalk.i64_in _ (by omega)
      have i2 : IntKind.i64.wrap (n1 - n0 + 1) = n1 - n0 + 1 := IntWalk.i64_in _ (by omega)
      have i3 : IntKind.i64.wrap r = r := IntWalk.i64_in _ (by omega)
      have i4 : IntKind.i64.wrap (n0 + r) = N := by rw [NB3]; exact IntWalk.i64_in _ (by omega)
      have i5 : n0 + r = N := NB3.symm
      have i6 : (n1 - n0 + 1 == 0) = false := beq_eq_false_iff_ne.2 (by omega)
      have i7 : ¬ n1 - n0 + 1 = 0 := by omega
      have i8 : IntKind.i64.wrap nz = nz := IntWalk.i64_in _ (by omega)
      have i9 : IntKind.i64.wrap N = N := IntWalk.i64_in _ (by omega)
      have hph := r2
      clear hI hsm hq0 hlt hk NB1 NB3 bVB
      go_wp2_with fail
      clear c0 c1 c2 c3 c4 c5 c6 c7 c8 hz hbw
      have yD : X1.heap.size < B.drew.heap.size := yB
      have tD : w.heap.size + 2 ≤ B.drew.heap.size := PB.out.z
      have GD := Lib.hid (GB.out.keep (Below.refl B.heap.size B).drew)
      have bwD := Lib.hid (PB.out.b.drew)
      refine wp_region_held_tail (S := (fun w' : World => w'.cell? ⟨w.heap.size, 0, none⟩ = some (.int .i64 l) ∧ w'.cell? ⟨w.heap.size, 1, none⟩ = some (.int .i64 kd) ∧ w'.cell? ⟨w.heap.size, 2, none⟩ = some (.int .i64 f) ∧ w'.cell? ⟨w.heap.size, 3, none⟩ = some (.int .i64 s) ∧ w'.cell? ⟨w.heap.size, 4, none⟩ = some (.int .i64 c) ∧ w'.cell? ⟨w.heap.size + 1, 0, none⟩ = some (.int .i64 lv) ∧ w'.cell? ⟨w.heap.size + 1, 1, none⟩ = some (.int .i64 ph) ∧ w'.cell? ⟨w.heap.size + 1, 2, none⟩ = some (.int .i64 n0) ∧ w'.cell? ⟨w.heap.size + 1, 3, none⟩ = some (.int .i64 n1) ∧ Below B.drew.heap.size B.drew w')) 25 (by kernel_rfl) (by kernel_rfl) HS16.out (fun hHeld => ?_)
      clear HS16 GB PB yB
      obtain ⟨D, hD⟩ : ∃ D, D = B.drew := ⟨_, rfl⟩
      rw [← hD] at hHeld yD tD GD bwD H2 ⊢
      clear hD
      refine wpAnyH_take (i := 0) (v := ?v0_15) rfl (by kernel_rfl) (by kernel_rfl) (by kernel_rfl) (fun _ _ _ h => h) (Or.inl ⟨by rfl, ?hy0_15⟩) (by assumption) ?rest0_15
      case hy0_15 => (intro w hSw; (try dsimp only at hSw); go_simp; (try with_reducible rfl))
      try simp only [Act.put, List.setIfInBounds_toArray, List.set_cons_zero, List.set_cons_succ]
      refine wpAnyH_take (i := 1) (v := ?v1_16) rfl (by kernel_rfl) (by kernel_rfl) (by kernel_rfl) (fun _ _ _ h => h) (Or.inl ⟨by rfl, ?hy1_16⟩) (by assumption) ?rest1_16
      case hy1_16 => (intro w hSw; (try dsimp only at hSw); go_simp; (try with_reducible rfl))
      try simp only [Act.put, List.setIfInBounds_toArray, List.set_cons_zero, List.set_cons_succ]
      refine wpAnyH_take (i := 2) (v := ?v2_17) rfl (by kernel_rfl) (by kernel_rfl) (by kernel_rfl) (fun _ _ _ h => h) (Or.inl ⟨by rfl, ?hy2_17⟩) (by assumption) ?rest2_17
      case hy2_17 => (intro w hSw; (try dsimp only at hSw); go_simp; (try with_reducible rfl))
      try simp only [Act.put, List.setIfInBounds_toArray, List.set_cons_zero, List.set_cons_succ]
      refine wpAnyH_take (i := 3) (v := ?v3_18) rfl (by kernel_rfl) (by kernel_rfl) (by kernel_rfl) (fun _ _ _ h => h) (Or.inl ⟨by rfl, ?hy3_18⟩) (by assumption) ?rest3_18
      case hy3_18 => (intro w hSw; (try dsimp only at hSw); go_simp; (try with_reducible rfl))
      try simp only [Act.put, List.setIfInBounds_toArray, List.set_cons_zero, List.set_cons_succ]
      refine wpAnyH_take (i := 4) (v := ?v4_19) rfl (by kernel_rfl) (by kernel_rfl) (by kernel_rfl) (fun _ _ _ h => h) (Or.inl ⟨by rfl, ?hy4_19⟩) (by assumption) ?rest4_19
      case hy4_19 => (intro w hSw; (try dsimp only at hSw); go_simp; (try with_reducible rfl))
      try simp only [Act.put, List.setIfInBounds_toArray, List.set_cons_zero, List.set_cons_succ]
      refine wpAnyH_take (i := 5) (v := ?v5_20) rfl (by kernel_rfl) (by kernel_rfl) (by kernel_rfl) (fun _ _ _ h => h) (Or.inl ⟨by rfl, ?hy5_20⟩) (by assumption) ?rest5_20
      case hy5_20 => (intro w hSw; (try dsimp only at hSw); go_simp; (try with_reducible rfl))
      try simp only [Act.put, List.setIfInBounds_toArray, List.set_cons_zero, List.set_cons_succ]
      refine wpAnyH_take (i := 6) (v := ?v6_21) rfl (by kernel_rfl) (by kernel_rfl) (by kernel_rfl) (fun _ _ _ h => h) (Or.inl ⟨by rfl, ?hy6_21⟩) (by assumption) ?rest6_21
      case hy6_21 => (intro w hSw; (try dsimp only at hSw); go_simp; (try with_reducible rfl))
      try simp only [Act.put, List.setIfInBounds_toArray, List.set_cons_zero, List.set_cons_succ]
      refine wpAnyH_take (i := 7) (v := ?v7_22) rfl (by kernel_rfl) (by kernel_rfl) (by kernel_rfl) (fun _ _ _ h => h) (Or.inl ⟨by rfl, ?hy7_22⟩) (by assumption) ?rest7_22
      case hy7_22 => (intro w hSw; (try dsimp only at hSw); go_simp; (try with_reducible rfl))
      try simp only [Act.put, List.setIfInBounds_toArray, List.set_cons_zero, List.set_cons_succ]
      refine wpAnyH_take (i := 8) (v := ?v8_23) rfl (by kernel_rfl) (by kernel_rfl) (by kernel_rfl) (fun _ _ _ h => h) (Or.inl ⟨by rfl, ?hy8_23⟩) (by assumption) ?rest8_23
      case hy8_23 => (intro w hSw; (try dsimp only at hSw); go_simp; (try with_reducible rfl))
      try simp only [Act.put, List.setIfInBounds_toArray, List.set_cons_zero, List.set_cons_succ]
      refine wpAnyH_take (i := 9) (v := ?v9_24) rfl (by kernel_rfl) (by kernel_rfl) (by kernel_rfl) (fun _ _ _ h => h) (Or.inl ⟨by rfl, ?hy9_24⟩) (by assumption) ?rest9_24
      case hy9_24 => (intro w hSw; (try dsimp only at hSw); go_simp; (try with_reducible rfl))
      try simp only [Act.put, List.setIfInBounds_toArray, List.set_cons_zero, List.set_cons_succ]
      refine wpAnyH_take (i := 10) (v := ?v10_25) rfl (by kernel_rfl) (by kernel_rfl) (by kernel_rfl) (fun _ _ _ h => h) (Or.inl ⟨by rfl, ?hy10_25⟩) (by assumption) ?rest10_25
      case hy10_25 => (intro w hSw; (try dsimp only at hSw); go_simp; (try with_reducible rfl))
      try simp only [Act.put, List.setIfInBounds_toArray, List.set_cons_zero, List.set_cons_succ]
      refine wpAnyH_take (i := 11) (v := ?v11_26) rfl (by kernel_rfl) (by kernel_rfl) (by kernel_rfl) (fun _ _ _ h => h) (Or.inl ⟨by rfl, ?hy11_26⟩) (by assumption) ?rest11_26
      case hy11_26 => (intro w hSw; (try dsimp only at hSw); go_simp; (try with_reducible rfl))
      try simp only [Act.put, List.setIfInBounds_toArray, List.set_cons_zero, List.set_cons_succ]
      refine wpAnyH_take (i := 12) (v := ?v12_27) rfl (by kernel_rfl) (by kernel_rfl) (by kernel_rfl) (fun _ _ _ h => h) (Or.inl ⟨by rfl, ?hy12_27⟩) (by assumption) ?rest12_27
      case hy12_27 => (intro w hSw; (try dsimp only at hSw); go_simp; (try with_reducible rfl))
      try simp only [Act.put, List.setIfInBounds_toArray, List.set_cons_zero, List.set_cons_succ]
      refine wpAnyH_take (i := 13) (v := ?v13_28) rfl (by kernel_rfl) (by kernel_rfl) (by kernel_rfl) (fun _ _ _ h => h) (Or.inl ⟨by rfl, ?hy13_28⟩) (by assumption) ?rest13_28
      case hy13_28 => (intro w hSw; (try dsimp only at hSw); go_simp; (try with_reducible rfl))
      try simp only [Act.put, List.setIfInBounds_toArray, List.set_cons_zero, List.set_cons_succ]
      refine wpAnyH_take (i := 14) (v := ?v14_29) rfl (by kernel_rfl) (by kernel_rfl) (by kernel_rfl) (fun _ _ _ h => h) (Or.inl ⟨by rfl, ?hy14_29⟩) (by assumption) ?rest14_29
      case hy14_29 => (intro w hSw; (try dsimp only at hSw); go_simp; (try with_reducible rfl))
      try simp only [Act.put, List.setIfInBounds_toArray, List.set_cons_zero, List.set_cons_succ]
      refine wpAnyH_take (i := 15) (v := ?v15_30) rfl (by kernel_rfl) (by kernel_rfl) (by kernel_rfl) (fun _ _ _ h => h) (Or.inl ⟨by rfl, ?hy15_30⟩) (by assumption) ?rest15_30
      case hy15_30 => (intro w hSw; (try dsimp only at hSw); go_simp; (try with_reducible rfl))
      try simp only [Act.put, List.setIfInBounds_toArray, List.set_cons_zero, List.set_cons_succ]
      refine wpAnyH_take (i := 18) (v := ?v18_31) rfl (by kernel_rfl) (by kernel_rfl) (by kernel_rfl) (fun _ _ _ h => h) (Or.inl ⟨by rfl, ?hy18_31⟩) (by assumption) ?rest18_31
      case hy18_31 => (intro w hSw; (try dsimp only at hSw); go_simp; (try with_reducible rfl))
      try simp only [Act.put, List.setIfInBounds_toArray, List.set_cons_zero, List.set_cons_succ]
      refine wpAnyH_ready (rs := [16, 23]) (by kernel_rfl) (by simp) ?_
      refine AllReadyH.cons rfl (fun K hK => ?_) (AllReadyH.cons rfl (fun K hK => ?_) AllReadyH.nil)
      · skip
        go_simp
        refine (point_any N _).mono ?_; rintro e' w1 ⟨rfl, hb_w1⟩
        refine hK.out _ _ (⟨keepW hb_w1 hHeld.1, keepW hb_w1 hHeld.2.1, keepW hb_w1 hHeld.2.2.1, keepW hb_w1 hHeld.2.2.2.1, keepW hb_w1 hHeld.2.2.2.2.1, keepW hb_w1 hHeld.2.2.2.2.2.1, keepW hb_w1 hHeld.2.2.2.2.2.2.1, keepW hb_w1 hHeld.2.2.2.2.2.2.2.1, keepW hb_w1 hHeld.2.2.2.2.2.2.2.2.1, hHeld.2.2.2.2.2.2.2.2.2.trans (hb_w1.mono hHeld.2.2.2.2.2.2.2.2.2.size)⟩) (fun hHeld => ?_)
        clear hK K
        try simp only [Act.put, List.setIfInBounds_toArray, List.set_cons_zero, List.set_cons_succ]
        refine wpAnyH_take (i := 17) (v := ?v17_32) rfl (by kernel_rfl) (by kernel_rfl) (by kernel_rfl) (fun _ _ _ h => h) (Or.inl ⟨by rfl, ?hy17_32⟩) (by assumption) ?rest17_32
        case hy17_32 => (intro w hSw; (try dsimp only at hSw); go_simp; (try with_reducible rfl))
        try simp only [Act.put, List.setIfInBounds_toArray, List.set_cons_zero, List.set_cons_succ]
        refine wpAnyH_ready (rs := [19, 23]) (by kernel_rfl) (by simp) ?_
        refine AllReadyH.cons rfl (fun K hK => ?_) (AllReadyH.cons rfl (fun K hK => ?_) AllReadyH.nil)
        · skip
          go_simp
          refine (H2.out _ hHeld.2.2.2.2.2.2.2.2.2).mono ?_; rintro e' w2 ⟨rfl, hb_w2⟩
          refine hK.out _ _ (⟨keepW hb_w2 hHeld.1, keepW hb_w2 hHeld.2.1, keepW hb_w2 hHeld.2.2.1, keepW hb_w2 hHeld.2.2.2.1, keepW hb_w2 hHeld.2.2.2.2.1, keepW hb_w2 hHeld.2.2.2.2.2.1, keepW hb_w2 hHeld.2.2.2.2.2.2.1, keepW hb_w2 hHeld.2.2.2.2.2.2.2.1, keepW hb_w2 hHeld.2.2.2.2.2.2.2.2.1, hHeld.2.2.2.2.2.2.2.2.2.trans (hb_w2.mono hHeld.2.2.2.2.2.2.2.2.2.size)⟩) (fun hHeld => ?_)
          clear hK K
          try simp only [Act.put, List.setIfInBounds_toArray, List.set_cons_zero, List.set_cons_succ]
          refine wpAnyH_take (i := 20) (v := ?v20_33) rfl (by kernel_rfl) (by kernel_rfl) (by kernel_rfl) (fun _ _ _ h => h) (Or.inl ⟨by rfl, ?hy20_33⟩) (by assumption) ?rest20_33
          case hy20_33 => (intro w hSw; (try dsimp only at hSw); go_simp; (try with_reducible rfl))
          try simp only [Act.put, List.setIfInBounds_toArray, List.set_cons_zero, List.set_cons_succ]
          refine wpAnyH_take (i := 21) (v := ?v21_34) rfl (by kernel_rfl) (by kernel_rfl) (by kernel_rfl) (fun _ _ _ h => h) (Or.inl ⟨by rfl, ?hy21_34⟩) (by assumption) ?rest21_34
          case hy21_34 => (intro w hSw; (try dsimp only at hSw); go_simp; (try with_reducible rfl))
          try simp only [Act.put, List.setIfInBounds_toArray, List.set_cons_zero, List.set_cons_succ]
          refine wpAnyH_take (i := 22) (v := ?v22_35) rfl (by kernel_rfl) (by kernel_rfl) (by kernel_rfl) (fun _ _ _ h => h) (Or.inl ⟨by rfl, ?hy22_35⟩) (by assumption) ?rest22_35
          case hy22_35 => (intro w hSw; (try dsimp only at hSw); go_simp; (try with_reducible rfl))
          try simp only [Act.put, List.setIfInBounds_toArray, List.set_cons_zero, List.set_cons_succ]
          refine wpAnyH_ready (rs := [23]) (by kernel_rfl) (by simp) ?_
          refine AllReadyH.cons rfl (fun K hK => ?_) AllReadyH.nil
          go_simp
          have hb_E : Below w2.heap.size w2 (w2.alloc (.cells #[.int .i64 0, .int .i64 0, .int .i64 0, .int .i64 0, .int .i64 0, .int .i64 0, .int .i64 0, .int .i64 0, .int .i64 0, .int .i64 0, .int .i64 0, .int .i64 0, .int .i64 0, .int .i64 0] 30)) := below_alloc _ _
          have r : EchoG (w2.alloc (.cells #[.int .i64 0, .int .i64 0, .int .i64 0, .int .i64 0, .int .i64 0, .int .i64 0, .int .i64 0, .int .i64 0, .int .i64 0, .int .i64 0, .int .i64 0, .int .i64 0, .int .i64 0, .int .i64 0] 30)) w2.heap.size (fun _ => 0) := EchoG.new w2 (fun _ => 0) 30
          have z_E : w2.heap.size < (w2.alloc (.cells #[.int .i64 0, .int .i64 0, .int .i64 0, .int .i64 0, .int .i64 0, .int .i64 0, .int .i64 0, .int .i64 0, .int .i64 0, .int .i64 0, .int .i64 0, .int .i64 0, .int .i64 0, .int .i64 0] 30)).heap.size := by rw [World.size_alloc]; omega
          have q_E : D.heap.size ≤ w2.heap.size := hHeld.2.2.2.2.2.2.2.2.2.size
          obtain ⟨E, hE⟩ : ∃ E, E = w2.alloc (.cells #[.int .i64 0, .int .i64 0, .int .i64 0, .int .i64 0, .int .i64 0, .int .i64 0, .int .i64 0, .int .i64 0, .int .i64 0, .int .i64 0, .int .i64 0, .int .i64 0, .int .i64 0, .int .i64 0] 30) := ⟨_, rfl⟩
          rw [← hE] at hb_E r z_E ⊢
          refine hK.out _ _ (⟨keepW hb_E hHeld.1, keepW hb_E hHeld.2.1, keepW hb_E hHeld.2.2.1, keepW hb_E hHeld.2.2.2.1, keepW hb_E hHeld.2.2.2.2.1, keepW hb_E hHeld.2.2.2.2.2.1, keepW hb_E hHeld.2.2.2.2.2.2.1, keepW hb_E hHeld.2.2.2.2.2.2.2.1, keepW hb_E hHeld.2.2.2.2.2.2.2.2.1, hHeld.2.2.2.2.2.2.2.2.2.trans (hb_E.mono hHeld.2.2.2.2.2.2.2.2.2.size)⟩) (fun hHeld => ?_)
          clear hK K hE
          try simp only [Act.put, List.setIfInBounds_toArray, List.set_cons_zero, List.set_cons_succ]
          have HO := Lib.hid r
          have oc0 := HO.out.c 0 (by decide)
          have of0 := HO.out.f 0 (by decide)
          have oc1 := HO.out.c 1 (by decide)
          have of1 := HO.out.f 1 (by decide)
          have oc2 := HO.out.c 2 (by decide)
          have of2 := HO.out.f 2 (by decide)
          have oc3 := HO.out.c 3 (by decide)
          have of3 := HO.out.f 3 (by decide)
          have oc4 := HO.out.c 4 (by decide)
          have of4 := HO.out.f 4 (by decide)
          have oc5 := HO.out.c 5 (by decide)
          have of5 := HO.out.f 5 (by decide)
          have oc6 := HO.out.c 6 (by decide)
          have of6 := HO.out.f 6 (by decide)
          have oc7 := HO.out.c 7 (by decide)
          have of7 := HO.out.f 7 (by decide)
          have oc8 := HO.out.c 8 (by decide)
          have of8 := HO.out.f 8 (by decide)
          have oc9 := HO.out.c 9 (by decide)
          have of9 := HO.out.f 9 (by decide)
          have oc10 := HO.out.c 10 (by decide)
          have of10 := HO.out.f 10 (by decide)
          have oc11 := HO.out.c 11 (by decide)
          have of11 := HO.out.f 11 (by decide)
          have oc12 := HO.out.c 12 (by decide)
          have of12 := HO.out.f 12 (by decide)
          have oc13 := HO.out.c 13 (by decide)
          have of13 := HO.out.f 13 (by decide)
          have hqD : D.heap.size ≤ w2.heap.size := q_E
          have hqE : w2.heap.size < E.heap.size := z_E
          clear r q_E z_E
          refine wpAnyH_ready (rs := [24]) (by kernel_rfl) (by simp) ?_
          refine AllReadyH.cons rfl (fun K hK => ?_) AllReadyH.nil
          go_simp
          have bS : Below w2.heap.size E ((((((((((((((E.setCell ⟨w2.heap.size, 0, none⟩ (.int .i64 (g2 0))).setCell ⟨w2.heap.size, 1, none⟩ (.int .i64 (g2 1))).setCell ⟨w2.heap.size, 2, none⟩ (.int .i64 (g2 2))).setCell ⟨w2.heap.size, 3, none⟩ (.int .i64 (g2 3))).setCell ⟨w2.heap.size, 4, none⟩ (.int .i64 (g2 4))).setCell ⟨w2.heap.size, 5, none⟩ (.int .i64 (g2 5))).setCell ⟨w2.heap.size, 6, none⟩ (.int .i64 (g2 6))).setCell ⟨w2.heap.size, 7, none⟩ (.int .i64 (g2 7))).setCell ⟨w2.heap.size, 8, none⟩ (.int .i64 (g2 8))).setCell ⟨w2.heap.size, 9, none⟩ (.int .i64 (g2 9))).setCell ⟨w2.heap.size, 10, none⟩ (.int .i64 (g2 10))).setCell ⟨w2.heap.size, 11, none⟩ (.int .i64 (g2 11))).setCell ⟨w2.heap.size, 12, none⟩ (.int .i64 (g2 12))).setCell ⟨w2.heap.size, 13, none⟩ (.int .i64 (g2 13))) := (((((((((((((((Below.refl w2.heap.size E).setCell (p := ⟨w2.heap.size, 0, none⟩) (by dsimp only; omega) _).setCell (p := ⟨w2.heap.size, 1, none⟩) (by dsimp only; omega) _).setCell (p := ⟨w2.heap.size, 2, none⟩) (by dsimp only; omega) _).setCell (p := ⟨w2.heap.size, 3, none⟩) (by dsimp only; omega) _).setCell (p := ⟨w2.heap.size, 4, none⟩) (by dsimp only; omega) _).setCell (p := ⟨w2.heap.size, 5, none⟩) (by dsimp only; omega) _).setCell (p := ⟨w2.heap.size, 6, none⟩) (by dsimp only; omega) _).setCell (p := ⟨w2.heap.size, 7, none⟩) (by dsimp only; omega) _).setCell (p := ⟨w2.heap.size, 8, none⟩) (by dsimp only; omega) _).setCell (p := ⟨w2.heap.size, 9, none⟩) (by dsimp only; omega) _).setCell (p := ⟨w2.heap.size, 10, none⟩) (by dsimp only; omega) _).setCell (p := ⟨w2.heap.size, 11, none⟩) (by dsimp only; omega) _).setCell (p := ⟨w2.heap.size, 12, none⟩) (by dsimp only; omega) _).setCell (p := ⟨w2.heap.size, 13, none⟩) (by dsimp only; omega) _)
          have bD : Below D.heap.size D ((((((((((((((E.setCell ⟨w2.heap.size, 0, none⟩ (.int .i64 (g2 0))).setCell ⟨w2.heap.size, 1, none⟩ (.int .i64 (g2 1))).setCell ⟨w2.heap.size, 2, none⟩ (.int .i64 (g2 2))).setCell ⟨w2.heap.size, 3, none⟩ (.int .i64 (g2 3))).setCell ⟨w2.heap.size, 4, none⟩ (.int .i64 (g2 4))).setCell ⟨w2.heap.size, 5, none⟩ (.int .i64 (g2 5))).setCell ⟨w2.heap.size, 6, none⟩ (.int .i64 (g2 6))).setCell ⟨w2.heap.size, 7, none⟩ (.int .i64 (g2 7))).setCell ⟨w2.heap.size, 8, none⟩ (.int .i64 (g2 8))).setCell ⟨w2.heap.size, 9, none⟩ (.int .i64 (g2 9))).setCell ⟨w2.heap.size, 10, none⟩ (.int .i64 (g2 10))).setCell ⟨w2.heap.size, 11, none⟩ (.int .i64 (g2 11))).setCell ⟨w2.heap.size, 12, none⟩ (.int .i64 (g2 12))).setCell ⟨w2.heap.size, 13, none⟩ (.int .i64 (g2 13))) := ((((((((((((((hHeld.2.2.2.2.2.2.2.2.2.setCell (p := ⟨w2.heap.size, 0, none⟩) (by dsimp only; omega) _).setCell (p := ⟨w2.heap.size, 1, none⟩) (by dsimp only; omega) _).setCell (p := ⟨w2.heap.size, 2, none⟩) (by dsimp only; omega) _).setCell (p := ⟨w2.heap.size, 3, none⟩) (by dsimp only; omega) _).setCell (p := ⟨w2.heap.size, 4, none⟩) (by dsimp only; omega) _).setCell (p := ⟨w2.heap.size, 5, none⟩) (by dsimp only; omega) _).setCell (p := ⟨w2.heap.size, 6, none⟩) (by dsimp only; omega) _).setCell (p := ⟨w2.heap.size, 7, none⟩) (by dsimp only; omega) _).setCell (p := ⟨w2.heap.size, 8, none⟩) (by dsimp only; omega) _).setCell (p := ⟨w2.heap.size, 9, none⟩) (by dsimp only; omega) _).setCell (p := ⟨w2.heap.size, 10, none⟩) (by dsimp only; omega) _).setCell (p := ⟨w2.heap.size, 11, none⟩) (by dsimp only; omega) _).setCell (p := ⟨w2.heap.size, 12, none⟩) (by dsimp only; omega) _).setCell (p := ⟨w2.heap.size, 13, none⟩) (by dsimp only; omega) _)
          have EZ := ((((((((((((((HO.out.set (k := 0) (v := g2 0)).set (k := 1) (v := g2 1)).set (k := 2) (v := g2 2)).set (k := 3) (v := g2 3)).set (k := 4) (v := g2 4)).set (k := 5) (v := g2 5)).set (k := 6) (v := g2 6)).set (k := 7) (v := g2 7)).set (k := 8) (v := g2 8)).set (k := 9) (v := g2 9)).set (k := 10) (v := g2 10)).set (k := 11) (v := g2 11)).set (k := 12) (v := g2 12)).set (k := 13) (v := g2 13))
          have hH2 := Lib.hid (show (fun wZ : World => wZ.cell? ⟨w.heap.size, 0, none⟩ = some (.int .i64 l) ∧ wZ.cell? ⟨w.heap.size, 1, none⟩ = some (.int .i64 kd) ∧ wZ.cell? ⟨w.heap.size, 2, none⟩ = some (.int .i64 f) ∧ wZ.cell? ⟨w.heap.size, 3, none⟩ = some (.int .i64 s) ∧ wZ.cell? ⟨w.heap.size, 4, none⟩ = some (.int .i64 c) ∧ wZ.cell? ⟨w.heap.size + 1, 0, none⟩ = some (.int .i64 lv) ∧ wZ.cell? ⟨w.heap.size + 1, 1, none⟩ = some (.int .i64 ph) ∧ wZ.cell? ⟨w.heap.size + 1, 2, none⟩ = some (.int .i64 n0) ∧ wZ.cell? ⟨w.heap.size + 1, 3, none⟩ = some (.int .i64 n1) ∧ Below D.heap.size D wZ) ((((((((((((((E.setCell ⟨w2.heap.size, 0, none⟩ (.int .i64 (g2 0))).setCell ⟨w2.heap.size, 1, none⟩ (.int .i64 (g2 1))).setCell ⟨w2.heap.size, 2, none⟩ (.int .i64 (g2 2))).setCell ⟨w2.heap.size, 3, none⟩ (.int .i64 (g2 3))).setCell ⟨w2.heap.size, 4, none⟩ (.int .i64 (g2 4))).setCell ⟨w2.heap.size, 5, none⟩ (.int .i64 (g2 5))).setCell ⟨w2.heap.size, 6, none⟩ (.int .i64 (g2 6))).setCell ⟨w2.heap.size, 7, none⟩ (.int .i64 (g2 7))).setCell ⟨w2.heap.size, 8, none⟩ (.int .i64 (g2 8))).setCell ⟨w2.heap.size, 9, none⟩ (.int .i64 (g2 9))).setCell ⟨w2.heap.size, 10, none⟩ (.int .i64 (g2 10))).setCell ⟨w2.heap.size, 11, none⟩ (.int .i64 (g2 11))).setCell ⟨w2.heap.size, 12, none⟩ (.int .i64 (g2 12))).setCell ⟨w2.heap.size, 13, none⟩ (.int .i64 (g2 13))) from ⟨keepB bS (by omega) hHeld.1, keepB bS (by omega) hHeld.2.1, keepB bS (by omega) hHeld.2.2.1, keepB bS (by omega) hHeld.2.2.2.1, keepB bS (by omega) hHeld.2.2.2.2.1, keepB bS (by omega) hHeld.2.2.2.2.2.1, keepB bS (by omega) hHeld.2.2.2.2.2.2.1, keepB bS (by omega) hHeld.2.2.2.2.2.2.2.1, keepB bS (by omega) hHeld.2.2.2.2.2.2.2.2.1, bD⟩)
          obtain ⟨Z, hZ⟩ : ∃ Z, Z = ((((((((((((((E.setCell ⟨w2.heap.size, 0, none⟩ (.int .i64 (g2 0))).setCell ⟨w2.heap.size, 1, none⟩ (.int .i64 (g2 1))).setCell ⟨w2.heap.size, 2, none⟩ (.int .i64 (g2 2))).setCell ⟨w2.heap.size, 3, none⟩ (.int .i64 (g2 3))).setCell ⟨w2.heap.size, 4, none⟩ (.int .i64 (g2 4))).setCell ⟨w2.heap.size, 5, none⟩ (.int .i64 (g2 5))).setCell ⟨w2.heap.size, 6, none⟩ (.int .i64 (g2 6))).setCell ⟨w2.heap.size, 7, none⟩ (.int .i64 (g2 7))).setCell ⟨w2.heap.size, 8, none⟩ (.int .i64 (g2 8))).setCell ⟨w2.heap.size, 9, none⟩ (.int .i64 (g2 9))).setCell ⟨w2.heap.size, 10, none⟩ (.int .i64 (g2 10))).setCell ⟨w2.heap.size, 11, none⟩ (.int .i64 (g2 11))).setCell ⟨w2.heap.size, 12, none⟩ (.int .i64 (g2 12))).setCell ⟨w2.heap.size, 13, none⟩ (.int .i64 (g2 13))) := ⟨_, rfl⟩
          rw [← hZ] at bD EZ hH2 ⊢
          have GN := Lib.hid (show EchB Z (w2.heap.size) g2 from ⟨EZ.c 0 (by decide), EZ.c 1 (by decide), EZ.c 2 (by decide), EZ.c 3 (by decide), EZ.c 4 (by decide), EZ.c 5 (by decide), EZ.c 6 (by decide), EZ.c 7 (by decide), EZ.c 8 (by decide), EZ.c 9 (by decide), EZ.c 10 (by decide), EZ.c 11 (by decide), EZ.c 12 (by decide), EZ.c 13 (by decide)⟩)
          clear oc0 of0 oc1 of1 oc2 of2 oc3 of3 oc4 of4 oc5 of5 oc6 of6 oc7 of7 oc8 of8 oc9 of9 oc10 of10 oc11 of11 oc12 of12 oc13 of13 hZ bS EZ hHeld
          refine hK.out _ _ hH2.out (fun hHeld => ?_)
          clear hK K
          try simp only [Act.put, List.setIfInBounds_toArray, List.set_cons_zero, List.set_cons_succ]
          refine wpAnyH_done (by kernel_rfl) ?_ _
          change wpList _ _ _ _ _ _
          simp only [List.drop_succ_cons, List.drop_zero]
          clear hHeld
          obtain ⟨_, _, _, _, _, _, v6, _, _, _⟩ := hH2.out
          have V6 := Lib.hid v6
          have G3 := Lib.hid (GD.out.keep bD)
          have bw3 := Lib.hid (bwD.out.trans (bD.mono bwD.out.size))
          have y3 : X1.heap.size < w2.heap.size := by omega
          clear bD hH2 v6
          obtain ⟨f0, f1, f2, f3, f4, f5, f6, f7, f8, f9, f10, f11, f12, f13⟩ := G3.out
          obtain ⟨h0, h1, h2, h3, h4, h5, h6, h7, h8, h9, h10, h11, h12, h13⟩ := GN.out
          go_wp2_with fail
          clear f0 f1 f2 f3 f4 f5 f6 f7 f8 f9 f10 f11 f12 f13 h0 h1 h2 h3 h4 h5 h6 h7 h8 h9 h10 h11 h12 h13
          refine (HW.out _).mono ?_; rintro e' X3 ⟨rfl, hb3⟩
          have G5 := G3.out.keep hb3
          have GM := GN.out.keep hb3
          have V8 := keepW hb3 V6.out
          have bw4 : Below w.heap.size w X3 := bw3.out.trans (hb3.mono bw3.out.size)
          have h1 := G5.e0
          have h2 := G5.e7
          have h3 := GM.e0
          have h4 := GM.e7
          obtain ⟨sp1, sp2⟩ := SP.out
          have j1 : IntKind.i64.wrap (g2 7 - g 7) = g2 7 - g 7 := IntWalk.i64_in _ (by omega)
          have j2 : IntKind.i64.wrap (g 7 - g2 7) = g 7 - g2 7 := IntWalk.i64_in _ (by omega)
          have j3 : IntKind.i64.wrap (4 * ph) = 4 * ph := IntWalk.i64_in _ (by omega)
          clear G5 GM hb3 G3 GN V6
          by_cases k0 : g2 0 = 1
          · have e5 : (g2 0 == 1) = true := beq_iff_eq.2 k0
            clear k0
            go_wp2_with fail
            refine (works_any _).mono ?_; rintro e' X ⟨rfl, hb⟩
            go_wp2
            go_ret
            exact ⟨rfl, bw4.trans (hb.mono bw4.size)⟩
          · have e5 : (g2 0 == 1) = false := beq_eq_false_iff_ne.2 k0
            by_cases k1 : g 0 = 1
            · have e6 : (g 0 == 1) = true := beq_iff_eq.2 k1
              clear k0 k1
              go_wp2_with fail
              refine (works_any _).mono ?_; rintro e' X ⟨rfl, hb⟩
              go_wp2
              go_ret
              exact ⟨rfl, bw4.trans (hb.mono bw4.size)⟩
            · have e6 : (g 0 == 1) = false := beq_eq_false_iff_ne.2 k1
              have hM := (M4.out.resolve_left k0).resolve_left k1
              have e7 : decide (max (g2 7 - g 7) (g 7 - g2 7) ≤ 4 * ph) = true := decide_eq_true (by omega)
              clear k0 k1 hM
              go_wp2_with fail
              refine (works_any _).mono ?_; rintro e' X ⟨rfl, hb⟩
              go_wp2
              go_ret
              exact ⟨rfl, bw4.trans (hb.mono bw4.size)⟩
        · skip
          go_simp
          have hb_E : Below w1.heap.size w1 (w1.alloc (.cells #[.int .i64 0, .int .i64 0, .int .i64 0, .int .i64 0, .int .i64 0, .int .i64 0, .int .i64 0, .int .i64 0, .int .i64 0, .int .i64 0, .int .i64 0, .int .i64 0, .int .i64 0, .int .i64 0] 30)) := below_alloc _ _
          have r : EchoG (w1.alloc (.cells #[.int .i64 0, .int .i64 0, .int .i64 0, .int .i64 0, .int .i64 0, .int .i64 0, .int .i64 0, .int .i64 0, .int .i64 0, .int .i64 0, .int .i64 0, .int .i64 0, .int .i64 0, .int .i64 0] 30)) w1.heap.size (fun _ => 0) := EchoG.new w1 (fun _ => 0) 30
          have z_E : w1.heap.size < (w1.alloc (.cells #[.int .i64 0, .int .i64 0, .int .i64 0, .int .i64 0, .int .i64 0, .int .i64 0, .int .i64 0, .int .i64 0, .int .i64 0, .int .i64 0, .int .i64 0, .int .i64 0, .int .i64 0, .int .i64 0] 30)).heap.size := by rw [World.size_alloc]; omega
          have q_E : D.heap.size ≤ w1.heap.size := hHeld.2.2.2.2.2.2.2.2.2.size
          obtain ⟨E, hE⟩ : ∃ E, E = w1.alloc (.cells #[.int .i64 0, .int .i64 0, .int .i64 0, .int .i64 0, .int .i64 0, .int .i64 0, .int .i64 0, .int .i64 0, .int .i64 0, .int .i64 0, .int .i64 0, .int .i64 0, .int .i64 0, .int .i64 0] 30) := ⟨_, rfl⟩
          rw [← hE] at hb_E r z_E ⊢
          refine hK.out _ _ (⟨keepW hb_E hHeld.1, keepW hb_E hHeld.2.1, keepW hb_E hHeld.2.2.1, keepW hb_E hHeld.2.2.2.1, keepW hb_E hHeld.2.2.2.2.1, keepW hb_E hHeld.2.2.2.2.2.1, keepW hb_E hHeld.2.2.2.2.2.2.1, keepW hb_E hHeld.2.2.2.2.2.2.2.1, keepW hb_E hHeld.2.2.2.2.2.2.2.2.1, hHeld.2.2.2.2.2.2.2.2.2.trans (hb_E.mono hHeld.2.2.2.2.2.2.2.2.2.size)⟩) (fun hHeld => ?_)
          clear hK K hE
          try simp only [Act.put, List.setIfInBounds_toArray, List.set_cons_zero, List.set_cons_succ]
          refine wpAnyH_ready (rs := [19]) (by kernel_rfl) (by simp) ?_
          refine AllReadyH.cons rfl (fun K hK => ?_) AllReadyH.nil
          go_simp
          refine (H2.out _ hHeld.2.2.2.2.2.2.2.2.2).mono ?_; rintro e' w2 ⟨rfl, hb_w2⟩
          refine hK.out _ _ (⟨keepW hb_w2 hHeld.1, keepW hb_w2 hHeld.2.1, keepW hb_w2 hHeld.2.2.1, keepW hb_w2 hHeld.2.2.2.1, keepW hb_w2 hHeld.2.2.2.2.1, keepW hb_w2 hHeld.2.2.2.2.2.1, keepW hb_w2 hHeld.2.2.2.2.2.2.1, keepW hb_w2 hHeld.2.2.2.2.2.2.2.1, keepW hb_w2 hHeld.2.2.2.2.2.2.2.2.1, hHeld.2.2.2.2.2.2.2.2.2.trans (hb_w2.mono hHeld.2.2.2.2.2.2.2.2.2.size)⟩) (fun hHeld => ?_)
          clear hK K
          try simp only [Act.put, List.setIfInBounds_toArray, List.set_cons_zero, List.set_cons_succ]
          have r := r.keep hb_w2 z_E
          have z_E := Nat.lt_of_lt_of_le z_E hb_w2.size
          refine wpAnyH_take (i := 20) (v := ?v20_36) rfl (by kernel_rfl) (by kernel_rfl) (by kernel_rfl) (fun _ _ _ h => h) (Or.inl ⟨by rfl, ?hy20_36⟩) (by assumption) ?rest20_36
          case hy20_36 => (intro w hSw; (try dsimp only at hSw); go_simp; (try with_reducible rfl))
          try simp only [Act.put, List.setIfInBounds_toArray, List.set_cons_zero, List.set_cons_succ]
          refine wpAnyH_take (i := 21) (v := ?v21_37) rfl (by kernel_rfl) (by kernel_rfl) (by kernel_rfl) (fun _ _ _ h => h) (Or.inl ⟨by rfl, ?hy21_37⟩) (by assumption) ?rest21_37
          case hy21_37 => (intro w hSw; (try dsimp only at hSw); go_simp; (try with_reducible rfl))
          try simp only [Act.put, List.setIfInBounds_toArray, List.set_cons_zero, List.set_cons_succ]
          refine wpAnyH_take (i := 22) (v := ?v22_38) rfl (by kernel_rfl) (by kernel_rfl) (by kernel_rfl) (fun _ _ _ h => h) (Or.inl ⟨by rfl, ?hy22_38⟩) (by assumption) ?rest22_38
          case hy22_38 => (intro w hSw; (try dsimp only at hSw); go_simp; (try with_reducible rfl))
          try simp only [Act.put, List.setIfInBounds_toArray, List.set_cons_zero, List.set_cons_succ]
          have HO := Lib.hid r
          have oc0 := HO.out.c 0 (by decide)
          have of0 := HO.out.f 0 (by decide)
          have oc1 := HO.out.c 1 (by decide)
          have of1 := HO.out.f 1 (by decide)
          have oc2 := HO.out.c 2 (by decide)
          have of2 := HO.out.f 2 (by decide)
          have oc3 := HO.out.c 3 (by decide)
          have of3 := HO.out.f 3 (by decide)
          have oc4 := HO.out.c 4 (by decide)
          have of4 := HO.out.f 4 (by decide)
          have oc5 := HO.out.c 5 (by decide)
          have of5 := HO.out.f 5 (by decide)
          have oc6 := HO.out.c 6 (by decide)
          have of6 := HO.out.f 6 (by decide)
          have oc7 := HO.out.c 7 (by decide)
          have of7 := HO.out.f 7 (by decide)
          have oc8 := HO.out.c 8 (by decide)
          have of8 := HO.out.f 8 (by decide)
          have oc9 := HO.out.c 9 (by decide)
          have of9 := HO.out.f 9 (by decide)
          have oc10 := HO.out.c 10 (by decide)
          have of10 := HO.out.f 10 (by decide)
          have oc11 := HO.out.c 11 (by decide)
          have of11 := HO.out.f 11 (by decide)
          have oc12 := HO.out.c 12 (by decide)
          have of12 := HO.out.f 12 (by decide)
          have oc13 := HO.out.c 13 (by decide)
          have of13 := HO.out.f 13 (by decide)
          have hqD : D.heap.size ≤ w1.heap.size := q_E
          have hqE : w1.heap.size < w2.heap.size := z_E
          clear r q_E z_E
          refine wpAnyH_ready (rs := [24]) (by kernel_rfl) (by simp) ?_
          refine AllReadyH.cons rfl (fun K hK => ?_) AllReadyH.nil
          go_simp
          have bS : Below w1.heap.size w2 ((((((((((((((w2.setCell ⟨w1.heap.size, 0, none⟩ (.int .i64 (g2 0))).setCell ⟨w1.heap.size, 1, none⟩ (.int .i64 (g2 1))).setCell ⟨w1.heap.size, 2, none⟩ (.int .i64 (g2 2))).setCell ⟨w1.heap.size, 3, none⟩ (.int .i64 (g2 3))).setCell ⟨w1.heap.size, 4, none⟩ (.int .i64 (g2 4))).setCell ⟨w1.heap.size, 5, none⟩ (.int .i64 (g2 5))).setCell ⟨w1.heap.size, 6, none⟩ (.int .i64 (g2 6))).setCell ⟨w1.heap.size, 7, none⟩ (.int .i64 (g2 7))).setCell ⟨w1.heap.size, 8, none⟩ (.int .i64 (g2 8))).setCell ⟨w1.heap.size, 9, none⟩ (.int .i64 (g2 9))).setCell ⟨w1.heap.size, 10, none⟩ (.int .i64 (g2 10))).setCell ⟨w1.heap.size, 11, none⟩ (.int .i64 (g2 11))).setCell ⟨w1.heap.size, 12, none⟩ (.int .i64 (g2 12))).setCell ⟨w1.heap.size, 13, none⟩ (.int .i64 (g2 13))) := (((((((((((((((Below.refl w1.heap.size w2).setCell (p := ⟨w1.heap.size, 0, none⟩) (by dsimp only; omega) _).setCell (p := ⟨w1.heap.size, 1, none⟩) (by dsimp only; omega) _).setCell (p := ⟨w1.heap.size, 2, none⟩) (by dsimp only; omega) _).setCell (p := ⟨w1.heap.size, 3, none⟩) (by dsimp only; omega) _).setCell (p := ⟨w1.heap.size, 4, none⟩) (by dsimp only; omega) _).setCell (p := ⟨w1.heap.size, 5, none⟩) (by dsimp only; omega) _).setCell (p := ⟨w1.heap.size, 6, none⟩) (by dsimp only; omega) _).setCell (p := ⟨w1.heap.size, 7, none⟩) (by dsimp only; omega) _).setCell (p := ⟨w1.heap.size, 8, none⟩) (by dsimp only; omega) _).setCell (p := ⟨w1.heap.size, 9, none⟩) (by dsimp only; omega) _).setCell (p := ⟨w1.heap.size, 10, none⟩) (by dsimp only; omega) _).setCell (p := ⟨w1.heap.size, 11, none⟩) (by dsimp only; omega) _).setCell (p := ⟨w1.heap.size, 12, none⟩) (by dsimp only; omega) _).setCell (p := ⟨w1.heap.size, 13, none⟩) (by dsimp only; omega) _)
          have bD : Below D.heap.size D ((((((((((((((w2.setCell ⟨w1.heap.size, 0, none⟩ (.int .i64 (g2 0))).setCell ⟨w1.heap.size, 1, none⟩ (.int .i64 (g2 1))).setCell ⟨w1.heap.size, 2, none⟩ (.int .i64 (g2 2))).setCell ⟨w1.heap.size, 3, none⟩ (.int .i64 (g2 3))).setCell ⟨w1.heap.size, 4, none⟩ (.int .i64 (g2 4))).setCell ⟨w1.heap.size, 5, none⟩ (.int .i64 (g2 5))).setCell ⟨w1.heap.size, 6, none⟩ (.int .i64 (g2 6))).setCell ⟨w1.heap.size, 7, none⟩ (.int .i64 (g2 7))).setCell ⟨w1.heap.size, 8, none⟩ (.int .i64 (g2 8))).setCell ⟨w1.heap.size, 9, none⟩ (.int .i64 (g2 9))).setCell ⟨w1.heap.size, 10, none⟩ (.int .i64 (g2 10))).setCell ⟨w1.heap.size, 11, none⟩ (.int .i64 (g2 11))).setCell ⟨w1.heap.size, 12, none⟩ (.int .i64 (g2 12))).setCell ⟨w1.heap.size, 13, none⟩ (.int .i64 (g2 13))) := ((((((((((((((hHeld.2.2.2.2.2.2.2.2.2.setCell (p := ⟨w1.heap.size, 0, none⟩) (by dsimp only; omega) _).setCell (p := ⟨w1.heap.size, 1, none⟩) (by dsimp only; omega) _).setCell (p := ⟨w1.heap.size, 2, none⟩) (by dsimp only; omega) _).setCell (p := ⟨w1.heap.size, 3, none⟩) (by dsimp only; omega) _).setCell (p := ⟨w1.heap.size, 4, none⟩) (by dsimp only; omega) _).setCell (p := ⟨w1.heap.size, 5, none⟩) (by dsimp only; omega) _).setCell (p := ⟨w1.heap.size, 6, none⟩) (by dsimp only; omega) _).setCell (p := ⟨w1.heap.size, 7, none⟩) (by dsimp only; omega) _).setCell (p := ⟨w1.heap.size, 8, none⟩) (by dsimp only; omega) _).setCell (p := ⟨w1.heap.size, 9, none⟩) (by dsimp only; omega) _).setCell (p := ⟨w1.heap.size, 10, none⟩) (by dsimp only; omega) _).setCell (p := ⟨w1.heap.size, 11, none⟩) (by dsimp only; omega) _).setCell (p := ⟨w1.heap.size, 12, none⟩) (by dsimp only; omega) _).setCell (p := ⟨w1.heap.size, 13, none⟩) (by dsimp only; omega) _)
          have EZ := ((((((((((((((HO.out.set (k := 0) (v := g2 0)).set (k := 1) (v := g2 1)).set (k := 2) (v := g2 2)).set (k := 3) (v := g2 3)).set (k := 4) (v := g2 4)).set (k := 5) (v := g2 5)).set (k := 6) (v := g2 6)).set (k := 7) (v := g2 7)).set (k := 8) (v := g2 8)).set (k := 9) (v := g2 9)).set (k := 10) (v := g2 10)).set (k := 11) (v := g2 11)).set (k := 12) (v := g2 12)).set (k := 13) (v := g2 13))
          have hH2 := Lib.hid (show (fun wZ : World => wZ.cell? ⟨w.heap.size, 0, none⟩ = some (.int .i64 l) ∧ wZ.cell? ⟨w.heap.size, 1, none⟩ = some (.int .i64 kd) ∧ wZ.cell? ⟨w.heap.size, 2, none⟩ = some (.int .i64 f) ∧ wZ.cell? ⟨w.heap.size, 3, none⟩ = some (.int .i64 s) ∧ wZ.cell? ⟨w.heap.size, 4, none⟩ = some (.int .i64 c) ∧ wZ.cell? ⟨w.heap.size + 1, 0, none⟩ = some (.int .i64 lv) ∧ wZ.cell? ⟨w.heap.size + 1, 1, none⟩ = some (.int .i64 ph) ∧ wZ.cell? ⟨w.heap.size + 1, 2, none⟩ = some (.int .i64 n0) ∧ wZ.cell? ⟨w.heap.size + 1, 3, none⟩ = some (.int .i64 n1) ∧ Below D.heap.size D wZ) ((((((((((((((w2.setCell ⟨w1.heap.size, 0, none⟩ (.int .i64 (g2 0))).setCell ⟨w1.heap.size, 1, none⟩ (.int .i64 (g2 1))).setCell ⟨w1.heap.size, 2, none⟩ (.int .i64 (g2 2))).setCell ⟨w1.heap.size, 3, none⟩ (.int .i64 (g2 3))).setCell ⟨w1.heap.size, 4, none⟩ (.int .i64 (g2 4))).setCell ⟨w1.heap.size, 5, none⟩ (.int .i64 (g2 5))).setCell ⟨w1.heap.size, 6, none⟩ (.int .i64 (g2 6))).setCell ⟨w1.heap.size, 7, none⟩ (.int .i64 (g2 7))).setCell ⟨w1.heap.size, 8, none⟩ (.int .i64 (g2 8))).setCell ⟨w1.heap.size, 9, none⟩ (.int .i64 (g2 9))).setCell ⟨w1.heap.size, 10, none⟩ (.int .i64 (g2 10))).setCell ⟨w1.heap.size, 11, none⟩ (.int .i64 (g2 11))).setCell ⟨w1.heap.size, 12, none⟩ (.int .i64 (g2 12))).setCell ⟨w1.heap.size, 13, none⟩ (.int .i64 (g2 13))) from ⟨keepB bS (by omega) hHeld.1, keepB bS (by omega) hHeld.2.1, keepB bS (by omega) hHeld.2.2.1, keepB bS (by omega) hHeld.2.2.2.1, keepB bS (by omega) hHeld.2.2.2.2.1, keepB bS (by omega) hHeld.2.2.2.2.2.1, keepB bS (by omega) hHeld.2.2.2.2.2.2.1, keepB bS (by omega) hHeld.2.2.2.2.2.2.2.1, keepB bS (by omega) hHeld.2.2.2.2.2.2.2.2.1, bD⟩)
          obtain ⟨Z, hZ⟩ : ∃ Z, Z = ((((((((((((((w2.setCell ⟨w1.heap.size, 0, none⟩ (.int .i64 (g2 0))).setCell ⟨w1.heap.size, 1, none⟩ (.int .i64 (g2 1))).setCell ⟨w1.heap.size, 2, none⟩ (.int .i64 (g2 2))).setCell ⟨w1.heap.size, 3, none⟩ (.int .i64 (g2 3))).setCell ⟨w1.heap.size, 4, none⟩ (.int .i64 (g2 4))).setCell ⟨w1.heap.size, 5, none⟩ (.int .i64 (g2 5))).setCell ⟨w1.heap.size, 6, none⟩ (.int .i64 (g2 6))).setCell ⟨w1.heap.size, 7, none⟩ (.int .i64 (g2 7))).setCell ⟨w1.heap.size, 8, none⟩ (.int .i64 (g2 8))).setCell ⟨w1.heap.size, 9, none⟩ (.int .i64 (g2 9))).setCell ⟨w1.heap.size, 10, none⟩ (.int .i64 (g2 10))).setCell ⟨w1.heap.size, 11, none⟩ (.int .i64 (g2 11))).setCell ⟨w1.heap.size, 12, none⟩ (.int .i64 (g2 12))).setCell ⟨w1.heap.size, 13, none⟩ (.int .i64 (g2 13))) := ⟨_, rfl⟩
          rw [← hZ] at bD EZ hH2 ⊢
          have GN := Lib.hid (show EchB Z (w1.heap.size) g2 from ⟨EZ.c 0 (by decide), EZ.c 1 (by decide), EZ.c 2 (by decide), EZ.c 3 (by decide), EZ.c 4 (by decide), EZ.c 5 (by decide), EZ.c 6 (by decide), EZ.c 7 (by decide), EZ.c 8 (by decide), EZ.c 9 (by decide), EZ.c 10 (by decide), EZ.c 11 (by decide), EZ.c 12 (by decide), EZ.c 13 (by decide)⟩)
          clear oc0 of0 oc1 of1 oc2 of2 oc3 of3 oc4 of4 oc5 of5 oc6 of6 oc7 of7 oc8 of8 oc9 of9 oc10 of10 oc11 of11 oc12 of12 oc13 of13 hZ bS EZ hHeld
          refine hK.out _ _ hH2.out (fun hHeld => ?_)
          clear hK K
          try simp only [Act.put, List.setIfInBounds_toArray, List.set_cons_zero, List.set_cons_succ]
          refine wpAnyH_done (by kernel_rfl) ?_ _
          change wpList _ _ _ _ _ _
          simp only [List.drop_succ_cons, List.drop_zero]
          clear hHeld
          obtain ⟨_, _, _, _, _, _, v6, _, _, _⟩ := hH2.out
          have V6 := Lib.hid v6
          have G3 := Lib.hid (GD.out.keep bD)
          have bw3 := Lib.hid (bwD.out.trans (bD.mono bwD.out.size))
          have y3 : X1.heap.size < w1.heap.size := by omega
          clear bD hH2 v6
          obtain ⟨f0, f1, f2, f3, f4, f5, f6, f7, f8, f9, f10, f11, f12, f13⟩ := G3.out
          obtain ⟨h0, h1, h2, h3, h4, h5, h6, h7, h8, h9, h10, h11, h12, h13⟩ := GN.out
          go_wp2_with fail
          clear f0 f1 f2 f3 f4 f5 f6 f7 f8 f9 f10 f11 f12 f13 h0 h1 h2 h3 h4 h5 h6 h7 h8 h9 h10 h11 h12 h13
          refine (HW.out _).mono ?_; rintro e' X3 ⟨rfl, hb3⟩
          have G5 := G3.out.keep hb3
          have GM := GN.out.keep hb3
          have V8 := keepW hb3 V6.out
          have bw4 : Below w.heap.size w X3 := bw3.out.trans (hb3.mono bw3.out.size)
          have h1 := G5.e0
          have h2 := G5.e7
          have h3 := GM.e0
          have h4 := GM.e7
          obtain ⟨sp1, sp2⟩ := SP.out
          have j1 : IntKind.i64.wrap (g2 7 - g 7) = g2 7 - g 7 := IntWalk.i64_in _ (by omega)
          have j2 : IntKind.i64.wrap (g 7 - g2 7) = g 7 - g2 7 := IntWalk.i64_in _ (by omega)
          have j3 : IntKind.i64.wrap (4 * ph) = 4 * ph := IntWalk.i64_in _ (by omega)
          clear G5 GM hb3 G3 GN V6
          by_cases k0 : g2 0 = 1
          · have e5 : (g2 0 == 1) = true := beq_iff_eq.2 k0
            clear k0
            go_wp2_with fail
            refine (works_any _).mono ?_; rintro e' X ⟨rfl, hb⟩
            go_wp2
            go_ret
            exact ⟨rfl, bw4.trans (hb.mono bw4.size)⟩
          · have e5 : (g2 0 == 1) = false := beq_eq_false_iff_ne.2 k0
            by_cases k1 : g 0 = 1
            · have e6 : (g 0 == 1) = true := beq_iff_eq.2 k1
              clear k0 k1
              go_wp2_with fail
              refine (works_any _).mono ?_; rintro e' X ⟨rfl, hb⟩
              go_wp2
              go_ret
              exact ⟨rfl, bw4.trans (hb.mono bw4.size)⟩
            · have e6 : (g 0 == 1) = false := beq_eq_false_iff_ne.2 k1
              have hM := (M4.out.resolve_left k0).resolve_left k1
              have e7 : decide (max (g2 7 - g 7) (g 7 - g2 7) ≤ 4 * ph) = true := decide_eq_true (by omega)
              clear k0 k1 hM
              go_wp2_with fail
              refine (works_any _).mono ?_; rintro e' X ⟨rfl, hb⟩
              go_wp2
              go_ret
              exact ⟨rfl, bw4.trans (hb.mono bw4.size)⟩
      · skip
        go_simp
        have hb_E : Below D.heap.size D (D.alloc (.cells #[.int .i64 0, .int .i64 0, .int .i64 0, .int .i64 0, .int .i64 0, .int .i64 0, .int .i64 0, .int .i64 0, .int .i64 0, .int .i64 0, .int .i64 0, .int .i64 0, .int .i64 0, .int .i64 0] 30)) := below_alloc _ _
        have r : EchoG (D.alloc (.cells #[.int .i64 0, .int .i64 0, .int .i64 0, .int .i64 0, .int .i64 0, .int .i64 0, .int .i64 0, .int .i64 0, .int .i64 0, .int .i64 0, .int .i64 0, .int .i64 0, .int .i64 0, .int .i64 0] 30)) D.heap.size (fun _ => 0) := EchoG.new D (fun _ => 0) 30
        have z_E : D.heap.size < (D.alloc (.cells #[.int .i64 0, .int .i64 0, .int .i64 0, .int .i64 0, .int .i64 0, .int .i64 0, .int .i64 0, .int .i64 0, .int .i64 0, .int .i64 0, .int .i64 0, .int .i64 0, .int .i64 0, .int .i64 0] 30)).heap.size := by rw [World.size_alloc]; omega
        have q_E : D.heap.size ≤ D.heap.size := hHeld.2.2.2.2.2.2.2.2.2.size
        obtain ⟨E, hE⟩ : ∃ E, E = D.alloc (.cells #[.int .i64 0, .int .i64 0, .int .i64 0, .int .i64 0, .int .i64 0, .int .i64 0, .int .i64 0, .int .i64 0, .int .i64 0, .int .i64 0, .int .i64 0, .int .i64 0, .int .i64 0, .int .i64 0] 30) := ⟨_, rfl⟩
        rw [← hE] at hb_E r z_E ⊢
        refine hK.out _ _ (⟨keepW hb_E hHeld.1, keepW hb_E hHeld.2.1, keepW hb_E hHeld.2.2.1, keepW hb_E hHeld.2.2.2.1, keepW hb_E hHeld.2.2.2.2.1, keepW hb_E hHeld.2.2.2.2.2.1, keepW hb_E hHeld.2.2.2.2.2.2.1, keepW hb_E hHeld.2.2.2.2.2.2.2.1, keepW hb_E hHeld.2.2.2.2.2.2.2.2.1, hHeld.2.2.2.2.2.2.2.2.2.trans (hb_E.mono hHeld.2.2.2.2.2.2.2.2.2.size)⟩) (fun hHeld => ?_)
        clear hK K hE
        try simp only [Act.put, List.setIfInBounds_toArray, List.set_cons_zero, List.set_cons_succ]
        refine wpAnyH_ready (rs := [16]) (by kernel_rfl) (by simp) ?_
        refine AllReadyH.cons rfl (fun K hK => ?_) AllReadyH.nil
        go_simp
        refine (point_any N _).mono ?_; rintro e' w1 ⟨rfl, hb_w1⟩
        refine hK.out _ _ (⟨keepW hb_w1 hHeld.1, keepW hb_w1 hHeld.2.1, keepW hb_w1 hHeld.2.2.1, keepW hb_w1 hHeld.2.2.2.1, keepW hb_w1 hHeld.2.2.2.2.1, keepW hb_w1 hHeld.2.2.2.2.2.1, keepW hb_w1 hHeld.2.2.2.2.2.2.1, keepW hb_w1 hHeld.2.2.2.2.2.2.2.1, keepW hb_w1 hHeld.2.2.2.2.2.2.2.2.1, hHeld.2.2.2.2.2.2.2.2.2.trans (hb_w1.mono hHeld.2.2.2.2.2.2.2.2.2.size)⟩) (fun hHeld => ?_)
        clear hK K
        try simp only [Act.put, List.setIfInBounds_toArray, List.set_cons_zero, List.set_cons_succ]
        have r := r.keep hb_w1 z_E
        have z_E := Nat.lt_of_lt_of_le z_E hb_w1.size
        refine wpAnyH_take (i := 17) (v := ?v17_39) rfl (by kernel_rfl) (by kernel_rfl) (by kernel_rfl) (fun _ _ _ h => h) (Or.inl ⟨by rfl, ?hy17_39⟩) (by assumption) ?rest17_39
        case hy17_39 => (intro w hSw; (try dsimp only at hSw); go_simp; (try with_reducible rfl))
        try simp only [Act.put, List.setIfInBounds_toArray, List.set_cons_zero, List.set_cons_succ]
        refine wpAnyH_ready (rs := [19]) (by kernel_rfl) (by simp) ?_
        refine AllReadyH.cons rfl (fun K hK => ?_) AllReadyH.nil
        go_simp
        refine (H2.out _ hHeld.2.2.2.2.2.2.2.2.2).mono ?_; rintro e' w2 ⟨rfl, hb_w2⟩
        refine hK.out _ _ (⟨keepW hb_w2 hHeld.1, keepW hb_w2 hHeld.2.1, keepW hb_w2 hHeld.2.2.1, keepW hb_w2 hHeld.2.2.2.1, keepW hb_w2 hHeld.2.2.2.2.1, keepW hb_w2 hHeld.2.2.2.2.2.1, keepW hb_w2 hHeld.2.2.2.2.2.2.1, keepW hb_w2 hHeld.2.2.2.2.2.2.2.1, keepW hb_w2 hHeld.2.2.2.2.2.2.2.2.1, hHeld.2.2.2.2.2.2.2.2.2.trans (hb_w2.mono hHeld.2.2.2.2.2.2.2.2.2.size)⟩) (fun hHeld => ?_)
        clear hK K
        try simp only [Act.put, List.setIfInBounds_toArray, List.set_cons_zero, List.set_cons_succ]
        have r := r.keep hb_w2 z_E
        have z_E := Nat.lt_of_lt_of_le z_E hb_w2.size
        refine wpAnyH_take (i := 20) (v := ?v20_40) rfl (by kernel_rfl) (by kernel_rfl) (by kernel_rfl) (fun _ _ _ h => h) (Or.inl ⟨by rfl, ?hy20_40⟩) (by assumption) ?rest20_40
        case hy20_40 => (intro w hSw; (try dsimp only at hSw); go_simp; (try with_reducible rfl))
        try simp only [Act.put, List.setIfInBounds_toArray, List.set_cons_zero, List.set_cons_succ]
        refine wpAnyH_take (i := 21) (v := ?v21_41) rfl (by kernel_rfl) (by kernel_rfl) (by kernel_rfl) (fun _ _ _ h => h) (Or.inl ⟨by rfl, ?hy21_41⟩) (by assumption) ?rest21_41
        case hy21_41 => (intro w hSw; (try dsimp only at hSw); go_simp; (try with_reducible rfl))
        try simp only [Act.put, List.setIfInBounds_toArray, List.set_cons_zero, List.set_cons_succ]
        refine wpAnyH_take (i := 22) (v := ?v22_42) rfl (by kernel_rfl) (by kernel_rfl) (by kernel_rfl) (fun _ _ _ h => h) (Or.inl ⟨by rfl, ?hy22_42⟩) (by assumption) ?rest22_42
        case hy22_42 => (intro w hSw; (try dsimp only at hSw); go_simp; (try with_reducible rfl))
        try simp only [Act.put, List.setIfInBounds_toArray, List.set_cons_zero, List.set_cons_succ]
        have HO := Lib.hid r
        have oc0 := HO.out.c 0 (by decide)
        have of0 := HO.out.f 0 (by decide)
        have oc1 := HO.out.c 1 (by decide)
        have of1 := HO.out.f 1 (by decide)
        have oc2 := HO.out.c 2 (by decide)
        have of2 := HO.out.f 2 (by decide)
        have oc3 := HO.out.c 3 (by decide)
        have of3 := HO.out.f 3 (by decide)
        have oc4 := HO.out.c 4 (by decide)
        have of4 := HO.out.f 4 (by decide)
        have oc5 := HO.out.c 5 (by decide)
        have of5 := HO.out.f 5 (by decide)
        have oc6 := HO.out.c 6 (by decide)
        have of6 := HO.out.f 6 (by decide)
        have oc7 := HO.out.c 7 (by decide)
        have of7 := HO.out.f 7 (by decide)
        have oc8 := HO.out.c 8 (by decide)
        have of8 := HO.out.f 8 (by decide)
        have oc9 := HO.out.c 9 (by decide)
        have of9 := HO.out.f 9 (by decide)
        have oc10 := HO.out.c 10 (by decide)
        have of10 := HO.out.f 10 (by decide)
        have oc11 := HO.out.c 11 (by decide)
        have of11 := HO.out.f 11 (by decide)
        have oc12 := HO.out.c 12 (by decide)
        have of12 := HO.out.f 12 (by decide)
        have oc13 := HO.out.c 13 (by decide)
        have of13 := HO.out.f 13 (by decide)
        have hqD : D.heap.size ≤ D.heap.size := q_E
        have hqE : D.heap.size < w2.heap.size := z_E
        clear r q_E z_E
        refine wpAnyH_ready (rs := [24]) (by kernel_rfl) (by simp) ?_
        refine AllReadyH.cons rfl (fun K hK => ?_) AllReadyH.nil
        go_simp
        have bS : Below D.heap.size w2 ((((((((((((((w2.setCell ⟨D.heap.size, 0, none⟩ (.int .i64 (g2 0))).setCell ⟨D.heap.size, 1, none⟩ (.int .i64 (g2 1))).setCell ⟨D.heap.size, 2, none⟩ (.int .i64 (g2 2))).setCell ⟨D.heap.size, 3, none⟩ (.int .i64 (g2 3))).setCell ⟨D.heap.size, 4, none⟩ (.int .i64 (g2 4))).setCell ⟨D.heap.size, 5, none⟩ (.int .i64 (g2 5))).setCell ⟨D.heap.size, 6, none⟩ (.int .i64 (g2 6))).setCell ⟨D.heap.size, 7, none⟩ (.int .i64 (g2 7))).setCell ⟨D.heap.size, 8, none⟩ (.int .i64 (g2 8))).setCell ⟨D.heap.size, 9, none⟩ (.int .i64 (g2 9))).setCell ⟨D.heap.size, 10, none⟩ (.int .i64 (g2 10))).setCell ⟨D.heap.size, 11, none⟩ (.int .i64 (g2 11))).setCell ⟨D.heap.size, 12, none⟩ (.int .i64 (g2 12))).setCell ⟨D.heap.size, 13, none⟩ (.int .i64 (g2 13))) := (((((((((((((((Below.refl D.heap.size w2).setCell (p := ⟨D.heap.size, 0, none⟩) (by dsimp only; omega) _).setCell (p := ⟨D.heap.size, 1, none⟩) (by dsimp only; omega) _).setCell (p := ⟨D.heap.size, 2, none⟩) (by dsimp only; omega) _).setCell (p := ⟨D.heap.size, 3, none⟩) (by dsimp only; omega) _).setCell (p := ⟨D.heap.size, 4, none⟩) (by dsimp only; omega) _).setCell (p := ⟨D.heap.size, 5, none⟩) (by dsimp only; omega) _).setCell (p := ⟨D.heap.size, 6, none⟩) (by dsimp only; omega) _).setCell (p := ⟨D.heap.size, 7, none⟩) (by dsimp only; omega) _).setCell (p := ⟨D.heap.size, 8, none⟩) (by dsimp only; omega) _).setCell (p := ⟨D.heap.size, 9, none⟩) (by dsimp only; omega) _).setCell (p := ⟨D.heap.size, 10, none⟩) (by dsimp only; omega) _).setCell (p := ⟨D.heap.size, 11, none⟩) (by dsimp only; omega) _).setCell (p := ⟨D.heap.size, 12, none⟩) (by dsimp only; omega) _).setCell (p := ⟨D.heap.size, 13, none⟩) (by dsimp only; omega) _)
        have bD : Below D.heap.size D ((((((((((((((w2.setCell ⟨D.heap.size, 0, none⟩ (.int .i64 (g2 0))).setCell ⟨D.heap.size, 1, none⟩ (.int .i64 (g2 1))).setCell ⟨D.heap.size, 2, none⟩ (.int .i64 (g2 2))).setCell ⟨D.heap.size, 3, none⟩ (.int .i64 (g2 3))).setCell ⟨D.heap.size, 4, none⟩ (.int .i64 (g2 4))).setCell ⟨D.heap.size, 5, none⟩ (.int .i64 (g2 5))).setCell ⟨D.heap.size, 6, none⟩ (.int .i64 (g2 6))).setCell ⟨D.heap.size, 7, none⟩ (.int .i64 (g2 7))).setCell ⟨D.heap.size, 8, none⟩ (.int .i64 (g2 8))).setCell ⟨D.heap.size, 9, none⟩ (.int .i64 (g2 9))).setCell ⟨D.heap.size, 10, none⟩ (.int .i64 (g2 10))).setCell ⟨D.heap.size, 11, none⟩ (.int .i64 (g2 11))).setCell ⟨D.heap.size, 12, none⟩ (.int .i64 (g2 12))).setCell ⟨D.heap.size, 13, none⟩ (.int .i64 (g2 13))) := ((((((((((((((hHeld.2.2.2.2.2.2.2.2.2.setCell (p := ⟨D.heap.size, 0, none⟩) (by dsimp only; omega) _).setCell (p := ⟨D.heap.size, 1, none⟩) (by dsimp only; omega) _).setCell (p := ⟨D.heap.size, 2, none⟩) (by dsimp only; omega) _).setCell (p := ⟨D.heap.size, 3, none⟩) (by dsimp only; omega) _).setCell (p := ⟨D.heap.size, 4, none⟩) (by dsimp only; omega) _).setCell (p := ⟨D.heap.size, 5, none⟩) (by dsimp only; omega) _).setCell (p := ⟨D.heap.size, 6, none⟩) (by dsimp only; omega) _).setCell (p := ⟨D.heap.size, 7, none⟩) (by dsimp only; omega) _).setCell (p := ⟨D.heap.size, 8, none⟩) (by dsimp only; omega) _).setCell (p := ⟨D.heap.size, 9, none⟩) (by dsimp only; omega) _).setCell (p := ⟨D.heap.size, 10, none⟩) (by dsimp only; omega) _).setCell (p := ⟨D.heap.size, 11, none⟩) (by dsimp only; omega) _).setCell (p := ⟨D.heap.size, 12, none⟩) (by dsimp only; omega) _).setCell (p := ⟨D.heap.size, 13, none⟩) (by dsimp only; omega) _)
        have EZ := ((((((((((((((HO.out.set (k := 0) (v := g2 0)).set (k := 1) (v := g2 1)).set (k := 2) (v := g2 2)).set (k := 3) (v := g2 3)).set (k := 4) (v := g2 4)).set (k := 5) (v := g2 5)).set (k := 6) (v := g2 6)).set (k := 7) (v := g2 7)).set (k := 8) (v := g2 8)).set (k := 9) (v := g2 9)).set (k := 10) (v := g2 10)).set (k := 11) (v := g2 11)).set (k := 12) (v := g2 12)).set (k := 13) (v := g2 13))
        have hH2 := Lib.hid (show (fun wZ : World => wZ.cell? ⟨w.heap.size, 0, none⟩ = some (.int .i64 l) ∧ wZ.cell? ⟨w.heap.size, 1, none⟩ = some (.int .i64 kd) ∧ wZ.cell? ⟨w.heap.size, 2, none⟩ = some (.int .i64 f) ∧ wZ.cell? ⟨w.heap.size, 3, none⟩ = some (.int .i64 s) ∧ wZ.cell? ⟨w.heap.size, 4, none⟩ = some (.int .i64 c) ∧ wZ.cell? ⟨w.heap.size + 1, 0, none⟩ = some (.int .i64 lv) ∧ wZ.cell? ⟨w.heap.size + 1, 1, none⟩ = some (.int .i64 ph) ∧ wZ.cell? ⟨w.heap.size + 1, 2, none⟩ = some (.int .i64 n0) ∧ wZ.cell? ⟨w.heap.size + 1, 3, none⟩ = some (.int .i64 n1) ∧ Below D.heap.size D wZ) ((((((((((((((w2.setCell ⟨D.heap.size, 0, none⟩ (.int .i64 (g2 0))).setCell ⟨D.heap.size, 1, none⟩ (.int .i64 (g2 1))).setCell ⟨D.heap.size, 2, none⟩ (.int .i64 (g2 2))).setCell ⟨D.heap.size, 3, none⟩ (.int .i64 (g2 3))).setCell ⟨D.heap.size, 4, none⟩ (.int .i64 (g2 4))).setCell ⟨D.heap.size, 5, none⟩ (.int .i64 (g2 5))).setCell ⟨D.heap.size, 6, none⟩ (.int .i64 (g2 6))).setCell ⟨D.heap.size, 7, none⟩ (.int .i64 (g2 7))).setCell ⟨D.heap.size, 8, none⟩ (.int .i64 (g2 8))).setCell ⟨D.heap.size, 9, none⟩ (.int .i64 (g2 9))).setCell ⟨D.heap.size, 10, none⟩ (.int .i64 (g2 10))).setCell ⟨D.heap.size, 11, none⟩ (.int .i64 (g2 11))).setCell ⟨D.heap.size, 12, none⟩ (.int .i64 (g2 12))).setCell ⟨D.heap.size, 13, none⟩ (.int .i64 (g2 13))) from ⟨keepB bS (by omega) hHeld.1, keepB bS (by omega) hHeld.2.1, keepB bS (by omega) hHeld.2.2.1, keepB bS (by omega) hHeld.2.2.2.1, keepB bS (by omega) hHeld.2.2.2.2.1, keepB bS (by omega) hHeld.2.2.2.2.2.1, keepB bS (by omega) hHeld.2.2.2.2.2.2.1, keepB bS (by omega) hHeld.2.2.2.2.2.2.2.1, keepB bS (by omega) hHeld.2.2.2.2.2.2.2.2.1, bD⟩)
        obtain ⟨Z, hZ⟩ : ∃ Z, Z = ((((((((((((((w2.setCell ⟨D.heap.size, 0, none⟩ (.int .i64 (g2 0))).setCell ⟨D.heap.size, 1, none⟩ (.int .i64 (g2 1))).setCell ⟨D.heap.size, 2, none⟩ (.int .i64 (g2 2))).setCell ⟨D.heap.size, 3, none⟩ (.int .i64 (g2 3))).setCell ⟨D.heap.size, 4, none⟩ (.int .i64 (g2 4))).setCell ⟨D.heap.size, 5, none⟩ (.int .i64 (g2 5))).setCell ⟨D.heap.size, 6, none⟩ (.int .i64 (g2 6))).setCell ⟨D.heap.size, 7, none⟩ (.int .i64 (g2 7))).setCell ⟨D.heap.size, 8, none⟩ (.int .i64 (g2 8))).setCell ⟨D.heap.size, 9, none⟩ (.int .i64 (g2 9))).setCell ⟨D.heap.size, 10, none⟩ (.int .i64 (g2 10))).setCell ⟨D.heap.size, 11, none⟩ (.int .i64 (g2 11))).setCell ⟨D.heap.size, 12, none⟩ (.int .i64 (g2 12))).setCell ⟨D.heap.size, 13, none⟩ (.int .i64 (g2 13))) := ⟨_, rfl⟩
        rw [← hZ] at bD EZ hH2 ⊢
        have GN := Lib.hid (show EchB Z (D.heap.size) g2 from ⟨EZ.c 0 (by decide), EZ.c 1 (by decide), EZ.c 2 (by decide), EZ.c 3 (by decide), EZ.c 4 (by decide), EZ.c 5 (by decide), EZ.c 6 (by decide), EZ.c 7 (by decide), EZ.c 8 (by decide), EZ.c 9 (by decide), EZ.c 10 (by decide), EZ.c 11 (by decide), EZ.c 12 (by decide), EZ.c 13 (by decide)⟩)
        clear oc0 of0 oc1 of1 oc2 of2 oc3 of3 oc4 of4 oc5 of5 oc6 of6 oc7 of7 oc8 of8 oc9 of9 oc10 of10 oc11 of11 oc12 of12 oc13 of13 hZ bS EZ hHeld
        refine hK.out _ _ hH2.out (fun hHeld => ?_)
        clear hK K
        try simp only [Act.put, List.setIfInBounds_toArray, List.set_cons_zero, List.set_cons_succ]
        refine wpAnyH_done (by kernel_rfl) ?_ _
        change wpList _ _ _ _ _ _
        simp only [List.drop_succ_cons, List.drop_zero]
        clear hHeld
        obtain ⟨_, _, _, _, _, _, v6, _, _, _⟩ := hH2.out
        have V6 := Lib.hid v6
        have G3 := Lib.hid (GD.out.keep bD)
        have bw3 := Lib.hid (bwD.out.trans (bD.mono bwD.out.size))
        have y3 : X1.heap.size < D.heap.size := by omega
        clear bD hH2 v6
        obtain ⟨f0, f1, f2, f3, f4, f5, f6, f7, f8, f9, f10, f11, f12, f13⟩ := G3.out
        obtain ⟨h0, h1, h2, h3, h4, h5, h6, h7, h8, h9, h10, h11, h12, h13⟩ := GN.out
        go_wp2_with fail
        clear f0 f1 f2 f3 f4 f5 f6 f7 f8 f9 f10 f11 f12 f13 h0 h1 h2 h3 h4 h5 h6 h7 h8 h9 h10 h11 h12 h13
        refine (HW.out _).mono ?_; rintro e' X3 ⟨rfl, hb3⟩
        have G5 := G3.out.keep hb3
        have GM := GN.out.keep hb3
        have V8 := keepW hb3 V6.out
        have bw4 : Below w.heap.size w X3 := bw3.out.trans (hb3.mono bw3.out.size)
        have h1 := G5.e0
        have h2 := G5.e7
        have h3 := GM.e0
        have h4 := GM.e7
        obtain ⟨sp1, sp2⟩ := SP.out
        have j1 : IntKind.i64.wrap (g2 7 - g 7) = g2 7 - g 7 := IntWalk.i64_in _ (by omega)
        have j2 : IntKind.i64.wrap (g 7 - g2 7) = g 7 - g2 7 := IntWalk.i64_in _ (by omega)
        have j3 : IntKind.i64.wrap (4 * ph) = 4 * ph := IntWalk.i64_in _ (by omega)
        clear G5 GM hb3 G3 GN V6
        by_cases k0 : g2 0 = 1
        · have e5 : (g2 0 == 1) = true := beq_iff_eq.2 k0
          clear k0
          go_wp2_with fail
          refine (works_any _).mono ?_; rintro e' X ⟨rfl, hb⟩
          go_wp2
          go_ret
          exact ⟨rfl, bw4.trans (hb.mono bw4.size)⟩
        · have e5 : (g2 0 == 1) = false := beq_eq_false_iff_ne.2 k0
          by_cases k1 : g 0 = 1
          · have e6 : (g 0 == 1) = true := beq_iff_eq.2 k1
            clear k0 k1
            go_wp2_with fail
            refine (works_any _).mono ?_; rintro e' X ⟨rfl, hb⟩
            go_wp2
            go_ret
            exact ⟨rfl, bw4.trans (hb.mono bw4.size)⟩
          · have e6 : (g 0 == 1) = false := beq_eq_false_iff_ne.2 k1
            have hM := (M4.out.resolve_left k0).resolve_left k1
            have e7 : decide (max (g2 7 - g 7) (g 7 - g2 7) ≤ 4 * ph) = true := decide_eq_true (by omega)
            clear k0 k1 hM
            go_wp2_with fail
            refine (works_any _).mono ?_; rintro e' X ⟨rfl, hb⟩
            go_wp2
            go_ret
            exact ⟨rfl, bw4.trans (hb.mono bw4.size)⟩

end Go.Proofs.Ytmojnopgpgnfeaa
