/-
  Rows of samples, opened.
-/
import Derived.Test.Ytmojnopgpgnfeaamh3
import Derived.Test.Ytmojnopgpgnfeaamh4
namespace Go.Proofs.Ytmojnopgpgnfeaa
open Go.ChangeShapes Go.WideShapes Go.ChangeAt Go.RowKit
set_option linter.unusedVariables false
set_option linter.unusedSimpArgs false

theorem cells54 : Try.prog.cellsOf 54 = 1 := by kernel_rfl
/-- a row: its slice, and its samples -/
structure SmpR where
  a : Option Addr
  len : Nat
  cap : Nat
  zs : Nat → Smp
def RwsAt (w : World) (b off n : Nat) (rs : Nat → SmpR) : Prop := ∀ i, i < n → w.cell? ⟨b, off + i, none⟩ = some (.slice (rs i).a (rs i).len (rs i).cap) ∧ (rs i).len ≤ maxLen ∧ SmpsIs w (rs i).a (rs i).len (rs i).zs
def RwsIs (w : World) (a : Option Addr) (n : Nat) (rs : Nat → SmpR) : Prop :=
  n = 0 ∨ ∃ b off, a = some ⟨b, off, none⟩ ∧ b < w.heap.size ∧ RwsAt w b off n rs
theorem RwsAt.keep {b off n : Nat} {W w1 : World} {rs : Nat → SmpR} (s : RwsAt W b off n rs) (hb : Below W.heap.size W w1) (h : b < W.heap.size) : RwsAt w1 b off n rs := fun i hi => ⟨keepB hb h (s i hi).1, (s i hi).2.1, (s i hi).2.2.keep hb⟩
theorem RwsIs.keep {a : Option Addr} {n : Nat} {W w1 : World} {rs : Nat → SmpR} (s : RwsIs W a n rs) (hb : Below W.heap.size W w1) : RwsIs w1 a n rs := by
  rcases s with h | ⟨b, off, h, hl, hs⟩
  · exact .inl h
  · exact .inr ⟨b, off, h, Nat.lt_of_lt_of_le hl hb.size, hs.keep hb hl⟩

set_option maxRecDepth 100000 in
theorem smpsT_open {H : Type} {enc : TypeId × Value → H} {w : World} {base : Nat} {spare : Nat → Bool} {held : Bool} {n : Nat} {v : Value} {x : DataW H × List MemPlace}
    (h : DataW.trod enc Try.prog w base spare held n 54 [v] = some x) :
    ∃ r : SmpR, v = .slice r.a r.len r.cap ∧ r.len ≤ maxLen ∧ SmpsIs w r.a r.len r.zs := by
  rcases Go.Deep.open_slice Try.underlying54 h with ⟨hc, _⟩ | ⟨a, len, cap, m, k, D, Pl, hc, _, hl, hm, hmm, _, hi⟩
  · have hc2 : [v] = [Value.slice none 0 0] := hc
    simp only [List.cons.injEq, and_true] at hc2
    exact ⟨⟨none, 0, 0, fun _ => ⟨0, 0, 0, 0⟩⟩, hc2, by decide, .inl rfl⟩
  · have hc2 : [v] = [Value.slice (some a) len cap] := hc
    simp only [List.cons.injEq, and_true] at hc2
    have hle : len ≤ m := by rw [hmm]; split <;> omega
    have key : ∀ i, ∃ z : Smp, i < len → w.cell? (a.add (i * 4)) = some (.int .i64 z.h) ∧ w.cell? ((a.add (i * 4)).add 1) = some (.int .i64 z.p) ∧ w.cell? ((a.add (i * 4)).add 2) = some (.int .i64 z.v) ∧ w.cell? ((a.add (i * 4)).add 3) = some (.int .i64 z.q) := by
      intro i
      by_cases hil : i < len
      · obtain ⟨cs', hcs, ht⟩ := hi i (by omega)
        rw [cells84] at hcs
        obtain ⟨_, hcl, hat⟩ := World.cells?_some hcs
        match cs', hcl with
        | [v0, v1, v2, v3], _ =>
          obtain ⟨z, rfl, rfl, rfl, rfl⟩ := smp_trod ht
          refine ⟨z, fun _ => ⟨?_, hat 1 (by decide), hat 2 (by decide), hat 3 (by decide)⟩⟩
          have h0 := hat 0 (by decide)
          have e : (a.add (i * 4)).add 0 = a.add (i * 4) := by rw [Go.Deep.add_add]; rfl
          rw [e] at h0; exact h0
      · exact ⟨⟨0, 0, 0, 0⟩, fun h => absurd h hil⟩
    obtain ⟨zs, hz⟩ := Classical.axiomOfChoice key
    refine ⟨⟨some a, len, cap, zs⟩, hc2, Nat.le_trans hl hm, ?_⟩
    by_cases h0 : len = 0
    · exact .inl h0
    · have h1 := (hz 0 (by omega)).1
      have hsp : a.spot = none := World.cell?_spot h1
      refine .inr ⟨a.block, a.off, ?_, ?_, fun i hil => ?_, fun i hil => ?_, fun i hil => ?_, fun i hil => ?_⟩
      · obtain ⟨b, off, spot⟩ := a
        simp only at hsp
        rw [hsp]
      · rw [add_at hsp] at h1
        exact World.block_lt_of_cell? w ⟨a.block, a.off + 0 * 4, none⟩ h1
      · have h2 := (hz i hil).1
        rw [add_at hsp] at h2; exact h2
      · have h2 := (hz i hil).2.1
        rw [add_at2 hsp] at h2; exact h2
      · have h2 := (hz i hil).2.2.1
        rw [add_at2 hsp] at h2; exact h2
      · have h2 := (hz i hil).2.2.2
        rw [add_at2 hsp] at h2; exact h2


set_option maxRecDepth 100000 in
theorem rws_open {H : Type} {enc : TypeId × Value → H} {w : World} {r : Reach} {b0 base : Nat} {spare : Nat → Bool} {held : Bool} {v : Value} {d : DataW H} {p : List MemPlace}
    (hv : Value.okWide Try.prog w r b0 61 v) (hh : DataW.Trod enc Try.prog w base spare held 61 v d p) :
    ∃ (a : Option Addr) (len cap : Nat) (rs : Nat → SmpR), v = .slice a len cap ∧ len ≤ maxLen ∧ RwsIs w a len rs := by
  obtain ⟨a0, n0, c0, rfl⟩ := okWide_slice Try.underlying61 hv
  obtain ⟨fuel, h⟩ := hh
  rcases Go.Deep.open_slice1 Try.underlying61 cells54 h with ⟨hc, _⟩ | ⟨a, len, cap, m, k, V, D, Pl, hc, _, hl, hm, hmm, _, hi⟩
  · have hc : [Value.slice a0 n0 c0] = [Value.slice none 0 0] := hc
    simp only [List.cons.injEq, and_true] at hc
    exact ⟨none, 0, 0, fun _ => ⟨none, 0, 0, fun _ => ⟨0, 0, 0, 0⟩⟩, hc, by decide, .inl rfl⟩
  · have hc : [Value.slice a0 n0 c0] = [Value.slice (some a) len cap] := hc
    simp only [List.cons.injEq, and_true] at hc
    have hle : len ≤ m := by rw [hmm]; split <;> omega
    have key : ∀ i, ∃ r : SmpR, i < len → w.cell? (a.add i) = some (.slice r.a r.len r.cap) ∧ r.len ≤ maxLen ∧ SmpsIs w r.a r.len r.zs := by
      intro i
      by_cases hil : i < len
      · obtain ⟨h1, h2⟩ := hi i (by omega)
        obtain ⟨r, e, h3, h4⟩ := smpsT_open h2
        exact ⟨r, fun _ => ⟨by rw [h1, e], h3, h4⟩⟩
      · exact ⟨⟨none, 0, 0, fun _ => ⟨0, 0, 0, 0⟩⟩, fun h => absurd h hil⟩
    obtain ⟨zs, hz⟩ := Classical.axiomOfChoice key
    refine ⟨some a, len, cap, zs, hc, Nat.le_trans hl hm, ?_⟩
    by_cases h0 : len = 0
    · exact .inl h0
    · have h1 := (hz 0 (by omega)).1
      have hsp : a.spot = none := World.cell?_spot h1
      refine .inr ⟨a.block, a.off, ?_, ?_, fun i hil => ?_⟩
      · obtain ⟨b, off, spot⟩ := a
        simp only at hsp
        rw [hsp]
      · rw [add_at hsp] at h1
        exact World.block_lt_of_cell? w ⟨a.block, a.off + 0, none⟩ h1
      · have h2 := hz i hil
        rw [add_at hsp] at h2
        exact h2


end Go.Proofs.Ytmojnopgpgnfeaa

namespace Go.Proofs.Ytmojnopgpgnfeaa
open Go.RowKit
set_option linter.unusedVariables false
set_option linter.unusedSimpArgs false

theorem chkS {l kd f s c : Int} (k1 : trainC l kd f s c = 0) (a : Option Addr) (n cap : Nat) (zs : Nat → Smp) (w : World) (hS : SmpsIs w a n zs) :
    Calls Try.prog 62 #[.agg #[.int .i64 l, .int .i64 kd, .int .i64 f, .int .i64 s, .int .i64 c], .slice a n cap] w fun e w' => e = .returned (.int .i64 (samC zs n c)) ∧ Below w.heap.size w w' := by
  have hc := (train_ok k1).1
  unfold samC
  by_cases h : (n : Int) = c
  · rw [if_pos h]
    rcases hS with h0 | ⟨b, off, rfl, hb, hs⟩
    · omega
    · exact checkSamples_all l kd f s c b off n cap zs w h (by omega) hs hb
  · rw [if_neg h]
    exact checkSamples_shape l kd f s c a n cap w h
theorem sam_0 {zs : Nat → Smp} {n : Nat} {c : Int} (h : samC zs n c = 0) : (n : Int) = c ∧ allS zs n = true := by
  unfold samC at h
  split at h
  · rename_i h1
    split at h
    · rename_i h2; exact ⟨h1, h2⟩
    · omega
  · omega
theorem hearS {l kd f s c lv ph n0 n1 : Int} (k1 : trainC l kd f s c = 0) (k2 : recvC lv ph n0 n1 = 0) (a : Option Addr) (n cap : Nat) (zs : Nat → Smp) (w : World) (h : samC zs n c = 0) (hS : SmpsIs w a n zs) :
    Calls Try.prog 63 #[.agg #[.int .i64 l, .int .i64 kd, .int .i64 f, .int .i64 s, .int .i64 c], .agg #[.int .i64 lv, .int .i64 ph, .int .i64 n0, .int .i64 n1], .slice a n cap] w fun e w' => e = .returned (.agg #[.int .i64 ((hearOf l kd c lv ph n0 n1 n zs) 0), .int .i64 ((hearOf l kd c lv ph n0 n1 n zs) 1), .int .i64 ((hearOf l kd c lv ph n0 n1 n zs) 2), .int .i64 ((hearOf l kd c lv ph n0 n1 n zs) 3), .int .i64 ((hearOf l kd c lv ph n0 n1 n zs) 4), .int .i64 ((hearOf l kd c lv ph n0 n1 n zs) 5), .int .i64 ((hearOf l kd c lv ph n0 n1 n zs) 6), .int .i64 ((hearOf l kd c lv ph n0 n1 n zs) 7), .int .i64 ((hearOf l kd c lv ph n0 n1 n zs) 8), .int .i64 ((hearOf l kd c lv ph n0 n1 n zs) 9), .int .i64 ((hearOf l kd c lv ph n0 n1 n zs) 10), .int .i64 ((hearOf l kd c lv ph n0 n1 n zs) 11), .int .i64 ((hearOf l kd c lv ph n0 n1 n zs) 12), .int .i64 ((hearOf l kd c lv ph n0 n1 n zs) 13)]) ∧ Below w.heap.size w w' := by
  obtain ⟨h1, h2⟩ := sam_0 h
  obtain ⟨tc, t2⟩ := train_ok k1
  obtain ⟨r1, r2, r3⟩ := recv_ok k2
  rcases hS with h0 | ⟨b, off, rfl, hb, hs⟩
  · omega
  · exact hear_any l kd f s c lv ph n0 n1 b off n cap zs w (by omega) (by omega) t2 h1 (fun i hi => ⟨lev_ok h2 i hi, (smpB_true (allS_at h2 hi)).2⟩) r1 r2 r3 hs hb
/-- the first error of rows -/
def errTo (c : Int) (rs : Nat → SmpR) : Nat → Int
  | 0 => 0
  | k + 1 => if errTo c rs k = 0 then samC (rs k).zs (rs k).len c else errTo c rs k
theorem errTo_stay {c : Int} {rs : Nat → SmpR} {k : Nat} (h : errTo c rs k ≠ 0) : ∀ d, errTo c rs (k + d) = errTo c rs k
  | 0 => rfl
  | d + 1 => by
    rw [← Nat.add_assoc, errTo, errTo_stay h d, if_neg h]
/-- the error of a ray -/
def rayE (l kd f s c lv ph n0 n1 : Int) (n : Nat) (rs : Nat → SmpR) : Int := if ckC l kd f s c lv ph n0 n1 = 0 then (if 200 < n then 11 else errTo c rs n) else ckC l kd f s c lv ph n0 n1
/-- the echoes of a ray -/
def rayG (l kd c lv ph n0 n1 : Int) (rs : Nat → SmpR) : Nat → Nat → Int := fun i => hearOf l kd c lv ph n0 n1 (rs i).len (rs i).zs
def RayRet (w : World) (E : Int) (n : Nat) (g : Nat → Nat → Int) (e : Ending) (w' : World) : Prop := ∃ v, e = .returned (.tuple #[v, .int .i64 E]) ∧ ((E ≠ 0 ∧ v = .slice none 0 0) ∨ (E = 0 ∧ ∃ a cap, v = .slice a n cap ∧ EchosIs w' a n g)) ∧ Below w.heap.size w w'
/-- echoes in a slice of one's own -/
structure MkG (W : World) (b n : Nat) (x : Nat → Nat → Int) : Prop where
  c : ∀ i, i < n → ∀ j, j < 14 → W.cell? ⟨b, i * 14 + j, none⟩ = some (.int .i64 (x i j))
  f : ∀ i, i < n → ∀ j, j < 14 → W.frozen? ⟨b, i * 14 + j, none⟩ = false
def upd2 (x : Nat → Nat → Int) (k m : Nat) (v : Int) : Nat → Nat → Int := fun i j => if i = k ∧ j = m then v else x i j
theorem MkG.keep {B b n : Nat} {W w1 : World} {x : Nat → Nat → Int} (s : MkG W b n x) (hb : Below B W w1) (h : b < B) : MkG w1 b n x :=
  ⟨fun i hi j hj => keepB hb h (s.c i hi j hj), fun i hi j hj => keepF hb h (s.f i hi j hj)⟩
theorem MkG.set {b n : Nat} {W : World} {x : Nat → Nat → Int} (s : MkG W b n x) (k m : Nat) (v : Int) (hk : k < n) (hm : m < 14) : MkG (W.setCell ⟨b, k * 14 + m, none⟩ (.int .i64 v)) b n (upd2 x k m v) := by
  refine ⟨fun i hi j hj => ?_, fun i hi j hj => frz (s.f i hi j hj)⟩
  unfold upd2
  by_cases h : i = k ∧ j = m
  · rw [if_pos h, h.1, h.2]; exact set_same (s.c k hk m hm)
  · rw [if_neg h]; exact set_other (by omega) (s.c i hi j hj)
theorem MkG.congr {b n : Nat} {W : World} {x y : Nat → Nat → Int} (s : MkG W b n x) (h : ∀ i, i < n → ∀ j, j < 14 → x i j = y i j) : MkG W b n y :=
  ⟨fun i hi j hj => by rw [← h i hi j hj]; exact s.c i hi j hj, s.f⟩
theorem info30 : (Try.prog.info? 30).map (fun i => (i.zero, i.size, i.bytes)) = some (some (.agg #[.int .i64 0, .int .i64 0, .int .i64 0, .int .i64 0, .int .i64 0, .int .i64 0, .int .i64 0, .int .i64 0, .int .i64 0, .int .i64 0, .int .i64 0, .int .i64 0, .int .i64 0, .int .i64 0]), 14, 112) := by kernel_rfl
theorem make_echos (n : Nat) (h : n ≤ 1000000) (w : World) :
    (Instr.makeSlice 47 (.int .i64 (n : Int)) (.int .i64 (n : Int))).run Try.prog w = .ok (.slice (some ⟨w.heap.size, 0, none⟩) n n) (w.alloc (.cells (madeCells #[.int .i64 0, .int .i64 0, .int .i64 0, .int .i64 0, .int .i64 0, .int .i64 0, .int .i64 0, .int .i64 0, .int .i64 0, .int .i64 0, .int .i64 0, .int .i64 0, .int .i64 0, .int .i64 0] (n * 14)) 30)) := by
  obtain ⟨i, hi, hzz⟩ := Option.map_eq_some_iff.1 info30
  simp only [Prod.mk.injEq] at hzz
  obtain ⟨hz, hs, hb⟩ := hzz
  have hr := run_make (P := Try.prog) w 47 30 i _ Try.underlying47 hi hz .i64 .i64 n n (by omega) (Int.le_refl _) (by rw [hb]; omega) (by omega)
  simp only [Int.toNat_natCast, hs] at hr
  exact hr
theorem made14_get (n k : Nat) (h : k < n) : (madeCells #[.int .i64 0, .int .i64 0, .int .i64 0, .int .i64 0, .int .i64 0, .int .i64 0, .int .i64 0, .int .i64 0, .int .i64 0, .int .i64 0, .int .i64 0, .int .i64 0, .int .i64 0, .int .i64 0] n)[k]? = some (.int .i64 0) := by
  have h2 : k % 14 < 14 := Nat.mod_lt _ (by decide)
  have h3 : ∀ m : Fin 14, (#[.int .i64 0, .int .i64 0, .int .i64 0, .int .i64 0, .int .i64 0, .int .i64 0, .int .i64 0, .int .i64 0, .int .i64 0, .int .i64 0, .int .i64 0, .int .i64 0, .int .i64 0, .int .i64 0] : Array Value)[m.1]? = some (Value.int .i64 0) := by
    intro m
    match m with
    | ⟨0, _⟩ => rfl
    | ⟨1, _⟩ => rfl
    | ⟨2, _⟩ => rfl
    | ⟨3, _⟩ => rfl
    | ⟨4, _⟩ => rfl
    | ⟨5, _⟩ => rfl
    | ⟨6, _⟩ => rfl
    | ⟨7, _⟩ => rfl
    | ⟨8, _⟩ => rfl
    | ⟨9, _⟩ => rfl
    | ⟨10, _⟩ => rfl
    | ⟨11, _⟩ => rfl
    | ⟨12, _⟩ => rfl
    | ⟨13, _⟩ => rfl
  have h4 := h3 ⟨k % 14, h2⟩
  simp only at h4
  simp only [madeCells]
  simp [h]
  have h5 : k % 14 = 0 ∨ k % 14 = 1 ∨ k % 14 = 2 ∨ k % 14 = 3 ∨ k % 14 = 4 ∨ k % 14 = 5 ∨ k % 14 = 6 ∨ k % 14 = 7 ∨ k % 14 = 8 ∨ k % 14 = 9 ∨ k % 14 = 10 ∨ k % 14 = 11 ∨ k % 14 = 12 ∨ k % 14 = 13 := by omega
  rcases h5 with h5 | h5 | h5 | h5 | h5 | h5 | h5 | h5 | h5 | h5 | h5 | h5 | h5 | h5 <;> simp [h5]
theorem MkG.new (w : World) (n : Nat) : MkG (w.alloc (.cells (madeCells #[.int .i64 0, .int .i64 0, .int .i64 0, .int .i64 0, .int .i64 0, .int .i64 0, .int .i64 0, .int .i64 0, .int .i64 0, .int .i64 0, .int .i64 0, .int .i64 0, .int .i64 0, .int .i64 0] (n * 14)) 30)) w.heap.size n (fun _ _ => 0) :=
  ⟨fun i hi j hj => alloc_new rfl (made14_get _ _ (by omega)), fun i hi j hj => alloc_newF rfl⟩

set_option maxRecDepth 100000 in
set_option maxHeartbeats 4000000 in
theorem Ray_err (l kd f s c lv ph n0 n1 : Int) (a : Option Addr) (n cap : Nat) (w : World) (h : ckC l kd f s c lv ph n0 n1 ≠ 0) :
    Calls Try.prog 30 #[.agg #[.int .i64 l, .int .i64 kd, .int .i64 f, .int .i64 s, .int .i64 c], .agg #[.int .i64 lv, .int .i64 ph, .int .i64 n0, .int .i64 n1], .slice a n cap] w fun e w' => e = .returned (.tuple #[.slice none 0 0, .int .i64 (ckC l kd f s c lv ph n0 n1)]) ∧ Below w.heap.size w w' := by
  obtain ⟨E, hE⟩ : ∃ E, E = ckC l kd f s c lv ph n0 n1 := ⟨_, rfl⟩
  have HC : Hid (∀ W : World, Calls Try.prog 61 #[.agg #[.int .i64 l, .int .i64 kd, .int .i64 f, .int .i64 s, .int .i64 c], .agg #[.int .i64 lv, .int .i64 ph, .int .i64 n0, .int .i64 n1]] W fun e w' => e = .returned (.int .i64 E) ∧ Below W.heap.size W w') := Lib.hid fun W => by rw [hE]; exact check_any l kd f s c lv ph n0 n1 W
  rw [← hE] at h ⊢
  have hne : (E != 0) = true := bne_iff_ne.2 h
  have hne2 : (E == 0) = false := beq_eq_false_iff_ne.2 h
  clear h hE
  have P0 := Lib.hid (TrB.new w l kd f s c lv ph n0 n1)
  obtain ⟨U, hU⟩ : ∃ U, U = ((w.alloc (.cells #[.int .i64 l, .int .i64 kd, .int .i64 f, .int .i64 s, .int .i64 c] 23)).alloc (.cells #[.int .i64 lv, .int .i64 ph, .int .i64 n0, .int .i64 n1] 27)) := ⟨_, rfl⟩
  rw [← hU] at P0
  go_enter Try.func30, Try.ntmps30
  go_wp2_with fail
  rw [← hU]
  clear hU
  obtain ⟨c0, c1, c2, c3, c4, c5, c6, c7, c8, hz, hbw⟩ := P0.out
  refine (HC.out _).mono ?_; rintro e' X1 ⟨rfl, hb1⟩
  have b1 := hbw.trans (hb1.mono hbw.size)
  clear c0 c1 c2 c3 c4 c5 c6 c7 c8 hz hbw hb1 P0 HC
  go_wp2
  exact bodyPost_ret (v := .tuple #[.slice none 0 0, .int .i64 E]) (by simp [results, Try.results30, go_sem]) rfl ⟨rfl, b1⟩
set_option maxRecDepth 100000 in
set_option maxHeartbeats 4000000 in
theorem Ray_many (l kd f s c lv ph n0 n1 : Int) (a : Option Addr) (n cap : Nat) (w : World) (h : ckC l kd f s c lv ph n0 n1 = 0) (hn : 200 < n) :
    Calls Try.prog 30 #[.agg #[.int .i64 l, .int .i64 kd, .int .i64 f, .int .i64 s, .int .i64 c], .agg #[.int .i64 lv, .int .i64 ph, .int .i64 n0, .int .i64 n1], .slice a n cap] w fun e w' => e = .returned (.tuple #[.slice none 0 0, .int .i64 11]) ∧ Below w.heap.size w w' := by
  have HC : Hid (∀ W : World, Calls Try.prog 61 #[.agg #[.int .i64 l, .int .i64 kd, .int .i64 f, .int .i64 s, .int .i64 c], .agg #[.int .i64 lv, .int .i64 ph, .int .i64 n0, .int .i64 n1]] W fun e w' => e = .returned (.int .i64 0) ∧ Below W.heap.size W w') := Lib.hid fun W => by rw [← h]; exact check_any l kd f s c lv ph n0 n1 W
  have d1 : decide (200 < (n : Int)) = true := decide_eq_true (by omega)
  clear h
  have P0 := Lib.hid (TrB.new w l kd f s c lv ph n0 n1)
  obtain ⟨U, hU⟩ : ∃ U, U = ((w.alloc (.cells #[.int .i64 l, .int .i64 kd, .int .i64 f, .int .i64 s, .int .i64 c] 23)).alloc (.cells #[.int .i64 lv, .int .i64 ph, .int .i64 n0, .int .i64 n1] 27)) := ⟨_, rfl⟩
  rw [← hU] at P0
  go_enter Try.func30, Try.ntmps30
  go_wp2_with fail
  rw [← hU]
  clear hU
  obtain ⟨c0, c1, c2, c3, c4, c5, c6, c7, c8, hz, hbw⟩ := P0.out
  refine (HC.out _).mono ?_; rintro e' X1 ⟨rfl, hb1⟩
  have b1 := hbw.trans (hb1.mono hbw.size)
  clear c0 c1 c2 c3 c4 c5 c6 c7 c8 hz hbw hb1 P0 HC
  go_wp2
  exact bodyPost_ret (v := .tuple #[.slice none 0 0, .int .i64 11]) (by simp [results, Try.results30, go_sem]) rfl ⟨rfl, b1⟩
set_option maxRecDepth 100000 in
set_option maxHeartbeats 16000000 in
theorem Ray_ok (l kd f s c lv ph n0 n1 : Int) (a : Option Addr) (n cap : Nat) (rs : Nat → SmpR) (w : World) (k1 : trainC l kd f s c = 0) (k2 : recvC lv ph n0 n1 = 0) (hn : n ≤ 200) (hR : RwsIs w a n rs) :
    Calls Try.prog 30 #[.agg #[.int .i64 l, .int .i64 kd, .int .i64 f, .int .i64 s, .int .i64 c], .agg #[.int .i64 lv, .int .i64 ph, .int .i64 n0, .int .i64 n1], .slice a n cap] w (RayRet w (errTo c rs n) n (rayG l kd c lv ph n0 n1 rs)) := by
  have HC : Hid (∀ W : World, Calls Try.prog 61 #[.agg #[.int .i64 l, .int .i64 kd, .int .i64 f, .int .i64 s, .int .i64 c], .agg #[.int .i64 lv, .int .i64 ph, .int .i64 n0, .int .i64 n1]] W fun e w' => e = .returned (.int .i64 0) ∧ Below W.heap.size W w') := Lib.hid fun W => by
    have h := check_any l kd f s c lv ph n0 n1 W
    rw [if_pos k1, k2] at h
    exact h
  have d1 : decide (200 < (n : Int)) = false := decide_eq_false (by omega)
  have HK := Lib.hid (And.intro k1 k2)
  have HR := Lib.hid hR
  clear k1 k2 hR
  have hmk : ∀ wx : World, (Instr.makeSlice 47 (.int .i64 (n : Int)) (.int .i64 (n : Int))).run Try.prog wx = .ok (.slice (some ⟨wx.heap.size, 0, none⟩) n n) (wx.alloc (.cells (madeCells #[.int .i64 0, .int .i64 0, .int .i64 0, .int .i64 0, .int .i64 0, .int .i64 0, .int .i64 0, .int .i64 0, .int .i64 0, .int .i64 0, .int .i64 0, .int .i64 0, .int .i64 0, .int .i64 0] (n * 14)) 30)) := fun wx => make_echos n (by omega) wx
  have P0 := Lib.hid (TrB.new w l kd f s c lv ph n0 n1)
  obtain ⟨U, hU⟩ : ∃ U, U = ((w.alloc (.cells #[.int .i64 l, .int .i64 kd, .int .i64 f, .int .i64 s, .int .i64 c] 23)).alloc (.cells #[.int .i64 lv, .int .i64 ph, .int .i64 n0, .int .i64 n1] 27)) := ⟨_, rfl⟩
  rw [← hU] at P0
  go_enter Try.func30, Try.ntmps30
  go_wp2_with fail
  rw [← hU]
  clear hU
  obtain ⟨c0, c1, c2, c3, c4, c5, c6, c7, c8, hz, hbw⟩ := P0.out
  refine (HC.out _).mono ?_; rintro e' X1 ⟨rfl, hb1⟩
  have P1 := Lib.hid (P0.out.keep hb1)
  obtain ⟨V, hV⟩ : ∃ V, V = X1.alloc (.cells (madeCells #[.int .i64 0, .int .i64 0, .int .i64 0, .int .i64 0, .int .i64 0, .int .i64 0, .int .i64 0, .int .i64 0, .int .i64 0, .int .i64 0, .int .i64 0, .int .i64 0, .int .i64 0, .int .i64 0] (n * 14)) 30) := ⟨_, rfl⟩
  have bV : Below X1.heap.size X1 V := by rw [hV]; exact below_alloc _ _
  have MV := Lib.hid (show MkG V X1.heap.size n (fun _ _ => 0) by rw [hV]; exact MkG.new X1 n)
  have yV : X1.heap.size < V.heap.size := by rw [hV, World.size_alloc]; omega
  clear c0 c1 c2 c3 c4 c5 c6 c7 c8 hz hbw hb1 P0 HC
  go_wp2_with fail
  rw [← hV]
  clear hV hmk
  go_loopw [27] (fun v27 wr => ∃ k : Nat, k ≤ n ∧ v27 = .int .i64 k ∧ errTo c rs k = 0 ∧ MkG wr X1.heap.size n (fun i j => if i < k then rayG l kd c lv ph n0 n1 rs i j else 0) ∧ Below X1.heap.size X1 wr ∧ X1.heap.size < wr.heap.size) (fun v27 _ => n - (intOf v27).toNat)
  case atStart => exact ⟨0, Nat.zero_le _, rfl, rfl, MV.out.congr (fun i _ j _ => by rw [if_neg (by omega)]), bV, yV⟩
  case round =>
    obtain ⟨k, hk, rfl, he, hM, hB, hyr⟩ := hrel
    by_cases hlt : k < n
    · rcases HR.out with h0 | ⟨b, off, rfl, hb, hrs⟩
      · omega
      have hbX : b < X1.heap.size := Nat.lt_of_lt_of_le hb P1.out.b.size
      obtain ⟨hcell, hlen, hsm⟩ := (hrs.keep P1.out.b hb) k hlt
      have hrow := keepB hB hbX hcell
      have hsm2 : SmpsIs wr (rs k).a (rs k).len (rs k).zs := by
        rcases hsm with h | ⟨b', o', e1, e2, e3⟩
        · exact .inl h
        · exact .inr ⟨b', o', e1, Nat.lt_of_lt_of_le e2 hB.size, e3.keep hB e2⟩
      have hbr : b < wr.heap.size := Nat.lt_of_lt_of_le hbX hB.size
      have HEK : Hid (errTo c rs (k + 1) = samC (rs k).zs (rs k).len c) := Lib.hid (by rw [errTo, if_pos he])
      have HGK : Hid (rayG l kd c lv ph n0 n1 rs k = hearOf l kd c lv ph n0 n1 (rs k).len (rs k).zs) := Lib.hid rfl
      obtain ⟨R, hR⟩ : ∃ R, R = rs k := ⟨_, rfl⟩
      rw [← hR] at hrow hsm2 HEK HGK hlen
      clear hR
      obtain ⟨ra, rl, rq, zs⟩ := R
      dsimp only at hrow hsm2 HEK HGK hlen
      have HSM := Lib.hid hsm2
      have HM := Lib.hid hM
      have HB := Lib.hid hB
      have P2 := P1.out
      obtain ⟨c0, c1, c2, c3, c4, c5, c6, c7, c8, hz, hbw⟩ := P1.out
      have c0 := keepB hB (by omega) c0
      have c1 := keepB hB (by omega) c1
      have c2 := keepB hB (by omega) c2
      have c3 := keepB hB (by omega) c3
      have c4 := keepB hB (by omega) c4
      have c5 := keepB hB (by omega) c5
      have c6 := keepB hB (by omega) c6
      have c7 := keepB hB (by omega) c7
      have c8 := keepB hB (by omega) c8
      have HCS : Hid (Calls Try.prog 62 #[.agg #[.int .i64 l, .int .i64 kd, .int .i64 f, .int .i64 s, .int .i64 c], .slice ra rl rq] wr fun e w' => e = .returned (.int .i64 (samC zs rl c)) ∧ Below wr.heap.size wr w') := Lib.hid (chkS HK.out.1 ra rl rq zs wr HSM.out)
      have HBW := Lib.hid (show Below w.heap.size w wr from hbw.trans (hB.mono hbw.size))
      clear hM hsm2 hsm hcell hrs hB he P2 hlen hbw
      by_cases hs : samC zs rl c = 0
      · rw [hs] at HCS
        have HHS : Hid (∀ W : World, Below wr.heap.size wr W → Calls Try.prog 63 #[.agg #[.int .i64 l, .int .i64 kd, .int .i64 f, .int .i64 s, .int .i64 c], .agg #[.int .i64 lv, .int .i64 ph, .int .i64 n0, .int .i64 n1], .slice ra rl rq] W fun e w' => e = .returned (.agg #[.int .i64 ((hearOf l kd c lv ph n0 n1 rl zs) 0), .int .i64 ((hearOf l kd c lv ph n0 n1 rl zs) 1), .int .i64 ((hearOf l kd c lv ph n0 n1 rl zs) 2), .int .i64 ((hearOf l kd c lv ph n0 n1 rl zs) 3), .int .i64 ((hearOf l kd c lv ph n0 n1 rl zs) 4), .int .i64 ((hearOf l kd c lv ph n0 n1 rl zs) 5), .int .i64 ((hearOf l kd c lv ph n0 n1 rl zs) 6), .int .i64 ((hearOf l kd c lv ph n0 n1 rl zs) 7), .int .i64 ((hearOf l kd c lv ph n0 n1 rl zs) 8), .int .i64 ((hearOf l kd c lv ph n0 n1 rl zs) 9), .int .i64 ((hearOf l kd c lv ph n0 n1 rl zs) 10), .int .i64 ((hearOf l kd c lv ph n0 n1 rl zs) 11), .int .i64 ((hearOf l kd c lv ph n0 n1 rl zs) 12), .int .i64 ((hearOf l kd c lv ph n0 n1 rl zs) 13)]) ∧ Below W.heap.size W w') := Lib.hid fun W hW => hearS HK.out.1 HK.out.2 ra rl rq zs W hs (HSM.out.keep hW)
        have HE0 : Hid (errTo c rs (k + 1) = 0) := Lib.hid (HEK.out.trans hs)
        obtain ⟨g, hg⟩ : ∃ g, g = hearOf l kd c lv ph n0 n1 rl zs := ⟨_, rfl⟩
        rw [← hg] at HHS HGK
        clear hs hg HEK
        go_wp2_with fail
        refine HCS.out.mono ?_; rintro e' Y ⟨rfl, hbY⟩
        have hYr := hbY
        clear c0 c1 c2 c3 c4 c5 c6 c7 c8
        obtain ⟨c0, c1, c2, c3, c4, c5, c6, c7, c8, _, _⟩ := P1.out.keep (HB.out.trans (hbY.mono HB.out.size))
        go_wp2_with fail
        clear c0 c1 c2 c3 c4 c5 c6 c7 c8
        refine (HHS.out _ hYr).mono ?_; rintro e' Z ⟨rfl, hbZ⟩
        have hbWZ := hYr.trans (hbZ.mono hYr.size)
        have MZ := Lib.hid (HM.out.keep hbWZ hyr)
        have BZ := Lib.hid (HB.out.trans (hbWZ.mono HB.out.size))
        have yZ : X1.heap.size < Z.heap.size := Nat.lt_of_lt_of_le hyr hbWZ.size
        have m0 : Z.cell? ⟨X1.heap.size, k * 14, none⟩ = _ := MZ.out.c k hlt 0 (by decide)
        have f0 : Z.frozen? ⟨X1.heap.size, k * 14, none⟩ = false := MZ.out.f k hlt 0 (by decide)
        have m1 : Z.cell? ⟨X1.heap.size, k * 14 + 1, none⟩ = _ := MZ.out.c k hlt 1 (by decide)
        have f1 : Z.frozen? ⟨X1.heap.size, k * 14 + 1, none⟩ = false := MZ.out.f k hlt 1 (by decide)
        have m2 : Z.cell? ⟨X1.heap.size, k * 14 + 2, none⟩ = _ := MZ.out.c k hlt 2 (by decide)
        have f2 : Z.frozen? ⟨X1.heap.size, k * 14 + 2, none⟩ = false := MZ.out.f k hlt 2 (by decide)
        have m3 : Z.cell? ⟨X1.heap.size, k * 14 + 3, none⟩ = _ := MZ.out.c k hlt 3 (by decide)
        have f3 : Z.frozen? ⟨X1.heap.size, k * 14 + 3, none⟩ = false := MZ.out.f k hlt 3 (by decide)
        have m4 : Z.cell? ⟨X1.heap.size, k * 14 + 4, none⟩ = _ := MZ.out.c k hlt 4 (by decide)
        have f4 : Z.frozen? ⟨X1.heap.size, k * 14 + 4, none⟩ = false := MZ.out.f k hlt 4 (by decide)
        have m5 : Z.cell? ⟨X1.heap.size, k * 14 + 5, none⟩ = _ := MZ.out.c k hlt 5 (by decide)
        have f5 : Z.frozen? ⟨X1.heap.size, k * 14 + 5, none⟩ = false := MZ.out.f k hlt 5 (by decide)
        have m6 : Z.cell? ⟨X1.heap.size, k * 14 + 6, none⟩ = _ := MZ.out.c k hlt 6 (by decide)
        have f6 : Z.frozen? ⟨X1.heap.size, k * 14 + 6, none⟩ = false := MZ.out.f k hlt 6 (by decide)
        have m7 : Z.cell? ⟨X1.heap.size, k * 14 + 7, none⟩ = _ := MZ.out.c k hlt 7 (by decide)
        have f7 : Z.frozen? ⟨X1.heap.size, k * 14 + 7, none⟩ = false := MZ.out.f k hlt 7 (by decide)
        have m8 : Z.cell? ⟨X1.heap.size, k * 14 + 8, none⟩ = _ := MZ.out.c k hlt 8 (by decide)
        have f8 : Z.frozen? ⟨X1.heap.size, k * 14 + 8, none⟩ = false := MZ.out.f k hlt 8 (by decide)
        have m9 : Z.cell? ⟨X1.heap.size, k * 14 + 9, none⟩ = _ := MZ.out.c k hlt 9 (by decide)
        have f9 : Z.frozen? ⟨X1.heap.size, k * 14 + 9, none⟩ = false := MZ.out.f k hlt 9 (by decide)
        have m10 : Z.cell? ⟨X1.heap.size, k * 14 + 10, none⟩ = _ := MZ.out.c k hlt 10 (by decide)
        have f10 : Z.frozen? ⟨X1.heap.size, k * 14 + 10, none⟩ = false := MZ.out.f k hlt 10 (by decide)
        have m11 : Z.cell? ⟨X1.heap.size, k * 14 + 11, none⟩ = _ := MZ.out.c k hlt 11 (by decide)
        have f11 : Z.frozen? ⟨X1.heap.size, k * 14 + 11, none⟩ = false := MZ.out.f k hlt 11 (by decide)
        have m12 : Z.cell? ⟨X1.heap.size, k * 14 + 12, none⟩ = _ := MZ.out.c k hlt 12 (by decide)
        have f12 : Z.frozen? ⟨X1.heap.size, k * 14 + 12, none⟩ = false := MZ.out.f k hlt 12 (by decide)
        have m13 : Z.cell? ⟨X1.heap.size, k * 14 + 13, none⟩ = _ := MZ.out.c k hlt 13 (by decide)
        have f13 : Z.frozen? ⟨X1.heap.size, k * 14 + 13, none⟩ = false := MZ.out.f k hlt 13 (by decide)
        have hM2 := Lib.hid ((((((((((((((MZ.out.set k 0 (g 0) (by omega) (by decide)).set k 1 (g 1) (by omega) (by decide)).set k 2 (g 2) (by omega) (by decide)).set k 3 (g 3) (by omega) (by decide)).set k 4 (g 4) (by omega) (by decide)).set k 5 (g 5) (by omega) (by decide)).set k 6 (g 6) (by omega) (by decide)).set k 7 (g 7) (by omega) (by decide)).set k 8 (g 8) (by omega) (by decide)).set k 9 (g 9) (by omega) (by decide)).set k 10 (g 10) (by omega) (by decide)).set k 11 (g 11) (by omega) (by decide)).set k 12 (g 12) (by omega) (by decide)).set k 13 (g 13) (by omega) (by decide))
        have hB2 := Lib.hid ((((((((((((((BZ.out.setCell (p := ⟨X1.heap.size, k * 14, none⟩) (Nat.le_refl _) (.int .i64 (g 0))).setCell (p := ⟨X1.heap.size, k * 14 + 1, none⟩) (Nat.le_refl _) (.int .i64 (g 1))).setCell (p := ⟨X1.heap.size, k * 14 + 2, none⟩) (Nat.le_refl _) (.int .i64 (g 2))).setCell (p := ⟨X1.heap.size, k * 14 + 3, none⟩) (Nat.le_refl _) (.int .i64 (g 3))).setCell (p := ⟨X1.heap.size, k * 14 + 4, none⟩) (Nat.le_refl _) (.int .i64 (g 4))).setCell (p := ⟨X1.heap.size, k * 14 + 5, none⟩) (Nat.le_refl _) (.int .i64 (g 5))).setCell (p := ⟨X1.heap.size, k * 14 + 6, none⟩) (Nat.le_refl _) (.int .i64 (g 6))).setCell (p := ⟨X1.heap.size, k * 14 + 7, none⟩) (Nat.le_refl _) (.int .i64 (g 7))).setCell (p := ⟨X1.heap.size, k * 14 + 8, none⟩) (Nat.le_refl _) (.int .i64 (g 8))).setCell (p := ⟨X1.heap.size, k * 14 + 9, none⟩) (Nat.le_refl _) (.int .i64 (g 9))).setCell (p := ⟨X1.heap.size, k * 14 + 10, none⟩) (Nat.le_refl _) (.int .i64 (g 10))).setCell (p := ⟨X1.heap.size, k * 14 + 11, none⟩) (Nat.le_refl _) (.int .i64 (g 11))).setCell (p := ⟨X1.heap.size, k * 14 + 12, none⟩) (Nat.le_refl _) (.int .i64 (g 12))).setCell (p := ⟨X1.heap.size, k * 14 + 13, none⟩) (Nat.le_refl _) (.int .i64 (g 13)))
        clear hbZ hbY hYr hbWZ
        go_wp2_with fail
        go_roundw
        case rel =>
          refine ⟨k + 1, by omega, by go_num, HE0.out, hM2.out.congr (fun i hi j hj => ?_), hB2.out, by simpa using yZ⟩
          by_cases hik : i = k
          · rw [if_pos (show i < k + 1 by omega), hik, HGK.out]
            have hj2 : j = 0 ∨ j = 1 ∨ j = 2 ∨ j = 3 ∨ j = 4 ∨ j = 5 ∨ j = 6 ∨ j = 7 ∨ j = 8 ∨ j = 9 ∨ j = 10 ∨ j = 11 ∨ j = 12 ∨ j = 13 := by omega
            rcases hj2 with rfl | rfl | rfl | rfl | rfl | rfl | rfl | rfl | rfl | rfl | rfl | rfl | rfl | rfl <;> simp [upd2]
          · simp only [upd2, hik, false_and, if_false]
            by_cases h2 : i < k
            · rw [if_pos h2, if_pos (show i < k + 1 by omega)]
            · rw [if_neg h2, if_neg (show ¬ i < k + 1 by omega)]
        case measure => simp [intOf]; omega
      · have HEN : Hid (errTo c rs n = samC zs rl c) := Lib.hid (by
          have h := errTo_stay (c := c) (rs := rs) (k := k + 1) (by rw [HEK.out]; exact hs) (n - (k + 1))
          rw [show k + 1 + (n - (k + 1)) = n by omega, HEK.out] at h
          exact h)
        obtain ⟨E, hE⟩ : ∃ E, E = samC zs rl c := ⟨_, rfl⟩
        rw [← hE] at HCS HEN hs
        have hne : (E != 0) = true := bne_iff_ne.2 hs
        have hne2 : (E == 0) = false := beq_eq_false_iff_ne.2 hs
        have HES := Lib.hid hs
        clear hE HEK hs
        go_wp2_with fail
        refine HCS.out.mono ?_; rintro e' Y ⟨rfl, hbY⟩
        have bY := Lib.hid (HBW.out.trans (hbY.mono HBW.out.size))
        clear c0 c1 c2 c3 c4 c5 c6 c7 c8 hbY
        go_wp2
        exact bodyPost_ret (v := .tuple #[.slice none 0 0, .int .i64 E]) (by simp [results, Try.results30, go_sem]) rfl ⟨_, by rw [HEN.out], .inl ⟨by rw [HEN.out]; exact HES.out, rfl⟩, bY.out⟩
    · obtain rfl : n = k := by omega
      have HM := Lib.hid hM
      have HE := Lib.hid he
      have HBW := Lib.hid (show Below w.heap.size w wr from P1.out.b.trans (hB.mono P1.out.b.size))
      clear hM he hB
      go_wp2
      refine bodyPost_ret (v := .tuple #[.slice (some ⟨X1.heap.size, 0, none⟩) n n, .int .i64 0]) (by simp [results, Try.results30, go_sem]) rfl ⟨_, by rw [HE.out], .inr ⟨HE.out, _, _, rfl, ?_⟩, HBW.out⟩
      by_cases h0 : n = 0
      · exact .inl h0
      · refine .inr ⟨X1.heap.size, 0, rfl, hyr, fun i hi j hj => ?_⟩
        have h := HM.out.c i hi j hj
        rw [if_pos hi] at h
        rw [Nat.zero_add]
        exact h

end Go.Proofs.Ytmojnopgpgnfeaa
