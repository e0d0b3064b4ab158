/-
  Small pieces: lists, rows, boxes of a train and of an echo.
-/
import Derived.Maps.AppendAt
import Derived.Test.Ytmojnopgpgnfeaamg17
import Derived.Test.Ytmojnopgpgnfeaamg16
import Derived.Test.Ytmojnopgpgnfeaamh2
import Derived.Test.Ytmojnopgpgnfeaamh1
import Derived.Test.Ytmojnopgpgnfeaamh3
namespace Go.Proofs.Ytmojnopgpgnfeaa
open Go.RowKit
set_option linter.unusedVariables false
set_option linter.unusedSimpArgs false

def allTo (f : Nat → Int) : Nat → List Int
  | 0 => []
  | k + 1 => allTo f k ++ [f k]
theorem allTo_len (f : Nat → Int) : ∀ k, (allTo f k).length = k
  | 0 => rfl
  | k + 1 => by rw [allTo, List.length_append, allTo_len f k]; rfl
theorem allTo_mem {f : Nat → Int} {x : Int} : ∀ {k : Nat}, x ∈ allTo f k ↔ ∃ j, j < k ∧ f j = x
  | 0 => by simp [allTo]
  | k + 1 => by
    rw [allTo, List.mem_append, allTo_mem (k := k), List.mem_singleton]
    constructor
    · rintro (⟨j, hj, e⟩ | e)
      · exact ⟨j, by omega, e⟩
      · exact ⟨k, by omega, e.symm⟩
    · rintro ⟨j, hj, e⟩
      by_cases c : j = k
      · subst c; exact .inr e.symm
      · exact .inl ⟨j, by omega, e⟩
theorem allTo_at (f : Nat → Int) : ∀ {k j : Nat}, j < k → (allTo f k)[j]?.getD 0 = f j
  | k + 1, j, h => by
    rw [allTo]
    by_cases c : j = k
    · subst c
      rw [List.getElem?_append_right (by rw [allTo_len]; omega), allTo_len]; simp
    · rw [List.getElem?_append_left (by rw [allTo_len]; omega)]
      exact allTo_at f (by omega)
theorem info84 : (Try.prog.info? 84).map (fun i => (i.zero, i.size, i.bytes)) = some (some (.agg #[.int .i64 0, .int .i64 0, .int .i64 0, .int .i64 0]), 4, 32) := by kernel_rfl
theorem info_parts4 {t : TypeId} {z : Value} {s b : Nat} (h : (Try.prog.info? t).map (fun i => (i.zero, i.size, i.bytes)) = some (some z, s, b)) : ∃ i, Try.prog.info? t = some i ∧ i.zero = some z ∧ i.size = s ∧ i.bytes = b := by
  cases hi : Try.prog.info? t with
  | none => rw [hi] at h; cases h
  | some i =>
    rw [hi] at h
    simp only [Option.map_some, Option.some.injEq, Prod.mk.injEq] at h
    exact ⟨i, rfl, h.1, h.2.1, h.2.2⟩
/-- the cells of samples, one after the other -/
def flatS (ys : Nat → Smp) : Nat → List Value
  | 0 => []
  | k + 1 => flatS ys k ++ [.int .i64 (ys k).h, .int .i64 (ys k).p, .int .i64 (ys k).v, .int .i64 (ys k).q]
theorem flatS_len (ys : Nat → Smp) : ∀ k, (flatS ys k).length = k * 4
  | 0 => rfl
  | k + 1 => by rw [flatS, List.length_append, flatS_len ys k]; simp; omega
theorem flatS_at (ys : Nat → Smp) {j : Nat} (hj : j < 4) : ∀ {k i : Nat}, i < k → (flatS ys k)[i * 4 + j]? = ([.int .i64 (ys i).h, .int .i64 (ys i).p, .int .i64 (ys i).v, .int .i64 (ys i).q] : List Value)[j]?
  | k + 1, i, h => by
    rw [flatS]
    by_cases c : i = k
    · subst c
      rw [List.getElem?_append_right (by rw [flatS_len]; omega), flatS_len, Nat.add_sub_cancel_left]
    · rw [List.getElem?_append_left (by rw [flatS_len]; omega)]
      exact flatS_at ys hj (by omega)
theorem row_smps {W : World} {n0 k : Nat} {v : Value} {ys : Nat → Smp} (h : W.ownsRow n0 84 4 v k (flatS ys k)) (hk : 1 ≤ k) : ∃ g cap, v = .slice (some ⟨g, 0, none⟩) k cap ∧ n0 ≤ g ∧ g < W.heap.size ∧ SmpsAt W g 0 k ys := by
  rcases h.2 with ⟨rfl, hm⟩ | ⟨g, cap, cur, rfl, hng, hgb, _, _, _, _⟩
  · omega
  · have key : ∀ i j u, i < k → j < 4 → ([.int .i64 (ys i).h, .int .i64 (ys i).p, .int .i64 (ys i).v, .int .i64 (ys i).q] : List Value)[j]? = some u → W.cell? ⟨g, 0 + (i * 4 + j), none⟩ = some u := fun i j u hi hj hu => by
      have := h.cells (g := g) rfl (i * 4 + j) u (by rw [flatS_at ys hj hi]; exact hu)
      rw [add_at rfl] at this
      exact this
    exact ⟨g, cap, rfl, hng, (Array.getElem?_eq_some_iff.1 hgb).1, fun i hi => key i 0 _ hi (by decide) rfl, fun i hi => key i 1 _ hi (by decide) rfl, fun i hi => key i 2 _ hi (by decide) rfl, fun i hi => key i 3 _ hi (by decide) rfl⟩
theorem row_below {W W' : World} {n0 k s : Nat} {e : TypeId} {v : Value} {xs : List Value} (h : W.ownsRow n0 e s v k xs) (hb : Below W.heap.size W W') : W'.ownsRow n0 e s v k xs := h.kept (grown_below hb) (by
  cases hv : v.ownBlock with
  | none => exact .inl rfl
  | some q => exact .inr (by simp))
theorem cell_four_new (W : World) (a b c d : Value) (T : TypeId) : ∀ j u, ([a, b, c, d] : List Value)[j]? = some u → (W.alloc (.cells #[a, b, c, d] T)).cell? ((⟨W.heap.size, 0, none⟩ : Addr).add j) = some u := fun j u h => by
  rw [add_at rfl]
  have hj : j < 4 := by
    have := (List.getElem?_eq_some_iff.1 h).1
    simpa using this
  have hj' : j = 0 ∨ j = 1 ∨ j = 2 ∨ j = 3 := by omega
  rcases hj' with rfl | rfl | rfl | rfl <;> exact alloc_new rfl h
/-- a slip: four small numbers -/
structure Slp where
  a : Int
  b : Int
  c : Int
  d : Int
def SlpOk (s : Slp) : Prop := (0 ≤ s.a ∧ s.a < 65536) ∧ (0 ≤ s.b ∧ s.b < 65536) ∧ (0 ≤ s.c ∧ s.c < 65536) ∧ (0 ≤ s.d ∧ s.d < 65536)
structure SlpsAt (w : World) (b off n : Nat) (zs : Nat → Slp) : Prop where
  c0 : ∀ i, i < n → w.cell? ⟨b, off + i * 4, none⟩ = some (.int .u16 (zs i).a)
  c1 : ∀ i, i < n → w.cell? ⟨b, off + i * 4 + 1, none⟩ = some (.int .u16 (zs i).b)
  c2 : ∀ i, i < n → w.cell? ⟨b, off + i * 4 + 2, none⟩ = some (.int .u16 (zs i).c)
  c3 : ∀ i, i < n → w.cell? ⟨b, off + i * 4 + 3, none⟩ = some (.int .u16 (zs i).d)
  ok : ∀ i, i < n → SlpOk (zs i)
theorem SlpsAt.keep {B b off n : Nat} {W w1 : World} {zs : Nat → Slp} (s : SlpsAt W b off n zs) (hb : Below B W w1) (h : b < B) : SlpsAt w1 b off n zs :=
  ⟨fun i hi => keepB hb h (s.c0 i hi), fun i hi => keepB hb h (s.c1 i hi), fun i hi => keepB hb h (s.c2 i hi), fun i hi => keepB hb h (s.c3 i hi), s.ok⟩
def SlpsIs (w : World) (a : Option Addr) (n : Nat) (zs : Nat → Slp) : Prop := n = 0 ∨ ∃ b off, a = some ⟨b, off, none⟩ ∧ b < w.heap.size ∧ SlpsAt w b off n zs
structure EchB (W : World) (q : Nat) (g : Nat → Int) : Prop where
  e0 : W.cell? ⟨q, 0, none⟩ = some (.int .i64 (g 0))
  e1 : W.cell? ⟨q, 1, none⟩ = some (.int .i64 (g 1))
  e2 : W.cell? ⟨q, 2, none⟩ = some (.int .i64 (g 2))
  e3 : W.cell? ⟨q, 3, none⟩ = some (.int .i64 (g 3))
  e4 : W.cell? ⟨q, 4, none⟩ = some (.int .i64 (g 4))
  e5 : W.cell? ⟨q, 5, none⟩ = some (.int .i64 (g 5))
  e6 : W.cell? ⟨q, 6, none⟩ = some (.int .i64 (g 6))
  e7 : W.cell? ⟨q, 7, none⟩ = some (.int .i64 (g 7))
  e8 : W.cell? ⟨q, 8, none⟩ = some (.int .i64 (g 8))
  e9 : W.cell? ⟨q, 9, none⟩ = some (.int .i64 (g 9))
  e10 : W.cell? ⟨q, 10, none⟩ = some (.int .i64 (g 10))
  e11 : W.cell? ⟨q, 11, none⟩ = some (.int .i64 (g 11))
  e12 : W.cell? ⟨q, 12, none⟩ = some (.int .i64 (g 12))
  e13 : W.cell? ⟨q, 13, none⟩ = some (.int .i64 (g 13))
theorem EchB.new (W : World) (g : Nat → Int) : EchB (W.alloc (.cells #[.int .i64 (g 0), .int .i64 (g 1), .int .i64 (g 2), .int .i64 (g 3), .int .i64 (g 4), .int .i64 (g 5), .int .i64 (g 6), .int .i64 (g 7), .int .i64 (g 8), .int .i64 (g 9), .int .i64 (g 10), .int .i64 (g 11), .int .i64 (g 12), .int .i64 (g 13)] 30)) W.heap.size g := ⟨alloc_new rfl rfl, alloc_new rfl rfl, alloc_new rfl rfl, alloc_new rfl rfl, alloc_new rfl rfl, alloc_new rfl rfl, alloc_new rfl rfl, alloc_new rfl rfl, alloc_new rfl rfl, alloc_new rfl rfl, alloc_new rfl rfl, alloc_new rfl rfl, alloc_new rfl rfl, alloc_new rfl rfl⟩
theorem EchB.keep {W w1 : World} {q : Nat} {g : Nat → Int} (s : EchB W q g) (hb : Below W.heap.size W w1) : EchB w1 q g := ⟨keepW hb s.e0, keepW hb s.e1, keepW hb s.e2, keepW hb s.e3, keepW hb s.e4, keepW hb s.e5, keepW hb s.e6, keepW hb s.e7, keepW hb s.e8, keepW hb s.e9, keepW hb s.e10, keepW hb s.e11, keepW hb s.e12, keepW hb s.e13⟩
structure TrB (w W : World) (l kd f s c lv ph n0 n1 : Int) : Prop where
  c0 : W.cell? ⟨w.heap.size, 0, none⟩ = some (.int .i64 l)
  c1 : W.cell? ⟨w.heap.size, 1, none⟩ = some (.int .i64 kd)
  c2 : W.cell? ⟨w.heap.size, 2, none⟩ = some (.int .i64 f)
  c3 : W.cell? ⟨w.heap.size, 3, none⟩ = some (.int .i64 s)
  c4 : W.cell? ⟨w.heap.size, 4, none⟩ = some (.int .i64 c)
  c5 : W.cell? ⟨w.heap.size + 1, 0, none⟩ = some (.int .i64 lv)
  c6 : W.cell? ⟨w.heap.size + 1, 1, none⟩ = some (.int .i64 ph)
  c7 : W.cell? ⟨w.heap.size + 1, 2, none⟩ = some (.int .i64 n0)
  c8 : W.cell? ⟨w.heap.size + 1, 3, none⟩ = some (.int .i64 n1)
  z : w.heap.size + 2 ≤ W.heap.size
  b : Below w.heap.size w W
theorem TrB.keep {w W w1 : World} {l kd f s c lv ph n0 n1 : Int} (x : TrB w W l kd f s c lv ph n0 n1) (hb : Below W.heap.size W w1) : TrB w w1 l kd f s c lv ph n0 n1 :=
  ⟨keepW hb x.c0, keepW hb x.c1, keepW hb x.c2, keepW hb x.c3, keepW hb x.c4, keepW hb x.c5, keepW hb x.c6, keepW hb x.c7, keepW hb x.c8, Nat.le_trans x.z hb.size, x.b.trans (hb.mono x.b.size)⟩
theorem TrB.new (w : World) (l kd f s c lv ph n0 n1 : Int) : TrB w ((w.alloc (.cells #[.int .i64 l, .int .i64 kd, .int .i64 f, .int .i64 s, .int .i64 c] 23)).alloc (.cells #[.int .i64 lv, .int .i64 ph, .int .i64 n0, .int .i64 n1] 27)) l kd f s c lv ph n0 n1 := by
  obtain ⟨A1, e1⟩ : ∃ A, A = w.alloc (.cells #[.int .i64 l, .int .i64 kd, .int .i64 f, .int .i64 s, .int .i64 c] 23) := ⟨_, rfl⟩
  obtain ⟨A2, e2⟩ : ∃ A, A = A1.alloc (.cells #[.int .i64 lv, .int .i64 ph, .int .i64 n0, .int .i64 n1] 27) := ⟨_, rfl⟩
  have s1 : A1.heap.size = w.heap.size + 1 := by rw [e1]; exact World.size_alloc _ _
  have s2 : A2.heap.size = w.heap.size + 2 := by rw [e2, World.size_alloc, s1]
  rw [← e1, ← e2]
  have b1 : Below w.heap.size w A1 := by rw [e1]; exact below_alloc _ _
  have b2 : Below A1.heap.size A1 A2 := by rw [e2]; exact below_alloc _ _
  exact ⟨keepB b2 (by omega) (by rw [e1]; exact alloc_new rfl rfl), keepB b2 (by omega) (by rw [e1]; exact alloc_new rfl rfl), keepB b2 (by omega) (by rw [e1]; exact alloc_new rfl rfl), keepB b2 (by omega) (by rw [e1]; exact alloc_new rfl rfl), keepB b2 (by omega) (by rw [e1]; exact alloc_new rfl rfl), by rw [e2, ← s1]; exact alloc_new rfl rfl, by rw [e2, ← s1]; exact alloc_new rfl rfl, by rw [e2, ← s1]; exact alloc_new rfl rfl, by rw [e2, ← s1]; exact alloc_new rfl rfl, by omega, b1.trans (b2.mono (by omega))⟩
theorem hearE_eq {wH wV sH sV A1 B1 C1 A2 B2 C2 kd ph c : Int} {x0 x1 x2 : List Int} (h : 0 ≤ wH ∧ wH ≤ sH) : hearE wH wV sH sV A1 B1 C1 A2 B2 C2 kd ph c x0 x1 x2 = if wH = 0 then qE sH else phG (baseE wH sH (ratLo wV sH) (ratHi sV wH) (matLo C1 A2 B2) (matHi C2 A1 B1)) kd ph c x0 x1 x2 := by
  unfold hearE
  by_cases h1 : sH = 0 ∧ sV = 0
  · rw [if_pos h1, if_pos (by omega), h1.1]
  · rw [if_neg h1]
theorem lev_ok {zs : Nat → Smp} {n : Nat} (h : allS zs n = true) : LevOk n zs := fun i hi => by
  have h1 := smpB_true (allS_at h hi)
  omega
theorem valsB_append (xs ys : List (Bool × Int)) (t : Bool) : valsB (xs ++ ys) t = valsB xs t ++ valsB ys t := by simp [valsB]
theorem stp_has {zs : Nat → Smp} {kd c : Int} {t : Bool} {j : Nat} (h1 : ¬ (kd = 2 ∧ (j : Int) = c / 2 - 1)) (h2 : tbB kd c j = t) : ∀ m, j < m → valsB (stpTo zs kd c m) t ≠ []
  | 0, h => absurd h (Nat.not_lt_zero _)
  | m + 1, h => by
    rw [stpTo, valsB_append]
    by_cases hj : j = m
    · subst hj
      unfold stp
      rw [if_neg h1, h2]
      intro e
      have := (List.append_eq_nil_iff.1 e).2
      unfold valsB at this
      cases t <;> simp at this
    · intro e
      exact stp_has h1 h2 m (by omega) (List.append_eq_nil_iff.1 e).1
theorem stp_false {zs : Nat → Smp} {l kd f s c : Int} {m : Nat} (hc : trainC l kd f s c = 0) (hm : (m : Int) = c - 1) : valsB (stpTo zs kd c m) false ≠ [] := by
  obtain ⟨h1, h2⟩ := train_ok hc
  refine stp_has (j := 0) (by omega) ?_ m (by omega)
  unfold tbB
  split
  · exact decide_eq_false (by omega)
  · split
    · exact decide_eq_false (by omega)
    · rfl
theorem info113 : (Try.prog.info? 113).map (fun i => (i.zero, i.size, i.bytes)) = some (some (.agg #[.int .i64 0, .int .i64 0, .int .i64 0, .int .i64 0]), 4, 32) := by kernel_rfl
theorem row_smps3 {W : World} {n0 k : Nat} {v : Value} {ys : Nat → Smp} (h : W.ownsRow n0 113 4 v k (flatS ys k)) (hk : 1 ≤ k) : ∃ g cap, v = .slice (some ⟨g, 0, none⟩) k cap ∧ n0 ≤ g ∧ g < W.heap.size ∧ SmpsAt W g 0 k ys := by
  rcases h.2 with ⟨rfl, hm⟩ | ⟨g, cap, cur, rfl, hng, hgb, _, _, _, _⟩
  · omega
  · have key : ∀ i j u, i < k → j < 4 → ([.int .i64 (ys i).h, .int .i64 (ys i).p, .int .i64 (ys i).v, .int .i64 (ys i).q] : List Value)[j]? = some u → W.cell? ⟨g, 0 + (i * 4 + j), none⟩ = some u := fun i j u hi hj hu => by
      have := h.cells (g := g) rfl (i * 4 + j) u (by rw [flatS_at ys hj hi]; exact hu)
      rw [add_at rfl] at this
      exact this
    exact ⟨g, cap, rfl, hng, (Array.getElem?_eq_some_iff.1 hgb).1, fun i hi => key i 0 _ hi (by decide) rfl, fun i hi => key i 1 _ hi (by decide) rfl, fun i hi => key i 2 _ hi (by decide) rfl, fun i hi => key i 3 _ hi (by decide) rfl⟩
structure SmJ (V W : World) (v : Value) (k : Nat) (ys : Nat → Smp) : Prop where
  r : W.ownsRow V.heap.size 113 4 v k (flatS ys k)
  b : Below V.heap.size V W
theorem SmJ.new (V : World) (ys : Nat → Smp) : SmJ V V (.slice none 0 0) 0 ys := ⟨World.ownsRow_nil _ _ _ _, Below.refl _ _⟩
theorem SmJ.grown {V W w1 : World} {v v' : Value} {k : Nat} {ys : Nat → Smp} {tmp : Obj} (h : SmJ V W v k ys) (hg : (W.alloc tmp).grownBy w1 v.ownBlock) (ho : w1.ownsRow V.heap.size 113 4 v' (k + 1) (flatS ys k ++ [.int .i64 (ys k).h, .int .i64 (ys k).p, .int .i64 (ys k).v, .int .i64 (ys k).q])) : SmJ V w1 v' (k + 1) ys := by
  have hb : Below V.heap.size W w1 := ((Below.refl _ W).alloc h.b.size tmp).grown hg (by have := h.b.size; simp; omega) fun j ej => (h.r.lt j ej).1
  exact ⟨ho, h.b.trans hb⟩

/-- the samples that are handed to the reference -/
def SmRet (w : World) (n : Nat) (zs : Nat → Smp) (e : Ending) (w' : World) : Prop := ∃ v, e = .returned v ∧ ((n = 0 ∧ v = .slice none 0 0) ∨ (1 ≤ n ∧ ∃ g c, v = .slice (some ⟨g, 0, none⟩) n c ∧ w.heap.size ≤ g ∧ g < w'.heap.size ∧ SmpsAt w' g 0 n zs)) ∧ Below w.heap.size w w'
set_option maxRecDepth 100000 in
set_option maxHeartbeats 4000000 in
theorem samples_any (a : Option Addr) (n cap : Nat) (zs : Nat → Smp) (w : World) (hn : n ≤ 1000) (hS : SmpsIs w a n zs) :
    Calls Try.prog 29 #[.slice a n cap] w (SmRet w n zs) := by
  have HS := Lib.hid hS
  clear hS
  obtain ⟨i0, hi, hz0, hz1, hz2⟩ := info_parts4 info113
  have hmaxl : maxLen = 9223372036854775807 := rfl
  go_enter Try.func29, Try.ntmps29
  go_wp2
  go_loopw [3, 4] (fun v3 v4 wr => ∃ k : Nat, k ≤ n ∧ v4 = .int .i64 k ∧ SmJ w wr v3 k zs ∧ (k = 0 → v3 = .slice none 0 0)) (fun _ v4 _ => n - (intOf v4).toNat)
  case atStart => exact ⟨0, Nat.zero_le _, rfl, SmJ.new w zs, fun _ => rfl⟩
  case round =>
    obtain ⟨k, hk, rfl, hI, hnil⟩ := hrel
    have HN := Lib.hid hnil
    clear hnil
    by_cases hlt : k < n
    · rcases HS.out with h | ⟨b, off, rfl, hb, hs⟩
      · omega
      have hbw := hI.b
      have HI := Lib.hid hI
      have hbr : b < wr.heap.size := Nat.lt_of_lt_of_le hb hbw.size
      have z0 := keepB hbw hb (hs.c0 k hlt)
      have z1 := keepB hbw hb (hs.c1 k hlt)
      have z2 := keepB hbw hb (hs.c2 k hlt)
      have z3 := keepB hbw hb (hs.c3 k hlt)
      clear hI hbw hs
      go_wp2_with (at_builtin; refine wpList_append_own _ rfl _ _ 58 rfl w.heap.size 113 i0 (.agg #[.int .i64 0, .int .i64 0, .int .i64 0, .int .i64 0]) 4 32 Try.underlying58 hi hz0 hz1 hz2 rfl (by decide) _ _ _ rfl (HI.out.r.alloc _) ⟨wr.heap.size, 0, none⟩ 1 1 [.int .i64 (zs k).h, .int .i64 (zs k).p, .int .i64 (zs k).v, .int .i64 (zs k).q] rfl rfl (cell_four_new _ _ _ _ _ _) (by simp [Value.oneCell']) (by omega) (by omega) (by have := HI.out.b.size; simp; omega) ?_; intro v' w1 hown' hgrow _; have HE := Lib.hid (HI.out.grown hgrow hown'))
      go_roundw
      case rel => exact ⟨k + 1, by omega, by go_num, HE.out, fun h => by omega⟩
      case measure => simp [intOf]; omega
    · obtain rfl : n = k := by omega
      have hbw := Lib.hid hI.b
      by_cases h0 : n = 0
      · subst h0
        have hv := HN.out rfl
        subst hv
        clear hI hlt hk
        go_wp2
        go_ret
        exact ⟨_, rfl, .inl ⟨rfl, rfl⟩, hbw.out⟩
      · obtain ⟨g, c, rfl, hg0, hg, hs⟩ := row_smps3 hI.r (by omega)
        have H := Lib.hid (And.intro hg0 (And.intro hg hs))
        have hn1 : 1 ≤ n := by omega
        clear hI hlt hk hs hg hg0 h0
        go_wp2
        go_ret
        exact ⟨_, rfl, .inr ⟨hn1, g, c, rfl, H.out.1, H.out.2.1, H.out.2.2⟩, hbw.out⟩


end Go.Proofs.Ytmojnopgpgnfeaa

namespace Go.Proofs.Ytmojnopgpgnfeaa
open Go.RowKit
set_option linter.unusedVariables false
set_option linter.unusedSimpArgs false

/-- append, as an operation of a region that draws its order -/
theorem oper_append {P : Program} {o : Oper} {a : Act} {w : World} {K : Act → World → Prop} {Q : Exit → Act → World → Prop} (s x : Operand) (t : TypeId)
    (ho : o.op = .call { callee := .builtin .append, args := #[s, x], argTypes := #[t, t] })
    (base : Nat) (e : TypeId) (i : TypeInfo) (z : Value) (size bytes : Nat) (ht : P.underlying t = some (.slice e)) (hi : P.info? e = some i) (hz : i.zero = some z)
    (hsize : i.size = size) (hby : i.bytes = bytes) (hzs : z.cells.size = size) (hsz : 0 < size)
    (v : Value) (n : Nat) (xs : List Value) (hs : a.eval s = v) (hown : w.ownsRow base e size v n xs)
    (ad : Addr) (m c : Nat) (news : List Value) (hx : a.eval x = .slice (some ad) m c) (hl : news.length = m * size) (hnews : ∀ j u, news[j]? = some u → w.cell? (ad.add j) = some u) (h1 : ∀ u ∈ news, u.oneCell' = true)
    (h63 : n + m ≤ maxLen) (hbytes : (n + m) * bytes ≤ 140737488355328) (hbase : base ≤ w.heap.size)
    (h : ∀ v' w', w'.ownsRow base e size v' (n + m) (xs ++ news) → w.grownBy w' v.ownBlock → (v'.ownBlock = v.ownBlock ∨ v'.ownBlock = some w.heap.size) → K (a.put o.dst v') w') :
    Oper.wp P o a w K Q := by
  obtain ⟨v', w', hr, h2, h3, _, h5⟩ := run_append_own_at (P := P) w base t o.type e i z size bytes ht hi hz hsize hby hzs hsz v n xs hown ad m c news hl hnews h1 h63 hbytes hbase
  have key := h v' w' h2 h3 h5
  simp only [Oper.wp, execOp, ho, resolve, invoke, builtin, Sem.run_bind, Sem.run_pure, Result.andThen_ok, List.map_toArray, List.map_cons, List.map_nil, hs, hx, hr]
  exact key
theorem one_news {W : World} {q : Nat} {x : Value} (h : W.cell? ⟨q, 0, none⟩ = some x) : ∀ j u, ([x] : List Value)[j]? = some u → W.cell? ((⟨q, 0, none⟩ : Addr).add j) = some u := fun j u hj => by
  obtain rfl : j = 0 := by
    have := (List.getElem?_eq_some_iff.1 hj).1
    simp at this
    exact this
  simp at hj
  subst hj
  simpa [Addr.add] using h
theorem own_new {v v' : Value} {q m : Nat} (hn : some q ≠ v.ownBlock) (hz : q < m) (hat : v'.ownBlock = v.ownBlock ∨ v'.ownBlock = some m) : some q ≠ v'.ownBlock := by
  rcases hat with e | e
  · rw [e]; exact hn
  · rw [e]; intro e2; injection e2; omega
theorem pair_grow {W w1 : World} {n0 k m j : Nat} {v u v' : Value} {xs us ys : List Value} (hrow : W.ownsRow n0 3 1 v k xs) (hoth : W.ownsRow n0 3 1 u j us) (hd : Apart u v) (hn : n0 ≤ W.heap.size) (hgrow : W.grownBy w1 v.ownBlock) (hown : w1.ownsRow n0 3 1 v' m ys) (hat : v'.ownBlock = v.ownBlock ∨ v'.ownBlock = some W.heap.size) :
    w1.ownsRow n0 3 1 u j us ∧ Apart u v' ∧ Below n0 W w1 := by
  refine ⟨hoth.kept hgrow ?_, ?_, (Below.refl n0 W).grown hgrow hn fun j ej => (hrow.lt j ej).1⟩
  · cases hu : u.ownBlock with
    | none => exact .inl rfl
    | some q => exact .inr fun e => hd q hu e.symm
  · intro q hq e
    rcases hat with h | h
    · exact hd q hq (h ▸ e)
    · rw [h] at e
      have h1 : W.heap.size = q := by injection e
      have h2 := (hoth.lt q hq).2
      omega
/-- three slices of numbers behind a world -/
structure Rw (V W : World) (v0 v1 v2 : Value) (x0 x1 x2 : List Int) : Prop where
  r0 : W.ownsRow V.heap.size 3 1 v0 x0.length (x0.map (Value.int .i64))
  r1 : W.ownsRow V.heap.size 3 1 v1 x1.length (x1.map (Value.int .i64))
  r2 : W.ownsRow V.heap.size 3 1 v2 x2.length (x2.map (Value.int .i64))
  d0 : Apart v1 v0
  d1 : Apart v2 v0
  d2 : Apart v2 v1
  b : Below V.heap.size V W
theorem Rw.new (V : World) : Rw V V (.slice none 0 0) (.slice none 0 0) (.slice none 0 0) [] [] [] :=
  ⟨World.ownsRow_nil _ _ _ _, World.ownsRow_nil _ _ _ _, World.ownsRow_nil _ _ _ _, fun k h => by simp [Value.ownBlock] at h, fun k h => by simp [Value.ownBlock] at h, fun k h => by simp [Value.ownBlock] at h, Below.refl _ _⟩
theorem Rw.keep {V W : World} {v0 v1 v2 : Value} {x0 x1 x2 : List Int} {W' : World} (h : Rw V W v0 v1 v2 x0 x1 x2) (hb : Below W.heap.size W W') : Rw V W' v0 v1 v2 x0 x1 x2 :=
  ⟨row_below h.r0 hb, row_below h.r1 hb, row_below h.r2 hb, h.d0, h.d1, h.d2, h.b.trans (hb.mono h.b.size)⟩
theorem Rw.g0 {V W : World} {v0 v1 v2 : Value} {x0 x1 x2 : List Int} {w1 : World} {v' : Value} {st : Int} (h : Rw V W v0 v1 v2 x0 x1 x2) (hgrow : W.grownBy w1 v0.ownBlock) (hown : w1.ownsRow V.heap.size 3 1 v' (x0.length + 1) (x0.map (Value.int .i64) ++ [.int .i64 st])) (hat : v'.ownBlock = v0.ownBlock ∨ v'.ownBlock = some W.heap.size) :
    Rw V w1 v' v1 v2 (x0 ++ [st]) x1 x2 := by
  obtain ⟨a1, a2, a4⟩ := pair_grow h.r0 h.r1 (h.d0) h.b.size hgrow hown hat
  obtain ⟨b1, b2, _⟩ := pair_grow h.r0 h.r2 (h.d1) h.b.size hgrow hown hat
  exact ⟨by simpa using hown, a1, b1, a2, b2, h.d2, h.b.trans a4⟩
theorem Rw.g1 {V W : World} {v0 v1 v2 : Value} {x0 x1 x2 : List Int} {w1 : World} {v' : Value} {st : Int} (h : Rw V W v0 v1 v2 x0 x1 x2) (hgrow : W.grownBy w1 v1.ownBlock) (hown : w1.ownsRow V.heap.size 3 1 v' (x1.length + 1) (x1.map (Value.int .i64) ++ [.int .i64 st])) (hat : v'.ownBlock = v1.ownBlock ∨ v'.ownBlock = some W.heap.size) :
    Rw V w1 v0 v' v2 x0 (x1 ++ [st]) x2 := by
  obtain ⟨a1, a2, a4⟩ := pair_grow h.r1 h.r0 (h.d0.symm) h.b.size hgrow hown hat
  obtain ⟨b1, b2, _⟩ := pair_grow h.r1 h.r2 (h.d2) h.b.size hgrow hown hat
  exact ⟨a1, by simpa using hown, b1, a2.symm, h.d1, b2, h.b.trans a4⟩
theorem Rw.g2 {V W : World} {v0 v1 v2 : Value} {x0 x1 x2 : List Int} {w1 : World} {v' : Value} {st : Int} (h : Rw V W v0 v1 v2 x0 x1 x2) (hgrow : W.grownBy w1 v2.ownBlock) (hown : w1.ownsRow V.heap.size 3 1 v' (x2.length + 1) (x2.map (Value.int .i64) ++ [.int .i64 st])) (hat : v'.ownBlock = v2.ownBlock ∨ v'.ownBlock = some W.heap.size) :
    Rw V w1 v0 v1 v' x0 x1 (x2 ++ [st]) := by
  obtain ⟨a1, a2, a4⟩ := pair_grow h.r2 h.r0 (h.d1.symm) h.b.size hgrow hown hat
  obtain ⟨b1, b2, _⟩ := pair_grow h.r2 h.r1 (h.d2.symm) h.b.size hgrow hown hat
  exact ⟨a1, b1, by simpa using hown, h.d0, a2.symm, b2.symm, h.b.trans a4⟩
/-- .. and the box of the sample that is taken up -/
structure Rg (V W : World) (v0 v1 v2 : Value) (x0 x1 x2 : List Int) (q : Nat) (a b c d : Int) : Prop where
  s : Rw V W v0 v1 v2 x0 x1 x2
  c0 : W.cell? ⟨q, 0, none⟩ = some (.int .i64 a)
  c1 : W.cell? ⟨q, 1, none⟩ = some (.int .i64 b)
  c2 : W.cell? ⟨q, 2, none⟩ = some (.int .i64 c)
  c3 : W.cell? ⟨q, 3, none⟩ = some (.int .i64 d)
  z : q < W.heap.size
  n0 : some q ≠ v0.ownBlock
  n1 : some q ≠ v1.ownBlock
  n2 : some q ≠ v2.ownBlock
theorem Rg.keep {V W : World} {v0 v1 v2 : Value} {x0 x1 x2 : List Int} {q : Nat} {a b c d : Int} {W' : World} (h : Rg V W v0 v1 v2 x0 x1 x2 q a b c d) (hb : Below W.heap.size W W') : Rg V W' v0 v1 v2 x0 x1 x2 q a b c d :=
  ⟨h.s.keep hb, keepW hb h.c0, keepW hb h.c1, keepW hb h.c2, keepW hb h.c3, Nat.lt_of_lt_of_le h.z hb.size, h.n0, h.n1, h.n2⟩
theorem Rw.off {V W : World} {v0 v1 v2 : Value} {x0 x1 x2 : List Int} (h : Rw V W v0 v1 v2 x0 x1 x2) : some W.heap.size ≠ v0.ownBlock ∧ some W.heap.size ≠ v1.ownBlock ∧ some W.heap.size ≠ v2.ownBlock := by
  have nn : ∀ {x : Value} {k : Nat} {f : List Value}, W.ownsRow V.heap.size 3 1 x k f → some W.heap.size ≠ x.ownBlock := fun hr e => by
    have := (hr.lt _ e.symm).2
    omega
  exact ⟨nn h.r0, nn h.r1, nn h.r2⟩
theorem Rg.new {V W : World} {v0 v1 v2 : Value} {x0 x1 x2 : List Int} (a b c d : Int) (T : TypeId) (h : Rw V W v0 v1 v2 x0 x1 x2) : Rg V (W.alloc (.cells #[.int .i64 a, .int .i64 b, .int .i64 c, .int .i64 d] T)) v0 v1 v2 x0 x1 x2 W.heap.size a b c d :=
  ⟨h.keep (below_alloc _ _), alloc_new rfl rfl, alloc_new rfl rfl, alloc_new rfl rfl, alloc_new rfl rfl, by rw [World.size_alloc]; omega, h.off.1, h.off.2.1, h.off.2.2⟩
theorem Rg.g0 {V W : World} {v0 v1 v2 : Value} {x0 x1 x2 : List Int} {q : Nat} {a b c d : Int} {w1 : World} {v' : Value} {st : Int} (h : Rg V W v0 v1 v2 x0 x1 x2 q a b c d) (hgrow : W.grownBy w1 v0.ownBlock) (hown : w1.ownsRow V.heap.size 3 1 v' (x0.length + 1) (x0.map (Value.int .i64) ++ [.int .i64 st])) (hat : v'.ownBlock = v0.ownBlock ∨ v'.ownBlock = some W.heap.size) :
    Rg V w1 v' v1 v2 (x0 ++ [st]) x1 x2 q a b c d := by
  have hz := h.z
  have hq' := own_new h.n0 hz hat
  exact ⟨h.s.g0 hgrow hown hat, hgrow.cell h.c0 h.n0, hgrow.cell h.c1 h.n0, hgrow.cell h.c2 h.n0, hgrow.cell h.c3 h.n0, Nat.lt_of_lt_of_le hz hgrow.size, hq', h.n1, h.n2⟩
theorem Rg.g1 {V W : World} {v0 v1 v2 : Value} {x0 x1 x2 : List Int} {q : Nat} {a b c d : Int} {w1 : World} {v' : Value} {st : Int} (h : Rg V W v0 v1 v2 x0 x1 x2 q a b c d) (hgrow : W.grownBy w1 v1.ownBlock) (hown : w1.ownsRow V.heap.size 3 1 v' (x1.length + 1) (x1.map (Value.int .i64) ++ [.int .i64 st])) (hat : v'.ownBlock = v1.ownBlock ∨ v'.ownBlock = some W.heap.size) :
    Rg V w1 v0 v' v2 x0 (x1 ++ [st]) x2 q a b c d := by
  have hz := h.z
  have hq' := own_new h.n1 hz hat
  exact ⟨h.s.g1 hgrow hown hat, hgrow.cell h.c0 h.n1, hgrow.cell h.c1 h.n1, hgrow.cell h.c2 h.n1, hgrow.cell h.c3 h.n1, Nat.lt_of_lt_of_le hz hgrow.size, h.n0, hq', h.n2⟩
theorem Rg.g2 {V W : World} {v0 v1 v2 : Value} {x0 x1 x2 : List Int} {q : Nat} {a b c d : Int} {w1 : World} {v' : Value} {st : Int} (h : Rg V W v0 v1 v2 x0 x1 x2 q a b c d) (hgrow : W.grownBy w1 v2.ownBlock) (hown : w1.ownsRow V.heap.size 3 1 v' (x2.length + 1) (x2.map (Value.int .i64) ++ [.int .i64 st])) (hat : v'.ownBlock = v2.ownBlock ∨ v'.ownBlock = some W.heap.size) :
    Rg V w1 v0 v1 v' x0 x1 (x2 ++ [st]) q a b c d := by
  have hz := h.z
  have hq' := own_new h.n2 hz hat
  exact ⟨h.s.g2 hgrow hown hat, hgrow.cell h.c0 h.n2, hgrow.cell h.c1 h.n2, hgrow.cell h.c2 h.n2, hgrow.cell h.c3 h.n2, Nat.lt_of_lt_of_le hz hgrow.size, h.n0, h.n1, hq'⟩
/-- a box of one number, apart from the slices -/
structure Tb (W : World) (q : Nat) (x : Int) (v0 v1 v2 : Value) : Prop where
  c : W.cell? ⟨q, 0, none⟩ = some (.int .i64 x)
  z : q < W.heap.size
  n0 : some q ≠ v0.ownBlock
  n1 : some q ≠ v1.ownBlock
  n2 : some q ≠ v2.ownBlock
theorem Tb.new {V W : World} {v0 v1 v2 : Value} {x0 x1 x2 : List Int} (x : Int) (T : TypeId) (h : Rw V W v0 v1 v2 x0 x1 x2) : Tb (W.alloc (.cells #[.int .i64 x] T)) W.heap.size x v0 v1 v2 :=
  ⟨alloc_new rfl rfl, by rw [World.size_alloc]; omega, h.off.1, h.off.2.1, h.off.2.2⟩
theorem Tb.keep {W W' : World} {q : Nat} {x : Int} {v0 v1 v2 : Value} (h : Tb W q x v0 v1 v2) (hb : Below W.heap.size W W') : Tb W' q x v0 v1 v2 :=
  ⟨keepW hb h.c, Nat.lt_of_lt_of_le h.z hb.size, h.n0, h.n1, h.n2⟩
theorem Tb.g0 {W w1 : World} {q : Nat} {x : Int} {v0 v1 v2 v' : Value} (h : Tb W q x v0 v1 v2) (hgrow : W.grownBy w1 v0.ownBlock) (hat : v'.ownBlock = v0.ownBlock ∨ v'.ownBlock = some W.heap.size) : Tb w1 q x v' v1 v2 :=
  ⟨hgrow.cell h.c h.n0, Nat.lt_of_lt_of_le h.z hgrow.size, own_new h.n0 h.z hat, h.n1, h.n2⟩
/-- behind the box of the echo that is made: that box, the box of the steps, and the steps -/
structure Ph (Y W : World) (e : Nat → Int) (q m : Nat) (v0 v1 : Value) (x0 x1 : List Int) : Prop where
  e : EchoG W Y.heap.size e
  b : Below Y.heap.size Y W
  s0 : W.cell? ⟨q, 0, none⟩ = some v0
  s1 : W.cell? ⟨q, 1, none⟩ = some v1
  i0 : RowL m W v0 x0
  i1 : RowL m W v1 x1
  z : Y.heap.size < q ∧ q < W.heap.size ∧ Y.heap.size < m
theorem Ph.keep {Y W W' : World} {e : Nat → Int} {q m : Nat} {v0 v1 : Value} {x0 x1 : List Int} (h : Ph Y W e q m v0 v1 x0 x1) (hb : Below W.heap.size W W') : Ph Y W' e q m v0 v1 x0 x1 := by
  have hz := h.z
  have hs := hb.size
  exact ⟨h.e.keep hb (by omega), h.b.trans (hb.mono (by omega)), keepW hb h.s0, keepW hb h.s1, h.i0.keep hb, h.i1.keep hb, by omega⟩
theorem Ph.set {Y W : World} {e : Nat → Int} {q m : Nat} {v0 v1 : Value} {x0 x1 : List Int} (k : Nat) (v : Int) (h : Ph Y W e q m v0 v1 x0 x1) : Ph Y (W.setCell ⟨Y.heap.size, k, none⟩ (.int .i64 v)) (upd e k v) q m v0 v1 x0 x1 := by
  have hz := h.z
  refine ⟨h.e.set, h.b.setCell (p := ⟨Y.heap.size, k, none⟩) (by dsimp only; omega) _, cell_far (by omega) h.s0, cell_far (by omega) h.s1, h.i0.set (by omega), h.i1.set (by omega), hz.1, ?_, hz.2.2⟩
  simpa using hz.2.1

end Go.Proofs.Ytmojnopgpgnfeaa

namespace Go.Proofs.Ytmojnopgpgnfeaa
open Go.RowKit
set_option linter.unusedVariables false
set_option linter.unusedSimpArgs false

theorem RowL.open {n0 : Nat} {w : World} {v : Value} {xs : List Int} (h : RowL n0 w v xs) (hne : 1 ≤ xs.length) : ∃ b off cap, v = .slice (some ⟨b, off, none⟩) xs.length cap ∧ n0 ≤ b ∧ b < w.heap.size ∧ ∀ j, j < xs.length → w.cell? ⟨b, off + j, none⟩ = some (.int .i64 (xs[j]?.getD 0)) := by
  rcases h with ⟨_, h⟩ | ⟨b, off, cap, h1, h2, h3⟩
  · rw [h] at hne; simp at hne
  · exact ⟨b, off, cap, h1, h2, (h3 0 (by omega)).2, fun j hj => (h3 j (by omega)).1 hj⟩
theorem RowL.open' {n0 : Nat} {w : World} {a : Option Addr} {k cap : Nat} {xs : List Int} (h : RowL n0 w (.slice a k cap) xs) (hne : 1 ≤ xs.length) : ∃ b off, a = some ⟨b, off, none⟩ ∧ k = xs.length ∧ n0 ≤ b ∧ b < w.heap.size ∧ ∀ j, j < xs.length → w.cell? ⟨b, off + j, none⟩ = some (.int .i64 (xs[j]?.getD 0)) := by
  obtain ⟨b, off, c, h1, h2, h3, h4⟩ := h.open hne
  injection h1 with e1 e2 e3
  exact ⟨b, off, e1, e2, h2, h3, h4⟩
def Prt (xs : List Int) : Prop := 1 ≤ xs.length ∧ xs.length ≤ 64 ∧ ∀ x, x ∈ xs → 0 ≤ x ∧ x < 65536
theorem RowL.arc {m cap k : Nat} {W : World} {a : Option Addr} {xs : List Int} (h : RowL m W (.slice a k cap) xs) (hp : Prt xs) :
    Calls Try.prog 26 #[.slice a k cap] W fun e w' => e = .returned (.tuple #[.int .i64 (arcB xs), .int .i64 (arcW xs), .int .i64 0]) ∧ Below W.heap.size W w' := by
  obtain ⟨b, off, rfl, rfl, _, hb, hc⟩ := h.open' hp.1
  exact refArc_ok b off xs.length cap xs W rfl hp.1 (by have := hp.2.1; omega) hb hc (allP_parts rfl hp.2.2)
theorem RowL.tog {m cap k : Nat} {W : World} {a : Option Addr} {xs : List Int} (h : RowL m W (.slice a k cap) xs) (hp : Prt xs) (ph : Int) (hph : 0 ≤ ph ∧ ph ≤ 4096) :
    Calls Try.prog 69 #[.slice a k cap, .int .i64 ph] W fun e w' => e = .returned (.bool (decide (arcW xs + 4 * ph < 32768))) ∧ Below W.heap.size W w' := by
  obtain ⟨b, off, rfl, rfl, _, hb, hc⟩ := h.open' hp.1
  exact together_any b off xs.length cap xs W rfl hp.1 hp.2.1 hb hc hp.2.2 ph hph
theorem RowL.mean {m cap k : Nat} {W : World} {a : Option Addr} {xs : List Int} (h : RowL m W (.slice a k cap) xs) (hp : Prt xs) (sl : Int) (hs : 0 ≤ sl ∧ sl ≤ 1000000) :
    Calls Try.prog 70 #[.slice a k cap, .int .i64 sl] W fun e w' => e = .returned (.agg #[.int .i64 (meanLo (arcB xs) xs sl), .int .i64 (meanHi (arcB xs) xs sl)]) ∧ Below W.heap.size W w' := by
  obtain ⟨b, off, rfl, rfl, _, hb, hc⟩ := h.open' hp.1
  exact refmean_any b off xs.length cap xs W rfl hp.1 hp.2.1 hb hc hp.2.2 sl hs
theorem upd_comm {e : Nat → Int} {i j : Nat} {u v : Int} (h : i ≠ j) : upd (upd e i u) j v = upd (upd e j v) i u := by
  funext k
  unfold upd
  split <;> split <;> first | rfl | omega
theorem upd_upd {e : Nat → Int} {i : Nat} {u v : Int} : upd (upd e i u) i v = upd e i v := by
  funext k
  unfold upd
  split <;> rfl
theorem upd_at {e : Nat → Int} {i : Nat} {u : Int} : upd e i u i = u := by unfold upd; rw [if_pos rfl]
theorem upd_no {e : Nat → Int} {i j : Nat} {u : Int} (h : j ≠ i) : upd e i u j = e j := by unfold upd; rw [if_neg h]
theorem arcW_none : arcW [] = 0 := by decide
theorem len_none {xs : List Int} (h : ¬ 1 ≤ xs.length) : xs = [] := by
  cases xs with
  | nil => rfl
  | cons a l => simp at h
theorem phG_no {e : Nat → Int} {kd ph c : Int} {x0 x1 x2 : List Int} (h : (decide (arcW x0 + 4 * ph < 32768) && decide (arcW x1 + 4 * ph < 32768) && decide (arcW x2 + 4 * ph < 32768)) = false) : phG e kd ph c x0 x1 x2 = upd (upd e 7 (mxx (arcW x0) (arcW x1))) 0 2 := by
  unfold phG
  rw [if_neg (by rw [h]; decide)]
theorem phG_yes {e : Nat → Int} {kd ph c : Int} {x0 x1 x2 : List Int} (h : (decide (arcW x0 + 4 * ph < 32768) && decide (arcW x1 + 4 * ph < 32768) && decide (arcW x2 + 4 * ph < 32768)) = true) : phG e kd ph c x0 x1 x2 = upd (upd (upd (upd (upd (upd (upd (upd e 7 (mxx (arcW x0) (arcW x1))) 0 3) 3 (meanLo (arcB x0) x0 (slk kd ph x0))) 4 (meanHi (arcB x0) x0 (slk kd ph x0))) 5 (meanLo (arcB x1) x1 (slk kd ph x1))) 6 (meanHi (arcB x1) x1 (slk kd ph x1))) 12 (meanLo (arcB x2) x2 (2 * ph * c))) 13 (meanHi (arcB x2) x2 (2 * ph * c)) := by
  unfold phG
  rw [if_pos h]
/-- three Booleans: what is left of the kind -/
theorem kind_3 {a b c : Bool} {k1 k2 : Int} (h1 : k1 = if a = true then (3 : Int) else 2) (h2 : k2 = if b = true then k1 else 2) (h : (a && b && c) = true) : a = true ∧ b = true ∧ c = true ∧ k2 = 3 := by
  cases a <;> cases b <;> cases c <;> simp_all
theorem kind_2 {a b c : Bool} {k1 k2 : Int} (h1 : k1 = if a = true then (3 : Int) else 2) (h2 : k2 = if b = true then k1 else 2) (h : (a && b && c) = false) (hc : c = true) : k2 = 2 := by
  cases a <;> cases b <;> simp_all
theorem allTo_row {n0 : Nat} {W : World} {v : Value} {f : Nat → Int} {n : Nat} (h : RowL n0 W v (allTo f n)) (hn : 1 ≤ n) : ∃ b off cap, v = .slice (some ⟨b, off, none⟩) n cap ∧ n0 ≤ b ∧ b < W.heap.size ∧ ∀ j, j < n → W.cell? ⟨b, off + j, none⟩ = some (.int .i64 (f j)) := by
  obtain ⟨b, off, cap, h1, h2, h3, h4⟩ := h.open (by rw [allTo_len]; exact hn)
  rw [allTo_len] at h1 h4
  exact ⟨b, off, cap, h1, h2, h3, fun j hj => by rw [h4 j hj, allTo_at f hj]⟩

end Go.Proofs.Ytmojnopgpgnfeaa
