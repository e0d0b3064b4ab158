/-
  The mean of numbers that go together.
-/
import Derived.Test.Ytmojnopgpgnfeaamg7
import Derived.Test.Ytmojnopgpgnfeaamg8
namespace Go.Proofs.Ytmojnopgpgnfeaa
open Go.RowKit
set_option linter.unusedVariables false
set_option linter.unusedSimpArgs false

theorem quo_bd {a c : Int} (h0 : -1000000000 ≤ a) (h1 : a ≤ 1000000000) (hc : 1 ≤ c) : -1000000000 ≤ a / c ∧ a / c ≤ 1000000000 := by
  constructor
  · exact Int.le_ediv_of_mul_le (by omega) (by
      have := Int.mul_le_mul_of_nonneg_left hc (show (0:Int) ≤ 1000000000 by decide)
      omega)
  · have h : a / c < 1000000000 + 1 := Int.ediv_lt_of_lt_mul (by omega) (by
      have := Int.mul_le_mul_of_nonneg_left hc (show (0:Int) ≤ 1000000000 + 1 by decide)
      omega)
    omega
theorem drewN_below {C : Nat} {w W : World} (h : Below C w W) (q : Nat) : Below C w (W.drewN q) := ⟨h.os, h.tape, h.output, h.size, h.block⟩
set_option maxHeartbeats 400000 in
theorem mean_none (a : Option Addr) (cap : Nat) (b x sl : Int) (w : World) :
    Calls Try.prog 105 #[.agg #[.slice a 0 cap, .int .i64 b, .int .i64 x], .int .i64 sl] w fun e w' => e = .returned (.agg #[.int .i64 0, .int .i64 0]) ∧ Below w.heap.size w w' := by
  go_enter Try.func105, Try.ntmps105
  go_wp2
  exact bodyPost_ret (v := .agg #[.int .i64 0, .int .i64 0]) (by simp [results, Try.results105, go_sem]) rfl ⟨rfl, by repeat (first | exact Below.refl _ _ | (refine Below.alloc ?_ (by first | (simp; done) | (simp only [World.size_alloc]; omega) | (simp; omega)) _))⟩

set_option maxRecDepth 100000 in
set_option maxHeartbeats 6400000 in
theorem mean_some (g off n cap : Nat) (xs : List Int) (b x sl : Int) (w : World) (hn : xs.length = n) (hn0 : 1 ≤ n) (hn1 : n ≤ 64) (hb : 0 ≤ b ∧ b < 65536) (hx : ∀ y, y ∈ xs → 0 ≤ y ∧ y < 65536) (hs : 0 ≤ sl ∧ sl ≤ 1000000) (hg : g < w.heap.size) (hc : ∀ j, j < n → w.cell? ⟨g, off + j, none⟩ = some (.int .i64 (xs[j]?.getD 0))) :
    Calls Try.prog 105 #[.agg #[.slice (some ⟨g, off, none⟩) n cap, .int .i64 b, .int .i64 x], .int .i64 sl] w fun e w' => e = .returned (.agg #[.int .i64 (meanLo b xs sl), .int .i64 (meanHi b xs sl)]) ∧ Below w.heap.size w w' := by
  have hne : xs ≠ [] := by intro e; subst e; simp at hn; omega
  unfold meanLo meanHi
  rw [if_neg hne, if_neg hne, hn]
  obtain ⟨lo, hlo⟩ : ∃ z, z = (sumT b xs n - sl) / (n : Int) := ⟨_, rfl⟩
  obtain ⟨hi, hhi⟩ : ∃ z, z = -(-(sumT b xs n + sl) / (n : Int)) := ⟨_, rfl⟩
  have HL := Lib.hid (And.intro hlo hhi)
  rw [← hlo, ← hhi]
  have bs := sumT_bd (xs := xs) hb n
  have bl : -1000000000 ≤ lo ∧ lo ≤ 1000000000 := by rw [hlo]; exact quo_bd (by omega) (by omega) (by omega)
  have bh : -1000000000 ≤ hi ∧ hi ≤ 1000000000 := by
    have := quo_bd (a := -(sumT b xs n + sl)) (c := n) (by omega) (by omega) (by omega)
    omega
  clear hlo hhi hne
  have HC := Lib.hid hc
  have HX := Lib.hid hx
  clear hc hx
  obtain ⟨V, hV⟩ : ∃ V, V = (w.alloc (.cells #[.slice (some ⟨g, off, none⟩) n cap, .int .i64 b, .int .i64 x] 107)).alloc (.cells #[.int .i64 0, .int .i64 0] 25) := ⟨_, rfl⟩
  obtain ⟨A1, e1⟩ : ∃ A, A = w.alloc (.cells #[.slice (some ⟨g, off, none⟩) n cap, .int .i64 b, .int .i64 x] 107) := ⟨_, rfl⟩
  have s1 : A1.heap.size = w.heap.size + 1 := by rw [e1]; exact World.size_alloc _ _
  have hV2 : V = A1.alloc (.cells #[.int .i64 0, .int .i64 0] 25) := by rw [hV, e1]
  have bV2 : Below A1.heap.size A1 V := by rw [hV2]; exact below_alloc _ _
  have bV : Below w.heap.size w V := by rw [e1] at bV2; exact (below_alloc _ _).trans (bV2.mono (by rw [← e1]; omega))
  have hA : ArcAt V w.heap.size (.slice (some ⟨g, off, none⟩) n cap) b x := ArcAt.keep (by rw [e1]; exact ArcAt.new _ _ _ _ _) bV2 (by omega)
  have hO : OpenAt V (w.heap.size + 1) := by rw [hV2, ← s1]; exact OpenAt.new _ _ _ _
  have hz : V.heap.size = w.heap.size + 2 := by rw [hV2, World.size_alloc, s1]
  clear hV2 e1 s1 bV2
  go_enter Try.func105, Try.ntmps105
  go_wp2
  rw [← hV]
  clear hV
  have y0 : w.heap.size < V.heap.size := by omega
  go_loopw [6, 18] (fun s i wr => ∃ k : Nat, k ≤ n ∧ i = .int .i64 k ∧ Below V.heap.size V wr ∧ s = .int .i64 (sumT b xs k)) (fun _ i _ => n - (intOf i).toNat)
  case atStart => exact ⟨0, Nat.zero_le _, rfl, Below.refl _ _, rfl⟩
  case round =>
    obtain ⟨k, hk, rfl, hbV, rfl⟩ := hrel
    have bk := sumT_bd (xs := xs) hb k
    have hzr := hbV.size
    by_cases hlt : k < n
    · obtain ⟨c0, c1, c2, f0, f1, f2⟩ := hA.keep hbV (by omega)
      obtain ⟨y, hy⟩ : ∃ y, y = xs[k]?.getD 0 := ⟨_, rfl⟩
      have zk := keepB (bV.trans (hbV.mono (by omega))) hg (HC.out k hlt)
      have bY : 0 ≤ y ∧ y < 65536 := by rw [hy, List.getElem?_eq_getElem (by omega)]; exact HX.out _ (List.getElem_mem _)
      have hgr : g < wr.heap.size := Nat.lt_of_lt_of_le hg (bV.trans (hbV.mono (by omega))).size
      rw [← hy] at zk
      obtain ⟨sk, hsk⟩ : ∃ s, s = sumT b xs k := ⟨_, rfl⟩
      have HN := Lib.hid (show sumT b xs (k + 1) = sk + (b + (y - b) % 65536) by rw [sumT, hsk, hy])
      rw [← hsk] at bk ⊢
      clear hsk hy
      obtain ⟨m, hm⟩ : ∃ m, m = (y - b) % 65536 := ⟨_, rfl⟩
      have bm : 0 ≤ m ∧ m < 65536 := by omega
      have HM := Lib.hid hm
      rw [← hm] at HN
      clear hm
      have i1 : IntKind.i64.wrap (y - b) = y - b := IntWalk.i64_in _ (by omega)
      have i2 : IntKind.i64.wrap (b + m) = b + m := IntWalk.i64_in _ (by omega)
      have i3 : IntKind.i64.wrap (sk + (b + m)) = sk + (b + m) := IntWalk.i64_in _ (by omega)
      have HQ : Hid (∀ W : World, Calls Try.prog 86 #[.int .i64 (y - b)] W fun e w' => e = .returned (.int .i64 m) ∧ w' = W) := Lib.hid fun W => (modulo_any (y - b) W (by omega) (by omega)).mono (by rintro e w' ⟨rfl, rfl⟩; exact ⟨by rw [HM.out], rfl⟩)
      go_wp2
      go_quiet ((go_at_call 86; exact Calls.quiet_of_same (HQ.out _)))
      go_wp2
      go_roundw
      case rel => exact ⟨k + 1, by omega, by go_num, drewN_below hbV _, by rw [HN.out]⟩
      case measure => simp [intOf]; omega
    · obtain rfl : k = n := by omega
      have hO2 := hO.keep hbV (by omega)
      have bR := bV.trans (hbV.mono (by omega))
      have zR : w.heap.size + 2 ≤ wr.heap.size := by omega
      obtain ⟨sk, hsk⟩ : ∃ s, s = sumT b xs k := ⟨_, rfl⟩
      rw [← hsk] at bk bs HL ⊢
      clear hsk hO
      obtain ⟨r0, r1, g0, g1⟩ := hO2
      have i1 : IntKind.i64.wrap (sk - sl) = sk - sl := IntWalk.i64_in _ (by omega)
      have i2 : IntKind.i64.wrap (sk + sl) = sk + sl := IntWalk.i64_in _ (by omega)
      go_wp2_with fail
      refine (down_any _ _ _ (by omega) (by omega) (by omega)).mono ?_; rw [← HL.out.1]; rintro e w' ⟨rfl, rfl⟩
      go_wp2_with fail
      refine (up_any _ _ _ (by omega) (by omega) (by omega)).mono ?_; rw [← HL.out.2]; rintro e w' ⟨rfl, rfl⟩
      go_wp2_with fail
      refine (unwound_any _ _ _ bl bh).mono ?_; rintro e X ⟨rfl, hbX⟩
      have r0' := keepA hbX (by omega) r0
      have r1' := keepA hbX (by omega) r1
      have g0' := keepF hbX (by omega) g0
      have g1' := keepF hbX (by omega) g1
      have bX := bR.trans (hbX.mono (by omega))
      have zX : w.heap.size + 1 < X.heap.size := by have := hbX.size; omega
      clear r0 r1 g0 g1 hbX
      have r0 := r0'
      have r1 := r1'
      go_wp2
      exact bodyPost_ret (v := .agg #[.int .i64 (unw lo), .int .i64 (unw lo + hi - lo)]) (by simp [results, Try.results105, go_sem, set_other (i := 1) (j := 0) (b := w.heap.size + 1) (by decide) (set_same (v := .int .i64 (unw lo)) r0), set_same (v := .int .i64 (unw lo + hi - lo)) (set_other (i := 0) (j := 1) (b := w.heap.size + 1) (v := .int .i64 (unw lo)) (by decide) r1)]) rfl ⟨rfl, (bX.setCell (p := ⟨w.heap.size + 1, 0, none⟩) (by dsimp only; omega) _).setCell (p := ⟨w.heap.size + 1, 1, none⟩) (by dsimp only; omega) _⟩


end Go.Proofs.Ytmojnopgpgnfeaa

namespace Go.Proofs.Ytmojnopgpgnfeaa
open Go.RowKit
set_option linter.unusedVariables false
set_option linter.unusedSimpArgs false

/-- an echo in a box: its fields are a function of their places -/
structure EchoG (w : World) (b : Nat) (e : Nat → Int) : Prop where
  c : ∀ i, i < 14 → w.cell? ⟨b, i, none⟩ = some (.int .i64 (e i))
  f : ∀ i, i < 14 → w.frozen? ⟨b, i, none⟩ = false
theorem EchoG.keep {B b : Nat} {W w1 : World} {e : Nat → Int} (s : EchoG W b e) (hb : Below B W w1) (h : b < B) : EchoG w1 b e :=
  ⟨fun i hi => keepB hb h (s.c i hi), fun i hi => keepF hb h (s.f i hi)⟩
def upd (e : Nat → Int) (k : Nat) (v : Int) : Nat → Int := fun i => if i = k then v else e i
theorem EchoG.set {b k : Nat} {W : World} {e : Nat → Int} {v : Int} (s : EchoG W b e) : EchoG (W.setCell ⟨b, k, none⟩ (.int .i64 v)) b (upd e k v) := by
  refine ⟨fun i hi => ?_, fun i hi => frz (s.f i hi)⟩
  unfold upd
  by_cases h : i = k
  · subst h; rw [if_pos rfl]; exact set_same (s.c i hi)
  · rw [if_neg h]; exact set_other (fun e => h e.symm) (s.c i hi)
theorem EchoG.far {b d k : Nat} {W : World} {e : Nat → Int} {u : Value} (s : EchoG W b e) (h : d ≠ b) : EchoG (W.setCell ⟨d, k, none⟩ u) b e :=
  ⟨fun i hi => cell_far h (s.c i hi), fun i hi => frz (s.f i hi)⟩
theorem EchoG.new (w : World) (e : Nat → Int) (T : TypeId) : EchoG (w.alloc (.cells #[.int .i64 (e 0), .int .i64 (e 1), .int .i64 (e 2), .int .i64 (e 3), .int .i64 (e 4), .int .i64 (e 5), .int .i64 (e 6), .int .i64 (e 7), .int .i64 (e 8), .int .i64 (e 9), .int .i64 (e 10), .int .i64 (e 11), .int .i64 (e 12), .int .i64 (e 13)] T)) w.heap.size e := by
  refine ⟨fun i hi => ?_, fun i hi => alloc_newF rfl⟩
  match i, hi with
  | 0, _ => exact alloc_new rfl rfl
  | 1, _ => exact alloc_new rfl rfl
  | 2, _ => exact alloc_new rfl rfl
  | 3, _ => exact alloc_new rfl rfl
  | 4, _ => exact alloc_new rfl rfl
  | 5, _ => exact alloc_new rfl rfl
  | 6, _ => exact alloc_new rfl rfl
  | 7, _ => exact alloc_new rfl rfl
  | 8, _ => exact alloc_new rfl rfl
  | 9, _ => exact alloc_new rfl rfl
  | 10, _ => exact alloc_new rfl rfl
  | 11, _ => exact alloc_new rfl rfl
  | 12, _ => exact alloc_new rfl rfl
  | 13, _ => exact alloc_new rfl rfl
  | i + 14, h => omega

/-- the boxes of withPhases -/
structure WpB (w W : World) (e : Nat → Int) (l kd f s c lv ph n0 n1 : Int) : Prop where
  e : EchoG W w.heap.size e
  t0 : W.cell? ⟨w.heap.size + 1, 0, none⟩ = some (.int .i64 l)
  t1 : W.cell? ⟨w.heap.size + 1, 1, none⟩ = some (.int .i64 kd)
  t2 : W.cell? ⟨w.heap.size + 1, 2, none⟩ = some (.int .i64 f)
  t3 : W.cell? ⟨w.heap.size + 1, 3, none⟩ = some (.int .i64 s)
  t4 : W.cell? ⟨w.heap.size + 1, 4, none⟩ = some (.int .i64 c)
  r0 : W.cell? ⟨w.heap.size + 1 + 1, 0, none⟩ = some (.int .i64 lv)
  r1 : W.cell? ⟨w.heap.size + 1 + 1, 1, none⟩ = some (.int .i64 ph)
  r2 : W.cell? ⟨w.heap.size + 1 + 1, 2, none⟩ = some (.int .i64 n0)
  r3 : W.cell? ⟨w.heap.size + 1 + 1, 3, none⟩ = some (.int .i64 n1)
  o : EchoG W (w.heap.size + 1 + 1 + 1) (fun _ => 0)
  z : w.heap.size + 4 ≤ W.heap.size
  b : Below w.heap.size w W
theorem WpB.keep {B : Nat} {w W w1 : World} {e : Nat → Int} {l kd f s c lv ph n0 n1 : Int} (x : WpB w W e l kd f s c lv ph n0 n1) (hb : Below B W w1) (h : w.heap.size + 4 ≤ B) : WpB w w1 e l kd f s c lv ph n0 n1 :=
  ⟨x.e.keep hb (by omega), keepB hb (by omega) x.t0, keepB hb (by omega) x.t1, keepB hb (by omega) x.t2, keepB hb (by omega) x.t3, keepB hb (by omega) x.t4, keepB hb (by omega) x.r0, keepB hb (by omega) x.r1, keepB hb (by omega) x.r2, keepB hb (by omega) x.r3, x.o.keep hb (by omega), Nat.le_trans x.z hb.size, x.b.trans (hb.mono (by omega))⟩
theorem WpB.set {k : Nat} {v : Int} {w W : World} {e : Nat → Int} {l kd f s c lv ph n0 n1 : Int} (x : WpB w W e l kd f s c lv ph n0 n1) : WpB w (W.setCell ⟨w.heap.size, k, none⟩ (.int .i64 v)) (upd e k v) l kd f s c lv ph n0 n1 :=
  ⟨x.e.set, cell_far (by omega) x.t0, cell_far (by omega) x.t1, cell_far (by omega) x.t2, cell_far (by omega) x.t3, cell_far (by omega) x.t4, cell_far (by omega) x.r0, cell_far (by omega) x.r1, cell_far (by omega) x.r2, cell_far (by omega) x.r3, x.o.far (by omega), by have := x.z; simpa using this, x.b.setCell (p := ⟨w.heap.size, k, none⟩) (by dsimp only; omega) _⟩
theorem WpB.new (w : World) (e : Nat → Int) (l kd f s c lv ph n0 n1 : Int) : WpB w ((((w.alloc (.cells #[.int .i64 (e 0), .int .i64 (e 1), .int .i64 (e 2), .int .i64 (e 3), .int .i64 (e 4), .int .i64 (e 5), .int .i64 (e 6), .int .i64 (e 7), .int .i64 (e 8), .int .i64 (e 9), .int .i64 (e 10), .int .i64 (e 11), .int .i64 (e 12), .int .i64 (e 13)] 30)).alloc (.cells #[.int .i64 l, .int .i64 kd, .int .i64 f, .int .i64 s, .int .i64 c] 23)).alloc (.cells #[.int .i64 lv, .int .i64 ph, .int .i64 n0, .int .i64 n1] 27)).alloc (.cells #[.int .i64 0, .int .i64 0, .int .i64 0, .int .i64 0, .int .i64 0, .int .i64 0, .int .i64 0, .int .i64 0, .int .i64 0, .int .i64 0, .int .i64 0, .int .i64 0, .int .i64 0, .int .i64 0] 30)) e l kd f s c lv ph n0 n1 := by
  obtain ⟨A1, e1⟩ : ∃ A, A = w.alloc (.cells #[.int .i64 (e 0), .int .i64 (e 1), .int .i64 (e 2), .int .i64 (e 3), .int .i64 (e 4), .int .i64 (e 5), .int .i64 (e 6), .int .i64 (e 7), .int .i64 (e 8), .int .i64 (e 9), .int .i64 (e 10), .int .i64 (e 11), .int .i64 (e 12), .int .i64 (e 13)] 30) := ⟨_, rfl⟩
  obtain ⟨A2, e2⟩ : ∃ A, A = A1.alloc (.cells #[.int .i64 l, .int .i64 kd, .int .i64 f, .int .i64 s, .int .i64 c] 23) := ⟨_, rfl⟩
  obtain ⟨A3, e3⟩ : ∃ A, A = A2.alloc (.cells #[.int .i64 lv, .int .i64 ph, .int .i64 n0, .int .i64 n1] 27) := ⟨_, rfl⟩
  obtain ⟨A4, e4⟩ : ∃ A, A = A3.alloc (.cells #[.int .i64 0, .int .i64 0, .int .i64 0, .int .i64 0, .int .i64 0, .int .i64 0, .int .i64 0, .int .i64 0, .int .i64 0, .int .i64 0, .int .i64 0, .int .i64 0, .int .i64 0, .int .i64 0] 30) := ⟨_, rfl⟩
  have s1 : A1.heap.size = w.heap.size + 1 := by rw [e1]; exact World.size_alloc _ _
  have s2 : A2.heap.size = w.heap.size + 1 + 1 := by rw [e2, World.size_alloc, s1]
  have s3 : A3.heap.size = w.heap.size + 1 + 1 + 1 := by rw [e3, World.size_alloc, s2]
  have s4 : A4.heap.size = w.heap.size + 4 := by rw [e4, World.size_alloc, s3]
  rw [← e1, ← e2, ← e3, ← e4]
  have b1 : Below w.heap.size w A1 := by rw [e1]; exact below_alloc _ _
  have b2 : Below A1.heap.size A1 A2 := by rw [e2]; exact below_alloc _ _
  have b3 : Below A2.heap.size A2 A3 := by rw [e3]; exact below_alloc _ _
  have b4 : Below A3.heap.size A3 A4 := by rw [e4]; exact below_alloc _ _
  have c24 : Below A2.heap.size A2 A4 := b3.trans (b4.mono (by omega))
  have c14 : Below A1.heap.size A1 A4 := b2.trans (c24.mono (by omega))
  exact ⟨EchoG.keep (by rw [e1]; exact EchoG.new _ _ _) c14 (by omega), keepB c24 (by omega) (by rw [e2, ← s1]; exact alloc_new rfl rfl), keepB c24 (by omega) (by rw [e2, ← s1]; exact alloc_new rfl rfl), keepB c24 (by omega) (by rw [e2, ← s1]; exact alloc_new rfl rfl), keepB c24 (by omega) (by rw [e2, ← s1]; exact alloc_new rfl rfl), keepB c24 (by omega) (by rw [e2, ← s1]; exact alloc_new rfl rfl), keepB b4 (by omega) (by rw [e3, ← s2]; exact alloc_new rfl rfl), keepB b4 (by omega) (by rw [e3, ← s2]; exact alloc_new rfl rfl), keepB b4 (by omega) (by rw [e3, ← s2]; exact alloc_new rfl rfl), keepB b4 (by omega) (by rw [e3, ← s2]; exact alloc_new rfl rfl), by rw [e4, ← s3]; exact EchoG.new _ (fun _ => 0) _, by omega, b1.trans (c14.mono (by omega))⟩
/-- the three arcs, in their boxes -/
structure Arcs (n0 : Nat) (W : World) (B9 B11 : Nat) (v0 v1 v2 : Value) (x0 x1 x2 : List Int) : Prop where
  a0 : ArcAt W B9 v0 (arcB x0) (arcW x0)
  a1 : ArcAt W (B9 + 1) v1 (arcB x1) (arcW x1)
  a2 : ArcAt W B11 v2 (arcB x2) (arcW x2)
  i0 : RowL n0 W v0 x0
  i1 : RowL n0 W v1 x1
  i2 : RowL n0 W v2 x2
  z9 : B9 + 1 < W.heap.size
  z11 : B11 < W.heap.size
theorem Arcs.keep {n0 : Nat} {W w1 : World} {B9 B11 : Nat} {v0 v1 v2 : Value} {x0 x1 x2 : List Int} (h : Arcs n0 W B9 B11 v0 v1 v2 x0 x1 x2) (hb : Below W.heap.size W w1) : Arcs n0 w1 B9 B11 v0 v1 v2 x0 x1 x2 :=
  ⟨h.a0.keep hb (by have := h.z9; omega), h.a1.keep hb h.z9, h.a2.keep hb h.z11, h.i0.keep hb, h.i1.keep hb, h.i2.keep hb, Nat.lt_of_lt_of_le h.z9 hb.size, Nat.lt_of_lt_of_le h.z11 hb.size⟩

end Go.Proofs.Ytmojnopgpgnfeaa
