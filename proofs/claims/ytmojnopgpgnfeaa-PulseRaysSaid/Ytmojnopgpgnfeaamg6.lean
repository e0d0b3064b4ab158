/-
  The narrowest arc of some parts of a turn: plain mathematics.
-/
import Derived.Test.Ytmojnopgpgnfeaamg3
namespace Go.Proofs.Ytmojnopgpgnfeaa
set_option linter.unusedVariables false

/-- how far the numbers are behind a, at most -/
def far (a : Int) : List Int → Int
  | [] => 0
  | x :: l => max ((x - a) % 65536) (far a l)
theorem far_le {a : Int} : ∀ {l : List Int} {x : Int}, x ∈ l → (x - a) % 65536 ≤ far a l
  | y :: l, x, h => by
    rw [far]
    rcases List.mem_cons.1 h with rfl | h
    · omega
    · have := far_le (a := a) h; omega
theorem far_met {a : Int} : ∀ {l : List Int}, l ≠ [] → ∃ x, x ∈ l ∧ (x - a) % 65536 = far a l
  | [y], _ => ⟨y, List.mem_cons_self, by rw [far, far]; omega⟩
  | y :: z :: l, _ => by
    obtain ⟨x, hx, e⟩ := far_met (a := a) (l := z :: l) (by simp)
    rw [far]
    by_cases h : far a (z :: l) ≤ (y - a) % 65536
    · exact ⟨y, List.mem_cons_self, by omega⟩
    · exact ⟨x, List.mem_cons_of_mem _ hx, by omega⟩
theorem far_bd (a : Int) : ∀ l : List Int, 0 ≤ far a l ∧ far a l < 65536
  | [] => by rw [far]; omega
  | y :: l => by have := far_bd a l; rw [far]; omega
theorem far_eq {a w : Int} {l : List Int} (h1 : ∀ x, x ∈ l → (x - a) % 65536 ≤ w) (h2 : ∃ x, x ∈ l ∧ (x - a) % 65536 = w) : far a l = w := by
  obtain ⟨x, hx, e⟩ := h2
  have b1 := far_le (a := a) hx
  obtain ⟨y, hy, e2⟩ := far_met (a := a) (l := l) (fun h => by subst h; cases hx)
  have b2 := h1 y hy
  omega
theorem far_same {a : Int} {l m : List Int} (h : ∀ x, x ∈ l ↔ x ∈ m) : far a l = far a m := by
  cases l with
  | nil =>
    have : m = [] := List.eq_nil_iff_forall_not_mem.2 fun x hx => by have := (h x).2 hx; cases this
    rw [this]
  | cons y l =>
    obtain ⟨x, hx, e⟩ := far_met (a := a) (l := y :: l) (by simp)
    exact (far_eq (fun z hz => far_le ((h z).2 hz)) ⟨x, (h x).1 hx, e⟩).symm

/-- b is where the narrowest arc of the numbers begins, and w its width -/
def ArcIs (l : List Int) (b w : Int) : Prop := b ∈ l ∧ far b l = w ∧ ∀ a, a ∈ l → w < far a l ∨ (w = far a l ∧ b ≤ a)
theorem ArcIs.unique {l : List Int} {b w b2 w2 : Int} (h : ArcIs l b w) (k : ArcIs l b2 w2) : b = b2 ∧ w = w2 := by
  obtain ⟨h1, h2, h3⟩ := h
  obtain ⟨k1, k2, k3⟩ := k
  have := h3 _ k1
  have := k3 _ h1
  omega
theorem ArcIs.same {l m : List Int} {b w : Int} (e : ∀ x, x ∈ l ↔ x ∈ m) (h : ArcIs l b w) : ArcIs m b w :=
  ⟨(e b).1 h.1, by rw [← far_same e]; exact h.2.1, fun a ha => by rw [← far_same e]; exact h.2.2 a ((e a).2 ha)⟩

/-- the arc of numbers, one after the other: where it begins, and its width -/
def arcGo (l : List Int) : List Int → Int × Int → Int × Int
  | [], s => s
  | a :: r, s => arcGo l r (if far a l < s.2 ∨ (far a l = s.2 ∧ a < s.1) then (a, far a l) else s)
def arcV (l : List Int) : Int × Int := if l = [] then (0, 0) else arcGo l l (0, 65536)
def arcB (l : List Int) : Int := (arcV l).1
def arcW (l : List Int) : Int := (arcV l).2
theorem arcGo_is (l : List Int) : ∀ (r : List Int) (s : Int × Int), (∀ x, x ∈ r → x ∈ l) → (s.2 < 65536 → s.1 ∈ l ∧ far s.1 l = s.2) → (s.2 ≤ 65536) → (r = [] → s.2 < 65536) →
    (arcGo l r s).1 ∈ l ∧ far (arcGo l r s).1 l = (arcGo l r s).2 ∧ (arcGo l r s).2 < 65536 ∧ (∀ a, a ∈ r → (arcGo l r s).2 < far a l ∨ ((arcGo l r s).2 = far a l ∧ (arcGo l r s).1 ≤ a)) ∧ ((arcGo l r s).2 < s.2 ∨ ((arcGo l r s).2 = s.2 ∧ (arcGo l r s).1 ≤ s.1))
  | [], s, _, h2, _, h4 => ⟨(h2 (h4 rfl)).1, (h2 (h4 rfl)).2, h4 rfl, (by intro a ha; cases ha), .inr ⟨rfl, Int.le_refl _⟩⟩
  | a :: r, s, h1, h2, h3, _ => by
    have hb := far_bd a l
    have ha := h1 a List.mem_cons_self
    rw [arcGo]
    by_cases c : far a l < s.2 ∨ (far a l = s.2 ∧ a < s.1)
    · rw [if_pos c]
      obtain ⟨k1, k2, k3, k4, k5⟩ := arcGo_is l r (a, far a l) (fun x hx => h1 x (List.mem_cons_of_mem _ hx)) (fun _ => ⟨ha, rfl⟩) (by simp; omega) (fun _ => hb.2)
      refine ⟨k1, k2, k3, fun x hx => ?_, ?_⟩
      · rcases List.mem_cons.1 hx with rfl | hx
        · dsimp only at k5; omega
        · exact k4 x hx
      · dsimp only at k5; omega
    · rw [if_neg c]
      obtain ⟨k1, k2, k3, k4, k5⟩ := arcGo_is l r s (fun x hx => h1 x (List.mem_cons_of_mem _ hx)) h2 h3 (fun _ => by omega)
      refine ⟨k1, k2, k3, fun x hx => ?_, k5⟩
      rcases List.mem_cons.1 hx with rfl | hx
      · omega
      · exact k4 x hx
theorem arcV_is {l : List Int} (h : l ≠ []) : ArcIs l (arcB l) (arcW l) := by
  unfold arcB arcW arcV
  rw [if_neg h]
  obtain ⟨k1, k2, k3, k4, _⟩ := arcGo_is l l (0, 65536) (fun _ hx => hx) (fun h => by dsimp only at h; omega) (by simp) (fun e => absurd e h)
  exact ⟨k1, k2, k4⟩
theorem arcW_bd (l : List Int) : 0 ≤ arcW l ∧ arcW l < 65536 := by
  by_cases h : l = []
  · subst h; exact ⟨by decide, by decide⟩
  · rw [← (arcV_is h).2.1]; exact far_bd _ _
theorem arcB_in {l : List Int} (h : l ≠ []) : arcB l ∈ l := (arcV_is h).1

/-- numbers that ascend, one after the other: how far the one before i is behind i, counted around -/
def gapN (s : List Int) (i : Nat) : Int := ((s[(i + s.length - 1) % s.length]?).getD 0 - (s[i]?).getD 0) % 65536
theorem gap_far {s : List Int} (hs : s.Pairwise (· < ·)) (hp : ∀ x, x ∈ s → 0 ≤ x ∧ x < 65536) {i : Nat} (hi : i < s.length) : far ((s[i]?).getD 0) s = gapN s i := by
  have mono : ∀ j k, (h1 : j < s.length) → (h2 : k < s.length) → j < k → s[j] < s[k] := fun j k h1 h2 h => List.pairwise_iff_getElem.1 hs j k h1 h2 h
  have mono' : ∀ j k, (h1 : j < s.length) → (h2 : k < s.length) → j ≤ k → s[j] ≤ s[k] := fun j k h1 h2 h => by
    rcases Nat.lt_or_eq_of_le h with h | h
    · have := mono j k h1 h2 h; omega
    · subst h; exact Int.le_refl _
  have hb : ∀ j, (h : j < s.length) → 0 ≤ s[j] ∧ s[j] < 65536 := fun j h => hp _ (List.getElem_mem h)
  have hq : (i + s.length - 1) % s.length < s.length := Nat.mod_lt _ (by omega)
  unfold gapN
  rw [List.getElem?_eq_getElem hi, List.getElem?_eq_getElem hq]
  dsimp only [Option.getD_some]
  refine far_eq (fun x hx => ?_) ⟨_, List.getElem_mem hq, rfl⟩
  obtain ⟨j, hj, rfl⟩ := List.mem_iff_getElem.1 hx
  have b1 := hb i hi
  have b2 := hb j hj
  have b3 := hb _ hq
  by_cases h0 : i = 0
  · have e : (i + s.length - 1) % s.length = s.length - 1 := by rw [h0]; rw [Nat.mod_eq_of_lt (by omega)]; omega
    have m1 := mono' i j hi hj (by omega)
    have m2 := mono' j ((i + s.length - 1) % s.length) hj hq (by rw [e]; omega)
    omega
  · have e : (i + s.length - 1) % s.length = i - 1 := by rw [show i + s.length - 1 = (i - 1) + s.length by omega, Nat.add_mod_right, Nat.mod_eq_of_lt (by omega)]
    have m1 := mono ((i + s.length - 1) % s.length) i hq hi (by rw [e]; omega)
    by_cases h : i ≤ j
    · have m2 := mono' i j hi hj h
      omega
    · have m2 := mono' j ((i + s.length - 1) % s.length) hj hq (by rw [e]; omega)
      omega

/-- the first k of ascending numbers are through: the best of them -/
def Best (s : List Int) (k : Nat) (b w : Int) : Prop := ∃ i, i < k ∧ (s[i]?).getD 0 = b ∧ gapN s i = w ∧ ∀ j, j < k → w ≤ gapN s j ∧ (j < i → w < gapN s j)
theorem Best.first (s : List Int) : Best s 1 ((s[0]?).getD 0) (gapN s 0) := ⟨0, by omega, rfl, rfl, fun j hj => by
  have e : j = 0 := by omega
  subst e
  exact ⟨Int.le_refl _, fun h => by omega⟩⟩
theorem Best.less {s : List Int} {k : Nat} {b w : Int} (h : Best s k b w) (hl : gapN s k < w) : Best s (k + 1) ((s[k]?).getD 0) (gapN s k) := by
  obtain ⟨i, hi, _, _, h4⟩ := h
  refine ⟨k, by omega, rfl, rfl, fun j hj => ?_⟩
  by_cases e : j = k
  · subst e; exact ⟨Int.le_refl _, fun h => by omega⟩
  · have := (h4 j (by omega)).1
    exact ⟨by omega, fun _ => by omega⟩
theorem Best.more {s : List Int} {k : Nat} {b w : Int} (h : Best s k b w) (hl : ¬ gapN s k < w) : Best s (k + 1) b w := by
  obtain ⟨i, hi, h2, h3, h4⟩ := h
  refine ⟨i, by omega, h2, h3, fun j hj => ?_⟩
  by_cases e : j = k
  · subst e; exact ⟨by omega, fun h => by omega⟩
  · exact h4 j (by omega)
theorem Best.is {s l : List Int} {b w : Int} (hs : s.Pairwise (· < ·)) (hp : ∀ x, x ∈ s → 0 ≤ x ∧ x < 65536) (hm : ∀ x, x ∈ s ↔ x ∈ l) (hne : l ≠ []) (h : Best s s.length b w) : b = arcB l ∧ w = arcW l := by
  obtain ⟨i, hi, h2, h3, h4⟩ := h
  refine ArcIs.unique (l := l) (ArcIs.same hm ⟨?_, ?_, fun a ha => ?_⟩) (arcV_is hne)
  · rw [← h2, List.getElem?_eq_getElem hi]; exact List.getElem_mem hi
  · rw [← h2, gap_far hs hp hi, h3]
  · obtain ⟨j, hj, rfl⟩ := List.mem_iff_getElem.1 ha
    have e := gap_far hs hp hj
    rw [List.getElem?_eq_getElem hj] at e
    dsimp only [Option.getD_some] at e
    have h5 := h4 j hj
    by_cases c : j < i
    · have := h5.2 c; left; omega
    · by_cases d : w = gapN s j
      · right
        refine ⟨by omega, ?_⟩
        rw [← h2, List.getElem?_eq_getElem hi]
        dsimp only [Option.getD_some]
        rcases Nat.lt_or_eq_of_le (Nat.le_of_not_lt c) with c | c
        · have := List.pairwise_iff_getElem.1 hs i j hi hj c; omega
        · subst c; exact Int.le_refl _
      · left; omega

end Go.Proofs.Ytmojnopgpgnfeaa

namespace Go.Proofs.Ytmojnopgpgnfeaa
open Go.RowKit
set_option linter.unusedVariables false
set_option linter.unusedSimpArgs false

set_option maxHeartbeats 400000 in
theorem isTogether_any (v : Value) (b x e : Int) (w : World) (hv : v.oneCell' = true) (hx : 0 ≤ x ∧ x < 65536) (he : 0 ≤ e ∧ e ≤ 4096) :
    Calls Try.prog 104 #[.agg #[v, .int .i64 b, .int .i64 x], .int .i64 e] w fun e' w' => e' = .returned (.bool (decide (x + 4 * e < 32768))) ∧ Below w.heap.size w w' := by
  have i1 : IntKind.i64.wrap (4 * e) = 4 * e := IntWalk.i64_in _ (by omega)
  have i2 : IntKind.i64.wrap (x + 4 * e) = x + 4 * e := IntWalk.i64_in _ (by omega)
  go_enter Try.func104, Try.ntmps104
  go_wp2
  go_ret
  exact ⟨rfl, below_alloc _ _⟩

/-- a span less whole turns -/
def unw (lo : Int) : Int := (lo + 32768) % 65536 - 32768
set_option maxHeartbeats 400000 in
theorem unwound_any (lo hi : Int) (w : World) (hl : -1000000000 ≤ lo ∧ lo ≤ 1000000000) (hh : -1000000000 ≤ hi ∧ hi ≤ 1000000000) :
    Calls Try.prog 111 #[.agg #[.int .i64 lo, .int .i64 hi]] w fun e' w' => e' = .returned (.agg #[.int .i64 (unw lo), .int .i64 (unw lo + hi - lo)]) ∧ Below w.heap.size w w' := by
  unfold unw
  obtain ⟨m, hm⟩ : ∃ m, m = (lo + 32768) % 65536 := ⟨_, rfl⟩
  have m1 : 0 ≤ m ∧ m < 65536 := by omega
  have i1 : IntKind.i64.wrap (lo + 32768) = lo + 32768 := IntWalk.i64_in _ (by omega)
  have i2 : IntKind.i64.wrap (m - 32768) = m - 32768 := IntWalk.i64_in _ (by omega)
  have i3 : IntKind.i64.wrap (m - 32768 + hi) = m - 32768 + hi := IntWalk.i64_in _ (by omega)
  have i4 : IntKind.i64.wrap (m - 32768 + hi - lo) = m - 32768 + hi - lo := IntWalk.i64_in _ (by omega)
  have HM := Lib.hid hm
  rw [← hm]
  clear hm
  go_enter Try.func111, Try.ntmps111
  go_wp2_with (go_at_call 86; refine (modulo_any _ _ (by omega) (by omega)).mono ?_; rw [← HM.out]; rintro e w' ⟨rfl, rfl⟩)
  exact bodyPost_ret (v := .agg #[.int .i64 (m - 32768), .int .i64 (m - 32768 + hi - lo)]) (by simp [results, Try.results111, go_sem]) rfl ⟨rfl, by repeat (first | exact Below.refl _ _ | (refine Below.alloc ?_ (by first | (simp; done) | (simp only [World.size_alloc]; omega) | (simp; omega)) _))⟩

set_option maxHeartbeats 400000 in
theorem slack_any (l k f s c lv ph n0 n1 : Int) (a : Option Addr) (n cap : Nat) (b x : Int) (w : World) (hp : 0 ≤ ph ∧ ph ≤ 4096) (hn : n ≤ 64) :
    Calls Try.prog 106 #[.agg #[.int .i64 l, .int .i64 k, .int .i64 f, .int .i64 s, .int .i64 c], .agg #[.int .i64 lv, .int .i64 ph, .int .i64 n0, .int .i64 n1], .agg #[.slice a n cap, .int .i64 b, .int .i64 x]] w fun e' w' => e' = .returned (.int .i64 (if k = 3 then 2 * ph * n else 2 * ph)) ∧ Below w.heap.size w w' := by
  have p1 := Int.mul_le_mul_of_nonneg_left (show (n : Int) ≤ 64 by omega) (show 0 ≤ 2 * ph by omega)
  have p2 := Int.mul_nonneg (show 0 ≤ 2 * ph by omega) (show 0 ≤ (n : Int) by omega)
  have i1 : IntKind.i64.wrap (2 * ph) = 2 * ph := IntWalk.i64_in _ (by omega)
  have i2 : IntKind.i64.wrap (2 * ph * n) = 2 * ph * n := IntWalk.i64_in _ (by omega)
  by_cases h : k = 3
  · subst h
    rw [if_pos rfl]
    go_enter Try.func106, Try.ntmps106
    go_wp2
    go_ret
    exact ⟨rfl, by repeat (first | exact Below.refl _ _ | (refine Below.alloc ?_ (by first | (simp; done) | (simp only [World.size_alloc]; omega) | (simp; omega)) _))⟩
  · rw [if_neg h]
    go_enter Try.func106, Try.ntmps106
    go_wp2
    go_ret
    exact ⟨rfl, by repeat (first | exact Below.refl _ _ | (refine Below.alloc ?_ (by first | (simp; done) | (simp only [World.size_alloc]; omega) | (simp; omega)) _))⟩

/-- the ints of a slice: what its cells hold; or it is nil and there are none -/
def IntsL (w : World) (v : Value) (xs : List Int) : Prop := (v = .slice none 0 0 ∧ xs = []) ∨ ∃ b off cap, v = .slice (some ⟨b, off, none⟩) xs.length cap ∧ b < w.heap.size ∧ ∀ j, j < xs.length → w.cell? ⟨b, off + j, none⟩ = some (.int .i64 (xs[j]?.getD 0))
theorem IntsL.keep {w w' : World} {v : Value} {xs : List Int} (h : IntsL w v xs) (hb : Below w.heap.size w w') : IntsL w' v xs := by
  rcases h with h | ⟨b, off, cap, h1, h2, h3⟩
  · exact .inl h
  · exact .inr ⟨b, off, cap, h1, Nat.lt_of_lt_of_le h2 hb.size, fun j hj => keepB hb h2 (h3 j hj)⟩
/-- the sum of numbers in their arc -/
def sumA (b : Int) : List Int → Int
  | [] => 0
  | x :: l => (b + (x - b) % 65536) + sumA b l
def sumT (b : Int) (xs : List Int) : Nat → Int
  | 0 => 0
  | k + 1 => sumT b xs k + (b + (xs[k]?.getD 0 - b) % 65536)
theorem sumT_bd {b : Int} {xs : List Int} (hb : 0 ≤ b ∧ b < 65536) : ∀ k : Nat, 0 ≤ sumT b xs k ∧ sumT b xs k ≤ 131072 * k
  | 0 => by simp [sumT]
  | k + 1 => by
    have h := sumT_bd (xs := xs) hb k
    rw [sumT]
    omega
/-- the mean of numbers, less whole turns: its ends -/
def meanLo (b : Int) (xs : List Int) (sl : Int) : Int := if xs = [] then 0 else unw ((sumT b xs xs.length - sl) / xs.length)
def meanHi (b : Int) (xs : List Int) (sl : Int) : Int := if xs = [] then 0 else unw ((sumT b xs xs.length - sl) / xs.length) + -(-(sumT b xs xs.length + sl) / xs.length) - (sumT b xs xs.length - sl) / xs.length

end Go.Proofs.Ytmojnopgpgnfeaa
