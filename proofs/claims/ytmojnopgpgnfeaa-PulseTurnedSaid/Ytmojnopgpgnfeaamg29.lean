/-
  The narrowest arc of numbers in another order, and of fewer numbers: plain mathematics.
-/
import Derived.Test.Ytmojnopgpgnfeaamg6
import Derived.Test.Ytmojnopgpgnfeaamg22
import Derived.Test.Ytmojnopgpgnfeaamg8
import Derived.Test.Ytmojnopgpgnfeaamg23
import Derived.Test.Ytmojnopgpgnfeaamg9
namespace Go.Proofs.Ytmojnopgpgnfeaa
set_option linter.unusedVariables false

theorem arc_sameset {l m : List Int} (hne : l ≠ []) (e : ∀ x, x ∈ l ↔ x ∈ m) : arcB l = arcB m ∧ arcW l = arcW m := by
  have hm : m ≠ [] := by
    intro h
    obtain ⟨x, hx⟩ := List.exists_mem_of_ne_nil l hne
    have := (e x).1 hx
    rw [h] at this; cases this
  exact ArcIs.unique (ArcIs.same e (arcV_is hne)) (arcV_is hm)
theorem far_zero {a : Int} {l : List Int} (h : far a l = 0) (hp : ∀ x, x ∈ l → 0 ≤ x ∧ x < 65536) (ha : 0 ≤ a ∧ a < 65536) : ∀ x, x ∈ l → x = a := fun x hx => by
  have h1 := far_le (a := a) hx
  have h2 := hp x hx
  omega
theorem far_const {a : Int} : ∀ {l : List Int}, (∀ x, x ∈ l → x = a) → far a l = 0
  | [], _ => rfl
  | y :: l, h => by
    have h1 := h y List.mem_cons_self
    have h2 := far_const (a := a) (l := l) fun x hx => h x (List.mem_cons_of_mem _ hx)
    rw [far, h2, h1]; omega
/-- some number of a list is the first one behind b -/
theorem first_behind (b : Int) : ∀ {l : List Int}, l ≠ [] → ∃ x, x ∈ l ∧ ∀ y, y ∈ l → (x - b) % 65536 ≤ (y - b) % 65536
  | [y], _ => ⟨y, List.mem_cons_self, fun z hz => by simp at hz; subst hz; exact Int.le_refl _⟩
  | y :: z :: l, _ => by
    obtain ⟨x, hx, h⟩ := first_behind b (l := z :: l) (by simp)
    by_cases c : (x - b) % 65536 ≤ (y - b) % 65536
    · refine ⟨x, List.mem_cons_of_mem _ hx, fun u hu => ?_⟩
      rcases List.mem_cons.1 hu with rfl | hu
      · exact c
      · exact h u hu
    · refine ⟨y, List.mem_cons_self, fun u hu => ?_⟩
      rcases List.mem_cons.1 hu with rfl | hu
      · exact Int.le_refl _
      · have := h u hu; omega
theorem far_sub {a w : Int} {l : List Int} (h0 : 0 ≤ w) (h : ∀ x, x ∈ l → (x - a) % 65536 ≤ w) : far a l ≤ w := by
  cases l with
  | nil => exact h0
  | cons y l =>
    obtain ⟨x, hx, e⟩ := far_met (a := a) (l := y :: l) (by simp)
    rw [← e]; exact h x hx
theorem arc_less {l m : List Int} (hm : m ≠ []) (hs : ∀ x, x ∈ m → x ∈ l) : arcW m ≤ arcW l := by
  have hl : l ≠ [] := by
    intro h
    obtain ⟨x, hx⟩ := List.exists_mem_of_ne_nil m hm
    have := hs x hx
    rw [h] at this; cases this
  obtain ⟨b1, b2, b3⟩ := arcV_is hl
  obtain ⟨x, hx, h⟩ := first_behind (arcB l) hm
  have h1 : far x m ≤ arcW l := far_sub (arcW_bd l).1 fun y hy => by
    have h2 := h y hy
    have h3 := far_le (a := arcB l) (hs y hy)
    rw [b2] at h3
    omega
  obtain ⟨c1, c2, c3⟩ := arcV_is hm
  have := c3 x hx
  omega
/-- the arc has no width exactly if all numbers are the same -/
theorem arc_flat {l : List Int} (hp : ∀ x, x ∈ l → 0 ≤ x ∧ x < 65536) {a : Int} (ha : a ∈ l) : (arcW l = 0) ↔ ∀ x, x ∈ l → x = a := by
  have hl : l ≠ [] := by intro h; rw [h] at ha; cases ha
  obtain ⟨b1, b2, b3⟩ := arcV_is hl
  constructor
  · intro h x hx
    rw [h] at b2
    have e1 := far_zero b2 hp (hp _ b1) x hx
    have e2 := far_zero b2 hp (hp _ b1) a ha
    omega
  · intro h
    have e := h _ b1
    rw [e] at b2
    rw [far_const h] at b2
    omega
theorem arc_each {l : List Int} {x : Int} (hx : x ∈ l) : (x - arcB l) % 65536 ≤ arcW l ∧ arcW l ≤ far x l := by
  have hl : l ≠ [] := by intro h; rw [h] at hx; cases hx
  obtain ⟨b1, b2, b3⟩ := arcV_is hl
  have h1 := far_le (a := arcB l) hx
  have h2 := b3 x hx
  rw [b2] at h1
  omega

/-- the numbers of the first k of a list, but for one -/
def lessTo (f : Nat → Int) (q : Nat) : Nat → List Int
  | 0 => []
  | k + 1 => if k = q then lessTo f q k else lessTo f q k ++ [f k]
def allTo (f : Nat → Int) : Nat → List Int
  | 0 => []
  | k + 1 => allTo f k ++ [f k]
theorem allTo_len (f : Nat → Int) : ∀ k, (allTo f k).length = k
  | 0 => rfl
  | k + 1 => by rw [allTo, List.length_append, allTo_len f k]; rfl
theorem allTo_mem {f : Nat → Int} {x : Int} : ∀ {k : Nat}, x ∈ allTo f k ↔ ∃ j, j < k ∧ f j = x
  | 0 => by simp [allTo]
  | k + 1 => by
    rw [allTo, List.mem_append, allTo_mem (k := k), List.mem_singleton]
    constructor
    · rintro (⟨j, hj, e⟩ | e)
      · exact ⟨j, by omega, e⟩
      · exact ⟨k, by omega, e.symm⟩
    · rintro ⟨j, hj, e⟩
      by_cases c : j = k
      · subst c; exact .inr e.symm
      · exact .inl ⟨j, by omega, e⟩
theorem allTo_at (f : Nat → Int) : ∀ {k j : Nat}, j < k → (allTo f k)[j]?.getD 0 = f j
  | k + 1, j, h => by
    rw [allTo]
    by_cases c : j = k
    · subst c
      rw [List.getElem?_append_right (by rw [allTo_len]; omega), allTo_len]; simp
    · rw [List.getElem?_append_left (by rw [allTo_len]; omega)]
      exact allTo_at f (by omega)
theorem lessTo_mem {f : Nat → Int} {q : Nat} {x : Int} : ∀ {k : Nat}, x ∈ lessTo f q k → x ∈ allTo f k
  | 0, h => by cases h
  | k + 1, h => by
    rw [allTo, List.mem_append]
    rw [lessTo] at h
    by_cases c : k = q
    · rw [if_pos c] at h; exact .inl (lessTo_mem h)
    · rw [if_neg c, List.mem_append] at h
      rcases h with h | h
      · exact .inl (lessTo_mem h)
      · exact .inr h
theorem lessTo_len (f : Nat → Int) (q : Nat) : ∀ k, (lessTo f q k).length ≤ k
  | 0 => Nat.le_refl _
  | k + 1 => by
    have := lessTo_len f q k
    rw [lessTo]
    by_cases c : k = q
    · rw [if_pos c]; omega
    · rw [if_neg c, List.length_append]; simp; omega
end Go.Proofs.Ytmojnopgpgnfeaa

namespace Go.Proofs.Ytmojnopgpgnfeaa
open Go.RowKit
set_option linter.unusedVariables false
set_option linter.unusedSimpArgs false

theorem wrap_any (a : Int) (w : World) (h1 : -1000000000000 ≤ a) (h2 : a ≤ 1000000000000) : Calls Try.prog 41 #[.int .i64 a] w fun e w' => e = .returned (.int .i64 (a % 65536)) ∧ w = w' := by
  have t1 : -65536 < a.tmod 65536 ∧ a.tmod 65536 < 65536 := by
    by_cases h : 0 ≤ a
    · rw [Int.tmod_eq_emod_of_nonneg h]; have := mod_bd a; omega
    · have := tmod_neg_bd (a := a) (b := 65536) (by decide) (by omega); omega
  have t2 : (a.tmod 65536 + 65536).tmod 65536 = a % 65536 := by
    rw [Int.tmod_eq_emod_of_nonneg (by omega), Int.add_emod_right]
    have e1 := Int.mul_tdiv_add_tmod a 65536
    have e2 : a.tmod 65536 = a - 65536 * a.tdiv 65536 := by omega
    rw [e2]
    exact Int.sub_mul_emod_self_left _ _ _
  have i0 : IntKind.i64.wrap (a.tmod 65536) = a.tmod 65536 := IntWalk.i64_in _ (by omega)
  have i1 : IntKind.i64.wrap (a.tmod 65536 + 65536) = a.tmod 65536 + 65536 := IntWalk.i64_in _ (by omega)
  have m := mod_bd a
  have i2 : IntKind.i64.wrap (a % 65536) = a % 65536 := IntWalk.i64_in _ (by omega)
  go_enter Try.func41, Try.ntmps41
  go_wp2
  go_ret
  exact ⟨rfl, rfl⟩

/-- three slices of numbers that grow side by side -/
structure Tri (w W : World) (v u r : Value) (xs ys zs : List Int) : Prop where
  r0 : W.ownsRow w.heap.size 3 1 v xs.length (xs.map (Value.int .i64))
  r1 : W.ownsRow w.heap.size 3 1 u ys.length (ys.map (Value.int .i64))
  r2 : W.ownsRow w.heap.size 3 1 r zs.length (zs.map (Value.int .i64))
  d0 : Apart u v
  d1 : Apart r v
  d2 : Apart r u
  b : Below w.heap.size w W
theorem Tri.new (w : World) : Tri w w (.slice none 0 0) (.slice none 0 0) (.slice none 0 0) [] [] [] :=
  ⟨World.ownsRow_nil _ _ _ _, World.ownsRow_nil _ _ _ _, World.ownsRow_nil _ _ _ _, fun k h => by simp [Value.ownBlock] at h, fun k h => by simp [Value.ownBlock] at h, fun k h => by simp [Value.ownBlock] at h, Below.refl _ _⟩
theorem Tri.g0 {w W w1 : World} {v u r v' : Value} {xs ys zs : List Int} {x : Int} {tmp : Obj} (h : Tri w W v u r xs ys zs) (hgrow : (W.alloc tmp).grownBy w1 v.ownBlock) (hown : w1.ownsRow w.heap.size 3 1 v' (xs.length + 1) (xs.map (Value.int .i64) ++ [.int .i64 x])) (hat : v'.ownBlock = v.ownBlock ∨ v'.ownBlock = some (W.alloc tmp).heap.size) :
    Tri w w1 v' u r (xs ++ [x]) ys zs := by
  obtain ⟨k1, k2, _, k4⟩ := pair_grown h.r0 h.r1 h.d0 h.b.size hgrow hown hat
  obtain ⟨m1, m2, _, _⟩ := pair_grown h.r0 h.r2 h.d1 h.b.size hgrow hown hat
  exact ⟨by simpa using hown, k1, m1, k2, m2, h.d2, h.b.trans k4⟩
theorem Tri.g1 {w W w1 : World} {v u r v' : Value} {xs ys zs : List Int} {x : Int} {tmp : Obj} (h : Tri w W v u r xs ys zs) (hgrow : (W.alloc tmp).grownBy w1 u.ownBlock) (hown : w1.ownsRow w.heap.size 3 1 v' (ys.length + 1) (ys.map (Value.int .i64) ++ [.int .i64 x])) (hat : v'.ownBlock = u.ownBlock ∨ v'.ownBlock = some (W.alloc tmp).heap.size) :
    Tri w w1 v v' r xs (ys ++ [x]) zs := by
  obtain ⟨k1, k2, _, k4⟩ := pair_grown h.r1 h.r0 h.d0.symm h.b.size hgrow hown hat
  obtain ⟨m1, m2, _, _⟩ := pair_grown h.r1 h.r2 h.d2 h.b.size hgrow hown hat
  exact ⟨k1, by simpa using hown, m1, k2.symm, h.d1, m2, h.b.trans k4⟩
theorem Tri.g2 {w W w1 : World} {v u r v' : Value} {xs ys zs : List Int} {x : Int} {tmp : Obj} (h : Tri w W v u r xs ys zs) (hgrow : (W.alloc tmp).grownBy w1 r.ownBlock) (hown : w1.ownsRow w.heap.size 3 1 v' (zs.length + 1) (zs.map (Value.int .i64) ++ [.int .i64 x])) (hat : v'.ownBlock = r.ownBlock ∨ v'.ownBlock = some (W.alloc tmp).heap.size) :
    Tri w w1 v u v' xs ys (zs ++ [x]) := by
  obtain ⟨k1, k2, _, k4⟩ := pair_grown h.r2 h.r0 h.d1.symm h.b.size hgrow hown hat
  obtain ⟨m1, m2, _, _⟩ := pair_grown h.r2 h.r1 h.d2.symm h.b.size hgrow hown hat
  exact ⟨k1, m1, by simpa using hown, h.d0, k2.symm, m2.symm, h.b.trans k4⟩

/-- Arc of parts of a turn that lie in a slice -/
theorem arc_row {W0 W : World} {n0 : Nat} {a : Option Addr} {m cap : Nat} {xs : List Int} (h : RowL n0 W0 (.slice a m cap) xs) (hm : xs.length = m) (h0 : 1 ≤ m) (hle : m ≤ 1000000) (hp : ∀ x, x ∈ xs → 0 ≤ x ∧ x ≤ 65535) (hb : Below W0.heap.size W0 W) :
    Calls Try.prog 25 #[.slice a m cap] W fun e w' => e = .returned (.tuple #[.int .i64 (arcB xs), .int .i64 (arcW xs), .int .i64 0]) ∧ Below W.heap.size W w' := by
  rcases h with ⟨_, h⟩ | ⟨b, off, c, he, _, hc⟩
  · rw [h] at hm; simp at hm; omega
  · simp only [Value.slice.injEq] at he
    obtain ⟨rfl, hmm, rfl⟩ := he
    refine arc_ok b off m cap xs W hm h0 hle (Nat.lt_of_lt_of_le (hc 0 (by omega)).2 hb.size) (fun j hj => keepB hb (hc j (by omega)).2 ((hc j (by omega)).1 (by omega))) (allP_true.2 fun j hj => ?_)
    rw [List.getElem?_eq_getElem (by omega)]
    exact hp _ (List.getElem_mem _)
/-- is the number met among the first k? -/
def metB (f : Nat → Int) (x : Int) : Nat → Bool
  | 0 => false
  | k + 1 => metB f x k || f k == x
/-- are the first k numbers all the same? -/
def sameB (f : Nat → Int) : Nat → Bool
  | 0 => true
  | k + 1 => sameB f k && f k == f 0
theorem metB_true {f : Nat → Int} {x : Int} : ∀ {k : Nat}, metB f x k = true ↔ ∃ j, j < k ∧ f j = x
  | 0 => by simp [metB]
  | k + 1 => by
    rw [metB, Bool.or_eq_true, metB_true (k := k), beq_iff_eq]
    constructor
    · rintro (⟨j, hj, e⟩ | e)
      · exact ⟨j, by omega, e⟩
      · exact ⟨k, by omega, e⟩
    · rintro ⟨j, hj, e⟩
      by_cases c : j = k
      · subst c; exact .inr e
      · exact .inl ⟨j, by omega, e⟩
theorem sameB_true {f : Nat → Int} : ∀ {k : Nat}, sameB f k = true ↔ ∀ j, j < k → f j = f 0
  | 0 => by simp [sameB]
  | k + 1 => by
    rw [sameB, Bool.and_eq_true, sameB_true (k := k), beq_iff_eq]
    constructor
    · rintro ⟨h, e⟩ j hj
      by_cases c : j = k
      · subst c; exact e
      · exact h j (by omega)
    · intro h
      exact ⟨fun j hj => h j (by omega), h k (by omega)⟩
/-- how far the first k numbers are behind x, at most -/
def farTo (f : Nat → Int) (x : Int) : Nat → Int
  | 0 => 0
  | k + 1 => max (farTo f x k) ((f k - x) % 65536)
theorem far_app (x : Int) : ∀ (l m : List Int), far x (l ++ m) = max (far x l) (far x m)
  | [], m => by have := far_bd x m; rw [List.nil_append, far]; omega
  | y :: l, m => by rw [List.cons_append, far, far_app x l m, far]; omega
theorem farTo_far (f : Nat → Int) (x : Int) : ∀ k, farTo f x k = far x (allTo f k)
  | 0 => rfl
  | k + 1 => by
    have h := far_bd x (allTo f k)
    rw [farTo, farTo_far f x k, allTo, far_app, far, far]
    omega
theorem farTo_bd (f : Nat → Int) (x : Int) (k : Nat) : 0 ≤ farTo f x k ∧ farTo f x k < 65536 := by rw [farTo_far]; exact far_bd _ _

end Go.Proofs.Ytmojnopgpgnfeaa
