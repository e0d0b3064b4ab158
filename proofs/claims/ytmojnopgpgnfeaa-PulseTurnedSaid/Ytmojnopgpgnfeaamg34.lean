/-
  Arcs of numbers that are wrong by a little: plain mathematics.
-/
import Derived.Test.Ytmojnopgpgnfeaamg32
import Derived.Test.Ytmojnopgpgnfeaamg29
import Derived.Test.Ytmojnopgpgnfeaamg2
namespace Go.Proofs.Ytmojnopgpgnfeaa
set_option linter.unusedVariables false

theorem list_min : ∀ {l : List Int}, l ≠ [] → ∃ m, m ∈ l ∧ ∀ u, u ∈ l → m ≤ u
  | [y], _ => ⟨y, List.mem_cons_self, fun z hz => by simp at hz; omega⟩
  | y :: z :: l, _ => by
    obtain ⟨m, hm, h⟩ := list_min (l := z :: l) (by simp)
    by_cases c : m ≤ y
    · refine ⟨m, List.mem_cons_of_mem _ hm, fun u hu => ?_⟩
      rcases List.mem_cons.1 hu with rfl | hu
      · exact c
      · exact h u hu
    · refine ⟨y, List.mem_cons_self, fun u hu => ?_⟩
      rcases List.mem_cons.1 hu with rfl | hu
      · exact Int.le_refl _
      · have := h u hu; omega
/-- numbers, less whole turns -/
def red (us : List Int) : List Int := us.map (· % 65536)
theorem red_mem {us : List Int} {x : Int} : x ∈ red us ↔ ∃ u, u ∈ us ∧ u % 65536 = x := by unfold red; exact List.mem_map
theorem arcW_red {us : List Int} {lo R : Int} (hu : ∀ u, u ∈ us → lo ≤ u ∧ u ≤ lo + R) (hR : 0 ≤ R) : arcW (red us) ≤ R := by
  by_cases hne : us = []
  · subst hne; show arcW [] ≤ R; rw [show arcW [] = 0 from rfl]; exact hR
  by_cases hb : 65536 ≤ R
  · have := arcW_bd (red us); omega
  obtain ⟨m, hm, hmin⟩ := list_min hne
  have h1 : far (m % 65536) (red us) ≤ R := far_sub hR fun x hx => by
    obtain ⟨u, hu1, rfl⟩ := red_mem.1 hx
    have := hmin u hu1
    have := hu u hu1
    have := hu m hm
    omega
  have hne2 : red us ≠ [] := by intro h; unfold red at h; simp at h; exact hne h
  have h2 := (arcV_is hne2).2.2 (m % 65536) (red_mem.2 ⟨m, hm, rfl⟩)
  omega
/-- where all numbers lie within less than half a turn, their arc is that of the numbers themselves -/
theorem arc_red {us : List Int} {lo R : Int} (hu : ∀ u, u ∈ us → lo ≤ u ∧ u ≤ lo + R) (hR : R < 32768) (hne : us ≠ []) : ∃ k : Int, ∀ u, u ∈ us → arcB (red us) + (u % 65536 - arcB (red us)) % 65536 = u + 65536 * k := by
  obtain ⟨m, hm, hmin⟩ := list_min hne
  have hne2 : red us ≠ [] := by intro h; unfold red at h; simp at h; exact hne h
  have hmm := hu m hm
  have key : ∀ u, u ∈ us → (u % 65536 - m % 65536) % 65536 = u - m := fun u hu1 => by
    have := hmin u hu1
    have := hu u hu1
    omega
  have hb : arcB (red us) = m % 65536 := by
    obtain ⟨W, hW, hWm⟩ : ∃ W, far (m % 65536) (red us) = W ∧ W < 32768 := ⟨_, rfl, by
      obtain ⟨x, hx, e⟩ := far_met (a := m % 65536) hne2
      obtain ⟨u, hu1, rfl⟩ := red_mem.1 hx
      rw [key u hu1] at e
      have := hu u hu1
      omega⟩
    refine (ArcIs.unique (l := red us) (b := m % 65536) (w := W) ⟨red_mem.2 ⟨m, hm, rfl⟩, hW, fun a ha => ?_⟩ (arcV_is hne2)).1.symm
    obtain ⟨u, hu1, rfl⟩ := red_mem.1 ha
    by_cases c : u = m
    · subst c; exact .inr ⟨hW.symm, Int.le_refl _⟩
    · left
      have h1 := far_le (a := u % 65536) (l := red us) (red_mem.2 ⟨m, hm, rfl⟩)
      have := hmin u hu1
      have := hu u hu1
      omega
  rw [hb]
  refine ⟨-(m / 65536), fun u hu1 => ?_⟩
  rw [key u hu1]
  omega
theorem sumT_take (b : Int) (xs : List Int) : ∀ k, k ≤ xs.length → sumT b xs k = ((xs.take k).map fun x => b + (x - b) % 65536).sum
  | 0, _ => by simp [sumT]
  | k + 1, h => by
    rw [sumT, sumT_take b xs k (by omega), List.take_succ_eq_append_getElem (by omega), List.map_append, List.sum_append, List.getElem?_eq_getElem (by omega)]
    simp
theorem sumT_all (b : Int) (xs : List Int) : sumT b xs xs.length = (xs.map fun x => b + (x - b) % 65536).sum := by
  rw [sumT_take b xs _ (Nat.le_refl _), List.take_of_length_le (Nat.le_refl _)]
theorem sum_add_const {k : Int} {f : Int → Int} : ∀ {us : List Int}, (∀ u, u ∈ us → f u = u + k) → (us.map f).sum = us.sum + us.length * k
  | [], _ => by simp
  | u :: us, h => by
    rw [List.map_cons, List.sum_cons, List.sum_cons, h u List.mem_cons_self, sum_add_const (us := us) fun x hx => h x (List.mem_cons_of_mem _ hx), List.length_cons]
    have : ((us.length + 1 : Nat) : Int) * k = us.length * k + k := by rw [show ((us.length + 1 : Nat) : Int) = (us.length : Int) + 1 by omega, Int.add_mul, Int.one_mul]
    rw [this]; omega
theorem sumT_red {us : List Int} {lo R : Int} (hu : ∀ u, u ∈ us → lo ≤ u ∧ u ≤ lo + R) (hR : R < 32768) (hne : us ≠ []) : ∃ k : Int, sumT (arcB (red us)) (red us) (red us).length = us.sum + us.length * (65536 * k) := by
  obtain ⟨k, hk⟩ := arc_red hu hR hne
  refine ⟨k, ?_⟩
  rw [sumT_all]
  show ((us.map (· % 65536)).map _).sum = _
  rw [List.map_map]
  exact sum_add_const (f := (fun x => arcB (red us) + (x - arcB (red us)) % 65536) ∘ (· % 65536)) hk
/-- numbers that are wrong by so much -/
def offs (b : Int) : List Int → List Int → List Int
  | x :: xs, d :: ds => (b + (x - b) % 65536 + d) :: offs b xs ds
  | _, _ => []
def wrong : List Int → List Int → List Int
  | x :: xs, d :: ds => (x + d) % 65536 :: wrong xs ds
  | _, _ => []
theorem red_offs (b : Int) : ∀ xs ds, red (offs b xs ds) = wrong xs ds
  | x :: xs, d :: ds => by
    rw [offs, wrong]
    show (_ % 65536) :: red (offs b xs ds) = _
    rw [red_offs b xs ds]
    congr 1
    omega
  | [], _ => rfl
  | _ :: _, [] => rfl
theorem offs_bd {b w D : Int} : ∀ {xs ds : List Int}, (∀ x, x ∈ xs → (x - b) % 65536 ≤ w) → (∀ d, d ∈ ds → -D ≤ d ∧ d ≤ D) → ∀ u, u ∈ offs b xs ds → b - D ≤ u ∧ u ≤ b - D + (w + 2 * D)
  | x :: xs, d :: ds, hx, hd, u, hu => by
    rw [offs] at hu
    rcases List.mem_cons.1 hu with rfl | hu
    · have := hx x List.mem_cons_self
      have := hd d List.mem_cons_self
      omega
    · exact offs_bd (fun x hx2 => hx x (List.mem_cons_of_mem _ hx2)) (fun d hd2 => hd d (List.mem_cons_of_mem _ hd2)) u hu
  | [], _, _, _, u, hu => by cases hu
  | _ :: _, [], _, _, u, hu => by cases hu
theorem offs_len {b : Int} : ∀ {xs ds : List Int}, xs.length = ds.length → (offs b xs ds).length = xs.length
  | x :: xs, d :: ds, h => by rw [offs, List.length_cons, List.length_cons, offs_len (by simpa using h)]
  | [], _, _ => rfl
  | _ :: _, [], h => by simp at h
theorem wrong_len : ∀ {xs ds : List Int}, xs.length = ds.length → (wrong xs ds).length = xs.length
  | x :: xs, d :: ds, h => by rw [wrong, List.length_cons, List.length_cons, wrong_len (by simpa using h)]
  | [], _, _ => rfl
  | _ :: _, [], h => by simp at h
theorem offs_sum {b : Int} : ∀ {xs ds : List Int}, xs.length = ds.length → (offs b xs ds).sum = (xs.map fun x => b + (x - b) % 65536).sum + ds.sum
  | x :: xs, d :: ds, h => by
    rw [offs, List.sum_cons, List.map_cons, List.sum_cons, List.sum_cons, offs_sum (by simpa using h)]
    omega
  | [], [], _ => rfl
  | _ :: _, [], h => by simp at h
  | [], _ :: _, h => by simp at h
theorem wrong_append : ∀ {xs ds ys es : List Int}, xs.length = ds.length → wrong (xs ++ ys) (ds ++ es) = wrong xs ds ++ wrong ys es
  | x :: xs, d :: ds, ys, es, h => by
    rw [List.cons_append, List.cons_append, wrong, wrong, wrong_append (by simpa using h)]; rfl
  | [], [], _, _, _ => rfl
  | _ :: _, [], _, _, h => by simp at h
  | [], _ :: _, _, _, h => by simp at h
theorem wrong_back : ∀ {xs ds : List Int}, xs.length = ds.length → (∀ x, x ∈ xs → 0 ≤ x ∧ x < 65536) → wrong (wrong xs ds) (ds.map (- ·)) = xs
  | x :: xs, d :: ds, h, hp => by
    rw [wrong, List.map_cons, wrong, wrong_back (by simpa using h) fun y hy => hp y (List.mem_cons_of_mem _ hy)]
    have := hp x List.mem_cons_self
    congr 1
    omega
  | [], [], _, _ => rfl
  | _ :: _, [], h, _ => by simp at h
  | [], _ :: _, h, _ => by simp at h
theorem wrong_part : ∀ {xs ds : List Int} (x : Int), x ∈ wrong xs ds → 0 ≤ x ∧ x < 65536
  | x :: xs, d :: ds, y, h => by
    rw [wrong] at h
    rcases List.mem_cons.1 h with rfl | h
    · omega
    · exact wrong_part y h
  | [], _, y, h => by cases h
  | _ :: _, [], y, h => by cases h
theorem wrong_width1 {D : Int} {xs ds : List Int} (hD : 0 ≤ D) (hd : ∀ d, d ∈ ds → -D ≤ d ∧ d ≤ D) : arcW (wrong xs ds) ≤ arcW xs + 2 * D := by
  rw [← red_offs (arcB xs)]
  refine arcW_red (lo := arcB xs - D) (offs_bd (fun x hx => (arc_each hx).1) hd) ?_
  have := arcW_bd xs; omega
theorem wrong_width2 {D : Int} {xs ds : List Int} (hD : 0 ≤ D) (hl : xs.length = ds.length) (hp : ∀ x, x ∈ xs → 0 ≤ x ∧ x < 65536) (hd : ∀ d, d ∈ ds → -D ≤ d ∧ d ≤ D) : arcW xs ≤ arcW (wrong xs ds) + 2 * D := by
  have h := wrong_width1 (xs := wrong xs ds) (ds := ds.map (- ·)) hD fun d hd2 => by
    obtain ⟨e, he, rfl⟩ := List.mem_map.1 hd2
    have := hd e he; omega
  rw [wrong_back hl hp] at h
  exact h
/-- the mean of what is true lies within the mean of what is known -/
theorem mean_wrong {D sl : Int} {xs ds : List Int} (hD : 0 ≤ D) (hl : xs.length = ds.length) (hd : ∀ d, d ∈ ds → -D ≤ d ∧ d ≤ D) (hw : arcW xs + 2 * D < 32768) (hs : -sl ≤ ds.sum ∧ ds.sum ≤ sl) (h1 : xs ≠ [] → sl ≤ 8192 * xs.length) :
    turnP (meanLo (arcB (wrong xs ds)) (wrong xs ds) 0) (meanHi (arcB (wrong xs ds)) (wrong xs ds) 0) (meanLo (arcB xs) xs sl) (meanHi (arcB xs) xs sl) := by
  by_cases h : xs = []
  · subst h
    have e : wrong [] ds = [] := rfl
    rw [e]
    unfold meanLo meanHi
    rw [if_pos rfl, if_pos rfl, if_pos rfl, if_pos rfl]; exact ⟨0, by decide, by decide, by decide, by decide, by decide⟩
  · have hl0 : 0 < (xs.length : Int) := by have := List.length_pos_iff.2 h; omega
    have hwl := wrong_len hl
    have hw2 : wrong xs ds ≠ [] := by intro e; rw [e] at hwl; simp at hwl; omega
    have hol := offs_len (b := arcB xs) hl
    have ho : offs (arcB xs) xs ds ≠ [] := by intro e; rw [e] at hol; simp at hol; omega
    obtain ⟨k, hk⟩ := sumT_red (us := offs (arcB xs) xs ds) (offs_bd (fun x hx => (arc_each hx).1) hd) hw ho
    rw [red_offs, hol, offs_sum hl, ← sumT_all] at hk
    unfold meanLo meanHi
    rw [if_neg hw2, if_neg hw2, if_neg h, if_neg h, hk, hwl]
    obtain ⟨S, hS⟩ : ∃ S, S = sumT (arcB xs) xs xs.length := ⟨_, rfl⟩
    obtain ⟨n, hn⟩ : ∃ n : Int, n = xs.length := ⟨_, rfl⟩
    obtain ⟨t, ht⟩ : ∃ t, t = ds.sum := ⟨_, rfl⟩
    rw [← hS, ← hn, ← ht]
    rw [← hn] at hl0
    rw [← ht] at hs
    have e1 : (S + t + n * (65536 * k) - 0) / n = (S + t) / n + 65536 * k := by
      rw [Int.sub_zero, Int.add_mul_ediv_left _ _ (by omega)]
    have e2 : -(S + t + n * (65536 * k) + 0) / n = -(S + t) / n - 65536 * k := by
      rw [Int.add_zero, show -(S + t + n * (65536 * k)) = -(S + t) + n * (-(65536 * k)) by rw [Int.mul_neg]; omega, Int.add_mul_ediv_left _ _ (by omega)]
      omega
    rw [e1, e2]
    have q := mean_width (S := S) (sl := sl) (M := 8192) (n := n) hl0 (by omega) (by rw [hn]; exact h1 h)
    have q2 := down_up (a := S + t) hl0
    have q3 : (S - sl) / n ≤ (S + t) / n := Int.ediv_le_ediv hl0 (by omega)
    have q4 : -(S + sl) / n ≤ -(S + t) / n := Int.ediv_le_ediv hl0 (by omega)
    have e3 : unw ((S + t) / n + 65536 * k) = unw ((S + t) / n) := by unfold unw; omega
    have r := span_turn (l := (S + t) / n) (h := -(-(S + t) / n)) (L := (S - sl) / n) (H := -(-(S + sl) / n)) q3 q2 (by omega) (by omega)
    rw [e3]
    have e4 : unw ((S + t) / n) + -(-(S + t) / n - 65536 * k) - ((S + t) / n + 65536 * k) = unw ((S + t) / n) + -(-(S + t) / n) - (S + t) / n := by omega
    rw [e4]
    exact r
end Go.Proofs.Ytmojnopgpgnfeaa

namespace Go.Proofs.Ytmojnopgpgnfeaa
set_option linter.unusedVariables false

/-- numbers of steps, each behind its time -/
def stF (f : Nat → Int) (kd c : Int) (i : Nat) : List (Bool × Int) := if kd = 2 ∧ (i : Int) = c / 2 - 1 then [] else [(tbB kd c i, f i)]
def stFTo (f : Nat → Int) (kd c : Int) : Nat → List (Bool × Int)
  | 0 => []
  | i + 1 => stFTo f kd c i ++ stF f kd c i
theorem stp_is (zs : Nat → Smp) (kd c : Int) : ∀ k, stpTo zs kd c k = stFTo (fun i => ((zs (i + 1)).p - (zs i).p) % 65536) kd c k
  | 0 => rfl
  | k + 1 => by rw [stpTo, stFTo, stp_is zs kd c k]; rfl
theorem valsB_app (a b : List (Bool × Int)) (t : Bool) : valsB (a ++ b) t = valsB a t ++ valsB b t := by unfold valsB; rw [List.filter_append, List.map_append]
theorem vals_stF (f : Nat → Int) (kd c : Int) (i : Nat) (t : Bool) : valsB (stF f kd c i) t = if (kd = 2 ∧ (i : Int) = c / 2 - 1) ∨ tbB kd c i ≠ t then [] else [f i] := by
  unfold stF
  by_cases h : kd = 2 ∧ (i : Int) = c / 2 - 1
  · rw [if_pos h, if_pos (.inl h)]; rfl
  · rw [if_neg h]
    by_cases h2 : tbB kd c i = t
    · rw [if_neg (by intro h3; rcases h3 with h3 | h3; exact h h3; exact h3 h2)]
      simp [valsB, h2]
    · rw [if_pos (.inr h2)]
      simp [valsB, h2]
theorem st_wrong {f g e : Nat → Int} (kd c : Int) (t : Bool) : ∀ {k : Nat}, (∀ i, i < k → g i = (f i + e i) % 65536) → valsB (stFTo g kd c k) t = wrong (valsB (stFTo f kd c k) t) (valsB (stFTo e kd c k) t) ∧ (valsB (stFTo f kd c k) t).length = (valsB (stFTo e kd c k) t).length
  | 0, _ => ⟨rfl, rfl⟩
  | k + 1, h => by
    obtain ⟨h1, h2⟩ := st_wrong (f := f) (g := g) (e := e) kd c t (k := k) fun i hi => h i (by omega)
    rw [stFTo, stFTo, stFTo, valsB_app, valsB_app, valsB_app, wrong_append h2, h1, List.length_append, List.length_append, h2, vals_stF, vals_stF, vals_stF]
    split
    · exact ⟨rfl, rfl⟩
    · rw [h k (by omega)]; exact ⟨rfl, rfl⟩
theorem st_mem {e : Nat → Int} {kd c : Int} {t : Bool} {d : Int} : ∀ {k : Nat}, d ∈ valsB (stFTo e kd c k) t → ∃ i, i < k ∧ d = e i
  | 0, h => by cases h
  | k + 1, h => by
    rw [stFTo, valsB_app, List.mem_append, vals_stF] at h
    rcases h with h | h
    · obtain ⟨i, hi, e1⟩ := st_mem h
      exact ⟨i, by omega, e1⟩
    · split at h
      · cases h
      · simp at h; exact ⟨k, by omega, h⟩
theorem sum_bd {D : Int} : ∀ {ds : List Int}, (∀ d, d ∈ ds → -D ≤ d ∧ d ≤ D) → -(D * ds.length) ≤ ds.sum ∧ ds.sum ≤ D * ds.length
  | [], _ => by simp
  | d :: ds, h => by
    have h1 := sum_bd (ds := ds) fun x hx => h x (List.mem_cons_of_mem _ hx)
    have h2 := h d List.mem_cons_self
    rw [List.sum_cons, List.length_cons]
    have : D * ((ds.length + 1 : Nat) : Int) = D * ds.length + D := by rw [show ((ds.length + 1 : Nat) : Int) = (ds.length : Int) + 1 by omega, Int.mul_add, Int.mul_one]
    omega
/-- differences that follow each other fall out -/
theorem st_fall (e : Nat → Int) (kd c : Int) (h3 : kd ≠ 3) (h2 : kd = 2 → 4 ≤ c) : ∀ k : Nat,
    (∃ i, i ≤ k ∧ (valsB (stFTo (fun i => e (i + 1) - e i) kd c k) false).sum = e i - e 0 ∧ (kd ≠ 2 → i = k) ∧ (kd = 2 → ((k : Int) ≤ c / 2 - 1 → i = k))) ∧
    (∃ i j, i ≤ k ∧ j ≤ k ∧ (valsB (stFTo (fun i => e (i + 1) - e i) kd c k) true).sum = e i - e j ∧ (kd = 2 → (c / 2 ≤ (k : Int) → i = k)))
  | 0 => ⟨⟨0, by omega, by simp [stFTo, valsB], fun _ => rfl, fun _ _ => rfl⟩, ⟨0, 0, by omega, by omega, by simp [stFTo, valsB], fun h h' => rfl⟩⟩
  | k + 1 => by
    obtain ⟨⟨i, hi, e1, a1, a2⟩, ⟨i2, j2, hi2, hj2, e2, b1⟩⟩ := st_fall e kd c h3 h2 k
    rw [stFTo, valsB_app, valsB_app, List.sum_append, List.sum_append, vals_stF, vals_stF]
    by_cases hk : kd = 2
    · have hc := h2 hk
      have ht : tbB kd c k = decide (c / 2 ≤ (k : Int)) := by unfold tbB; rw [if_pos hk]
      rw [ht]
      by_cases c1 : (k : Int) = c / 2 - 1
      · rw [if_pos (.inl ⟨hk, c1⟩), if_pos (.inl ⟨hk, c1⟩)]
        refine ⟨⟨i, by omega, by simpa using e1, fun h => absurd hk h, fun _ h => by omega⟩, ?_⟩
        have e3 : (valsB (stFTo (fun i => e (i + 1) - e i) kd c k) true) = [] := by
          refine List.eq_nil_iff_forall_not_mem.2 fun x hx => ?_
          exact absurd hx (by
            have : ∀ m, m ≤ k → x ∉ valsB (stFTo (fun i => e (i + 1) - e i) kd c m) true := by
              intro m
              induction m with
              | zero => intro _ h; cases h
              | succ m ih =>
                intro hm h
                rw [stFTo, valsB_app, List.mem_append, vals_stF] at h
                rcases h with h | h
                · exact ih (by omega) h
                · rw [if_pos (.inr (by unfold tbB; rw [if_pos hk, decide_eq_false (by omega)]; simp))] at h
                  cases h
            exact this k (Nat.le_refl _))
        rw [e3]
        exact ⟨k + 1, k + 1, by omega, by omega, by simp, fun _ _ => rfl⟩
      · by_cases c2 : c / 2 ≤ (k : Int)
        · have b2 := b1 hk c2
          subst b2
          rw [decide_eq_true c2, if_pos (.inr (by simp)), if_neg (by rintro (h | h); exact c1 h.2; exact h rfl)]
          refine ⟨⟨i, by omega, by simpa using e1, fun h => absurd hk h, fun _ h => by omega⟩, ⟨i2 + 1, j2, by omega, by omega, ?_, fun _ _ => rfl⟩⟩
          rw [e2, List.sum_cons, List.sum_nil]; omega
        · have a3 := a2 hk (by omega)
          subst a3
          rw [decide_eq_false c2, if_neg (by rintro (h | h); exact c1 h.2; exact h rfl), if_pos (.inr (by simp))]
          refine ⟨⟨i + 1, by omega, ?_, fun h => absurd hk h, fun _ _ => rfl⟩, ⟨i2, j2, by omega, by omega, by simpa using e2, fun _ h => by omega⟩⟩
          rw [e1, List.sum_cons, List.sum_nil]; omega
    · have ht : tbB kd c k = false := by unfold tbB; rw [if_neg hk, if_neg h3]
      have a3 := a1 hk
      subst a3
      rw [ht, if_neg (by rintro (h | h); exact hk h.1; exact h rfl), if_pos (.inr (by simp))]
      refine ⟨⟨i + 1, by omega, ?_, fun _ => rfl, fun h => absurd h hk⟩, ⟨i2, j2, by omega, by omega, by simpa using e2, fun h => absurd h hk⟩⟩
      rw [e1, List.sum_cons, List.sum_nil]; omega
theorem st_slack {e : Nat → Int} {kd c ph : Int} {k : Nat} {t : Bool} (h2 : kd = 2 → 4 ≤ c) (he : ∀ i, i ≤ k → -ph ≤ e i ∧ e i ≤ ph) (xs : List Int) (hl : xs.length = (valsB (stFTo (fun i => e (i + 1) - e i) kd c k) t).length) :
    -slk kd ph xs ≤ (valsB (stFTo (fun i => e (i + 1) - e i) kd c k) t).sum ∧ (valsB (stFTo (fun i => e (i + 1) - e i) kd c k) t).sum ≤ slk kd ph xs := by
  unfold slk
  by_cases h3 : kd = 3
  · rw [if_pos h3, hl]
    refine sum_bd fun d hd => ?_
    obtain ⟨i, hi, rfl⟩ := st_mem hd
    have := he i (by omega)
    have := he (i + 1) (by omega)
    omega
  · rw [if_neg h3]
    obtain ⟨⟨i, hi, e1, _, _⟩, ⟨i2, j2, hi2, hj2, e2, _⟩⟩ := st_fall e kd c h3 h2 k
    cases t
    · rw [e1]
      have := he i hi
      have := he 0 (by omega)
      omega
    · rw [e2]
      have := he i2 hi2
      have := he j2 hj2
      omega
theorem trn_wrong {zs ys : Nat → Smp} {e : Nat → Int} : ∀ {k : Nat}, (∀ i, i < k → ((ys i).q - (ys i).p) % 65536 = (((zs i).q - (zs i).p) % 65536 + e i) % 65536) → trnTo ys k = wrong (trnTo zs k) (allTo e k)
  | 0, _ => rfl
  | k + 1, h => by
    rw [trnTo, trnTo, allTo, wrong_append (by rw [trnTo_len, allTo_len]), trn_wrong (k := k) fun i hi => h i (by omega), h k (by omega)]
    rfl

/-- what is true of samples -/
structure Tru (lv ph : Int) (n : Nat) (zs ys : Nat → Smp) (ep eq : Nat → Int) : Prop where
  h : ∀ i, i < n → mg (-lv) (zs i).h ≤ (ys i).h ∧ (ys i).h ≤ mg lv (zs i).h ∧ (ys i).h ≤ 1023
  v : ∀ i, i < n → mg (-lv) (zs i).v ≤ (ys i).v ∧ (ys i).v ≤ mg lv (zs i).v ∧ (ys i).v ≤ 1023
  p : ∀ i, i < n → (ys i).p = ((zs i).p + ep i) % 65536
  q : ∀ i, i < n → (ys i).q = ((zs i).q + eq i) % 65536
  e : ∀ i, (-ph ≤ ep i ∧ ep i ≤ ph) ∧ (-ph ≤ eq i ∧ eq i ≤ ph)
theorem slk_zero (kd : Int) (xs : List Int) : slk kd 0 xs = 0 := by unfold slk; split <;> simp
theorem true_all {lv ph : Int} {n : Nat} {zs ys : Nat → Smp} {ep eq : Nat → Int} (t : Tru lv ph n zs ys ep eq) : ∀ k, k ≤ n → allS ys k = true
  | 0, _ => rfl
  | k + 1, h => by
    rw [allS, true_all t k (by omega)]
    unfold smpB
    have h1 := t.h k (by omega)
    have h2 := t.v k (by omega)
    have h3 := t.p k (by omega)
    have h4 := t.q k (by omega)
    have n1 : 0 ≤ mg (-lv) (zs k).h := mx_nn _
    have n2 : 0 ≤ mg (-lv) (zs k).v := mx_nn _
    rw [inB_true.2 (by omega), inB_true.2 (by omega), inB_true.2 (by omega), inB_true.2 (by omega)]; rfl
theorem mg0 {x : Int} (h : 0 ≤ x) : mg (-0) x = x ∧ mg 0 x = x := by unfold mg mx; constructor <;> (split <;> omega)
theorem truth_within {l kd f s c lv ph n0 n1 N : Int} {n : Nat} {zs ys : Nat → Smp} {ep eq : Nat → Int} (ht : trainC l kd f s c = 0) (hr : recvC lv ph n0 n1 = 0) (hn : (n : Int) = c) (ha : allS zs n = true)
    (t : Tru lv ph n zs ys ep eq) (hN : n0 ≤ N ∧ N ≤ n1) :
    recvC 0 0 N N = 0 ∧ allS ys n = true ∧ WithinP (hearOf l kd c 0 0 N N n ys) (hearOf l kd c lv ph n0 n1 n zs) ∧
      (hearOf l kd c 0 0 N N n ys 0 = 1 ∨ hearOf l kd c lv ph n0 n1 n zs 0 = 1 ∨ (hearOf l kd c 0 0 N N n ys 7 - hearOf l kd c lv ph n0 n1 n zs 7 ≤ 4 * ph ∧ hearOf l kd c lv ph n0 n1 n zs 7 - hearOf l kd c 0 0 N N n ys 7 ≤ 4 * ph)) := by
  obtain ⟨⟨t1, t2⟩, t3⟩ := train_ok ht
  obtain ⟨r1, r2, r3⟩ := recv_ok hr
  have hz := lev_ok ha
  have hay := true_all t n (Nat.le_refl _)
  have hzy := lev_ok hay
  have hlc : ((trnTo zs n).length : Int) = c := by rw [trnTo_len]; exact hn
  have hlc' : ((trnTo ys n).length : Int) = c := by rw [trnTo_len]; exact hn
  have ay := amt_of (zs := zs) (c := c) (n0 := n0) (n1 := n1) r1 (by omega) hn (by omega) hz ⟨by omega, by omega⟩
  have ax := amt_of (zs := ys) (c := c) (n0 := N) (n1 := N) (lv := 0) ⟨by omega, by omega⟩ (by omega) hn (by omega) hzy ⟨by omega, by omega⟩
  have a0 : ∀ i, i < n → 0 ≤ (ys i).h ∧ 0 ≤ (ys i).v := fun i hi => ⟨(hzy i hi).1, (hzy i hi).2.2.1⟩
  have H1 : ∀ i, i < n → mg (-lv) (zs i).h ≤ mg (-0) (ys i).h := fun i hi => by rw [(mg0 (a0 i hi).1).1]; exact (t.h i hi).1
  have H2 : ∀ i, i < n → mg 0 (ys i).h ≤ mg lv (zs i).h := fun i hi => by rw [(mg0 (a0 i hi).1).2]; exact (t.h i hi).2.1
  have V1 : ∀ i, i < n → mg (-lv) (zs i).v ≤ mg (-0) (ys i).v := fun i hi => by rw [(mg0 (a0 i hi).2).1]; exact (t.v i hi).1
  have V2 : ∀ i, i < n → mg 0 (ys i).v ≤ mg lv (zs i).v := fun i hi => by rw [(mg0 (a0 i hi).2).2]; exact (t.v i hi).2.1
  have nest : Nest (sumF (sqH zs (-lv)) n) (sumF (sqV zs (-lv)) n) (sumF (prd zs (-lv)) n) (sumF (sqH zs lv) n) (sumF (sqV zs lv) n) (sumF (prd zs lv) n) (sumF (sqH ys (-0)) n) (sumF (sqV ys (-0)) n) (sumF (prd ys (-0)) n) (sumF (sqH ys 0) n) (sumF (sqV ys 0) n) (sumF (prd ys 0) n) :=
    ⟨ax.s, ay.s, ⟨sumF_mono fun i hi => sq_le (mx_nn _) (H1 i hi), sumF_mono fun i hi => sq_le (mx_nn _) (H2 i hi)⟩, ⟨sumF_mono fun i hi => sq_le (mx_nn _) (V1 i hi), sumF_mono fun i hi => sq_le (mx_nn _) (V2 i hi)⟩,
      ⟨sumF_mono fun i hi => Int.mul_le_mul (H1 i hi) (V1 i hi) (mx_nn _) (mx_nn _), sumF_mono fun i hi => Int.mul_le_mul (H2 i hi) (V2 i hi) (mx_nn _) (mx_nn _)⟩⟩
  have pH := pow_nest (c := c) (n0 := n0) (n1 := n1) (n0' := N) (n1' := N) (by omega) ay.s.a.1 nest.a.1 ax.s.a.2 nest.a.2 hN.1 (Int.le_refl _) hN.2
  have pV := pow_nest (c := c) (n0 := n0) (n1 := n1) (n0' := N) (n1' := N) (by omega) ay.s.b.1 nest.b.1 ax.s.b.2 nest.b.2 hN.1 (Int.le_refl _) hN.2
  -- the phases
  have hst : ∀ i, i < n - 1 → ((ys (i + 1)).p - (ys i).p) % 65536 = ((((zs (i + 1)).p - (zs i).p) % 65536) + (ep (i + 1) - ep i)) % 65536 := fun i hi => by
    rw [t.p i (by omega), t.p (i + 1) (by omega)]; omega
  have htr : ∀ i, i < n → ((ys i).q - (ys i).p) % 65536 = (((zs i).q - (zs i).p) % 65536 + (eq i - ep i)) % 65536 := fun i hi => by
    rw [t.p i hi, t.q i hi]; omega
  have S0 := st_wrong kd c false hst
  have S1 := st_wrong kd c true hst
  have S2 := trn_wrong htr
  have dS : ∀ b, ∀ d, d ∈ valsB (stFTo (fun i => ep (i + 1) - ep i) kd c (n - 1)) b → -(2 * ph) ≤ d ∧ d ≤ 2 * ph := fun b d hd => by
    obtain ⟨i, hi, rfl⟩ := st_mem hd
    have := (t.e i).1
    have := (t.e (i + 1)).1
    omega
  have dT : ∀ d, d ∈ allTo (fun i => eq i - ep i) n → -(2 * ph) ≤ d ∧ d ≤ 2 * ph := fun d hd => by
    obtain ⟨i, hi, rfl⟩ := allTo_mem.1 hd
    have := (t.e i).1
    have := (t.e i).2
    omega
  rw [← stp_is, ← stp_is] at S0 S1
  have pS : ∀ b, ∀ x, x ∈ valsB (stpTo zs kd c (n - 1)) b → 0 ≤ x ∧ x < 65536 := fun b x hx => by
    rw [stp_is] at hx
    obtain ⟨i, hi, rfl⟩ := st_mem hx
    omega
  have w0 := wrong_width1 (xs := valsB (stpTo zs kd c (n - 1)) false) (show 0 ≤ 2 * ph by omega) (dS false)
  have w1 := wrong_width1 (xs := valsB (stpTo zs kd c (n - 1)) true) (show 0 ≤ 2 * ph by omega) (dS true)
  have w2 := wrong_width1 (xs := trnTo zs n) (show 0 ≤ 2 * ph by omega) dT
  have v0 := wrong_width2 (show 0 ≤ 2 * ph by omega) S0.2 (pS false) (dS false)
  have v1 := wrong_width2 (show 0 ≤ 2 * ph by omega) S1.2 (pS true) (dS true)
  rw [← S0.1] at w0 v0
  rw [← S1.1] at w1 v1
  rw [← S2] at w2
  have hph : togB ph (valsB (stpTo zs kd c (n - 1)) false) (valsB (stpTo zs kd c (n - 1)) true) (trnTo zs n) = true → PhW kd ph c (valsB (stpTo zs kd c (n - 1)) false) (valsB (stpTo zs kd c (n - 1)) true) (trnTo zs n) 0 (valsB (stpTo ys kd c (n - 1)) false) (valsB (stpTo ys kd c (n - 1)) true) (trnTo ys n) := fun hg => by
    rw [togB_true] at hg
    have m0 := mean_wrong (sl := slk kd ph (valsB (stpTo zs kd c (n - 1)) false)) (show 0 ≤ 2 * ph by omega) S0.2 (dS false) (by omega) (st_slack (fun h => (t3 h).1) (fun i _ => (t.e i).1) _ S0.2) ((slk_le r2).2)
    have m1 := mean_wrong (sl := slk kd ph (valsB (stpTo zs kd c (n - 1)) true)) (show 0 ≤ 2 * ph by omega) S1.2 (dS true) (by omega) (st_slack (fun h => (t3 h).1) (fun i _ => (t.e i).1) _ S1.2) ((slk_le r2).2)
    have q2 := trn_le (xs := trnTo zs n) r2 hlc
    have m2 := mean_wrong (sl := 2 * ph * c) (xs := trnTo zs n) (ds := allTo (fun i => eq i - ep i) n) (show 0 ≤ 2 * ph by omega) (by rw [trnTo_len, allTo_len]) dT (by omega) (by
      have h := sum_bd dT
      rw [allTo_len, hn] at h
      exact h) (fun _ => q2.2)
    rw [← S0.1] at m0
    rw [← S1.1] at m1
    rw [← S2] at m2
    refine ⟨togB_true.2 (by omega), ?_, ?_, ?_⟩
    · rw [slk_zero]; exact m0
    · rw [slk_zero]; exact m1
    · rw [show 2 * (0 : Int) * c = 0 by simp]; exact m2
  refine ⟨?_, hay, within_nest ay ax ⟨pH.2.1, pH.2.2.2⟩ ⟨pV.2.1, pV.2.2.2⟩ nest (fun _ => means_of r2 hlc) (fun _ => means_of ⟨by omega, by omega⟩ hlc') hph, ?_⟩
  · unfold recvC
    rw [if_pos]
    unfold rcv
    omega
  · unfold hearOf
    rw [hearE_eq ⟨ay.h.1, ay.h.2.1⟩, hearE_eq ⟨ax.h.1, ax.h.2.1⟩]
    by_cases g1 : mx (sumF (sqH ys (-0)) n / c - N) = 0
    · rw [if_pos g1]; exact .inl rfl
    · by_cases g2 : mx (sumF (sqH zs (-lv)) n / c - n1) = 0
      · rw [if_pos g2]; exact .inr (.inl rfl)
      · rw [if_neg g1, if_neg g2, phG_eq, phG_eq]
        right; right
        have e : mxx (arcW (valsB (stpTo ys kd c (n - 1)) false)) (arcW (valsB (stpTo ys kd c (n - 1)) true)) - mxx (arcW (valsB (stpTo zs kd c (n - 1)) false)) (arcW (valsB (stpTo zs kd c (n - 1)) true)) ≤ 4 * ph ∧ mxx (arcW (valsB (stpTo zs kd c (n - 1)) false)) (arcW (valsB (stpTo zs kd c (n - 1)) true)) - mxx (arcW (valsB (stpTo ys kd c (n - 1)) false)) (arcW (valsB (stpTo ys kd c (n - 1)) true)) ≤ 4 * ph := by
          unfold mxx; omega
        split <;> split <;> exact e
end Go.Proofs.Ytmojnopgpgnfeaa

namespace Go.Proofs.Ytmojnopgpgnfeaa
open Go.RowKit
set_option linter.unusedVariables false
set_option linter.unusedSimpArgs false

theorem off_any (a n : Int) (w : World) (ha : 0 ≤ a ∧ a < 65536) (hn : 0 ≤ n ∧ n ≤ 4096) :
    Calls Try.prog 76 #[.int .u16 a, .int .i64 n] w fun e w' => e = .returned (.int .i64 (a % (2 * n + 1) - n)) ∧ w = w' := by
  have i1 : IntKind.i64.wrap (2 * n) = 2 * n := IntWalk.i64_in _ (by omega)
  have i2 : IntKind.i64.wrap (2 * n + 1) = 2 * n + 1 := IntWalk.i64_in _ (by omega)
  obtain ⟨m, hm⟩ : ∃ m, m = 2 * n + 1 := ⟨_, rfl⟩
  rw [← hm]
  have hm1 : 1 ≤ m ∧ m ≤ 8193 := by omega
  have t1 : a.tmod m = a % m := Int.tmod_eq_emod_of_nonneg ha.1
  have t2 : 0 ≤ a % m ∧ a % m < m := ⟨Int.emod_nonneg _ (by omega), Int.emod_lt_of_pos _ (by omega)⟩
  obtain ⟨r, hr⟩ : ∃ r, r = a % m := ⟨_, rfl⟩
  rw [← hr] at t1 t2 ⊢
  have i3 : IntKind.i64.wrap (r - n) = r - n := IntWalk.i64_in _ (by omega)
  have i4 : IntKind.i64.wrap r = r := IntWalk.i64_in _ (by omega)
  have e0 : (m == 0) = false := beq_eq_false_iff_ne.2 (by omega)
  have hm' : 2 * n + 1 = m := hm.symm
  clear hr hm
  go_enter Try.func76, Try.ntmps76
  go_wp2
  go_ret
  exact ⟨rfl, rfl⟩

/-- by how much a number is wrong -/
def offV (a n : Int) : Int := a % (2 * n + 1) - n
theorem offV_bd {a n : Int} (hn : 0 ≤ n) : -n ≤ offV a n ∧ offV a n ≤ n := by
  unfold offV
  have := Int.emod_nonneg a (show 2 * n + 1 ≠ 0 by omega)
  have := Int.emod_lt_of_pos a (show 0 < 2 * n + 1 by omega)
  omega
/-- a level in truth -/
def lvl (x d : Int) : Int := min 1023 (max 0 (x + d))

set_option maxRecDepth 100000 in
set_option maxHeartbeats 16000000 in
theorem truth_any (xh xp xv xq lv ph n0 n1 sh sp sv sq : Int) (w : World) (hz : (0 ≤ xh ∧ xh ≤ 1023) ∧ (0 ≤ xp ∧ xp < 65536) ∧ (0 ≤ xv ∧ xv ≤ 1023) ∧ (0 ≤ xq ∧ xq < 65536)) (hl : 0 ≤ lv ∧ lv ≤ 64) (hp : 0 ≤ ph ∧ ph ≤ 4096) (hs : (0 ≤ sh ∧ sh < 65536) ∧ (0 ≤ sp ∧ sp < 65536) ∧ (0 ≤ sv ∧ sv < 65536) ∧ (0 ≤ sq ∧ sq < 65536)) :
    Calls Try.prog 39 #[.agg #[.int .i64 xh, .int .i64 xp, .int .i64 xv, .int .i64 xq], .agg #[.int .i64 lv, .int .i64 ph, .int .i64 n0, .int .i64 n1], .agg #[.int .u16 sh, .int .u16 sp, .int .u16 sv, .int .u16 sq]] w fun e w' => e = .returned (.agg #[.int .i64 (lvl xh (offV sh lv)), .int .i64 ((xp + offV sp ph) % 65536), .int .i64 (lvl xv (offV sv lv)), .int .i64 ((xq + offV sq ph) % 65536)]) ∧ Below w.heap.size w w' := by
  have B0 := offV_bd (a := sh) hl.1
  have B1 := offV_bd (a := sp) hp.1
  have B2 := offV_bd (a := sv) hl.1
  have B3 := offV_bd (a := sq) hp.1
  obtain ⟨d0, hd0⟩ : ∃ d, d = offV sh lv := ⟨_, rfl⟩
  obtain ⟨d1, hd1⟩ : ∃ d, d = offV sp ph := ⟨_, rfl⟩
  obtain ⟨d2, hd2⟩ : ∃ d, d = offV sv lv := ⟨_, rfl⟩
  obtain ⟨d3, hd3⟩ : ∃ d, d = offV sq ph := ⟨_, rfl⟩
  rw [← hd0] at B0 ⊢
  rw [← hd1] at B1 ⊢
  rw [← hd2] at B2 ⊢
  rw [← hd3] at B3 ⊢
  have O0 : Hid (∀ W : World, Calls Try.prog 76 #[.int .u16 sh, .int .i64 lv] W fun e w' => e = .returned (.int .i64 d0) ∧ W = w') := Lib.hid fun W => by rw [hd0]; exact off_any sh lv W hs.1 ⟨hl.1, by omega⟩
  have O1 : Hid (∀ W : World, Calls Try.prog 76 #[.int .u16 sp, .int .i64 ph] W fun e w' => e = .returned (.int .i64 d1) ∧ W = w') := Lib.hid fun W => by rw [hd1]; exact off_any sp ph W hs.2.1 hp
  have O2 : Hid (∀ W : World, Calls Try.prog 76 #[.int .u16 sv, .int .i64 lv] W fun e w' => e = .returned (.int .i64 d2) ∧ W = w') := Lib.hid fun W => by rw [hd2]; exact off_any sv lv W hs.2.2.1 ⟨hl.1, by omega⟩
  have O3 : Hid (∀ W : World, Calls Try.prog 76 #[.int .u16 sq, .int .i64 ph] W fun e w' => e = .returned (.int .i64 d3) ∧ W = w') := Lib.hid fun W => by rw [hd3]; exact off_any sq ph W hs.2.2.2 hp
  obtain ⟨p2, hp2⟩ : ∃ x, x = (xp + d1) % 65536 := ⟨_, rfl⟩
  obtain ⟨q2, hq2⟩ : ∃ x, x = (xq + d3) % 65536 := ⟨_, rfl⟩
  have W1 : Hid (∀ W : World, Calls Try.prog 41 #[.int .i64 (xp + d1)] W fun e w' => e = .returned (.int .i64 p2) ∧ W = w') := Lib.hid fun W => by rw [hp2]; exact wrap_any (xp + d1) W (by omega) (by omega)
  have W2 : Hid (∀ W : World, Calls Try.prog 41 #[.int .i64 (xq + d3)] W fun e w' => e = .returned (.int .i64 q2) ∧ W = w') := Lib.hid fun W => by rw [hq2]; exact wrap_any (xq + d3) W (by omega) (by omega)
  have i1 : IntKind.i64.wrap (xh + d0) = xh + d0 := IntWalk.i64_in _ (by omega)
  have i2 : IntKind.i64.wrap (xv + d2) = xv + d2 := IntWalk.i64_in _ (by omega)
  have i3 : IntKind.i64.wrap (xp + d1) = xp + d1 := IntWalk.i64_in _ (by omega)
  have i4 : IntKind.i64.wrap (xq + d3) = xq + d3 := IntWalk.i64_in _ (by omega)
  rw [← hp2, ← hq2]
  unfold lvl
  clear hd0 hd1 hd2 hd3 hp2 hq2 hs hz
  obtain ⟨A, hA⟩ : ∃ A, A = ((((w.alloc (.cells #[.int .i64 xh, .int .i64 xp, .int .i64 xv, .int .i64 xq] 84)).alloc (.cells #[.int .i64 lv, .int .i64 ph, .int .i64 n0, .int .i64 n1] 27)).alloc (.cells #[.int .u16 sh, .int .u16 sp, .int .u16 sv, .int .u16 sq] 82)).alloc (.cells #[.int .i64 0, .int .i64 0, .int .i64 0, .int .i64 0] 84)) := ⟨_, rfl⟩
  obtain ⟨A1, a1⟩ : ∃ A, A = w.alloc (.cells #[.int .i64 xh, .int .i64 xp, .int .i64 xv, .int .i64 xq] 84) := ⟨_, rfl⟩
  obtain ⟨A2, a2⟩ : ∃ A, A = A1.alloc (.cells #[.int .i64 lv, .int .i64 ph, .int .i64 n0, .int .i64 n1] 27) := ⟨_, rfl⟩
  obtain ⟨A3, a3⟩ : ∃ A, A = A2.alloc (.cells #[.int .u16 sh, .int .u16 sp, .int .u16 sv, .int .u16 sq] 82) := ⟨_, rfl⟩
  have a4 : A = A3.alloc (.cells #[.int .i64 0, .int .i64 0, .int .i64 0, .int .i64 0] 84) := by rw [hA, a3, a2, a1]
  have s1 : A1.heap.size = w.heap.size + 1 := by rw [a1]; exact World.size_alloc _ _
  have s2 : A2.heap.size = w.heap.size + 1 + 1 := by rw [a2, World.size_alloc, s1]
  have s3 : A3.heap.size = w.heap.size + 1 + 1 + 1 := by rw [a3, World.size_alloc, s2]
  have s4 : A.heap.size = w.heap.size + 1 + 1 + 1 + 1 := by rw [a4, World.size_alloc, s3]
  have b1 : Below w.heap.size w A1 := by rw [a1]; exact below_alloc _ _
  have b2 : Below A1.heap.size A1 A2 := by rw [a2]; exact below_alloc _ _
  have b3 : Below A2.heap.size A2 A3 := by rw [a3]; exact below_alloc _ _
  have b4 : Below A3.heap.size A3 A := by rw [a4]; exact below_alloc _ _
  have c24 : Below A2.heap.size A2 A := b3.trans (b4.mono (by omega))
  have c14 : Below A1.heap.size A1 A := b2.trans (c24.mono (by omega))
  have bw : Below w.heap.size w A := b1.trans (c14.mono (by omega))
  have HS := Lib.hid (show (fun w' : World => w'.cell? ⟨w.heap.size, 0, none⟩ = some (.int .i64 xh) ∧ w'.cell? ⟨w.heap.size, 1, none⟩ = some (.int .i64 xp) ∧ w'.cell? ⟨w.heap.size, 2, none⟩ = some (.int .i64 xv) ∧ w'.cell? ⟨w.heap.size, 3, none⟩ = some (.int .i64 xq) ∧ w'.cell? ⟨w.heap.size + 1, 0, none⟩ = some (.int .i64 lv) ∧ w'.cell? ⟨w.heap.size + 1, 1, none⟩ = some (.int .i64 ph) ∧ w'.cell? ⟨w.heap.size + 1, 2, none⟩ = some (.int .i64 n0) ∧ w'.cell? ⟨w.heap.size + 1, 3, none⟩ = some (.int .i64 n1) ∧ w'.cell? ⟨w.heap.size + 1 + 1, 0, none⟩ = some (.int .u16 sh) ∧ w'.cell? ⟨w.heap.size + 1 + 1, 1, none⟩ = some (.int .u16 sp) ∧ w'.cell? ⟨w.heap.size + 1 + 1, 2, none⟩ = some (.int .u16 sv) ∧ w'.cell? ⟨w.heap.size + 1 + 1, 3, none⟩ = some (.int .u16 sq) ∧ w'.cell? ⟨w.heap.size + 1 + 1 + 1, 0, none⟩ = some (.int .i64 0) ∧ w'.cell? ⟨w.heap.size + 1 + 1 + 1, 1, none⟩ = some (.int .i64 0) ∧ w'.cell? ⟨w.heap.size + 1 + 1 + 1, 2, none⟩ = some (.int .i64 0) ∧ w'.cell? ⟨w.heap.size + 1 + 1 + 1, 3, none⟩ = some (.int .i64 0) ∧ w'.frozen? ⟨w.heap.size + 1 + 1 + 1, 0, none⟩ = false ∧ w'.frozen? ⟨w.heap.size + 1 + 1 + 1, 1, none⟩ = false ∧ w'.frozen? ⟨w.heap.size + 1 + 1 + 1, 2, none⟩ = false ∧ w'.frozen? ⟨w.heap.size + 1 + 1 + 1, 3, none⟩ = false ∧ Below A.drew.heap.size A.drew w') A.drew from ⟨(show A.cell? _ = _ from keepB c14 (by omega) (by rw [a1]; exact alloc_new rfl rfl)), (show A.cell? _ = _ from keepB c14 (by omega) (by rw [a1]; exact alloc_new rfl rfl)), (show A.cell? _ = _ from keepB c14 (by omega) (by rw [a1]; exact alloc_new rfl rfl)), (show A.cell? _ = _ from keepB c14 (by omega) (by rw [a1]; exact alloc_new rfl rfl)), (show A.cell? _ = _ from keepB c24 (by omega) (by rw [a2, ← s1]; exact alloc_new rfl rfl)), (show A.cell? _ = _ from keepB c24 (by omega) (by rw [a2, ← s1]; exact alloc_new rfl rfl)), (show A.cell? _ = _ from keepB c24 (by omega) (by rw [a2, ← s1]; exact alloc_new rfl rfl)), (show A.cell? _ = _ from keepB c24 (by omega) (by rw [a2, ← s1]; exact alloc_new rfl rfl)), (show A.cell? _ = _ from keepB b4 (by omega) (by rw [a3, ← s2]; exact alloc_new rfl rfl)), (show A.cell? _ = _ from keepB b4 (by omega) (by rw [a3, ← s2]; exact alloc_new rfl rfl)), (show A.cell? _ = _ from keepB b4 (by omega) (by rw [a3, ← s2]; exact alloc_new rfl rfl)), (show A.cell? _ = _ from keepB b4 (by omega) (by rw [a3, ← s2]; exact alloc_new rfl rfl)), (show A.cell? _ = _ by rw [a4, ← s3]; exact alloc_new rfl rfl), (show A.cell? _ = _ by rw [a4, ← s3]; exact alloc_new rfl rfl), (show A.cell? _ = _ by rw [a4, ← s3]; exact alloc_new rfl rfl), (show A.cell? _ = _ by rw [a4, ← s3]; exact alloc_new rfl rfl), (show A.frozen? _ = _ by rw [a4, ← s3]; exact alloc_newF rfl), (show A.frozen? _ = _ by rw [a4, ← s3]; exact alloc_newF rfl), (show A.frozen? _ = _ by rw [a4, ← s3]; exact alloc_newF rfl), (show A.frozen? _ = _ by rw [a4, ← s3]; exact alloc_newF rfl), Below.refl _ _⟩)
  have BW := Lib.hid bw
  clear a1 a2 a3 a4 s1 s2 s3 b1 b2 b3 b4 c24 c14 bw
  go_enter Try.func39, Try.ntmps39
  go_wp2_with fail
  rw [← hA]
  clear hA
  refine wp_region_held_tail (S := (fun w' : World => w'.cell? ⟨w.heap.size, 0, none⟩ = some (.int .i64 xh) ∧ w'.cell? ⟨w.heap.size, 1, none⟩ = some (.int .i64 xp) ∧ w'.cell? ⟨w.heap.size, 2, none⟩ = some (.int .i64 xv) ∧ w'.cell? ⟨w.heap.size, 3, none⟩ = some (.int .i64 xq) ∧ w'.cell? ⟨w.heap.size + 1, 0, none⟩ = some (.int .i64 lv) ∧ w'.cell? ⟨w.heap.size + 1, 1, none⟩ = some (.int .i64 ph) ∧ w'.cell? ⟨w.heap.size + 1, 2, none⟩ = some (.int .i64 n0) ∧ w'.cell? ⟨w.heap.size + 1, 3, none⟩ = some (.int .i64 n1) ∧ w'.cell? ⟨w.heap.size + 1 + 1, 0, none⟩ = some (.int .u16 sh) ∧ w'.cell? ⟨w.heap.size + 1 + 1, 1, none⟩ = some (.int .u16 sp) ∧ w'.cell? ⟨w.heap.size + 1 + 1, 2, none⟩ = some (.int .u16 sv) ∧ w'.cell? ⟨w.heap.size + 1 + 1, 3, none⟩ = some (.int .u16 sq) ∧ w'.cell? ⟨w.heap.size + 1 + 1 + 1, 0, none⟩ = some (.int .i64 0) ∧ w'.cell? ⟨w.heap.size + 1 + 1 + 1, 1, none⟩ = some (.int .i64 0) ∧ w'.cell? ⟨w.heap.size + 1 + 1 + 1, 2, none⟩ = some (.int .i64 0) ∧ w'.cell? ⟨w.heap.size + 1 + 1 + 1, 3, none⟩ = some (.int .i64 0) ∧ w'.frozen? ⟨w.heap.size + 1 + 1 + 1, 0, none⟩ = false ∧ w'.frozen? ⟨w.heap.size + 1 + 1 + 1, 1, none⟩ = false ∧ w'.frozen? ⟨w.heap.size + 1 + 1 + 1, 2, none⟩ = false ∧ w'.frozen? ⟨w.heap.size + 1 + 1 + 1, 3, none⟩ = false ∧ Below A.drew.heap.size A.drew w')) 39 (by kernel_rfl) (by kernel_rfl) HS.out (fun hHeld => ?_)
  refine wpAnyH_take (i := 0) (v := ?v0_1) rfl (by kernel_rfl) (by kernel_rfl) (by kernel_rfl) (fun _ _ _ h => h) (Or.inl ⟨by rfl, ?hy0_1⟩) (by assumption) ?rest0_1
  case hy0_1 => (intro w hSw; (try dsimp only at hSw); go_simp; (try with_reducible rfl))
  try simp only [Act.put, List.setIfInBounds_toArray, List.set_cons_zero, List.set_cons_succ]
  refine wpAnyH_take (i := 1) (v := ?v1_2) rfl (by kernel_rfl) (by kernel_rfl) (by kernel_rfl) (fun _ _ _ h => h) (Or.inl ⟨by rfl, ?hy1_2⟩) (by assumption) ?rest1_2
  case hy1_2 => (intro w hSw; (try dsimp only at hSw); go_simp; (try with_reducible rfl))
  try simp only [Act.put, List.setIfInBounds_toArray, List.set_cons_zero, List.set_cons_succ]
  refine wpAnyH_take (i := 2) (v := ?v2_3) rfl (by kernel_rfl) (by kernel_rfl) (by kernel_rfl) (fun _ _ _ h => h) (Or.inl ⟨by rfl, ?hy2_3⟩) (by assumption) ?rest2_3
  case hy2_3 => (intro w hSw; (try dsimp only at hSw); go_simp; (try with_reducible rfl))
  try simp only [Act.put, List.setIfInBounds_toArray, List.set_cons_zero, List.set_cons_succ]
  refine wpAnyH_take (i := 3) (v := ?v3_4) rfl (by kernel_rfl) (by kernel_rfl) (by kernel_rfl) (fun _ _ _ h => h) (Or.inl ⟨by rfl, ?hy3_4⟩) (by assumption) ?rest3_4
  case hy3_4 => (intro w hSw; (try dsimp only at hSw); go_simp; (try with_reducible rfl))
  try simp only [Act.put, List.setIfInBounds_toArray, List.set_cons_zero, List.set_cons_succ]
  refine wpAnyH_take (i := 4) (v := ?v4_5) rfl (by kernel_rfl) (by kernel_rfl) (by kernel_rfl) (fun _ _ _ h => h) (Or.inl ⟨by rfl, ?hy4_5⟩) (by assumption) ?rest4_5
  case hy4_5 => (intro w hSw; (try dsimp only at hSw); go_simp; (try with_reducible rfl))
  try simp only [Act.put, List.setIfInBounds_toArray, List.set_cons_zero, List.set_cons_succ]
  refine wpAnyH_take (i := 5) (v := ?v5_6) rfl (by kernel_rfl) (by kernel_rfl) (by kernel_rfl) (fun _ _ _ h => h) (Or.inl ⟨by rfl, ?hy5_6⟩) (by assumption) ?rest5_6
  case hy5_6 => (intro w hSw; (try dsimp only at hSw); go_simp; (try with_reducible rfl))
  try simp only [Act.put, List.setIfInBounds_toArray, List.set_cons_zero, List.set_cons_succ]
  refine wpAnyH_take (i := 10) (v := ?v10_7) rfl (by kernel_rfl) (by kernel_rfl) (by kernel_rfl) (fun _ _ _ h => h) (Or.inl ⟨by rfl, ?hy10_7⟩) (by assumption) ?rest10_7
  case hy10_7 => (intro w hSw; (try dsimp only at hSw); go_simp; (try with_reducible rfl))
  try simp only [Act.put, List.setIfInBounds_toArray, List.set_cons_zero, List.set_cons_succ]
  refine wpAnyH_take (i := 11) (v := ?v11_8) rfl (by kernel_rfl) (by kernel_rfl) (by kernel_rfl) (fun _ _ _ h => h) (Or.inl ⟨by rfl, ?hy11_8⟩) (by assumption) ?rest11_8
  case hy11_8 => (intro w hSw; (try dsimp only at hSw); go_simp; (try with_reducible rfl))
  try simp only [Act.put, List.setIfInBounds_toArray, List.set_cons_zero, List.set_cons_succ]
  refine wpAnyH_take (i := 12) (v := ?v12_9) rfl (by kernel_rfl) (by kernel_rfl) (by kernel_rfl) (fun _ _ _ h => h) (Or.inl ⟨by rfl, ?hy12_9⟩) (by assumption) ?rest12_9
  case hy12_9 => (intro w hSw; (try dsimp only at hSw); go_simp; (try with_reducible rfl))
  try simp only [Act.put, List.setIfInBounds_toArray, List.set_cons_zero, List.set_cons_succ]
  refine wpAnyH_take (i := 13) (v := ?v13_10) rfl (by kernel_rfl) (by kernel_rfl) (by kernel_rfl) (fun _ _ _ h => h) (Or.inl ⟨by rfl, ?hy13_10⟩) (by assumption) ?rest13_10
  case hy13_10 => (intro w hSw; (try dsimp only at hSw); go_simp; (try with_reducible rfl))
  try simp only [Act.put, List.setIfInBounds_toArray, List.set_cons_zero, List.set_cons_succ]
  refine wpAnyH_take (i := 14) (v := ?v14_11) rfl (by kernel_rfl) (by kernel_rfl) (by kernel_rfl) (fun _ _ _ h => h) (Or.inl ⟨by rfl, ?hy14_11⟩) (by assumption) ?rest14_11
  case hy14_11 => (intro w hSw; (try dsimp only at hSw); go_simp; (try with_reducible rfl))
  try simp only [Act.put, List.setIfInBounds_toArray, List.set_cons_zero, List.set_cons_succ]
  refine wpAnyH_take (i := 15) (v := ?v15_12) rfl (by kernel_rfl) (by kernel_rfl) (by kernel_rfl) (fun _ _ _ h => h) (Or.inl ⟨by rfl, ?hy15_12⟩) (by assumption) ?rest15_12
  case hy15_12 => (intro w hSw; (try dsimp only at hSw); go_simp; (try with_reducible rfl))
  try simp only [Act.put, List.setIfInBounds_toArray, List.set_cons_zero, List.set_cons_succ]
  refine wpAnyH_take (i := 19) (v := ?v19_13) rfl (by kernel_rfl) (by kernel_rfl) (by kernel_rfl) (fun _ _ _ h => h) (Or.inl ⟨by rfl, ?hy19_13⟩) (by assumption) ?rest19_13
  case hy19_13 => (intro w hSw; (try dsimp only at hSw); go_simp; (try with_reducible rfl))
  try simp only [Act.put, List.setIfInBounds_toArray, List.set_cons_zero, List.set_cons_succ]
  refine wpAnyH_take (i := 20) (v := ?v20_14) rfl (by kernel_rfl) (by kernel_rfl) (by kernel_rfl) (fun _ _ _ h => h) (Or.inl ⟨by rfl, ?hy20_14⟩) (by assumption) ?rest20_14
  case hy20_14 => (intro w hSw; (try dsimp only at hSw); go_simp; (try with_reducible rfl))
  try simp only [Act.put, List.setIfInBounds_toArray, List.set_cons_zero, List.set_cons_succ]
  refine wpAnyH_take (i := 21) (v := ?v21_15) rfl (by kernel_rfl) (by kernel_rfl) (by kernel_rfl) (fun _ _ _ h => h) (Or.inl ⟨by rfl, ?hy21_15⟩) (by assumption) ?rest21_15
  case hy21_15 => (intro w hSw; (try dsimp only at hSw); go_simp; (try with_reducible rfl))
  try simp only [Act.put, List.setIfInBounds_toArray, List.set_cons_zero, List.set_cons_succ]
  refine wpAnyH_take (i := 22) (v := ?v22_16) rfl (by kernel_rfl) (by kernel_rfl) (by kernel_rfl) (fun _ _ _ h => h) (Or.inl ⟨by rfl, ?hy22_16⟩) (by assumption) ?rest22_16
  case hy22_16 => (intro w hSw; (try dsimp only at hSw); go_simp; (try with_reducible rfl))
  try simp only [Act.put, List.setIfInBounds_toArray, List.set_cons_zero, List.set_cons_succ]
  refine wpAnyH_take (i := 23) (v := ?v23_17) rfl (by kernel_rfl) (by kernel_rfl) (by kernel_rfl) (fun _ _ _ h => h) (Or.inl ⟨by rfl, ?hy23_17⟩) (by assumption) ?rest23_17
  case hy23_17 => (intro w hSw; (try dsimp only at hSw); go_simp; (try with_reducible rfl))
  try simp only [Act.put, List.setIfInBounds_toArray, List.set_cons_zero, List.set_cons_succ]
  refine wpAnyH_take (i := 24) (v := ?v24_18) rfl (by kernel_rfl) (by kernel_rfl) (by kernel_rfl) (fun _ _ _ h => h) (Or.inl ⟨by rfl, ?hy24_18⟩) (by assumption) ?rest24_18
  case hy24_18 => (intro w hSw; (try dsimp only at hSw); go_simp; (try with_reducible rfl))
  try simp only [Act.put, List.setIfInBounds_toArray, List.set_cons_zero, List.set_cons_succ]
  refine wpAnyH_take (i := 29) (v := ?v29_19) rfl (by kernel_rfl) (by kernel_rfl) (by kernel_rfl) (fun _ _ _ h => h) (Or.inl ⟨by rfl, ?hy29_19⟩) (by assumption) ?rest29_19
  case hy29_19 => (intro w hSw; (try dsimp only at hSw); go_simp; (try with_reducible rfl))
  try simp only [Act.put, List.setIfInBounds_toArray, List.set_cons_zero, List.set_cons_succ]
  refine wpAnyH_take (i := 30) (v := ?v30_20) rfl (by kernel_rfl) (by kernel_rfl) (by kernel_rfl) (fun _ _ _ h => h) (Or.inl ⟨by rfl, ?hy30_20⟩) (by assumption) ?rest30_20
  case hy30_20 => (intro w hSw; (try dsimp only at hSw); go_simp; (try with_reducible rfl))
  try simp only [Act.put, List.setIfInBounds_toArray, List.set_cons_zero, List.set_cons_succ]
  refine wpAnyH_take (i := 31) (v := ?v31_21) rfl (by kernel_rfl) (by kernel_rfl) (by kernel_rfl) (fun _ _ _ h => h) (Or.inl ⟨by rfl, ?hy31_21⟩) (by assumption) ?rest31_21
  case hy31_21 => (intro w hSw; (try dsimp only at hSw); go_simp; (try with_reducible rfl))
  try simp only [Act.put, List.setIfInBounds_toArray, List.set_cons_zero, List.set_cons_succ]
  refine wpAnyH_take (i := 32) (v := ?v32_22) rfl (by kernel_rfl) (by kernel_rfl) (by kernel_rfl) (fun _ _ _ h => h) (Or.inl ⟨by rfl, ?hy32_22⟩) (by assumption) ?rest32_22
  case hy32_22 => (intro w hSw; (try dsimp only at hSw); go_simp; (try with_reducible rfl))
  try simp only [Act.put, List.setIfInBounds_toArray, List.set_cons_zero, List.set_cons_succ]
  refine wpAnyH_take (i := 33) (v := ?v33_23) rfl (by kernel_rfl) (by kernel_rfl) (by kernel_rfl) (fun _ _ _ h => h) (Or.inl ⟨by rfl, ?hy33_23⟩) (by assumption) ?rest33_23
  case hy33_23 => (intro w hSw; (try dsimp only at hSw); go_simp; (try with_reducible rfl))
  try simp only [Act.put, List.setIfInBounds_toArray, List.set_cons_zero, List.set_cons_succ]
  refine wpAnyH_take (i := 34) (v := ?v34_24) rfl (by kernel_rfl) (by kernel_rfl) (by kernel_rfl) (fun _ _ _ h => h) (Or.inl ⟨by rfl, ?hy34_24⟩) (by assumption) ?rest34_24
  case hy34_24 => (intro w hSw; (try dsimp only at hSw); go_simp; (try with_reducible rfl))
  try simp only [Act.put, List.setIfInBounds_toArray, List.set_cons_zero, List.set_cons_succ]
  refine wpAnyH_ready (rs := [6]) (by kernel_rfl) (by simp) ?_
  refine AllReadyH.cons rfl (fun K hK => ?_) AllReadyH.nil
  go_simp; refine (O0.out _).mono ?_; rintro e' w' ⟨rfl, rfl⟩
  refine hK.out _ _ hHeld (fun hHeld => ?_)
  clear hK K
  try simp only [Act.put, List.setIfInBounds_toArray, List.set_cons_zero, List.set_cons_succ]
  refine wpAnyH_take (i := 7) (v := ?v7_25) rfl (by kernel_rfl) (by kernel_rfl) (by kernel_rfl) (fun _ _ _ h => h) (Or.inl ⟨by rfl, ?hy7_25⟩) (by assumption) ?rest7_25
  case hy7_25 => (intro w hSw; (try dsimp only at hSw); go_simp; (try with_reducible rfl))
  try simp only [Act.put, List.setIfInBounds_toArray, List.set_cons_zero, List.set_cons_succ]
  refine wpAnyH_take (i := 8) (v := ?v8_26) rfl (by kernel_rfl) (by kernel_rfl) (by kernel_rfl) (fun _ _ _ h => h) (Or.inl ⟨by rfl, ?hy8_26⟩) (by assumption) ?rest8_26
  case hy8_26 => (intro w hSw; (try dsimp only at hSw); go_simp; (try with_reducible rfl))
  try simp only [Act.put, List.setIfInBounds_toArray, List.set_cons_zero, List.set_cons_succ]
  refine wpAnyH_take (i := 9) (v := ?v9_27) rfl (by kernel_rfl) (by kernel_rfl) (by kernel_rfl) (fun _ _ _ h => h) (Or.inl ⟨by rfl, ?hy9_27⟩) (by assumption) ?rest9_27
  case hy9_27 => (intro w hSw; (try dsimp only at hSw); go_simp; (try with_reducible rfl))
  try simp only [Act.put, List.setIfInBounds_toArray, List.set_cons_zero, List.set_cons_succ]
  refine wpAnyH_ready (rs := [16]) (by kernel_rfl) (by simp) ?_
  refine AllReadyH.cons rfl (fun K hK => ?_) AllReadyH.nil
  go_simp; refine (O1.out _).mono ?_; rintro e' w' ⟨rfl, rfl⟩
  refine hK.out _ _ hHeld (fun hHeld => ?_)
  clear hK K
  try simp only [Act.put, List.setIfInBounds_toArray, List.set_cons_zero, List.set_cons_succ]
  refine wpAnyH_take (i := 17) (v := ?v17_28) rfl (by kernel_rfl) (by kernel_rfl) (by kernel_rfl) (fun _ _ _ h => h) (Or.inl ⟨by rfl, ?hy17_28⟩) (by assumption) ?rest17_28
  case hy17_28 => (intro w hSw; (try dsimp only at hSw); go_simp; (try with_reducible rfl))
  try simp only [Act.put, List.setIfInBounds_toArray, List.set_cons_zero, List.set_cons_succ]
  refine wpAnyH_ready (rs := [18]) (by kernel_rfl) (by simp) ?_
  refine AllReadyH.cons rfl (fun K hK => ?_) AllReadyH.nil
  go_simp; refine (W1.out _).mono ?_; rintro e' w' ⟨rfl, rfl⟩
  refine hK.out _ _ hHeld (fun hHeld => ?_)
  clear hK K
  try simp only [Act.put, List.setIfInBounds_toArray, List.set_cons_zero, List.set_cons_succ]
  refine wpAnyH_ready (rs := [25]) (by kernel_rfl) (by simp) ?_
  refine AllReadyH.cons rfl (fun K hK => ?_) AllReadyH.nil
  go_simp; refine (O2.out _).mono ?_; rintro e' w' ⟨rfl, rfl⟩
  refine hK.out _ _ hHeld (fun hHeld => ?_)
  clear hK K
  try simp only [Act.put, List.setIfInBounds_toArray, List.set_cons_zero, List.set_cons_succ]
  refine wpAnyH_take (i := 26) (v := ?v26_29) rfl (by kernel_rfl) (by kernel_rfl) (by kernel_rfl) (fun _ _ _ h => h) (Or.inl ⟨by rfl, ?hy26_29⟩) (by assumption) ?rest26_29
  case hy26_29 => (intro w hSw; (try dsimp only at hSw); go_simp; (try with_reducible rfl))
  try simp only [Act.put, List.setIfInBounds_toArray, List.set_cons_zero, List.set_cons_succ]
  refine wpAnyH_take (i := 27) (v := ?v27_30) rfl (by kernel_rfl) (by kernel_rfl) (by kernel_rfl) (fun _ _ _ h => h) (Or.inl ⟨by rfl, ?hy27_30⟩) (by assumption) ?rest27_30
  case hy27_30 => (intro w hSw; (try dsimp only at hSw); go_simp; (try with_reducible rfl))
  try simp only [Act.put, List.setIfInBounds_toArray, List.set_cons_zero, List.set_cons_succ]
  refine wpAnyH_take (i := 28) (v := ?v28_31) rfl (by kernel_rfl) (by kernel_rfl) (by kernel_rfl) (fun _ _ _ h => h) (Or.inl ⟨by rfl, ?hy28_31⟩) (by assumption) ?rest28_31
  case hy28_31 => (intro w hSw; (try dsimp only at hSw); go_simp; (try with_reducible rfl))
  try simp only [Act.put, List.setIfInBounds_toArray, List.set_cons_zero, List.set_cons_succ]
  refine wpAnyH_ready (rs := [35]) (by kernel_rfl) (by simp) ?_
  refine AllReadyH.cons rfl (fun K hK => ?_) AllReadyH.nil
  go_simp; refine (O3.out _).mono ?_; rintro e' w' ⟨rfl, rfl⟩
  refine hK.out _ _ hHeld (fun hHeld => ?_)
  clear hK K
  try simp only [Act.put, List.setIfInBounds_toArray, List.set_cons_zero, List.set_cons_succ]
  refine wpAnyH_take (i := 36) (v := ?v36_32) rfl (by kernel_rfl) (by kernel_rfl) (by kernel_rfl) (fun _ _ _ h => h) (Or.inl ⟨by rfl, ?hy36_32⟩) (by assumption) ?rest36_32
  case hy36_32 => (intro w hSw; (try dsimp only at hSw); go_simp; (try with_reducible rfl))
  try simp only [Act.put, List.setIfInBounds_toArray, List.set_cons_zero, List.set_cons_succ]
  refine wpAnyH_ready (rs := [37]) (by kernel_rfl) (by simp) ?_
  refine AllReadyH.cons rfl (fun K hK => ?_) AllReadyH.nil
  go_simp; refine (W2.out _).mono ?_; rintro e' w' ⟨rfl, rfl⟩
  refine hK.out _ _ hHeld (fun hHeld => ?_)
  clear hK K
  try simp only [Act.put, List.setIfInBounds_toArray, List.set_cons_zero, List.set_cons_succ]
  refine wpAnyH_take (i := 38) (v := ?v38_33) rfl (by kernel_rfl) (by kernel_rfl) (by kernel_rfl) (fun _ _ _ h => h) (Or.inl ⟨by rfl, ?hy38_33⟩) (by assumption) ?rest38_33
  case hy38_33 => (intro w hSw; (try dsimp only at hSw); go_simp; (try with_reducible rfl))
  try simp only [Act.put, List.setIfInBounds_toArray, List.set_cons_zero, List.set_cons_succ]
  refine wpAnyH_done (by kernel_rfl) ?_ _
  change wpList _ _ _ _ _ _
  simp only [List.drop_succ_cons, List.drop_zero]
  have bW := BW.out.drew
  clear HS BW
  generalize A.drew = D at hHeld bW ⊢
  obtain ⟨_, _, _, _, _, _, _, _, _, _, _, _, r0, r1, r2, r3, f0, f1, f2, f3, hbA⟩ := hHeld
  clear hbA
  go_wp2
  exact bodyPost_ret (v := .agg #[.int .i64 (min 1023 (max 0 (xh + d0))), .int .i64 p2, .int .i64 (min 1023 (max 0 (xv + d2))), .int .i64 q2]) (by simp [results, Try.results39, go_sem, set_same (i := 0) (v := .int .i64 (min 1023 (max 0 (xh + d0)))) r0, set_other (i := 1) (j := 0) (v := .int .i64 p2) (by decide) (set_same (i := 0) (v := .int .i64 (min 1023 (max 0 (xh + d0)))) r0), set_other (i := 2) (j := 0) (v := .int .i64 (min 1023 (max 0 (xv + d2)))) (by decide) (set_other (i := 1) (j := 0) (v := .int .i64 p2) (by decide) (set_same (i := 0) (v := .int .i64 (min 1023 (max 0 (xh + d0)))) r0)), set_other (i := 3) (j := 0) (v := .int .i64 q2) (by decide) (set_other (i := 2) (j := 0) (v := .int .i64 (min 1023 (max 0 (xv + d2)))) (by decide) (set_other (i := 1) (j := 0) (v := .int .i64 p2) (by decide) (set_same (i := 0) (v := .int .i64 (min 1023 (max 0 (xh + d0)))) r0))), set_same (i := 1) (v := .int .i64 p2) (set_other (i := 0) (j := 1) (v := .int .i64 (min 1023 (max 0 (xh + d0)))) (by decide) r1), set_other (i := 2) (j := 1) (v := .int .i64 (min 1023 (max 0 (xv + d2)))) (by decide) (set_same (i := 1) (v := .int .i64 p2) (set_other (i := 0) (j := 1) (v := .int .i64 (min 1023 (max 0 (xh + d0)))) (by decide) r1)), set_other (i := 3) (j := 1) (v := .int .i64 q2) (by decide) (set_other (i := 2) (j := 1) (v := .int .i64 (min 1023 (max 0 (xv + d2)))) (by decide) (set_same (i := 1) (v := .int .i64 p2) (set_other (i := 0) (j := 1) (v := .int .i64 (min 1023 (max 0 (xh + d0)))) (by decide) r1))), set_same (i := 2) (v := .int .i64 (min 1023 (max 0 (xv + d2)))) (set_other (i := 1) (j := 2) (v := .int .i64 p2) (by decide) (set_other (i := 0) (j := 2) (v := .int .i64 (min 1023 (max 0 (xh + d0)))) (by decide) r2)), set_other (i := 3) (j := 2) (v := .int .i64 q2) (by decide) (set_same (i := 2) (v := .int .i64 (min 1023 (max 0 (xv + d2)))) (set_other (i := 1) (j := 2) (v := .int .i64 p2) (by decide) (set_other (i := 0) (j := 2) (v := .int .i64 (min 1023 (max 0 (xh + d0)))) (by decide) r2))), set_same (i := 3) (v := .int .i64 q2) (set_other (i := 2) (j := 3) (v := .int .i64 (min 1023 (max 0 (xv + d2)))) (by decide) (set_other (i := 1) (j := 3) (v := .int .i64 p2) (by decide) (set_other (i := 0) (j := 3) (v := .int .i64 (min 1023 (max 0 (xh + d0)))) (by decide) r3)))]) rfl ⟨rfl, ((((bW.setCell (p := ⟨w.heap.size + 1 + 1 + 1, 0, none⟩) (by dsimp only; omega) _).setCell (p := ⟨w.heap.size + 1 + 1 + 1, 1, none⟩) (by dsimp only; omega) _).setCell (p := ⟨w.heap.size + 1 + 1 + 1, 2, none⟩) (by dsimp only; omega) _).setCell (p := ⟨w.heap.size + 1 + 1 + 1, 3, none⟩) (by dsimp only; omega) _)⟩

end Go.Proofs.Ytmojnopgpgnfeaa
