/-
  Means of numbers that are moved by one number, and of opposite ones: plain mathematics.
-/
import Derived.Test.Ytmojnopgpgnfeaamg36
import Derived.Test.Ytmojnopgpgnfeaamg31
import Derived.Test.Ytmojnopgpgnfeaamg15
namespace Go.Proofs.Ytmojnopgpgnfeaa
set_option linter.unusedVariables false

theorem eq_mov {S sl d k n : Int} (hn : 0 < n) (hs : 0 ≤ sl) (hd : 0 ≤ d ∧ d < 65536) :
    eqT (unw ((S + n * (d + 65536 * k) - sl) / n)) (unw ((S + n * (d + 65536 * k) - sl) / n) + -(-(S + n * (d + 65536 * k) + sl) / n) - (S + n * (d + 65536 * k) - sl) / n) (unw ((S - sl) / n) + d) (unw ((S - sl) / n) + -(-(S + sl) / n) - (S - sl) / n + d) := by
  have e1 : (S + n * (d + 65536 * k) - sl) / n = (S - sl) / n + (d + 65536 * k) := by
    rw [show S + n * (d + 65536 * k) - sl = S - sl + n * (d + 65536 * k) by omega, Int.add_mul_ediv_left _ _ (by omega)]
  have e2 : -(S + n * (d + 65536 * k) + sl) / n = -(S + sl) / n - (d + 65536 * k) := by
    rw [show -(S + n * (d + 65536 * k) + sl) = -(S + sl) + n * (-(d + 65536 * k)) by rw [Int.mul_neg]; omega, Int.add_mul_ediv_left _ _ (by omega)]
    omega
  rw [e1, e2]
  have q1 := down_up (a := S) hn
  have q2 : (S - sl) / n ≤ S / n := Int.ediv_le_ediv hn (by omega)
  have q3 : -(S + sl) / n ≤ -S / n := Int.ediv_le_ediv hn (by omega)
  obtain ⟨L, hL⟩ : ∃ L, L = (S - sl) / n := ⟨_, rfl⟩
  obtain ⟨H, hH⟩ : ∃ H, H = -(S + sl) / n := ⟨_, rfl⟩
  rw [← hL] at q2 ⊢
  rw [← hH] at q3 ⊢
  unfold unw
  refine ⟨((L + 32768) % 65536 - 32768 + d - ((L + (d + 65536 * k) + 32768) % 65536 - 32768)) / 65536, ?_, ?_, ?_, ?_, ?_⟩ <;> omega
theorem eq_opp {S sl k n : Int} (hn : 0 < n) (hs : 0 ≤ sl) (hb : -(-(S + sl) / n) - (S - sl) / n ≤ 60000) :
    eqT (unw ((-S + n * (65536 * k) - sl) / n)) (unw ((-S + n * (65536 * k) - sl) / n) + -(-(-S + n * (65536 * k) + sl) / n) - (-S + n * (65536 * k) - sl) / n) (-(unw ((S - sl) / n) + -(-(S + sl) / n) - (S - sl) / n)) (-(unw ((S - sl) / n))) := by
  have e1 : (-S + n * (65536 * k) - sl) / n = -(S + sl) / n + 65536 * k := by
    rw [show -S + n * (65536 * k) - sl = -(S + sl) + n * (65536 * k) by omega, Int.add_mul_ediv_left _ _ (by omega)]
  have e2 : -(-S + n * (65536 * k) + sl) / n = (S - sl) / n - 65536 * k := by
    rw [show -(-S + n * (65536 * k) + sl) = S - sl + n * (-(65536 * k)) by rw [Int.mul_neg]; omega, Int.add_mul_ediv_left _ _ (by omega)]
    omega
  rw [e1, e2]
  have q1 := down_up (a := S) hn
  have q2 : (S - sl) / n ≤ S / n := Int.ediv_le_ediv hn (by omega)
  have q3 : -(S + sl) / n ≤ -S / n := Int.ediv_le_ediv hn (by omega)
  obtain ⟨L, hL⟩ : ∃ L, L = (S - sl) / n := ⟨_, rfl⟩
  obtain ⟨H, hH⟩ : ∃ H, H = -(S + sl) / n := ⟨_, rfl⟩
  rw [← hL] at q2 hb ⊢
  rw [← hH] at q3 hb ⊢
  unfold unw
  refine ⟨(-((L + 32768) % 65536 - 32768 + -H - L) - ((H + 65536 * k + 32768) % 65536 - 32768)) / 65536, ?_, ?_, ?_, ?_, ?_⟩ <;> omega
theorem movL_ne {d : Int} {xs : List Int} (h : xs ≠ []) : movL d xs ≠ [] := by unfold movL; simpa using h
theorem oppL_ne {xs : List Int} (h : xs ≠ []) : oppL xs ≠ [] := by unfold oppL; simpa using h
theorem movL_len {d : Int} {xs : List Int} : (movL d xs).length = xs.length := by unfold movL; simp
theorem oppL_len {xs : List Int} : (oppL xs).length = xs.length := by unfold oppL; simp
/-- the mean of numbers that are all moved by one -/
theorem mean_mov {d sl : Int} {xs : List Int} (hw : arcW xs < 32768) (hne : xs ≠ []) (hs : 0 ≤ sl) (hd : 0 ≤ d ∧ d < 65536) :
    eqT (meanLo (arcB (movL d xs)) (movL d xs) sl) (meanHi (arcB (movL d xs)) (movL d xs) sl) (meanLo (arcB xs) xs sl + d) (meanHi (arcB xs) xs sl + d) := by
  obtain ⟨k, hk⟩ := sumT_mov (d := d) hw hne
  have hl0 : 0 < (xs.length : Int) := by have := List.length_pos_iff.2 hne; omega
  unfold meanLo meanHi
  rw [if_neg (movL_ne hne), if_neg (movL_ne hne), if_neg hne, if_neg hne, hk, movL_len]
  exact eq_mov hl0 hs hd
/-- the mean of opposite numbers -/
theorem mean_opp {sl : Int} {xs : List Int} (hw : arcW xs < 32768) (hne : xs ≠ []) (hs : 0 ≤ sl) (h1 : sl ≤ 8192 * xs.length) :
    eqT (meanLo (arcB (oppL xs)) (oppL xs) sl) (meanHi (arcB (oppL xs)) (oppL xs) sl) (-(meanHi (arcB xs) xs sl)) (-(meanLo (arcB xs) xs sl)) := by
  obtain ⟨k, hk⟩ := sumT_opp hw hne
  have hl0 : 0 < (xs.length : Int) := by have := List.length_pos_iff.2 hne; omega
  unfold meanLo meanHi
  rw [if_neg (oppL_ne hne), if_neg (oppL_ne hne), if_neg hne, if_neg hne, hk, oppL_len]
  exact eq_opp hl0 hs (by have := mean_width (S := sumT (arcB xs) xs xs.length) (sl := sl) (M := 8192) (n := xs.length) hl0 (by omega) h1; omega)

end Go.Proofs.Ytmojnopgpgnfeaa

namespace Go.Proofs.Ytmojnopgpgnfeaa
set_option linter.unusedVariables false

/-- two echoes that differ in their lists of phases only -/
structure PhE (E E' : Nat → Int) (kd ph c : Int) (x0 x1 x2 y0 y1 y2 : List Int) : Prop where
  same : ∀ i, i ≠ 3 → i ≠ 4 → i ≠ 5 → i ≠ 6 → i ≠ 12 → i ≠ 13 → E' i = E i
  els : E 0 ≠ 3 → E' = E
  clr : E 0 = 3 → (arcW x0 + 4 * ph < 32768 ∧ arcW x1 + 4 * ph < 32768 ∧ arcW x2 + 4 * ph < 32768) ∧ (E 3 = meanLo (arcB x0) x0 (slk kd ph x0) ∧ E 4 = meanHi (arcB x0) x0 (slk kd ph x0) ∧ E 5 = meanLo (arcB x1) x1 (slk kd ph x1) ∧ E 6 = meanHi (arcB x1) x1 (slk kd ph x1) ∧ E 12 = meanLo (arcB x2) x2 (2 * ph * c) ∧ E 13 = meanHi (arcB x2) x2 (2 * ph * c)) ∧ (E' 3 = meanLo (arcB y0) y0 (slk kd ph x0) ∧ E' 4 = meanHi (arcB y0) y0 (slk kd ph x0) ∧ E' 5 = meanLo (arcB y1) y1 (slk kd ph x1) ∧ E' 6 = meanHi (arcB y1) y1 (slk kd ph x1) ∧ E' 12 = meanLo (arcB y2) y2 (2 * ph * c) ∧ E' 13 = meanHi (arcB y2) y2 (2 * ph * c))
theorem upd_ne {e : Nat → Int} {k i : Nat} {v : Int} (h : i ≠ k) : upd e k v i = e i := if_neg h
theorem hearE_two {wH wV sH sV A1 B1 C1 A2 B2 C2 kd ph c : Int} {x0 x1 x2 y0 y1 y2 : List Int} (w0 : arcW y0 = arcW x0) (w1 : arcW y1 = arcW x1) (w2 : arcW y2 = arcW x2) (l0 : y0.length = x0.length) (l1 : y1.length = x1.length) :
    PhE (hearE wH wV sH sV A1 B1 C1 A2 B2 C2 kd ph c x0 x1 x2) (hearE wH wV sH sV A1 B1 C1 A2 B2 C2 kd ph c y0 y1 y2) kd ph c x0 x1 x2 y0 y1 y2 := by
  have s0 : slk kd ph y0 = slk kd ph x0 := by unfold slk; rw [l0]
  have s1 : slk kd ph y1 = slk kd ph x1 := by unfold slk; rw [l1]
  unfold hearE
  by_cases h1 : sH = 0 ∧ sV = 0
  · rw [if_pos h1, if_pos h1]
    exact ⟨fun _ _ _ _ _ _ _ => rfl, fun _ => rfl, fun h => absurd h (by show ¬ (1 : Int) = 3; decide)⟩
  rw [if_neg h1, if_neg h1]
  by_cases h2 : wH = 0
  · rw [if_pos h2, if_pos h2]
    exact ⟨fun _ _ _ _ _ _ _ => rfl, fun _ => rfl, fun h => absurd h (by show ¬ (1 : Int) = 3; decide)⟩
  rw [if_neg h2, if_neg h2]
  generalize baseE wH sH (ratLo wV sH) (ratHi sV wH) (matLo C1 A2 B2) (matHi C2 A1 B1) = e
  unfold phG
  rw [w0, w1, w2, s0, s1]
  by_cases h3 : (decide (arcW x0 + 4 * ph < 32768) && decide (arcW x1 + 4 * ph < 32768) && decide (arcW x2 + 4 * ph < 32768)) = true
  · rw [if_pos h3, if_pos h3]
    rw [Bool.and_eq_true, Bool.and_eq_true, decide_eq_true_eq, decide_eq_true_eq, decide_eq_true_eq] at h3
    refine ⟨fun i a3 a4 a5 a6 a12 a13 => ?_, fun h => absurd rfl h, fun _ => ⟨⟨h3.1.1, h3.1.2, h3.2⟩, ⟨rfl, rfl, rfl, rfl, rfl, rfl⟩, ⟨rfl, rfl, rfl, rfl, rfl, rfl⟩⟩⟩
    rw [upd_ne a13, upd_ne a12, upd_ne a6, upd_ne a5, upd_ne a4, upd_ne a3, upd_ne a13, upd_ne a12, upd_ne a6, upd_ne a5, upd_ne a4, upd_ne a3]
  · rw [if_neg h3, if_neg h3]
    exact ⟨fun _ _ _ _ _ _ _ => rfl, fun _ => rfl, fun h => absurd h (by show ¬ (2 : Int) = 3; decide)⟩
theorem slkM_le {kd ph : Int} {xs : List Int} (hp : 0 ≤ ph ∧ ph ≤ 4096) (hne : xs ≠ []) : 0 ≤ slk kd ph xs ∧ slk kd ph xs ≤ 8192 * xs.length := by
  have hl : 0 < (xs.length : Int) := by have := List.length_pos_iff.2 hne; omega
  have p1 := Int.mul_le_mul_of_nonneg_right (show 2 * ph ≤ 8192 by omega) (show 0 ≤ (xs.length : Int) by omega)
  have p2 := Int.mul_nonneg (show 0 ≤ 2 * ph by omega) (show 0 ≤ (xs.length : Int) by omega)
  unfold slk
  split <;> omega
theorem slkT_le {ph c : Int} (hp : 0 ≤ ph ∧ ph ≤ 4096) (hc : 1 ≤ c) : 0 ≤ 2 * ph * c ∧ 2 * ph * c ≤ 8192 * c :=
  ⟨Int.mul_nonneg (by omega) (by omega), Int.mul_le_mul_of_nonneg_right (by omega) (by omega)⟩
theorem stp_one {zs : Nat → Smp} {c : Int} : ∀ m, valsB (stpTo zs 1 c m) true = []
  | 0 => rfl
  | m + 1 => by
    rw [stpTo, valsB_append, stp_one m]
    unfold stp
    rw [if_neg (by omega)]
    unfold tbB
    rw [if_neg (by omega), if_neg (by omega)]
    rfl
/-- a step that is there -/
theorem stp_has {zs : Nat → Smp} {kd c : Int} {t : Bool} {j : Nat} (h1 : ¬ (kd = 2 ∧ (j : Int) = c / 2 - 1)) (h2 : tbB kd c j = t) : ∀ m, j < m → valsB (stpTo zs kd c m) t ≠ []
  | 0, h => absurd h (Nat.not_lt_zero _)
  | m + 1, h => by
    rw [stpTo, valsB_append]
    by_cases hj : j = m
    · subst hj
      unfold stp
      rw [if_neg h1, h2]
      intro e
      have := (List.append_eq_nil_iff.1 e).2
      unfold valsB at this
      cases t <;> simp at this
    · intro e
      exact stp_has h1 h2 m (by omega) (List.append_eq_nil_iff.1 e).1
theorem stp_false {zs : Nat → Smp} {l kd f s c : Int} {m : Nat} (hc : trainC l kd f s c = 0) (hm : (m : Int) = c - 1) : valsB (stpTo zs kd c m) false ≠ [] := by
  obtain ⟨h1, h2⟩ := train_ok hc
  refine stp_has (j := 0) (by omega) ?_ m (by omega)
  unfold tbB
  split
  · exact decide_eq_false (by omega)
  · split
    · exact decide_eq_false (by omega)
    · rfl
theorem train_three {l f s c : Int} (hc : trainC l 3 f s c = 0) : 3 ≤ c := by
  rw [trainC3] at hc
  split at hc
  · rename_i h; unfold thr at h; omega
  · omega
theorem stp_true {zs : Nat → Smp} {l kd f s c : Int} {m : Nat} (hc : trainC l kd f s c = 0) (hk : kd ≠ 1) (hm : (m : Int) = c - 1) : valsB (stpTo zs kd c m) true ≠ [] := by
  obtain ⟨h1, h2⟩ := train_ok hc
  have h3 : kd = 2 ∨ kd = 3 := by
    rcases Int.lt_or_le 0 0 with h | h
    · omega
    · by_cases a : kd = 2
      · exact .inl a
      · by_cases b : kd = 3
        · exact .inr b
        · rw [trainC0 hk a b] at hc; omega
  rcases h3 with h | h
  · have h4 := h2 h
    refine stp_has (j := (c / 2).toNat) (by omega) ?_ m (by omega)
    unfold tbB
    rw [if_pos h]
    exact decide_eq_true (by omega)
  · have h4 : 3 ≤ c := by subst h; exact train_three hc
    refine stp_has (j := 1) (by omega) ?_ m (by omega)
    unfold tbB
    rw [if_neg (by omega), if_pos h]
    exact decide_eq_true (by omega)

end Go.Proofs.Ytmojnopgpgnfeaa

namespace Go.Proofs.Ytmojnopgpgnfeaa
set_option linter.unusedVariables false

/-- phases that run by d from pulse to pulse -/
theorem hear_run {l kd f s c lv ph n0 n1 d : Int} {n : Nat} {zs zs' : Nat → Smp} {E E' : Nat → Int} (hE : E = hearOf l kd c lv ph n0 n1 n zs) (hE' : E' = hearOf l kd c lv ph n0 n1 n zs') (hc : trainC l kd f s c = 0) (hn : (n : Int) = c) (hp : 0 ≤ ph ∧ ph ≤ 4096) (hd : 0 ≤ d ∧ d < 65536)
    (h : ∀ i : Nat, i < n → (zs' i).h = (zs i).h ∧ (zs' i).v = (zs i).v ∧ (zs' i).p = ((zs i).p + i * d) % 65536 ∧ (zs' i).q = ((zs i).q + i * d) % 65536) :
    (∀ i, i ≠ 3 → i ≠ 4 → i ≠ 5 → i ≠ 6 → E' i = E i) ∧ (E 0 = 3 → eqT (E' 3) (E' 4) (E 3 + d) (E 4 + d) ∧ (kd = 1 → E' 5 = E 5 ∧ E' 6 = E 6) ∧ (kd ≠ 1 → eqT (E' 5) (E' 6) (E 5 + d) (E 6 + d))) := by
  have hc2 := (train_ok hc).1
  rw [hearOf_lists (zs := zs) fun i hi => ⟨(h i hi).1, (h i hi).2.1⟩, steps_run (zs := zs) (d := d) (fun i hi => (h i hi).2.2.1), steps_run (zs := zs) (d := d) (fun i hi => (h i hi).2.2.1), turns_run (zs := zs) (d := d) (fun i hi => (h i hi).2.2)] at hE'
  unfold hearOf at hE
  have q0 := valsB_part (zs := zs) (kd := kd) (c := c) (t := false) (n - 1)
  have q1 := valsB_part (zs := zs) (kd := kd) (c := c) (t := true) (n - 1)
  have ne0 := stp_false (zs := zs) (m := n - 1) hc (by omega)
  have ne1 : kd ≠ 1 → _ := fun hk => stp_true (zs := zs) (m := n - 1) hc hk (by omega)
  have no1 : kd = 1 → valsB (stpTo zs kd c (n - 1)) true = [] := fun hk => by subst hk; exact stp_one _
  generalize valsB (stpTo zs kd c (n - 1)) false = x0 at hE hE' q0 ne0
  generalize valsB (stpTo zs kd c (n - 1)) true = x1 at hE hE' q1 ne1 no1
  generalize trnTo zs n = x2 at hE hE'
  have T : PhE E E' kd ph c x0 x1 x2 (movL d x0) (movL d x1) x2 := by
    rw [hE, hE']
    exact hearE_two (arcW_mov q0) (arcW_mov q1) rfl movL_len movL_len
  have hturn : E 0 = 3 → E' 12 = E 12 ∧ E' 13 = E 13 := fun h3 => by
    obtain ⟨_, ⟨_, _, _, _, a, b⟩, ⟨_, _, _, _, a', b'⟩⟩ := T.clr h3
    exact ⟨a'.trans a.symm, b'.trans b.symm⟩
  refine ⟨fun i a3 a4 a5 a6 => ?_, fun h3 => ?_⟩
  · by_cases h3 : E 0 = 3
    · by_cases a12 : i = 12
      · rw [a12]; exact (hturn h3).1
      by_cases a13 : i = 13
      · rw [a13]; exact (hturn h3).2
      exact T.same i a3 a4 a5 a6 a12 a13
    · rw [T.els h3]
  · obtain ⟨⟨w0, w1, w2⟩, ⟨e3, e4, e5, e6, _, _⟩, ⟨f3, f4, f5, f6, _, _⟩⟩ := T.clr h3
    rw [e3, e4, e5, e6, f3, f4, f5, f6]
    refine ⟨mean_mov (by omega) ne0 (slkM_le hp ne0).1 hd, fun hk => ?_, fun hk => mean_mov (by omega) (ne1 hk) (slkM_le hp (ne1 hk)).1 hd⟩
    rw [no1 hk]
    exact ⟨rfl, rfl⟩
/-- opposite phases -/
theorem hear_opp {l kd f s c lv ph n0 n1 : Int} {n : Nat} {zs zs' : Nat → Smp} {E E' : Nat → Int} (hE : E = hearOf l kd c lv ph n0 n1 n zs) (hE' : E' = hearOf l kd c lv ph n0 n1 n zs') (hc : trainC l kd f s c = 0) (hn : (n : Int) = c) (hp : 0 ≤ ph ∧ ph ≤ 4096)
    (h : ∀ i : Nat, i < n → (zs' i).h = (zs i).h ∧ (zs' i).v = (zs i).v ∧ (zs' i).p = (-(zs i).p) % 65536 ∧ (zs' i).q = (-(zs i).q) % 65536) :
    (∀ i, i ≠ 3 → i ≠ 4 → i ≠ 5 → i ≠ 6 → i ≠ 12 → i ≠ 13 → E' i = E i) ∧ (E 0 = 3 → eqT (E' 3) (E' 4) (-(E 4)) (-(E 3)) ∧ (kd = 1 → E' 5 = E 5 ∧ E' 6 = E 6) ∧ (kd ≠ 1 → eqT (E' 5) (E' 6) (-(E 6)) (-(E 5))) ∧ eqT (E' 12) (E' 13) (-(E 13)) (-(E 12))) := by
  have hc2 := (train_ok hc).1
  rw [hearOf_lists (zs := zs) fun i hi => ⟨(h i hi).1, (h i hi).2.1⟩, steps_opp (zs := zs) (fun i hi => (h i hi).2.2.1), steps_opp (zs := zs) (fun i hi => (h i hi).2.2.1), turns_opp (zs := zs) (fun i hi => (h i hi).2.2)] at hE'
  unfold hearOf at hE
  have q0 := valsB_part (zs := zs) (kd := kd) (c := c) (t := false) (n - 1)
  have q1 := valsB_part (zs := zs) (kd := kd) (c := c) (t := true) (n - 1)
  have q2 := trnTo_part (zs := zs) n
  have ln2 := trnTo_len zs n
  have ne0 := stp_false (zs := zs) (m := n - 1) hc (by omega)
  have ne1 : kd ≠ 1 → _ := fun hk => stp_true (zs := zs) (m := n - 1) hc hk (by omega)
  have no1 : kd = 1 → valsB (stpTo zs kd c (n - 1)) true = [] := fun hk => by subst hk; exact stp_one _
  generalize valsB (stpTo zs kd c (n - 1)) false = x0 at hE hE' q0 ne0
  generalize valsB (stpTo zs kd c (n - 1)) true = x1 at hE hE' q1 ne1 no1
  generalize trnTo zs n = x2 at hE hE' q2 ln2
  have ne2 : x2 ≠ [] := by intro e; rw [e] at ln2; simp at ln2; omega
  have T : PhE E E' kd ph c x0 x1 x2 (oppL x0) (oppL x1) (oppL x2) := by
    rw [hE, hE']
    exact hearE_two (arcW_opp q0) (arcW_opp q1) (arcW_opp q2) oppL_len oppL_len
  refine ⟨T.same, fun h3 => ?_⟩
  obtain ⟨⟨w0, w1, w2⟩, ⟨e3, e4, e5, e6, e12, e13⟩, ⟨f3, f4, f5, f6, f12, f13⟩⟩ := T.clr h3
  have hs := slkT_le (ph := ph) (c := c) hp (by omega)
  rw [e3, e4, e5, e6, f3, f4, f5, f6, e12, e13, f12, f13]
  refine ⟨mean_opp (by omega) ne0 (slkM_le hp ne0).1 (slkM_le hp ne0).2, fun hk => ?_, fun hk => mean_opp (by omega) (ne1 hk) (slkM_le hp (ne1 hk)).1 (slkM_le hp (ne1 hk)).2, mean_opp (by omega) ne2 hs.1 (by rw [ln2, hn]; exact hs.2)⟩
  rw [no1 hk]
  exact ⟨rfl, rfl⟩

end Go.Proofs.Ytmojnopgpgnfeaa

namespace Go.Proofs.Ytmojnopgpgnfeaa
set_option linter.unusedVariables false

theorem allS_of {zs : Nat → Smp} : ∀ {n : Nat}, (∀ i, i < n → smpB (zs i) = true) → allS zs n = true
  | 0, _ => rfl
  | n + 1, h => by
    unfold allS
    rw [allS_of fun i hi => h i (by omega), h n (by omega)]
    rfl
/-- the same levels, and phases that are parts of a turn -/
theorem smp_turn {z y : Smp} (h : smpB z = true) (h1 : y.h = z.h) (h2 : y.v = z.v) (h3 : 0 ≤ y.p ∧ y.p < 65536) (h4 : 0 ≤ y.q ∧ y.q < 65536) : smpB y = true := by
  have := smpB_true h
  unfold smpB
  simp only [Bool.and_eq_true, inB_true]
  omega
theorem mod_in (x : Int) : 0 ≤ x % 65536 ∧ x % 65536 < 65536 := by omega
theorem allS_add {zs : Nat → Smp} {n : Nat} {mo : Int} (h : allS zs n = true) : allS (addP mo zs) n = true := allS_of fun i hi => smp_turn (allS_at h hi) rfl rfl (mod_in _) (mod_in _)
theorem allS_run {zs : Nat → Smp} {n : Nat} {ru : Int} (h : allS zs n = true) : allS (runP ru zs) n = true := allS_of fun i hi => smp_turn (allS_at h hi) rfl rfl (mod_in _) (mod_in _)
theorem allS_opp {zs : Nat → Smp} {n : Nat} (h : allS zs n = true) : allS (oppP zs) n = true := allS_of fun i hi => smp_turn (allS_at h hi) rfl rfl (mod_in _) (mod_in _)
theorem hear_add {l kd c lv ph n0 n1 mo : Int} {n : Nat} {zs : Nat → Smp} : hearOf l kd c lv ph n0 n1 n (addP mo zs) = hearOf l kd c lv ph n0 n1 n zs := hearOf_more (m := mo) fun i hi => ⟨rfl, rfl, rfl, rfl⟩
/-- all that the law asks of the echoes of running and of opposite phases -/
structure TurE (kd ru : Int) (g q o : Nat → Int) : Prop where
  qs : ∀ i, i ≠ 3 → i ≠ 4 → i ≠ 5 → i ≠ 6 → q i = g i
  os : ∀ i, i ≠ 3 → i ≠ 4 → i ≠ 5 → i ≠ 6 → i ≠ 12 → i ≠ 13 → o i = g i
  q0 : g 0 = 3 → eqT (q 3) (q 4) (g 3 + ru) (g 4 + ru)
  o0 : g 0 = 3 → eqT (o 3) (o 4) (-(g 4)) (-(g 3))
  q1 : g 0 = 3 → kd = 1 → q 5 = g 5 ∧ q 6 = g 6
  o1 : g 0 = 3 → kd = 1 → o 5 = g 5 ∧ o 6 = g 6
  q2 : g 0 = 3 → kd ≠ 1 → eqT (q 5) (q 6) (g 5 + ru) (g 6 + ru)
  o2 : g 0 = 3 → kd ≠ 1 → eqT (o 5) (o 6) (-(g 6)) (-(g 5))
  ot : g 0 = 3 → eqT (o 12) (o 13) (-(g 13)) (-(g 12))
theorem tur_e {l kd f s c lv ph n0 n1 ru : Int} {n : Nat} {zs : Nat → Smp} (hc : trainC l kd f s c = 0) (hn : (n : Int) = c) (hp : 0 ≤ ph ∧ ph ≤ 4096) (hd : 0 ≤ ru ∧ ru < 65536) :
    TurE kd ru (hearOf l kd c lv ph n0 n1 n zs) (hearOf l kd c lv ph n0 n1 n (runP ru zs)) (hearOf l kd c lv ph n0 n1 n (oppP zs)) := by
  obtain ⟨a1, a2⟩ := hear_run (zs := zs) (zs' := runP ru zs) (lv := lv) (n0 := n0) (n1 := n1) rfl rfl hc hn hp hd fun i hi => ⟨rfl, rfl, rfl, rfl⟩
  obtain ⟨b1, b2⟩ := hear_opp (zs := zs) (zs' := oppP zs) (lv := lv) (n0 := n0) (n1 := n1) rfl rfl hc hn hp fun i hi => ⟨rfl, rfl, rfl, rfl⟩
  exact ⟨a1, b1, fun h => (a2 h).1, fun h => (b2 h).1, fun h => (a2 h).2.1, fun h => (b2 h).2.1, fun h => (a2 h).2.2, fun h => (b2 h).2.2.1, fun h => (b2 h).2.2.2⟩

end Go.Proofs.Ytmojnopgpgnfeaa
