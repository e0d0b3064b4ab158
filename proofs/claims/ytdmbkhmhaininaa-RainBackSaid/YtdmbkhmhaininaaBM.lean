/-
  Plain mathematics of what passes and comes back.
-/
import Derived.Test.YtdmbkhmhaininaaM
namespace Go.Proofs.Ytdmbkhmhaininaa
set_option linter.unusedVariables false

/-- gates measured that are valid -/
def MesOk (ms : Nat → Int × Int) (k : Nat) : Prop := ∀ j, j < k → 0 ≤ (ms j).1 ∧ (ms j).1 ≤ (ms j).2 ∧ (ms j).2 ≤ 1073741824
theorem MesOk.le {ms : Nat → Int × Int} {k : Nat} (h : MesOk ms (k + 1)) : MesOk ms k := fun j hj => h j (by omega)
/-- what is measured of what was there, comes back -/
theorem res_has {p tl th Tl Th : Int} (p0 : 0 ≤ p) (p1 : p ≤ 1073741824) (a0 : 0 ≤ Tl) (a : Tl ≤ tl) (b : th ≤ Th) (c : 1 ≤ Th) (d : 0 ≤ tl) :
    resLo (Tl, Th) (p * tl / 1073741824, cdiv (p * th) 1073741824) ≤ p ∨ tl > th := by
  by_cases h : tl ≤ th
  · left
    unfold resLo
    dsimp only
    have e1 := Int.ediv_mul_le (p * tl) (b := 1073741824) (by decide)
    have e2 : p * tl ≤ p * Th := Int.mul_le_mul_of_nonneg_left (by omega) p0
    have e3 : 0 ≤ p * tl := Int.mul_nonneg p0 d
    have e4 : 0 ≤ p * tl / 1073741824 := Int.ediv_nonneg e3 (by decide)
    have := (floor_bd (a := p * tl / 1073741824 * 1073741824) (b := Th) (q := p) c (by omega) (by omega)).2
    omega
  · right; omega
theorem res_has_hi {p th Tl Th : Int} (p0 : 0 ≤ p) (p1 : p ≤ 1073741824) (b : Tl ≤ th) (x : Int) :
    p ≤ resHi (Tl, Th) (x, cdiv (p * th) 1073741824) := by
  unfold resHi
  dsimp only
  by_cases h : 1048576 ≤ Tl
  · rw [if_pos h]
    have e1 : p * th ≤ cdiv (p * th) 1073741824 * 1073741824 := by
      unfold cdiv
      have := Int.ediv_mul_le (-(p * th)) (b := 1073741824) (by decide)
      rw [Int.neg_mul]; omega
    have e2 : p * Tl ≤ p * th := Int.mul_le_mul_of_nonneg_left b p0
    have e3 : p ≤ cdiv (cdiv (p * th) 1073741824 * 1073741824) Tl := by
      unfold cdiv at *
      have : -(-(-(p * th) / 1073741824) * 1073741824) / Tl ≤ -p := by
        have h1 := Int.ediv_le_ediv (c := Tl) (a := -(-(-(p * th) / 1073741824) * 1073741824)) (b := (-p) * Tl) (by omega) (by rw [Int.neg_mul p Tl]; omega)
        rwa [Int.mul_ediv_cancel _ (by omega)] at h1
      omega
    omega
  · rw [if_neg h]; exact p1
theorem pass_mono {tl th vl vh Tl Th Vl Vh : Int} (h0 : 0 ≤ Tl) (h1 : Tl ≤ tl) (h2 : th ≤ Th) (h3 : 0 ≤ th) (v1 : vh ≤ Vh) (v2 : Vl ≤ vl) (v3 : Vh ≤ 32768) (v4 : 0 ≤ Vl) (v5 : vl ≤ 32768) (v6 : vh ≤ 32768) :
    Tl * (65536 - Vh) / 65536 ≤ tl * (65536 - vh) / 65536 ∧ cdiv (th * (65536 - vl)) 65536 ≤ cdiv (Th * (65536 - Vl)) 65536 := by
  have a : Tl * (65536 - Vh) ≤ tl * (65536 - vh) := Int.mul_le_mul h1 (by omega) (by omega) (by omega)
  have b : th * (65536 - vl) ≤ Th * (65536 - Vl) := Int.mul_le_mul h2 (by omega) (by omega) (by omega)
  exact ⟨Int.ediv_le_ediv (by decide) a, cdiv_mono (by decide) b⟩
theorem mesOk_of {n : Nat} {zs : Nat → Int × Int} (h : TabOk n zs 32768) {p : Nat → Int} {k : Nat} (hp : ∀ j, j < k → 0 ≤ p j ∧ p j ≤ 1073741824) : MesOk (mesOf n zs p) k := fun j hj => by
  obtain ⟨a, b, c, d⟩ := pas_bd h (p := p) j (fun i hi => (hp i (by omega)).1)
  have e := mes_bd (hp j hj).1 (hp j hj).2 a b c
  have := (hp j hj).2
  refine ⟨e.2.2.2.2.1, e.2.2.2.2.2.1, ?_⟩
  have f := e.2.2.2.2.2.2
  show cdiv (p j * pasHi n zs p j) 1073741824 ≤ 1073741824
  omega
theorem back_has {n : Nat} {zs : Nat → Int × Int} (h : TabOk n zs 32768) {p : Nat → Int} : ∀ k, (∀ j, j < k + 1 → 0 ≤ p j ∧ p j ≤ 1073741824) →
    ((rstT n zs (mesOf n zs p) k).1 ≤ pasLo n zs p k ∧ pasHi n zs p k ≤ (rstT n zs (mesOf n zs p) k).2) ∧ ((rstOf n zs (mesOf n zs p) k).1 ≤ p k ∧ p k ≤ (rstOf n zs (mesOf n zs p) k).2)
  | k, hp => by
    have hm := mesOk_of h (k := k) (fun j hj => hp j (by omega))
    have hm1 := mesOk_of h (k := k + 1) hp
    have first : (rstT n zs (mesOf n zs p) k).1 ≤ pasLo n zs p k ∧ pasHi n zs p k ≤ (rstT n zs (mesOf n zs p) k).2 := by
      cases k with
      | zero => unfold rstT pasLo pasHi; exact ⟨Int.le_refl _, Int.le_refl _⟩
      | succ k =>
        obtain ⟨⟨a, b⟩, c, d⟩ := back_has h k (fun j hj => hp j (by omega))
        obtain ⟨e1, e2, e3, e4⟩ := pas_bd h (p := p) k (fun i hi => (hp i (by omega)).1)
        obtain ⟨f1, f2, f3, f4⟩ := rst_bd h (ms := mesOf n zs p) k (fun j hj => hm j (by omega))
        obtain ⟨m1, m2, m3⟩ := hm k (by omega)
        obtain ⟨r1, r2, r3⟩ := res_bd f1 f2 f4 f3 m1 m2 m3
        have c' : resLo (rstT n zs (mesOf n zs p) k) (mesOf n zs p k) ≤ p k := c
        have d' : p k ≤ resHi (rstT n zs (mesOf n zs p) k) (mesOf n zs p k) := d
        have pk := hp k (by omega)
        obtain ⟨u1, u2, u3⟩ := h.val (by decide) pk.1
        obtain ⟨x1, x2, x3⟩ := h.val (z := resLo (rstT n zs (mesOf n zs p) k) (mesOf n zs p k)) (by decide) r1
        obtain ⟨y1, y2, y3⟩ := h.val (z := resHi (rstT n zs (mesOf n zs p) k) (mesOf n zs p k)) (by decide) (by omega)
        have v1 := (val_mono h (by decide) r1 c').1
        have v2 := (val_mono h (by decide) pk.1 d').2
        exact pass_mono f1 a b (by omega) v2 v1 y3 x1 (by omega) u3
    refine ⟨first, ?_⟩
    obtain ⟨e1, e2, e3, e4⟩ := pas_bd h (p := p) k (fun i hi => (hp i (by omega)).1)
    obtain ⟨f1, f2, f3, f4⟩ := rst_bd h (ms := mesOf n zs p) k hm
    have pk := hp k (by omega)
    constructor
    · rcases res_has (p := p k) (tl := pasLo n zs p k) (th := pasHi n zs p k) (Tl := (rstT n zs (mesOf n zs p) k).1) (Th := (rstT n zs (mesOf n zs p) k).2) pk.1 pk.2 f1 first.1 first.2 f4 e1 with x | x
      · exact x
      · omega
    · exact res_has_hi (p := p k) (th := pasHi n zs p k) (Tl := (rstT n zs (mesOf n zs p) k).1) (Th := (rstT n zs (mesOf n zs p) k).2) pk.1 pk.2 (by omega) _
/-- narrower measures, behind narrower passages -/
theorem res_in {t T m M : Int × Int} (t0 : 0 ≤ T.1) (t1 : T.1 ≤ t.1) (t2 : t.2 ≤ T.2) (t3 : 1 ≤ t.2) (t4 : t.1 ≤ t.2) (m0 : 0 ≤ M.1) (m1 : M.1 ≤ m.1) (m2 : m.2 ≤ M.2) (m3 : m.1 ≤ m.2) : resLo T M ≤ resLo t m ∧ resHi t m ≤ resHi T M := by
  have a : M.1 * 1073741824 / T.2 ≤ m.1 * 1073741824 / t.2 := by
    refine Int.le_ediv_of_mul_le (by omega) ?_
    have z := Int.ediv_mul_le (M.1 * 1073741824) (b := T.2) (by omega)
    have y : 0 ≤ M.1 * 1073741824 / T.2 := Int.ediv_nonneg (by omega) (by omega)
    have w : M.1 * 1073741824 / T.2 * t.2 ≤ M.1 * 1073741824 / T.2 * T.2 := Int.mul_le_mul_of_nonneg_left t2 y
    omega
  unfold resLo resHi
  refine ⟨by omega, ?_⟩
  by_cases h : 1048576 ≤ T.1
  · rw [if_pos h, if_pos (by omega)]
    have b : cdiv (m.2 * 1073741824) t.1 ≤ cdiv (M.2 * 1073741824) T.1 := by
      have y : 0 ≤ cdiv (M.2 * 1073741824) T.1 := (cdiv_bd (q := M.2 * 1073741824) (by omega) (by omega) (by have := Int.mul_le_mul_of_nonneg_left (show 1 ≤ T.1 by omega) (show 0 ≤ M.2 * 1073741824 by omega); omega)).1
      refine (cdiv_bd (by omega) (by omega) ?_).2
      have z : M.2 * 1073741824 ≤ cdiv (M.2 * 1073741824) T.1 * T.1 := by
        unfold cdiv
        have := Int.ediv_mul_le (-(M.2 * 1073741824)) (b := T.1) (by omega)
        rw [Int.neg_mul]; omega
      have w : cdiv (M.2 * 1073741824) T.1 * T.1 ≤ cdiv (M.2 * 1073741824) T.1 * t.1 := Int.mul_le_mul_of_nonneg_left t1 y
      omega
    omega
  · rw [if_neg h]
    split <;> omega
theorem back_in {n : Nat} {zs : Nat → Int × Int} (h : TabOk n zs 32768) {ms Ms : Nat → Int × Int} : ∀ k, MesOk ms (k + 1) → MesOk Ms (k + 1) → (∀ j, j < k + 1 → (Ms j).1 ≤ (ms j).1 ∧ (ms j).2 ≤ (Ms j).2) →
    ((rstT n zs Ms k).1 ≤ (rstT n zs ms k).1 ∧ (rstT n zs ms k).2 ≤ (rstT n zs Ms k).2) ∧ ((rstOf n zs Ms k).1 ≤ (rstOf n zs ms k).1 ∧ (rstOf n zs ms k).2 ≤ (rstOf n zs Ms k).2)
  | k, hm, hM, hi => by
    have first : (rstT n zs Ms k).1 ≤ (rstT n zs ms k).1 ∧ (rstT n zs ms k).2 ≤ (rstT n zs Ms k).2 := by
      cases k with
      | zero => exact ⟨Int.le_refl _, Int.le_refl _⟩
      | succ k =>
        obtain ⟨⟨a, b⟩, c, d⟩ := back_in h k hm.le hM.le (fun j hj => hi j (by omega))
        obtain ⟨e1, e2, e3, e4⟩ := rst_bd h (ms := ms) k (fun j hj => hm j (by omega))
        obtain ⟨f1, f2, f3, f4⟩ := rst_bd h (ms := Ms) k (fun j hj => hM j (by omega))
        obtain ⟨m1, m2, m3⟩ := hm k (by omega)
        obtain ⟨n1, n2, n3⟩ := hM k (by omega)
        obtain ⟨r1, r2, r3⟩ := res_bd e1 e2 e4 e3 m1 m2 m3
        obtain ⟨s1, s2, s3⟩ := res_bd f1 f2 f4 f3 n1 n2 n3
        have c' : resLo (rstT n zs Ms k) (Ms k) ≤ resLo (rstT n zs ms k) (ms k) := c
        have d' : resHi (rstT n zs ms k) (ms k) ≤ resHi (rstT n zs Ms k) (Ms k) := d
        obtain ⟨u1, u2, u3⟩ := h.val (z := resLo (rstT n zs ms k) (ms k)) (by decide) r1
        obtain ⟨x1, x2, x3⟩ := h.val (z := resLo (rstT n zs Ms k) (Ms k)) (by decide) s1
        obtain ⟨y1, y2, y3⟩ := h.val (z := resHi (rstT n zs Ms k) (Ms k)) (by decide) (by omega)
        obtain ⟨z1, z2, z3⟩ := h.val (z := resHi (rstT n zs ms k) (ms k)) (by decide) (by omega)
        have v1 := (val_mono h (by decide) s1 c').1
        have v2 := (val_mono h (z := resHi (rstT n zs ms k) (ms k)) (by decide) (by omega) d').2
        exact pass_mono f1 a b (by omega) v2 v1 y3 x1 (by omega) z3
    refine ⟨first, ?_⟩
    obtain ⟨e1, e2, e3, e4⟩ := rst_bd h (ms := ms) k (fun j hj => hm j (by omega))
    obtain ⟨f1, f2, f3, f4⟩ := rst_bd h (ms := Ms) k (fun j hj => hM j (by omega))
    exact res_in f1 first.1 first.2 e4 e2 (hM k (by omega)).1 (hi k (by omega)).1 (hi k (by omega)).2 (hm k (by omega)).2.1
/-- greater measures, behind less that passes -/
theorem res_up {t T m M : Int × Int} (t0 : 0 ≤ T.1) (t1 : T.1 ≤ t.1) (t2 : T.2 ≤ t.2) (t3 : 1 ≤ T.2) (t4 : T.1 ≤ T.2) (m0 : 0 ≤ m.1) (m1 : m.1 ≤ M.1) (m2 : m.2 ≤ M.2) (m3 : 0 ≤ m.2) : resLo t m ≤ resLo T M ∧ resHi t m ≤ resHi T M := by
  have a : m.1 * 1073741824 / t.2 ≤ M.1 * 1073741824 / T.2 := by
    refine Int.le_ediv_of_mul_le (by omega) ?_
    have z := Int.ediv_mul_le (m.1 * 1073741824) (b := t.2) (by omega)
    have y : 0 ≤ m.1 * 1073741824 / t.2 := Int.ediv_nonneg (by omega) (by omega)
    have w : m.1 * 1073741824 / t.2 * T.2 ≤ m.1 * 1073741824 / t.2 * t.2 := Int.mul_le_mul_of_nonneg_left t2 y
    omega
  unfold resLo resHi
  refine ⟨by omega, ?_⟩
  by_cases h : 1048576 ≤ T.1
  · rw [if_pos h, if_pos (by omega)]
    have b : cdiv (m.2 * 1073741824) t.1 ≤ cdiv (M.2 * 1073741824) T.1 := by
      have y : 0 ≤ cdiv (M.2 * 1073741824) T.1 := (cdiv_bd (q := M.2 * 1073741824) (by omega) (by omega) (by have := Int.mul_le_mul_of_nonneg_left (show 1 ≤ T.1 by omega) (show 0 ≤ M.2 * 1073741824 by omega); omega)).1
      refine (cdiv_bd (by omega) (by omega) ?_).2
      have z : M.2 * 1073741824 ≤ cdiv (M.2 * 1073741824) T.1 * T.1 := by
        unfold cdiv
        have := Int.ediv_mul_le (-(M.2 * 1073741824)) (b := T.1) (by omega)
        rw [Int.neg_mul]; omega
      have w : cdiv (M.2 * 1073741824) T.1 * T.1 ≤ cdiv (M.2 * 1073741824) T.1 * t.1 := Int.mul_le_mul_of_nonneg_left t1 y
      omega
    omega
  · rw [if_neg h]
    split <;> omega
theorem back_up {n : Nat} {zs : Nat → Int × Int} (h : TabOk n zs 32768) {ms Ms : Nat → Int × Int} : ∀ k, MesOk ms (k + 1) → MesOk Ms (k + 1) → (∀ j, j < k + 1 → (ms j).1 ≤ (Ms j).1 ∧ (ms j).2 ≤ (Ms j).2) →
    ((rstT n zs Ms k).1 ≤ (rstT n zs ms k).1 ∧ (rstT n zs Ms k).2 ≤ (rstT n zs ms k).2) ∧ ((rstOf n zs ms k).1 ≤ (rstOf n zs Ms k).1 ∧ (rstOf n zs ms k).2 ≤ (rstOf n zs Ms k).2)
  | k, hm, hM, hi => by
    have first : (rstT n zs Ms k).1 ≤ (rstT n zs ms k).1 ∧ (rstT n zs Ms k).2 ≤ (rstT n zs ms k).2 := by
      cases k with
      | zero => exact ⟨Int.le_refl _, Int.le_refl _⟩
      | succ k =>
        obtain ⟨⟨a, b⟩, c, d⟩ := back_up h k hm.le hM.le (fun j hj => hi j (by omega))
        obtain ⟨e1, e2, e3, e4⟩ := rst_bd h (ms := ms) k (fun j hj => hm j (by omega))
        obtain ⟨f1, f2, f3, f4⟩ := rst_bd h (ms := Ms) k (fun j hj => hM j (by omega))
        obtain ⟨m1, m2, m3⟩ := hm k (by omega)
        obtain ⟨n1, n2, n3⟩ := hM k (by omega)
        obtain ⟨r1, r2, r3⟩ := res_bd e1 e2 e4 e3 m1 m2 m3
        obtain ⟨s1, s2, s3⟩ := res_bd f1 f2 f4 f3 n1 n2 n3
        have c' : resLo (rstT n zs ms k) (ms k) ≤ resLo (rstT n zs Ms k) (Ms k) := c
        have d' : resHi (rstT n zs ms k) (ms k) ≤ resHi (rstT n zs Ms k) (Ms k) := d
        obtain ⟨u1, u2, u3⟩ := h.val (z := resLo (rstT n zs ms k) (ms k)) (by decide) r1
        obtain ⟨x1, x2, x3⟩ := h.val (z := resLo (rstT n zs Ms k) (Ms k)) (by decide) s1
        obtain ⟨y1, y2, y3⟩ := h.val (z := resHi (rstT n zs Ms k) (Ms k)) (by decide) (by omega)
        obtain ⟨z1, z2, z3⟩ := h.val (z := resHi (rstT n zs ms k) (ms k)) (by decide) (by omega)
        have v1 := (val_mono h (by decide) r1 c').1
        have v2 := (val_mono h (z := resHi (rstT n zs ms k) (ms k)) (by decide) (by omega) d').2
        have p1 := (pass_mono (tl := (rstT n zs ms k).1) (Tl := (rstT n zs Ms k).1) (th := 0) (Th := 0) f1 a (by omega) (by omega) v2 (Int.le_refl 0) y3 (Int.le_refl 0) (by decide) z3).1
        have p2 := (pass_mono (tl := 0) (Tl := 0) (vh := 0) (Vh := 0) (th := (rstT n zs Ms k).2) (Th := (rstT n zs ms k).2) (by omega) (by omega) b (by omega) (Int.le_refl 0) v1 (by decide) u1 (by omega) (by decide)).2
        exact ⟨p1, p2⟩
    refine ⟨first, ?_⟩
    obtain ⟨e1, e2, e3, e4⟩ := rst_bd h (ms := ms) k (fun j hj => hm j (by omega))
    obtain ⟨f1, f2, f3, f4⟩ := rst_bd h (ms := Ms) k (fun j hj => hM j (by omega))
    have mk := hm k (by omega)
    exact res_up f1 first.1 first.2 f4 f2 mk.1 (hi k (by omega)).1 (hi k (by omega)).2 (by omega)
theorem rst_valid {n : Nat} {zs : Nat → Int × Int} (h : TabOk n zs 32768) {ms : Nat → Int × Int} {k : Nat} (hm : MesOk ms (k + 1)) : 0 ≤ (rstOf n zs ms k).1 ∧ (rstOf n zs ms k).1 ≤ (rstOf n zs ms k).2 ∧ (rstOf n zs ms k).2 ≤ 1073741824 := by
  obtain ⟨e1, e2, e3, e4⟩ := rst_bd h (ms := ms) k (fun j hj => hm j (by omega))
  obtain ⟨m1, m2, m3⟩ := hm k (by omega)
  exact res_bd e1 e2 e4 e3 m1 m2 m3

end Go.Proofs.Ytdmbkhmhaininaa
