/-
  Walks over the closures of find and sector.
-/
import Derived.Deep.OwnRows
import Derived.Laws.OwnMore
import Derived.Test.YthnjfnapjpdchaaKm10
import Derived.Test.YthnjfnapjpdchaaKm8
namespace Go.Proofs.Ythnjfnapjpdchaa
open Go.RowKit
set_option linter.unusedVariables false

/-- integers in a row of a block -/
def IntsAt (w : World) (b n : Nat) (B : Nat → Int) : Prop := ∀ k, k < n → w.cell? ⟨b, k, none⟩ = some (.int .i64 (B k))
theorem IntsAt.keep {C b n : Nat} {W w1 : World} {B : Nat → Int} (s : IntsAt W b n B) (hb : Below C W w1) (h : b < C) : IntsAt w1 b n B := fun k hk => keepB hb h (s k hk)

set_option maxHeartbeats 1600000 in
theorem find1_any (q pb b n k : Nat) (sq : Int) (B : Nat → Int) (w : World) (hq : w.cell? ⟨q, 0, none⟩ = some (.int .i64 sq)) (hp : w.cell? ⟨pb, 0, none⟩ = some (.slice (some ⟨b, 0, none⟩) n n))
    (hs : IntsAt w b n B) (hk : k < n) (hn : n ≤ 1000000) (hB : 0 ≤ B k ∧ B k ≤ 1000000) :
    Calls Try.prog 97 #[.int .i64 k, .pointer (some ⟨q, 0, none⟩), .pointer (some ⟨pb, 0, none⟩)] w fun e w' => e = .returned (.bool (decide (sq < B k * B k))) ∧ Below w.heap.size w w' := by
  have hc := hs k hk
  have m1 := M.mul_bd hB.1 hB.2 hB.1 hB.2
  have q1 : IntKind.i64.wrap (B k * B k) = B k * B k := IntWalk.i64_in _ (by omega)
  have i1 : (0 : Int) ≤ (k : Int) := Int.natCast_nonneg _
  have i2 : (k : Int) < (n : Int) := by omega
  clear hs
  go_enter Try.func97, Try.ntmps97
  go_wp2
  go_quiet (fail)
  go_wp2
  go_ret
  exact ⟨rfl, below_drewN (Below.refl _ _) _⟩

set_option maxHeartbeats 1600000 in
theorem sector1_any (pr pv k : Nat) (n vx vy : Int) (w : World) (hr : w.cell? ⟨pr, 0, none⟩ = some (.int .i64 n)) (hv0 : w.cell? ⟨pv, 0, none⟩ = some (.int .i64 vx)) (hv1 : w.cell? ⟨pv, 1, none⟩ = some (.int .i64 vy))
    (h1 : 1 ≤ n) (h2 : n ≤ 90) (hk : (k : Int) < n) (b1 : -10000000 ≤ vx ∧ vx ≤ 10000000) (b2 : -10000000 ≤ vy ∧ vy ≤ 10000000) :
    Calls Try.prog 102 #[.int .i64 k, .pointer (some ⟨pr, 0, none⟩), .pointer (some ⟨pv, 0, none⟩)] w
      fun e w' => e = .returned (.bool (decide (dirY n k * vx < dirX n k * vy))) ∧ Below w.heap.size w w' := by
  obtain ⟨⟨d1, d2⟩, ⟨d3, d4⟩, _⟩ := dir_bd h1 (show n ≤ 180 by omega) (Int.natCast_nonneg k) (by omega)
  have m1 := M.mul_abs (a := dirY n k) (b := vx) (A := 64800) (B := 10000000) d3 d4 b1.1 b1.2
  have m2 := M.mul_abs (a := dirX n k) (b := vy) (A := 64800) (B := 10000000) d1 d2 b2.1 b2.2
  have l1 := World.block_lt_of_cell? w _ hv0
  have l2 := World.block_lt_of_cell? w _ hr
  have H0 := Lib.hid hv0
  have H1 := Lib.hid hv1
  go_enter Try.func102, Try.ntmps102
  go_wp2_with fail
  refine (towards_any n k _ h1 (by omega) (Int.natCast_nonneg _) (by omega)).mono ?_; rintro e w1 ⟨rfl, hb1⟩
  have c0 := keepB hb1 l1 H0.out
  have c1 := keepB hb1 l1 H1.out
  have l3 : pv < w1.heap.size := Nat.lt_of_lt_of_le l1 hb1.size
  have z1 := hb1.size
  have HB := Lib.hid hb1
  clear hb1 hv0 hv1
  go_wp2_with fail
  refine (isBefore_any _ _ _ _ _ (by omega) (by omega)).mono ?_; rintro e w2 ⟨rfl, hb2⟩
  go_wp2
  go_ret
  exact ⟨rfl, (HB.out).trans (Below.trans ((below_alloc _ _).mono z1) (hb2.mono (by simp only [World.size_alloc]; omega)))⟩

end Go.Proofs.Ythnjfnapjpdchaa

namespace Go.Proofs.Ythnjfnapjpdchaa
open Go.RowKit
set_option linter.unusedVariables false

/-- a vector in a box that may be written -/
structure VBox (w : World) (b : Nat) (x y : Int) : Prop where
  c0 : w.cell? ⟨b, 0, none⟩ = some (.int .i64 x)
  c1 : w.cell? ⟨b, 1, none⟩ = some (.int .i64 y)
  f0 : w.frozen? ⟨b, 0, none⟩ = false
  f1 : w.frozen? ⟨b, 1, none⟩ = false
theorem VBox.set {w : World} {b : Nat} {x y u v : Int} (s : VBox w b x y) : VBox ((w.setCell ⟨b, 0, none⟩ (.int .i64 u)).setCell ⟨b, 1, none⟩ (.int .i64 v)) b u v := by
  have e0 : (w.setCell ⟨b, 0, none⟩ (.int .i64 u)).cell? ⟨b, 0, none⟩ = some (.int .i64 u) := World.cell?_setCell_same' _ _ _ (by rw [s.c0]; rfl)
  have e1 : (w.setCell ⟨b, 0, none⟩ (.int .i64 u)).cell? ⟨b, 1, none⟩ = some (.int .i64 y) := by rw [World.cell?_setCell_other _ _ _ _ (by simp)]; exact s.c1
  refine ⟨?_, World.cell?_setCell_same' _ _ _ (by rw [e1]; rfl), ?_, ?_⟩
  · rw [World.cell?_setCell_other _ _ _ _ (by simp)]; exact e0
  · simp; exact s.f0
  · simp; exact s.f1
theorem VBox.keep {B b : Nat} {W w1 : World} {x y : Int} (s : VBox W b x y) (hb : Below B W w1) (h : b < B) : VBox w1 b x y := ⟨keepB hb h s.c0, keepB hb h s.c1, keepF hb h s.f0, keepF hb h s.f1⟩

/-- a vector turned on by quarters -/
def rotX (m : Nat) (a b : Int) : Int := if m = 0 then a else if m = 1 then b else if m = 2 then -a else -b
def rotY (m : Nat) (a b : Int) : Int := if m = 0 then b else if m = 1 then -a else if m = 2 then -b else a

/-- the test of the search -/
def before (n : Nat) (a b : Int) (k : Nat) : Bool := decide (dirY n k * a < dirX n k * b)

theorem dir_first {n k : Int} (h0 : 0 ≤ k) (h1 : k < n) : dirX n k = 2 * n * k ∧ dirY n k = n * n - k * k := by
  have h := dir_eq (q := 0) h0 h1
  simp [M.dx, M.dy] at h
  exact ⟨h.1, h.2.1⟩

theorem before_mono {n : Nat} {a b : Int} (ha : 0 ≤ a) (hb : 0 < b) : ∀ i j, i ≤ j → j < n → before n a b i = true → before n a b j = true := by
  intro i j hij hj hi
  unfold before at hi ⊢
  rw [decide_eq_true_iff] at hi ⊢
  obtain ⟨e1, e2⟩ := dir_first (n := n) (k := i) (Int.natCast_nonneg _) (by omega)
  obtain ⟨e3, e4⟩ := dir_first (n := n) (k := j) (Int.natCast_nonneg _) (by omega)
  rw [e1, e2] at hi
  rw [e3, e4]
  have s1 := M.sq_mono (a := (i : Int)) (b := (j : Int)) (by omega) (by omega)
  have l1 : ((n : Int) * n - (j : Int) * j) * a ≤ ((n : Int) * n - (i : Int) * i) * a := Int.mul_le_mul_of_nonneg_right (by omega) ha
  have l2 : 2 * (n : Int) * i ≤ 2 * (n : Int) * j := Int.mul_le_mul_of_nonneg_left (by omega) (by omega)
  have l3 : 2 * (n : Int) * i * b ≤ 2 * (n : Int) * j * b := Int.mul_le_mul_of_nonneg_right l2 (by omega)
  omega

/-- the ray in whose sector a vector is -/
def SecIs (n q : Nat) (a b : Int) (s : Int) : Prop := ∃ r : Nat, SrchIs n (before n a b) r ∧ s = q * n + r - 1
def SecRet (n q : Nat) (a b : Int) (w : World) (e : Ending) (w' : World) : Prop := ∃ s : Int, SecIs n q a b s ∧ e = .returned (.int .i64 s) ∧ Below w.heap.size w w'

/-- the relation of the loop -/
def RotRel (w : World) (n q : Nat) (a b : Int) (j : Nat) (wr : World) : Prop :=
  j ≤ q ∧ VBox wr (w.heap.size + 1) (rotX (q - j) a b) (rotY (q - j) a b) ∧ wr.cell? ⟨w.heap.size, 0, none⟩ = some (.int .i64 n) ∧ w.heap.size + 2 ≤ wr.heap.size ∧ Below w.heap.size w wr

theorem rot_turn {m : Nat} {a b : Int} (ha : 0 ≤ a) (hb : 0 < b) (h0 : 0 < m) (h : m ≤ 3) : (rotX m a b < 0 ∨ rotY m a b ≤ 0) ∧ -rotY m a b = rotX (m - 1) a b ∧ rotX m a b = rotY (m - 1) a b := by
  have hm : m = 1 ∨ m = 2 ∨ m = 3 := by omega
  rcases hm with rfl | rfl | rfl <;> simp [rotX, rotY] <;> omega
theorem rot_bd {m : Nat} {a b : Int} (ha : 0 ≤ a) (hb : 0 < b) (ha2 : a ≤ 10000000) (hb2 : b ≤ 10000000) : (-10000000 ≤ rotX m a b ∧ rotX m a b ≤ 10000000) ∧ (-10000000 ≤ rotY m a b ∧ rotY m a b ≤ 10000000) := by
  unfold rotX rotY
  split
  · omega
  · split
    · omega
    · split <;> omega
theorem sector_start (w : World) (n q : Nat) (a b X Y : Int) (hX : X = rotX q a b) (hY : Y = rotY q a b) :
    RotRel w n q a b 0 ((w.alloc (.cells #[.int .i64 n] 3)).alloc (.cells #[.int .i64 X, .int .i64 Y] 83)) := by
  have e : (w.alloc (.cells #[.int .i64 n] 3)).heap.size = w.heap.size + 1 := World.size_alloc _ _
  refine ⟨Nat.zero_le _, ?_, alloc_keep (by omega) (alloc_new rfl rfl), by simp, Below.trans (below_alloc _ _) ((below_alloc _ _).mono (by omega))⟩
  rw [Nat.sub_zero, ← hX, ← hY]
  exact ⟨alloc_new e.symm rfl, alloc_new e.symm rfl, alloc_newF e.symm, alloc_newF e.symm⟩
theorem rot_zero (a b : Int) : rotX 0 a b = a ∧ rotY 0 a b = b := ⟨rfl, rfl⟩

set_option maxHeartbeats 3200000 in
theorem sector_any (n q : Nat) (a b : Int) (w : World) (hq : q ≤ 3) (h1 : 1 ≤ n) (h2 : n ≤ 90) (ha : 0 ≤ a) (hb : 0 < b) (ha2 : a ≤ 10000000) (hb2 : b ≤ 10000000) (hne : (rotX q a b == 0 && rotY q a b == 0) = false) :
    Calls Try.prog 98 #[.int .i64 n, .agg #[.int .i64 (rotX q a b), .int .i64 (rotY q a b)]] w (SecRet n q a b w) := by
  obtain ⟨X, hX⟩ : ∃ X, X = rotX q a b := ⟨_, rfl⟩
  obtain ⟨Y, hY⟩ : ∃ Y, Y = rotY q a b := ⟨_, rfl⟩
  rw [← hX, ← hY] at hne ⊢
  have HX := Lib.hid hX
  have HY := Lib.hid hY
  clear hX hY
  by_cases hx0 : X = 0
  · subst hx0
    have hy0 : (Y == 0) = false := by simpa using hne
    have HNE := Lib.hid hne
    clear hne
    have START := Lib.hid (sector_start w n q a b 0 Y HX.out HY.out)
    go_enter Try.func98, Try.ntmps98
    go_wp2
    clear HNE
    go_loopw [5] (fun i wr => ∃ j : Nat, RotRel w n q a b j wr ∧ i = .int .i64 j) (fun i _ => q - (intOf i).toNat)
    case atStart => exact ⟨0, START.out, rfl⟩
    case round =>
      clear START
      obtain ⟨j, ⟨hj, hv, hr, hz, hbw⟩, rfl⟩ := hrel
      have y0 : w.heap.size < wr.heap.size := by omega
      have y1 : w.heap.size + 1 < wr.heap.size := by omega
      have HV := Lib.hid hv
      obtain ⟨v0, v1, f0, f1⟩ := hv
      by_cases hlt : j < q
      · obtain ⟨t1, t2, t3⟩ := rot_turn (m := q - j) ha hb (by omega) (by omega)
        obtain ⟨⟨g1, g2⟩, g3, g4⟩ := rot_bd (m := q - j) ha hb ha2 hb2
        have HV2 := Lib.hid (HV.out.set (u := -rotY (q - j) a b) (v := rotX (q - j) a b))
        have T2 := Lib.hid t2
        have T3 := Lib.hid t3
        obtain ⟨x, hx⟩ : ∃ x, x = rotX (q - j) a b := ⟨_, rfl⟩
        obtain ⟨y, hy⟩ : ∃ y, y = rotY (q - j) a b := ⟨_, rfl⟩
        rw [← hx] at v0 t1 g1 g2
        rw [← hy] at v1 t1 g3 g4
        have EX := Lib.hid hx
        have EY := Lib.hid hy
        clear t2 t3 hx hy HV
        have hbw2 : Below w.heap.size w ((wr.setCell ⟨w.heap.size + 1, 0, none⟩ (.int .i64 (-y))).setCell ⟨w.heap.size + 1, 1, none⟩ (.int .i64 x)) := (hbw.setCell (p := ⟨w.heap.size + 1, 0, none⟩) (Nat.le_succ _) _).setCell (p := ⟨w.heap.size + 1, 1, none⟩) (Nat.le_succ _) _
        have hr2 : ((wr.setCell ⟨w.heap.size + 1, 0, none⟩ (.int .i64 (-y))).setCell ⟨w.heap.size + 1, 1, none⟩ (.int .i64 x)).cell? ⟨w.heap.size, 0, none⟩ = some (.int .i64 n) := by
          rw [World.cell?_setCell_far _ _ _ _ (by dsimp only; omega), World.cell?_setCell_far _ _ _ _ (by dsimp only; omega)]; exact hr
        have HREL := Lib.hid (show RotRel w n q a b (j + 1) ((wr.setCell ⟨w.heap.size + 1, 0, none⟩ (.int .i64 (-y))).setCell ⟨w.heap.size + 1, 1, none⟩ (.int .i64 x)) from by
          refine ⟨by omega, ?_, hr2, by simp; omega, hbw2⟩
          have e : q - (j + 1) = q - j - 1 := by omega
          rw [e, ← T2.out, ← T3.out, EX.out, EY.out]
          exact HV2.out)
        clear hbw2 hr2
        by_cases hx0 : x < 0
        · go_wp2
          go_roundw
          case rel => exact ⟨j + 1, HREL.out, by go_num⟩
          case measure => simp [intOf]; omega
        · have hy0 : y ≤ 0 := by omega
          clear t1
          go_wp2
          go_roundw
          case rel => exact ⟨j + 1, HREL.out, by go_num⟩
          case measure => simp [intOf]; omega
      · obtain rfl : j = q := by omega
        rw [Nat.sub_self, (rot_zero a b).1] at v0
        rw [Nat.sub_self, (rot_zero a b).2] at v1
        have hbm := Lib.hid (before_mono (n := n) ha hb)
        go_wp2_with fail
        refine (Search102 n _ _ (before n a b) _ (by omega) hbm.out ?_).mono ?_
        · intro k w2 hk hb2'
          exact sector1_any _ _ k n a b w2 (keepB hb2' y0 hr) (keepB hb2' y1 v0) (keepB hb2' y1 v1) (by omega) (by omega) (by omega) ⟨by omega, ha2⟩ ⟨by omega, hb2⟩
        · rintro e w1 ⟨r, hs, rfl, hb1⟩
          have hr1 := keepB hb1 y0 hr
          have rn := hs.1
          have HS := Lib.hid hs
          have m1 := M.mul_bd (a := (j : Int)) (b := (n : Int)) (A := 3) (B := 90) (by omega) (by omega) (by omega) (by omega)
          clear v0 v1 f0 f1 HV
          go_wp2
          go_ret
          exact ⟨_, ⟨r, HS.out, rfl⟩, rfl, hbw.trans (hb1.mono (by omega))⟩
  · have hx1 : (X == 0) = false := by rw [beq_eq_false_iff_ne]; exact hx0
    have HNE := Lib.hid hne
    clear hne hx0
    have START := Lib.hid (sector_start w n q a b X Y HX.out HY.out)
    go_enter Try.func98, Try.ntmps98
    go_wp2
    clear HNE
    go_loopw [5] (fun i wr => ∃ j : Nat, RotRel w n q a b j wr ∧ i = .int .i64 j) (fun i _ => q - (intOf i).toNat)
    case atStart => exact ⟨0, START.out, rfl⟩
    case round =>
      clear START
      obtain ⟨j, ⟨hj, hv, hr, hz, hbw⟩, rfl⟩ := hrel
      have y0 : w.heap.size < wr.heap.size := by omega
      have y1 : w.heap.size + 1 < wr.heap.size := by omega
      have HV := Lib.hid hv
      obtain ⟨v0, v1, f0, f1⟩ := hv
      by_cases hlt : j < q
      · obtain ⟨t1, t2, t3⟩ := rot_turn (m := q - j) ha hb (by omega) (by omega)
        obtain ⟨⟨g1, g2⟩, g3, g4⟩ := rot_bd (m := q - j) ha hb ha2 hb2
        have HV2 := Lib.hid (HV.out.set (u := -rotY (q - j) a b) (v := rotX (q - j) a b))
        have T2 := Lib.hid t2
        have T3 := Lib.hid t3
        obtain ⟨x, hx⟩ : ∃ x, x = rotX (q - j) a b := ⟨_, rfl⟩
        obtain ⟨y, hy⟩ : ∃ y, y = rotY (q - j) a b := ⟨_, rfl⟩
        rw [← hx] at v0 t1 g1 g2
        rw [← hy] at v1 t1 g3 g4
        have EX := Lib.hid hx
        have EY := Lib.hid hy
        clear t2 t3 hx hy HV
        have hbw2 : Below w.heap.size w ((wr.setCell ⟨w.heap.size + 1, 0, none⟩ (.int .i64 (-y))).setCell ⟨w.heap.size + 1, 1, none⟩ (.int .i64 x)) := (hbw.setCell (p := ⟨w.heap.size + 1, 0, none⟩) (Nat.le_succ _) _).setCell (p := ⟨w.heap.size + 1, 1, none⟩) (Nat.le_succ _) _
        have hr2 : ((wr.setCell ⟨w.heap.size + 1, 0, none⟩ (.int .i64 (-y))).setCell ⟨w.heap.size + 1, 1, none⟩ (.int .i64 x)).cell? ⟨w.heap.size, 0, none⟩ = some (.int .i64 n) := by
          rw [World.cell?_setCell_far _ _ _ _ (by dsimp only; omega), World.cell?_setCell_far _ _ _ _ (by dsimp only; omega)]; exact hr
        have HREL := Lib.hid (show RotRel w n q a b (j + 1) ((wr.setCell ⟨w.heap.size + 1, 0, none⟩ (.int .i64 (-y))).setCell ⟨w.heap.size + 1, 1, none⟩ (.int .i64 x)) from by
          refine ⟨by omega, ?_, hr2, by simp; omega, hbw2⟩
          have e : q - (j + 1) = q - j - 1 := by omega
          rw [e, ← T2.out, ← T3.out, EX.out, EY.out]
          exact HV2.out)
        clear hbw2 hr2
        by_cases hx0 : x < 0
        · go_wp2
          go_roundw
          case rel => exact ⟨j + 1, HREL.out, by go_num⟩
          case measure => simp [intOf]; omega
        · have hy0 : y ≤ 0 := by omega
          clear t1
          go_wp2
          go_roundw
          case rel => exact ⟨j + 1, HREL.out, by go_num⟩
          case measure => simp [intOf]; omega
      · obtain rfl : j = q := by omega
        rw [Nat.sub_self, (rot_zero a b).1] at v0
        rw [Nat.sub_self, (rot_zero a b).2] at v1
        have hbm := Lib.hid (before_mono (n := n) ha hb)
        go_wp2_with fail
        refine (Search102 n _ _ (before n a b) _ (by omega) hbm.out ?_).mono ?_
        · intro k w2 hk hb2'
          exact sector1_any _ _ k n a b w2 (keepB hb2' y0 hr) (keepB hb2' y1 v0) (keepB hb2' y1 v1) (by omega) (by omega) (by omega) ⟨by omega, ha2⟩ ⟨by omega, hb2⟩
        · rintro e w1 ⟨r, hs, rfl, hb1⟩
          have hr1 := keepB hb1 y0 hr
          have rn := hs.1
          have HS := Lib.hid hs
          have m1 := M.mul_bd (a := (j : Int)) (b := (n : Int)) (A := 3) (B := 90) (by omega) (by omega) (by omega) (by omega)
          clear v0 v1 f0 f1 HV
          go_wp2
          go_ret
          exact ⟨_, ⟨r, HS.out, rfl⟩, rfl, hbw.trans (hb1.mono (by omega))⟩

end Go.Proofs.Ythnjfnapjpdchaa

namespace Go.Proofs.Ythnjfnapjpdchaa
open Go.RowKit
set_option linter.unusedVariables false

theorem info3 : (Try.prog.info? 3).map (fun i => (i.zero, i.size, i.bytes)) = some (some (.int .i64 0), 1, 8) := by kernel_rfl

/-- the border of a gate -/
def bordI (step t : Int) (k : Nat) : Int := ((k : Int) * step * (262144 - t * t)) / (262144 + t * t)
theorem bordI_bd {step t : Int} {k : Nat} (h1 : 0 ≤ t) (h2 : t ≤ 256) (s1 : 50 ≤ step) (s2 : step ≤ 2000) (hk : k ≤ 200) :
    (0 ≤ (k : Int) * step ∧ (k : Int) * step ≤ 400000) ∧ (0 ≤ (k : Int) * step * (262144 - t * t) ∧ (k : Int) * step * (262144 - t * t) ≤ 104857600000) ∧ (0 ≤ bordI step t k ∧ bordI step t k ≤ 400000) := by
  have tt := M.sq_nonneg t
  have t2 := (M.sq_bd (a := t) (A := 256) (by omega) h2).2
  have m1 := M.mul_bd (a := (k : Int)) (b := step) (A := 200) (B := 2000) (by omega) (by omega) (by omega) s2
  have m2 := M.mul_bd (a := (k : Int) * step) (b := 262144 - t * t) (A := 400000) (B := 262144) m1.1 (by omega) (by omega) (by omega)
  refine ⟨⟨m1.1, by omega⟩, ⟨m2.1, by omega⟩, Int.ediv_nonneg m2.1 (by omega), ?_⟩
  have : bordI step t k < 400001 := Int.ediv_lt_of_lt_mul (by omega) (by omega)
  omega

/-- the row that is being filled -/
structure RowAt (w : World) (b n : Nat) (B : Nat → Int) : Prop where
  c : ∀ k, k < n → w.cell? ⟨b, k, none⟩ = some (.int .i64 (B k))
  f : ∀ k, k < n → w.frozen? ⟨b, k, none⟩ = false

theorem RowAt.set {w : World} {b n k : Nat} {v : Int} {B B2 : Nat → Int} (s : RowAt w b n B) (hk : k < n) (h1 : B2 k = v) (h2 : ∀ i, i ≠ k → B2 i = B i) : RowAt (w.setCell ⟨b, k, none⟩ (.int .i64 v)) b n B2 := by
  refine ⟨fun i hi => ?_, fun i hi => ?_⟩
  · by_cases e : i = k
    · subst e
      rw [h1]
      exact World.cell?_setCell_same' _ _ _ (by rw [s.c i hi]; rfl)
    · rw [World.cell?_setCell_other _ _ _ _ (fun h => e (by injection h with _ h3; exact h3.symm)), h2 i e]; exact s.c i hi
  · simp; exact s.f i hi
theorem made_get (n k : Nat) (h : k < n) : (madeCells #[.int .i64 0] n)[k]? = some (.int .i64 0) := by
  rw [← Array.getElem?_toList, toList_madeCells_one]
  simp [h]

def BordRel (w : World) (b n : Nat) (step t : Int) (j : Nat) (wr : World) : Prop :=
  RowAt wr b n (fun k => if k < j then bordI step t k else 0) ∧ wr.cell? ⟨w.heap.size, 6, none⟩ = some (.int .i64 step) ∧ w.heap.size < b ∧ b < wr.heap.size ∧ Below w.heap.size w wr

theorem bord_start (w : World) (nm : ByteArray) (x y z rose : Int) (g : Nat) (step width t : Int) :
    BordRel w (w.heap.size + 1 + 1) (g + 1) step t 0 (((w.alloc (.cells #[.string nm, .int .i64 x, .int .i64 y, .int .i64 z, .int .i64 rose, .int .i64 (g : Nat), .int .i64 step, .int .i64 width] 23)).alloc (.cells #[.func (Fn.func 92) #[] #[]] 90)).alloc (.cells (madeCells #[.int .i64 0] (g + 1)) 3)) := by
  have e : (w.alloc (.cells #[.string nm, .int .i64 x, .int .i64 y, .int .i64 z, .int .i64 rose, .int .i64 (g : Nat), .int .i64 step, .int .i64 width] 23)).heap.size = w.heap.size + 1 := World.size_alloc _ _
  have e2 : ((w.alloc (.cells #[.string nm, .int .i64 x, .int .i64 y, .int .i64 z, .int .i64 rose, .int .i64 (g : Nat), .int .i64 step, .int .i64 width] 23)).alloc (.cells #[.func (Fn.func 92) #[] #[]] 90)).heap.size = w.heap.size + 1 + 1 := by simp
  refine ⟨⟨fun k hk => ?_, fun k hk => alloc_newF e2.symm⟩, ?_, by omega, by simp, Below.trans (Below.trans (below_alloc _ _) ((below_alloc _ _).mono (by omega))) ((below_alloc _ _).mono (by omega))⟩
  · simp only [Nat.not_lt_zero, if_false]
    exact alloc_new e2.symm (made_get _ _ hk)
  · exact alloc_keep (by omega) (alloc_keep (by omega) (alloc_new rfl rfl))

def BordRet (n : Nat) (step t : Int) (w : World) (e : Ending) (w' : World) : Prop :=
  ∃ b : Nat, e = .returned (.slice (some ⟨b, 0, none⟩) n n) ∧ IntsAt w' b n (bordI step t) ∧ w.heap.size < b ∧ b < w'.heap.size ∧ Below w.heap.size w w'

set_option maxHeartbeats 3200000 in
theorem borders_any (nm : ByteArray) (x y z rose : Int) (g : Nat) (step width t : Int) (w : World) (g2 : g ≤ 200) (h1 : 0 ≤ t) (h2 : t ≤ 256) (s1 : 50 ≤ step) (s2 : step ≤ 2000) :
    Calls Try.prog 79 #[.agg #[.string nm, .int .i64 x, .int .i64 y, .int .i64 z, .int .i64 rose, .int .i64 (g : Nat), .int .i64 step, .int .i64 width], .int .i64 t] w (BordRet (g + 1) step t w) := by
  have hmk := fun wx : World => run_make_row' (P := Try.prog) 54 3 (.int .i64 0) 8 Try.underlying54 info3 rfl .i64 .i64 (g + 1) (by omega) (by omega) wx
  have ec : ((g + 1 : Nat) : Int) = (g : Int) + 1 := by omega
  rw [ec] at hmk
  clear ec
  go_enter Try.func79, Try.ntmps79
  go_wp2_with (first | (go_at_call 68; refine (roundings_any _).mono ?_; rintro e w3 ⟨rfl, hw3⟩; subst hw3) | (go_at_call 65; refine (slant_any _ _ (by omega) (by omega)).mono ?_; rintro e w' ⟨rfl, rfl⟩))
  go_loopw [28] (fun i wr => ∃ j : Nat, j ≤ g + 1 ∧ BordRel w (w.heap.size + 1 + 1) (g + 1) step t j wr ∧ i = .int .i64 j) (fun i _ => g + 1 - (intOf i).toNat)
  case atStart => exact ⟨0, Nat.zero_le _, bord_start w nm x y z rose g step width t, rfl⟩
  case round =>
    clear hmk
    obtain ⟨j, hj, ⟨hrow, hst, hb1, hb2, hbw⟩, rfl⟩ := hrel
    have y0 : w.heap.size < wr.heap.size := by omega
    by_cases hlt : j < g + 1
    · obtain ⟨⟨m1, m2⟩, ⟨m3, m4⟩, m5, m6⟩ := bordI_bd (k := j) h1 h2 s1 s2 (by omega)
      have tt := M.sq_nonneg t
      have cj := hrow.c j hlt
      have fj := hrow.f j hlt
      have HREL := Lib.hid (show BordRel w (w.heap.size + 1 + 1) (g + 1) step t (j + 1) (wr.setCell ⟨w.heap.size + 1 + 1, j, none⟩ (.int .i64 (bordI step t j))) from by
        refine ⟨hrow.set hlt (by simp) (fun i hi => ?_), ?_, hb1, by simp; omega, hbw.setCell (p := ⟨w.heap.size + 1 + 1, j, none⟩) (by dsimp only; omega) _⟩
        · by_cases h : i < j
          · rw [if_pos h, if_pos (by omega)]
          · rw [if_neg h, if_neg (by omega)]
        · rw [World.cell?_setCell_far _ _ _ _ (by dsimp only; omega)]; exact hst)
      unfold bordI at m5 m6 HREL
      clear hrow hbw
      simp only [Nat.lt_irrefl, if_false] at cj
      go_wp2_with fail
      refine (down_any _ _ _ (by omega) (by omega) (by omega)).mono ?_; rintro e w' ⟨rfl, rfl⟩
      go_wp2
      go_roundw
      case rel => exact ⟨j + 1, by omega, HREL.out, by go_num⟩
      case measure => simp [intOf]; omega
    · obtain rfl : j = g + 1 := by omega
      have HI := Lib.hid (show IntsAt wr (w.heap.size + 1 + 1) (g + 1) (bordI step t) from fun k hk => by
        have h := hrow.c k hk
        simp only [hk, if_true] at h
        exact h)
      clear hrow
      go_wp2
      go_ret
      exact ⟨_, rfl, HI.out, by omega, by omega, hbw⟩

end Go.Proofs.Ythnjfnapjpdchaa
