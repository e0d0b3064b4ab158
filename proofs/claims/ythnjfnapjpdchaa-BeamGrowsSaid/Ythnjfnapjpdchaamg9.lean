/-
  The walk over borders.
-/
import Derived.Deep.OwnRows
import Derived.Laws.OwnMore
import Derived.Test.Ythnjfnapjpdchaamg8
namespace Go.Proofs.Ythnjfnapjpdchaa
open Go.RowKit
set_option linter.unusedVariables false

theorem info3 : (Try.prog.info? 3).map (fun i => (i.zero, i.size, i.bytes)) = some (some (.int .i64 0), 1, 8) := by kernel_rfl

/-- the border of a gate -/
def bordI (step t : Int) (k : Nat) : Int := ((k : Int) * step * (262144 - t * t)) / (262144 + t * t)
theorem bordI_bd {step t : Int} {k : Nat} (h1 : 0 ≤ t) (h2 : t ≤ 256) (s1 : 50 ≤ step) (s2 : step ≤ 2000) (hk : k ≤ 200) :
    (0 ≤ (k : Int) * step ∧ (k : Int) * step ≤ 400000) ∧ (0 ≤ (k : Int) * step * (262144 - t * t) ∧ (k : Int) * step * (262144 - t * t) ≤ 104857600000) ∧ (0 ≤ bordI step t k ∧ bordI step t k ≤ 400000) := by
  have tt := M.sq_nonneg t
  have t2 := (M.sq_bd (a := t) (A := 256) (by omega) h2).2
  have m1 := M.mul_bd (a := (k : Int)) (b := step) (A := 200) (B := 2000) (by omega) (by omega) (by omega) s2
  have m2 := M.mul_bd (a := (k : Int) * step) (b := 262144 - t * t) (A := 400000) (B := 262144) m1.1 (by omega) (by omega) (by omega)
  refine ⟨⟨m1.1, by omega⟩, ⟨m2.1, by omega⟩, Int.ediv_nonneg m2.1 (by omega), ?_⟩
  have : bordI step t k < 400001 := Int.ediv_lt_of_lt_mul (by omega) (by omega)
  omega

/-- the row that is being filled -/
structure RowAt (w : World) (b n : Nat) (B : Nat → Int) : Prop where
  c : ∀ k, k < n → w.cell? ⟨b, k, none⟩ = some (.int .i64 (B k))
  f : ∀ k, k < n → w.frozen? ⟨b, k, none⟩ = false

theorem RowAt.set {w : World} {b n k : Nat} {v : Int} {B B2 : Nat → Int} (s : RowAt w b n B) (hk : k < n) (h1 : B2 k = v) (h2 : ∀ i, i ≠ k → B2 i = B i) : RowAt (w.setCell ⟨b, k, none⟩ (.int .i64 v)) b n B2 := by
  refine ⟨fun i hi => ?_, fun i hi => ?_⟩
  · by_cases e : i = k
    · subst e
      rw [h1]
      exact World.cell?_setCell_same' _ _ _ (by rw [s.c i hi]; rfl)
    · rw [World.cell?_setCell_other _ _ _ _ (fun h => e (by injection h with _ h3; exact h3.symm)), h2 i e]; exact s.c i hi
  · simp; exact s.f i hi
theorem made_get (n k : Nat) (h : k < n) : (madeCells #[.int .i64 0] n)[k]? = some (.int .i64 0) := by
  rw [← Array.getElem?_toList, toList_madeCells_one]
  simp [h]

def BordRel (w : World) (b n : Nat) (step t : Int) (j : Nat) (wr : World) : Prop :=
  RowAt wr b n (fun k => if k < j then bordI step t k else 0) ∧ wr.cell? ⟨w.heap.size, 6, none⟩ = some (.int .i64 step) ∧ w.heap.size < b ∧ b < wr.heap.size ∧ Below w.heap.size w wr

theorem bord_start (w : World) (nm : ByteArray) (x y z rose : Int) (g : Nat) (step width t : Int) :
    BordRel w (w.heap.size + 1 + 1) (g + 1) step t 0 (((w.alloc (.cells #[.string nm, .int .i64 x, .int .i64 y, .int .i64 z, .int .i64 rose, .int .i64 (g : Nat), .int .i64 step, .int .i64 width] 23)).alloc (.cells #[.func (Fn.func 92) #[] #[]] 90)).alloc (.cells (madeCells #[.int .i64 0] (g + 1)) 3)) := by
  have e : (w.alloc (.cells #[.string nm, .int .i64 x, .int .i64 y, .int .i64 z, .int .i64 rose, .int .i64 (g : Nat), .int .i64 step, .int .i64 width] 23)).heap.size = w.heap.size + 1 := World.size_alloc _ _
  have e2 : ((w.alloc (.cells #[.string nm, .int .i64 x, .int .i64 y, .int .i64 z, .int .i64 rose, .int .i64 (g : Nat), .int .i64 step, .int .i64 width] 23)).alloc (.cells #[.func (Fn.func 92) #[] #[]] 90)).heap.size = w.heap.size + 1 + 1 := by simp
  refine ⟨⟨fun k hk => ?_, fun k hk => alloc_newF e2.symm⟩, ?_, by omega, by simp, Below.trans (Below.trans (below_alloc _ _) ((below_alloc _ _).mono (by omega))) ((below_alloc _ _).mono (by omega))⟩
  · simp only [Nat.not_lt_zero, if_false]
    exact alloc_new e2.symm (made_get _ _ hk)
  · exact alloc_keep (by omega) (alloc_keep (by omega) (alloc_new rfl rfl))

def BordRet (n : Nat) (step t : Int) (w : World) (e : Ending) (w' : World) : Prop :=
  ∃ b : Nat, e = .returned (.slice (some ⟨b, 0, none⟩) n n) ∧ IntsAt w' b n (bordI step t) ∧ w.heap.size < b ∧ b < w'.heap.size ∧ Below w.heap.size w w'

set_option maxHeartbeats 3200000 in
theorem borders_any (nm : ByteArray) (x y z rose : Int) (g : Nat) (step width t : Int) (w : World) (g2 : g ≤ 200) (h1 : 0 ≤ t) (h2 : t ≤ 256) (s1 : 50 ≤ step) (s2 : step ≤ 2000) :
    Calls Try.prog 79 #[.agg #[.string nm, .int .i64 x, .int .i64 y, .int .i64 z, .int .i64 rose, .int .i64 (g : Nat), .int .i64 step, .int .i64 width], .int .i64 t] w (BordRet (g + 1) step t w) := by
  have hmk := fun wx : World => run_make_row' (P := Try.prog) 54 3 (.int .i64 0) 8 Try.underlying54 info3 rfl .i64 .i64 (g + 1) (by omega) (by omega) wx
  have ec : ((g + 1 : Nat) : Int) = (g : Int) + 1 := by omega
  rw [ec] at hmk
  clear ec
  go_enter Try.func79, Try.ntmps79
  go_wp2_with (first | (go_at_call 68; refine (roundings_any _).mono ?_; rintro e w3 ⟨rfl, hw3⟩; subst hw3) | (go_at_call 65; refine (slant_any _ _ (by omega) (by omega)).mono ?_; rintro e w' ⟨rfl, rfl⟩))
  go_loopw [28] (fun i wr => ∃ j : Nat, j ≤ g + 1 ∧ BordRel w (w.heap.size + 1 + 1) (g + 1) step t j wr ∧ i = .int .i64 j) (fun i _ => g + 1 - (intOf i).toNat)
  case atStart => exact ⟨0, Nat.zero_le _, bord_start w nm x y z rose g step width t, rfl⟩
  case round =>
    clear hmk
    obtain ⟨j, hj, ⟨hrow, hst, hb1, hb2, hbw⟩, rfl⟩ := hrel
    have y0 : w.heap.size < wr.heap.size := by omega
    by_cases hlt : j < g + 1
    · obtain ⟨⟨m1, m2⟩, ⟨m3, m4⟩, m5, m6⟩ := bordI_bd (k := j) h1 h2 s1 s2 (by omega)
      have tt := M.sq_nonneg t
      have cj := hrow.c j hlt
      have fj := hrow.f j hlt
      have HREL := Lib.hid (show BordRel w (w.heap.size + 1 + 1) (g + 1) step t (j + 1) (wr.setCell ⟨w.heap.size + 1 + 1, j, none⟩ (.int .i64 (bordI step t j))) from by
        refine ⟨hrow.set hlt (by simp) (fun i hi => ?_), ?_, hb1, by simp; omega, hbw.setCell (p := ⟨w.heap.size + 1 + 1, j, none⟩) (by dsimp only; omega) _⟩
        · by_cases h : i < j
          · rw [if_pos h, if_pos (by omega)]
          · rw [if_neg h, if_neg (by omega)]
        · rw [World.cell?_setCell_far _ _ _ _ (by dsimp only; omega)]; exact hst)
      unfold bordI at m5 m6 HREL
      clear hrow hbw
      simp only [Nat.lt_irrefl, if_false] at cj
      go_wp2_with fail
      refine (down_any _ _ _ (by omega) (by omega) (by omega)).mono ?_; rintro e w' ⟨rfl, rfl⟩
      go_wp2
      go_roundw
      case rel => exact ⟨j + 1, by omega, HREL.out, by go_num⟩
      case measure => simp [intOf]; omega
    · obtain rfl : j = g + 1 := by omega
      have HI := Lib.hid (show IntsAt wr (w.heap.size + 1 + 1) (g + 1) (bordI step t) from fun k hk => by
        have h := hrow.c k hk
        simp only [hk, if_true] at h
        exact h)
      clear hrow
      go_wp2
      go_ret
      exact ⟨_, rfl, HI.out, by omega, by omega, hbw⟩

end Go.Proofs.Ythnjfnapjpdchaa

namespace Go.Proofs.Ythnjfnapjpdchaa
open Go.RowKit
set_option linter.unusedVariables false

/-- a place that is not the site's: its quarter, and how it looks turned back -/
theorem rot_of (dx dy : Int) (h : ¬ (dx = 0 ∧ dy = 0)) : ∃ (q : Nat) (a b : Int), q ≤ 3 ∧ 0 ≤ a ∧ 0 < b ∧ dx = rotX q a b ∧ dy = rotY q a b := by
  by_cases h1 : 0 ≤ dx ∧ 0 < dy
  · exact ⟨0, dx, dy, by omega, h1.1, h1.2, rfl, rfl⟩
  · by_cases h2 : 0 < dx ∧ dy ≤ 0
    · exact ⟨1, -dy, dx, by omega, by omega, by omega, by simp [rotX], by simp [rotY]⟩
    · by_cases h3 : dx ≤ 0 ∧ dy < 0
      · exact ⟨2, -dx, -dy, by omega, by omega, by omega, by simp [rotX], by simp [rotY]⟩
      · exact ⟨3, dy, -dx, by omega, by omega, by omega, by simp [rotX], by simp [rotY]⟩

/-- the ray to which a place belongs -/
def RayIs (n : Nat) (dx dy ray : Int) : Prop := (dx = 0 ∧ dy = 0 ∧ ray = 0) ∨ ∃ (q : Nat) (a b : Int), q ≤ 3 ∧ 0 ≤ a ∧ 0 < b ∧ dx = rotX q a b ∧ dy = rotY q a b ∧ SecIs n q a b ray

def SecR (n : Nat) (dx dy : Int) (w : World) (e : Ending) (w' : World) : Prop := ∃ s : Int, RayIs n dx dy s ∧ e = .returned (.int .i64 s) ∧ Below w.heap.size w w'

set_option maxHeartbeats 800000 in
theorem sector_zero (n : Nat) (w : World) : Calls Try.prog 98 #[.int .i64 n, .agg #[.int .i64 0, .int .i64 0]] w fun e w' => e = .returned (.int .i64 0) ∧ Below w.heap.size w w' := by
  go_enter Try.func98, Try.ntmps98
  go_wp2
  go_ret
  exact ⟨rfl, by repeat (first | exact Below.refl _ _ | (refine Below.alloc ?_ (by simp) _))⟩

theorem sector_all (n : Nat) (dx dy : Int) (w : World) (h1 : 1 ≤ n) (h2 : n ≤ 90) (b1 : -10000000 ≤ dx ∧ dx ≤ 10000000) (b2 : -10000000 ≤ dy ∧ dy ≤ 10000000) :
    Calls Try.prog 98 #[.int .i64 n, .agg #[.int .i64 dx, .int .i64 dy]] w (SecR n dx dy w) := by
  by_cases h : dx = 0 ∧ dy = 0
  · obtain ⟨rfl, rfl⟩ := h
    exact (sector_zero n w).mono fun e w' ⟨he, hb⟩ => ⟨0, .inl ⟨rfl, rfl, rfl⟩, he, hb⟩
  · obtain ⟨q, a, b, hq, ha, hb, rfl, rfl⟩ := rot_of dx dy h
    have hab : a ≤ 10000000 ∧ b ≤ 10000000 := by
      have hq' : q = 0 ∨ q = 1 ∨ q = 2 ∨ q = 3 := by omega
      rcases hq' with rfl | rfl | rfl | rfl <;> simp [rotX, rotY] at b1 b2 <;> omega
    refine (sector_any n q a b w hq h1 h2 ha hb hab.1 hab.2 ?_).mono fun e w' ⟨s, hs, he, hbw⟩ => ⟨s, .inr ⟨q, a, b, hq, ha, hb, rfl, rfl, hs⟩, he, hbw⟩
    rw [Bool.and_eq_false_iff]
    by_cases h0 : rotX q a b = 0
    · right; rw [beq_eq_false_iff_ne]; exact fun h3 => h ⟨h0, h3⟩
    · left; rw [beq_eq_false_iff_ne]; exact h0

/-- the test of the search for a gate -/
def inside (sq : Int) (B : Nat → Int) (k : Nat) : Bool := decide (sq < B k * B k)
theorem inside_mono {sq : Int} {B : Nat → Int} {N : Nat} (hB : ∀ i j, i ≤ j → j < N → 0 ≤ B i ∧ B i ≤ B j) : ∀ i j, i ≤ j → j < N → inside sq B i = true → inside sq B j = true := by
  intro i j hij hj h
  unfold inside at h ⊢
  rw [decide_eq_true_iff] at h ⊢
  obtain ⟨h1, h2⟩ := hB i j hij hj
  have := M.sq_mono h1 h2
  omega

/-- what find answers -/
def FindIs (N n : Nat) (B : Nat → Int) (dx dy ray gate : Int) (ok : Bool) : Prop :=
  ∃ r : Nat, SrchIs N (inside (dx * dx + dy * dy) B) r ∧ ((r = N ∧ ok = false ∧ ray = 0 ∧ gate = 0) ∨ (r < N ∧ ok = true ∧ gate = r - 1 ∧ RayIs n dx dy ray))
def FindRet (N n : Nat) (B : Nat → Int) (dx dy : Int) (w : World) (e : Ending) (w' : World) : Prop :=
  ∃ (ray gate : Int) (ok : Bool), FindIs N n B dx dy ray gate ok ∧ e = .returned (.tuple #[.int .i64 ray, .int .i64 gate, .bool ok]) ∧ Below w.heap.size w w'

structure FEnv (w W : World) (N n b : Nat) (B : Nat → Int) (dx dy sq : Int) : Prop where
  r : W.cell? ⟨w.heap.size, 4, none⟩ = some (.int .i64 n)
  s : W.cell? ⟨w.heap.size + 1, 0, none⟩ = some (.slice (some ⟨b, 0, none⟩) N N)
  v0 : W.cell? ⟨w.heap.size + 1 + 1 + 1, 0, none⟩ = some (.int .i64 dx)
  v1 : W.cell? ⟨w.heap.size + 1 + 1 + 1, 1, none⟩ = some (.int .i64 dy)
  q : W.cell? ⟨w.heap.size + 1 + 1 + 1 + 1, 0, none⟩ = some (.int .i64 sq)
  i : IntsAt W b N B
  z : w.heap.size + 5 ≤ W.heap.size
  b : Below w.heap.size w W
theorem FEnv.keep {w W W1 : World} {N n b : Nat} {B : Nat → Int} {dx dy sq : Int} (f : FEnv w W N n b B dx dy sq) (hb : Below W.heap.size W W1) (hbb : b < w.heap.size) : FEnv w W1 N n b B dx dy sq := by
  have z := f.z
  exact ⟨keepB hb (by omega) f.r, keepB hb (by omega) f.s, keepB hb (by omega) f.v0, keepB hb (by omega) f.v1, keepB hb (by omega) f.q, f.i.keep hb (by omega), Nat.le_trans f.z hb.size, f.b.trans (hb.mono (by omega))⟩

theorem find_env (nm : ByteArray) (x y z : Int) (n g : Nat) (step width : Int) (N b : Nat) (B : Nat → Int) (ax ay : Int) (w : World) (hb : b < w.heap.size) (hi : IntsAt w b N B) :
    FEnv w (((((w.alloc (.cells #[.string nm, .int .i64 x, .int .i64 y, .int .i64 z, .int .i64 (n : Nat), .int .i64 (g : Nat), .int .i64 step, .int .i64 width] 23)).alloc (.cells #[.slice (some ⟨b, 0, none⟩) N N] 54)).alloc (.cells #[.int .i64 ax, .int .i64 ay] 83)).alloc (.cells #[.int .i64 (ax - x), .int .i64 (ay - y)] 83)).alloc (.cells #[.int .i64 ((ax - x) * (ax - x) + (ay - y) * (ay - y))] 3)) N n b B (ax - x) (ay - y) ((ax - x) * (ax - x) + (ay - y) * (ay - y)) := by
  obtain ⟨A1, e1⟩ : ∃ A, A = w.alloc (.cells #[.string nm, .int .i64 x, .int .i64 y, .int .i64 z, .int .i64 (n : Nat), .int .i64 (g : Nat), .int .i64 step, .int .i64 width] 23) := ⟨_, rfl⟩
  obtain ⟨A2, e2⟩ : ∃ A, A = A1.alloc (.cells #[.slice (some ⟨b, 0, none⟩) N N] 54) := ⟨_, rfl⟩
  obtain ⟨A3, e3⟩ : ∃ A, A = A2.alloc (.cells #[.int .i64 ax, .int .i64 ay] 83) := ⟨_, rfl⟩
  obtain ⟨A4, e4⟩ : ∃ A, A = A3.alloc (.cells #[.int .i64 (ax - x), .int .i64 (ay - y)] 83) := ⟨_, rfl⟩
  obtain ⟨A5, e5⟩ : ∃ A, A = A4.alloc (.cells #[.int .i64 ((ax - x) * (ax - x) + (ay - y) * (ay - y))] 3) := ⟨_, rfl⟩
  have s1 : A1.heap.size = w.heap.size + 1 := by rw [e1]; exact World.size_alloc _ _
  have s2 : A2.heap.size = w.heap.size + 1 + 1 := by rw [e2, World.size_alloc, s1]
  have s3 : A3.heap.size = w.heap.size + 1 + 1 + 1 := by rw [e3, World.size_alloc, s2]
  have s4 : A4.heap.size = w.heap.size + 1 + 1 + 1 + 1 := by rw [e4, World.size_alloc, s3]
  have s5 : A5.heap.size = w.heap.size + 1 + 1 + 1 + 1 + 1 := by rw [e5, World.size_alloc, s4]
  have b1 : Below w.heap.size w A1 := by rw [e1]; exact below_alloc _ _
  have b2 : Below A1.heap.size A1 A2 := by rw [e2]; exact below_alloc _ _
  have b3 : Below A2.heap.size A2 A3 := by rw [e3]; exact below_alloc _ _
  have b4 : Below A3.heap.size A3 A4 := by rw [e4]; exact below_alloc _ _
  have b5 : Below A4.heap.size A4 A5 := by rw [e5]; exact below_alloc _ _
  have c25 : Below A2.heap.size A2 A5 := (b3.trans (b4.mono (by omega))).trans (b5.mono (by omega))
  have c15 : Below A1.heap.size A1 A5 := b2.trans (c25.mono (by omega))
  have c05 : Below w.heap.size w A5 := b1.trans (c15.mono (by omega))
  have r0 : A1.cell? ⟨w.heap.size, 4, none⟩ = some (.int .i64 n) := by rw [e1]; exact alloc_new rfl rfl
  have q0 : A2.cell? ⟨w.heap.size + 1, 0, none⟩ = some (.slice (some ⟨b, 0, none⟩) N N) := by rw [e2]; exact alloc_new s1.symm rfl
  have v0 : A4.cell? ⟨w.heap.size + 1 + 1 + 1, 0, none⟩ = some (.int .i64 (ax - x)) := by rw [e4]; exact alloc_new s3.symm rfl
  have v1 : A4.cell? ⟨w.heap.size + 1 + 1 + 1, 1, none⟩ = some (.int .i64 (ay - y)) := by rw [e4]; exact alloc_new s3.symm rfl
  have t0 : A5.cell? ⟨w.heap.size + 1 + 1 + 1 + 1, 0, none⟩ = some (.int .i64 ((ax - x) * (ax - x) + (ay - y) * (ay - y))) := by rw [e5]; exact alloc_new s4.symm rfl
  rw [← e1, ← e2, ← e3, ← e4, ← e5]
  exact ⟨keepB c15 (by omega) r0, keepB c25 (by omega) q0, keepB b5 (by omega) v0, keepB b5 (by omega) v1, t0, hi.keep c05 hb, by omega, c05⟩

set_option maxHeartbeats 3200000 in
theorem find_any (nm : ByteArray) (x y z : Int) (n g : Nat) (step width : Int) (N b : Nat) (B : Nat → Int) (ax ay : Int) (w : World) (hb : b < w.heap.size) (hi : IntsAt w b N B) (hN : N ≤ 1000000)
    (hB : ∀ i j, i ≤ j → j < N → 0 ≤ B i ∧ B i ≤ B j) (hB2 : ∀ i, i < N → B i ≤ 1000000) (h1 : 1 ≤ n) (h2 : n ≤ 90) (d1 : -10000000 ≤ ax - x) (d2 : ax - x ≤ 10000000) (d3 : -10000000 ≤ ay - y) (d4 : ay - y ≤ 10000000)
    (p1 : -4194304 ≤ ax) (p2 : ax ≤ 4194304) (p3 : -4194304 ≤ ay) (p4 : ay ≤ 4194304) (p5 : -4194304 ≤ x) (p6 : x ≤ 4194304) (p7 : -4194304 ≤ y) (p8 : y ≤ 4194304) :
    Calls Try.prog 78 #[.agg #[.string nm, .int .i64 x, .int .i64 y, .int .i64 z, .int .i64 (n : Nat), .int .i64 (g : Nat), .int .i64 step, .int .i64 width], .slice (some ⟨b, 0, none⟩) N N, .agg #[.int .i64 ax, .int .i64 ay]] w (FindRet N n B (ax - x) (ay - y) w) := by
  have FE := Lib.hid (find_env nm x y z n g step width N b B ax ay w hb hi)
  have HM := Lib.hid (inside_mono (sq := (ax - x) * (ax - x) + (ay - y) * (ay - y)) hB)
  have HB := Lib.hid hB
  have HB2 := Lib.hid hB2
  have m1 := M.sq_bd (a := ax - x) (A := 10000000) d1 d2
  have m2 := M.sq_bd (a := ay - y) (A := 10000000) d3 d4
  clear hi hB hB2
  go_enter Try.func78, Try.ntmps78
  go_wp2_with fail
  refine (Search97 N _ _ _ _ hN HM.out ?_).mono ?_
  · intro k wr hk hbr
    have f := FE.out.keep hbr hb
    exact find1_any _ _ b N k _ B wr f.q f.s f.i hk hN ⟨(HB.out k k (Nat.le_refl _) hk).1, HB2.out k hk⟩
  · rintro e w1 ⟨r, hs, rfl, hb1⟩
    have f := FE.out.keep hb1 hb
    have HS := Lib.hid hs
    have rn := hs.1
    obtain ⟨k0, k1, k2, k3, k4, _, hz, hbw⟩ := f
    clear hs hb1 FE
    by_cases hr : r = N
    · subst hr
      go_wp2
      go_ret3
      exact ⟨0, 0, false, ⟨r, HS.out, .inl ⟨rfl, rfl, rfl, rfl⟩⟩, rfl, hbw⟩
    · have hr1 : ((r : Int) == (N : Int)) = false := by rw [beq_eq_false_iff_ne]; omega
      have hr2 : r < N := by omega
      clear hr
      go_wp2_with fail
      refine (sector_all n (ax - x) (ay - y) _ h1 h2 ⟨d1, d2⟩ ⟨d3, d4⟩).mono ?_
      rintro e w2 ⟨s, hsr, rfl, hb2⟩
      have HSR := Lib.hid hsr
      clear hsr
      go_wp2
      go_ret3
      exact ⟨s, r - 1, true, ⟨r, HS.out, .inr ⟨hr2, rfl, rfl, HSR.out⟩⟩, rfl, hbw.trans (hb2.mono (by omega))⟩

end Go.Proofs.Ythnjfnapjpdchaa

namespace Go.Proofs.Ythnjfnapjpdchaa
open Go.RowKit
set_option linter.unusedVariables false

theorem bord_mono {step t : Int} (h1 : 0 ≤ t) (h2 : t ≤ 256) (s1 : 50 ≤ step) (s2 : step ≤ 2000) {N : Nat} (hN : N ≤ 201) : ∀ i j, i ≤ j → j < N → 0 ≤ bordI step t i ∧ bordI step t i ≤ bordI step t j := by
  intro i j hij hj
  refine ⟨(bordI_bd h1 h2 s1 s2 (by omega)).2.2.1, ?_⟩
  have tt := M.sq_nonneg t
  have t2 := (M.sq_bd (a := t) (A := 256) (by omega) h2).2
  unfold bordI
  apply Int.ediv_le_ediv (by omega)
  have l1 : (i : Int) * step ≤ (j : Int) * step := Int.mul_le_mul_of_nonneg_right (by omega) (by omega)
  exact Int.mul_le_mul_of_nonneg_right l1 (by omega)

/-- what Find answers: the error goes with whether there is such a gate -/
def FoundIs (N n : Nat) (B : Nat → Int) (dx dy ray gate e : Int) : Prop := ∃ ok : Bool, FindIs N n B dx dy ray gate ok ∧ e = (if ok = true then 0 else 29)
def FoundRet (N n : Nat) (B : Nat → Int) (dx dy : Int) (w : World) (e : Ending) (w' : World) : Prop :=
  ∃ (ray gate ee : Int), FoundIs N n B dx dy ray gate ee ∧ e = .returned (.tuple #[.int .i64 ray, .int .i64 gate, .int .i64 ee]) ∧ Below w.heap.size w w'
theorem found_zero {N n : Nat} {B : Nat → Int} {dx dy ray gate : Int} (h : FindIs N n B dx dy ray gate false) : FoundIs N n B dx dy 0 0 29 := by
  obtain ⟨r, hr, h2 | h2⟩ := h
  · exact ⟨false, ⟨r, hr, .inl ⟨h2.1, rfl, rfl, rfl⟩⟩, rfl⟩
  · exact absurd h2.2.1 (by decide)

set_option maxHeartbeats 800000 in
theorem Find_err (nm : ByteArray) (x y z rose gates step width : Int) (t ax ay : Int) (w : World) (hs : nm.size ≤ maxLen) (hne : (siteC nm x y z rose gates step width != 0) = true) :
    Calls Try.prog 38 #[.agg #[.string nm, .int .i64 x, .int .i64 y, .int .i64 z, .int .i64 rose, .int .i64 gates, .int .i64 step, .int .i64 width], .int .i64 t, .int .i64 ax, .int .i64 ay] w fun e w' => e = .returned (.tuple #[.int .i64 0, .int .i64 0, .int .i64 (siteC nm x y z rose gates step width)]) ∧ Below w.heap.size w w' := by
  have HS := Lib.hid hs
  clear hs
  go_enter Try.func38, Try.ntmps38
  go_wp2_with fail
  refine (CheckSite_any _ _ _ _ _ _ _ _ _ HS.out).mono ?_; rintro e w1 ⟨rfl, hb1⟩
  have hbw : Below w.heap.size w w1 := Below.trans (below_alloc _ _) (hb1.mono (by simp))
  clear hb1
  go_wp2
  go_ret3
  exact ⟨rfl, hbw⟩

set_option maxHeartbeats 800000 in
theorem Find_no0 (nm : ByteArray) (x y z rose gates step width : Int) (t ax ay : Int) (w : World) (hs : nm.size ≤ maxLen) (h0 : siteC nm x y z rose gates step width = 0) (c0 : inB t 0 256 = false) :
    Calls Try.prog 38 #[.agg #[.string nm, .int .i64 x, .int .i64 y, .int .i64 z, .int .i64 rose, .int .i64 gates, .int .i64 step, .int .i64 width], .int .i64 t, .int .i64 ax, .int .i64 ay] w fun e w' => e = .returned (.tuple #[.int .i64 0, .int .i64 0, .int .i64 3]) ∧ Below w.heap.size w w' := by
  have HS := Lib.hid hs
  have H0 := Lib.hid h0
  clear hs h0
  go_enter Try.func38, Try.ntmps38
  go_wp2_with fail
  refine (CheckSite_any _ _ _ _ _ _ _ _ _ HS.out).mono ?_; rintro e w1 ⟨rfl, hb1⟩
  have hbw : Below w.heap.size w w1 := Below.trans (below_alloc _ _) (hb1.mono (by simp))
  clear hb1
  rw [H0.out]
  go_wp2_with fail
  refine (isTilt_any _ _).mono ?_; rintro e w' ⟨rfl, rfl⟩
  go_wp2
  go_ret3
  exact ⟨rfl, hbw⟩

set_option maxHeartbeats 800000 in
theorem Find_no1 (nm : ByteArray) (x y z rose gates step width : Int) (t ax ay : Int) (w : World) (hs : nm.size ≤ maxLen) (h0 : siteC nm x y z rose gates step width = 0) (c0 : inB t 0 256 = true) (c1 : inB ax (-4194304) 4194304 = false) :
    Calls Try.prog 38 #[.agg #[.string nm, .int .i64 x, .int .i64 y, .int .i64 z, .int .i64 rose, .int .i64 gates, .int .i64 step, .int .i64 width], .int .i64 t, .int .i64 ax, .int .i64 ay] w fun e w' => e = .returned (.tuple #[.int .i64 0, .int .i64 0, .int .i64 3]) ∧ Below w.heap.size w w' := by
  have HS := Lib.hid hs
  have H0 := Lib.hid h0
  clear hs h0
  go_enter Try.func38, Try.ntmps38
  go_wp2_with fail
  refine (CheckSite_any _ _ _ _ _ _ _ _ _ HS.out).mono ?_; rintro e w1 ⟨rfl, hb1⟩
  have hbw : Below w.heap.size w w1 := Below.trans (below_alloc _ _) (hb1.mono (by simp))
  clear hb1
  rw [H0.out]
  go_wp2_with fail
  refine (isTilt_any _ _).mono ?_; rintro e w' ⟨rfl, rfl⟩
  go_wp2_with fail
  refine (isIn_any _ _ _ _).mono ?_; rintro e w' ⟨rfl, rfl⟩
  go_wp2
  go_ret3
  exact ⟨rfl, hbw⟩

set_option maxHeartbeats 800000 in
theorem Find_no2 (nm : ByteArray) (x y z rose gates step width : Int) (t ax ay : Int) (w : World) (hs : nm.size ≤ maxLen) (h0 : siteC nm x y z rose gates step width = 0) (c0 : inB t 0 256 = true) (c1 : inB ax (-4194304) 4194304 = true) (c2 : inB ay (-4194304) 4194304 = false) :
    Calls Try.prog 38 #[.agg #[.string nm, .int .i64 x, .int .i64 y, .int .i64 z, .int .i64 rose, .int .i64 gates, .int .i64 step, .int .i64 width], .int .i64 t, .int .i64 ax, .int .i64 ay] w fun e w' => e = .returned (.tuple #[.int .i64 0, .int .i64 0, .int .i64 3]) ∧ Below w.heap.size w w' := by
  have HS := Lib.hid hs
  have H0 := Lib.hid h0
  clear hs h0
  go_enter Try.func38, Try.ntmps38
  go_wp2_with fail
  refine (CheckSite_any _ _ _ _ _ _ _ _ _ HS.out).mono ?_; rintro e w1 ⟨rfl, hb1⟩
  have hbw : Below w.heap.size w w1 := Below.trans (below_alloc _ _) (hb1.mono (by simp))
  clear hb1
  rw [H0.out]
  go_wp2_with fail
  refine (isTilt_any _ _).mono ?_; rintro e w' ⟨rfl, rfl⟩
  go_wp2_with fail
  refine (isIn_any _ _ _ _).mono ?_; rintro e w' ⟨rfl, rfl⟩
  go_wp2_with fail
  refine (isIn_any _ _ _ _).mono ?_; rintro e w' ⟨rfl, rfl⟩
  go_wp2
  go_ret3
  exact ⟨rfl, hbw⟩

set_option maxHeartbeats 6400000 in
theorem Find_ok (nm : ByteArray) (x y z : Int) (n g : Nat) (step width t ax ay : Int) (w : World) (hs : nm.size ≤ maxLen) (h0 : siteC nm x y z n g step width = 0) (hk : SiteOk x y z n g step width)
    (c0 : inB t 0 256 = true) (c1 : inB ax (-4194304) 4194304 = true) (c2 : inB ay (-4194304) 4194304 = true) :
    Calls Try.prog 38 #[.agg #[.string nm, .int .i64 x, .int .i64 y, .int .i64 z, .int .i64 (n : Nat), .int .i64 (g : Nat), .int .i64 step, .int .i64 width], .int .i64 t, .int .i64 ax, .int .i64 ay] w (FoundRet (g + 1) n (bordI step t) (ax - x) (ay - y) w) := by
  have HS := Lib.hid hs
  have H0 := Lib.hid h0
  obtain ⟨x1, x2, y1, y2, z1, z2, r1, r2, hg1, hg2, s1, s2, d1, d2⟩ := hk
  obtain ⟨t1, t2⟩ := inB_true.1 c0
  obtain ⟨p1, p2⟩ := inB_true.1 c1
  obtain ⟨p3, p4⟩ := inB_true.1 c2
  have HM := Lib.hid (bord_mono (step := step) (t := t) t1 t2 s1 s2 (N := g + 1) (by omega))
  have HB := Lib.hid (show ∀ i, i < g + 1 → bordI step t i ≤ 1000000 from fun i hi => by have := (bordI_bd (k := i) t1 t2 s1 s2 (by omega)).2.2.2; omega)
  clear hs h0
  go_enter Try.func38, Try.ntmps38
  go_wp2_with fail
  refine (CheckSite_any _ _ _ _ _ _ _ _ _ HS.out).mono ?_; rintro e w1 ⟨rfl, hb1⟩
  have hsite := (SiteAt.new w nm x y z n g step width).keep hb1 (by simp)
  have hbw : Below w.heap.size w w1 := Below.trans (below_alloc _ _) (hb1.mono (by simp))
  have hz : w.heap.size + 1 ≤ w1.heap.size := by have := hb1.size; simp only [World.size_alloc] at this; omega
  clear hb1
  obtain ⟨k0, k1, k2, k3, k4, k5, k6, k7⟩ := hsite
  rw [H0.out]
  go_wp2_with fail
  refine (isTilt_any _ _).mono ?_; rintro e w' ⟨rfl, rfl⟩
  go_wp2_with fail
  refine (isIn_any _ _ _ _).mono ?_; rintro e w' ⟨rfl, rfl⟩
  go_wp2_with fail
  refine (isIn_any _ _ _ _).mono ?_; rintro e w' ⟨rfl, rfl⟩
  go_wp2_with fail
  go_region_held3 (fun w' => w'.cell? ⟨w.heap.size, 0, none⟩ = some (.string nm) ∧ w'.cell? ⟨w.heap.size, 1, none⟩ = some (.int .i64 x) ∧ w'.cell? ⟨w.heap.size, 2, none⟩ = some (.int .i64 y) ∧ w'.cell? ⟨w.heap.size, 3, none⟩ = some (.int .i64 z) ∧ w'.cell? ⟨w.heap.size, 4, none⟩ = some (.int .i64 (n : Nat)) ∧ w'.cell? ⟨w.heap.size, 5, none⟩ = some (.int .i64 (g : Nat)) ∧ w'.cell? ⟨w.heap.size, 6, none⟩ = some (.int .i64 step) ∧ w'.cell? ⟨w.heap.size, 7, none⟩ = some (.int .i64 width) ∧ w.heap.size + 1 ≤ w'.heap.size ∧ Below w.heap.size w w')
    ((first | exact ⟨k0, k1, k2, k3, k4, k5, k6, k7, hz, hbw.drew⟩ | (go_split_ands; refine ⟨?_, ?_, ?_, ?_, ?_, ?_, ?_, ?_, ?_, ?_⟩ <;> first | exact keepB hb4 (by omega) (by assumption) | (have := hb4.size; omega) | exact Below.trans (by assumption) (hb4.mono (by omega)))))
    (first | (go_at_call 79; refine (borders_any _ _ _ _ _ g _ _ _ _ (by omega) t1 t2 s1 s2).mono ?_; rintro e w4 ⟨b, rfl, hI, hbb, hbc, hb4⟩) | (go_at_call 78; refine (find_any _ _ _ _ n g _ _ (g + 1) _ (bordI step t) _ _ _ (by assumption) (by assumption) (by omega) HM.out HB.out (by omega) (by omega) (by omega) (by omega) (by omega) (by omega) (by omega) (by omega) (by omega) (by omega) (by omega) (by omega) (by omega) (by omega)).mono ?_; rintro e w4 ⟨ray, gate, ok, hF, rfl, hb4⟩))
  go_split_ands
  have HF := Lib.hid hF
  clear hF
  cases ok
  · go_wp2
    go_ret3
    exact ⟨0, 0, 29, found_zero HF.out, rfl, by assumption⟩
  · go_wp2
    go_ret3
    exact ⟨ray, gate, 0, ⟨true, HF.out, rfl⟩, rfl, by assumption⟩

end Go.Proofs.Ythnjfnapjpdchaa

namespace Go.Proofs.Ythnjfnapjpdchaa
set_option linter.unusedVariables false

/-- a vector is in the sector of a ray -/
def SecP (n d dx dy : Int) : Prop := 0 ≤ dirY n d * dx - dirX n d * dy ∧ 0 < dy * dirX n ((d + 1) % (4 * n)) - dx * dirY n ((d + 1) % (4 * n))

/-- the direction that ends a sector, seen from its quarter -/
def endX (n k : Int) : Int := if k + 1 < n then 2 * n * (k + 1) else n * n
def endY (n k : Int) : Int := if k + 1 < n then n * n - (k + 1) * (k + 1) else 0

theorem base_pos {P R E F u v : Int} (hP : 0 < P) (hR : 0 ≤ R) (hF : 0 ≤ F) (hD : 0 < P * E - R * F) (hE : 0 ≤ E) (h1 : 0 ≤ P * u - R * v) (h2 : 0 < v * E - u * F) : 0 ≤ u ∧ 0 < v := by
  have e1 : u * (P * E - R * F) = E * (P * u - R * v) + R * (v * E - u * F) := by
    rw [Int.mul_sub, Int.mul_sub, Int.mul_sub, Int.mul_left_comm u P E, Int.mul_left_comm u R F, Int.mul_left_comm E P u, Int.mul_left_comm E R v, Int.mul_comm E u, Int.mul_comm E v]; omega
  have e2 : v * (P * E - R * F) = P * (v * E - u * F) + F * (P * u - R * v) := by
    rw [Int.mul_sub, Int.mul_sub, Int.mul_sub, Int.mul_left_comm v P E, Int.mul_left_comm v R F, Int.mul_left_comm F P u, Int.mul_left_comm F R v, Int.mul_comm F u, Int.mul_comm F v]; omega
  have a1 := Int.mul_nonneg hE h1
  have a2 := Int.mul_nonneg hR (Int.le_of_lt h2)
  have a3 := Int.mul_pos hP h2
  have a4 := Int.mul_nonneg hF h1
  constructor
  · by_cases h : 0 ≤ u
    · exact h
    · have := Int.mul_neg_of_neg_of_pos (show u < 0 by omega) hD
      omega
  · by_cases h : 0 < v
    · exact h
    · have := Int.mul_nonpos_of_nonpos_of_nonneg (show v ≤ 0 by omega) (Int.le_of_lt hD)
      omega

theorem end_facts {n k : Int} (h0 : 0 ≤ k) (h1 : k < n) : 0 < n * n - k * k ∧ 0 ≤ 2 * n * k ∧ 0 ≤ endY n k ∧ 0 < (n * n - k * k) * endX n k - (2 * n * k) * endY n k ∧ 0 ≤ endX n k := by
  have p1 := M.sq_lt h0 h1
  have p2 : 0 ≤ 2 * n * k := Int.mul_nonneg (by omega) h0
  have p3 : 0 < n * n := Int.mul_pos (by omega) (by omega)
  unfold endX endY
  by_cases h : k + 1 < n
  · rw [if_pos h, if_pos h]
    have p4 := M.sq_lt (n := n) (k := k + 1) (by omega) h
    exact ⟨p1, p2, by omega, M.next_in h0 h1, Int.mul_nonneg (by omega) (by omega)⟩
  · rw [if_neg h, if_neg h]
    have := Int.mul_pos p1 p3
    exact ⟨p1, p2, by omega, by rw [Int.mul_zero]; omega, by omega⟩

/-- the next direction, by quarters -/
theorem next_eq {n k : Int} {q : Nat} (hq : q ≤ 3) (h0 : 0 ≤ k) (h1 : k < n) :
    dirX n ((q * n + k + 1) % (4 * n)) = rotX q (endX n k) (endY n k) ∧ dirY n ((q * n + k + 1) % (4 * n)) = rotY q (endX n k) (endY n k) := by
  have hq' : q = 0 ∨ q = 1 ∨ q = 2 ∨ q = 3 := by omega
  by_cases hk : k + 1 < n
  · have ex : endX n k = 2 * n * (k + 1) := by unfold endX; rw [if_pos hk]
    have ey : endY n k = n * n - (k + 1) * (k + 1) := by unfold endY; rw [if_pos hk]
    rw [ex, ey]
    have e : ((q : Int) * n + k + 1) % (4 * n) = q * n + (k + 1) := by
      rw [M.emod_small (by rcases hq' with rfl | rfl | rfl | rfl <;> omega) (by rcases hq' with rfl | rfl | rfl | rfl <;> omega)]; omega
    rw [e]
    obtain ⟨g1, g2, _⟩ := dir_eq (n := n) (q := q) (k := k + 1) (by omega) hk
    rw [g1, g2]
    rcases hq' with rfl | rfl | rfl | rfl <;> simp [M.dx, M.dy, rotX, rotY]
  · have hk' : k = n - 1 := by omega
    have ex : endX n k = n * n := by unfold endX; rw [if_neg hk]
    have ey : endY n k = 0 := by unfold endY; rw [if_neg hk]
    rw [ex, ey]
    rcases hq' with rfl | rfl | rfl | rfl
    · rw [M.emod_small (by omega) (by omega), show (((0 : Nat) : Int) * n + k + 1 : Int) = 1 * n + 0 by omega]
      obtain ⟨g1, g2, _⟩ := dir_eq (n := n) (q := 1) (k := 0) (by omega) (by omega)
      rw [g1, g2]; simp [M.dx, M.dy, rotX, rotY]
    · rw [M.emod_small (by omega) (by omega), show (((1 : Nat) : Int) * n + k + 1 : Int) = 2 * n + 0 by omega]
      obtain ⟨g1, g2, _⟩ := dir_eq (n := n) (q := 2) (k := 0) (by omega) (by omega)
      rw [g1, g2]; simp [M.dx, M.dy, rotX, rotY]
    · rw [M.emod_small (by omega) (by omega), show (((2 : Nat) : Int) * n + k + 1 : Int) = 3 * n + 0 by omega]
      obtain ⟨g1, g2, _⟩ := dir_eq (n := n) (q := 3) (k := 0) (by omega) (by omega)
      rw [g1, g2]; simp [M.dx, M.dy, rotX, rotY]
    · rw [M.emod_wrap (by omega) (by omega), show (((3 : Nat) : Int) * n + k + 1 - 4 * n : Int) = 0 * n + 0 by omega]
      obtain ⟨g1, g2, _⟩ := dir_eq (n := n) (q := 0) (k := 0) (by omega) (by omega)
      rw [g1, g2]; simp [M.dx, M.dy, rotX, rotY]

theorem cross_rot (q : Nat) (hq : q ≤ 3) (a b u v : Int) : rotY q a b * rotX q u v - rotX q a b * rotY q u v = b * u - a * v := by
  have hq' : q = 0 ∨ q = 1 ∨ q = 2 ∨ q = 3 := by omega
  rcases hq' with rfl | rfl | rfl | rfl <;> simp [rotX, rotY, Int.neg_mul, Int.mul_neg] <;> omega

theorem dir_rot {n k : Int} {q : Nat} (hq : q ≤ 3) (h0 : 0 ≤ k) (h1 : k < n) : dirX n (q * n + k) = rotX q (2 * n * k) (n * n - k * k) ∧ dirY n (q * n + k) = rotY q (2 * n * k) (n * n - k * k) := by
  have hq' : q = 0 ∨ q = 1 ∨ q = 2 ∨ q = 3 := by omega
  obtain ⟨g1, g2, _⟩ := dir_eq (n := n) (q := q) h0 h1
  rw [g1, g2]
  rcases hq' with rfl | rfl | rfl | rfl <;> simp [M.dx, M.dy, rotX, rotY]

theorem secP_base {n k : Int} {q : Nat} (hq : q ≤ 3) (h0 : 0 ≤ k) (h1 : k < n) (u v : Int) :
    SecP n (q * n + k) (rotX q u v) (rotY q u v) ↔ 0 ≤ (n * n - k * k) * u - (2 * n * k) * v ∧ 0 < v * endX n k - u * endY n k := by
  unfold SecP
  obtain ⟨d1, d2⟩ := dir_rot hq h0 h1
  obtain ⟨e1, e2⟩ := next_eq hq h0 h1
  rw [d1, d2, e1, e2, cross_rot q hq, cross_rot q hq]

theorem rot_unique {q q' : Nat} {a b u v : Int} (hq : q ≤ 3) (hq' : q' ≤ 3) (ha : 0 ≤ a) (hb : 0 < b) (hu : 0 ≤ u) (hv : 0 < v) (h1 : rotX q a b = rotX q' u v) (h2 : rotY q a b = rotY q' u v) : q = q' ∧ a = u ∧ b = v := by
  have e1 : q = 0 ∨ q = 1 ∨ q = 2 ∨ q = 3 := by omega
  have e2 : q' = 0 ∨ q' = 1 ∨ q' = 2 ∨ q' = 3 := by omega
  rcases e1 with rfl | rfl | rfl | rfl <;> rcases e2 with rfl | rfl | rfl | rfl <;> simp [rotX, rotY] at h1 h2 <;> first | omega | (refine ⟨rfl, ?_, ?_⟩ <;> omega)

theorem rot_back (q : Nat) (hq : q ≤ 3) (dx dy : Int) : ∃ u v : Int, dx = rotX q u v ∧ dy = rotY q u v := by
  have e1 : q = 0 ∨ q = 1 ∨ q = 2 ∨ q = 3 := by omega
  rcases e1 with rfl | rfl | rfl | rfl
  · exact ⟨dx, dy, rfl, rfl⟩
  · exact ⟨-dy, dx, by simp [rotX], by simp [rotY]⟩
  · exact ⟨-dx, -dy, by simp [rotX], by simp [rotY]⟩
  · exact ⟨dy, -dx, by simp [rotX], by simp [rotY]⟩

theorem before_iff {n k : Nat} {a b : Int} (h : k < n) : before n a b k = true ↔ ¬ (0 ≤ ((n : Int) * n - (k : Int) * k) * a - (2 * n * k) * b) := by
  unfold before
  obtain ⟨e1, e2⟩ := dir_first (n := n) (k := k) (Int.natCast_nonneg _) (by omega)
  rw [decide_eq_true_iff, e1, e2]; omega

theorem srch_pos {n r : Nat} {a b : Int} (h1 : 1 ≤ n) (ha : 0 ≤ a) (h : SrchIs n (before n a b) r) : 1 ≤ r := by
  by_cases e : 1 ≤ r
  · exact e
  · exfalso
    have := (before_iff (a := a) (b := b) (show 0 < n by omega)).1 (h.2.2 0 (by omega) (by omega))
    apply this
    simp
    exact Int.mul_nonneg (Int.mul_nonneg (by omega) (by omega)) ha

/-- in the quarter: the sector is the one that the search found -/
theorem sec_quarter {n r k : Nat} {a b : Int} (hk : k < n) (ha : 0 ≤ a) (hb : 0 < b) (h : SrchIs n (before n a b) r) :
    (0 ≤ ((n : Int) * n - (k : Int) * k) * a - (2 * n * k) * b ∧ 0 < b * endX n k - a * endY n k) ↔ k + 1 = r := by
  have c2 : 0 < b * endX n k - a * endY n k ↔ (k + 1 < n → before n a b (k + 1) = true) := by
    unfold endX endY
    by_cases hk2 : ((k : Int) + 1 < n)
    · have hk3 : k + 1 < n := by omega
      rw [if_pos hk2, if_pos hk2]
      have := before_iff (a := a) (b := b) hk3
      have e : ((k + 1 : Nat) : Int) = (k : Int) + 1 := by omega
      rw [e] at this
      rw [Int.mul_comm b, Int.mul_comm a]
      constructor
      · intro hh _; rw [this]; omega
      · intro hh; have := this.1 (hh hk3); omega
    · rw [if_neg hk2, if_neg hk2]
      constructor
      · intro _ h3; omega
      · intro _
        have := Int.mul_pos hb (Int.mul_pos (show 0 < (n : Int) by omega) (show 0 < (n : Int) by omega))
        rw [Int.mul_zero]; omega
  have c1 := before_iff (a := a) (b := b) hk
  rw [c2]
  obtain ⟨r1, r2, r3⟩ := h
  constructor
  · rintro ⟨h1, h2⟩
    have nb : ¬ before n a b k = true := fun h => (c1.1 h) h1
    have kr : k < r := by
      by_cases e : k < r
      · exact e
      · exact absurd (r3 k (by omega) hk) nb
    by_cases e : k + 1 = r
    · exact e
    · exfalso
      have := h2 (by omega)
      rw [r2 (k + 1) (by omega)] at this
      cases this
  · intro e
    refine ⟨?_, fun h2 => r3 (k + 1) (by omega) h2⟩
    have := r2 k (by omega)
    by_cases h3 : 0 ≤ ((n : Int) * n - (k : Int) * k) * a - (2 * n * k) * b
    · exact h3
    · rw [c1.2 h3] at this; cases this

/-- exactly one ray -/
theorem sec_unique {n : Nat} {dx dy ray : Int} (h1 : 1 ≤ n) (hne : ¬ (dx = 0 ∧ dy = 0)) (hr : RayIs n dx dy ray) : (0 ≤ ray ∧ ray < 4 * n) ∧ ∀ d : Int, 0 ≤ d → d < 4 * n → (SecP n d dx dy ↔ d = ray) := by
  rcases hr with ⟨e1, e2, _⟩ | ⟨q, a, b, hq, ha, hb, rfl, rfl, r, hs, hray⟩
  · exact absurd ⟨e1, e2⟩ hne
  have rp := srch_pos h1 ha hs
  have rn := hs.1
  have hq' : q = 0 ∨ q = 1 ∨ q = 2 ∨ q = 3 := by omega
  refine ⟨by rcases hq' with rfl | rfl | rfl | rfl <;> omega, fun d d0 d1 => ?_⟩
  obtain ⟨q2, k, hq2, k0, k1, hd⟩ := decomp (n := n) (d := d) (by omega) d0 d1
  obtain ⟨Q, rfl⟩ := Int.eq_ofNat_of_zero_le (show 0 ≤ q2 by omega)
  obtain ⟨k, rfl⟩ := Int.eq_ofNat_of_zero_le k0
  have hQ : Q ≤ 3 := by omega
  obtain ⟨u, v, eu, ev⟩ := rot_back Q hQ (rotX q a b) (rotY q a b)
  rw [hd]
  constructor
  · intro h
    rw [eu, ev, secP_base hQ k0 k1] at h
    obtain ⟨f1, f2, f3, f4, f5⟩ := end_facts k0 k1
    obtain ⟨hu, hv⟩ := base_pos f1 f2 f3 f4 f5 h.1 h.2
    obtain ⟨rfl, rfl, rfl⟩ := rot_unique hq hQ ha hb hu hv eu ev
    have := (sec_quarter (by omega) ha hb hs).1 h
    omega
  · intro h
    have hkr : Q = q ∧ k + 1 = r := by
      have e : (Q : Int) * n + k = q * n + (r - 1) := by omega
      have a1 := M.divmod (n := n) (q := Q) (k := k) k0 k1
      have a2 := M.divmod (n := n) (q := q) (k := (r : Int) - 1) (by omega) (by omega)
      rw [e] at a1
      omega
    obtain ⟨rfl, hk⟩ := hkr
    rw [secP_base hq k0 k1]
    exact (sec_quarter (by omega) ha hb hs).2 hk

/-- a quarter turn -/
theorem ray_turn {n : Nat} {dx dy ray ray2 : Int} (h1 : 1 ≤ n) (hne : ¬ (dx = 0 ∧ dy = 0)) (hr : RayIs n dx dy ray) (hr2 : RayIs n dy (-dx) ray2) : ray2 = (ray + n) % (4 * n) := by
  rcases hr with ⟨e1, e2, _⟩ | ⟨q, a, b, hq, ha, hb, rfl, rfl, r, hs, hray⟩
  · exact absurd ⟨e1, e2⟩ hne
  rcases hr2 with ⟨e1, e2, _⟩ | ⟨q2, u, v, hq2, hu, hv, eu, ev, r2, hs2, hray2⟩
  · exact absurd ⟨by omega, e1⟩ hne
  have rp := srch_pos h1 ha hs
  have rn := hs.1
  have hq' : q = 0 ∨ q = 1 ∨ q = 2 ∨ q = 3 := by omega
  have key : rotX ((q + 1) % 4) a b = rotY q a b ∧ rotY ((q + 1) % 4) a b = -rotX q a b := by
    rcases hq' with rfl | rfl | rfl | rfl <;> simp [rotX, rotY]
  obtain ⟨hq3, rfl, rfl⟩ := rot_unique (q := (q + 1) % 4) (by omega) hq2 ha hb hu hv (by rw [key.1]; exact eu) (by rw [key.2]; exact ev)
  have hrr : r2 = r := by
    obtain ⟨x1, x2, x3⟩ := hs
    obtain ⟨y1, y2, y3⟩ := hs2
    by_cases h : r2 < r
    · have := x2 r2 h; rw [y3 r2 (Nat.le_refl _) (by omega)] at this; cases this
    · by_cases h3 : r < r2
      · have := y2 r h3; rw [x3 r (Nat.le_refl _) (by omega)] at this; cases this
      · omega
  subst hrr
  rcases hq' with rfl | rfl | rfl | rfl
  · subst hq3; rw [M.emod_small (by omega) (by omega)]; simp at hray2; omega
  · subst hq3; rw [M.emod_small (by omega) (by omega)]; simp at hray2; omega
  · subst hq3; rw [M.emod_small (by omega) (by omega)]; simp at hray2; omega
  · subst hq3; rw [M.emod_wrap (by omega) (by omega)]; simp at hray2; omega

end Go.Proofs.Ythnjfnapjpdchaa
