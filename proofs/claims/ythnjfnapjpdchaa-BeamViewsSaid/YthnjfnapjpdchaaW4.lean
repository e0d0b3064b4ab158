/-
  The walk over find.
-/
import Derived.Test.YthnjfnapjpdchaaW2
import Derived.Test.YthnjfnapjpdchaaW3
namespace Go.Proofs.Ythnjfnapjpdchaa
open Go.RowKit
set_option linter.unusedVariables false

/-- a place that is not the site's: its quarter, and how it looks turned back -/
theorem rot_of (dx dy : Int) (h : ¬ (dx = 0 ∧ dy = 0)) : ∃ (q : Nat) (a b : Int), q ≤ 3 ∧ 0 ≤ a ∧ 0 < b ∧ dx = rotX q a b ∧ dy = rotY q a b := by
  by_cases h1 : 0 ≤ dx ∧ 0 < dy
  · exact ⟨0, dx, dy, by omega, h1.1, h1.2, rfl, rfl⟩
  · by_cases h2 : 0 < dx ∧ dy ≤ 0
    · exact ⟨1, -dy, dx, by omega, by omega, by omega, by simp [rotX], by simp [rotY]⟩
    · by_cases h3 : dx ≤ 0 ∧ dy < 0
      · exact ⟨2, -dx, -dy, by omega, by omega, by omega, by simp [rotX], by simp [rotY]⟩
      · exact ⟨3, dy, -dx, by omega, by omega, by omega, by simp [rotX], by simp [rotY]⟩

/-- the ray to which a place belongs -/
def RayIs (n : Nat) (dx dy ray : Int) : Prop := (dx = 0 ∧ dy = 0 ∧ ray = 0) ∨ ∃ (q : Nat) (a b : Int), q ≤ 3 ∧ 0 ≤ a ∧ 0 < b ∧ dx = rotX q a b ∧ dy = rotY q a b ∧ SecIs n q a b ray

def SecR (n : Nat) (dx dy : Int) (w : World) (e : Ending) (w' : World) : Prop := ∃ s : Int, RayIs n dx dy s ∧ e = .returned (.int .i64 s) ∧ Below w.heap.size w w'

set_option maxHeartbeats 800000 in
theorem sector_zero (n : Nat) (w : World) : Calls Try.prog 98 #[.int .i64 n, .agg #[.int .i64 0, .int .i64 0]] w fun e w' => e = .returned (.int .i64 0) ∧ Below w.heap.size w w' := by
  go_enter Try.func98, Try.ntmps98
  go_wp2
  go_ret
  exact ⟨rfl, by repeat (first | exact Below.refl _ _ | (refine Below.alloc ?_ (by simp) _))⟩

theorem sector_all (n : Nat) (dx dy : Int) (w : World) (h1 : 1 ≤ n) (h2 : n ≤ 90) (b1 : -10000000 ≤ dx ∧ dx ≤ 10000000) (b2 : -10000000 ≤ dy ∧ dy ≤ 10000000) :
    Calls Try.prog 98 #[.int .i64 n, .agg #[.int .i64 dx, .int .i64 dy]] w (SecR n dx dy w) := by
  by_cases h : dx = 0 ∧ dy = 0
  · obtain ⟨rfl, rfl⟩ := h
    exact (sector_zero n w).mono fun e w' ⟨he, hb⟩ => ⟨0, .inl ⟨rfl, rfl, rfl⟩, he, hb⟩
  · obtain ⟨q, a, b, hq, ha, hb, rfl, rfl⟩ := rot_of dx dy h
    have hab : a ≤ 10000000 ∧ b ≤ 10000000 := by
      have hq' : q = 0 ∨ q = 1 ∨ q = 2 ∨ q = 3 := by omega
      rcases hq' with rfl | rfl | rfl | rfl <;> simp [rotX, rotY] at b1 b2 <;> omega
    refine (sector_any n q a b w hq h1 h2 ha hb hab.1 hab.2 ?_).mono fun e w' ⟨s, hs, he, hbw⟩ => ⟨s, .inr ⟨q, a, b, hq, ha, hb, rfl, rfl, hs⟩, he, hbw⟩
    rw [Bool.and_eq_false_iff]
    by_cases h0 : rotX q a b = 0
    · right; rw [beq_eq_false_iff_ne]; exact fun h3 => h ⟨h0, h3⟩
    · left; rw [beq_eq_false_iff_ne]; exact h0

/-- the test of the search for a gate -/
def inside (sq : Int) (B : Nat → Int) (k : Nat) : Bool := decide (sq < B k * B k)
theorem inside_mono {sq : Int} {B : Nat → Int} {N : Nat} (hB : ∀ i j, i ≤ j → j < N → 0 ≤ B i ∧ B i ≤ B j) : ∀ i j, i ≤ j → j < N → inside sq B i = true → inside sq B j = true := by
  intro i j hij hj h
  unfold inside at h ⊢
  rw [decide_eq_true_iff] at h ⊢
  obtain ⟨h1, h2⟩ := hB i j hij hj
  have := M.sq_mono h1 h2
  omega

/-- what find answers -/
def FindIs (N n : Nat) (B : Nat → Int) (dx dy ray gate : Int) (ok : Bool) : Prop :=
  ∃ r : Nat, SrchIs N (inside (dx * dx + dy * dy) B) r ∧ ((r = N ∧ ok = false ∧ ray = 0 ∧ gate = 0) ∨ (r < N ∧ ok = true ∧ gate = r - 1 ∧ RayIs n dx dy ray))
def FindRet (N n : Nat) (B : Nat → Int) (dx dy : Int) (w : World) (e : Ending) (w' : World) : Prop :=
  ∃ (ray gate : Int) (ok : Bool), FindIs N n B dx dy ray gate ok ∧ e = .returned (.tuple #[.int .i64 ray, .int .i64 gate, .bool ok]) ∧ Below w.heap.size w w'

structure FEnv (w W : World) (N n b : Nat) (B : Nat → Int) (dx dy sq : Int) : Prop where
  r : W.cell? ⟨w.heap.size, 4, none⟩ = some (.int .i64 n)
  s : W.cell? ⟨w.heap.size + 1, 0, none⟩ = some (.slice (some ⟨b, 0, none⟩) N N)
  v0 : W.cell? ⟨w.heap.size + 1 + 1 + 1, 0, none⟩ = some (.int .i64 dx)
  v1 : W.cell? ⟨w.heap.size + 1 + 1 + 1, 1, none⟩ = some (.int .i64 dy)
  q : W.cell? ⟨w.heap.size + 1 + 1 + 1 + 1, 0, none⟩ = some (.int .i64 sq)
  i : IntsAt W b N B
  z : w.heap.size + 5 ≤ W.heap.size
  b : Below w.heap.size w W
theorem FEnv.keep {w W W1 : World} {N n b : Nat} {B : Nat → Int} {dx dy sq : Int} (f : FEnv w W N n b B dx dy sq) (hb : Below W.heap.size W W1) (hbb : b < w.heap.size) : FEnv w W1 N n b B dx dy sq := by
  have z := f.z
  exact ⟨keepB hb (by omega) f.r, keepB hb (by omega) f.s, keepB hb (by omega) f.v0, keepB hb (by omega) f.v1, keepB hb (by omega) f.q, f.i.keep hb (by omega), Nat.le_trans f.z hb.size, f.b.trans (hb.mono (by omega))⟩

theorem find_env (nm : ByteArray) (x y z : Int) (n g : Nat) (step width : Int) (N b : Nat) (B : Nat → Int) (ax ay : Int) (w : World) (hb : b < w.heap.size) (hi : IntsAt w b N B) :
    FEnv w (((((w.alloc (.cells #[.string nm, .int .i64 x, .int .i64 y, .int .i64 z, .int .i64 (n : Nat), .int .i64 (g : Nat), .int .i64 step, .int .i64 width] 23)).alloc (.cells #[.slice (some ⟨b, 0, none⟩) N N] 54)).alloc (.cells #[.int .i64 ax, .int .i64 ay] 83)).alloc (.cells #[.int .i64 (ax - x), .int .i64 (ay - y)] 83)).alloc (.cells #[.int .i64 ((ax - x) * (ax - x) + (ay - y) * (ay - y))] 3)) N n b B (ax - x) (ay - y) ((ax - x) * (ax - x) + (ay - y) * (ay - y)) := by
  obtain ⟨A1, e1⟩ : ∃ A, A = w.alloc (.cells #[.string nm, .int .i64 x, .int .i64 y, .int .i64 z, .int .i64 (n : Nat), .int .i64 (g : Nat), .int .i64 step, .int .i64 width] 23) := ⟨_, rfl⟩
  obtain ⟨A2, e2⟩ : ∃ A, A = A1.alloc (.cells #[.slice (some ⟨b, 0, none⟩) N N] 54) := ⟨_, rfl⟩
  obtain ⟨A3, e3⟩ : ∃ A, A = A2.alloc (.cells #[.int .i64 ax, .int .i64 ay] 83) := ⟨_, rfl⟩
  obtain ⟨A4, e4⟩ : ∃ A, A = A3.alloc (.cells #[.int .i64 (ax - x), .int .i64 (ay - y)] 83) := ⟨_, rfl⟩
  obtain ⟨A5, e5⟩ : ∃ A, A = A4.alloc (.cells #[.int .i64 ((ax - x) * (ax - x) + (ay - y) * (ay - y))] 3) := ⟨_, rfl⟩
  have s1 : A1.heap.size = w.heap.size + 1 := by rw [e1]; exact World.size_alloc _ _
  have s2 : A2.heap.size = w.heap.size + 1 + 1 := by rw [e2, World.size_alloc, s1]
  have s3 : A3.heap.size = w.heap.size + 1 + 1 + 1 := by rw [e3, World.size_alloc, s2]
  have s4 : A4.heap.size = w.heap.size + 1 + 1 + 1 + 1 := by rw [e4, World.size_alloc, s3]
  have s5 : A5.heap.size = w.heap.size + 1 + 1 + 1 + 1 + 1 := by rw [e5, World.size_alloc, s4]
  have b1 : Below w.heap.size w A1 := by rw [e1]; exact below_alloc _ _
  have b2 : Below A1.heap.size A1 A2 := by rw [e2]; exact below_alloc _ _
  have b3 : Below A2.heap.size A2 A3 := by rw [e3]; exact below_alloc _ _
  have b4 : Below A3.heap.size A3 A4 := by rw [e4]; exact below_alloc _ _
  have b5 : Below A4.heap.size A4 A5 := by rw [e5]; exact below_alloc _ _
  have c25 : Below A2.heap.size A2 A5 := (b3.trans (b4.mono (by omega))).trans (b5.mono (by omega))
  have c15 : Below A1.heap.size A1 A5 := b2.trans (c25.mono (by omega))
  have c05 : Below w.heap.size w A5 := b1.trans (c15.mono (by omega))
  have r0 : A1.cell? ⟨w.heap.size, 4, none⟩ = some (.int .i64 n) := by rw [e1]; exact alloc_new rfl rfl
  have q0 : A2.cell? ⟨w.heap.size + 1, 0, none⟩ = some (.slice (some ⟨b, 0, none⟩) N N) := by rw [e2]; exact alloc_new s1.symm rfl
  have v0 : A4.cell? ⟨w.heap.size + 1 + 1 + 1, 0, none⟩ = some (.int .i64 (ax - x)) := by rw [e4]; exact alloc_new s3.symm rfl
  have v1 : A4.cell? ⟨w.heap.size + 1 + 1 + 1, 1, none⟩ = some (.int .i64 (ay - y)) := by rw [e4]; exact alloc_new s3.symm rfl
  have t0 : A5.cell? ⟨w.heap.size + 1 + 1 + 1 + 1, 0, none⟩ = some (.int .i64 ((ax - x) * (ax - x) + (ay - y) * (ay - y))) := by rw [e5]; exact alloc_new s4.symm rfl
  rw [← e1, ← e2, ← e3, ← e4, ← e5]
  exact ⟨keepB c15 (by omega) r0, keepB c25 (by omega) q0, keepB b5 (by omega) v0, keepB b5 (by omega) v1, t0, hi.keep c05 hb, by omega, c05⟩

set_option maxHeartbeats 3200000 in
theorem find_any (nm : ByteArray) (x y z : Int) (n g : Nat) (step width : Int) (N b : Nat) (B : Nat → Int) (ax ay : Int) (w : World) (hb : b < w.heap.size) (hi : IntsAt w b N B) (hN : N ≤ 1000000)
    (hB : ∀ i j, i ≤ j → j < N → 0 ≤ B i ∧ B i ≤ B j) (hB2 : ∀ i, i < N → B i ≤ 1000000) (h1 : 1 ≤ n) (h2 : n ≤ 90) (d1 : -10000000 ≤ ax - x) (d2 : ax - x ≤ 10000000) (d3 : -10000000 ≤ ay - y) (d4 : ay - y ≤ 10000000)
    (p1 : -4194304 ≤ ax) (p2 : ax ≤ 4194304) (p3 : -4194304 ≤ ay) (p4 : ay ≤ 4194304) (p5 : -4194304 ≤ x) (p6 : x ≤ 4194304) (p7 : -4194304 ≤ y) (p8 : y ≤ 4194304) :
    Calls Try.prog 78 #[.agg #[.string nm, .int .i64 x, .int .i64 y, .int .i64 z, .int .i64 (n : Nat), .int .i64 (g : Nat), .int .i64 step, .int .i64 width], .slice (some ⟨b, 0, none⟩) N N, .agg #[.int .i64 ax, .int .i64 ay]] w (FindRet N n B (ax - x) (ay - y) w) := by
  have FE := Lib.hid (find_env nm x y z n g step width N b B ax ay w hb hi)
  have HM := Lib.hid (inside_mono (sq := (ax - x) * (ax - x) + (ay - y) * (ay - y)) hB)
  have HB := Lib.hid hB
  have HB2 := Lib.hid hB2
  have m1 := M.sq_bd (a := ax - x) (A := 10000000) d1 d2
  have m2 := M.sq_bd (a := ay - y) (A := 10000000) d3 d4
  clear hi hB hB2
  go_enter Try.func78, Try.ntmps78
  go_wp2_with fail
  refine (Search97 N _ _ _ _ hN HM.out ?_).mono ?_
  · intro k wr hk hbr
    have f := FE.out.keep hbr hb
    exact find1_any _ _ b N k _ B wr f.q f.s f.i hk hN ⟨(HB.out k k (Nat.le_refl _) hk).1, HB2.out k hk⟩
  · rintro e w1 ⟨r, hs, rfl, hb1⟩
    have f := FE.out.keep hb1 hb
    have HS := Lib.hid hs
    have rn := hs.1
    obtain ⟨k0, k1, k2, k3, k4, _, hz, hbw⟩ := f
    clear hs hb1 FE
    by_cases hr : r = N
    · subst hr
      go_wp2
      go_ret3
      exact ⟨0, 0, false, ⟨r, HS.out, .inl ⟨rfl, rfl, rfl, rfl⟩⟩, rfl, hbw⟩
    · have hr1 : ((r : Int) == (N : Int)) = false := by rw [beq_eq_false_iff_ne]; omega
      have hr2 : r < N := by omega
      clear hr
      go_wp2_with fail
      refine (sector_all n (ax - x) (ay - y) _ h1 h2 ⟨d1, d2⟩ ⟨d3, d4⟩).mono ?_
      rintro e w2 ⟨s, hsr, rfl, hb2⟩
      have HSR := Lib.hid hsr
      clear hsr
      go_wp2
      go_ret3
      exact ⟨s, r - 1, true, ⟨r, HS.out, .inr ⟨hr2, rfl, rfl, HSR.out⟩⟩, rfl, hbw.trans (hb2.mono (by omega))⟩

end Go.Proofs.Ythnjfnapjpdchaa
