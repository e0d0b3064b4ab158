/-
  The hull of spans.
-/
import Derived.Test.YtdmbkhmhaininaaF
namespace Go.Proofs.Ytdmbkhmhaininaa
open Go.RowKit
set_option linter.unusedVariables false
set_option linter.unusedSimpArgs false

/-- the hull of a span and of some others -/
def hu (a b : Int) (zs : Nat → Int × Int) : Nat → Int × Int
  | 0 => (a, b)
  | k + 1 => (min (hu a b zs k).1 (zs k).1, max (hu a b zs k).2 (zs k).2)
structure HuRel (w wr : World) (a b : Int) (zs : Nat → Int × Int) (k : Nat) : Prop where
  c0 : wr.cell? ⟨w.heap.size, 0, none⟩ = some (.int .i64 (hu a b zs k).1)
  c1 : wr.cell? ⟨w.heap.size, 1, none⟩ = some (.int .i64 (hu a b zs k).2)
  f0 : wr.frozen? ⟨w.heap.size, 0, none⟩ = false
  f1 : wr.frozen? ⟨w.heap.size, 1, none⟩ = false
  r0 : wr.cell? ⟨w.heap.size + 1, 0, none⟩ = some (.int .i64 0)
  r1 : wr.cell? ⟨w.heap.size + 1, 1, none⟩ = some (.int .i64 0)
  g0 : wr.frozen? ⟨w.heap.size + 1, 0, none⟩ = false
  g1 : wr.frozen? ⟨w.heap.size + 1, 1, none⟩ = false
  z : w.heap.size + 1 < wr.heap.size
  b : Below w.heap.size w wr
theorem HuRel.keep {w W w1 : World} {a b : Int} {zs : Nat → Int × Int} {k : Nat} (R : HuRel w W a b zs k) (hb : Below W.heap.size W w1) : HuRel w w1 a b zs k := by
  have h := R.z
  exact ⟨keepB hb (by omega) R.c0, keepB hb (by omega) R.c1, keepF hb (by omega) R.f0, keepF hb (by omega) R.f1, keepB hb h R.r0, keepB hb h R.r1, keepF hb h R.g0, keepF hb h R.g1, Nat.lt_of_lt_of_le h hb.size, R.b.trans (hb.mono R.b.size)⟩
theorem HuRel.next {w W : World} {a b : Int} {zs : Nat → Int × Int} {k : Nat} (R : HuRel w W a b zs k) : HuRel w ((W.setCell ⟨w.heap.size, 0, none⟩ (.int .i64 (min (hu a b zs k).1 (zs k).1))).setCell ⟨w.heap.size, 1, none⟩ (.int .i64 (max (hu a b zs k).2 (zs k).2))) a b zs (k + 1) := by
  have hB : Below w.heap.size W ((W.setCell ⟨w.heap.size, 0, none⟩ (.int .i64 (min (hu a b zs k).1 (zs k).1))).setCell ⟨w.heap.size, 1, none⟩ (.int .i64 (max (hu a b zs k).2 (zs k).2))) := ((Below.refl _ W).setCell (p := ⟨w.heap.size, 0, none⟩) (Nat.le_refl _) _).setCell (p := ⟨w.heap.size, 1, none⟩) (Nat.le_refl _) _
  exact ⟨set_other (by decide) (set_same R.c0), set_same (set_other (by decide) R.c1), by simp; exact R.f0, by simp; exact R.f1, cell_far (by omega) (cell_far (by omega) R.r0), cell_far (by omega) (cell_far (by omega) R.r1), by simp; exact R.g0, by simp; exact R.g1, by simp; exact R.z, R.b.trans hB⟩
theorem hull_boxes (w : World) (a b : Int) : ∃ A, A = (w.alloc (.cells #[.int .i64 a, .int .i64 b] 24)).alloc (.cells #[.int .i64 0, .int .i64 0] 24) ∧ Below w.heap.size w A ∧ A.heap.size = w.heap.size + 2 ∧ A.cell? ⟨w.heap.size, 0, none⟩ = some (.int .i64 a) ∧ A.cell? ⟨w.heap.size, 1, none⟩ = some (.int .i64 b) ∧ A.cell? ⟨w.heap.size + 1, 0, none⟩ = some (.int .i64 0) ∧ A.cell? ⟨w.heap.size + 1, 1, none⟩ = some (.int .i64 0) ∧ A.frozen? ⟨w.heap.size, 0, none⟩ = false ∧ A.frozen? ⟨w.heap.size, 1, none⟩ = false ∧ A.frozen? ⟨w.heap.size + 1, 0, none⟩ = false ∧ A.frozen? ⟨w.heap.size + 1, 1, none⟩ = false := by
  obtain ⟨A0, e0⟩ : ∃ A, A = w.alloc (.cells #[.int .i64 a, .int .i64 b] 24) := ⟨_, rfl⟩
  have s0 : A0.heap.size = w.heap.size + 1 := by rw [e0, World.size_alloc]
  have b0 : Below w.heap.size w A0 := by rw [e0]; exact below_alloc _ _
  have c0_0_0 : A0.cell? ⟨w.heap.size, 0, none⟩ = some (.int .i64 a) := by rw [e0]; exact alloc_new rfl rfl
  have c0_1_0 : A0.cell? ⟨w.heap.size, 1, none⟩ = some (.int .i64 b) := by rw [e0]; exact alloc_new rfl rfl
  have f0_0_0 : A0.frozen? ⟨w.heap.size, 0, none⟩ = false := by rw [e0]; exact alloc_newF rfl
  have f0_1_0 : A0.frozen? ⟨w.heap.size, 1, none⟩ = false := by rw [e0]; exact alloc_newF rfl
  rw [← e0]
  exact ⟨_, rfl, b0.trans ((below_alloc _ _).mono (by omega)), by rw [World.size_alloc]; omega, alloc_keep (by omega) c0_0_0, alloc_keep (by omega) c0_1_0, alloc_new s0.symm rfl, alloc_new s0.symm rfl, alloc_keepF (by omega) f0_0_0, alloc_keepF (by omega) f0_1_0, alloc_newF s0.symm, alloc_newF s0.symm⟩

set_option maxHeartbeats 3200000 in
theorem hull_some (a b : Int) (q off n cap : Nat) (zs : Nat → Int × Int) (w : World) (hn : n ≤ 1000000) (hs : SpansAt w q off n zs) (hq : q < w.heap.size) :
    Calls Try.prog 98 #[.agg #[.int .i64 a, .int .i64 b], .slice (some ⟨q, off, none⟩) n cap] w fun e w' => e = .returned (.agg #[.int .i64 (hu a b zs n).1, .int .i64 (hu a b zs n).2]) ∧ Below w.heap.size w w' := by
  have HS := Lib.hid hs
  clear hs
  obtain ⟨Y, hY, bY, zY, c0, c1, r0, r1, f0, f1, g0, g1⟩ := hull_boxes w a b
  have HY := Lib.hid (show HuRel w Y a b zs 0 from ⟨c0, c1, f0, f1, r0, r1, g0, g1, by omega, bY⟩)
  rw [hY] at HY
  clear hY zY bY c0 c1 r0 r1 f0 f1 g0 g1
  go_enter Try.func98, Try.ntmps98
  go_wp2
  go_loopw [9] (fun i wr => ∃ k : Nat, k ≤ n ∧ i = .int .i64 k ∧ HuRel w wr a b zs k) (fun i _ => n - (intOf i).toNat)
  case atStart => exact ⟨0, Nat.zero_le _, rfl, HY.out⟩
  case round =>
    clear HY
    obtain ⟨k, hk, rfl, hR⟩ := hrel
    have HR := Lib.hid hR
    have hbw := hR.b
    have hz := hR.z
    have y0 : w.heap.size < wr.heap.size := by omega
    by_cases hlt : k < n
    · have d0 := keepB hbw hq (HS.out k hlt).1
      have d1 := keepB hbw hq (HS.out k hlt).2
      have c0 := hR.c0
      have c1 := hR.c1
      have f0 := hR.f0
      have f1 := hR.f1
      have HN := Lib.hid ((HR.out.next).keep (below_alloc _ (.cells #[.int .i64 (zs k).1, .int .i64 (zs k).2] 24)))
      clear hR
      generalize (hu a b zs k).1 = x at *
      generalize (hu a b zs k).2 = y at *
      generalize (zs k).1 = u at *
      generalize (zs k).2 = v at *
      have e1 : (if x < u then x else u) = min x u := by split <;> omega
      have e2 : (if u < x then u else x) = min x u := by split <;> omega
      have e3 : (if x < u then x else u) = min x u := by split <;> omega
      have e4 : (if v < y then y else v) = max y v := by split <;> omega
      have e5 : (if y < v then v else y) = max y v := by split <;> omega
      go_wp2
      go_roundw
      case rel => exact ⟨k + 1, by omega, by go_num, HN.out⟩
      case measure => simp [intOf]; omega
    · obtain rfl : n = k := by omega
      have c0 := hR.c0
      have c1 := hR.c1
      have r0 := hR.r0
      have r1 := hR.r1
      have g0 := hR.g0
      have g1 := hR.g1
      clear hR HR HS
      go_wp2
      exact bodyPost_ret (v := .agg #[.int .i64 (hu a b zs n).1, .int .i64 (hu a b zs n).2]) (by simp [results, Try.results98, go_sem, set_same (i := 0) (v := .int .i64 (hu a b zs n).1) r0, set_other (i := 1) (j := 0) (v := .int .i64 (hu a b zs n).2) (by decide) (set_same (i := 0) (v := .int .i64 (hu a b zs n).1) r0), set_same (i := 1) (v := .int .i64 (hu a b zs n).2) (set_other (i := 0) (j := 1) (v := .int .i64 (hu a b zs n).1) (by decide) r1)]) rfl ⟨rfl, ((hbw.setCell (p := ⟨w.heap.size + 1, 0, none⟩) (by dsimp only; omega) _).setCell (p := ⟨w.heap.size + 1, 1, none⟩) (by dsimp only; omega) _)⟩

set_option maxHeartbeats 3200000 in
theorem hull_nil (a b : Int) (sa : Option Addr) (cap : Nat) (w : World) :
    Calls Try.prog 98 #[.agg #[.int .i64 a, .int .i64 b], .slice sa 0 cap] w fun e w' => e = .returned (.agg #[.int .i64 a, .int .i64 b]) ∧ Below w.heap.size w w' := by
  obtain ⟨Y, hY, bY, zY, c0, c1, r0, r1, f0, f1, g0, g1⟩ := hull_boxes w a b
  have HY := Lib.hid (show HuRel w Y a b (fun _ => (0, 0)) 0 from ⟨c0, c1, f0, f1, r0, r1, g0, g1, by omega, bY⟩)
  rw [hY] at HY
  clear hY zY bY c0 c1 r0 r1 f0 f1 g0 g1
  go_enter Try.func98, Try.ntmps98
  go_wp2
  go_loopw [9] (fun i wr => i = .int .i64 0 ∧ HuRel w wr a b (fun _ => (0, 0)) 0) (fun i _ => 0)
  case atStart => exact ⟨rfl, HY.out⟩
  case round =>
    clear HY
    obtain ⟨rfl, hR⟩ := hrel
    have hbw := hR.b
    have hz := hR.z
    have y0 : w.heap.size < wr.heap.size := by omega
    have c0 : wr.cell? ⟨w.heap.size, 0, none⟩ = some (.int .i64 a) := hR.c0
    have c1 : wr.cell? ⟨w.heap.size, 1, none⟩ = some (.int .i64 b) := hR.c1
    have r0 := hR.r0
    have r1 := hR.r1
    have g0 := hR.g0
    have g1 := hR.g1
    clear hR
    go_wp2
    exact bodyPost_ret (v := .agg #[.int .i64 a, .int .i64 b]) (by simp [results, Try.results98, go_sem, set_same (i := 0) (v := .int .i64 a) r0, set_other (i := 1) (j := 0) (v := .int .i64 b) (by decide) (set_same (i := 0) (v := .int .i64 a) r0), set_same (i := 1) (v := .int .i64 b) (set_other (i := 0) (j := 1) (v := .int .i64 a) (by decide) r1)]) rfl ⟨rfl, ((hbw.setCell (p := ⟨w.heap.size + 1, 0, none⟩) (by dsimp only; omega) _).setCell (p := ⟨w.heap.size + 1, 1, none⟩) (by dsimp only; omega) _)⟩

theorem hull_any (a b : Int) (sa : Option Addr) (n cap : Nat) (zs : Nat → Int × Int) (w : World) (hn : n ≤ 1000000) (hs : SliceIs w sa n cap zs) :
    Calls Try.prog 98 #[.agg #[.int .i64 a, .int .i64 b], .slice sa n cap] w fun e w' => e = .returned (.agg #[.int .i64 (hu a b zs n).1, .int .i64 (hu a b zs n).2]) ∧ Below w.heap.size w w' := by
  rcases hs with h | ⟨q, off, rfl, hq, hs⟩
  · subst h; exact hull_nil a b sa cap w
  · exact hull_some a b q off n cap zs w hn hs hq

end Go.Proofs.Ytdmbkhmhaininaa
