/-
  Hear.
-/
import Derived.Test.Ytmojnopgpgnfeaamg14
import Derived.Test.Ytmojnopgpgnfeaamg3
namespace Go.Proofs.Ytmojnopgpgnfeaa
open Go.RowKit
set_option linter.unusedVariables false
set_option linter.unusedSimpArgs false

theorem train_ok {l kd f s c : Int} (h : trainC l kd f s c = 0) : (2 ≤ c ∧ c ≤ 64) ∧ (kd = 2 → 4 ≤ c ∧ c ≤ 64 ∧ c % 2 = 0) := by
  by_cases h1 : kd = 1
  · subst h1
    rw [trainC1] at h
    split at h
    · rename_i h2; unfold one at h2; omega
    · omega
  · by_cases h2 : kd = 2
    · subst h2
      rw [trainC2] at h
      split at h
      · rename_i h2; unfold two at h2; omega
      · omega
    · by_cases h3 : kd = 3
      · subst h3
        rw [trainC3] at h
        split at h
        · rename_i h2; unfold thr at h2; omega
        · omega
      · rw [trainC0 h1 h2 h3] at h; omega
theorem recv_ok {lv ph n0 n1 : Int} (h : recvC lv ph n0 n1 = 0) : (0 ≤ lv ∧ lv ≤ 64) ∧ (0 ≤ ph ∧ ph ≤ 4096) ∧ (0 ≤ n0 ∧ n0 ≤ n1 ∧ n1 ≤ 1048576) := by
  unfold recvC at h
  split at h
  · rename_i h2; unfold rcv at h2; omega
  · omega

set_option maxRecDepth 100000 in
set_option maxHeartbeats 8000000 in
theorem Hear_ok (l kd f s c lv ph n0 n1 : Int) (b off n cap : Nat) (zs : Nat → Smp) (w : World) (hck : trainC l kd f s c = 0) (hrc : recvC lv ph n0 n1 = 0) (hn : (n : Int) = c) (ha : allS zs n = true) (hS : SmpsAt w b off n zs) (hb : b < w.heap.size) :
    Calls Try.prog 27 #[.agg #[.int .i64 l, .int .i64 kd, .int .i64 f, .int .i64 s, .int .i64 c], .agg #[.int .i64 lv, .int .i64 ph, .int .i64 n0, .int .i64 n1], .slice (some ⟨b, off, none⟩) n cap] w fun e' w' => e' = .returned (.tuple #[.agg #[.int .i64 ((hearOf l kd c lv ph n0 n1 n zs) 0), .int .i64 ((hearOf l kd c lv ph n0 n1 n zs) 1), .int .i64 ((hearOf l kd c lv ph n0 n1 n zs) 2), .int .i64 ((hearOf l kd c lv ph n0 n1 n zs) 3), .int .i64 ((hearOf l kd c lv ph n0 n1 n zs) 4), .int .i64 ((hearOf l kd c lv ph n0 n1 n zs) 5), .int .i64 ((hearOf l kd c lv ph n0 n1 n zs) 6), .int .i64 ((hearOf l kd c lv ph n0 n1 n zs) 7), .int .i64 ((hearOf l kd c lv ph n0 n1 n zs) 8), .int .i64 ((hearOf l kd c lv ph n0 n1 n zs) 9), .int .i64 ((hearOf l kd c lv ph n0 n1 n zs) 10), .int .i64 ((hearOf l kd c lv ph n0 n1 n zs) 11), .int .i64 ((hearOf l kd c lv ph n0 n1 n zs) 12), .int .i64 ((hearOf l kd c lv ph n0 n1 n zs) 13)], .int .i64 0]) ∧ Below w.heap.size w w' := by
  obtain ⟨⟨c1, c2⟩, c3⟩ := train_ok hck
  obtain ⟨g1, g2, g3⟩ := recv_ok hrc
  have H1 : Hid (∀ W : World, Calls Try.prog 61 #[.agg #[.int .i64 l, .int .i64 kd, .int .i64 f, .int .i64 s, .int .i64 c], .agg #[.int .i64 lv, .int .i64 ph, .int .i64 n0, .int .i64 n1]] W fun e w' => e = .returned (.int .i64 0) ∧ Below W.heap.size W w') := Lib.hid fun W => by
    have h := check_any l kd f s c lv ph n0 n1 W
    rw [if_pos hck, hrc] at h; exact h
  have H2 : Hid (∀ W : World, Below w.heap.size w W → Calls Try.prog 62 #[.agg #[.int .i64 l, .int .i64 kd, .int .i64 f, .int .i64 s, .int .i64 c], .slice (some ⟨b, off, none⟩) n cap] W fun e w' => e = .returned (.int .i64 0) ∧ Below W.heap.size W w') := Lib.hid fun W hW => by
    have h := checkSamples_all l kd f s c b off n cap zs W hn (by omega) (hS.keep hW hb) (Nat.lt_of_lt_of_le hb hW.size)
    rw [if_pos ha] at h; exact h
  obtain ⟨g, hg⟩ : ∃ g, g = hearOf l kd c lv ph n0 n1 n zs := ⟨_, rfl⟩
  have H3 : Hid (∀ W : World, Below w.heap.size w W → Calls Try.prog 63 #[.agg #[.int .i64 l, .int .i64 kd, .int .i64 f, .int .i64 s, .int .i64 c], .agg #[.int .i64 lv, .int .i64 ph, .int .i64 n0, .int .i64 n1], .slice (some ⟨b, off, none⟩) n cap] W fun e w' => e = .returned (.agg #[.int .i64 (g 0), .int .i64 (g 1), .int .i64 (g 2), .int .i64 (g 3), .int .i64 (g 4), .int .i64 (g 5), .int .i64 (g 6), .int .i64 (g 7), .int .i64 (g 8), .int .i64 (g 9), .int .i64 (g 10), .int .i64 (g 11), .int .i64 (g 12), .int .i64 (g 13)]) ∧ Below W.heap.size W w') := Lib.hid fun W hW => by
    rw [hg]
    exact hear_any l kd f s c lv ph n0 n1 b off n cap zs W (by omega) (by omega) c3 hn (fun i hi => smpB_true (allS_at ha hi)) g1 g2 g3 (hS.keep hW hb) (Nat.lt_of_lt_of_le hb hW.size)
  rw [← hg]
  clear hg hck hrc ha hS hn
  have HP := Lib.hid (HrP.new w l kd f s c lv ph n0 n1)
  go_enter Try.func27, Try.ntmps27
  go_wp2_with fail
  obtain ⟨U, hU⟩ : ∃ U, U = ((w.alloc (.cells #[.int .i64 l, .int .i64 kd, .int .i64 f, .int .i64 s, .int .i64 c] 23)).alloc (.cells #[.int .i64 lv, .int .i64 ph, .int .i64 n0, .int .i64 n1] 27)).alloc (.cells #[.int .i64 0, .int .i64 0, .int .i64 0, .int .i64 0, .int .i64 0, .int .i64 0, .int .i64 0, .int .i64 0, .int .i64 0, .int .i64 0, .int .i64 0, .int .i64 0, .int .i64 0, .int .i64 0] 30) := ⟨_, rfl⟩
  rw [← hU] at HP ⊢
  clear hU
  refine (H1.out _).mono ?_; rintro e' X1 ⟨rfl, hb1⟩
  have P1 := Lib.hid (HP.out.keep hb1 HP.out.z)
  clear hb1 HP
  obtain ⟨t0, t1, t2, t3, t4, r0, r1, r2, r3, oo, hzz, hbw⟩ := P1.out
  go_wp2_with fail
  refine (H2.out _ hbw).mono ?_; rintro e' X2 ⟨rfl, hb2⟩
  have P2 := Lib.hid (P1.out.keep hb2 P1.out.z)
  clear hb2 P1 t0 t1 t2 t3 t4 r0 r1 r2 r3 oo hzz hbw
  obtain ⟨t0, t1, t2, t3, t4, r0, r1, r2, r3, oo, hzz, hbw⟩ := P2.out
  go_wp2_with fail
  refine (H3.out _ hbw).mono ?_; rintro e' X3 ⟨rfl, hb3⟩
  have P3 := Lib.hid (P2.out.keep hb3 P2.out.z)
  clear hb3 P2 t0 t1 t2 t3 t4 r0 r1 r2 r3 oo hzz hbw
  obtain ⟨t0, t1, t2, t3, t4, r0, r1, r2, r3, oo, hzz, hbw⟩ := P3.out
  have HO := Lib.hid oo
  have y2 : w.heap.size + 1 + 1 < X3.heap.size := by omega
  have oc0 := HO.out.c 0 (by decide)
  have of0 := HO.out.f 0 (by decide)
  have oc1 := HO.out.c 1 (by decide)
  have of1 := HO.out.f 1 (by decide)
  have oc2 := HO.out.c 2 (by decide)
  have of2 := HO.out.f 2 (by decide)
  have oc3 := HO.out.c 3 (by decide)
  have of3 := HO.out.f 3 (by decide)
  have oc4 := HO.out.c 4 (by decide)
  have of4 := HO.out.f 4 (by decide)
  have oc5 := HO.out.c 5 (by decide)
  have of5 := HO.out.f 5 (by decide)
  have oc6 := HO.out.c 6 (by decide)
  have of6 := HO.out.f 6 (by decide)
  have oc7 := HO.out.c 7 (by decide)
  have of7 := HO.out.f 7 (by decide)
  have oc8 := HO.out.c 8 (by decide)
  have of8 := HO.out.f 8 (by decide)
  have oc9 := HO.out.c 9 (by decide)
  have of9 := HO.out.f 9 (by decide)
  have oc10 := HO.out.c 10 (by decide)
  have of10 := HO.out.f 10 (by decide)
  have oc11 := HO.out.c 11 (by decide)
  have of11 := HO.out.f 11 (by decide)
  have oc12 := HO.out.c 12 (by decide)
  have of12 := HO.out.f 12 (by decide)
  have oc13 := HO.out.c 13 (by decide)
  have of13 := HO.out.f 13 (by decide)
  clear oo P3
  go_wp2
  obtain ⟨Z, hZ⟩ : ∃ Z, Z = ((((((((((((((X3.setCell ⟨w.heap.size + 1 + 1, 0, none⟩ (.int .i64 (g 0))).setCell ⟨w.heap.size + 1 + 1, 1, none⟩ (.int .i64 (g 1))).setCell ⟨w.heap.size + 1 + 1, 2, none⟩ (.int .i64 (g 2))).setCell ⟨w.heap.size + 1 + 1, 3, none⟩ (.int .i64 (g 3))).setCell ⟨w.heap.size + 1 + 1, 4, none⟩ (.int .i64 (g 4))).setCell ⟨w.heap.size + 1 + 1, 5, none⟩ (.int .i64 (g 5))).setCell ⟨w.heap.size + 1 + 1, 6, none⟩ (.int .i64 (g 6))).setCell ⟨w.heap.size + 1 + 1, 7, none⟩ (.int .i64 (g 7))).setCell ⟨w.heap.size + 1 + 1, 8, none⟩ (.int .i64 (g 8))).setCell ⟨w.heap.size + 1 + 1, 9, none⟩ (.int .i64 (g 9))).setCell ⟨w.heap.size + 1 + 1, 10, none⟩ (.int .i64 (g 10))).setCell ⟨w.heap.size + 1 + 1, 11, none⟩ (.int .i64 (g 11))).setCell ⟨w.heap.size + 1 + 1, 12, none⟩ (.int .i64 (g 12))).setCell ⟨w.heap.size + 1 + 1, 13, none⟩ (.int .i64 (g 13))) := ⟨_, rfl⟩
  rw [← hZ]
  have EZ := ((((((((((((((HO.out.set (k := 0) (v := g 0)).set (k := 1) (v := g 1)).set (k := 2) (v := g 2)).set (k := 3) (v := g 3)).set (k := 4) (v := g 4)).set (k := 5) (v := g 5)).set (k := 6) (v := g 6)).set (k := 7) (v := g 7)).set (k := 8) (v := g 8)).set (k := 9) (v := g 9)).set (k := 10) (v := g 10)).set (k := 11) (v := g 11)).set (k := 12) (v := g 12)).set (k := 13) (v := g 13))
  rw [← hZ] at EZ
  have bZ : Below w.heap.size w Z := by rw [hZ]; exact ((((((((((((((hbw.setCell (p := ⟨w.heap.size + 1 + 1, 0, none⟩) (by dsimp only; omega) _).setCell (p := ⟨w.heap.size + 1 + 1, 1, none⟩) (by dsimp only; omega) _).setCell (p := ⟨w.heap.size + 1 + 1, 2, none⟩) (by dsimp only; omega) _).setCell (p := ⟨w.heap.size + 1 + 1, 3, none⟩) (by dsimp only; omega) _).setCell (p := ⟨w.heap.size + 1 + 1, 4, none⟩) (by dsimp only; omega) _).setCell (p := ⟨w.heap.size + 1 + 1, 5, none⟩) (by dsimp only; omega) _).setCell (p := ⟨w.heap.size + 1 + 1, 6, none⟩) (by dsimp only; omega) _).setCell (p := ⟨w.heap.size + 1 + 1, 7, none⟩) (by dsimp only; omega) _).setCell (p := ⟨w.heap.size + 1 + 1, 8, none⟩) (by dsimp only; omega) _).setCell (p := ⟨w.heap.size + 1 + 1, 9, none⟩) (by dsimp only; omega) _).setCell (p := ⟨w.heap.size + 1 + 1, 10, none⟩) (by dsimp only; omega) _).setCell (p := ⟨w.heap.size + 1 + 1, 11, none⟩) (by dsimp only; omega) _).setCell (p := ⟨w.heap.size + 1 + 1, 12, none⟩) (by dsimp only; omega) _).setCell (p := ⟨w.heap.size + 1 + 1, 13, none⟩) (by dsimp only; omega) _)
  clear hZ
  have h0 : Z.cell? ⟨w.heap.size + 1 + 1, 0, none⟩ = some (.int .i64 (g 0)) := EZ.c 0 (by decide)
  have h1 : Z.cell? ⟨w.heap.size + 1 + 1, 1, none⟩ = some (.int .i64 (g 1)) := EZ.c 1 (by decide)
  have h2 : Z.cell? ⟨w.heap.size + 1 + 1, 2, none⟩ = some (.int .i64 (g 2)) := EZ.c 2 (by decide)
  have h3 : Z.cell? ⟨w.heap.size + 1 + 1, 3, none⟩ = some (.int .i64 (g 3)) := EZ.c 3 (by decide)
  have h4 : Z.cell? ⟨w.heap.size + 1 + 1, 4, none⟩ = some (.int .i64 (g 4)) := EZ.c 4 (by decide)
  have h5 : Z.cell? ⟨w.heap.size + 1 + 1, 5, none⟩ = some (.int .i64 (g 5)) := EZ.c 5 (by decide)
  have h6 : Z.cell? ⟨w.heap.size + 1 + 1, 6, none⟩ = some (.int .i64 (g 6)) := EZ.c 6 (by decide)
  have h7 : Z.cell? ⟨w.heap.size + 1 + 1, 7, none⟩ = some (.int .i64 (g 7)) := EZ.c 7 (by decide)
  have h8 : Z.cell? ⟨w.heap.size + 1 + 1, 8, none⟩ = some (.int .i64 (g 8)) := EZ.c 8 (by decide)
  have h9 : Z.cell? ⟨w.heap.size + 1 + 1, 9, none⟩ = some (.int .i64 (g 9)) := EZ.c 9 (by decide)
  have h10 : Z.cell? ⟨w.heap.size + 1 + 1, 10, none⟩ = some (.int .i64 (g 10)) := EZ.c 10 (by decide)
  have h11 : Z.cell? ⟨w.heap.size + 1 + 1, 11, none⟩ = some (.int .i64 (g 11)) := EZ.c 11 (by decide)
  have h12 : Z.cell? ⟨w.heap.size + 1 + 1, 12, none⟩ = some (.int .i64 (g 12)) := EZ.c 12 (by decide)
  have h13 : Z.cell? ⟨w.heap.size + 1 + 1, 13, none⟩ = some (.int .i64 (g 13)) := EZ.c 13 (by decide)
  clear EZ
  exact bodyPost_ret (v := .tuple #[.agg #[.int .i64 (g 0), .int .i64 (g 1), .int .i64 (g 2), .int .i64 (g 3), .int .i64 (g 4), .int .i64 (g 5), .int .i64 (g 6), .int .i64 (g 7), .int .i64 (g 8), .int .i64 (g 9), .int .i64 (g 10), .int .i64 (g 11), .int .i64 (g 12), .int .i64 (g 13)], .int .i64 0]) (by simp [results, Try.results27, go_sem, h0, h1, h2, h3, h4, h5, h6, h7, h8, h9, h10, h11, h12, h13]) rfl ⟨rfl, bZ⟩


end Go.Proofs.Ytmojnopgpgnfeaa

namespace Go.Proofs.Ytmojnopgpgnfeaa
open Go.RowKit
set_option linter.unusedVariables false
set_option linter.unusedSimpArgs false

set_option maxHeartbeats 400000 in
theorem O_any (w : World) : Calls Try.prog 21 #[] w fun e w' => e = .returned (.agg #[.int .i64 100000, .int .i64 1, .int .i64 1000, .int .i64 0, .int .i64 4]) ∧ Below w.heap.size w w' := by
  go_enter Try.func21, Try.ntmps21
  go_wp2
  exact bodyPost_ret (v := .agg #[.int .i64 100000, .int .i64 1, .int .i64 1000, .int .i64 0, .int .i64 4]) (by simp [results, Try.results21, go_sem]) rfl ⟨rfl, by repeat (first | exact Below.refl _ _ | (refine Below.alloc ?_ (by first | (simp; done) | (simp only [World.size_alloc]; omega) | (simp; omega)) _))⟩

set_option maxHeartbeats 400000 in
theorem point_any (n : Int) (w : World) : Calls Try.prog 38 #[.int .i64 n] w fun e w' => e = .returned (.agg #[.int .i64 n, .int .i64 n]) ∧ Below w.heap.size w w' := by
  go_enter Try.func38, Try.ntmps38
  go_wp2
  exact bodyPost_ret (v := .agg #[.int .i64 n, .int .i64 n]) (by simp [results, Try.results38, go_sem]) rfl ⟨rfl, by repeat (first | exact Below.refl _ _ | (refine Below.alloc ?_ (by first | (simp; done) | (simp only [World.size_alloc]; omega) | (simp; omega)) _))⟩

/-- the first samples of the examples -/
def fourZ (i : Nat) : Smp := if i = 0 then ⟨10, 0, 5, 0⟩ else if i = 1 then ⟨10, 100, 5, 100⟩ else if i = 2 then ⟨10, 220, 5, 220⟩ else ⟨10, 330, 5, 330⟩
set_option maxHeartbeats 800000 in
theorem four_any (w : World) : Calls Try.prog 44 #[] w fun e w' => e = .returned (.slice (some ⟨w.heap.size, 0, none⟩) 4 4) ∧ SmpsAt w' w.heap.size 0 4 fourZ ∧ w.heap.size < w'.heap.size ∧ Below w.heap.size w w' := by
  go_enter Try.func44, Try.ntmps44
  go_wp2
  go_ret
  refine ⟨rfl, ⟨fun i hi => ?_, fun i hi => ?_, fun i hi => ?_, fun i hi => ?_⟩, by simp, below_alloc _ _⟩ <;> (match i, hi with
    | 0, _ => exact alloc_new rfl rfl
    | 1, _ => exact alloc_new rfl rfl
    | 2, _ => exact alloc_new rfl rfl
    | 3, _ => exact alloc_new rfl rfl
    | i + 4, h => omega)

end Go.Proofs.Ytmojnopgpgnfeaa
