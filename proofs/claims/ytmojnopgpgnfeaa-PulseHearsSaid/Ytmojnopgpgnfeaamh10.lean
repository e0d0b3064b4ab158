/-
  PulseHears, walked.
-/
import Derived.Test.Ytmojnopgpgnfeaamh9
namespace Go.Proofs.Ytmojnopgpgnfeaa
open Go.RowKit
set_option linter.unusedVariables false
set_option linter.unusedSimpArgs false

theorem smret_is {w' : World} {w : World} {n : Nat} {zs : Nat → Smp} {v : Value} (h : (n = 0 ∧ v = .slice none 0 0) ∨ (1 ≤ n ∧ ∃ g c, v = .slice (some ⟨g, 0, none⟩) n c ∧ w.heap.size ≤ g ∧ g < w'.heap.size ∧ SmpsAt w' g 0 n zs)) : ∃ a c, v = .slice a n c ∧ SmpsIs w' a n zs := by
  rcases h with ⟨rfl, rfl⟩ | ⟨_, g, c, rfl, _, h2, h3⟩
  · exact ⟨none, 0, rfl, .inl rfl⟩
  · exact ⟨some ⟨g, 0, none⟩, c, rfl, .inr ⟨g, 0, rfl, h2, h3⟩⟩
set_option maxRecDepth 100000 in
set_option maxHeartbeats 16000000 in
theorem PulseHears_walk (l kd f s c lv ph n0 n1 : Int) (a : Option Addr) (n cap : Nat) (zs : Nat → Smp) (w : World) (hn : n ≤ maxLen) (hS : SmpsIs w a n zs) :
    Calls Try.prog 6 #[.agg #[.int .i64 l, .int .i64 kd, .int .i64 f, .int .i64 s, .int .i64 c], .agg #[.int .i64 lv, .int .i64 ph, .int .i64 n0, .int .i64 n1], .slice a n cap] w fun e w' => e = .returned (.bool true) ∧ Below w.heap.size w w' := by
  have hmaxl : maxLen = 9223372036854775807 := rfl
  have P0 := Lib.hid (TrB.new w l kd f s c lv ph n0 n1)
  obtain ⟨U, hU⟩ : ∃ U, U = ((w.alloc (.cells #[.int .i64 l, .int .i64 kd, .int .i64 f, .int .i64 s, .int .i64 c] 23)).alloc (.cells #[.int .i64 lv, .int .i64 ph, .int .i64 n0, .int .i64 n1] 27)) := ⟨_, rfl⟩
  rw [← hU] at P0
  by_cases h64 : 100 < n
  · have e1 : decide (100 < (n : Int)) = true := decide_eq_true (by omega)
    go_enter Try.func6, Try.ntmps6
    go_wp2_with fail
    rw [← hU]
    clear hU
    refine (works_any _).mono ?_; rintro e' X ⟨rfl, hb⟩
    go_wp2
    go_ret
    exact ⟨rfl, P0.out.b.trans (hb.mono P0.out.b.size)⟩
  have e1 : decide (100 < (n : Int)) = false := decide_eq_false (by omega)
  have hn1 : n ≤ 100 := by omega
  obtain ⟨E, hE⟩ : ∃ E, E = herE l kd f s c lv ph n0 n1 n zs := ⟨_, rfl⟩
  obtain ⟨g, hg⟩ : ∃ g, g = herV l kd f s c lv ph n0 n1 n zs := ⟨_, rfl⟩
  have HEG := Lib.hid (And.intro hE hg)
  have H1 : Hid (∀ W : World, Below w.heap.size w W → Calls Try.prog 27 #[.agg #[.int .i64 l, .int .i64 kd, .int .i64 f, .int .i64 s, .int .i64 c], .agg #[.int .i64 lv, .int .i64 ph, .int .i64 n0, .int .i64 n1], .slice a n cap] W fun e w' => e = .returned (.tuple #[.agg #[.int .i64 (g 0), .int .i64 (g 1), .int .i64 (g 2), .int .i64 (g 3), .int .i64 (g 4), .int .i64 (g 5), .int .i64 (g 6), .int .i64 (g 7), .int .i64 (g 8), .int .i64 (g 9), .int .i64 (g 10), .int .i64 (g 11), .int .i64 (g 12), .int .i64 (g 13)], .int .i64 E]) ∧ Below W.heap.size W w') := Lib.hid fun W hW => by rw [hE, hg]; exact Hear_any _ _ _ _ _ _ _ _ _ a n cap zs W (hS.keep hW)
  have HS0 := Lib.hid hS
  clear hE hg hS
  go_enter Try.func6, Try.ntmps6
  go_wp2_with fail
  rw [← hU]
  clear hU
  obtain ⟨c0, c1, c2, c3, c4, c5, c6, c7, c8, hz, hbw⟩ := P0.out
  refine (H1.out _ hbw).mono ?_; rintro e' X1 ⟨rfl, hb1⟩
  obtain ⟨V, hV⟩ : ∃ V, V = X1.alloc (.cells #[.int .i64 (g 0), .int .i64 (g 1), .int .i64 (g 2), .int .i64 (g 3), .int .i64 (g 4), .int .i64 (g 5), .int .i64 (g 6), .int .i64 (g 7), .int .i64 (g 8), .int .i64 (g 9), .int .i64 (g 10), .int .i64 (g 11), .int .i64 (g 12), .int .i64 (g 13)] 30) := ⟨_, rfl⟩
  have P1 := Lib.hid (P0.out.keep hb1)
  have bV : Below X1.heap.size X1 V := by rw [hV]; exact below_alloc _ _
  have PV := Lib.hid (P1.out.keep bV)
  have GV := Lib.hid (show EchB V X1.heap.size g by rw [hV]; exact EchB.new X1 g)
  have yV : X1.heap.size < V.heap.size := by rw [hV, World.size_alloc]; omega
  clear c0 c1 c2 c3 c4 c5 c6 c7 c8 hz hbw hb1 P0 bV H1
  obtain ⟨c0, c1, c2, c3, c4, c5, c6, c7, c8, hz, hbw⟩ := P1.out
  clear P1
  go_wp2_with fail
  rw [← hV]
  clear hV c0 c1 c2 c3 c4 c5 c6 c7 c8 hz hbw
  obtain ⟨c0, c1, c2, c3, c4, c5, c6, c7, c8, hz, hbw⟩ := PV.out
  have HS16 := Lib.hid (show (fun w' : World => w'.cell? ⟨w.heap.size, 0, none⟩ = some (.int .i64 l) ∧ w'.cell? ⟨w.heap.size, 1, none⟩ = some (.int .i64 kd) ∧ w'.cell? ⟨w.heap.size, 2, none⟩ = some (.int .i64 f) ∧ w'.cell? ⟨w.heap.size, 3, none⟩ = some (.int .i64 s) ∧ w'.cell? ⟨w.heap.size, 4, none⟩ = some (.int .i64 c) ∧ w'.cell? ⟨w.heap.size + 1, 0, none⟩ = some (.int .i64 lv) ∧ w'.cell? ⟨w.heap.size + 1, 1, none⟩ = some (.int .i64 ph) ∧ w'.cell? ⟨w.heap.size + 1, 2, none⟩ = some (.int .i64 n0) ∧ w'.cell? ⟨w.heap.size + 1, 3, none⟩ = some (.int .i64 n1) ∧ Below V.drew.heap.size V.drew w') V.drew from ⟨c0, c1, c2, c3, c4, c5, c6, c7, c8, Below.refl _ _⟩)
  have GD := Lib.hid (GV.out.keep (Below.refl V.heap.size V).drew)
  have bwD := Lib.hid (PV.out.b.drew)
  have tD : w.heap.size + 2 ≤ V.drew.heap.size := PV.out.z
  have HSA : Hid (∀ W : World, Below V.drew.heap.size V.drew W → Calls Try.prog 29 #[.slice a n cap] W (SmRet W n zs)) := Lib.hid fun W hW => samples_any a n cap zs W (by omega) (HS0.out.keep (PV.out.b.drew.trans (hW.mono PV.out.b.drew.size)))
  have e28 : ∀ w : World, (Op.equalIn 9999 28 (.agg #[.int .i64 (g 3), .int .i64 (g 4), .int .i64 (g 5), .int .i64 (g 6)]) (.agg #[.int .i64 (g 3), .int .i64 (g 4), .int .i64 (g 5), .int .i64 (g 6)])).run Try.prog w = .ok true w := fun w => by rw [eq28]; simp
  refine wp_region_held_tail (S := (fun w' : World => w'.cell? ⟨w.heap.size, 0, none⟩ = some (.int .i64 l) ∧ w'.cell? ⟨w.heap.size, 1, none⟩ = some (.int .i64 kd) ∧ w'.cell? ⟨w.heap.size, 2, none⟩ = some (.int .i64 f) ∧ w'.cell? ⟨w.heap.size, 3, none⟩ = some (.int .i64 s) ∧ w'.cell? ⟨w.heap.size, 4, none⟩ = some (.int .i64 c) ∧ w'.cell? ⟨w.heap.size + 1, 0, none⟩ = some (.int .i64 lv) ∧ w'.cell? ⟨w.heap.size + 1, 1, none⟩ = some (.int .i64 ph) ∧ w'.cell? ⟨w.heap.size + 1, 2, none⟩ = some (.int .i64 n0) ∧ w'.cell? ⟨w.heap.size + 1, 3, none⟩ = some (.int .i64 n1) ∧ Below V.drew.heap.size V.drew w')) 10 (by kernel_rfl) (by kernel_rfl) HS16.out (fun hHeld => ?_)
  clear HS16 c0 c1 c2 c3 c4 c5 c6 c7 c8 hz hbw PV GV yV
  obtain ⟨D, hD⟩ : ∃ D, D = V.drew := ⟨_, rfl⟩
  rw [← hD] at hHeld GD bwD tD HSA
  rw [← hD]
  clear hD
  refine wpAnyH_take (i := 0) (v := ?v0_1) rfl (by kernel_rfl) (by kernel_rfl) (by kernel_rfl) (fun _ _ _ h => h) (Or.inl ⟨by rfl, ?hy0_1⟩) (by assumption) ?rest0_1
  case hy0_1 => (intro w hSw; (try dsimp only at hSw); go_simp; (try with_reducible rfl))
  try simp only [Act.put, List.setIfInBounds_toArray, List.set_cons_zero, List.set_cons_succ]
  refine wpAnyH_take (i := 1) (v := ?v1_2) rfl (by kernel_rfl) (by kernel_rfl) (by kernel_rfl) (fun _ _ _ h => h) (Or.inl ⟨by rfl, ?hy1_2⟩) (by assumption) ?rest1_2
  case hy1_2 => (intro w hSw; (try dsimp only at hSw); go_simp; (try with_reducible rfl))
  try simp only [Act.put, List.setIfInBounds_toArray, List.set_cons_zero, List.set_cons_succ]
  refine wpAnyH_take (i := 2) (v := ?v2_3) rfl (by kernel_rfl) (by kernel_rfl) (by kernel_rfl) (fun _ _ _ h => h) (Or.inl ⟨by rfl, ?hy2_3⟩) (by assumption) ?rest2_3
  case hy2_3 => (intro w hSw; (try dsimp only at hSw); go_simp; (try with_reducible rfl))
  try simp only [Act.put, List.setIfInBounds_toArray, List.set_cons_zero, List.set_cons_succ]
  refine wpAnyH_ready (rs := [3, 8]) (by kernel_rfl) (by simp) ?_
  refine AllReadyH.cons rfl (fun K hK => ?_) (AllReadyH.cons rfl (fun K hK => ?_) AllReadyH.nil)
  · skip
    go_simp
    refine (HSA.out _ hHeld.2.2.2.2.2.2.2.2.2).mono ?_; rintro e' w1 ⟨v, rfl, hv, hb_w1⟩
    obtain ⟨a', c', rfl, hsm⟩ := smret_is hv
    have H28 : Hid (∀ W : World, Below w1.heap.size w1 W → Calls Try.prog 28 #[.agg #[.int .i64 l, .int .i64 kd, .int .i64 f, .int .i64 s, .int .i64 c], .agg #[.int .i64 lv, .int .i64 ph, .int .i64 n0, .int .i64 n1], .slice a' n c'] W fun e w' => e = .returned (.tuple #[.agg #[.int .i64 (g 0), .int .i64 (g 1), .int .i64 (g 2), .int .i64 (g 3), .int .i64 (g 4), .int .i64 (g 5), .int .i64 (g 6), .int .i64 (g 7), .int .i64 (g 8), .int .i64 (g 9), .int .i64 (g 10), .int .i64 (g 11), .int .i64 (g 12), .int .i64 (g 13)], .int .i64 E]) ∧ Below W.heap.size W w') := Lib.hid fun W hW => by rw [HEG.out.1, HEG.out.2]; exact refHear_any l kd f s c lv ph n0 n1 a' n c' zs W hn1 (hsm.keep hW)
    clear hv hsm
    refine hK.out _ _ (⟨keepW hb_w1 hHeld.1, keepW hb_w1 hHeld.2.1, keepW hb_w1 hHeld.2.2.1, keepW hb_w1 hHeld.2.2.2.1, keepW hb_w1 hHeld.2.2.2.2.1, keepW hb_w1 hHeld.2.2.2.2.2.1, keepW hb_w1 hHeld.2.2.2.2.2.2.1, keepW hb_w1 hHeld.2.2.2.2.2.2.2.1, keepW hb_w1 hHeld.2.2.2.2.2.2.2.2.1, hHeld.2.2.2.2.2.2.2.2.2.trans (hb_w1.mono hHeld.2.2.2.2.2.2.2.2.2.size)⟩) (fun hHeld => ?_)
    clear hK K
    try simp only [Act.put, List.setIfInBounds_toArray, List.set_cons_zero, List.set_cons_succ]
    refine wpAnyH_ready (rs := [4, 8]) (by kernel_rfl) (by simp) ?_
    refine AllReadyH.cons rfl (fun K hK => ?_) (AllReadyH.cons rfl (fun K hK => ?_) AllReadyH.nil)
    · skip
      go_simp
      refine (H28.out _ (Below.refl _ _)).mono ?_; rintro e' w2 ⟨rfl, hb_w2⟩
      refine hK.out _ _ (⟨keepW hb_w2 hHeld.1, keepW hb_w2 hHeld.2.1, keepW hb_w2 hHeld.2.2.1, keepW hb_w2 hHeld.2.2.2.1, keepW hb_w2 hHeld.2.2.2.2.1, keepW hb_w2 hHeld.2.2.2.2.2.1, keepW hb_w2 hHeld.2.2.2.2.2.2.1, keepW hb_w2 hHeld.2.2.2.2.2.2.2.1, keepW hb_w2 hHeld.2.2.2.2.2.2.2.2.1, hHeld.2.2.2.2.2.2.2.2.2.trans (hb_w2.mono hHeld.2.2.2.2.2.2.2.2.2.size)⟩) (fun hHeld => ?_)
      clear hK K
      try simp only [Act.put, List.setIfInBounds_toArray, List.set_cons_zero, List.set_cons_succ]
      refine wpAnyH_take (i := 5) (v := ?v5_4) rfl (by kernel_rfl) (by kernel_rfl) (by kernel_rfl) (fun _ _ _ h => h) (Or.inl ⟨by rfl, ?hy5_4⟩) (by assumption) ?rest5_4
      case hy5_4 => (intro w hSw; (try dsimp only at hSw); go_simp; (try with_reducible rfl))
      try simp only [Act.put, List.setIfInBounds_toArray, List.set_cons_zero, List.set_cons_succ]
      refine wpAnyH_take (i := 6) (v := ?v6_5) rfl (by kernel_rfl) (by kernel_rfl) (by kernel_rfl) (fun _ _ _ h => h) (Or.inl ⟨by rfl, ?hy6_5⟩) (by assumption) ?rest6_5
      case hy6_5 => (intro w hSw; (try dsimp only at hSw); go_simp; (try with_reducible rfl))
      try simp only [Act.put, List.setIfInBounds_toArray, List.set_cons_zero, List.set_cons_succ]
      refine wpAnyH_take (i := 7) (v := ?v7_6) rfl (by kernel_rfl) (by kernel_rfl) (by kernel_rfl) (fun _ _ _ h => h) (Or.inl ⟨by rfl, ?hy7_6⟩) (by assumption) ?rest7_6
      case hy7_6 => (intro w hSw; (try dsimp only at hSw); go_simp; (try with_reducible rfl))
      try simp only [Act.put, List.setIfInBounds_toArray, List.set_cons_zero, List.set_cons_succ]
      refine wpAnyH_ready (rs := [8]) (by kernel_rfl) (by simp) ?_
      refine AllReadyH.cons rfl (fun K hK => ?_) AllReadyH.nil
      go_simp
      have hb_E0 : Below w2.heap.size w2 (w2.alloc (.cells #[.int .i64 0, .int .i64 0, .int .i64 0, .int .i64 0, .int .i64 0, .int .i64 0, .int .i64 0, .int .i64 0, .int .i64 0, .int .i64 0, .int .i64 0, .int .i64 0, .int .i64 0, .int .i64 0] 30)) := below_alloc _ _
      have r : EchoG (w2.alloc (.cells #[.int .i64 0, .int .i64 0, .int .i64 0, .int .i64 0, .int .i64 0, .int .i64 0, .int .i64 0, .int .i64 0, .int .i64 0, .int .i64 0, .int .i64 0, .int .i64 0, .int .i64 0, .int .i64 0] 30)) w2.heap.size (fun _ => 0) := EchoG.new w2 (fun _ => 0) 30
      have z_E0 : w2.heap.size < (w2.alloc (.cells #[.int .i64 0, .int .i64 0, .int .i64 0, .int .i64 0, .int .i64 0, .int .i64 0, .int .i64 0, .int .i64 0, .int .i64 0, .int .i64 0, .int .i64 0, .int .i64 0, .int .i64 0, .int .i64 0] 30)).heap.size := by rw [World.size_alloc]; omega
      have q_E0 : D.heap.size ≤ w2.heap.size := hHeld.2.2.2.2.2.2.2.2.2.size
      obtain ⟨E0, hE0⟩ : ∃ E, E = w2.alloc (.cells #[.int .i64 0, .int .i64 0, .int .i64 0, .int .i64 0, .int .i64 0, .int .i64 0, .int .i64 0, .int .i64 0, .int .i64 0, .int .i64 0, .int .i64 0, .int .i64 0, .int .i64 0, .int .i64 0] 30) := ⟨_, rfl⟩
      rw [← hE0] at hb_E0 r z_E0 ⊢
      refine hK.out _ _ (⟨keepW hb_E0 hHeld.1, keepW hb_E0 hHeld.2.1, keepW hb_E0 hHeld.2.2.1, keepW hb_E0 hHeld.2.2.2.1, keepW hb_E0 hHeld.2.2.2.2.1, keepW hb_E0 hHeld.2.2.2.2.2.1, keepW hb_E0 hHeld.2.2.2.2.2.2.1, keepW hb_E0 hHeld.2.2.2.2.2.2.2.1, keepW hb_E0 hHeld.2.2.2.2.2.2.2.2.1, hHeld.2.2.2.2.2.2.2.2.2.trans (hb_E0.mono hHeld.2.2.2.2.2.2.2.2.2.size)⟩) (fun hHeld => ?_)
      clear hK K hE0
      try simp only [Act.put, List.setIfInBounds_toArray, List.set_cons_zero, List.set_cons_succ]
      have HO := Lib.hid r
      have oc0 := HO.out.c 0 (by decide)
      have of0 := HO.out.f 0 (by decide)
      have oc1 := HO.out.c 1 (by decide)
      have of1 := HO.out.f 1 (by decide)
      have oc2 := HO.out.c 2 (by decide)
      have of2 := HO.out.f 2 (by decide)
      have oc3 := HO.out.c 3 (by decide)
      have of3 := HO.out.f 3 (by decide)
      have oc4 := HO.out.c 4 (by decide)
      have of4 := HO.out.f 4 (by decide)
      have oc5 := HO.out.c 5 (by decide)
      have of5 := HO.out.f 5 (by decide)
      have oc6 := HO.out.c 6 (by decide)
      have of6 := HO.out.f 6 (by decide)
      have oc7 := HO.out.c 7 (by decide)
      have of7 := HO.out.f 7 (by decide)
      have oc8 := HO.out.c 8 (by decide)
      have of8 := HO.out.f 8 (by decide)
      have oc9 := HO.out.c 9 (by decide)
      have of9 := HO.out.f 9 (by decide)
      have oc10 := HO.out.c 10 (by decide)
      have of10 := HO.out.f 10 (by decide)
      have oc11 := HO.out.c 11 (by decide)
      have of11 := HO.out.f 11 (by decide)
      have oc12 := HO.out.c 12 (by decide)
      have of12 := HO.out.f 12 (by decide)
      have oc13 := HO.out.c 13 (by decide)
      have of13 := HO.out.f 13 (by decide)
      have hqD : D.heap.size ≤ w2.heap.size := q_E0
      have hqE : w2.heap.size < E0.heap.size := z_E0
      clear r q_E0 z_E0
      refine wpAnyH_ready (rs := [9]) (by kernel_rfl) (by simp) ?_
      refine AllReadyH.cons rfl (fun K hK => ?_) AllReadyH.nil
      go_simp
      have bS : Below w2.heap.size E0 ((((((((((((((E0.setCell ⟨w2.heap.size, 0, none⟩ (.int .i64 (g 0))).setCell ⟨w2.heap.size, 1, none⟩ (.int .i64 (g 1))).setCell ⟨w2.heap.size, 2, none⟩ (.int .i64 (g 2))).setCell ⟨w2.heap.size, 3, none⟩ (.int .i64 (g 3))).setCell ⟨w2.heap.size, 4, none⟩ (.int .i64 (g 4))).setCell ⟨w2.heap.size, 5, none⟩ (.int .i64 (g 5))).setCell ⟨w2.heap.size, 6, none⟩ (.int .i64 (g 6))).setCell ⟨w2.heap.size, 7, none⟩ (.int .i64 (g 7))).setCell ⟨w2.heap.size, 8, none⟩ (.int .i64 (g 8))).setCell ⟨w2.heap.size, 9, none⟩ (.int .i64 (g 9))).setCell ⟨w2.heap.size, 10, none⟩ (.int .i64 (g 10))).setCell ⟨w2.heap.size, 11, none⟩ (.int .i64 (g 11))).setCell ⟨w2.heap.size, 12, none⟩ (.int .i64 (g 12))).setCell ⟨w2.heap.size, 13, none⟩ (.int .i64 (g 13))) := (((((((((((((((Below.refl w2.heap.size E0).setCell (p := ⟨w2.heap.size, 0, none⟩) (by dsimp only; omega) _).setCell (p := ⟨w2.heap.size, 1, none⟩) (by dsimp only; omega) _).setCell (p := ⟨w2.heap.size, 2, none⟩) (by dsimp only; omega) _).setCell (p := ⟨w2.heap.size, 3, none⟩) (by dsimp only; omega) _).setCell (p := ⟨w2.heap.size, 4, none⟩) (by dsimp only; omega) _).setCell (p := ⟨w2.heap.size, 5, none⟩) (by dsimp only; omega) _).setCell (p := ⟨w2.heap.size, 6, none⟩) (by dsimp only; omega) _).setCell (p := ⟨w2.heap.size, 7, none⟩) (by dsimp only; omega) _).setCell (p := ⟨w2.heap.size, 8, none⟩) (by dsimp only; omega) _).setCell (p := ⟨w2.heap.size, 9, none⟩) (by dsimp only; omega) _).setCell (p := ⟨w2.heap.size, 10, none⟩) (by dsimp only; omega) _).setCell (p := ⟨w2.heap.size, 11, none⟩) (by dsimp only; omega) _).setCell (p := ⟨w2.heap.size, 12, none⟩) (by dsimp only; omega) _).setCell (p := ⟨w2.heap.size, 13, none⟩) (by dsimp only; omega) _)
      have bD : Below D.heap.size D ((((((((((((((E0.setCell ⟨w2.heap.size, 0, none⟩ (.int .i64 (g 0))).setCell ⟨w2.heap.size, 1, none⟩ (.int .i64 (g 1))).setCell ⟨w2.heap.size, 2, none⟩ (.int .i64 (g 2))).setCell ⟨w2.heap.size, 3, none⟩ (.int .i64 (g 3))).setCell ⟨w2.heap.size, 4, none⟩ (.int .i64 (g 4))).setCell ⟨w2.heap.size, 5, none⟩ (.int .i64 (g 5))).setCell ⟨w2.heap.size, 6, none⟩ (.int .i64 (g 6))).setCell ⟨w2.heap.size, 7, none⟩ (.int .i64 (g 7))).setCell ⟨w2.heap.size, 8, none⟩ (.int .i64 (g 8))).setCell ⟨w2.heap.size, 9, none⟩ (.int .i64 (g 9))).setCell ⟨w2.heap.size, 10, none⟩ (.int .i64 (g 10))).setCell ⟨w2.heap.size, 11, none⟩ (.int .i64 (g 11))).setCell ⟨w2.heap.size, 12, none⟩ (.int .i64 (g 12))).setCell ⟨w2.heap.size, 13, none⟩ (.int .i64 (g 13))) := ((((((((((((((hHeld.2.2.2.2.2.2.2.2.2.setCell (p := ⟨w2.heap.size, 0, none⟩) (by dsimp only; omega) _).setCell (p := ⟨w2.heap.size, 1, none⟩) (by dsimp only; omega) _).setCell (p := ⟨w2.heap.size, 2, none⟩) (by dsimp only; omega) _).setCell (p := ⟨w2.heap.size, 3, none⟩) (by dsimp only; omega) _).setCell (p := ⟨w2.heap.size, 4, none⟩) (by dsimp only; omega) _).setCell (p := ⟨w2.heap.size, 5, none⟩) (by dsimp only; omega) _).setCell (p := ⟨w2.heap.size, 6, none⟩) (by dsimp only; omega) _).setCell (p := ⟨w2.heap.size, 7, none⟩) (by dsimp only; omega) _).setCell (p := ⟨w2.heap.size, 8, none⟩) (by dsimp only; omega) _).setCell (p := ⟨w2.heap.size, 9, none⟩) (by dsimp only; omega) _).setCell (p := ⟨w2.heap.size, 10, none⟩) (by dsimp only; omega) _).setCell (p := ⟨w2.heap.size, 11, none⟩) (by dsimp only; omega) _).setCell (p := ⟨w2.heap.size, 12, none⟩) (by dsimp only; omega) _).setCell (p := ⟨w2.heap.size, 13, none⟩) (by dsimp only; omega) _)
      have EZ := ((((((((((((((HO.out.set (k := 0) (v := g 0)).set (k := 1) (v := g 1)).set (k := 2) (v := g 2)).set (k := 3) (v := g 3)).set (k := 4) (v := g 4)).set (k := 5) (v := g 5)).set (k := 6) (v := g 6)).set (k := 7) (v := g 7)).set (k := 8) (v := g 8)).set (k := 9) (v := g 9)).set (k := 10) (v := g 10)).set (k := 11) (v := g 11)).set (k := 12) (v := g 12)).set (k := 13) (v := g 13))
      have hH2 := Lib.hid (show (fun w' : World => w'.cell? ⟨w.heap.size, 0, none⟩ = some (.int .i64 l) ∧ w'.cell? ⟨w.heap.size, 1, none⟩ = some (.int .i64 kd) ∧ w'.cell? ⟨w.heap.size, 2, none⟩ = some (.int .i64 f) ∧ w'.cell? ⟨w.heap.size, 3, none⟩ = some (.int .i64 s) ∧ w'.cell? ⟨w.heap.size, 4, none⟩ = some (.int .i64 c) ∧ w'.cell? ⟨w.heap.size + 1, 0, none⟩ = some (.int .i64 lv) ∧ w'.cell? ⟨w.heap.size + 1, 1, none⟩ = some (.int .i64 ph) ∧ w'.cell? ⟨w.heap.size + 1, 2, none⟩ = some (.int .i64 n0) ∧ w'.cell? ⟨w.heap.size + 1, 3, none⟩ = some (.int .i64 n1) ∧ Below D.heap.size D w') ((((((((((((((E0.setCell ⟨w2.heap.size, 0, none⟩ (.int .i64 (g 0))).setCell ⟨w2.heap.size, 1, none⟩ (.int .i64 (g 1))).setCell ⟨w2.heap.size, 2, none⟩ (.int .i64 (g 2))).setCell ⟨w2.heap.size, 3, none⟩ (.int .i64 (g 3))).setCell ⟨w2.heap.size, 4, none⟩ (.int .i64 (g 4))).setCell ⟨w2.heap.size, 5, none⟩ (.int .i64 (g 5))).setCell ⟨w2.heap.size, 6, none⟩ (.int .i64 (g 6))).setCell ⟨w2.heap.size, 7, none⟩ (.int .i64 (g 7))).setCell ⟨w2.heap.size, 8, none⟩ (.int .i64 (g 8))).setCell ⟨w2.heap.size, 9, none⟩ (.int .i64 (g 9))).setCell ⟨w2.heap.size, 10, none⟩ (.int .i64 (g 10))).setCell ⟨w2.heap.size, 11, none⟩ (.int .i64 (g 11))).setCell ⟨w2.heap.size, 12, none⟩ (.int .i64 (g 12))).setCell ⟨w2.heap.size, 13, none⟩ (.int .i64 (g 13))) from ⟨keepB bS (by omega) hHeld.1, keepB bS (by omega) hHeld.2.1, keepB bS (by omega) hHeld.2.2.1, keepB bS (by omega) hHeld.2.2.2.1, keepB bS (by omega) hHeld.2.2.2.2.1, keepB bS (by omega) hHeld.2.2.2.2.2.1, keepB bS (by omega) hHeld.2.2.2.2.2.2.1, keepB bS (by omega) hHeld.2.2.2.2.2.2.2.1, keepB bS (by omega) hHeld.2.2.2.2.2.2.2.2.1, bD⟩)
      obtain ⟨Z, hZ⟩ : ∃ Z, Z = ((((((((((((((E0.setCell ⟨w2.heap.size, 0, none⟩ (.int .i64 (g 0))).setCell ⟨w2.heap.size, 1, none⟩ (.int .i64 (g 1))).setCell ⟨w2.heap.size, 2, none⟩ (.int .i64 (g 2))).setCell ⟨w2.heap.size, 3, none⟩ (.int .i64 (g 3))).setCell ⟨w2.heap.size, 4, none⟩ (.int .i64 (g 4))).setCell ⟨w2.heap.size, 5, none⟩ (.int .i64 (g 5))).setCell ⟨w2.heap.size, 6, none⟩ (.int .i64 (g 6))).setCell ⟨w2.heap.size, 7, none⟩ (.int .i64 (g 7))).setCell ⟨w2.heap.size, 8, none⟩ (.int .i64 (g 8))).setCell ⟨w2.heap.size, 9, none⟩ (.int .i64 (g 9))).setCell ⟨w2.heap.size, 10, none⟩ (.int .i64 (g 10))).setCell ⟨w2.heap.size, 11, none⟩ (.int .i64 (g 11))).setCell ⟨w2.heap.size, 12, none⟩ (.int .i64 (g 12))).setCell ⟨w2.heap.size, 13, none⟩ (.int .i64 (g 13))) := ⟨_, rfl⟩
      rw [← hZ] at bD EZ hH2 ⊢
      have GN := Lib.hid (show EchB Z (w2.heap.size) g from ⟨EZ.c 0 (by decide), EZ.c 1 (by decide), EZ.c 2 (by decide), EZ.c 3 (by decide), EZ.c 4 (by decide), EZ.c 5 (by decide), EZ.c 6 (by decide), EZ.c 7 (by decide), EZ.c 8 (by decide), EZ.c 9 (by decide), EZ.c 10 (by decide), EZ.c 11 (by decide), EZ.c 12 (by decide), EZ.c 13 (by decide)⟩)
      clear oc0 of0 oc1 of1 oc2 of2 oc3 of3 oc4 of4 oc5 of5 oc6 of6 oc7 of7 oc8 of8 oc9 of9 oc10 of10 oc11 of11 oc12 of12 oc13 of13 hZ bS EZ hHeld
      refine hK.out _ _ hH2.out (fun hHeld => ?_)
      clear hK K
      try simp only [Act.put, List.setIfInBounds_toArray, List.set_cons_zero, List.set_cons_succ]
      refine wpAnyH_done (by kernel_rfl) ?_ _
      change wpList _ _ _ _ _ _
      simp only [List.drop_succ_cons, List.drop_zero]
      clear hHeld hH2
      have G3 := Lib.hid (GD.out.keep bD)
      have bw3 := Lib.hid (bwD.out.trans (bD.mono bwD.out.size))
      clear bD
      obtain ⟨f0, f1, f2, f3, f4, f5, f6, f7, f8, f9, f10, f11, f12, f13⟩ := G3.out
      obtain ⟨h0, h1, h2, h3, h4, h5, h6, h7, h8, h9, h10, h11, h12, h13⟩ := GN.out
      go_wp2_with fail
      refine (works_any _).mono ?_; rintro e' X ⟨rfl, hb⟩
      go_wp2
      go_ret
      exact ⟨rfl, bw3.out.trans (hb.mono bw3.out.size)⟩
    · skip
      go_simp
      have hb_E0 : Below w1.heap.size w1 (w1.alloc (.cells #[.int .i64 0, .int .i64 0, .int .i64 0, .int .i64 0, .int .i64 0, .int .i64 0, .int .i64 0, .int .i64 0, .int .i64 0, .int .i64 0, .int .i64 0, .int .i64 0, .int .i64 0, .int .i64 0] 30)) := below_alloc _ _
      have r : EchoG (w1.alloc (.cells #[.int .i64 0, .int .i64 0, .int .i64 0, .int .i64 0, .int .i64 0, .int .i64 0, .int .i64 0, .int .i64 0, .int .i64 0, .int .i64 0, .int .i64 0, .int .i64 0, .int .i64 0, .int .i64 0] 30)) w1.heap.size (fun _ => 0) := EchoG.new w1 (fun _ => 0) 30
      have z_E0 : w1.heap.size < (w1.alloc (.cells #[.int .i64 0, .int .i64 0, .int .i64 0, .int .i64 0, .int .i64 0, .int .i64 0, .int .i64 0, .int .i64 0, .int .i64 0, .int .i64 0, .int .i64 0, .int .i64 0, .int .i64 0, .int .i64 0] 30)).heap.size := by rw [World.size_alloc]; omega
      have q_E0 : D.heap.size ≤ w1.heap.size := hHeld.2.2.2.2.2.2.2.2.2.size
      obtain ⟨E0, hE0⟩ : ∃ E, E = w1.alloc (.cells #[.int .i64 0, .int .i64 0, .int .i64 0, .int .i64 0, .int .i64 0, .int .i64 0, .int .i64 0, .int .i64 0, .int .i64 0, .int .i64 0, .int .i64 0, .int .i64 0, .int .i64 0, .int .i64 0] 30) := ⟨_, rfl⟩
      rw [← hE0] at hb_E0 r z_E0 ⊢
      refine hK.out _ _ (⟨keepW hb_E0 hHeld.1, keepW hb_E0 hHeld.2.1, keepW hb_E0 hHeld.2.2.1, keepW hb_E0 hHeld.2.2.2.1, keepW hb_E0 hHeld.2.2.2.2.1, keepW hb_E0 hHeld.2.2.2.2.2.1, keepW hb_E0 hHeld.2.2.2.2.2.2.1, keepW hb_E0 hHeld.2.2.2.2.2.2.2.1, keepW hb_E0 hHeld.2.2.2.2.2.2.2.2.1, hHeld.2.2.2.2.2.2.2.2.2.trans (hb_E0.mono hHeld.2.2.2.2.2.2.2.2.2.size)⟩) (fun hHeld => ?_)
      clear hK K hE0
      try simp only [Act.put, List.setIfInBounds_toArray, List.set_cons_zero, List.set_cons_succ]
      refine wpAnyH_ready (rs := [4]) (by kernel_rfl) (by simp) ?_
      refine AllReadyH.cons rfl (fun K hK => ?_) AllReadyH.nil
      go_simp
      refine (H28.out _ hb_E0).mono ?_; rintro e' w2 ⟨rfl, hb_w2⟩
      refine hK.out _ _ (⟨keepW hb_w2 hHeld.1, keepW hb_w2 hHeld.2.1, keepW hb_w2 hHeld.2.2.1, keepW hb_w2 hHeld.2.2.2.1, keepW hb_w2 hHeld.2.2.2.2.1, keepW hb_w2 hHeld.2.2.2.2.2.1, keepW hb_w2 hHeld.2.2.2.2.2.2.1, keepW hb_w2 hHeld.2.2.2.2.2.2.2.1, keepW hb_w2 hHeld.2.2.2.2.2.2.2.2.1, hHeld.2.2.2.2.2.2.2.2.2.trans (hb_w2.mono hHeld.2.2.2.2.2.2.2.2.2.size)⟩) (fun hHeld => ?_)
      clear hK K
      try simp only [Act.put, List.setIfInBounds_toArray, List.set_cons_zero, List.set_cons_succ]
      have r := r.keep hb_w2 z_E0
      have z_E0 := Nat.lt_of_lt_of_le z_E0 hb_w2.size
      refine wpAnyH_take (i := 5) (v := ?v5_7) rfl (by kernel_rfl) (by kernel_rfl) (by kernel_rfl) (fun _ _ _ h => h) (Or.inl ⟨by rfl, ?hy5_7⟩) (by assumption) ?rest5_7
      case hy5_7 => (intro w hSw; (try dsimp only at hSw); go_simp; (try with_reducible rfl))
      try simp only [Act.put, List.setIfInBounds_toArray, List.set_cons_zero, List.set_cons_succ]
      refine wpAnyH_take (i := 6) (v := ?v6_8) rfl (by kernel_rfl) (by kernel_rfl) (by kernel_rfl) (fun _ _ _ h => h) (Or.inl ⟨by rfl, ?hy6_8⟩) (by assumption) ?rest6_8
      case hy6_8 => (intro w hSw; (try dsimp only at hSw); go_simp; (try with_reducible rfl))
      try simp only [Act.put, List.setIfInBounds_toArray, List.set_cons_zero, List.set_cons_succ]
      refine wpAnyH_take (i := 7) (v := ?v7_9) rfl (by kernel_rfl) (by kernel_rfl) (by kernel_rfl) (fun _ _ _ h => h) (Or.inl ⟨by rfl, ?hy7_9⟩) (by assumption) ?rest7_9
      case hy7_9 => (intro w hSw; (try dsimp only at hSw); go_simp; (try with_reducible rfl))
      try simp only [Act.put, List.setIfInBounds_toArray, List.set_cons_zero, List.set_cons_succ]
      have HO := Lib.hid r
      have oc0 := HO.out.c 0 (by decide)
      have of0 := HO.out.f 0 (by decide)
      have oc1 := HO.out.c 1 (by decide)
      have of1 := HO.out.f 1 (by decide)
      have oc2 := HO.out.c 2 (by decide)
      have of2 := HO.out.f 2 (by decide)
      have oc3 := HO.out.c 3 (by decide)
      have of3 := HO.out.f 3 (by decide)
      have oc4 := HO.out.c 4 (by decide)
      have of4 := HO.out.f 4 (by decide)
      have oc5 := HO.out.c 5 (by decide)
      have of5 := HO.out.f 5 (by decide)
      have oc6 := HO.out.c 6 (by decide)
      have of6 := HO.out.f 6 (by decide)
      have oc7 := HO.out.c 7 (by decide)
      have of7 := HO.out.f 7 (by decide)
      have oc8 := HO.out.c 8 (by decide)
      have of8 := HO.out.f 8 (by decide)
      have oc9 := HO.out.c 9 (by decide)
      have of9 := HO.out.f 9 (by decide)
      have oc10 := HO.out.c 10 (by decide)
      have of10 := HO.out.f 10 (by decide)
      have oc11 := HO.out.c 11 (by decide)
      have of11 := HO.out.f 11 (by decide)
      have oc12 := HO.out.c 12 (by decide)
      have of12 := HO.out.f 12 (by decide)
      have oc13 := HO.out.c 13 (by decide)
      have of13 := HO.out.f 13 (by decide)
      have hqD : D.heap.size ≤ w1.heap.size := q_E0
      have hqE : w1.heap.size < w2.heap.size := z_E0
      clear r q_E0 z_E0
      refine wpAnyH_ready (rs := [9]) (by kernel_rfl) (by simp) ?_
      refine AllReadyH.cons rfl (fun K hK => ?_) AllReadyH.nil
      go_simp
      have bS : Below w1.heap.size w2 ((((((((((((((w2.setCell ⟨w1.heap.size, 0, none⟩ (.int .i64 (g 0))).setCell ⟨w1.heap.size, 1, none⟩ (.int .i64 (g 1))).setCell ⟨w1.heap.size, 2, none⟩ (.int .i64 (g 2))).setCell ⟨w1.heap.size, 3, none⟩ (.int .i64 (g 3))).setCell ⟨w1.heap.size, 4, none⟩ (.int .i64 (g 4))).setCell ⟨w1.heap.size, 5, none⟩ (.int .i64 (g 5))).setCell ⟨w1.heap.size, 6, none⟩ (.int .i64 (g 6))).setCell ⟨w1.heap.size, 7, none⟩ (.int .i64 (g 7))).setCell ⟨w1.heap.size, 8, none⟩ (.int .i64 (g 8))).setCell ⟨w1.heap.size, 9, none⟩ (.int .i64 (g 9))).setCell ⟨w1.heap.size, 10, none⟩ (.int .i64 (g 10))).setCell ⟨w1.heap.size, 11, none⟩ (.int .i64 (g 11))).setCell ⟨w1.heap.size, 12, none⟩ (.int .i64 (g 12))).setCell ⟨w1.heap.size, 13, none⟩ (.int .i64 (g 13))) := (((((((((((((((Below.refl w1.heap.size w2).setCell (p := ⟨w1.heap.size, 0, none⟩) (by dsimp only; omega) _).setCell (p := ⟨w1.heap.size, 1, none⟩) (by dsimp only; omega) _).setCell (p := ⟨w1.heap.size, 2, none⟩) (by dsimp only; omega) _).setCell (p := ⟨w1.heap.size, 3, none⟩) (by dsimp only; omega) _).setCell (p := ⟨w1.heap.size, 4, none⟩) (by dsimp only; omega) _).setCell (p := ⟨w1.heap.size, 5, none⟩) (by dsimp only; omega) _).setCell (p := ⟨w1.heap.size, 6, none⟩) (by dsimp only; omega) _).setCell (p := ⟨w1.heap.size, 7, none⟩) (by dsimp only; omega) _).setCell (p := ⟨w1.heap.size, 8, none⟩) (by dsimp only; omega) _).setCell (p := ⟨w1.heap.size, 9, none⟩) (by dsimp only; omega) _).setCell (p := ⟨w1.heap.size, 10, none⟩) (by dsimp only; omega) _).setCell (p := ⟨w1.heap.size, 11, none⟩) (by dsimp only; omega) _).setCell (p := ⟨w1.heap.size, 12, none⟩) (by dsimp only; omega) _).setCell (p := ⟨w1.heap.size, 13, none⟩) (by dsimp only; omega) _)
      have bD : Below D.heap.size D ((((((((((((((w2.setCell ⟨w1.heap.size, 0, none⟩ (.int .i64 (g 0))).setCell ⟨w1.heap.size, 1, none⟩ (.int .i64 (g 1))).setCell ⟨w1.heap.size, 2, none⟩ (.int .i64 (g 2))).setCell ⟨w1.heap.size, 3, none⟩ (.int .i64 (g 3))).setCell ⟨w1.heap.size, 4, none⟩ (.int .i64 (g 4))).setCell ⟨w1.heap.size, 5, none⟩ (.int .i64 (g 5))).setCell ⟨w1.heap.size, 6, none⟩ (.int .i64 (g 6))).setCell ⟨w1.heap.size, 7, none⟩ (.int .i64 (g 7))).setCell ⟨w1.heap.size, 8, none⟩ (.int .i64 (g 8))).setCell ⟨w1.heap.size, 9, none⟩ (.int .i64 (g 9))).setCell ⟨w1.heap.size, 10, none⟩ (.int .i64 (g 10))).setCell ⟨w1.heap.size, 11, none⟩ (.int .i64 (g 11))).setCell ⟨w1.heap.size, 12, none⟩ (.int .i64 (g 12))).setCell ⟨w1.heap.size, 13, none⟩ (.int .i64 (g 13))) := ((((((((((((((hHeld.2.2.2.2.2.2.2.2.2.setCell (p := ⟨w1.heap.size, 0, none⟩) (by dsimp only; omega) _).setCell (p := ⟨w1.heap.size, 1, none⟩) (by dsimp only; omega) _).setCell (p := ⟨w1.heap.size, 2, none⟩) (by dsimp only; omega) _).setCell (p := ⟨w1.heap.size, 3, none⟩) (by dsimp only; omega) _).setCell (p := ⟨w1.heap.size, 4, none⟩) (by dsimp only; omega) _).setCell (p := ⟨w1.heap.size, 5, none⟩) (by dsimp only; omega) _).setCell (p := ⟨w1.heap.size, 6, none⟩) (by dsimp only; omega) _).setCell (p := ⟨w1.heap.size, 7, none⟩) (by dsimp only; omega) _).setCell (p := ⟨w1.heap.size, 8, none⟩) (by dsimp only; omega) _).setCell (p := ⟨w1.heap.size, 9, none⟩) (by dsimp only; omega) _).setCell (p := ⟨w1.heap.size, 10, none⟩) (by dsimp only; omega) _).setCell (p := ⟨w1.heap.size, 11, none⟩) (by dsimp only; omega) _).setCell (p := ⟨w1.heap.size, 12, none⟩) (by dsimp only; omega) _).setCell (p := ⟨w1.heap.size, 13, none⟩) (by dsimp only; omega) _)
      have EZ := ((((((((((((((HO.out.set (k := 0) (v := g 0)).set (k := 1) (v := g 1)).set (k := 2) (v := g 2)).set (k := 3) (v := g 3)).set (k := 4) (v := g 4)).set (k := 5) (v := g 5)).set (k := 6) (v := g 6)).set (k := 7) (v := g 7)).set (k := 8) (v := g 8)).set (k := 9) (v := g 9)).set (k := 10) (v := g 10)).set (k := 11) (v := g 11)).set (k := 12) (v := g 12)).set (k := 13) (v := g 13))
      have hH2 := Lib.hid (show (fun w' : World => w'.cell? ⟨w.heap.size, 0, none⟩ = some (.int .i64 l) ∧ w'.cell? ⟨w.heap.size, 1, none⟩ = some (.int .i64 kd) ∧ w'.cell? ⟨w.heap.size, 2, none⟩ = some (.int .i64 f) ∧ w'.cell? ⟨w.heap.size, 3, none⟩ = some (.int .i64 s) ∧ w'.cell? ⟨w.heap.size, 4, none⟩ = some (.int .i64 c) ∧ w'.cell? ⟨w.heap.size + 1, 0, none⟩ = some (.int .i64 lv) ∧ w'.cell? ⟨w.heap.size + 1, 1, none⟩ = some (.int .i64 ph) ∧ w'.cell? ⟨w.heap.size + 1, 2, none⟩ = some (.int .i64 n0) ∧ w'.cell? ⟨w.heap.size + 1, 3, none⟩ = some (.int .i64 n1) ∧ Below D.heap.size D w') ((((((((((((((w2.setCell ⟨w1.heap.size, 0, none⟩ (.int .i64 (g 0))).setCell ⟨w1.heap.size, 1, none⟩ (.int .i64 (g 1))).setCell ⟨w1.heap.size, 2, none⟩ (.int .i64 (g 2))).setCell ⟨w1.heap.size, 3, none⟩ (.int .i64 (g 3))).setCell ⟨w1.heap.size, 4, none⟩ (.int .i64 (g 4))).setCell ⟨w1.heap.size, 5, none⟩ (.int .i64 (g 5))).setCell ⟨w1.heap.size, 6, none⟩ (.int .i64 (g 6))).setCell ⟨w1.heap.size, 7, none⟩ (.int .i64 (g 7))).setCell ⟨w1.heap.size, 8, none⟩ (.int .i64 (g 8))).setCell ⟨w1.heap.size, 9, none⟩ (.int .i64 (g 9))).setCell ⟨w1.heap.size, 10, none⟩ (.int .i64 (g 10))).setCell ⟨w1.heap.size, 11, none⟩ (.int .i64 (g 11))).setCell ⟨w1.heap.size, 12, none⟩ (.int .i64 (g 12))).setCell ⟨w1.heap.size, 13, none⟩ (.int .i64 (g 13))) from ⟨keepB bS (by omega) hHeld.1, keepB bS (by omega) hHeld.2.1, keepB bS (by omega) hHeld.2.2.1, keepB bS (by omega) hHeld.2.2.2.1, keepB bS (by omega) hHeld.2.2.2.2.1, keepB bS (by omega) hHeld.2.2.2.2.2.1, keepB bS (by omega) hHeld.2.2.2.2.2.2.1, keepB bS (by omega) hHeld.2.2.2.2.2.2.2.1, keepB bS (by omega) hHeld.2.2.2.2.2.2.2.2.1, bD⟩)
      obtain ⟨Z, hZ⟩ : ∃ Z, Z = ((((((((((((((w2.setCell ⟨w1.heap.size, 0, none⟩ (.int .i64 (g 0))).setCell ⟨w1.heap.size, 1, none⟩ (.int .i64 (g 1))).setCell ⟨w1.heap.size, 2, none⟩ (.int .i64 (g 2))).setCell ⟨w1.heap.size, 3, none⟩ (.int .i64 (g 3))).setCell ⟨w1.heap.size, 4, none⟩ (.int .i64 (g 4))).setCell ⟨w1.heap.size, 5, none⟩ (.int .i64 (g 5))).setCell ⟨w1.heap.size, 6, none⟩ (.int .i64 (g 6))).setCell ⟨w1.heap.size, 7, none⟩ (.int .i64 (g 7))).setCell ⟨w1.heap.size, 8, none⟩ (.int .i64 (g 8))).setCell ⟨w1.heap.size, 9, none⟩ (.int .i64 (g 9))).setCell ⟨w1.heap.size, 10, none⟩ (.int .i64 (g 10))).setCell ⟨w1.heap.size, 11, none⟩ (.int .i64 (g 11))).setCell ⟨w1.heap.size, 12, none⟩ (.int .i64 (g 12))).setCell ⟨w1.heap.size, 13, none⟩ (.int .i64 (g 13))) := ⟨_, rfl⟩
      rw [← hZ] at bD EZ hH2 ⊢
      have GN := Lib.hid (show EchB Z (w1.heap.size) g from ⟨EZ.c 0 (by decide), EZ.c 1 (by decide), EZ.c 2 (by decide), EZ.c 3 (by decide), EZ.c 4 (by decide), EZ.c 5 (by decide), EZ.c 6 (by decide), EZ.c 7 (by decide), EZ.c 8 (by decide), EZ.c 9 (by decide), EZ.c 10 (by decide), EZ.c 11 (by decide), EZ.c 12 (by decide), EZ.c 13 (by decide)⟩)
      clear oc0 of0 oc1 of1 oc2 of2 oc3 of3 oc4 of4 oc5 of5 oc6 of6 oc7 of7 oc8 of8 oc9 of9 oc10 of10 oc11 of11 oc12 of12 oc13 of13 hZ bS EZ hHeld
      refine hK.out _ _ hH2.out (fun hHeld => ?_)
      clear hK K
      try simp only [Act.put, List.setIfInBounds_toArray, List.set_cons_zero, List.set_cons_succ]
      refine wpAnyH_done (by kernel_rfl) ?_ _
      change wpList _ _ _ _ _ _
      simp only [List.drop_succ_cons, List.drop_zero]
      clear hHeld hH2
      have G3 := Lib.hid (GD.out.keep bD)
      have bw3 := Lib.hid (bwD.out.trans (bD.mono bwD.out.size))
      clear bD
      obtain ⟨f0, f1, f2, f3, f4, f5, f6, f7, f8, f9, f10, f11, f12, f13⟩ := G3.out
      obtain ⟨h0, h1, h2, h3, h4, h5, h6, h7, h8, h9, h10, h11, h12, h13⟩ := GN.out
      go_wp2_with fail
      refine (works_any _).mono ?_; rintro e' X ⟨rfl, hb⟩
      go_wp2
      go_ret
      exact ⟨rfl, bw3.out.trans (hb.mono bw3.out.size)⟩
  · skip
    go_simp
    have hb_E0 : Below D.heap.size D (D.alloc (.cells #[.int .i64 0, .int .i64 0, .int .i64 0, .int .i64 0, .int .i64 0, .int .i64 0, .int .i64 0, .int .i64 0, .int .i64 0, .int .i64 0, .int .i64 0, .int .i64 0, .int .i64 0, .int .i64 0] 30)) := below_alloc _ _
    have r : EchoG (D.alloc (.cells #[.int .i64 0, .int .i64 0, .int .i64 0, .int .i64 0, .int .i64 0, .int .i64 0, .int .i64 0, .int .i64 0, .int .i64 0, .int .i64 0, .int .i64 0, .int .i64 0, .int .i64 0, .int .i64 0] 30)) D.heap.size (fun _ => 0) := EchoG.new D (fun _ => 0) 30
    have z_E0 : D.heap.size < (D.alloc (.cells #[.int .i64 0, .int .i64 0, .int .i64 0, .int .i64 0, .int .i64 0, .int .i64 0, .int .i64 0, .int .i64 0, .int .i64 0, .int .i64 0, .int .i64 0, .int .i64 0, .int .i64 0, .int .i64 0] 30)).heap.size := by rw [World.size_alloc]; omega
    have q_E0 : D.heap.size ≤ D.heap.size := hHeld.2.2.2.2.2.2.2.2.2.size
    obtain ⟨E0, hE0⟩ : ∃ E, E = D.alloc (.cells #[.int .i64 0, .int .i64 0, .int .i64 0, .int .i64 0, .int .i64 0, .int .i64 0, .int .i64 0, .int .i64 0, .int .i64 0, .int .i64 0, .int .i64 0, .int .i64 0, .int .i64 0, .int .i64 0] 30) := ⟨_, rfl⟩
    rw [← hE0] at hb_E0 r z_E0 ⊢
    refine hK.out _ _ (⟨keepW hb_E0 hHeld.1, keepW hb_E0 hHeld.2.1, keepW hb_E0 hHeld.2.2.1, keepW hb_E0 hHeld.2.2.2.1, keepW hb_E0 hHeld.2.2.2.2.1, keepW hb_E0 hHeld.2.2.2.2.2.1, keepW hb_E0 hHeld.2.2.2.2.2.2.1, keepW hb_E0 hHeld.2.2.2.2.2.2.2.1, keepW hb_E0 hHeld.2.2.2.2.2.2.2.2.1, hHeld.2.2.2.2.2.2.2.2.2.trans (hb_E0.mono hHeld.2.2.2.2.2.2.2.2.2.size)⟩) (fun hHeld => ?_)
    clear hK K hE0
    try simp only [Act.put, List.setIfInBounds_toArray, List.set_cons_zero, List.set_cons_succ]
    refine wpAnyH_ready (rs := [3]) (by kernel_rfl) (by simp) ?_
    refine AllReadyH.cons rfl (fun K hK => ?_) AllReadyH.nil
    go_simp
    refine (HSA.out _ hHeld.2.2.2.2.2.2.2.2.2).mono ?_; rintro e' w1 ⟨v, rfl, hv, hb_w1⟩
    obtain ⟨a', c', rfl, hsm⟩ := smret_is hv
    have H28 : Hid (∀ W : World, Below w1.heap.size w1 W → Calls Try.prog 28 #[.agg #[.int .i64 l, .int .i64 kd, .int .i64 f, .int .i64 s, .int .i64 c], .agg #[.int .i64 lv, .int .i64 ph, .int .i64 n0, .int .i64 n1], .slice a' n c'] W fun e w' => e = .returned (.tuple #[.agg #[.int .i64 (g 0), .int .i64 (g 1), .int .i64 (g 2), .int .i64 (g 3), .int .i64 (g 4), .int .i64 (g 5), .int .i64 (g 6), .int .i64 (g 7), .int .i64 (g 8), .int .i64 (g 9), .int .i64 (g 10), .int .i64 (g 11), .int .i64 (g 12), .int .i64 (g 13)], .int .i64 E]) ∧ Below W.heap.size W w') := Lib.hid fun W hW => by rw [HEG.out.1, HEG.out.2]; exact refHear_any l kd f s c lv ph n0 n1 a' n c' zs W hn1 (hsm.keep hW)
    clear hv hsm
    refine hK.out _ _ (⟨keepW hb_w1 hHeld.1, keepW hb_w1 hHeld.2.1, keepW hb_w1 hHeld.2.2.1, keepW hb_w1 hHeld.2.2.2.1, keepW hb_w1 hHeld.2.2.2.2.1, keepW hb_w1 hHeld.2.2.2.2.2.1, keepW hb_w1 hHeld.2.2.2.2.2.2.1, keepW hb_w1 hHeld.2.2.2.2.2.2.2.1, keepW hb_w1 hHeld.2.2.2.2.2.2.2.2.1, hHeld.2.2.2.2.2.2.2.2.2.trans (hb_w1.mono hHeld.2.2.2.2.2.2.2.2.2.size)⟩) (fun hHeld => ?_)
    clear hK K
    try simp only [Act.put, List.setIfInBounds_toArray, List.set_cons_zero, List.set_cons_succ]
    have r := r.keep hb_w1 z_E0
    have z_E0 := Nat.lt_of_lt_of_le z_E0 hb_w1.size
    refine wpAnyH_ready (rs := [4]) (by kernel_rfl) (by simp) ?_
    refine AllReadyH.cons rfl (fun K hK => ?_) AllReadyH.nil
    go_simp
    refine (H28.out _ (Below.refl _ _)).mono ?_; rintro e' w2 ⟨rfl, hb_w2⟩
    refine hK.out _ _ (⟨keepW hb_w2 hHeld.1, keepW hb_w2 hHeld.2.1, keepW hb_w2 hHeld.2.2.1, keepW hb_w2 hHeld.2.2.2.1, keepW hb_w2 hHeld.2.2.2.2.1, keepW hb_w2 hHeld.2.2.2.2.2.1, keepW hb_w2 hHeld.2.2.2.2.2.2.1, keepW hb_w2 hHeld.2.2.2.2.2.2.2.1, keepW hb_w2 hHeld.2.2.2.2.2.2.2.2.1, hHeld.2.2.2.2.2.2.2.2.2.trans (hb_w2.mono hHeld.2.2.2.2.2.2.2.2.2.size)⟩) (fun hHeld => ?_)
    clear hK K
    try simp only [Act.put, List.setIfInBounds_toArray, List.set_cons_zero, List.set_cons_succ]
    have r := r.keep hb_w2 z_E0
    have z_E0 := Nat.lt_of_lt_of_le z_E0 hb_w2.size
    refine wpAnyH_take (i := 5) (v := ?v5_10) rfl (by kernel_rfl) (by kernel_rfl) (by kernel_rfl) (fun _ _ _ h => h) (Or.inl ⟨by rfl, ?hy5_10⟩) (by assumption) ?rest5_10
    case hy5_10 => (intro w hSw; (try dsimp only at hSw); go_simp; (try with_reducible rfl))
    try simp only [Act.put, List.setIfInBounds_toArray, List.set_cons_zero, List.set_cons_succ]
    refine wpAnyH_take (i := 6) (v := ?v6_11) rfl (by kernel_rfl) (by kernel_rfl) (by kernel_rfl) (fun _ _ _ h => h) (Or.inl ⟨by rfl, ?hy6_11⟩) (by assumption) ?rest6_11
    case hy6_11 => (intro w hSw; (try dsimp only at hSw); go_simp; (try with_reducible rfl))
    try simp only [Act.put, List.setIfInBounds_toArray, List.set_cons_zero, List.set_cons_succ]
    refine wpAnyH_take (i := 7) (v := ?v7_12) rfl (by kernel_rfl) (by kernel_rfl) (by kernel_rfl) (fun _ _ _ h => h) (Or.inl ⟨by rfl, ?hy7_12⟩) (by assumption) ?rest7_12
    case hy7_12 => (intro w hSw; (try dsimp only at hSw); go_simp; (try with_reducible rfl))
    try simp only [Act.put, List.setIfInBounds_toArray, List.set_cons_zero, List.set_cons_succ]
    have HO := Lib.hid r
    have oc0 := HO.out.c 0 (by decide)
    have of0 := HO.out.f 0 (by decide)
    have oc1 := HO.out.c 1 (by decide)
    have of1 := HO.out.f 1 (by decide)
    have oc2 := HO.out.c 2 (by decide)
    have of2 := HO.out.f 2 (by decide)
    have oc3 := HO.out.c 3 (by decide)
    have of3 := HO.out.f 3 (by decide)
    have oc4 := HO.out.c 4 (by decide)
    have of4 := HO.out.f 4 (by decide)
    have oc5 := HO.out.c 5 (by decide)
    have of5 := HO.out.f 5 (by decide)
    have oc6 := HO.out.c 6 (by decide)
    have of6 := HO.out.f 6 (by decide)
    have oc7 := HO.out.c 7 (by decide)
    have of7 := HO.out.f 7 (by decide)
    have oc8 := HO.out.c 8 (by decide)
    have of8 := HO.out.f 8 (by decide)
    have oc9 := HO.out.c 9 (by decide)
    have of9 := HO.out.f 9 (by decide)
    have oc10 := HO.out.c 10 (by decide)
    have of10 := HO.out.f 10 (by decide)
    have oc11 := HO.out.c 11 (by decide)
    have of11 := HO.out.f 11 (by decide)
    have oc12 := HO.out.c 12 (by decide)
    have of12 := HO.out.f 12 (by decide)
    have oc13 := HO.out.c 13 (by decide)
    have of13 := HO.out.f 13 (by decide)
    have hqD : D.heap.size ≤ D.heap.size := q_E0
    have hqE : D.heap.size < w2.heap.size := z_E0
    clear r q_E0 z_E0
    refine wpAnyH_ready (rs := [9]) (by kernel_rfl) (by simp) ?_
    refine AllReadyH.cons rfl (fun K hK => ?_) AllReadyH.nil
    go_simp
    have bS : Below D.heap.size w2 ((((((((((((((w2.setCell ⟨D.heap.size, 0, none⟩ (.int .i64 (g 0))).setCell ⟨D.heap.size, 1, none⟩ (.int .i64 (g 1))).setCell ⟨D.heap.size, 2, none⟩ (.int .i64 (g 2))).setCell ⟨D.heap.size, 3, none⟩ (.int .i64 (g 3))).setCell ⟨D.heap.size, 4, none⟩ (.int .i64 (g 4))).setCell ⟨D.heap.size, 5, none⟩ (.int .i64 (g 5))).setCell ⟨D.heap.size, 6, none⟩ (.int .i64 (g 6))).setCell ⟨D.heap.size, 7, none⟩ (.int .i64 (g 7))).setCell ⟨D.heap.size, 8, none⟩ (.int .i64 (g 8))).setCell ⟨D.heap.size, 9, none⟩ (.int .i64 (g 9))).setCell ⟨D.heap.size, 10, none⟩ (.int .i64 (g 10))).setCell ⟨D.heap.size, 11, none⟩ (.int .i64 (g 11))).setCell ⟨D.heap.size, 12, none⟩ (.int .i64 (g 12))).setCell ⟨D.heap.size, 13, none⟩ (.int .i64 (g 13))) := (((((((((((((((Below.refl D.heap.size w2).setCell (p := ⟨D.heap.size, 0, none⟩) (by dsimp only; omega) _).setCell (p := ⟨D.heap.size, 1, none⟩) (by dsimp only; omega) _).setCell (p := ⟨D.heap.size, 2, none⟩) (by dsimp only; omega) _).setCell (p := ⟨D.heap.size, 3, none⟩) (by dsimp only; omega) _).setCell (p := ⟨D.heap.size, 4, none⟩) (by dsimp only; omega) _).setCell (p := ⟨D.heap.size, 5, none⟩) (by dsimp only; omega) _).setCell (p := ⟨D.heap.size, 6, none⟩) (by dsimp only; omega) _).setCell (p := ⟨D.heap.size, 7, none⟩) (by dsimp only; omega) _).setCell (p := ⟨D.heap.size, 8, none⟩) (by dsimp only; omega) _).setCell (p := ⟨D.heap.size, 9, none⟩) (by dsimp only; omega) _).setCell (p := ⟨D.heap.size, 10, none⟩) (by dsimp only; omega) _).setCell (p := ⟨D.heap.size, 11, none⟩) (by dsimp only; omega) _).setCell (p := ⟨D.heap.size, 12, none⟩) (by dsimp only; omega) _).setCell (p := ⟨D.heap.size, 13, none⟩) (by dsimp only; omega) _)
    have bD : Below D.heap.size D ((((((((((((((w2.setCell ⟨D.heap.size, 0, none⟩ (.int .i64 (g 0))).setCell ⟨D.heap.size, 1, none⟩ (.int .i64 (g 1))).setCell ⟨D.heap.size, 2, none⟩ (.int .i64 (g 2))).setCell ⟨D.heap.size, 3, none⟩ (.int .i64 (g 3))).setCell ⟨D.heap.size, 4, none⟩ (.int .i64 (g 4))).setCell ⟨D.heap.size, 5, none⟩ (.int .i64 (g 5))).setCell ⟨D.heap.size, 6, none⟩ (.int .i64 (g 6))).setCell ⟨D.heap.size, 7, none⟩ (.int .i64 (g 7))).setCell ⟨D.heap.size, 8, none⟩ (.int .i64 (g 8))).setCell ⟨D.heap.size, 9, none⟩ (.int .i64 (g 9))).setCell ⟨D.heap.size, 10, none⟩ (.int .i64 (g 10))).setCell ⟨D.heap.size, 11, none⟩ (.int .i64 (g 11))).setCell ⟨D.heap.size, 12, none⟩ (.int .i64 (g 12))).setCell ⟨D.heap.size, 13, none⟩ (.int .i64 (g 13))) := ((((((((((((((hHeld.2.2.2.2.2.2.2.2.2.setCell (p := ⟨D.heap.size, 0, none⟩) (by dsimp only; omega) _).setCell (p := ⟨D.heap.size, 1, none⟩) (by dsimp only; omega) _).setCell (p := ⟨D.heap.size, 2, none⟩) (by dsimp only; omega) _).setCell (p := ⟨D.heap.size, 3, none⟩) (by dsimp only; omega) _).setCell (p := ⟨D.heap.size, 4, none⟩) (by dsimp only; omega) _).setCell (p := ⟨D.heap.size, 5, none⟩) (by dsimp only; omega) _).setCell (p := ⟨D.heap.size, 6, none⟩) (by dsimp only; omega) _).setCell (p := ⟨D.heap.size, 7, none⟩) (by dsimp only; omega) _).setCell (p := ⟨D.heap.size, 8, none⟩) (by dsimp only; omega) _).setCell (p := ⟨D.heap.size, 9, none⟩) (by dsimp only; omega) _).setCell (p := ⟨D.heap.size, 10, none⟩) (by dsimp only; omega) _).setCell (p := ⟨D.heap.size, 11, none⟩) (by dsimp only; omega) _).setCell (p := ⟨D.heap.size, 12, none⟩) (by dsimp only; omega) _).setCell (p := ⟨D.heap.size, 13, none⟩) (by dsimp only; omega) _)
    have EZ := ((((((((((((((HO.out.set (k := 0) (v := g 0)).set (k := 1) (v := g 1)).set (k := 2) (v := g 2)).set (k := 3) (v := g 3)).set (k := 4) (v := g 4)).set (k := 5) (v := g 5)).set (k := 6) (v := g 6)).set (k := 7) (v := g 7)).set (k := 8) (v := g 8)).set (k := 9) (v := g 9)).set (k := 10) (v := g 10)).set (k := 11) (v := g 11)).set (k := 12) (v := g 12)).set (k := 13) (v := g 13))
    have hH2 := Lib.hid (show (fun w' : World => w'.cell? ⟨w.heap.size, 0, none⟩ = some (.int .i64 l) ∧ w'.cell? ⟨w.heap.size, 1, none⟩ = some (.int .i64 kd) ∧ w'.cell? ⟨w.heap.size, 2, none⟩ = some (.int .i64 f) ∧ w'.cell? ⟨w.heap.size, 3, none⟩ = some (.int .i64 s) ∧ w'.cell? ⟨w.heap.size, 4, none⟩ = some (.int .i64 c) ∧ w'.cell? ⟨w.heap.size + 1, 0, none⟩ = some (.int .i64 lv) ∧ w'.cell? ⟨w.heap.size + 1, 1, none⟩ = some (.int .i64 ph) ∧ w'.cell? ⟨w.heap.size + 1, 2, none⟩ = some (.int .i64 n0) ∧ w'.cell? ⟨w.heap.size + 1, 3, none⟩ = some (.int .i64 n1) ∧ Below D.heap.size D w') ((((((((((((((w2.setCell ⟨D.heap.size, 0, none⟩ (.int .i64 (g 0))).setCell ⟨D.heap.size, 1, none⟩ (.int .i64 (g 1))).setCell ⟨D.heap.size, 2, none⟩ (.int .i64 (g 2))).setCell ⟨D.heap.size, 3, none⟩ (.int .i64 (g 3))).setCell ⟨D.heap.size, 4, none⟩ (.int .i64 (g 4))).setCell ⟨D.heap.size, 5, none⟩ (.int .i64 (g 5))).setCell ⟨D.heap.size, 6, none⟩ (.int .i64 (g 6))).setCell ⟨D.heap.size, 7, none⟩ (.int .i64 (g 7))).setCell ⟨D.heap.size, 8, none⟩ (.int .i64 (g 8))).setCell ⟨D.heap.size, 9, none⟩ (.int .i64 (g 9))).setCell ⟨D.heap.size, 10, none⟩ (.int .i64 (g 10))).setCell ⟨D.heap.size, 11, none⟩ (.int .i64 (g 11))).setCell ⟨D.heap.size, 12, none⟩ (.int .i64 (g 12))).setCell ⟨D.heap.size, 13, none⟩ (.int .i64 (g 13))) from ⟨keepB bS (by omega) hHeld.1, keepB bS (by omega) hHeld.2.1, keepB bS (by omega) hHeld.2.2.1, keepB bS (by omega) hHeld.2.2.2.1, keepB bS (by omega) hHeld.2.2.2.2.1, keepB bS (by omega) hHeld.2.2.2.2.2.1, keepB bS (by omega) hHeld.2.2.2.2.2.2.1, keepB bS (by omega) hHeld.2.2.2.2.2.2.2.1, keepB bS (by omega) hHeld.2.2.2.2.2.2.2.2.1, bD⟩)
    obtain ⟨Z, hZ⟩ : ∃ Z, Z = ((((((((((((((w2.setCell ⟨D.heap.size, 0, none⟩ (.int .i64 (g 0))).setCell ⟨D.heap.size, 1, none⟩ (.int .i64 (g 1))).setCell ⟨D.heap.size, 2, none⟩ (.int .i64 (g 2))).setCell ⟨D.heap.size, 3, none⟩ (.int .i64 (g 3))).setCell ⟨D.heap.size, 4, none⟩ (.int .i64 (g 4))).setCell ⟨D.heap.size, 5, none⟩ (.int .i64 (g 5))).setCell ⟨D.heap.size, 6, none⟩ (.int .i64 (g 6))).setCell ⟨D.heap.size, 7, none⟩ (.int .i64 (g 7))).setCell ⟨D.heap.size, 8, none⟩ (.int .i64 (g 8))).setCell ⟨D.heap.size, 9, none⟩ (.int .i64 (g 9))).setCell ⟨D.heap.size, 10, none⟩ (.int .i64 (g 10))).setCell ⟨D.heap.size, 11, none⟩ (.int .i64 (g 11))).setCell ⟨D.heap.size, 12, none⟩ (.int .i64 (g 12))).setCell ⟨D.heap.size, 13, none⟩ (.int .i64 (g 13))) := ⟨_, rfl⟩
    rw [← hZ] at bD EZ hH2 ⊢
    have GN := Lib.hid (show EchB Z (D.heap.size) g from ⟨EZ.c 0 (by decide), EZ.c 1 (by decide), EZ.c 2 (by decide), EZ.c 3 (by decide), EZ.c 4 (by decide), EZ.c 5 (by decide), EZ.c 6 (by decide), EZ.c 7 (by decide), EZ.c 8 (by decide), EZ.c 9 (by decide), EZ.c 10 (by decide), EZ.c 11 (by decide), EZ.c 12 (by decide), EZ.c 13 (by decide)⟩)
    clear oc0 of0 oc1 of1 oc2 of2 oc3 of3 oc4 of4 oc5 of5 oc6 of6 oc7 of7 oc8 of8 oc9 of9 oc10 of10 oc11 of11 oc12 of12 oc13 of13 hZ bS EZ hHeld
    refine hK.out _ _ hH2.out (fun hHeld => ?_)
    clear hK K
    try simp only [Act.put, List.setIfInBounds_toArray, List.set_cons_zero, List.set_cons_succ]
    refine wpAnyH_done (by kernel_rfl) ?_ _
    change wpList _ _ _ _ _ _
    simp only [List.drop_succ_cons, List.drop_zero]
    clear hHeld hH2
    have G3 := Lib.hid (GD.out.keep bD)
    have bw3 := Lib.hid (bwD.out.trans (bD.mono bwD.out.size))
    clear bD
    obtain ⟨f0, f1, f2, f3, f4, f5, f6, f7, f8, f9, f10, f11, f12, f13⟩ := G3.out
    obtain ⟨h0, h1, h2, h3, h4, h5, h6, h7, h8, h9, h10, h11, h12, h13⟩ := GN.out
    go_wp2_with fail
    refine (works_any _).mono ?_; rintro e' X ⟨rfl, hb⟩
    go_wp2
    go_ret
    exact ⟨rfl, bw3.out.trans (hb.mono bw3.out.size)⟩


end Go.Proofs.Ytmojnopgpgnfeaa
