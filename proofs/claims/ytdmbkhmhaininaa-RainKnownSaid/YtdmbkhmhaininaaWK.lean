/-
  The examples that each statement ends with.
-/
import Derived.Test.YtdmbkhmhaininaaGB
import Derived.Test.YtdmbkhmhaininaaH
namespace Go.Proofs.Ytdmbkhmhaininaa
open Go.RowKit
set_option linter.unusedVariables false
set_option linter.unusedSimpArgs false

def pZ (i : Nat) : Int := if i = 0 then 1000 else if i = 1 then 1000 else 500
def mZ (i : Nat) : Int × Int := if i = 0 then (1000, 1000) else if i = 1 then (500, 500) else (125, 125)
theorem works_val : (vL 3 tZ 50, vH 3 tZ 50, vE 3 tZ 50) = (5, 5, 0) := by decide +kernel
theorem works_pass : passC 2 lZ 3 pZ = 0 := by decide +kernel
theorem works_mes : (List.range 3).map (mesOf 2 lZ pZ) = (List.range 3).map mZ := by decide +kernel
theorem works_fell : (feLo 3 200, feHi 3 200, feE 3 200) = (401, 799, 0) := by decide +kernel
theorem SpansAt.ext {w : World} {b off n : Nat} {zs ys : Nat → Int × Int} (s : SpansAt w b off n zs) (h : ∀ j, j < n → zs j = ys j) : SpansAt w b off n ys := fun i hi => by rw [← h i hi]; exact s i hi
theorem SliceIs.ext {w : World} {a : Option Addr} {n cap : Nat} {zs ys : Nat → Int × Int} (s : SliceIs w a n cap zs) (h : ∀ j, j < n → zs j = ys j) : SliceIs w a n cap ys := by
  rcases s with h0 | ⟨b, off, h1, h2, h3⟩
  · exact .inl h0
  · exact .inr ⟨b, off, h1, h2, h3.ext h⟩
theorem mes_mZ : ∀ j, j < 3 → mesOf 2 lZ pZ j = mZ j := fun j hj => by
  have h : ((List.range 3).map (mesOf 2 lZ pZ))[j]? = ((List.range 3).map mZ)[j]? := by rw [works_mes]
  simpa [hj] using h
theorem six_spans (w : World) : SpansAt (w.alloc (.cells #[.int .i64 1000, .int .i64 1000, .int .i64 500, .int .i64 500, .int .i64 125, .int .i64 125] 24)) w.heap.size 0 3 mZ := fun i hi => by
  match i, hi with
  | 0, _ => exact ⟨alloc_new rfl rfl, alloc_new rfl rfl⟩
  | 1, _ => exact ⟨alloc_new rfl rfl, alloc_new rfl rfl⟩
  | 2, _ => exact ⟨alloc_new rfl rfl, alloc_new rfl rfl⟩
theorem three_pow (w : World) (T : TypeId) : PowIs (w.alloc (.cells #[.int .i64 1000, .int .i64 1000, .int .i64 500] T)) (some ⟨w.heap.size, 0, none⟩) 3 pZ := .inr ⟨w.heap.size, 0, rfl, by rw [World.size_alloc]; omega, fun j hj => by
  match j, hj with
  | 0, _ => exact alloc_new rfl rfl
  | 1, _ => exact alloc_new rfl rfl
  | 2, _ => exact alloc_new rfl rfl⟩
theorem Value50 (b : Nat) (w : World) (hs : SpansAt w b 0 3 tZ) (hb : b < w.heap.size) :
    Calls Try.prog 20 #[.slice (some ⟨b, 0, none⟩) 3 3, .int .i64 50] w fun e w' => e = .returned (.tuple #[.agg #[.int .i64 5, .int .i64 5], .int .i64 0]) ∧ Below w.heap.size w w' := by
  have h := Value_any (some ⟨b, 0, none⟩) 3 3 tZ 50 w (.inr ⟨b, 0, rfl, hb, hs⟩)
  have e := works_val
  simp only [Prod.mk.injEq] at e
  rw [e.1, e.2.1, e.2.2] at h
  exact h
theorem Fell3 (w : World) : Calls Try.prog 35 #[.agg #[.int .i64 3, .int .i64 200]] w fun e w' => e = .returned (.tuple #[.agg #[.int .i64 401, .int .i64 799], .int .i64 0]) ∧ Below w.heap.size w w' := by
  have h := Fell_any 3 200 w
  have e := works_fell
  simp only [Prod.mk.injEq] at e
  rw [e.1, e.2.1, e.2.2] at h
  exact h
theorem Pass3 (b pb : Nat) (w : World) (hs : SpansAt w b 0 2 lZ) (hb : b < w.heap.size) (hp : PowIs w (some ⟨pb, 0, none⟩) 3 pZ) :
    Calls Try.prog 23 #[.slice (some ⟨b, 0, none⟩) 2 2, .slice (some ⟨pb, 0, none⟩) 3 3] w fun e w' => ∃ (a : Option Addr) (cap : Nat), e = .returned (.tuple #[.slice a 3 cap, .int .i64 0]) ∧ SliceIs w' a 3 cap mZ ∧ Below w.heap.size w w' := by
  have h := Pass_any (some ⟨b, 0, none⟩) 2 2 lZ (some ⟨pb, 0, none⟩) 3 3 pZ w (by decide) (.inr ⟨b, 0, rfl, hb, hs⟩) hp
  rw [works_pass] at h
  exact h.mono (by rintro e w' ⟨a, cap, he, h1, h2⟩; exact ⟨a, cap, he, SliceIs.ext h1 (fun j hj => mes_mZ j hj), h2⟩)

set_option maxRecDepth 100000 in
set_option maxHeartbeats 6400000 in
theorem works_any (w : World) : Calls Try.prog 13 #[] w fun e w' => e = .returned (.bool true) ∧ Below w.heap.size w w' := by
  go_enter Try.func13, Try.ntmps13
  go_wp2_with fail
  refine (T_any _).mono ?_; rintro e W1 ⟨rfl, sT, zT, hb1⟩
  go_wp2_with fail
  refine (Value50 _ _ sT zT).mono ?_; rintro e X1 ⟨rfl, hb2⟩
  have b2 : Below w.heap.size w X1 := hb1.trans (hb2.mono hb1.size)
  clear sT zT hb1 hb2
  have a0 : (X1.alloc (.cells #[.int .i64 5, .int .i64 5] 24)).cell? ⟨X1.heap.size, 0, none⟩ = some (.int .i64 5) := alloc_new rfl rfl
  have a1 : (X1.alloc (.cells #[.int .i64 5, .int .i64 5] 24)).cell? ⟨X1.heap.size, 1, none⟩ = some (.int .i64 5) := alloc_new rfl rfl
  have za : X1.heap.size < (X1.alloc (.cells #[.int .i64 5, .int .i64 5] 24)).heap.size := by rw [World.size_alloc]; omega
  have b3 := b2.trans ((below_alloc X1 (.cells #[.int .i64 5, .int .i64 5] 24)).mono b2.size)
  obtain ⟨A, hA⟩ : ∃ A, A = X1.alloc (.cells #[.int .i64 5, .int .i64 5] 24) := ⟨_, rfl⟩
  rw [← hA] at a0 a1 za b3
  go_wp2_with fail
  rw [← hA]
  clear hA b2
  refine (L_any _).mono ?_; rintro e B ⟨rfl, sL, zL, hbB⟩
  have a0 := keepB hbB za a0
  have a1 := keepB hbB za a1
  have za := Nat.lt_of_lt_of_le za hbB.size
  have b4 := b3.trans (hbB.mono b3.size)
  clear b3 hbB
  have PW := Lib.hid (three_pow B 3)
  have SL := Lib.hid (sL.keep (below_alloc B (.cells #[.int .i64 1000, .int .i64 1000, .int .i64 500] 3)) zL)
  have bb := below_alloc B (.cells #[.int .i64 1000, .int .i64 1000, .int .i64 500] 3)
  have a0 := keepB bb za a0
  have a1 := keepB bb za a1
  have za := Nat.lt_of_lt_of_le za bb.size
  have zL := Nat.lt_of_lt_of_le zL bb.size
  have b5 := b4.trans (bb.mono b4.size)
  clear sL bb b4
  go_wp2_with fail
  generalize B.alloc (.cells #[.int .i64 1000, .int .i64 1000, .int .i64 500] 3) = C at *
  refine (Pass3 _ _ _ SL.out zL PW.out).mono ?_; rintro e D ⟨ra, rc, rfl, hsl, hbD⟩
  have a0 := keepB hbD za a0
  have a1 := keepB hbD za a1
  have za := Nat.lt_of_lt_of_le za hbD.size
  have b6 := b5.trans (hbD.mono b5.size)
  have HSD := Lib.hid hsl
  clear hsl hbD PW SL zL b5
  go_wp2_with fail
  refine (Fell3 _).mono ?_; rintro e X3 ⟨rfl, hb3⟩
  have a0 := keepB hb3 za a0
  have a1 := keepB hb3 za a1
  have za := Nat.lt_of_lt_of_le za hb3.size
  have b7 := b6.trans (hb3.mono b6.size)
  have HS3 := Lib.hid (HSD.out.keep hb3)
  clear hb3 HSD b6
  have bE := below_alloc X3 (.cells #[.int .i64 401, .int .i64 799] 24)
  have c0 := keepB bE za a0
  have c1 := keepB bE za a1
  have c2 : (X3.alloc (.cells #[.int .i64 401, .int .i64 799] 24)).cell? ⟨X3.heap.size, 0, none⟩ = some (.int .i64 401) := alloc_new rfl rfl
  have c3 : (X3.alloc (.cells #[.int .i64 401, .int .i64 799] 24)).cell? ⟨X3.heap.size, 1, none⟩ = some (.int .i64 799) := alloc_new rfl rfl
  have HSL := Lib.hid (HS3.out.keep bE)
  have bW := b7.trans (bE.mono b7.size)
  obtain ⟨E, hE⟩ : ∃ E, E = X3.alloc (.cells #[.int .i64 401, .int .i64 799] 24) := ⟨_, rfl⟩
  rw [← hE] at c0 c1 c2 c3 HSL bW
  have HS := Lib.hid (show (fun w' : World => w'.cell? ⟨X1.heap.size, 0, none⟩ = some (.int .i64 5) ∧ w'.cell? ⟨X1.heap.size, 1, none⟩ = some (.int .i64 5) ∧ w'.cell? ⟨X3.heap.size, 0, none⟩ = some (.int .i64 401) ∧ w'.cell? ⟨X3.heap.size, 1, none⟩ = some (.int .i64 799) ∧ Below E.drew.heap.size E.drew w') E.drew from ⟨c0, c1, c2, c3, Below.refl _ _⟩)
  have BE := Lib.hid (Below.drew (Below.refl E.heap.size E))
  clear a0 a1 za c0 c1 c2 c3 bE HS3 b7
  go_wp2_with fail
  rw [← hE]
  clear hE
  refine wp_region_held_tail (S := (fun w' : World => w'.cell? ⟨X1.heap.size, 0, none⟩ = some (.int .i64 5) ∧ w'.cell? ⟨X1.heap.size, 1, none⟩ = some (.int .i64 5) ∧ w'.cell? ⟨X3.heap.size, 0, none⟩ = some (.int .i64 401) ∧ w'.cell? ⟨X3.heap.size, 1, none⟩ = some (.int .i64 799) ∧ Below E.drew.heap.size E.drew w')) 28 (by kernel_rfl) (by kernel_rfl) HS.out (fun hHeld => ?_)
  refine wpAnyH_take (i := 0) (v := ?v0_1) rfl (by kernel_rfl) (by kernel_rfl) (by kernel_rfl) (fun _ _ _ h => h) (Or.inl ⟨by rfl, ?hy0_1⟩) (by assumption) ?rest0_1
  case hy0_1 => (intro w hSw; (try dsimp only at hSw); go_simp; (try with_reducible rfl))
  try simp only [Act.put, List.getElem_toArray, List.getElem_cons_zero, List.getElem_cons_succ, List.setIfInBounds_toArray, List.set_cons_zero, List.set_cons_succ]
  refine wpAnyH_ready (rs := [1]) (by kernel_rfl) (by simp) ?_
  refine AllReadyH.cons rfl (fun K hK => ?_) AllReadyH.nil
  go_simp; go_at_call 34; refine (point_any 5 _).mono ?_; rintro e' w' ⟨rfl, hb'⟩
  refine hK.out _ _ (⟨keepW hb' hHeld.1, keepW hb' hHeld.2.1, keepW hb' hHeld.2.2.1, keepW hb' hHeld.2.2.2.1, hHeld.2.2.2.2.trans (hb'.mono hHeld.2.2.2.2.size)⟩) (fun hHeld2 => ?_)
  clear hK K hHeld hb'
  have hHeld := hHeld2
  clear hHeld2
  try simp only [Act.put, List.getElem_toArray, List.getElem_cons_zero, List.getElem_cons_succ, List.setIfInBounds_toArray, List.set_cons_zero, List.set_cons_succ]
  refine wpAnyH_take (i := 2) (v := ?v2_2) rfl (by kernel_rfl) (by kernel_rfl) (by kernel_rfl) (fun _ _ _ h => h) (Or.inl ⟨by rfl, ?hy2_2⟩) (by assumption) ?rest2_2
  case hy2_2 => (intro w hSw; (try dsimp only at hSw); go_simp; (try with_reducible rfl))
  try simp only [Act.put, List.getElem_toArray, List.getElem_cons_zero, List.getElem_cons_succ, List.setIfInBounds_toArray, List.set_cons_zero, List.set_cons_succ]
  refine wpAnyH_take (i := 3) (v := ?v3_3) rfl (by kernel_rfl) (by kernel_rfl) (by kernel_rfl) (fun _ _ _ h => h) (Or.inl ⟨by rfl, ?hy3_3⟩) (by assumption) ?rest3_3
  case hy3_3 => (intro w hSw; (try dsimp only at hSw); go_simp; (try with_reducible rfl))
  try simp only [Act.put, List.getElem_toArray, List.getElem_cons_zero, List.getElem_cons_succ, List.setIfInBounds_toArray, List.set_cons_zero, List.set_cons_succ]
  refine wpAnyH_take (i := 4) (v := ?v4_4) rfl (by kernel_rfl) (by kernel_rfl) (by kernel_rfl) (fun _ _ _ h => h) (Or.inl ⟨by rfl, ?hy4_4⟩) (by assumption) ?rest4_4
  case hy4_4 => (intro w hSw; (try dsimp only at hSw); go_simp; (try with_reducible rfl))
  try simp only [Act.put, List.getElem_toArray, List.getElem_cons_zero, List.getElem_cons_succ, List.setIfInBounds_toArray, List.set_cons_zero, List.set_cons_succ]
  refine wpAnyH_take (i := 5) (v := ?v5_5) rfl (by kernel_rfl) (by kernel_rfl) (by kernel_rfl) (fun _ _ _ h => h) (Or.inl ⟨by rfl, ?hy5_5⟩) (by assumption) ?rest5_5
  case hy5_5 => (intro w hSw; (try dsimp only at hSw); go_simp; (try with_reducible rfl))
  try simp only [Act.put, List.getElem_toArray, List.getElem_cons_zero, List.getElem_cons_succ, List.setIfInBounds_toArray, List.set_cons_zero, List.set_cons_succ]
  refine wpAnyH_take (i := 6) (v := ?v6_6) rfl (by kernel_rfl) (by kernel_rfl) (by kernel_rfl) (fun _ _ _ h => h) (Or.inl ⟨by rfl, ?hy6_6⟩) (by assumption) ?rest6_6
  case hy6_6 => (intro w hSw; (try dsimp only at hSw); go_simp; (try with_reducible rfl))
  try simp only [Act.put, List.getElem_toArray, List.getElem_cons_zero, List.getElem_cons_succ, List.setIfInBounds_toArray, List.set_cons_zero, List.set_cons_succ]
  refine wpAnyH_take (i := 7) (v := ?v7_7) rfl (by kernel_rfl) (by kernel_rfl) (by kernel_rfl) (fun _ _ _ h => h) (Or.inl ⟨by rfl, ?hy7_7⟩) (by assumption) ?rest7_7
  case hy7_7 => (intro w hSw; (try dsimp only at hSw); go_simp; (try with_reducible rfl))
  try simp only [Act.put, List.getElem_toArray, List.getElem_cons_zero, List.getElem_cons_succ, List.setIfInBounds_toArray, List.set_cons_zero, List.set_cons_succ]
  refine wpAnyH_take (i := 8) (v := ?v8_8) rfl (by kernel_rfl) (by kernel_rfl) (by kernel_rfl) (fun _ _ _ h => h) (Or.inl ⟨by rfl, ?hy8_8⟩) (by assumption) ?rest8_8
  case hy8_8 => (intro w hSw; (try dsimp only at hSw); go_simp; (try with_reducible rfl))
  try simp only [Act.put, List.getElem_toArray, List.getElem_cons_zero, List.getElem_cons_succ, List.setIfInBounds_toArray, List.set_cons_zero, List.set_cons_succ]
  refine wpAnyH_ready (rs := [9]) (by kernel_rfl) (by simp) ?_
  refine AllReadyH.cons rfl (fun K hK => ?_) AllReadyH.nil
  go_simp; go_at_call 34; refine (point_any 1000 _).mono ?_; rintro e' w' ⟨rfl, hb'⟩
  refine hK.out _ _ (⟨keepW hb' hHeld.1, keepW hb' hHeld.2.1, keepW hb' hHeld.2.2.1, keepW hb' hHeld.2.2.2.1, hHeld.2.2.2.2.trans (hb'.mono hHeld.2.2.2.2.size)⟩) (fun hHeld2 => ?_)
  clear hK K hHeld hb'
  have hHeld := hHeld2
  clear hHeld2
  try simp only [Act.put, List.getElem_toArray, List.getElem_cons_zero, List.getElem_cons_succ, List.setIfInBounds_toArray, List.set_cons_zero, List.set_cons_succ]
  refine wpAnyH_ready (rs := [10]) (by kernel_rfl) (by simp) ?_
  refine AllReadyH.cons rfl (fun K hK => ?_) AllReadyH.nil
  go_simp; go_at_call 34; refine (point_any 500 _).mono ?_; rintro e' w' ⟨rfl, hb'⟩
  refine hK.out _ _ (⟨keepW hb' hHeld.1, keepW hb' hHeld.2.1, keepW hb' hHeld.2.2.1, keepW hb' hHeld.2.2.2.1, hHeld.2.2.2.2.trans (hb'.mono hHeld.2.2.2.2.size)⟩) (fun hHeld2 => ?_)
  clear hK K hHeld hb'
  have hHeld := hHeld2
  clear hHeld2
  try simp only [Act.put, List.getElem_toArray, List.getElem_cons_zero, List.getElem_cons_succ, List.setIfInBounds_toArray, List.set_cons_zero, List.set_cons_succ]
  refine wpAnyH_ready (rs := [11]) (by kernel_rfl) (by simp) ?_
  refine AllReadyH.cons rfl (fun K hK => ?_) AllReadyH.nil
  go_simp; go_at_call 34; refine (point_any 125 _).mono ?_; rintro e' w' ⟨rfl, hb'⟩
  refine hK.out _ _ (⟨keepW hb' hHeld.1, keepW hb' hHeld.2.1, keepW hb' hHeld.2.2.1, keepW hb' hHeld.2.2.2.1, hHeld.2.2.2.2.trans (hb'.mono hHeld.2.2.2.2.size)⟩) (fun hHeld2 => ?_)
  clear hK K hHeld hb'
  have hHeld := hHeld2
  clear hHeld2
  try simp only [Act.put, List.getElem_toArray, List.getElem_cons_zero, List.getElem_cons_succ, List.setIfInBounds_toArray, List.set_cons_zero, List.set_cons_succ]
  refine wpAnyH_ready (rs := [12]) (by kernel_rfl) (by simp) ?_
  refine AllReadyH.cons rfl (fun K hK => ?_) AllReadyH.nil
  go_simp
  have sE : SpansAt (w'.alloc (.cells #[.int .i64 1000, .int .i64 1000, .int .i64 500, .int .i64 500, .int .i64 125, .int .i64 125] 24)) w'.heap.size 0 3 mZ := six_spans w'
  have zE : w'.heap.size < (w'.alloc (.cells #[.int .i64 1000, .int .i64 1000, .int .i64 500, .int .i64 500, .int .i64 125, .int .i64 125] 24)).heap.size := by rw [World.size_alloc]; omega
  have hb' : Below w'.heap.size w' (w'.alloc (.cells #[.int .i64 1000, .int .i64 1000, .int .i64 500, .int .i64 500, .int .i64 125, .int .i64 125] 24)) := below_alloc _ _
  have qB : ∃ q, q = w'.heap.size := ⟨_, rfl⟩
  obtain ⟨q, hq⟩ := qB
  obtain ⟨F, hF⟩ : ∃ F, F = w'.alloc (.cells #[.int .i64 1000, .int .i64 1000, .int .i64 500, .int .i64 500, .int .i64 125, .int .i64 125] 24) := ⟨_, rfl⟩
  rw [← hF, ← hq] at sE
  rw [← hF] at hb' zE ⊢
  rw [← hq] at zE ⊢
  refine hK.out _ _ (⟨keepW hb' hHeld.1, keepW hb' hHeld.2.1, keepW hb' hHeld.2.2.1, keepW hb' hHeld.2.2.2.1, hHeld.2.2.2.2.trans (hb'.mono hHeld.2.2.2.2.size)⟩) (fun hHeld2 => ?_)
  clear hK K hHeld hb'
  have hHeld := hHeld2
  clear hHeld2
  try simp only [Act.put, List.getElem_toArray, List.getElem_cons_zero, List.getElem_cons_succ, List.setIfInBounds_toArray, List.set_cons_zero, List.set_cons_succ]
  clear hF hq
  refine wpAnyH_ready (rs := [13]) (by kernel_rfl) (by simp) ?_
  refine AllReadyH.cons rfl (fun K hK => ?_) AllReadyH.nil
  go_simp; go_at_call 27; refine (same_any _ _ 3 _ _ mZ _ (by decide) (HSL.out.keep (BE.out.trans (hHeld.2.2.2.2.mono BE.out.size))) (.inr ⟨q, 0, rfl, zE, sE⟩)).mono ?_; rintro e' w' ⟨rfl, hb'⟩
  refine hK.out _ _ (⟨keepW hb' hHeld.1, keepW hb' hHeld.2.1, keepW hb' hHeld.2.2.1, keepW hb' hHeld.2.2.2.1, hHeld.2.2.2.2.trans (hb'.mono hHeld.2.2.2.2.size)⟩) (fun hHeld2 => ?_)
  clear hK K hHeld hb'
  have hHeld := hHeld2
  clear hHeld2
  try simp only [Act.put, List.getElem_toArray, List.getElem_cons_zero, List.getElem_cons_succ, List.setIfInBounds_toArray, List.set_cons_zero, List.set_cons_succ]
  refine wpAnyH_take (i := 14) (v := ?v14_9) rfl (by kernel_rfl) (by kernel_rfl) (by kernel_rfl) (fun _ _ _ h => h) (Or.inl ⟨by rfl, ?hy14_9⟩) (by assumption) ?rest14_9
  case hy14_9 => (intro w hSw; (try dsimp only at hSw); go_simp; (try with_reducible rfl))
  try simp only [Act.put, List.getElem_toArray, List.getElem_cons_zero, List.getElem_cons_succ, List.setIfInBounds_toArray, List.set_cons_zero, List.set_cons_succ]
  refine wpAnyH_take (i := 15) (v := ?v15_10) rfl (by kernel_rfl) (by kernel_rfl) (by kernel_rfl) (fun _ _ _ h => h) (Or.inl ⟨by rfl, ?hy15_10⟩) (by assumption) ?rest15_10
  case hy15_10 => (intro w hSw; (try dsimp only at hSw); go_simp; (try with_reducible rfl))
  try simp only [Act.put, List.getElem_toArray, List.getElem_cons_zero, List.getElem_cons_succ, List.setIfInBounds_toArray, List.set_cons_zero, List.set_cons_succ]
  refine wpAnyH_take (i := 16) (v := ?v16_11) rfl (by kernel_rfl) (by kernel_rfl) (by kernel_rfl) (fun _ _ _ h => h) (Or.inl ⟨by rfl, ?hy16_11⟩) (by assumption) ?rest16_11
  case hy16_11 => (intro w hSw; (try dsimp only at hSw); go_simp; (try with_reducible rfl))
  try simp only [Act.put, List.getElem_toArray, List.getElem_cons_zero, List.getElem_cons_succ, List.setIfInBounds_toArray, List.set_cons_zero, List.set_cons_succ]
  refine wpAnyH_take (i := 17) (v := ?v17_12) rfl (by kernel_rfl) (by kernel_rfl) (by kernel_rfl) (fun _ _ _ h => h) (Or.inl ⟨by rfl, ?hy17_12⟩) (by assumption) ?rest17_12
  case hy17_12 => (intro w hSw; (try dsimp only at hSw); go_simp; (try with_reducible rfl))
  try simp only [Act.put, List.getElem_toArray, List.getElem_cons_zero, List.getElem_cons_succ, List.setIfInBounds_toArray, List.set_cons_zero, List.set_cons_succ]
  refine wpAnyH_take (i := 18) (v := ?v18_13) rfl (by kernel_rfl) (by kernel_rfl) (by kernel_rfl) (fun _ _ _ h => h) (Or.inl ⟨by rfl, ?hy18_13⟩) (by assumption) ?rest18_13
  case hy18_13 => (intro w hSw; (try dsimp only at hSw); go_simp; (try with_reducible rfl))
  try simp only [Act.put, List.getElem_toArray, List.getElem_cons_zero, List.getElem_cons_succ, List.setIfInBounds_toArray, List.set_cons_zero, List.set_cons_succ]
  refine wpAnyH_take (i := 19) (v := ?v19_14) rfl (by kernel_rfl) (by kernel_rfl) (by kernel_rfl) (fun _ _ _ h => h) (Or.inl ⟨by rfl, ?hy19_14⟩) (by assumption) ?rest19_14
  case hy19_14 => (intro w hSw; (try dsimp only at hSw); go_simp; (try with_reducible rfl))
  try simp only [Act.put, List.getElem_toArray, List.getElem_cons_zero, List.getElem_cons_succ, List.setIfInBounds_toArray, List.set_cons_zero, List.set_cons_succ]
  refine wpAnyH_take (i := 20) (v := ?v20_15) rfl (by kernel_rfl) (by kernel_rfl) (by kernel_rfl) (fun _ _ _ h => h) (Or.inl ⟨by rfl, ?hy20_15⟩) (by assumption) ?rest20_15
  case hy20_15 => (intro w hSw; (try dsimp only at hSw); go_simp; (try with_reducible rfl))
  try simp only [Act.put, List.getElem_toArray, List.getElem_cons_zero, List.getElem_cons_succ, List.setIfInBounds_toArray, List.set_cons_zero, List.set_cons_succ]
  refine wpAnyH_take (i := 21) (v := ?v21_16) rfl (by kernel_rfl) (by kernel_rfl) (by kernel_rfl) (fun _ _ _ h => h) (Or.inl ⟨by rfl, ?hy21_16⟩) (by assumption) ?rest21_16
  case hy21_16 => (intro w hSw; (try dsimp only at hSw); go_simp; (try with_reducible rfl))
  try simp only [Act.put, List.getElem_toArray, List.getElem_cons_zero, List.getElem_cons_succ, List.setIfInBounds_toArray, List.set_cons_zero, List.set_cons_succ]
  refine wpAnyH_take (i := 22) (v := ?v22_17) rfl (by kernel_rfl) (by kernel_rfl) (by kernel_rfl) (fun _ _ _ h => h) (Or.inl ⟨by rfl, ?hy22_17⟩) (by assumption) ?rest22_17
  case hy22_17 => (intro w hSw; (try dsimp only at hSw); go_simp; (try with_reducible rfl))
  try simp only [Act.put, List.getElem_toArray, List.getElem_cons_zero, List.getElem_cons_succ, List.setIfInBounds_toArray, List.set_cons_zero, List.set_cons_succ]
  refine wpAnyH_take (i := 23) (v := ?v23_18) rfl (by kernel_rfl) (by kernel_rfl) (by kernel_rfl) (fun _ _ _ h => h) (Or.inl ⟨by rfl, ?hy23_18⟩) (by assumption) ?rest23_18
  case hy23_18 => (intro w hSw; (try dsimp only at hSw); go_simp; (try with_reducible rfl))
  try simp only [Act.put, List.getElem_toArray, List.getElem_cons_zero, List.getElem_cons_succ, List.setIfInBounds_toArray, List.set_cons_zero, List.set_cons_succ]
  refine wpAnyH_take (i := 24) (v := ?v24_19) rfl (by kernel_rfl) (by kernel_rfl) (by kernel_rfl) (fun _ _ _ h => h) (Or.inl ⟨by rfl, ?hy24_19⟩) (by assumption) ?rest24_19
  case hy24_19 => (intro w hSw; (try dsimp only at hSw); go_simp; (try with_reducible rfl))
  try simp only [Act.put, List.getElem_toArray, List.getElem_cons_zero, List.getElem_cons_succ, List.setIfInBounds_toArray, List.set_cons_zero, List.set_cons_succ]
  refine wpAnyH_take (i := 25) (v := ?v25_20) rfl (by kernel_rfl) (by kernel_rfl) (by kernel_rfl) (fun _ _ _ h => h) (Or.inl ⟨by rfl, ?hy25_20⟩) (by assumption) ?rest25_20
  case hy25_20 => (intro w hSw; (try dsimp only at hSw); go_simp; (try with_reducible rfl))
  try simp only [Act.put, List.getElem_toArray, List.getElem_cons_zero, List.getElem_cons_succ, List.setIfInBounds_toArray, List.set_cons_zero, List.set_cons_succ]
  refine wpAnyH_take (i := 26) (v := ?v26_21) rfl (by kernel_rfl) (by kernel_rfl) (by kernel_rfl) (fun _ _ _ h => h) (Or.inl ⟨by rfl, ?hy26_21⟩) (by assumption) ?rest26_21
  case hy26_21 => (intro w hSw; (try dsimp only at hSw); go_simp; (try with_reducible rfl))
  try simp only [Act.put, List.getElem_toArray, List.getElem_cons_zero, List.getElem_cons_succ, List.setIfInBounds_toArray, List.set_cons_zero, List.set_cons_succ]
  refine wpAnyH_take (i := 27) (v := ?v27_22) rfl (by kernel_rfl) (by kernel_rfl) (by kernel_rfl) (fun _ _ _ h => h) (Or.inl ⟨by rfl, ?hy27_22⟩) (by assumption) ?rest27_22
  case hy27_22 => (intro w hSw; (try dsimp only at hSw); go_simp; (try with_reducible rfl))
  try simp only [Act.put, List.getElem_toArray, List.getElem_cons_zero, List.getElem_cons_succ, List.setIfInBounds_toArray, List.set_cons_zero, List.set_cons_succ]
  refine wpAnyH_done (by kernel_rfl) ?_ _
  change wpList _ _ _ _ _ _
  simp only [List.drop_succ_cons, List.drop_zero]
  have bV := bW.trans ((BE.out.trans (hHeld.2.2.2.2.mono BE.out.size)).mono bW.size)
  clear hHeld HS HSL BE
  go_wp2
  go_ret
  exact ⟨rfl, bV⟩

end Go.Proofs.Ytdmbkhmhaininaa
