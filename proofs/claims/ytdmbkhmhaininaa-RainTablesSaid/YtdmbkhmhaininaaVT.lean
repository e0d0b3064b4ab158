/-
  RainTables, walked.
-/
import Derived.Test.YtdmbkhmhaininaaJ
import Derived.Test.YtdmbkhmhaininaaWK
namespace Go.Proofs.Ytdmbkhmhaininaa
open Go.RowKit
set_option linter.unusedVariables false
set_option linter.unusedSimpArgs false

theorem tT_110 : tabC 3 tZ 110 = 0 := by decide +kernel
theorem tT_109 : tabC 3 tZ 109 = 3 := by decide +kernel
set_option maxRecDepth 100000 in
set_option maxHeartbeats 6400000 in
theorem RainTables_big (la : Option Addr) (ln lc : Nat) (ra : Option Addr) (rn rc : Nat) (ml mh il ih al ah : Int) (most z : Int) (w : World) (hb : ln ≤ maxLen ∧ rn ≤ maxLen) (h : 100 < ln ∨ 100 < rn) :
    Calls Try.prog 3 #[.agg #[.slice la ln lc, .slice ra rn rc, .int .i64 ml, .int .i64 mh, .int .i64 il, .int .i64 ih, .int .i64 al, .int .i64 ah], .int .i64 most, .int .i64 z] w fun e w' => e = .returned (.bool true) ∧ Below w.heap.size w w' := by
  unfold maxLen at hb
  have M := Lib.hid (MdW.new w 26 la ln lc ra rn rc ml mh il ih al ah)
  by_cases h1 : 100 < ln
  · have d1 : decide (100 < (ln : Int)) = true := decide_eq_true (by omega)
    have d2 : decide (100 < ln) = true := decide_eq_true h1
    clear h
    go_enter Try.func3, Try.ntmps3
    go_wp2_with fail
    refine (works_any _).mono ?_; rintro e X ⟨rfl, hbX⟩
    have bX := (below_alloc w (.cells #[.slice la ln lc, .slice ra rn rc, .int .i64 ml, .int .i64 mh, .int .i64 il, .int .i64 ih, .int .i64 al, .int .i64 ah] 26)).trans (hbX.mono (by simp))
    go_wp2
    go_ret
    exact ⟨rfl, bX⟩
  · have h2 : 100 < rn := by omega
    have d1 : decide (100 < (ln : Int)) = false := decide_eq_false (by omega)
    have d3 : decide (100 < (rn : Int)) = true := decide_eq_true (by omega)
    clear h
    go_enter Try.func3, Try.ntmps3
    go_wp2_with fail
    refine (works_any _).mono ?_; rintro e X ⟨rfl, hbX⟩
    have bX := (below_alloc w (.cells #[.slice la ln lc, .slice ra rn rc, .int .i64 ml, .int .i64 mh, .int .i64 il, .int .i64 ih, .int .i64 al, .int .i64 ah] 26)).trans (hbX.mono (by simp))
    go_wp2
    go_ret
    exact ⟨rfl, bX⟩
set_option maxRecDepth 100000 in
set_option maxHeartbeats 12800000 in
theorem RainTables_few (la : Option Addr) (ln lc : Nat) (ra : Option Addr) (rn rc : Nat) (ml mh il ih al ah : Int) (lz rz : Nat → Int × Int) (most z : Int) (w : World) (hl1 : ln ≤ 100) (hl2 : rn ≤ 100) (sl : SliceIs w la ln lc lz) (sr : SliceIs w ra rn rc rz) :
    Calls Try.prog 3 #[.agg #[.slice la ln lc, .slice ra rn rc, .int .i64 ml, .int .i64 mh, .int .i64 il, .int .i64 ih, .int .i64 al, .int .i64 ah], .int .i64 most, .int .i64 z] w fun e w' => e = .returned (.bool true) ∧ Below w.heap.size w w' := by
  have d1 : decide (100 < (ln : Int)) = false := decide_eq_false (by omega)
  have d2 : decide (100 < (rn : Int)) = false := decide_eq_false (by omega)
  have HC1 := Lib.hid (fun W (hW : Below w.heap.size w W) => CheckTable_any la ln lc lz most W (sl.keep hW))
  have HP1 := Lib.hid (fun W (hW : Below w.heap.size w W) => points_any la ln lc lz W (by omega) (sl.keep hW))
  have HC2 := Lib.hid (fun (a1 : Option Addr) (c1 : Nat) W (h : SliceIs W a1 ln c1 lz) => refCheckTable_any a1 ln c1 lz most W h)
  have HM1 := Lib.hid (fun W (hW : Below w.heap.size w W) => CheckModel_any la ln lc ra rn rc ml mh il ih al ah lz rz W (sl.keep hW) (sr.keep hW))
  have HMd := Lib.hid (fun W (hW : Below w.heap.size w W) => model_any la ln lc ra rn rc ml mh il ih al ah lz rz W (by omega) (by omega) (sl.keep hW) (sr.keep hW))
  have HM2 := Lib.hid (fun (a1 : Option Addr) (c1 : Nat) (a2 : Option Addr) (c2 : Nat) W (h : SliceIs W a1 ln c1 lz) (h2 : SliceIs W a2 rn c2 rz) => refCheckModel_any a1 ln c1 a2 rn c2 ml mh il ih al ah lz rz W h h2)
  have HV1 := Lib.hid (fun W (hW : Below w.heap.size w W) => Value_any ra rn rc rz z W (sr.keep hW))
  have HP2 := Lib.hid (fun W (hW : Below w.heap.size w W) => points_any ra rn rc rz W (by omega) (sr.keep hW))
  have HV2 := Lib.hid (fun (a1 : Option Addr) (c1 : Nat) W (h : SliceIs W a1 rn c1 rz) => refValue_any a1 rn c1 rz z W h)
  have HT1 := Lib.hid (fun (b : Nat) W (hs : SpansAt W b 0 3 tZ) (hb : b < W.heap.size) => show Calls Try.prog 14 #[.slice (some ⟨b, 0, none⟩) 3 3, .int .i64 110] W fun e w' => e = .returned (.int .i64 0) ∧ Below W.heap.size W w' from by rw [← tT_110]; exact CheckTable_any _ 3 3 tZ 110 W (.inr ⟨b, 0, rfl, hb, hs⟩))
  have HT2 := Lib.hid (fun (b : Nat) W (hs : SpansAt W b 0 3 tZ) (hb : b < W.heap.size) => show Calls Try.prog 14 #[.slice (some ⟨b, 0, none⟩) 3 3, .int .i64 109] W fun e w' => e = .returned (.int .i64 3) ∧ Below W.heap.size W w' from by rw [← tT_109]; exact CheckTable_any _ 3 3 tZ 109 W (.inr ⟨b, 0, rfl, hb, hs⟩))
  have HT3 := Lib.hid (fun W => CheckTable_few none 0 0 1 W (by decide))
  clear sl sr
  generalize tabC ln lz most = eT at *
  generalize mdE ln lz rn rz ml mh il ih al ah = eM at *
  generalize vL rn rz z = vl at *
  generalize vH rn rz z = vh at *
  generalize vE rn rz z = ve at *
  have n1 : (eT != eT) = false := by simp
  have n2 : (eM != eM) = false := by simp
  have n3 : (ve == ve) = true := by simp
  have M := Lib.hid (MdW.new w 26 la ln lc ra rn rc ml mh il ih al ah)
  have bA : Below w.heap.size w (w.alloc (.cells #[.slice la ln lc, .slice ra rn rc, .int .i64 ml, .int .i64 mh, .int .i64 il, .int .i64 ih, .int .i64 al, .int .i64 ah] 26)) := below_alloc _ _
  obtain ⟨A, hA⟩ : ∃ A, A = w.alloc (.cells #[.slice la ln lc, .slice ra rn rc, .int .i64 ml, .int .i64 mh, .int .i64 il, .int .i64 ih, .int .i64 al, .int .i64 ah] 26) := ⟨_, rfl⟩
  go_enter Try.func3, Try.ntmps3
  go_wp2_with fail
  rw [← hA] at M bA ⊢
  clear hA
  have bA := bA.drew
  obtain ⟨k0, k1, k2, k3, k4, k5, k6, k7, hz, hbw⟩ := M.out
  have HS := Lib.hid (show (fun w' : World => w'.cell? ⟨w.heap.size, 0, none⟩ = some (.slice la ln lc) ∧ w'.cell? ⟨w.heap.size, 1, none⟩ = some (.slice ra rn rc) ∧ w'.cell? ⟨w.heap.size, 2, none⟩ = some (.int .i64 ml) ∧ w'.cell? ⟨w.heap.size, 3, none⟩ = some (.int .i64 mh) ∧ w'.cell? ⟨w.heap.size, 4, none⟩ = some (.int .i64 il) ∧ w'.cell? ⟨w.heap.size, 5, none⟩ = some (.int .i64 ih) ∧ w'.cell? ⟨w.heap.size, 6, none⟩ = some (.int .i64 al) ∧ w'.cell? ⟨w.heap.size, 7, none⟩ = some (.int .i64 ah) ∧ Below A.drew.heap.size A.drew w') A.drew from ⟨k0, k1, k2, k3, k4, k5, k6, k7, Below.refl _ _⟩)
  clear k0 k1 k2 k3 k4 k5 k6 k7 hz hbw
  refine wp_region_held_tail (S := (fun w' : World => w'.cell? ⟨w.heap.size, 0, none⟩ = some (.slice la ln lc) ∧ w'.cell? ⟨w.heap.size, 1, none⟩ = some (.slice ra rn rc) ∧ w'.cell? ⟨w.heap.size, 2, none⟩ = some (.int .i64 ml) ∧ w'.cell? ⟨w.heap.size, 3, none⟩ = some (.int .i64 mh) ∧ w'.cell? ⟨w.heap.size, 4, none⟩ = some (.int .i64 il) ∧ w'.cell? ⟨w.heap.size, 5, none⟩ = some (.int .i64 ih) ∧ w'.cell? ⟨w.heap.size, 6, none⟩ = some (.int .i64 al) ∧ w'.cell? ⟨w.heap.size, 7, none⟩ = some (.int .i64 ah) ∧ Below A.drew.heap.size A.drew w')) 17 (by kernel_rfl) (by kernel_rfl) HS.out (fun hHeld => ?_)
  refine wpAnyH_take (i := 0) (v := ?v0_1) rfl (by kernel_rfl) (by kernel_rfl) (by kernel_rfl) (fun _ _ _ h => h) (Or.inl ⟨by rfl, ?hy0_1⟩) (by assumption) ?rest0_1
  case hy0_1 => (intro w hSw; (try dsimp only at hSw); go_simp; (try with_reducible rfl))
  try simp only [Act.put, List.getElem_toArray, List.getElem_cons_zero, List.getElem_cons_succ, List.setIfInBounds_toArray, List.set_cons_zero, List.set_cons_succ]
  refine wpAnyH_take (i := 1) (v := ?v1_2) rfl (by kernel_rfl) (by kernel_rfl) (by kernel_rfl) (fun _ _ _ h => h) (Or.inl ⟨by rfl, ?hy1_2⟩) (by assumption) ?rest1_2
  case hy1_2 => (intro w hSw; (try dsimp only at hSw); go_simp; (try with_reducible rfl))
  try simp only [Act.put, List.getElem_toArray, List.getElem_cons_zero, List.getElem_cons_succ, List.setIfInBounds_toArray, List.set_cons_zero, List.set_cons_succ]
  refine wpAnyH_take (i := 2) (v := ?v2_3) rfl (by kernel_rfl) (by kernel_rfl) (by kernel_rfl) (fun _ _ _ h => h) (Or.inl ⟨by rfl, ?hy2_3⟩) (by assumption) ?rest2_3
  case hy2_3 => (intro w hSw; (try dsimp only at hSw); go_simp; (try with_reducible rfl))
  try simp only [Act.put, List.getElem_toArray, List.getElem_cons_zero, List.getElem_cons_succ, List.setIfInBounds_toArray, List.set_cons_zero, List.set_cons_succ]
  refine wpAnyH_take (i := 4) (v := ?v4_4) rfl (by kernel_rfl) (by kernel_rfl) (by kernel_rfl) (fun _ _ _ h => h) (Or.inl ⟨by rfl, ?hy4_4⟩) (by assumption) ?rest4_4
  case hy4_4 => (intro w hSw; (try dsimp only at hSw); go_simp; (try with_reducible rfl))
  try simp only [Act.put, List.getElem_toArray, List.getElem_cons_zero, List.getElem_cons_succ, List.setIfInBounds_toArray, List.set_cons_zero, List.set_cons_succ]
  refine wpAnyH_take (i := 5) (v := ?v5_5) rfl (by kernel_rfl) (by kernel_rfl) (by kernel_rfl) (fun _ _ _ h => h) (Or.inl ⟨by rfl, ?hy5_5⟩) (by assumption) ?rest5_5
  case hy5_5 => (intro w hSw; (try dsimp only at hSw); go_simp; (try with_reducible rfl))
  try simp only [Act.put, List.getElem_toArray, List.getElem_cons_zero, List.getElem_cons_succ, List.setIfInBounds_toArray, List.set_cons_zero, List.set_cons_succ]
  refine wpAnyH_take (i := 7) (v := ?v7_6) rfl (by kernel_rfl) (by kernel_rfl) (by kernel_rfl) (fun _ _ _ h => h) (Or.inl ⟨by rfl, ?hy7_6⟩) (by assumption) ?rest7_6
  case hy7_6 => (intro w hSw; (try dsimp only at hSw); go_simp; (try with_reducible rfl))
  try simp only [Act.put, List.getElem_toArray, List.getElem_cons_zero, List.getElem_cons_succ, List.setIfInBounds_toArray, List.set_cons_zero, List.set_cons_succ]
  refine wpAnyH_ready (rs := [3]) (by kernel_rfl) (by simp) ?_
  refine AllReadyH.cons rfl (fun K hK => ?_) AllReadyH.nil
  go_simp; go_at_call 14; refine (HC1.out _ (hHeld.2.2.2.2.2.2.2.2.mono bA.size |> bA.trans)).mono ?_; rintro e' w' ⟨rfl, hb'⟩
  refine hK.out _ _ (⟨keepW hb' hHeld.1, keepW hb' hHeld.2.1, keepW hb' hHeld.2.2.1, keepW hb' hHeld.2.2.2.1, keepW hb' hHeld.2.2.2.2.1, keepW hb' hHeld.2.2.2.2.2.1, keepW hb' hHeld.2.2.2.2.2.2.1, keepW hb' hHeld.2.2.2.2.2.2.2.1, hHeld.2.2.2.2.2.2.2.2.trans (hb'.mono hHeld.2.2.2.2.2.2.2.2.size)⟩) (fun hHeld2 => ?_)
  clear hK K hHeld hb'
  have hHeld := hHeld2
  clear hHeld2
  try simp only [Act.put, List.getElem_toArray, List.getElem_cons_zero, List.getElem_cons_succ, List.setIfInBounds_toArray, List.set_cons_zero, List.set_cons_succ]
  refine wpAnyH_ready (rs := [6]) (by kernel_rfl) (by simp) ?_
  refine AllReadyH.cons rfl (fun K hK => ?_) AllReadyH.nil
  go_simp; go_at_call 16; refine (HP1.out _ (hHeld.2.2.2.2.2.2.2.2.mono bA.size |> bA.trans)).mono ?_; rintro e' w' ⟨a1, c1, rfl, hs1, hb'⟩
  refine hK.out _ _ (⟨keepW hb' hHeld.1, keepW hb' hHeld.2.1, keepW hb' hHeld.2.2.1, keepW hb' hHeld.2.2.2.1, keepW hb' hHeld.2.2.2.2.1, keepW hb' hHeld.2.2.2.2.2.1, keepW hb' hHeld.2.2.2.2.2.2.1, keepW hb' hHeld.2.2.2.2.2.2.2.1, hHeld.2.2.2.2.2.2.2.2.trans (hb'.mono hHeld.2.2.2.2.2.2.2.2.size)⟩) (fun hHeld2 => ?_)
  clear hK K hHeld hb'
  have hHeld := hHeld2
  clear hHeld2
  try simp only [Act.put, List.getElem_toArray, List.getElem_cons_zero, List.getElem_cons_succ, List.setIfInBounds_toArray, List.set_cons_zero, List.set_cons_succ]
  refine wpAnyH_ready (rs := [8]) (by kernel_rfl) (by simp) ?_
  refine AllReadyH.cons rfl (fun K hK => ?_) AllReadyH.nil
  go_simp; go_at_call 15; refine (HC2.out _ _ _ hs1).mono ?_; rintro e' w' ⟨rfl, hb'⟩
  refine hK.out _ _ (⟨keepW hb' hHeld.1, keepW hb' hHeld.2.1, keepW hb' hHeld.2.2.1, keepW hb' hHeld.2.2.2.1, keepW hb' hHeld.2.2.2.2.1, keepW hb' hHeld.2.2.2.2.2.1, keepW hb' hHeld.2.2.2.2.2.2.1, keepW hb' hHeld.2.2.2.2.2.2.2.1, hHeld.2.2.2.2.2.2.2.2.trans (hb'.mono hHeld.2.2.2.2.2.2.2.2.size)⟩) (fun hHeld2 => ?_)
  clear hK K hHeld hb'
  have hHeld := hHeld2
  clear hHeld2
  try simp only [Act.put, List.getElem_toArray, List.getElem_cons_zero, List.getElem_cons_succ, List.setIfInBounds_toArray, List.set_cons_zero, List.set_cons_succ]
  refine wpAnyH_take (i := 9) (v := ?v9_7) rfl (by kernel_rfl) (by kernel_rfl) (by kernel_rfl) (fun _ _ _ h => h) (Or.inl ⟨by rfl, ?hy9_7⟩) (by assumption) ?rest9_7
  case hy9_7 => (intro w hSw; (try dsimp only at hSw); go_simp; (try with_reducible rfl))
  try simp only [Act.put, List.getElem_toArray, List.getElem_cons_zero, List.getElem_cons_succ, List.setIfInBounds_toArray, List.set_cons_zero, List.set_cons_succ]
  refine wpAnyH_take (i := 10) (v := ?v10_8) rfl (by kernel_rfl) (by kernel_rfl) (by kernel_rfl) (fun _ _ _ h => h) (Or.inl ⟨by rfl, ?hy10_8⟩) (by assumption) ?rest10_8
  case hy10_8 => (intro w hSw; (try dsimp only at hSw); go_simp; (try with_reducible rfl))
  try simp only [Act.put, List.getElem_toArray, List.getElem_cons_zero, List.getElem_cons_succ, List.setIfInBounds_toArray, List.set_cons_zero, List.set_cons_succ]
  refine wpAnyH_take (i := 11) (v := ?v11_9) rfl (by kernel_rfl) (by kernel_rfl) (by kernel_rfl) (fun _ _ _ h => h) (Or.inl ⟨by rfl, ?hy11_9⟩) (by assumption) ?rest11_9
  case hy11_9 => (intro w hSw; (try dsimp only at hSw); go_simp; (try with_reducible rfl))
  try simp only [Act.put, List.getElem_toArray, List.getElem_cons_zero, List.getElem_cons_succ, List.setIfInBounds_toArray, List.set_cons_zero, List.set_cons_succ]
  refine wpAnyH_take (i := 13) (v := ?v13_10) rfl (by kernel_rfl) (by kernel_rfl) (by kernel_rfl) (fun _ _ _ h => h) (Or.inl ⟨by rfl, ?hy13_10⟩) (by assumption) ?rest13_10
  case hy13_10 => (intro w hSw; (try dsimp only at hSw); go_simp; (try with_reducible rfl))
  try simp only [Act.put, List.getElem_toArray, List.getElem_cons_zero, List.getElem_cons_succ, List.setIfInBounds_toArray, List.set_cons_zero, List.set_cons_succ]
  refine wpAnyH_ready (rs := [12]) (by kernel_rfl) (by simp) ?_
  refine AllReadyH.cons rfl (fun K hK => ?_) AllReadyH.nil
  go_simp; go_at_call 17; refine (HM1.out _ (hHeld.2.2.2.2.2.2.2.2.mono bA.size |> bA.trans)).mono ?_; rintro e' w' ⟨rfl, hb'⟩
  refine hK.out _ _ (⟨keepW hb' hHeld.1, keepW hb' hHeld.2.1, keepW hb' hHeld.2.2.1, keepW hb' hHeld.2.2.2.1, keepW hb' hHeld.2.2.2.2.1, keepW hb' hHeld.2.2.2.2.2.1, keepW hb' hHeld.2.2.2.2.2.2.1, keepW hb' hHeld.2.2.2.2.2.2.2.1, hHeld.2.2.2.2.2.2.2.2.trans (hb'.mono hHeld.2.2.2.2.2.2.2.2.size)⟩) (fun hHeld2 => ?_)
  clear hK K hHeld hb'
  have hHeld := hHeld2
  clear hHeld2
  try simp only [Act.put, List.getElem_toArray, List.getElem_cons_zero, List.getElem_cons_succ, List.setIfInBounds_toArray, List.set_cons_zero, List.set_cons_succ]
  refine wpAnyH_ready (rs := [14]) (by kernel_rfl) (by simp) ?_
  refine AllReadyH.cons rfl (fun K hK => ?_) AllReadyH.nil
  go_simp; go_at_call 19; refine (HMd.out _ (hHeld.2.2.2.2.2.2.2.2.mono bA.size |> bA.trans)).mono ?_; rintro e' w' ⟨a2, c2, a3, c3, rfl, hs2, hs3, hb'⟩
  refine hK.out _ _ (⟨keepW hb' hHeld.1, keepW hb' hHeld.2.1, keepW hb' hHeld.2.2.1, keepW hb' hHeld.2.2.2.1, keepW hb' hHeld.2.2.2.2.1, keepW hb' hHeld.2.2.2.2.2.1, keepW hb' hHeld.2.2.2.2.2.2.1, keepW hb' hHeld.2.2.2.2.2.2.2.1, hHeld.2.2.2.2.2.2.2.2.trans (hb'.mono hHeld.2.2.2.2.2.2.2.2.size)⟩) (fun hHeld2 => ?_)
  clear hK K hHeld hb'
  have hHeld := hHeld2
  clear hHeld2
  try simp only [Act.put, List.getElem_toArray, List.getElem_cons_zero, List.getElem_cons_succ, List.setIfInBounds_toArray, List.set_cons_zero, List.set_cons_succ]
  refine wpAnyH_ready (rs := [15]) (by kernel_rfl) (by simp) ?_
  refine AllReadyH.cons rfl (fun K hK => ?_) AllReadyH.nil
  go_simp; go_at_call 18; refine (HM2.out _ _ _ _ _ hs2 hs3).mono ?_; rintro e' w' ⟨rfl, hb'⟩
  refine hK.out _ _ (⟨keepW hb' hHeld.1, keepW hb' hHeld.2.1, keepW hb' hHeld.2.2.1, keepW hb' hHeld.2.2.2.1, keepW hb' hHeld.2.2.2.2.1, keepW hb' hHeld.2.2.2.2.2.1, keepW hb' hHeld.2.2.2.2.2.2.1, keepW hb' hHeld.2.2.2.2.2.2.2.1, hHeld.2.2.2.2.2.2.2.2.trans (hb'.mono hHeld.2.2.2.2.2.2.2.2.size)⟩) (fun hHeld2 => ?_)
  clear hK K hHeld hb'
  have hHeld := hHeld2
  clear hHeld2
  try simp only [Act.put, List.getElem_toArray, List.getElem_cons_zero, List.getElem_cons_succ, List.setIfInBounds_toArray, List.set_cons_zero, List.set_cons_succ]
  refine wpAnyH_take (i := 16) (v := ?v16_11) rfl (by kernel_rfl) (by kernel_rfl) (by kernel_rfl) (fun _ _ _ h => h) (Or.inl ⟨by rfl, ?hy16_11⟩) (by assumption) ?rest16_11
  case hy16_11 => (intro w hSw; (try dsimp only at hSw); go_simp; (try with_reducible rfl))
  try simp only [Act.put, List.getElem_toArray, List.getElem_cons_zero, List.getElem_cons_succ, List.setIfInBounds_toArray, List.set_cons_zero, List.set_cons_succ]
  refine wpAnyH_done (by kernel_rfl) ?_ _
  change wpList _ _ _ _ _ _
  simp only [List.drop_succ_cons, List.drop_zero]
  rename World => B
  have M := Lib.hid (M.out.keep ((Below.refl A.heap.size A).drew.trans hHeld.2.2.2.2.2.2.2.2))
  clear hHeld HS HC1 HP1 HC2 HM1 HMd HM2 hs1 hs2 hs3
  obtain ⟨k0, k1, k2, k3, k4, k5, k6, k7, hz, hbw⟩ := M.out
  go_wp2_with fail
  refine (HV1.out _ hbw).mono ?_; rintro e C ⟨rfl, hb1⟩
  have M := Lib.hid (M.out.keep hb1)
  have x0 : (C.alloc (.cells #[.int .i64 vl, .int .i64 vh] 24)).cell? ⟨C.heap.size, 0, none⟩ = some (.int .i64 vl) := alloc_new rfl rfl
  have x1 : (C.alloc (.cells #[.int .i64 vl, .int .i64 vh] 24)).cell? ⟨C.heap.size, 1, none⟩ = some (.int .i64 vh) := alloc_new rfl rfl
  have xz : C.heap.size < (C.alloc (.cells #[.int .i64 vl, .int .i64 vh] 24)).heap.size := by rw [World.size_alloc]; omega
  have M := Lib.hid (M.out.keep (below_alloc C (.cells #[.int .i64 vl, .int .i64 vh] 24)))
  obtain ⟨C1, hC1⟩ : ∃ V, V = C.alloc (.cells #[.int .i64 vl, .int .i64 vh] 24) := ⟨_, rfl⟩
  rw [← hC1] at x0 x1 xz M
  have hC1' := hC1
  have zC : w.heap.size < C.heap.size := Nat.lt_of_lt_of_le hz hb1.size
  have k1c := keepB hb1 hz k1
  clear k0 k1 k2 k3 k4 k5 k6 k7 hz hbw hb1 HV1
  go_wp2_with fail
  rw [← hC1]
  clear hC1 hC1' k1c
  obtain ⟨k0, k1, k2, k3, k4, k5, k6, k7, hz, hbw⟩ := M.out
  refine (HP2.out _ hbw).mono ?_; rintro e D ⟨a4, c4, rfl, hs4, hb1⟩
  have M := Lib.hid (M.out.keep hb1)
  have x0 := keepB hb1 xz x0
  have x1 := keepB hb1 xz x1
  have xz := Nat.lt_of_lt_of_le xz hb1.size
  clear k0 k1 k2 k3 k4 k5 k6 k7 hz hbw hb1 HP2
  obtain ⟨k0, k1, k2, k3, k4, k5, k6, k7, hz, hbw⟩ := M.out
  go_wp2_with fail
  refine (HV2.out _ _ _ hs4).mono ?_; rintro e E ⟨rfl, hb1⟩
  have M := Lib.hid (M.out.keep hb1)
  have x0 := keepB hb1 xz x0
  have x1 := keepB hb1 xz x1
  have xz := Nat.lt_of_lt_of_le xz hb1.size
  clear k0 k1 k2 k3 k4 k5 k6 k7 hz hbw hb1 HV2 hs4
  obtain ⟨k0, k1, k2, k3, k4, k5, k6, k7, hz, hbw⟩ := M.out
  clear n1 n2 n3 d1 d2 hl1 hl2
  have bE := hbw.trans ((below_alloc E (.cells #[.int .i64 vl, .int .i64 vh] 24)).mono hbw.size)
  obtain ⟨E1, hE1⟩ : ∃ V, V = E.alloc (.cells #[.int .i64 vl, .int .i64 vh] 24) := ⟨_, rfl⟩
  rw [← hE1] at bE
  go_wp2_with fail
  rw [← hE1]
  clear hE1
  refine (T_any _).mono ?_; rintro e F ⟨rfl, sT, zT, hb1⟩
  have bF := bE.trans (hb1.mono bE.size)
  clear hb1
  go_wp2_with fail
  refine (HT1.out _ _ sT zT).mono ?_; rintro e G ⟨rfl, hb1⟩
  have bG := bF.trans (hb1.mono bF.size)
  clear hb1 sT zT
  go_wp2_with fail
  refine (T_any _).mono ?_; rintro e F2 ⟨rfl, sT, zT, hb1⟩
  have bF2 := bG.trans (hb1.mono bG.size)
  clear hb1
  go_wp2_with fail
  refine (HT2.out _ _ sT zT).mono ?_; rintro e G2 ⟨rfl, hb1⟩
  have bG2 := bF2.trans (hb1.mono bF2.size)
  clear hb1 sT zT
  go_wp2_with fail
  refine (HT3.out _).mono ?_; rintro e G3 ⟨rfl, hb1⟩
  have bG3 := bG2.trans (hb1.mono bG2.size)
  clear hb1
  go_wp2_with fail
  refine (works_any _).mono ?_; rintro e G4 ⟨rfl, hb1⟩
  have bG4 := bG3.trans (hb1.mono bG3.size)
  clear hb1
  go_wp2
  go_ret
  exact ⟨rfl, bG4⟩
theorem RainTables_walk (la : Option Addr) (ln lc : Nat) (ra : Option Addr) (rn rc : Nat) (ml mh il ih al ah : Int) (lz rz : Nat → Int × Int) (most z : Int) (w : World) (hb : ln ≤ maxLen ∧ rn ≤ maxLen) (sl : SliceIs w la ln lc lz) (sr : SliceIs w ra rn rc rz) (wf1 : (Lit.int .i64 most).wf = true) (wf2 : (Lit.int .i64 z).wf = true) :
    Calls Try.prog 3 #[.agg #[.slice la ln lc, .slice ra rn rc, .int .i64 ml, .int .i64 mh, .int .i64 il, .int .i64 ih, .int .i64 al, .int .i64 ah], .int .i64 most, .int .i64 z] w fun e w' => e = .returned (.bool true) ∧ Below w.heap.size w w' := by
  by_cases h : 100 < ln ∨ 100 < rn
  · exact RainTables_big la ln lc ra rn rc ml mh il ih al ah most z w hb h
  · exact RainTables_few la ln lc ra rn rc ml mh il ih al ah lz rz most z w (by omega) (by omega) sl sr

end Go.Proofs.Ytdmbkhmhaininaa
