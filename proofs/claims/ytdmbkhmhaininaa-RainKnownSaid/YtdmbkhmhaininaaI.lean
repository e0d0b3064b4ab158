/-
  Models.
-/
import Derived.Test.YtdmbkhmhaininaaE
import Derived.Test.YtdmbkhmhaininaaP2
import Derived.Test.YtdmbkhmhaininaaF
namespace Go.Proofs.Ytdmbkhmhaininaa
open Go.RowKit
set_option linter.unusedVariables false
set_option linter.unusedSimpArgs false

/-- a model in its box -/
structure MdW (w W : World) (la : Option Addr) (ln lc : Nat) (ra : Option Addr) (rn rc : Nat) (ml mh il ih al ah : Int) : Prop where
  c0 : W.cell? ⟨w.heap.size, 0, none⟩ = some (.slice la ln lc)
  c1 : W.cell? ⟨w.heap.size, 1, none⟩ = some (.slice ra rn rc)
  c2 : W.cell? ⟨w.heap.size, 2, none⟩ = some (.int .i64 ml)
  c3 : W.cell? ⟨w.heap.size, 3, none⟩ = some (.int .i64 mh)
  c4 : W.cell? ⟨w.heap.size, 4, none⟩ = some (.int .i64 il)
  c5 : W.cell? ⟨w.heap.size, 5, none⟩ = some (.int .i64 ih)
  c6 : W.cell? ⟨w.heap.size, 6, none⟩ = some (.int .i64 al)
  c7 : W.cell? ⟨w.heap.size, 7, none⟩ = some (.int .i64 ah)
  z : w.heap.size < W.heap.size
  b : Below w.heap.size w W
theorem MdW.keep {w W w1 : World} {la : Option Addr} {ln lc : Nat} {ra : Option Addr} {rn rc : Nat} {ml mh il ih al ah : Int} (R : MdW w W la ln lc ra rn rc ml mh il ih al ah) (hb : Below W.heap.size W w1) : MdW w w1 la ln lc ra rn rc ml mh il ih al ah :=
  ⟨keepB hb R.z R.c0, keepB hb R.z R.c1, keepB hb R.z R.c2, keepB hb R.z R.c3, keepB hb R.z R.c4, keepB hb R.z R.c5, keepB hb R.z R.c6, keepB hb R.z R.c7, Nat.lt_of_lt_of_le R.z hb.size, R.b.trans (hb.mono R.b.size)⟩
theorem MdW.new (w : World) (T : TypeId) (la : Option Addr) (ln lc : Nat) (ra : Option Addr) (rn rc : Nat) (ml mh il ih al ah : Int) : MdW w (w.alloc (.cells #[.slice la ln lc, .slice ra rn rc, .int .i64 ml, .int .i64 mh, .int .i64 il, .int .i64 ih, .int .i64 al, .int .i64 ah] T)) la ln lc ra rn rc ml mh il ih al ah :=
  ⟨alloc_new rfl rfl, alloc_new rfl rfl, alloc_new rfl rfl, alloc_new rfl rfl, alloc_new rfl rfl, alloc_new rfl rfl, alloc_new rfl rfl, alloc_new rfl rfl, by rw [World.size_alloc]; omega, below_alloc _ _⟩
/-- the error of a model -/
def mdE (ln : Nat) (lz : Nat → Int × Int) (rn : Nat) (rz : Nat → Int × Int) (ml mh il ih al ah : Int) : Int :=
  if tabC ln lz 32768 = 0 then (if tabC rn rz 1000000 = 0 then (if spanB ml mh 0 20000 && spanB il ih 0 100000 && spanB al ah 0 100000 then 0 else 3) else tabC rn rz 1000000) else tabC ln lz 32768

set_option maxHeartbeats 3200000 in
theorem CheckModel_a (la : Option Addr) (ln lc : Nat) (ra : Option Addr) (rn rc : Nat) (ml mh il ih al ah : Int) (lz rz : Nat → Int × Int) (e0 : Int) (w : World) (sl : SliceIs w la ln lc lz) (sr : SliceIs w ra rn rc rz) (hL : tabC ln lz 32768 = e0) (he : e0 ≠ 0) :
    Calls Try.prog 17 #[.agg #[.slice la ln lc, .slice ra rn rc, .int .i64 ml, .int .i64 mh, .int .i64 il, .int .i64 ih, .int .i64 al, .int .i64 ah]] w fun e w' => e = .returned (.int .i64 e0) ∧ Below w.heap.size w w' := by
  have HL := Lib.hid (fun W (hW : Below w.heap.size w W) => show Calls Try.prog 14 #[.slice la ln lc, .int .i64 32768] W fun e w' => e = .returned (.int .i64 e0) ∧ Below W.heap.size W w' from by rw [← hL]; exact CheckTable_any la ln lc lz 32768 W (sl.keep hW))
  have hne : (e0 != 0) = true := bne_iff_ne.2 he
  have hne2 : (e0 == 0) = false := beq_eq_false_iff_ne.2 he
  clear sl sr hL he
  have M := Lib.hid (MdW.new w 26 la ln lc ra rn rc ml mh il ih al ah)
  have bw0 : Below w.heap.size w (w.alloc (.cells #[.slice la ln lc, .slice ra rn rc, .int .i64 ml, .int .i64 mh, .int .i64 il, .int .i64 ih, .int .i64 al, .int .i64 ah] 26)) := below_alloc _ _
  go_enter Try.func17, Try.ntmps17
  go_wp2_with fail
  refine (HL.out _ bw0).mono ?_; rintro e X ⟨rfl, hb1⟩
  have M := Lib.hid (M.out.keep hb1)
  clear hb1 bw0 HL
  obtain ⟨k0, k1, k2, k3, k4, k5, k6, k7, hz, hbw⟩ := M.out
  go_wp2
  go_ret
  exact ⟨rfl, hbw⟩

set_option maxHeartbeats 3200000 in
theorem CheckModel_b (la : Option Addr) (ln lc : Nat) (ra : Option Addr) (rn rc : Nat) (ml mh il ih al ah : Int) (lz rz : Nat → Int × Int) (e0 : Int) (w : World) (sl : SliceIs w la ln lc lz) (sr : SliceIs w ra rn rc rz) (hL : tabC ln lz 32768 = 0) (hR : tabC rn rz 1000000 = e0) (he : e0 ≠ 0) :
    Calls Try.prog 17 #[.agg #[.slice la ln lc, .slice ra rn rc, .int .i64 ml, .int .i64 mh, .int .i64 il, .int .i64 ih, .int .i64 al, .int .i64 ah]] w fun e w' => e = .returned (.int .i64 e0) ∧ Below w.heap.size w w' := by
  have HL := Lib.hid (fun W (hW : Below w.heap.size w W) => show Calls Try.prog 14 #[.slice la ln lc, .int .i64 32768] W fun e w' => e = .returned (.int .i64 0) ∧ Below W.heap.size W w' from by rw [← hL]; exact CheckTable_any la ln lc lz 32768 W (sl.keep hW))
  have HR := Lib.hid (fun W (hW : Below w.heap.size w W) => show Calls Try.prog 14 #[.slice ra rn rc, .int .i64 1000000] W fun e w' => e = .returned (.int .i64 e0) ∧ Below W.heap.size W w' from by rw [← hR]; exact CheckTable_any ra rn rc rz 1000000 W (sr.keep hW))
  have hne : (e0 != 0) = true := bne_iff_ne.2 he
  have hne2 : (e0 == 0) = false := beq_eq_false_iff_ne.2 he
  clear sl sr hL hR he
  have M := Lib.hid (MdW.new w 26 la ln lc ra rn rc ml mh il ih al ah)
  have bw0 : Below w.heap.size w (w.alloc (.cells #[.slice la ln lc, .slice ra rn rc, .int .i64 ml, .int .i64 mh, .int .i64 il, .int .i64 ih, .int .i64 al, .int .i64 ah] 26)) := below_alloc _ _
  go_enter Try.func17, Try.ntmps17
  go_wp2_with fail
  refine (HL.out _ bw0).mono ?_; rintro e X ⟨rfl, hb1⟩
  have M := Lib.hid (M.out.keep hb1)
  clear hb1 bw0 HL
  obtain ⟨k0, k1, k2, k3, k4, k5, k6, k7, hz, hbw⟩ := M.out
  go_wp2_with fail
  refine (HR.out _ hbw).mono ?_; rintro e Y ⟨rfl, hb1⟩
  have M := Lib.hid (M.out.keep hb1)
  clear hb1 HR k0 k1 k2 k3 k4 k5 k6 k7 hz hbw
  obtain ⟨k0, k1, k2, k3, k4, k5, k6, k7, hz, hbw⟩ := M.out
  go_wp2
  go_ret
  exact ⟨rfl, hbw⟩

set_option maxHeartbeats 3200000 in
theorem CheckModel_c (la : Option Addr) (ln lc : Nat) (ra : Option Addr) (rn rc : Nat) (ml mh il ih al ah : Int) (lz rz : Nat → Int × Int) (w : World) (sl : SliceIs w la ln lc lz) (sr : SliceIs w ra rn rc rz) (hL : tabC ln lz 32768 = 0) (hR : tabC rn rz 1000000 = 0) (hA : spanB ml mh 0 20000 = false) :
    Calls Try.prog 17 #[.agg #[.slice la ln lc, .slice ra rn rc, .int .i64 ml, .int .i64 mh, .int .i64 il, .int .i64 ih, .int .i64 al, .int .i64 ah]] w fun e w' => e = .returned (.int .i64 3) ∧ Below w.heap.size w w' := by
  have HL := Lib.hid (fun W (hW : Below w.heap.size w W) => show Calls Try.prog 14 #[.slice la ln lc, .int .i64 32768] W fun e w' => e = .returned (.int .i64 0) ∧ Below W.heap.size W w' from by rw [← hL]; exact CheckTable_any la ln lc lz 32768 W (sl.keep hW))
  have HR := Lib.hid (fun W (hW : Below w.heap.size w W) => show Calls Try.prog 14 #[.slice ra rn rc, .int .i64 1000000] W fun e w' => e = .returned (.int .i64 0) ∧ Below W.heap.size W w' from by rw [← hR]; exact CheckTable_any ra rn rc rz 1000000 W (sr.keep hW))
  have HA := Lib.hid (fun W => show Calls Try.prog 52 #[.agg #[.int .i64 ml, .int .i64 mh], .agg #[.int .i64 0, .int .i64 20000]] W fun e w' => e = .returned (.bool false) ∧ Below W.heap.size W w' from by rw [← hA]; exact isWithin_any _ _ _ _ W)
  clear sl sr hL hR hA
  have M := Lib.hid (MdW.new w 26 la ln lc ra rn rc ml mh il ih al ah)
  have bw0 : Below w.heap.size w (w.alloc (.cells #[.slice la ln lc, .slice ra rn rc, .int .i64 ml, .int .i64 mh, .int .i64 il, .int .i64 ih, .int .i64 al, .int .i64 ah] 26)) := below_alloc _ _
  go_enter Try.func17, Try.ntmps17
  go_wp2_with fail
  refine (HL.out _ bw0).mono ?_; rintro e X ⟨rfl, hb1⟩
  have M := Lib.hid (M.out.keep hb1)
  clear hb1 bw0 HL
  obtain ⟨k0, k1, k2, k3, k4, k5, k6, k7, hz, hbw⟩ := M.out
  go_wp2_with fail
  refine (HR.out _ hbw).mono ?_; rintro e Y ⟨rfl, hb1⟩
  have M := Lib.hid (M.out.keep hb1)
  clear hb1 HR k0 k1 k2 k3 k4 k5 k6 k7 hz hbw
  obtain ⟨k0, k1, k2, k3, k4, k5, k6, k7, hz, hbw⟩ := M.out
  have f0 : (Y.alloc (.cells #[.int .i64 0, .int .i64 100000] 24)).cell? ⟨Y.heap.size, 0, none⟩ = some (.int .i64 0) := alloc_new rfl rfl
  have f1 : (Y.alloc (.cells #[.int .i64 0, .int .i64 100000] 24)).cell? ⟨Y.heap.size, 1, none⟩ = some (.int .i64 100000) := alloc_new rfl rfl
  have fz : Y.heap.size < (Y.alloc (.cells #[.int .i64 0, .int .i64 100000] 24)).heap.size := by rw [World.size_alloc]; omega
  have M := Lib.hid (M.out.keep (below_alloc Y (.cells #[.int .i64 0, .int .i64 100000] 24)))
  obtain ⟨V0, hV0⟩ : ∃ V, V = Y.alloc (.cells #[.int .i64 0, .int .i64 100000] 24) := ⟨_, rfl⟩
  rw [← hV0] at f0 f1 fz M
  go_wp2_with fail
  rw [← hV0]
  clear hV0 k0 k1 k2 k3 k4 k5 k6 k7 hz hbw
  obtain ⟨k0, k1, k2, k3, k4, k5, k6, k7, hz, hbw⟩ := M.out
  refine (HA.out _).mono ?_; rintro e VA ⟨rfl, hb1⟩
  have M := Lib.hid (M.out.keep hb1)
  have f0 := keepB hb1 fz f0
  have f1 := keepB hb1 fz f1
  have fz := Nat.lt_of_lt_of_le fz hb1.size
  clear hb1 k0 k1 k2 k3 k4 k5 k6 k7 hz hbw
  obtain ⟨k0, k1, k2, k3, k4, k5, k6, k7, hz, hbw⟩ := M.out
  go_wp2
  go_ret
  exact ⟨rfl, hbw⟩

set_option maxHeartbeats 3200000 in
theorem CheckModel_d (la : Option Addr) (ln lc : Nat) (ra : Option Addr) (rn rc : Nat) (ml mh il ih al ah : Int) (lz rz : Nat → Int × Int) (w : World) (sl : SliceIs w la ln lc lz) (sr : SliceIs w ra rn rc rz) (hL : tabC ln lz 32768 = 0) (hR : tabC rn rz 1000000 = 0) (hA : spanB ml mh 0 20000 = true) (hB : spanB il ih 0 100000 = false) :
    Calls Try.prog 17 #[.agg #[.slice la ln lc, .slice ra rn rc, .int .i64 ml, .int .i64 mh, .int .i64 il, .int .i64 ih, .int .i64 al, .int .i64 ah]] w fun e w' => e = .returned (.int .i64 3) ∧ Below w.heap.size w w' := by
  have HL := Lib.hid (fun W (hW : Below w.heap.size w W) => show Calls Try.prog 14 #[.slice la ln lc, .int .i64 32768] W fun e w' => e = .returned (.int .i64 0) ∧ Below W.heap.size W w' from by rw [← hL]; exact CheckTable_any la ln lc lz 32768 W (sl.keep hW))
  have HR := Lib.hid (fun W (hW : Below w.heap.size w W) => show Calls Try.prog 14 #[.slice ra rn rc, .int .i64 1000000] W fun e w' => e = .returned (.int .i64 0) ∧ Below W.heap.size W w' from by rw [← hR]; exact CheckTable_any ra rn rc rz 1000000 W (sr.keep hW))
  have HA := Lib.hid (fun W => show Calls Try.prog 52 #[.agg #[.int .i64 ml, .int .i64 mh], .agg #[.int .i64 0, .int .i64 20000]] W fun e w' => e = .returned (.bool true) ∧ Below W.heap.size W w' from by rw [← hA]; exact isWithin_any _ _ _ _ W)
  have HB := Lib.hid (fun W => show Calls Try.prog 52 #[.agg #[.int .i64 il, .int .i64 ih], .agg #[.int .i64 0, .int .i64 100000]] W fun e w' => e = .returned (.bool false) ∧ Below W.heap.size W w' from by rw [← hB]; exact isWithin_any _ _ _ _ W)
  clear sl sr hL hR hA hB
  have M := Lib.hid (MdW.new w 26 la ln lc ra rn rc ml mh il ih al ah)
  have bw0 : Below w.heap.size w (w.alloc (.cells #[.slice la ln lc, .slice ra rn rc, .int .i64 ml, .int .i64 mh, .int .i64 il, .int .i64 ih, .int .i64 al, .int .i64 ah] 26)) := below_alloc _ _
  go_enter Try.func17, Try.ntmps17
  go_wp2_with fail
  refine (HL.out _ bw0).mono ?_; rintro e X ⟨rfl, hb1⟩
  have M := Lib.hid (M.out.keep hb1)
  clear hb1 bw0 HL
  obtain ⟨k0, k1, k2, k3, k4, k5, k6, k7, hz, hbw⟩ := M.out
  go_wp2_with fail
  refine (HR.out _ hbw).mono ?_; rintro e Y ⟨rfl, hb1⟩
  have M := Lib.hid (M.out.keep hb1)
  clear hb1 HR k0 k1 k2 k3 k4 k5 k6 k7 hz hbw
  obtain ⟨k0, k1, k2, k3, k4, k5, k6, k7, hz, hbw⟩ := M.out
  have f0 : (Y.alloc (.cells #[.int .i64 0, .int .i64 100000] 24)).cell? ⟨Y.heap.size, 0, none⟩ = some (.int .i64 0) := alloc_new rfl rfl
  have f1 : (Y.alloc (.cells #[.int .i64 0, .int .i64 100000] 24)).cell? ⟨Y.heap.size, 1, none⟩ = some (.int .i64 100000) := alloc_new rfl rfl
  have fz : Y.heap.size < (Y.alloc (.cells #[.int .i64 0, .int .i64 100000] 24)).heap.size := by rw [World.size_alloc]; omega
  have M := Lib.hid (M.out.keep (below_alloc Y (.cells #[.int .i64 0, .int .i64 100000] 24)))
  obtain ⟨V0, hV0⟩ : ∃ V, V = Y.alloc (.cells #[.int .i64 0, .int .i64 100000] 24) := ⟨_, rfl⟩
  rw [← hV0] at f0 f1 fz M
  go_wp2_with fail
  rw [← hV0]
  clear hV0 k0 k1 k2 k3 k4 k5 k6 k7 hz hbw
  obtain ⟨k0, k1, k2, k3, k4, k5, k6, k7, hz, hbw⟩ := M.out
  refine (HA.out _).mono ?_; rintro e VA ⟨rfl, hb1⟩
  have M := Lib.hid (M.out.keep hb1)
  have f0 := keepB hb1 fz f0
  have f1 := keepB hb1 fz f1
  have fz := Nat.lt_of_lt_of_le fz hb1.size
  clear hb1 k0 k1 k2 k3 k4 k5 k6 k7 hz hbw
  obtain ⟨k0, k1, k2, k3, k4, k5, k6, k7, hz, hbw⟩ := M.out
  go_wp2_with fail
  refine (HB.out _).mono ?_; rintro e VB ⟨rfl, hb1⟩
  have M := Lib.hid (M.out.keep hb1)
  have f0 := keepB hb1 fz f0
  have f1 := keepB hb1 fz f1
  have fz := Nat.lt_of_lt_of_le fz hb1.size
  clear hb1 k0 k1 k2 k3 k4 k5 k6 k7 hz hbw
  obtain ⟨k0, k1, k2, k3, k4, k5, k6, k7, hz, hbw⟩ := M.out
  go_wp2
  go_ret
  exact ⟨rfl, hbw⟩

set_option maxHeartbeats 3200000 in
theorem CheckModel_e (la : Option Addr) (ln lc : Nat) (ra : Option Addr) (rn rc : Nat) (ml mh il ih al ah : Int) (lz rz : Nat → Int × Int) (w : World) (sl : SliceIs w la ln lc lz) (sr : SliceIs w ra rn rc rz) (hL : tabC ln lz 32768 = 0) (hR : tabC rn rz 1000000 = 0) (hA : spanB ml mh 0 20000 = true) (hB : spanB il ih 0 100000 = true) (hC : spanB al ah 0 100000 = false) :
    Calls Try.prog 17 #[.agg #[.slice la ln lc, .slice ra rn rc, .int .i64 ml, .int .i64 mh, .int .i64 il, .int .i64 ih, .int .i64 al, .int .i64 ah]] w fun e w' => e = .returned (.int .i64 3) ∧ Below w.heap.size w w' := by
  have HL := Lib.hid (fun W (hW : Below w.heap.size w W) => show Calls Try.prog 14 #[.slice la ln lc, .int .i64 32768] W fun e w' => e = .returned (.int .i64 0) ∧ Below W.heap.size W w' from by rw [← hL]; exact CheckTable_any la ln lc lz 32768 W (sl.keep hW))
  have HR := Lib.hid (fun W (hW : Below w.heap.size w W) => show Calls Try.prog 14 #[.slice ra rn rc, .int .i64 1000000] W fun e w' => e = .returned (.int .i64 0) ∧ Below W.heap.size W w' from by rw [← hR]; exact CheckTable_any ra rn rc rz 1000000 W (sr.keep hW))
  have HA := Lib.hid (fun W => show Calls Try.prog 52 #[.agg #[.int .i64 ml, .int .i64 mh], .agg #[.int .i64 0, .int .i64 20000]] W fun e w' => e = .returned (.bool true) ∧ Below W.heap.size W w' from by rw [← hA]; exact isWithin_any _ _ _ _ W)
  have HB := Lib.hid (fun W => show Calls Try.prog 52 #[.agg #[.int .i64 il, .int .i64 ih], .agg #[.int .i64 0, .int .i64 100000]] W fun e w' => e = .returned (.bool true) ∧ Below W.heap.size W w' from by rw [← hB]; exact isWithin_any _ _ _ _ W)
  have HC := Lib.hid (fun W => show Calls Try.prog 52 #[.agg #[.int .i64 al, .int .i64 ah], .agg #[.int .i64 0, .int .i64 100000]] W fun e w' => e = .returned (.bool false) ∧ Below W.heap.size W w' from by rw [← hC]; exact isWithin_any _ _ _ _ W)
  clear sl sr hL hR hA hB hC
  have M := Lib.hid (MdW.new w 26 la ln lc ra rn rc ml mh il ih al ah)
  have bw0 : Below w.heap.size w (w.alloc (.cells #[.slice la ln lc, .slice ra rn rc, .int .i64 ml, .int .i64 mh, .int .i64 il, .int .i64 ih, .int .i64 al, .int .i64 ah] 26)) := below_alloc _ _
  go_enter Try.func17, Try.ntmps17
  go_wp2_with fail
  refine (HL.out _ bw0).mono ?_; rintro e X ⟨rfl, hb1⟩
  have M := Lib.hid (M.out.keep hb1)
  clear hb1 bw0 HL
  obtain ⟨k0, k1, k2, k3, k4, k5, k6, k7, hz, hbw⟩ := M.out
  go_wp2_with fail
  refine (HR.out _ hbw).mono ?_; rintro e Y ⟨rfl, hb1⟩
  have M := Lib.hid (M.out.keep hb1)
  clear hb1 HR k0 k1 k2 k3 k4 k5 k6 k7 hz hbw
  obtain ⟨k0, k1, k2, k3, k4, k5, k6, k7, hz, hbw⟩ := M.out
  have f0 : (Y.alloc (.cells #[.int .i64 0, .int .i64 100000] 24)).cell? ⟨Y.heap.size, 0, none⟩ = some (.int .i64 0) := alloc_new rfl rfl
  have f1 : (Y.alloc (.cells #[.int .i64 0, .int .i64 100000] 24)).cell? ⟨Y.heap.size, 1, none⟩ = some (.int .i64 100000) := alloc_new rfl rfl
  have fz : Y.heap.size < (Y.alloc (.cells #[.int .i64 0, .int .i64 100000] 24)).heap.size := by rw [World.size_alloc]; omega
  have M := Lib.hid (M.out.keep (below_alloc Y (.cells #[.int .i64 0, .int .i64 100000] 24)))
  obtain ⟨V0, hV0⟩ : ∃ V, V = Y.alloc (.cells #[.int .i64 0, .int .i64 100000] 24) := ⟨_, rfl⟩
  rw [← hV0] at f0 f1 fz M
  go_wp2_with fail
  rw [← hV0]
  clear hV0 k0 k1 k2 k3 k4 k5 k6 k7 hz hbw
  obtain ⟨k0, k1, k2, k3, k4, k5, k6, k7, hz, hbw⟩ := M.out
  refine (HA.out _).mono ?_; rintro e VA ⟨rfl, hb1⟩
  have M := Lib.hid (M.out.keep hb1)
  have f0 := keepB hb1 fz f0
  have f1 := keepB hb1 fz f1
  have fz := Nat.lt_of_lt_of_le fz hb1.size
  clear hb1 k0 k1 k2 k3 k4 k5 k6 k7 hz hbw
  obtain ⟨k0, k1, k2, k3, k4, k5, k6, k7, hz, hbw⟩ := M.out
  go_wp2_with fail
  refine (HB.out _).mono ?_; rintro e VB ⟨rfl, hb1⟩
  have M := Lib.hid (M.out.keep hb1)
  have f0 := keepB hb1 fz f0
  have f1 := keepB hb1 fz f1
  have fz := Nat.lt_of_lt_of_le fz hb1.size
  clear hb1 k0 k1 k2 k3 k4 k5 k6 k7 hz hbw
  obtain ⟨k0, k1, k2, k3, k4, k5, k6, k7, hz, hbw⟩ := M.out
  go_wp2_with fail
  refine (HC.out _).mono ?_; rintro e VC ⟨rfl, hb1⟩
  have M := Lib.hid (M.out.keep hb1)
  have f0 := keepB hb1 fz f0
  have f1 := keepB hb1 fz f1
  have fz := Nat.lt_of_lt_of_le fz hb1.size
  clear hb1 k0 k1 k2 k3 k4 k5 k6 k7 hz hbw
  obtain ⟨k0, k1, k2, k3, k4, k5, k6, k7, hz, hbw⟩ := M.out
  go_wp2
  go_ret
  exact ⟨rfl, hbw⟩

set_option maxHeartbeats 3200000 in
theorem CheckModel_f (la : Option Addr) (ln lc : Nat) (ra : Option Addr) (rn rc : Nat) (ml mh il ih al ah : Int) (lz rz : Nat → Int × Int) (w : World) (sl : SliceIs w la ln lc lz) (sr : SliceIs w ra rn rc rz) (hL : tabC ln lz 32768 = 0) (hR : tabC rn rz 1000000 = 0) (hA : spanB ml mh 0 20000 = true) (hB : spanB il ih 0 100000 = true) (hC : spanB al ah 0 100000 = true) :
    Calls Try.prog 17 #[.agg #[.slice la ln lc, .slice ra rn rc, .int .i64 ml, .int .i64 mh, .int .i64 il, .int .i64 ih, .int .i64 al, .int .i64 ah]] w fun e w' => e = .returned (.int .i64 0) ∧ Below w.heap.size w w' := by
  have HL := Lib.hid (fun W (hW : Below w.heap.size w W) => show Calls Try.prog 14 #[.slice la ln lc, .int .i64 32768] W fun e w' => e = .returned (.int .i64 0) ∧ Below W.heap.size W w' from by rw [← hL]; exact CheckTable_any la ln lc lz 32768 W (sl.keep hW))
  have HR := Lib.hid (fun W (hW : Below w.heap.size w W) => show Calls Try.prog 14 #[.slice ra rn rc, .int .i64 1000000] W fun e w' => e = .returned (.int .i64 0) ∧ Below W.heap.size W w' from by rw [← hR]; exact CheckTable_any ra rn rc rz 1000000 W (sr.keep hW))
  have HA := Lib.hid (fun W => show Calls Try.prog 52 #[.agg #[.int .i64 ml, .int .i64 mh], .agg #[.int .i64 0, .int .i64 20000]] W fun e w' => e = .returned (.bool true) ∧ Below W.heap.size W w' from by rw [← hA]; exact isWithin_any _ _ _ _ W)
  have HB := Lib.hid (fun W => show Calls Try.prog 52 #[.agg #[.int .i64 il, .int .i64 ih], .agg #[.int .i64 0, .int .i64 100000]] W fun e w' => e = .returned (.bool true) ∧ Below W.heap.size W w' from by rw [← hB]; exact isWithin_any _ _ _ _ W)
  have HC := Lib.hid (fun W => show Calls Try.prog 52 #[.agg #[.int .i64 al, .int .i64 ah], .agg #[.int .i64 0, .int .i64 100000]] W fun e w' => e = .returned (.bool true) ∧ Below W.heap.size W w' from by rw [← hC]; exact isWithin_any _ _ _ _ W)
  clear sl sr hL hR hA hB hC
  have M := Lib.hid (MdW.new w 26 la ln lc ra rn rc ml mh il ih al ah)
  have bw0 : Below w.heap.size w (w.alloc (.cells #[.slice la ln lc, .slice ra rn rc, .int .i64 ml, .int .i64 mh, .int .i64 il, .int .i64 ih, .int .i64 al, .int .i64 ah] 26)) := below_alloc _ _
  go_enter Try.func17, Try.ntmps17
  go_wp2_with fail
  refine (HL.out _ bw0).mono ?_; rintro e X ⟨rfl, hb1⟩
  have M := Lib.hid (M.out.keep hb1)
  clear hb1 bw0 HL
  obtain ⟨k0, k1, k2, k3, k4, k5, k6, k7, hz, hbw⟩ := M.out
  go_wp2_with fail
  refine (HR.out _ hbw).mono ?_; rintro e Y ⟨rfl, hb1⟩
  have M := Lib.hid (M.out.keep hb1)
  clear hb1 HR k0 k1 k2 k3 k4 k5 k6 k7 hz hbw
  obtain ⟨k0, k1, k2, k3, k4, k5, k6, k7, hz, hbw⟩ := M.out
  have f0 : (Y.alloc (.cells #[.int .i64 0, .int .i64 100000] 24)).cell? ⟨Y.heap.size, 0, none⟩ = some (.int .i64 0) := alloc_new rfl rfl
  have f1 : (Y.alloc (.cells #[.int .i64 0, .int .i64 100000] 24)).cell? ⟨Y.heap.size, 1, none⟩ = some (.int .i64 100000) := alloc_new rfl rfl
  have fz : Y.heap.size < (Y.alloc (.cells #[.int .i64 0, .int .i64 100000] 24)).heap.size := by rw [World.size_alloc]; omega
  have M := Lib.hid (M.out.keep (below_alloc Y (.cells #[.int .i64 0, .int .i64 100000] 24)))
  obtain ⟨V0, hV0⟩ : ∃ V, V = Y.alloc (.cells #[.int .i64 0, .int .i64 100000] 24) := ⟨_, rfl⟩
  rw [← hV0] at f0 f1 fz M
  go_wp2_with fail
  rw [← hV0]
  clear hV0 k0 k1 k2 k3 k4 k5 k6 k7 hz hbw
  obtain ⟨k0, k1, k2, k3, k4, k5, k6, k7, hz, hbw⟩ := M.out
  refine (HA.out _).mono ?_; rintro e VA ⟨rfl, hb1⟩
  have M := Lib.hid (M.out.keep hb1)
  have f0 := keepB hb1 fz f0
  have f1 := keepB hb1 fz f1
  have fz := Nat.lt_of_lt_of_le fz hb1.size
  clear hb1 k0 k1 k2 k3 k4 k5 k6 k7 hz hbw
  obtain ⟨k0, k1, k2, k3, k4, k5, k6, k7, hz, hbw⟩ := M.out
  go_wp2_with fail
  refine (HB.out _).mono ?_; rintro e VB ⟨rfl, hb1⟩
  have M := Lib.hid (M.out.keep hb1)
  have f0 := keepB hb1 fz f0
  have f1 := keepB hb1 fz f1
  have fz := Nat.lt_of_lt_of_le fz hb1.size
  clear hb1 k0 k1 k2 k3 k4 k5 k6 k7 hz hbw
  obtain ⟨k0, k1, k2, k3, k4, k5, k6, k7, hz, hbw⟩ := M.out
  go_wp2_with fail
  refine (HC.out _).mono ?_; rintro e VC ⟨rfl, hb1⟩
  have M := Lib.hid (M.out.keep hb1)
  have f0 := keepB hb1 fz f0
  have f1 := keepB hb1 fz f1
  have fz := Nat.lt_of_lt_of_le fz hb1.size
  clear hb1 k0 k1 k2 k3 k4 k5 k6 k7 hz hbw
  obtain ⟨k0, k1, k2, k3, k4, k5, k6, k7, hz, hbw⟩ := M.out
  go_wp2
  go_ret
  exact ⟨rfl, hbw⟩

theorem CheckModel_any (la : Option Addr) (ln lc : Nat) (ra : Option Addr) (rn rc : Nat) (ml mh il ih al ah : Int) (lz rz : Nat → Int × Int) (w : World) (sl : SliceIs w la ln lc lz) (sr : SliceIs w ra rn rc rz) :
    Calls Try.prog 17 #[.agg #[.slice la ln lc, .slice ra rn rc, .int .i64 ml, .int .i64 mh, .int .i64 il, .int .i64 ih, .int .i64 al, .int .i64 ah]] w fun e w' => e = .returned (.int .i64 (mdE ln lz rn rz ml mh il ih al ah)) ∧ Below w.heap.size w w' := by
  unfold mdE
  by_cases hL : tabC ln lz 32768 = 0
  · rw [if_pos hL]
    by_cases hR : tabC rn rz 1000000 = 0
    · rw [if_pos hR]
      cases hA : spanB ml mh 0 20000
      · exact CheckModel_c la ln lc ra rn rc ml mh il ih al ah lz rz w sl sr hL hR hA
      · cases hB : spanB il ih 0 100000
        · exact CheckModel_d la ln lc ra rn rc ml mh il ih al ah lz rz w sl sr hL hR hA hB
        · cases hC : spanB al ah 0 100000
          · exact CheckModel_e la ln lc ra rn rc ml mh il ih al ah lz rz w sl sr hL hR hA hB hC
          · exact CheckModel_f la ln lc ra rn rc ml mh il ih al ah lz rz w sl sr hL hR hA hB hC
    · rw [if_neg hR]; exact CheckModel_b la ln lc ra rn rc ml mh il ih al ah lz rz _ w sl sr hL rfl hR
  · rw [if_neg hL]; exact CheckModel_a la ln lc ra rn rc ml mh il ih al ah lz rz _ w sl sr rfl hL

set_option maxHeartbeats 3200000 in
theorem refCheckModel_a (la : Option Addr) (ln lc : Nat) (ra : Option Addr) (rn rc : Nat) (ml mh il ih al ah : Int) (lz rz : Nat → Int × Int) (e0 : Int) (w : World) (sl : SliceIs w la ln lc lz) (sr : SliceIs w ra rn rc rz) (hL : tabC ln lz 32768 = e0) (he : e0 ≠ 0) :
    Calls Try.prog 18 #[.agg #[.slice la ln lc, .slice ra rn rc, .int .i64 ml, .int .i64 mh, .int .i64 il, .int .i64 ih, .int .i64 al, .int .i64 ah]] w fun e w' => e = .returned (.int .i64 e0) ∧ Below w.heap.size w w' := by
  have HL := Lib.hid (fun W (hW : Below w.heap.size w W) => show Calls Try.prog 15 #[.slice la ln lc, .int .i64 32768] W fun e w' => e = .returned (.int .i64 e0) ∧ Below W.heap.size W w' from by rw [← hL]; exact refCheckTable_any la ln lc lz 32768 W (sl.keep hW))
  have hne : (e0 != 0) = true := bne_iff_ne.2 he
  have hne2 : (e0 == 0) = false := beq_eq_false_iff_ne.2 he
  clear sl sr hL he
  have M := Lib.hid (MdW.new w 36 la ln lc ra rn rc ml mh il ih al ah)
  have bw0 : Below w.heap.size w (w.alloc (.cells #[.slice la ln lc, .slice ra rn rc, .int .i64 ml, .int .i64 mh, .int .i64 il, .int .i64 ih, .int .i64 al, .int .i64 ah] 36)) := below_alloc _ _
  go_enter Try.func18, Try.ntmps18
  go_wp2_with fail
  refine (HL.out _ bw0).mono ?_; rintro e X ⟨rfl, hb1⟩
  have M := Lib.hid (M.out.keep hb1)
  clear hb1 bw0 HL
  obtain ⟨k0, k1, k2, k3, k4, k5, k6, k7, hz, hbw⟩ := M.out
  go_wp2
  go_ret
  exact ⟨rfl, hbw⟩

set_option maxHeartbeats 3200000 in
theorem refCheckModel_b (la : Option Addr) (ln lc : Nat) (ra : Option Addr) (rn rc : Nat) (ml mh il ih al ah : Int) (lz rz : Nat → Int × Int) (e0 : Int) (w : World) (sl : SliceIs w la ln lc lz) (sr : SliceIs w ra rn rc rz) (hL : tabC ln lz 32768 = 0) (hR : tabC rn rz 1000000 = e0) (he : e0 ≠ 0) :
    Calls Try.prog 18 #[.agg #[.slice la ln lc, .slice ra rn rc, .int .i64 ml, .int .i64 mh, .int .i64 il, .int .i64 ih, .int .i64 al, .int .i64 ah]] w fun e w' => e = .returned (.int .i64 e0) ∧ Below w.heap.size w w' := by
  have HL := Lib.hid (fun W (hW : Below w.heap.size w W) => show Calls Try.prog 15 #[.slice la ln lc, .int .i64 32768] W fun e w' => e = .returned (.int .i64 0) ∧ Below W.heap.size W w' from by rw [← hL]; exact refCheckTable_any la ln lc lz 32768 W (sl.keep hW))
  have HR := Lib.hid (fun W (hW : Below w.heap.size w W) => show Calls Try.prog 15 #[.slice ra rn rc, .int .i64 1000000] W fun e w' => e = .returned (.int .i64 e0) ∧ Below W.heap.size W w' from by rw [← hR]; exact refCheckTable_any ra rn rc rz 1000000 W (sr.keep hW))
  have hne : (e0 != 0) = true := bne_iff_ne.2 he
  have hne2 : (e0 == 0) = false := beq_eq_false_iff_ne.2 he
  clear sl sr hL hR he
  have M := Lib.hid (MdW.new w 36 la ln lc ra rn rc ml mh il ih al ah)
  have bw0 : Below w.heap.size w (w.alloc (.cells #[.slice la ln lc, .slice ra rn rc, .int .i64 ml, .int .i64 mh, .int .i64 il, .int .i64 ih, .int .i64 al, .int .i64 ah] 36)) := below_alloc _ _
  go_enter Try.func18, Try.ntmps18
  go_wp2_with fail
  refine (HL.out _ bw0).mono ?_; rintro e X ⟨rfl, hb1⟩
  have M := Lib.hid (M.out.keep hb1)
  clear hb1 bw0 HL
  obtain ⟨k0, k1, k2, k3, k4, k5, k6, k7, hz, hbw⟩ := M.out
  go_wp2_with fail
  refine (HR.out _ hbw).mono ?_; rintro e Y ⟨rfl, hb1⟩
  have M := Lib.hid (M.out.keep hb1)
  clear hb1 HR k0 k1 k2 k3 k4 k5 k6 k7 hz hbw
  obtain ⟨k0, k1, k2, k3, k4, k5, k6, k7, hz, hbw⟩ := M.out
  go_wp2
  go_ret
  exact ⟨rfl, hbw⟩

set_option maxHeartbeats 3200000 in
theorem refCheckModel_c (la : Option Addr) (ln lc : Nat) (ra : Option Addr) (rn rc : Nat) (ml mh il ih al ah : Int) (lz rz : Nat → Int × Int) (w : World) (sl : SliceIs w la ln lc lz) (sr : SliceIs w ra rn rc rz) (hL : tabC ln lz 32768 = 0) (hR : tabC rn rz 1000000 = 0) (hA : spanB ml mh 0 20000 = false) :
    Calls Try.prog 18 #[.agg #[.slice la ln lc, .slice ra rn rc, .int .i64 ml, .int .i64 mh, .int .i64 il, .int .i64 ih, .int .i64 al, .int .i64 ah]] w fun e w' => e = .returned (.int .i64 3) ∧ Below w.heap.size w w' := by
  have HL := Lib.hid (fun W (hW : Below w.heap.size w W) => show Calls Try.prog 15 #[.slice la ln lc, .int .i64 32768] W fun e w' => e = .returned (.int .i64 0) ∧ Below W.heap.size W w' from by rw [← hL]; exact refCheckTable_any la ln lc lz 32768 W (sl.keep hW))
  have HR := Lib.hid (fun W (hW : Below w.heap.size w W) => show Calls Try.prog 15 #[.slice ra rn rc, .int .i64 1000000] W fun e w' => e = .returned (.int .i64 0) ∧ Below W.heap.size W w' from by rw [← hR]; exact refCheckTable_any ra rn rc rz 1000000 W (sr.keep hW))
  have HA := Lib.hid (fun W => show Calls Try.prog 53 #[.agg #[.int .i64 ml, .int .i64 mh], .int .i64 0, .int .i64 20000] W fun e w' => e = .returned (.bool false) ∧ Below W.heap.size W w' from by rw [← hA]; exact Valid_any _ _ _ _ W)
  clear sl sr hL hR hA
  have M := Lib.hid (MdW.new w 36 la ln lc ra rn rc ml mh il ih al ah)
  have bw0 : Below w.heap.size w (w.alloc (.cells #[.slice la ln lc, .slice ra rn rc, .int .i64 ml, .int .i64 mh, .int .i64 il, .int .i64 ih, .int .i64 al, .int .i64 ah] 36)) := below_alloc _ _
  go_enter Try.func18, Try.ntmps18
  go_wp2_with fail
  refine (HL.out _ bw0).mono ?_; rintro e X ⟨rfl, hb1⟩
  have M := Lib.hid (M.out.keep hb1)
  clear hb1 bw0 HL
  obtain ⟨k0, k1, k2, k3, k4, k5, k6, k7, hz, hbw⟩ := M.out
  go_wp2_with fail
  refine (HR.out _ hbw).mono ?_; rintro e Y ⟨rfl, hb1⟩
  have M := Lib.hid (M.out.keep hb1)
  clear hb1 HR k0 k1 k2 k3 k4 k5 k6 k7 hz hbw
  obtain ⟨k0, k1, k2, k3, k4, k5, k6, k7, hz, hbw⟩ := M.out
  go_wp2_with fail
  refine (HA.out _).mono ?_; rintro e VA ⟨rfl, hb1⟩
  have M := Lib.hid (M.out.keep hb1)
  clear hb1 k0 k1 k2 k3 k4 k5 k6 k7 hz hbw
  obtain ⟨k0, k1, k2, k3, k4, k5, k6, k7, hz, hbw⟩ := M.out
  go_wp2
  go_ret
  exact ⟨rfl, hbw⟩

set_option maxHeartbeats 3200000 in
theorem refCheckModel_d (la : Option Addr) (ln lc : Nat) (ra : Option Addr) (rn rc : Nat) (ml mh il ih al ah : Int) (lz rz : Nat → Int × Int) (w : World) (sl : SliceIs w la ln lc lz) (sr : SliceIs w ra rn rc rz) (hL : tabC ln lz 32768 = 0) (hR : tabC rn rz 1000000 = 0) (hA : spanB ml mh 0 20000 = true) (hB : spanB il ih 0 100000 = false) :
    Calls Try.prog 18 #[.agg #[.slice la ln lc, .slice ra rn rc, .int .i64 ml, .int .i64 mh, .int .i64 il, .int .i64 ih, .int .i64 al, .int .i64 ah]] w fun e w' => e = .returned (.int .i64 3) ∧ Below w.heap.size w w' := by
  have HL := Lib.hid (fun W (hW : Below w.heap.size w W) => show Calls Try.prog 15 #[.slice la ln lc, .int .i64 32768] W fun e w' => e = .returned (.int .i64 0) ∧ Below W.heap.size W w' from by rw [← hL]; exact refCheckTable_any la ln lc lz 32768 W (sl.keep hW))
  have HR := Lib.hid (fun W (hW : Below w.heap.size w W) => show Calls Try.prog 15 #[.slice ra rn rc, .int .i64 1000000] W fun e w' => e = .returned (.int .i64 0) ∧ Below W.heap.size W w' from by rw [← hR]; exact refCheckTable_any ra rn rc rz 1000000 W (sr.keep hW))
  have HA := Lib.hid (fun W => show Calls Try.prog 53 #[.agg #[.int .i64 ml, .int .i64 mh], .int .i64 0, .int .i64 20000] W fun e w' => e = .returned (.bool true) ∧ Below W.heap.size W w' from by rw [← hA]; exact Valid_any _ _ _ _ W)
  have HB := Lib.hid (fun W => show Calls Try.prog 53 #[.agg #[.int .i64 il, .int .i64 ih], .int .i64 0, .int .i64 100000] W fun e w' => e = .returned (.bool false) ∧ Below W.heap.size W w' from by rw [← hB]; exact Valid_any _ _ _ _ W)
  clear sl sr hL hR hA hB
  have M := Lib.hid (MdW.new w 36 la ln lc ra rn rc ml mh il ih al ah)
  have bw0 : Below w.heap.size w (w.alloc (.cells #[.slice la ln lc, .slice ra rn rc, .int .i64 ml, .int .i64 mh, .int .i64 il, .int .i64 ih, .int .i64 al, .int .i64 ah] 36)) := below_alloc _ _
  go_enter Try.func18, Try.ntmps18
  go_wp2_with fail
  refine (HL.out _ bw0).mono ?_; rintro e X ⟨rfl, hb1⟩
  have M := Lib.hid (M.out.keep hb1)
  clear hb1 bw0 HL
  obtain ⟨k0, k1, k2, k3, k4, k5, k6, k7, hz, hbw⟩ := M.out
  go_wp2_with fail
  refine (HR.out _ hbw).mono ?_; rintro e Y ⟨rfl, hb1⟩
  have M := Lib.hid (M.out.keep hb1)
  clear hb1 HR k0 k1 k2 k3 k4 k5 k6 k7 hz hbw
  obtain ⟨k0, k1, k2, k3, k4, k5, k6, k7, hz, hbw⟩ := M.out
  go_wp2_with fail
  refine (HA.out _).mono ?_; rintro e VA ⟨rfl, hb1⟩
  have M := Lib.hid (M.out.keep hb1)
  clear hb1 k0 k1 k2 k3 k4 k5 k6 k7 hz hbw
  obtain ⟨k0, k1, k2, k3, k4, k5, k6, k7, hz, hbw⟩ := M.out
  go_wp2_with fail
  refine (HB.out _).mono ?_; rintro e VB ⟨rfl, hb1⟩
  have M := Lib.hid (M.out.keep hb1)
  clear hb1 k0 k1 k2 k3 k4 k5 k6 k7 hz hbw
  obtain ⟨k0, k1, k2, k3, k4, k5, k6, k7, hz, hbw⟩ := M.out
  go_wp2
  go_ret
  exact ⟨rfl, hbw⟩

set_option maxHeartbeats 3200000 in
theorem refCheckModel_e (la : Option Addr) (ln lc : Nat) (ra : Option Addr) (rn rc : Nat) (ml mh il ih al ah : Int) (lz rz : Nat → Int × Int) (w : World) (sl : SliceIs w la ln lc lz) (sr : SliceIs w ra rn rc rz) (hL : tabC ln lz 32768 = 0) (hR : tabC rn rz 1000000 = 0) (hA : spanB ml mh 0 20000 = true) (hB : spanB il ih 0 100000 = true) (hC : spanB al ah 0 100000 = false) :
    Calls Try.prog 18 #[.agg #[.slice la ln lc, .slice ra rn rc, .int .i64 ml, .int .i64 mh, .int .i64 il, .int .i64 ih, .int .i64 al, .int .i64 ah]] w fun e w' => e = .returned (.int .i64 3) ∧ Below w.heap.size w w' := by
  have HL := Lib.hid (fun W (hW : Below w.heap.size w W) => show Calls Try.prog 15 #[.slice la ln lc, .int .i64 32768] W fun e w' => e = .returned (.int .i64 0) ∧ Below W.heap.size W w' from by rw [← hL]; exact refCheckTable_any la ln lc lz 32768 W (sl.keep hW))
  have HR := Lib.hid (fun W (hW : Below w.heap.size w W) => show Calls Try.prog 15 #[.slice ra rn rc, .int .i64 1000000] W fun e w' => e = .returned (.int .i64 0) ∧ Below W.heap.size W w' from by rw [← hR]; exact refCheckTable_any ra rn rc rz 1000000 W (sr.keep hW))
  have HA := Lib.hid (fun W => show Calls Try.prog 53 #[.agg #[.int .i64 ml, .int .i64 mh], .int .i64 0, .int .i64 20000] W fun e w' => e = .returned (.bool true) ∧ Below W.heap.size W w' from by rw [← hA]; exact Valid_any _ _ _ _ W)
  have HB := Lib.hid (fun W => show Calls Try.prog 53 #[.agg #[.int .i64 il, .int .i64 ih], .int .i64 0, .int .i64 100000] W fun e w' => e = .returned (.bool true) ∧ Below W.heap.size W w' from by rw [← hB]; exact Valid_any _ _ _ _ W)
  have HC := Lib.hid (fun W => show Calls Try.prog 53 #[.agg #[.int .i64 al, .int .i64 ah], .int .i64 0, .int .i64 100000] W fun e w' => e = .returned (.bool false) ∧ Below W.heap.size W w' from by rw [← hC]; exact Valid_any _ _ _ _ W)
  clear sl sr hL hR hA hB hC
  have M := Lib.hid (MdW.new w 36 la ln lc ra rn rc ml mh il ih al ah)
  have bw0 : Below w.heap.size w (w.alloc (.cells #[.slice la ln lc, .slice ra rn rc, .int .i64 ml, .int .i64 mh, .int .i64 il, .int .i64 ih, .int .i64 al, .int .i64 ah] 36)) := below_alloc _ _
  go_enter Try.func18, Try.ntmps18
  go_wp2_with fail
  refine (HL.out _ bw0).mono ?_; rintro e X ⟨rfl, hb1⟩
  have M := Lib.hid (M.out.keep hb1)
  clear hb1 bw0 HL
  obtain ⟨k0, k1, k2, k3, k4, k5, k6, k7, hz, hbw⟩ := M.out
  go_wp2_with fail
  refine (HR.out _ hbw).mono ?_; rintro e Y ⟨rfl, hb1⟩
  have M := Lib.hid (M.out.keep hb1)
  clear hb1 HR k0 k1 k2 k3 k4 k5 k6 k7 hz hbw
  obtain ⟨k0, k1, k2, k3, k4, k5, k6, k7, hz, hbw⟩ := M.out
  go_wp2_with fail
  refine (HA.out _).mono ?_; rintro e VA ⟨rfl, hb1⟩
  have M := Lib.hid (M.out.keep hb1)
  clear hb1 k0 k1 k2 k3 k4 k5 k6 k7 hz hbw
  obtain ⟨k0, k1, k2, k3, k4, k5, k6, k7, hz, hbw⟩ := M.out
  go_wp2_with fail
  refine (HB.out _).mono ?_; rintro e VB ⟨rfl, hb1⟩
  have M := Lib.hid (M.out.keep hb1)
  clear hb1 k0 k1 k2 k3 k4 k5 k6 k7 hz hbw
  obtain ⟨k0, k1, k2, k3, k4, k5, k6, k7, hz, hbw⟩ := M.out
  go_wp2_with fail
  refine (HC.out _).mono ?_; rintro e VC ⟨rfl, hb1⟩
  have M := Lib.hid (M.out.keep hb1)
  clear hb1 k0 k1 k2 k3 k4 k5 k6 k7 hz hbw
  obtain ⟨k0, k1, k2, k3, k4, k5, k6, k7, hz, hbw⟩ := M.out
  go_wp2
  go_ret
  exact ⟨rfl, hbw⟩

set_option maxHeartbeats 3200000 in
theorem refCheckModel_f (la : Option Addr) (ln lc : Nat) (ra : Option Addr) (rn rc : Nat) (ml mh il ih al ah : Int) (lz rz : Nat → Int × Int) (w : World) (sl : SliceIs w la ln lc lz) (sr : SliceIs w ra rn rc rz) (hL : tabC ln lz 32768 = 0) (hR : tabC rn rz 1000000 = 0) (hA : spanB ml mh 0 20000 = true) (hB : spanB il ih 0 100000 = true) (hC : spanB al ah 0 100000 = true) :
    Calls Try.prog 18 #[.agg #[.slice la ln lc, .slice ra rn rc, .int .i64 ml, .int .i64 mh, .int .i64 il, .int .i64 ih, .int .i64 al, .int .i64 ah]] w fun e w' => e = .returned (.int .i64 0) ∧ Below w.heap.size w w' := by
  have HL := Lib.hid (fun W (hW : Below w.heap.size w W) => show Calls Try.prog 15 #[.slice la ln lc, .int .i64 32768] W fun e w' => e = .returned (.int .i64 0) ∧ Below W.heap.size W w' from by rw [← hL]; exact refCheckTable_any la ln lc lz 32768 W (sl.keep hW))
  have HR := Lib.hid (fun W (hW : Below w.heap.size w W) => show Calls Try.prog 15 #[.slice ra rn rc, .int .i64 1000000] W fun e w' => e = .returned (.int .i64 0) ∧ Below W.heap.size W w' from by rw [← hR]; exact refCheckTable_any ra rn rc rz 1000000 W (sr.keep hW))
  have HA := Lib.hid (fun W => show Calls Try.prog 53 #[.agg #[.int .i64 ml, .int .i64 mh], .int .i64 0, .int .i64 20000] W fun e w' => e = .returned (.bool true) ∧ Below W.heap.size W w' from by rw [← hA]; exact Valid_any _ _ _ _ W)
  have HB := Lib.hid (fun W => show Calls Try.prog 53 #[.agg #[.int .i64 il, .int .i64 ih], .int .i64 0, .int .i64 100000] W fun e w' => e = .returned (.bool true) ∧ Below W.heap.size W w' from by rw [← hB]; exact Valid_any _ _ _ _ W)
  have HC := Lib.hid (fun W => show Calls Try.prog 53 #[.agg #[.int .i64 al, .int .i64 ah], .int .i64 0, .int .i64 100000] W fun e w' => e = .returned (.bool true) ∧ Below W.heap.size W w' from by rw [← hC]; exact Valid_any _ _ _ _ W)
  clear sl sr hL hR hA hB hC
  have M := Lib.hid (MdW.new w 36 la ln lc ra rn rc ml mh il ih al ah)
  have bw0 : Below w.heap.size w (w.alloc (.cells #[.slice la ln lc, .slice ra rn rc, .int .i64 ml, .int .i64 mh, .int .i64 il, .int .i64 ih, .int .i64 al, .int .i64 ah] 36)) := below_alloc _ _
  go_enter Try.func18, Try.ntmps18
  go_wp2_with fail
  refine (HL.out _ bw0).mono ?_; rintro e X ⟨rfl, hb1⟩
  have M := Lib.hid (M.out.keep hb1)
  clear hb1 bw0 HL
  obtain ⟨k0, k1, k2, k3, k4, k5, k6, k7, hz, hbw⟩ := M.out
  go_wp2_with fail
  refine (HR.out _ hbw).mono ?_; rintro e Y ⟨rfl, hb1⟩
  have M := Lib.hid (M.out.keep hb1)
  clear hb1 HR k0 k1 k2 k3 k4 k5 k6 k7 hz hbw
  obtain ⟨k0, k1, k2, k3, k4, k5, k6, k7, hz, hbw⟩ := M.out
  go_wp2_with fail
  refine (HA.out _).mono ?_; rintro e VA ⟨rfl, hb1⟩
  have M := Lib.hid (M.out.keep hb1)
  clear hb1 k0 k1 k2 k3 k4 k5 k6 k7 hz hbw
  obtain ⟨k0, k1, k2, k3, k4, k5, k6, k7, hz, hbw⟩ := M.out
  go_wp2_with fail
  refine (HB.out _).mono ?_; rintro e VB ⟨rfl, hb1⟩
  have M := Lib.hid (M.out.keep hb1)
  clear hb1 k0 k1 k2 k3 k4 k5 k6 k7 hz hbw
  obtain ⟨k0, k1, k2, k3, k4, k5, k6, k7, hz, hbw⟩ := M.out
  go_wp2_with fail
  refine (HC.out _).mono ?_; rintro e VC ⟨rfl, hb1⟩
  have M := Lib.hid (M.out.keep hb1)
  clear hb1 k0 k1 k2 k3 k4 k5 k6 k7 hz hbw
  obtain ⟨k0, k1, k2, k3, k4, k5, k6, k7, hz, hbw⟩ := M.out
  go_wp2
  go_ret
  exact ⟨rfl, hbw⟩

theorem refCheckModel_any (la : Option Addr) (ln lc : Nat) (ra : Option Addr) (rn rc : Nat) (ml mh il ih al ah : Int) (lz rz : Nat → Int × Int) (w : World) (sl : SliceIs w la ln lc lz) (sr : SliceIs w ra rn rc rz) :
    Calls Try.prog 18 #[.agg #[.slice la ln lc, .slice ra rn rc, .int .i64 ml, .int .i64 mh, .int .i64 il, .int .i64 ih, .int .i64 al, .int .i64 ah]] w fun e w' => e = .returned (.int .i64 (mdE ln lz rn rz ml mh il ih al ah)) ∧ Below w.heap.size w w' := by
  unfold mdE
  by_cases hL : tabC ln lz 32768 = 0
  · rw [if_pos hL]
    by_cases hR : tabC rn rz 1000000 = 0
    · rw [if_pos hR]
      cases hA : spanB ml mh 0 20000
      · exact refCheckModel_c la ln lc ra rn rc ml mh il ih al ah lz rz w sl sr hL hR hA
      · cases hB : spanB il ih 0 100000
        · exact refCheckModel_d la ln lc ra rn rc ml mh il ih al ah lz rz w sl sr hL hR hA hB
        · cases hC : spanB al ah 0 100000
          · exact refCheckModel_e la ln lc ra rn rc ml mh il ih al ah lz rz w sl sr hL hR hA hB hC
          · exact refCheckModel_f la ln lc ra rn rc ml mh il ih al ah lz rz w sl sr hL hR hA hB hC
    · rw [if_neg hR]; exact refCheckModel_b la ln lc ra rn rc ml mh il ih al ah lz rz _ w sl sr hL rfl hR
  · rw [if_neg hL]; exact refCheckModel_a la ln lc ra rn rc ml mh il ih al ah lz rz _ w sl sr rfl hL

end Go.Proofs.Ytdmbkhmhaininaa
