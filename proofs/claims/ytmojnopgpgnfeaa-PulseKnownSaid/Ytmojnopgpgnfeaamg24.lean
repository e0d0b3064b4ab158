/-
  PulseKnown, walked.
-/
import Derived.Test.Ytmojnopgpgnfeaamg17
import Derived.Test.Ytmojnopgpgnfeaamg22
import Derived.Test.Ytmojnopgpgnfeaamg20
import Derived.Test.Ytmojnopgpgnfeaamg2
namespace Go.Proofs.Ytmojnopgpgnfeaa
open Go.RowKit
set_option linter.unusedVariables false
set_option linter.unusedSimpArgs false

/-- the fifth of five samples of the examples: one phase is opposite -/
def mixZ (i : Nat) : Smp := if i = 1 then ⟨10, 32768, 5, 0⟩ else ⟨10, 0, 5, 0⟩

theorem hearA_val : (List.range 14).map (hearOf 100000 1 4 0 3 0 0 4 fourZ) = [3, 100, 100, 108, 112, 0, 0, 20, 250, 250, 1000, 1000, -6, 6] := by kernel_rfl
theorem hearA (b : Nat) (w : World) (hS : SmpsAt w b 0 4 fourZ) (hb : b < w.heap.size) :
    Calls Try.prog 27 #[.agg #[.int .i64 100000, .int .i64 1, .int .i64 1000, .int .i64 0, .int .i64 4], .agg #[.int .i64 0, .int .i64 3, .int .i64 0, .int .i64 0], .slice (some ⟨b, 0, none⟩) 4 4] w fun e' w' => e' = .returned (.tuple #[.agg #[.int .i64 3, .int .i64 100, .int .i64 100, .int .i64 108, .int .i64 112, .int .i64 0, .int .i64 0, .int .i64 20, .int .i64 250, .int .i64 250, .int .i64 1000, .int .i64 1000, .int .i64 (-6), .int .i64 6], .int .i64 0]) ∧ Below w.heap.size w w' := by
  have h := Hear_ok 100000 1 1000 0 4 0 3 0 0 b 0 4 4 fourZ w (by decide) (by decide) rfl (by decide) hS hb
  have e : ∀ i, i < 14 → hearOf 100000 1 4 0 3 0 0 4 fourZ i = ([3, 100, 100, 108, 112, 0, 0, 20, 250, 250, 1000, 1000, -6, 6] : List Int)[i]?.getD 0 := fun i hi => by
    rw [← hearA_val]
    simp [hi]
  rw [e 0 (by decide)] at h
  rw [e 1 (by decide)] at h
  rw [e 2 (by decide)] at h
  rw [e 3 (by decide)] at h
  rw [e 4 (by decide)] at h
  rw [e 5 (by decide)] at h
  rw [e 6 (by decide)] at h
  rw [e 7 (by decide)] at h
  rw [e 8 (by decide)] at h
  rw [e 9 (by decide)] at h
  rw [e 10 (by decide)] at h
  rw [e 11 (by decide)] at h
  rw [e 12 (by decide)] at h
  rw [e 13 (by decide)] at h
  exact h

theorem hearB_val : (List.range 14).map (hearOf 100000 1 4 1 0 10 20 4 fourZ) = [3, 61, 111, 110, 110, 0, 0, 20, 0, 427, 297, 1000, 0, 0] := by kernel_rfl
theorem hearB (b : Nat) (w : World) (hS : SmpsAt w b 0 4 fourZ) (hb : b < w.heap.size) :
    Calls Try.prog 27 #[.agg #[.int .i64 100000, .int .i64 1, .int .i64 1000, .int .i64 0, .int .i64 4], .agg #[.int .i64 1, .int .i64 0, .int .i64 10, .int .i64 20], .slice (some ⟨b, 0, none⟩) 4 4] w fun e' w' => e' = .returned (.tuple #[.agg #[.int .i64 3, .int .i64 61, .int .i64 111, .int .i64 110, .int .i64 110, .int .i64 0, .int .i64 0, .int .i64 20, .int .i64 0, .int .i64 427, .int .i64 297, .int .i64 1000, .int .i64 0, .int .i64 0], .int .i64 0]) ∧ Below w.heap.size w w' := by
  have h := Hear_ok 100000 1 1000 0 4 1 0 10 20 b 0 4 4 fourZ w (by decide) (by decide) rfl (by decide) hS hb
  have e : ∀ i, i < 14 → hearOf 100000 1 4 1 0 10 20 4 fourZ i = ([3, 61, 111, 110, 110, 0, 0, 20, 0, 427, 297, 1000, 0, 0] : List Int)[i]?.getD 0 := fun i hi => by
    rw [← hearB_val]
    simp [hi]
  rw [e 0 (by decide)] at h
  rw [e 1 (by decide)] at h
  rw [e 2 (by decide)] at h
  rw [e 3 (by decide)] at h
  rw [e 4 (by decide)] at h
  rw [e 5 (by decide)] at h
  rw [e 6 (by decide)] at h
  rw [e 7 (by decide)] at h
  rw [e 8 (by decide)] at h
  rw [e 9 (by decide)] at h
  rw [e 10 (by decide)] at h
  rw [e 11 (by decide)] at h
  rw [e 12 (by decide)] at h
  rw [e 13 (by decide)] at h
  exact h

theorem hearC_val : (List.range 14).map (hearOf 100000 1 4 0 0 0 0 4 mixZ) = [2, 100, 100, 0, 0, 0, 0, 32768, 250, 250, 1000, 1000, 0, 0] := by kernel_rfl
theorem hearC (b : Nat) (w : World) (hS : SmpsAt w b 0 4 mixZ) (hb : b < w.heap.size) :
    Calls Try.prog 27 #[.agg #[.int .i64 100000, .int .i64 1, .int .i64 1000, .int .i64 0, .int .i64 4], .agg #[.int .i64 0, .int .i64 0, .int .i64 0, .int .i64 0], .slice (some ⟨b, 0, none⟩) 4 4] w fun e' w' => e' = .returned (.tuple #[.agg #[.int .i64 2, .int .i64 100, .int .i64 100, .int .i64 0, .int .i64 0, .int .i64 0, .int .i64 0, .int .i64 32768, .int .i64 250, .int .i64 250, .int .i64 1000, .int .i64 1000, .int .i64 0, .int .i64 0], .int .i64 0]) ∧ Below w.heap.size w w' := by
  have h := Hear_ok 100000 1 1000 0 4 0 0 0 0 b 0 4 4 mixZ w (by decide) (by decide) rfl (by decide) hS hb
  have e : ∀ i, i < 14 → hearOf 100000 1 4 0 0 0 0 4 mixZ i = ([2, 100, 100, 0, 0, 0, 0, 32768, 250, 250, 1000, 1000, 0, 0] : List Int)[i]?.getD 0 := fun i hi => by
    rw [← hearC_val]
    simp [hi]
  rw [e 0 (by decide)] at h
  rw [e 1 (by decide)] at h
  rw [e 2 (by decide)] at h
  rw [e 3 (by decide)] at h
  rw [e 4 (by decide)] at h
  rw [e 5 (by decide)] at h
  rw [e 6 (by decide)] at h
  rw [e 7 (by decide)] at h
  rw [e 8 (by decide)] at h
  rw [e 9 (by decide)] at h
  rw [e 10 (by decide)] at h
  rw [e 11 (by decide)] at h
  rw [e 12 (by decide)] at h
  rw [e 13 (by decide)] at h
  exact h

theorem hearD_val : (List.range 14).map (hearOf 100000 1 4 0 0 200 200 4 fourZ) = [1, 0, 0, 0, 0, 0, 0, 0, 0, 0, 0, 0, 0, 0] := by kernel_rfl
theorem hearD (b : Nat) (w : World) (hS : SmpsAt w b 0 4 fourZ) (hb : b < w.heap.size) :
    Calls Try.prog 27 #[.agg #[.int .i64 100000, .int .i64 1, .int .i64 1000, .int .i64 0, .int .i64 4], .agg #[.int .i64 0, .int .i64 0, .int .i64 200, .int .i64 200], .slice (some ⟨b, 0, none⟩) 4 4] w fun e' w' => e' = .returned (.tuple #[.agg #[.int .i64 1, .int .i64 0, .int .i64 0, .int .i64 0, .int .i64 0, .int .i64 0, .int .i64 0, .int .i64 0, .int .i64 0, .int .i64 0, .int .i64 0, .int .i64 0, .int .i64 0, .int .i64 0], .int .i64 0]) ∧ Below w.heap.size w w' := by
  have h := Hear_ok 100000 1 1000 0 4 0 0 200 200 b 0 4 4 fourZ w (by decide) (by decide) rfl (by decide) hS hb
  have e : ∀ i, i < 14 → hearOf 100000 1 4 0 0 200 200 4 fourZ i = ([1, 0, 0, 0, 0, 0, 0, 0, 0, 0, 0, 0, 0, 0] : List Int)[i]?.getD 0 := fun i hi => by
    rw [← hearD_val]
    simp [hi]
  rw [e 0 (by decide)] at h
  rw [e 1 (by decide)] at h
  rw [e 2 (by decide)] at h
  rw [e 3 (by decide)] at h
  rw [e 4 (by decide)] at h
  rw [e 5 (by decide)] at h
  rw [e 6 (by decide)] at h
  rw [e 7 (by decide)] at h
  rw [e 8 (by decide)] at h
  rw [e 9 (by decide)] at h
  rw [e 10 (by decide)] at h
  rw [e 11 (by decide)] at h
  rw [e 12 (by decide)] at h
  rw [e 13 (by decide)] at h
  exact h

theorem mixAt (X : World) : SmpsAt (X.alloc (.cells #[.int .i64 10, .int .i64 0, .int .i64 5, .int .i64 0, .int .i64 10, .int .i64 32768, .int .i64 5, .int .i64 0, .int .i64 10, .int .i64 0, .int .i64 5, .int .i64 0, .int .i64 10, .int .i64 0, .int .i64 5, .int .i64 0] 84)) X.heap.size 0 4 mixZ := by
  refine ⟨fun i hi => ?_, fun i hi => ?_, fun i hi => ?_, fun i hi => ?_⟩ <;> (match i, hi with
    | 0, _ => exact alloc_new rfl rfl
    | 1, _ => exact alloc_new rfl rfl
    | 2, _ => exact alloc_new rfl rfl
    | 3, _ => exact alloc_new rfl rfl
    | i + 4, h => omega)
theorem arc2 (X : World) : Calls Try.prog 25 #[.slice (some ⟨X.heap.size, 0, none⟩) 2 2] (X.alloc (.cells #[.int .i64 32768, .int .i64 0] 3)) fun e w' => e = .returned (.tuple #[.int .i64 0, .int .i64 32768, .int .i64 0]) ∧ Below (X.alloc (.cells #[.int .i64 32768, .int .i64 0] 3)).heap.size (X.alloc (.cells #[.int .i64 32768, .int .i64 0] 3)) w' := by
  have h := arc_ok X.heap.size 0 2 2 [32768, 0] (X.alloc (.cells #[.int .i64 32768, .int .i64 0] 3)) rfl (by decide) (by decide) (by rw [World.size_alloc]; omega) (fun j hj => by
    match j, hj with
    | 0, _ => exact alloc_new rfl rfl
    | 1, _ => exact alloc_new rfl rfl) (by decide)
  rw [show arcB [32768, 0] = 0 by decide, show arcW [32768, 0] = 32768 by decide] at h
  exact h
structure Kn (w W : World) (b : Nat) (e : Nat → Int) : Prop where
  g : EchoG W b e
  z : b < W.heap.size
  l : w.heap.size ≤ b
  b : Below w.heap.size w W
theorem Kn.keep {w W w1 : World} {b : Nat} {e : Nat → Int} (x : Kn w W b e) (hb : Below W.heap.size W w1) : Kn w w1 b e :=
  ⟨x.g.keep hb x.z, Nat.lt_of_lt_of_le x.z hb.size, x.l, x.b.trans (hb.mono x.b.size)⟩
theorem Kn.drew {w W : World} {b : Nat} {e : Nat → Int} (x : Kn w W b e) : Kn w W.drew b e := x.keep (Below.refl _ _).drew
theorem Kn.set {w W : World} {b k : Nat} {e : Nat → Int} {v : Int} (x : Kn w W b e) : Kn w (W.setCell ⟨b, k, none⟩ (.int .i64 v)) b (upd e k v) :=
  ⟨x.g.set, by have := x.z; simpa using this, x.l, x.b.setCell (p := ⟨b, k, none⟩) x.l _⟩
theorem Kn.is {w W : World} {b : Nat} {e e' : Nat → Int} (x : Kn w W b e) (h : ∀ i, i < 14 → e i = e' i) : Kn w W b e' :=
  ⟨⟨fun i hi => by rw [← h i hi]; exact x.g.c i hi, x.g.f⟩, x.z, x.l, x.b⟩
theorem Kn.new (w W : World) (e : Nat → Int) (h : Below w.heap.size w W) : Kn w (W.alloc (.cells #[.int .i64 (e 0), .int .i64 (e 1), .int .i64 (e 2), .int .i64 (e 3), .int .i64 (e 4), .int .i64 (e 5), .int .i64 (e 6), .int .i64 (e 7), .int .i64 (e 8), .int .i64 (e 9), .int .i64 (e 10), .int .i64 (e 11), .int .i64 (e 12), .int .i64 (e 13)] 30)) W.heap.size e :=
  ⟨EchoG.new W e 30, by rw [World.size_alloc]; omega, h.size, h.trans ((below_alloc _ _).mono h.size)⟩

set_option maxRecDepth 100000 in
set_option maxHeartbeats 16000000 in
theorem PulseKnown_walk (w : World) : Calls Try.prog 14 #[] w fun e w' => e = .returned (.bool true) ∧ Below w.heap.size w w' := by
  have EQ1 := eq28 108 112 0 0 108 112 0 0
  have EQ2 := eq28 110 110 0 0 110 110 0 0
  have EQ3 := eq28 0 0 0 0 0 0 0 0
  have HK0 : Hid (∀ W : World, Calls Try.prog 32 #[.agg #[.int .i64 100000, .int .i64 1, .int .i64 1000, .int .i64 0, .int .i64 4], .int .i64 0, .agg #[.int .i64 110, .int .i64 110], .int .i64 0] W fun e w' => e = .returned (.tuple #[.agg #[.int .i64 83, .int .i64 84], .int .i64 0]) ∧ Below W.heap.size W w') := Lib.hid fun W => by
    have h := Speed_any 100000 1 1000 0 4 0 110 110 0 W
    rw [show spE 100000 1 1000 0 4 0 110 110 0 = 0 by decide, show timV 100000 1 1000 0 4 0 = 1000 by decide, if_pos rfl, if_pos rfl, show spdL 100000 1000 110 0 = 83 by decide, show spdH 100000 1000 110 0 = 84 by decide] at h
    exact h
  have HK1 : Hid (∀ W : World, Calls Try.prog 32 #[.agg #[.int .i64 100000, .int .i64 1, .int .i64 1000, .int .i64 0, .int .i64 4], .int .i64 0, .agg #[.int .i64 110, .int .i64 110], .int .i64 (-1)] W fun e w' => e = .returned (.tuple #[.agg #[.int .i64 (-49917), .int .i64 (-49916)], .int .i64 0]) ∧ Below W.heap.size W w') := Lib.hid fun W => by
    have h := Speed_any 100000 1 1000 0 4 0 110 110 (-1) W
    rw [show spE 100000 1 1000 0 4 0 110 110 (-1) = 0 by decide, show timV 100000 1 1000 0 4 0 = 1000 by decide, if_pos rfl, if_pos rfl, show spdL 100000 1000 110 (-1) = -49917 by decide, show spdH 100000 1000 110 (-1) = -49916 by decide] at h
    exact h
  have HF0 : Hid (∀ W : World, Calls Try.prog 34 #[.agg #[.int .i64 100000, .int .i64 1, .int .i64 1000, .int .i64 0, .int .i64 4], .int .i64 0] W fun e w' => e = .returned (.tuple #[.int .i64 50000000, .int .i64 1000, .int .i64 0]) ∧ Below W.heap.size W w') := Lib.hid fun W => by
    have h := Fold_any 100000 1 1000 0 4 0 W
    rw [show timE 100000 1 1000 0 4 0 = 0 by decide, show timV 100000 1 1000 0 4 0 = 1000 by decide, if_pos rfl, show (500 * 100000 : Int) = 50000000 by decide] at h
    exact h
  have HF1 : Hid (∀ W : World, Calls Try.prog 34 #[.agg #[.int .i64 100000, .int .i64 1, .int .i64 1000, .int .i64 0, .int .i64 4], .int .i64 1] W fun e w' => e = .returned (.tuple #[.int .i64 0, .int .i64 0, .int .i64 2]) ∧ Below W.heap.size W w') := Lib.hid fun W => by
    have h := Fold_any 100000 1 1000 0 4 1 W
    rw [show timE 100000 1 1000 0 4 1 = 2 by decide, show timV 100000 1 1000 0 4 1 = 0 by decide, if_neg (by decide)] at h
    exact h
  have HR : Hid (∀ W : World, Calls Try.prog 36 #[.agg #[.int .i64 100000, .int .i64 1, .int .i64 1000, .int .i64 0, .int .i64 4], .int .i64 0] W fun e w' => e = .returned (.tuple #[.int .i64 150000, .int .i64 0]) ∧ Below W.heap.size W w') := Lib.hid fun W => by
    have h := Reach_any 100000 1 1000 0 4 0 W
    rw [show timE 100000 1 1000 0 4 0 = 0 by decide, show timV 100000 1 1000 0 4 0 = 1000 by decide, show (150 * 1000 : Int) = 150000 by decide] at h
    exact h
  go_enter Try.func14, Try.ntmps14
  go_wp2_with fail
  refine (O_any _).mono ?_; rintro e' X1 ⟨rfl, hb1⟩
  go_wp2_with fail
  refine (four_any _).mono ?_; rintro e' X2 ⟨rfl, hS, hz, hb2⟩
  go_wp2_with fail
  refine (hearA _ _ hS hz).mono ?_; rintro e' X3 ⟨rfl, hb3⟩
  have bE : Below w.heap.size w X3 := hb1.trans ((hb2.trans (hb3.mono hb2.size)).mono hb1.size)
  clear hb1 hb2 hb3 hS hz
  obtain ⟨A, hA⟩ : ∃ A, A = X3.alloc (.cells #[.int .i64 3, .int .i64 100, .int .i64 100, .int .i64 108, .int .i64 112, .int .i64 0, .int .i64 0, .int .i64 20, .int .i64 250, .int .i64 250, .int .i64 1000, .int .i64 1000, .int .i64 (-6), .int .i64 6] 30) := ⟨_, rfl⟩
  have K0 := Lib.hid (show Kn w A (X3.heap.size) (fun i => ([3, 100, 100, 108, 112, 0, 0, 20, 250, 250, 1000, 1000, -6, 6] : List Int)[i]?.getD 0) by rw [hA]; exact Kn.new w X3 (fun i => ([3, 100, 100, 108, 112, 0, 0, 20, 250, 250, 1000, 1000, -6, 6] : List Int)[i]?.getD 0) bE)
  have c0 : A.cell? ⟨X3.heap.size, 0, none⟩ = some (.int .i64 3) := K0.out.g.c 0 (by decide)
  have c1 : A.cell? ⟨X3.heap.size, 1, none⟩ = some (.int .i64 100) := K0.out.g.c 1 (by decide)
  have c2 : A.cell? ⟨X3.heap.size, 2, none⟩ = some (.int .i64 100) := K0.out.g.c 2 (by decide)
  have c3 : A.cell? ⟨X3.heap.size, 3, none⟩ = some (.int .i64 108) := K0.out.g.c 3 (by decide)
  have c4 : A.cell? ⟨X3.heap.size, 4, none⟩ = some (.int .i64 112) := K0.out.g.c 4 (by decide)
  have c5 : A.cell? ⟨X3.heap.size, 5, none⟩ = some (.int .i64 0) := K0.out.g.c 5 (by decide)
  have c6 : A.cell? ⟨X3.heap.size, 6, none⟩ = some (.int .i64 0) := K0.out.g.c 6 (by decide)
  have c7 : A.cell? ⟨X3.heap.size, 7, none⟩ = some (.int .i64 20) := K0.out.g.c 7 (by decide)
  have c8 : A.cell? ⟨X3.heap.size, 8, none⟩ = some (.int .i64 250) := K0.out.g.c 8 (by decide)
  have c9 : A.cell? ⟨X3.heap.size, 9, none⟩ = some (.int .i64 250) := K0.out.g.c 9 (by decide)
  have c10 : A.cell? ⟨X3.heap.size, 10, none⟩ = some (.int .i64 1000) := K0.out.g.c 10 (by decide)
  have c11 : A.cell? ⟨X3.heap.size, 11, none⟩ = some (.int .i64 1000) := K0.out.g.c 11 (by decide)
  have c12 : A.cell? ⟨X3.heap.size, 12, none⟩ = some (.int .i64 (-6)) := K0.out.g.c 12 (by decide)
  have c13 : A.cell? ⟨X3.heap.size, 13, none⟩ = some (.int .i64 6) := K0.out.g.c 13 (by decide)
  go_wp2_with fail
  rw [← hA]
  clear hA bE
  have HS := Lib.hid (show (fun w' : World => w'.cell? ⟨X3.heap.size, 0, none⟩ = some (.int .i64 3) ∧ w'.cell? ⟨X3.heap.size, 1, none⟩ = some (.int .i64 100) ∧ w'.cell? ⟨X3.heap.size, 2, none⟩ = some (.int .i64 100) ∧ w'.cell? ⟨X3.heap.size, 3, none⟩ = some (.int .i64 108) ∧ w'.cell? ⟨X3.heap.size, 4, none⟩ = some (.int .i64 112) ∧ w'.cell? ⟨X3.heap.size, 5, none⟩ = some (.int .i64 0) ∧ w'.cell? ⟨X3.heap.size, 6, none⟩ = some (.int .i64 0) ∧ w'.cell? ⟨X3.heap.size, 7, none⟩ = some (.int .i64 20) ∧ w'.cell? ⟨X3.heap.size, 8, none⟩ = some (.int .i64 250) ∧ w'.cell? ⟨X3.heap.size, 9, none⟩ = some (.int .i64 250) ∧ w'.cell? ⟨X3.heap.size, 10, none⟩ = some (.int .i64 1000) ∧ w'.cell? ⟨X3.heap.size, 11, none⟩ = some (.int .i64 1000) ∧ w'.cell? ⟨X3.heap.size, 12, none⟩ = some (.int .i64 (-6)) ∧ w'.cell? ⟨X3.heap.size, 13, none⟩ = some (.int .i64 6) ∧ Kn w w' (X3.heap.size) (fun i => ([3, 100, 100, 108, 112, 0, 0, 20, 250, 250, 1000, 1000, -6, 6] : List Int)[i]?.getD 0) ∧ Below A.drew.heap.size A.drew w') A.drew from ⟨c0, c1, c2, c3, c4, c5, c6, c7, c8, c9, c10, c11, c12, c13, K0.out.drew, Below.refl _ _⟩)
  clear c0 c1 c2 c3 c4 c5 c6 c7 c8 c9 c10 c11 c12 c13
  refine wp_region_held_tail (S := (fun w' : World => w'.cell? ⟨X3.heap.size, 0, none⟩ = some (.int .i64 3) ∧ w'.cell? ⟨X3.heap.size, 1, none⟩ = some (.int .i64 100) ∧ w'.cell? ⟨X3.heap.size, 2, none⟩ = some (.int .i64 100) ∧ w'.cell? ⟨X3.heap.size, 3, none⟩ = some (.int .i64 108) ∧ w'.cell? ⟨X3.heap.size, 4, none⟩ = some (.int .i64 112) ∧ w'.cell? ⟨X3.heap.size, 5, none⟩ = some (.int .i64 0) ∧ w'.cell? ⟨X3.heap.size, 6, none⟩ = some (.int .i64 0) ∧ w'.cell? ⟨X3.heap.size, 7, none⟩ = some (.int .i64 20) ∧ w'.cell? ⟨X3.heap.size, 8, none⟩ = some (.int .i64 250) ∧ w'.cell? ⟨X3.heap.size, 9, none⟩ = some (.int .i64 250) ∧ w'.cell? ⟨X3.heap.size, 10, none⟩ = some (.int .i64 1000) ∧ w'.cell? ⟨X3.heap.size, 11, none⟩ = some (.int .i64 1000) ∧ w'.cell? ⟨X3.heap.size, 12, none⟩ = some (.int .i64 (-6)) ∧ w'.cell? ⟨X3.heap.size, 13, none⟩ = some (.int .i64 6) ∧ Kn w w' (X3.heap.size) (fun i => ([3, 100, 100, 108, 112, 0, 0, 20, 250, 250, 1000, 1000, -6, 6] : List Int)[i]?.getD 0) ∧ Below A.drew.heap.size A.drew w')) 13 (by kernel_rfl) (by kernel_rfl) HS.out (fun hHeld => ?_)
  refine wpAnyH_take (i := 0) (v := ?v0_1) rfl (by kernel_rfl) (by kernel_rfl) (by kernel_rfl) (fun _ _ _ h => h) (Or.inl ⟨by rfl, ?hy0_1⟩) (by assumption) ?rest0_1
  case hy0_1 => (intro w hSw; (try dsimp only at hSw); go_simp; (try with_reducible rfl))
  try simp only [Act.put, List.setIfInBounds_toArray, List.set_cons_zero, List.set_cons_succ]
  refine wpAnyH_take (i := 1) (v := ?v1_2) rfl (by kernel_rfl) (by kernel_rfl) (by kernel_rfl) (fun _ _ _ h => h) (Or.inl ⟨by rfl, ?hy1_2⟩) (by assumption) ?rest1_2
  case hy1_2 => (intro w hSw; (try dsimp only at hSw); go_simp; (try with_reducible rfl))
  try simp only [Act.put, List.setIfInBounds_toArray, List.set_cons_zero, List.set_cons_succ]
  refine wpAnyH_take (i := 2) (v := ?v2_3) rfl (by kernel_rfl) (by kernel_rfl) (by kernel_rfl) (fun _ _ _ h => h) (Or.inl ⟨by rfl, ?hy2_3⟩) (by assumption) ?rest2_3
  case hy2_3 => (intro w hSw; (try dsimp only at hSw); go_simp; (try with_reducible rfl))
  try simp only [Act.put, List.setIfInBounds_toArray, List.set_cons_zero, List.set_cons_succ]
  refine wpAnyH_take (i := 3) (v := ?v3_4) rfl (by kernel_rfl) (by kernel_rfl) (by kernel_rfl) (fun _ _ _ h => h) (Or.inl ⟨by rfl, ?hy3_4⟩) (by assumption) ?rest3_4
  case hy3_4 => (intro w hSw; (try dsimp only at hSw); go_simp; (try with_reducible rfl))
  try simp only [Act.put, List.setIfInBounds_toArray, List.set_cons_zero, List.set_cons_succ]
  refine wpAnyH_take (i := 5) (v := ?v5_5) rfl (by kernel_rfl) (by kernel_rfl) (by kernel_rfl) (fun _ _ _ h => h) (Or.inl ⟨by rfl, ?hy5_5⟩) (by assumption) ?rest5_5
  case hy5_5 => (intro w hSw; (try dsimp only at hSw); go_simp; (try with_reducible rfl))
  try simp only [Act.put, List.setIfInBounds_toArray, List.set_cons_zero, List.set_cons_succ]
  refine wpAnyH_take (i := 6) (v := ?v6_6) rfl (by kernel_rfl) (by kernel_rfl) (by kernel_rfl) (fun _ _ _ h => h) (Or.inl ⟨by rfl, ?hy6_6⟩) (by assumption) ?rest6_6
  case hy6_6 => (intro w hSw; (try dsimp only at hSw); go_simp; (try with_reducible rfl))
  try simp only [Act.put, List.setIfInBounds_toArray, List.set_cons_zero, List.set_cons_succ]
  refine wpAnyH_take (i := 7) (v := ?v7_7) rfl (by kernel_rfl) (by kernel_rfl) (by kernel_rfl) (fun _ _ _ h => h) (Or.inl ⟨by rfl, ?hy7_7⟩) (by assumption) ?rest7_7
  case hy7_7 => (intro w hSw; (try dsimp only at hSw); go_simp; (try with_reducible rfl))
  try simp only [Act.put, List.setIfInBounds_toArray, List.set_cons_zero, List.set_cons_succ]
  refine wpAnyH_take (i := 10) (v := ?v10_8) rfl (by kernel_rfl) (by kernel_rfl) (by kernel_rfl) (fun _ _ _ h => h) (Or.inl ⟨by rfl, ?hy10_8⟩) (by assumption) ?rest10_8
  case hy10_8 => (intro w hSw; (try dsimp only at hSw); go_simp; (try with_reducible rfl))
  try simp only [Act.put, List.setIfInBounds_toArray, List.set_cons_zero, List.set_cons_succ]
  refine wpAnyH_ready (rs := [4]) (by kernel_rfl) (by simp) ?_
  refine AllReadyH.cons rfl (fun K hK => ?_) AllReadyH.nil
  go_simp; go_at_call 38; refine (point_any 100 _).mono ?_; rintro e' w' ⟨rfl, hb'⟩
  refine hK.out _ _ (⟨keepW hb' hHeld.1, keepW hb' hHeld.2.1, keepW hb' hHeld.2.2.1, keepW hb' hHeld.2.2.2.1, keepW hb' hHeld.2.2.2.2.1, keepW hb' hHeld.2.2.2.2.2.1, keepW hb' hHeld.2.2.2.2.2.2.1, keepW hb' hHeld.2.2.2.2.2.2.2.1, keepW hb' hHeld.2.2.2.2.2.2.2.2.1, keepW hb' hHeld.2.2.2.2.2.2.2.2.2.1, keepW hb' hHeld.2.2.2.2.2.2.2.2.2.2.1, keepW hb' hHeld.2.2.2.2.2.2.2.2.2.2.2.1, keepW hb' hHeld.2.2.2.2.2.2.2.2.2.2.2.2.1, keepW hb' hHeld.2.2.2.2.2.2.2.2.2.2.2.2.2.1, hHeld.2.2.2.2.2.2.2.2.2.2.2.2.2.2.1.keep hb', hHeld.2.2.2.2.2.2.2.2.2.2.2.2.2.2.2.trans (hb'.mono hHeld.2.2.2.2.2.2.2.2.2.2.2.2.2.2.2.size)⟩) (fun hHeld => ?_)
  clear hK K
  try simp only [Act.put, List.setIfInBounds_toArray, List.set_cons_zero, List.set_cons_succ]
  refine wpAnyH_ready (rs := [8]) (by kernel_rfl) (by simp) ?_
  refine AllReadyH.cons rfl (fun K hK => ?_) AllReadyH.nil
  go_simp; go_at_call 38; refine (point_any 250 _).mono ?_; rintro e' w' ⟨rfl, hb'⟩
  refine hK.out _ _ (⟨keepW hb' hHeld.1, keepW hb' hHeld.2.1, keepW hb' hHeld.2.2.1, keepW hb' hHeld.2.2.2.1, keepW hb' hHeld.2.2.2.2.1, keepW hb' hHeld.2.2.2.2.2.1, keepW hb' hHeld.2.2.2.2.2.2.1, keepW hb' hHeld.2.2.2.2.2.2.2.1, keepW hb' hHeld.2.2.2.2.2.2.2.2.1, keepW hb' hHeld.2.2.2.2.2.2.2.2.2.1, keepW hb' hHeld.2.2.2.2.2.2.2.2.2.2.1, keepW hb' hHeld.2.2.2.2.2.2.2.2.2.2.2.1, keepW hb' hHeld.2.2.2.2.2.2.2.2.2.2.2.2.1, keepW hb' hHeld.2.2.2.2.2.2.2.2.2.2.2.2.2.1, hHeld.2.2.2.2.2.2.2.2.2.2.2.2.2.2.1.keep hb', hHeld.2.2.2.2.2.2.2.2.2.2.2.2.2.2.2.trans (hb'.mono hHeld.2.2.2.2.2.2.2.2.2.2.2.2.2.2.2.size)⟩) (fun hHeld => ?_)
  clear hK K
  try simp only [Act.put, List.setIfInBounds_toArray, List.set_cons_zero, List.set_cons_succ]
  refine wpAnyH_ready (rs := [9]) (by kernel_rfl) (by simp) ?_
  refine AllReadyH.cons rfl (fun K hK => ?_) AllReadyH.nil
  go_simp; go_at_call 38; refine (point_any 1000 _).mono ?_; rintro e' w' ⟨rfl, hb'⟩
  refine hK.out _ _ (⟨keepW hb' hHeld.1, keepW hb' hHeld.2.1, keepW hb' hHeld.2.2.1, keepW hb' hHeld.2.2.2.1, keepW hb' hHeld.2.2.2.2.1, keepW hb' hHeld.2.2.2.2.2.1, keepW hb' hHeld.2.2.2.2.2.2.1, keepW hb' hHeld.2.2.2.2.2.2.2.1, keepW hb' hHeld.2.2.2.2.2.2.2.2.1, keepW hb' hHeld.2.2.2.2.2.2.2.2.2.1, keepW hb' hHeld.2.2.2.2.2.2.2.2.2.2.1, keepW hb' hHeld.2.2.2.2.2.2.2.2.2.2.2.1, keepW hb' hHeld.2.2.2.2.2.2.2.2.2.2.2.2.1, keepW hb' hHeld.2.2.2.2.2.2.2.2.2.2.2.2.2.1, hHeld.2.2.2.2.2.2.2.2.2.2.2.2.2.2.1.keep hb', hHeld.2.2.2.2.2.2.2.2.2.2.2.2.2.2.2.trans (hb'.mono hHeld.2.2.2.2.2.2.2.2.2.2.2.2.2.2.2.size)⟩) (fun hHeld => ?_)
  clear hK K
  try simp only [Act.put, List.setIfInBounds_toArray, List.set_cons_zero, List.set_cons_succ]
  refine wpAnyH_take (i := 11) (v := ?v11_9) rfl (by kernel_rfl) (by kernel_rfl) (by kernel_rfl) (fun _ _ _ h => h) (Or.inl ⟨by rfl, ?hy11_9⟩) (by assumption) ?rest11_9
  case hy11_9 => (intro w hSw; (try dsimp only at hSw); go_simp; (try with_reducible rfl))
  try simp only [Act.put, List.setIfInBounds_toArray, List.set_cons_zero, List.set_cons_succ]
  refine wpAnyH_take (i := 12) (v := ?v12_10) rfl (by kernel_rfl) (by kernel_rfl) (by kernel_rfl) (fun _ _ _ h => h) (Or.inl ⟨by rfl, ?hy12_10⟩) (by assumption) ?rest12_10
  case hy12_10 => (intro w hSw; (try dsimp only at hSw); go_simp; (try with_reducible rfl))
  try simp only [Act.put, List.setIfInBounds_toArray, List.set_cons_zero, List.set_cons_succ]
  refine wpAnyH_done (by kernel_rfl) ?_ _
  change wpList _ _ _ _ _ _
  simp only [List.drop_succ_cons, List.drop_zero]
  have K20 := Lib.hid hHeld.2.2.2.2.2.2.2.2.2.2.2.2.2.2.1
  clear hHeld HS K0
  go_wp2_with fail
  refine (O_any _).mono ?_; rintro e' Y1 ⟨rfl, hb1⟩
  have K20' := Lib.hid (K20.out.keep hb1)
  clear K20
  have K20 := K20'
  clear K20'
  go_wp2_with fail
  refine (four_any _).mono ?_; rintro e' Y2 ⟨rfl, hS, hz, hb2⟩
  have K20' := Lib.hid (K20.out.keep hb2)
  clear K20
  have K20 := K20'
  clear K20'
  go_wp2_with fail
  refine (hearB _ _ hS hz).mono ?_; rintro e' Y3 ⟨rfl, hb3⟩
  have K20' := Lib.hid (K20.out.keep hb3)
  clear K20
  have K20 := K20'
  clear K20'
  clear hb1 hb2 hb3 hS hz
  have c0 : Y3.cell? ⟨X3.heap.size, 0, none⟩ = some (.int .i64 3) := K20.out.g.c 0 (by decide)
  have c1 : Y3.cell? ⟨X3.heap.size, 1, none⟩ = some (.int .i64 100) := K20.out.g.c 1 (by decide)
  have c2 : Y3.cell? ⟨X3.heap.size, 2, none⟩ = some (.int .i64 100) := K20.out.g.c 2 (by decide)
  have c3 : Y3.cell? ⟨X3.heap.size, 3, none⟩ = some (.int .i64 108) := K20.out.g.c 3 (by decide)
  have c4 : Y3.cell? ⟨X3.heap.size, 4, none⟩ = some (.int .i64 112) := K20.out.g.c 4 (by decide)
  have c5 : Y3.cell? ⟨X3.heap.size, 5, none⟩ = some (.int .i64 0) := K20.out.g.c 5 (by decide)
  have c6 : Y3.cell? ⟨X3.heap.size, 6, none⟩ = some (.int .i64 0) := K20.out.g.c 6 (by decide)
  have c7 : Y3.cell? ⟨X3.heap.size, 7, none⟩ = some (.int .i64 20) := K20.out.g.c 7 (by decide)
  have c8 : Y3.cell? ⟨X3.heap.size, 8, none⟩ = some (.int .i64 250) := K20.out.g.c 8 (by decide)
  have c9 : Y3.cell? ⟨X3.heap.size, 9, none⟩ = some (.int .i64 250) := K20.out.g.c 9 (by decide)
  have c10 : Y3.cell? ⟨X3.heap.size, 10, none⟩ = some (.int .i64 1000) := K20.out.g.c 10 (by decide)
  have c11 : Y3.cell? ⟨X3.heap.size, 11, none⟩ = some (.int .i64 1000) := K20.out.g.c 11 (by decide)
  have c12 : Y3.cell? ⟨X3.heap.size, 12, none⟩ = some (.int .i64 (-6)) := K20.out.g.c 12 (by decide)
  have c13 : Y3.cell? ⟨X3.heap.size, 13, none⟩ = some (.int .i64 6) := K20.out.g.c 13 (by decide)
  have f0 : Y3.frozen? ⟨X3.heap.size, 0, none⟩ = false := K20.out.g.f 0 (by decide)
  have f1 : Y3.frozen? ⟨X3.heap.size, 1, none⟩ = false := K20.out.g.f 1 (by decide)
  have f2 : Y3.frozen? ⟨X3.heap.size, 2, none⟩ = false := K20.out.g.f 2 (by decide)
  have f3 : Y3.frozen? ⟨X3.heap.size, 3, none⟩ = false := K20.out.g.f 3 (by decide)
  have f4 : Y3.frozen? ⟨X3.heap.size, 4, none⟩ = false := K20.out.g.f 4 (by decide)
  have f5 : Y3.frozen? ⟨X3.heap.size, 5, none⟩ = false := K20.out.g.f 5 (by decide)
  have f6 : Y3.frozen? ⟨X3.heap.size, 6, none⟩ = false := K20.out.g.f 6 (by decide)
  have f7 : Y3.frozen? ⟨X3.heap.size, 7, none⟩ = false := K20.out.g.f 7 (by decide)
  have f8 : Y3.frozen? ⟨X3.heap.size, 8, none⟩ = false := K20.out.g.f 8 (by decide)
  have f9 : Y3.frozen? ⟨X3.heap.size, 9, none⟩ = false := K20.out.g.f 9 (by decide)
  have f10 : Y3.frozen? ⟨X3.heap.size, 10, none⟩ = false := K20.out.g.f 10 (by decide)
  have f11 : Y3.frozen? ⟨X3.heap.size, 11, none⟩ = false := K20.out.g.f 11 (by decide)
  have f12 : Y3.frozen? ⟨X3.heap.size, 12, none⟩ = false := K20.out.g.f 12 (by decide)
  have f13 : Y3.frozen? ⟨X3.heap.size, 13, none⟩ = false := K20.out.g.f 13 (by decide)
  obtain ⟨Zw, hZ⟩ : ∃ Z, Z = ((((((((((((((Y3.setCell ⟨X3.heap.size, 0, none⟩ (.int .i64 3)).setCell ⟨X3.heap.size, 1, none⟩ (.int .i64 61)).setCell ⟨X3.heap.size, 2, none⟩ (.int .i64 111)).setCell ⟨X3.heap.size, 3, none⟩ (.int .i64 110)).setCell ⟨X3.heap.size, 4, none⟩ (.int .i64 110)).setCell ⟨X3.heap.size, 5, none⟩ (.int .i64 0)).setCell ⟨X3.heap.size, 6, none⟩ (.int .i64 0)).setCell ⟨X3.heap.size, 7, none⟩ (.int .i64 20)).setCell ⟨X3.heap.size, 8, none⟩ (.int .i64 0)).setCell ⟨X3.heap.size, 9, none⟩ (.int .i64 427)).setCell ⟨X3.heap.size, 10, none⟩ (.int .i64 297)).setCell ⟨X3.heap.size, 11, none⟩ (.int .i64 1000)).setCell ⟨X3.heap.size, 12, none⟩ (.int .i64 0)).setCell ⟨X3.heap.size, 13, none⟩ (.int .i64 0)) := ⟨_, rfl⟩
  have K4 : Kn w Zw (X3.heap.size) (fun i => ([3, 61, 111, 110, 110, 0, 0, 20, 0, 427, 297, 1000, 0, 0] : List Int)[i]?.getD 0) := by rw [hZ]; exact (((((((((((((((K20.out.set (k := 0) (v := 3)).set (k := 1) (v := 61)).set (k := 2) (v := 111)).set (k := 3) (v := 110)).set (k := 4) (v := 110)).set (k := 5) (v := 0)).set (k := 6) (v := 0)).set (k := 7) (v := 20)).set (k := 8) (v := 0)).set (k := 9) (v := 427)).set (k := 10) (v := 297)).set (k := 11) (v := 1000)).set (k := 12) (v := 0)).set (k := 13) (v := 0))).is (fun i hi => by
    match i, hi with
    | 0, _ => rfl
    | 1, _ => rfl
    | 2, _ => rfl
    | 3, _ => rfl
    | 4, _ => rfl
    | 5, _ => rfl
    | 6, _ => rfl
    | 7, _ => rfl
    | 8, _ => rfl
    | 9, _ => rfl
    | 10, _ => rfl
    | 11, _ => rfl
    | 12, _ => rfl
    | 13, _ => rfl
    | i + 14, h => omega)
  have d := K4
  have d0 : Zw.cell? ⟨X3.heap.size, 0, none⟩ = some (.int .i64 3) := K4.g.c 0 (by decide)
  have d1 : Zw.cell? ⟨X3.heap.size, 1, none⟩ = some (.int .i64 61) := K4.g.c 1 (by decide)
  have d2 : Zw.cell? ⟨X3.heap.size, 2, none⟩ = some (.int .i64 111) := K4.g.c 2 (by decide)
  have d3 : Zw.cell? ⟨X3.heap.size, 3, none⟩ = some (.int .i64 110) := K4.g.c 3 (by decide)
  have d4 : Zw.cell? ⟨X3.heap.size, 4, none⟩ = some (.int .i64 110) := K4.g.c 4 (by decide)
  have d5 : Zw.cell? ⟨X3.heap.size, 5, none⟩ = some (.int .i64 0) := K4.g.c 5 (by decide)
  have d6 : Zw.cell? ⟨X3.heap.size, 6, none⟩ = some (.int .i64 0) := K4.g.c 6 (by decide)
  have d7 : Zw.cell? ⟨X3.heap.size, 7, none⟩ = some (.int .i64 20) := K4.g.c 7 (by decide)
  have d8 : Zw.cell? ⟨X3.heap.size, 8, none⟩ = some (.int .i64 0) := K4.g.c 8 (by decide)
  have d9 : Zw.cell? ⟨X3.heap.size, 9, none⟩ = some (.int .i64 427) := K4.g.c 9 (by decide)
  have d10 : Zw.cell? ⟨X3.heap.size, 10, none⟩ = some (.int .i64 297) := K4.g.c 10 (by decide)
  have d11 : Zw.cell? ⟨X3.heap.size, 11, none⟩ = some (.int .i64 1000) := K4.g.c 11 (by decide)
  have d12 : Zw.cell? ⟨X3.heap.size, 12, none⟩ = some (.int .i64 0) := K4.g.c 12 (by decide)
  have d13 : Zw.cell? ⟨X3.heap.size, 13, none⟩ = some (.int .i64 0) := K4.g.c 13 (by decide)
  have K5 := Lib.hid K4
  clear K4 d
  go_wp2_with fail
  rw [← hZ]
  clear hZ K20 c0 c1 c2 c3 c4 c5 c6 c7 c8 c9 c10 c11 c12 c13 f0 f1 f2 f3 f4 f5 f6 f7 f8 f9 f10 f11 f12 f13
  have HS := Lib.hid (show (fun w' : World => w'.cell? ⟨X3.heap.size, 0, none⟩ = some (.int .i64 3) ∧ w'.cell? ⟨X3.heap.size, 1, none⟩ = some (.int .i64 61) ∧ w'.cell? ⟨X3.heap.size, 2, none⟩ = some (.int .i64 111) ∧ w'.cell? ⟨X3.heap.size, 3, none⟩ = some (.int .i64 110) ∧ w'.cell? ⟨X3.heap.size, 4, none⟩ = some (.int .i64 110) ∧ w'.cell? ⟨X3.heap.size, 5, none⟩ = some (.int .i64 0) ∧ w'.cell? ⟨X3.heap.size, 6, none⟩ = some (.int .i64 0) ∧ w'.cell? ⟨X3.heap.size, 7, none⟩ = some (.int .i64 20) ∧ w'.cell? ⟨X3.heap.size, 8, none⟩ = some (.int .i64 0) ∧ w'.cell? ⟨X3.heap.size, 9, none⟩ = some (.int .i64 427) ∧ w'.cell? ⟨X3.heap.size, 10, none⟩ = some (.int .i64 297) ∧ w'.cell? ⟨X3.heap.size, 11, none⟩ = some (.int .i64 1000) ∧ w'.cell? ⟨X3.heap.size, 12, none⟩ = some (.int .i64 0) ∧ w'.cell? ⟨X3.heap.size, 13, none⟩ = some (.int .i64 0) ∧ Kn w w' (X3.heap.size) (fun i => ([3, 61, 111, 110, 110, 0, 0, 20, 0, 427, 297, 1000, 0, 0] : List Int)[i]?.getD 0) ∧ Below Zw.drew.heap.size Zw.drew w') Zw.drew from ⟨d0, d1, d2, d3, d4, d5, d6, d7, d8, d9, d10, d11, d12, d13, K5.out.drew, Below.refl _ _⟩)
  clear d0 d1 d2 d3 d4 d5 d6 d7 d8 d9 d10 d11 d12 d13
  refine wp_region_held_tail (S := (fun w' : World => w'.cell? ⟨X3.heap.size, 0, none⟩ = some (.int .i64 3) ∧ w'.cell? ⟨X3.heap.size, 1, none⟩ = some (.int .i64 61) ∧ w'.cell? ⟨X3.heap.size, 2, none⟩ = some (.int .i64 111) ∧ w'.cell? ⟨X3.heap.size, 3, none⟩ = some (.int .i64 110) ∧ w'.cell? ⟨X3.heap.size, 4, none⟩ = some (.int .i64 110) ∧ w'.cell? ⟨X3.heap.size, 5, none⟩ = some (.int .i64 0) ∧ w'.cell? ⟨X3.heap.size, 6, none⟩ = some (.int .i64 0) ∧ w'.cell? ⟨X3.heap.size, 7, none⟩ = some (.int .i64 20) ∧ w'.cell? ⟨X3.heap.size, 8, none⟩ = some (.int .i64 0) ∧ w'.cell? ⟨X3.heap.size, 9, none⟩ = some (.int .i64 427) ∧ w'.cell? ⟨X3.heap.size, 10, none⟩ = some (.int .i64 297) ∧ w'.cell? ⟨X3.heap.size, 11, none⟩ = some (.int .i64 1000) ∧ w'.cell? ⟨X3.heap.size, 12, none⟩ = some (.int .i64 0) ∧ w'.cell? ⟨X3.heap.size, 13, none⟩ = some (.int .i64 0) ∧ Kn w w' (X3.heap.size) (fun i => ([3, 61, 111, 110, 110, 0, 0, 20, 0, 427, 297, 1000, 0, 0] : List Int)[i]?.getD 0) ∧ Below Zw.drew.heap.size Zw.drew w')) 12 (by kernel_rfl) (by kernel_rfl) HS.out (fun hHeld => ?_)
  refine wpAnyH_take (i := 0) (v := ?v0_11) rfl (by kernel_rfl) (by kernel_rfl) (by kernel_rfl) (fun _ _ _ h => h) (Or.inl ⟨by rfl, ?hy0_11⟩) (by assumption) ?rest0_11
  case hy0_11 => (intro w hSw; (try dsimp only at hSw); go_simp; (try with_reducible rfl))
  try simp only [Act.put, List.setIfInBounds_toArray, List.set_cons_zero, List.set_cons_succ]
  refine wpAnyH_take (i := 1) (v := ?v1_12) rfl (by kernel_rfl) (by kernel_rfl) (by kernel_rfl) (fun _ _ _ h => h) (Or.inl ⟨by rfl, ?hy1_12⟩) (by assumption) ?rest1_12
  case hy1_12 => (intro w hSw; (try dsimp only at hSw); go_simp; (try with_reducible rfl))
  try simp only [Act.put, List.setIfInBounds_toArray, List.set_cons_zero, List.set_cons_succ]
  refine wpAnyH_take (i := 2) (v := ?v2_13) rfl (by kernel_rfl) (by kernel_rfl) (by kernel_rfl) (fun _ _ _ h => h) (Or.inl ⟨by rfl, ?hy2_13⟩) (by assumption) ?rest2_13
  case hy2_13 => (intro w hSw; (try dsimp only at hSw); go_simp; (try with_reducible rfl))
  try simp only [Act.put, List.setIfInBounds_toArray, List.set_cons_zero, List.set_cons_succ]
  refine wpAnyH_take (i := 3) (v := ?v3_14) rfl (by kernel_rfl) (by kernel_rfl) (by kernel_rfl) (fun _ _ _ h => h) (Or.inl ⟨by rfl, ?hy3_14⟩) (by assumption) ?rest3_14
  case hy3_14 => (intro w hSw; (try dsimp only at hSw); go_simp; (try with_reducible rfl))
  try simp only [Act.put, List.setIfInBounds_toArray, List.set_cons_zero, List.set_cons_succ]
  refine wpAnyH_take (i := 4) (v := ?v4_15) rfl (by kernel_rfl) (by kernel_rfl) (by kernel_rfl) (fun _ _ _ h => h) (Or.inl ⟨by rfl, ?hy4_15⟩) (by assumption) ?rest4_15
  case hy4_15 => (intro w hSw; (try dsimp only at hSw); go_simp; (try with_reducible rfl))
  try simp only [Act.put, List.setIfInBounds_toArray, List.set_cons_zero, List.set_cons_succ]
  refine wpAnyH_take (i := 6) (v := ?v6_16) rfl (by kernel_rfl) (by kernel_rfl) (by kernel_rfl) (fun _ _ _ h => h) (Or.inl ⟨by rfl, ?hy6_16⟩) (by assumption) ?rest6_16
  case hy6_16 => (intro w hSw; (try dsimp only at hSw); go_simp; (try with_reducible rfl))
  try simp only [Act.put, List.setIfInBounds_toArray, List.set_cons_zero, List.set_cons_succ]
  refine wpAnyH_take (i := 8) (v := ?v8_17) rfl (by kernel_rfl) (by kernel_rfl) (by kernel_rfl) (fun _ _ _ h => h) (Or.inl ⟨by rfl, ?hy8_17⟩) (by assumption) ?rest8_17
  case hy8_17 => (intro w hSw; (try dsimp only at hSw); go_simp; (try with_reducible rfl))
  try simp only [Act.put, List.setIfInBounds_toArray, List.set_cons_zero, List.set_cons_succ]
  refine wpAnyH_take (i := 9) (v := ?v9_18) rfl (by kernel_rfl) (by kernel_rfl) (by kernel_rfl) (fun _ _ _ h => h) (Or.inl ⟨by rfl, ?hy9_18⟩) (by assumption) ?rest9_18
  case hy9_18 => (intro w hSw; (try dsimp only at hSw); go_simp; (try with_reducible rfl))
  try simp only [Act.put, List.setIfInBounds_toArray, List.set_cons_zero, List.set_cons_succ]
  refine wpAnyH_ready (rs := [5]) (by kernel_rfl) (by simp) ?_
  refine AllReadyH.cons rfl (fun K hK => ?_) AllReadyH.nil
  go_simp; go_at_call 38; refine (point_any 110 _).mono ?_; rintro e' w' ⟨rfl, hb'⟩
  refine hK.out _ _ (⟨keepW hb' hHeld.1, keepW hb' hHeld.2.1, keepW hb' hHeld.2.2.1, keepW hb' hHeld.2.2.2.1, keepW hb' hHeld.2.2.2.2.1, keepW hb' hHeld.2.2.2.2.2.1, keepW hb' hHeld.2.2.2.2.2.2.1, keepW hb' hHeld.2.2.2.2.2.2.2.1, keepW hb' hHeld.2.2.2.2.2.2.2.2.1, keepW hb' hHeld.2.2.2.2.2.2.2.2.2.1, keepW hb' hHeld.2.2.2.2.2.2.2.2.2.2.1, keepW hb' hHeld.2.2.2.2.2.2.2.2.2.2.2.1, keepW hb' hHeld.2.2.2.2.2.2.2.2.2.2.2.2.1, keepW hb' hHeld.2.2.2.2.2.2.2.2.2.2.2.2.2.1, hHeld.2.2.2.2.2.2.2.2.2.2.2.2.2.2.1.keep hb', hHeld.2.2.2.2.2.2.2.2.2.2.2.2.2.2.2.trans (hb'.mono hHeld.2.2.2.2.2.2.2.2.2.2.2.2.2.2.2.size)⟩) (fun hHeld => ?_)
  clear hK K
  try simp only [Act.put, List.setIfInBounds_toArray, List.set_cons_zero, List.set_cons_succ]
  refine wpAnyH_take (i := 7) (v := ?v7_19) rfl (by kernel_rfl) (by kernel_rfl) (by kernel_rfl) (fun _ _ _ h => h) (Or.inl ⟨by rfl, ?hy7_19⟩) (by assumption) ?rest7_19
  case hy7_19 => (intro w hSw; (try dsimp only at hSw); go_simp; (try with_reducible rfl))
  try simp only [Act.put, List.setIfInBounds_toArray, List.set_cons_zero, List.set_cons_succ]
  refine wpAnyH_take (i := 10) (v := ?v10_20) rfl (by kernel_rfl) (by kernel_rfl) (by kernel_rfl) (fun _ _ _ h => h) (Or.inl ⟨by rfl, ?hy10_20⟩) (by assumption) ?rest10_20
  case hy10_20 => (intro w hSw; (try dsimp only at hSw); go_simp; (try with_reducible rfl))
  try simp only [Act.put, List.setIfInBounds_toArray, List.set_cons_zero, List.set_cons_succ]
  refine wpAnyH_take (i := 11) (v := ?v11_21) rfl (by kernel_rfl) (by kernel_rfl) (by kernel_rfl) (fun _ _ _ h => h) (Or.inl ⟨by rfl, ?hy11_21⟩) (by assumption) ?rest11_21
  case hy11_21 => (intro w hSw; (try dsimp only at hSw); go_simp; (try with_reducible rfl))
  try simp only [Act.put, List.setIfInBounds_toArray, List.set_cons_zero, List.set_cons_succ]
  refine wpAnyH_done (by kernel_rfl) ?_ _
  change wpList _ _ _ _ _ _
  simp only [List.drop_succ_cons, List.drop_zero]
  have K50 := Lib.hid hHeld.2.2.2.2.2.2.2.2.2.2.2.2.2.2.1
  clear hHeld HS K5
  obtain ⟨M, hMM⟩ : ∃ M, M = w'.alloc (.cells #[.int .i64 10, .int .i64 0, .int .i64 5, .int .i64 0, .int .i64 10, .int .i64 32768, .int .i64 5, .int .i64 0, .int .i64 10, .int .i64 0, .int .i64 5, .int .i64 0, .int .i64 10, .int .i64 0, .int .i64 5, .int .i64 0] 84) := ⟨_, rfl⟩
  have hM := mixAt w'
  have hmz : w'.heap.size < (w'.alloc (.cells #[.int .i64 10, .int .i64 0, .int .i64 5, .int .i64 0, .int .i64 10, .int .i64 32768, .int .i64 5, .int .i64 0, .int .i64 10, .int .i64 0, .int .i64 5, .int .i64 0, .int .i64 10, .int .i64 0, .int .i64 5, .int .i64 0] 84)).heap.size := by rw [World.size_alloc]; omega
  have hqm := below_alloc w' (.cells #[.int .i64 10, .int .i64 0, .int .i64 5, .int .i64 0, .int .i64 10, .int .i64 32768, .int .i64 5, .int .i64 0, .int .i64 10, .int .i64 0, .int .i64 5, .int .i64 0, .int .i64 10, .int .i64 0, .int .i64 5, .int .i64 0] 84)
  rw [← hMM] at hM hmz hqm
  have K50' := Lib.hid (K50.out.keep hqm)
  clear K50
  have K50 := K50'
  clear K50'
  go_wp2_with fail
  rw [← hMM]
  clear hMM hqm
  refine (O_any _).mono ?_; rintro e' Q1 ⟨rfl, hb1⟩
  have K50' := Lib.hid (K50.out.keep hb1)
  clear K50
  have K50 := K50'
  clear K50'
  have hM2 := hM.keep hb1 hmz
  have hz2 := Nat.lt_of_lt_of_le hmz hb1.size
  clear hM hmz hb1
  go_wp2_with fail
  refine (hearC _ _ hM2 hz2).mono ?_; rintro e' Q2 ⟨rfl, hb2⟩
  have K50' := Lib.hid (K50.out.keep hb2)
  clear K50
  have K50 := K50'
  clear K50'
  clear hM2 hz2 hb2
  have c0 : Q2.cell? ⟨X3.heap.size, 0, none⟩ = some (.int .i64 3) := K50.out.g.c 0 (by decide)
  have c1 : Q2.cell? ⟨X3.heap.size, 1, none⟩ = some (.int .i64 61) := K50.out.g.c 1 (by decide)
  have c2 : Q2.cell? ⟨X3.heap.size, 2, none⟩ = some (.int .i64 111) := K50.out.g.c 2 (by decide)
  have c3 : Q2.cell? ⟨X3.heap.size, 3, none⟩ = some (.int .i64 110) := K50.out.g.c 3 (by decide)
  have c4 : Q2.cell? ⟨X3.heap.size, 4, none⟩ = some (.int .i64 110) := K50.out.g.c 4 (by decide)
  have c5 : Q2.cell? ⟨X3.heap.size, 5, none⟩ = some (.int .i64 0) := K50.out.g.c 5 (by decide)
  have c6 : Q2.cell? ⟨X3.heap.size, 6, none⟩ = some (.int .i64 0) := K50.out.g.c 6 (by decide)
  have c7 : Q2.cell? ⟨X3.heap.size, 7, none⟩ = some (.int .i64 20) := K50.out.g.c 7 (by decide)
  have c8 : Q2.cell? ⟨X3.heap.size, 8, none⟩ = some (.int .i64 0) := K50.out.g.c 8 (by decide)
  have c9 : Q2.cell? ⟨X3.heap.size, 9, none⟩ = some (.int .i64 427) := K50.out.g.c 9 (by decide)
  have c10 : Q2.cell? ⟨X3.heap.size, 10, none⟩ = some (.int .i64 297) := K50.out.g.c 10 (by decide)
  have c11 : Q2.cell? ⟨X3.heap.size, 11, none⟩ = some (.int .i64 1000) := K50.out.g.c 11 (by decide)
  have c12 : Q2.cell? ⟨X3.heap.size, 12, none⟩ = some (.int .i64 0) := K50.out.g.c 12 (by decide)
  have c13 : Q2.cell? ⟨X3.heap.size, 13, none⟩ = some (.int .i64 0) := K50.out.g.c 13 (by decide)
  have f0 : Q2.frozen? ⟨X3.heap.size, 0, none⟩ = false := K50.out.g.f 0 (by decide)
  have f1 : Q2.frozen? ⟨X3.heap.size, 1, none⟩ = false := K50.out.g.f 1 (by decide)
  have f2 : Q2.frozen? ⟨X3.heap.size, 2, none⟩ = false := K50.out.g.f 2 (by decide)
  have f3 : Q2.frozen? ⟨X3.heap.size, 3, none⟩ = false := K50.out.g.f 3 (by decide)
  have f4 : Q2.frozen? ⟨X3.heap.size, 4, none⟩ = false := K50.out.g.f 4 (by decide)
  have f5 : Q2.frozen? ⟨X3.heap.size, 5, none⟩ = false := K50.out.g.f 5 (by decide)
  have f6 : Q2.frozen? ⟨X3.heap.size, 6, none⟩ = false := K50.out.g.f 6 (by decide)
  have f7 : Q2.frozen? ⟨X3.heap.size, 7, none⟩ = false := K50.out.g.f 7 (by decide)
  have f8 : Q2.frozen? ⟨X3.heap.size, 8, none⟩ = false := K50.out.g.f 8 (by decide)
  have f9 : Q2.frozen? ⟨X3.heap.size, 9, none⟩ = false := K50.out.g.f 9 (by decide)
  have f10 : Q2.frozen? ⟨X3.heap.size, 10, none⟩ = false := K50.out.g.f 10 (by decide)
  have f11 : Q2.frozen? ⟨X3.heap.size, 11, none⟩ = false := K50.out.g.f 11 (by decide)
  have f12 : Q2.frozen? ⟨X3.heap.size, 12, none⟩ = false := K50.out.g.f 12 (by decide)
  have f13 : Q2.frozen? ⟨X3.heap.size, 13, none⟩ = false := K50.out.g.f 13 (by decide)
  obtain ⟨Zw, hZ⟩ : ∃ Z, Z = ((((((((((((((Q2.setCell ⟨X3.heap.size, 0, none⟩ (.int .i64 2)).setCell ⟨X3.heap.size, 1, none⟩ (.int .i64 100)).setCell ⟨X3.heap.size, 2, none⟩ (.int .i64 100)).setCell ⟨X3.heap.size, 3, none⟩ (.int .i64 0)).setCell ⟨X3.heap.size, 4, none⟩ (.int .i64 0)).setCell ⟨X3.heap.size, 5, none⟩ (.int .i64 0)).setCell ⟨X3.heap.size, 6, none⟩ (.int .i64 0)).setCell ⟨X3.heap.size, 7, none⟩ (.int .i64 32768)).setCell ⟨X3.heap.size, 8, none⟩ (.int .i64 250)).setCell ⟨X3.heap.size, 9, none⟩ (.int .i64 250)).setCell ⟨X3.heap.size, 10, none⟩ (.int .i64 1000)).setCell ⟨X3.heap.size, 11, none⟩ (.int .i64 1000)).setCell ⟨X3.heap.size, 12, none⟩ (.int .i64 0)).setCell ⟨X3.heap.size, 13, none⟩ (.int .i64 0)) := ⟨_, rfl⟩
  have K6 : Kn w Zw (X3.heap.size) (fun i => ([2, 100, 100, 0, 0, 0, 0, 32768, 250, 250, 1000, 1000, 0, 0] : List Int)[i]?.getD 0) := by rw [hZ]; exact (((((((((((((((K50.out.set (k := 0) (v := 2)).set (k := 1) (v := 100)).set (k := 2) (v := 100)).set (k := 3) (v := 0)).set (k := 4) (v := 0)).set (k := 5) (v := 0)).set (k := 6) (v := 0)).set (k := 7) (v := 32768)).set (k := 8) (v := 250)).set (k := 9) (v := 250)).set (k := 10) (v := 1000)).set (k := 11) (v := 1000)).set (k := 12) (v := 0)).set (k := 13) (v := 0))).is (fun i hi => by
    match i, hi with
    | 0, _ => rfl
    | 1, _ => rfl
    | 2, _ => rfl
    | 3, _ => rfl
    | 4, _ => rfl
    | 5, _ => rfl
    | 6, _ => rfl
    | 7, _ => rfl
    | 8, _ => rfl
    | 9, _ => rfl
    | 10, _ => rfl
    | 11, _ => rfl
    | 12, _ => rfl
    | 13, _ => rfl
    | i + 14, h => omega)
  have K7 := Lib.hid K6
  clear K6
  go_wp2_with fail
  rw [← hZ]
  clear hZ K50 c0 c1 c2 c3 c4 c5 c6 c7 c8 c9 c10 c11 c12 c13 f0 f1 f2 f3 f4 f5 f6 f7 f8 f9 f10 f11 f12 f13
  refine (O_any _).mono ?_; rintro e' P1 ⟨rfl, hb1⟩
  have K7' := Lib.hid (K7.out.keep hb1)
  clear K7
  have K7 := K7'
  clear K7'
  go_wp2_with fail
  refine (point_any 200 _).mono ?_; rintro e' P2 ⟨rfl, hb2⟩
  have K7' := Lib.hid (K7.out.keep hb2)
  clear K7
  have K7 := K7'
  clear K7'
  go_wp2_with fail
  refine (four_any _).mono ?_; rintro e' P3 ⟨rfl, hS, hz, hb3⟩
  have K7' := Lib.hid (K7.out.keep hb3)
  clear K7
  have K7 := K7'
  clear K7'
  go_wp2_with fail
  refine (hearD _ _ hS hz).mono ?_; rintro e' R4 ⟨rfl, hb4⟩
  have K7' := Lib.hid (K7.out.keep hb4)
  clear K7
  have K7 := K7'
  clear K7'
  clear hb1 hb2 hb3 hb4 hS hz
  obtain ⟨A, hA⟩ : ∃ A, A = R4.alloc (.cells #[.int .i64 1, .int .i64 0, .int .i64 0, .int .i64 0, .int .i64 0, .int .i64 0, .int .i64 0, .int .i64 0, .int .i64 0, .int .i64 0, .int .i64 0, .int .i64 0, .int .i64 0, .int .i64 0] 30) := ⟨_, rfl⟩
  have K8 := Lib.hid (show Kn w A (R4.heap.size) (fun i => ([1, 0, 0, 0, 0, 0, 0, 0, 0, 0, 0, 0, 0, 0] : List Int)[i]?.getD 0) by rw [hA]; exact Kn.new w R4 (fun i => ([1, 0, 0, 0, 0, 0, 0, 0, 0, 0, 0, 0, 0, 0] : List Int)[i]?.getD 0) K7.out.b)
  have K9 := Lib.hid (show Kn w A (X3.heap.size) (fun i => ([2, 100, 100, 0, 0, 0, 0, 32768, 250, 250, 1000, 1000, 0, 0] : List Int)[i]?.getD 0) by rw [hA]; exact K7.out.keep (below_alloc _ _))
  clear K7
  have c0 : A.cell? ⟨X3.heap.size, 0, none⟩ = some (.int .i64 2) := K9.out.g.c 0 (by decide)
  have c1 : A.cell? ⟨X3.heap.size, 1, none⟩ = some (.int .i64 100) := K9.out.g.c 1 (by decide)
  have c2 : A.cell? ⟨X3.heap.size, 2, none⟩ = some (.int .i64 100) := K9.out.g.c 2 (by decide)
  have c3 : A.cell? ⟨X3.heap.size, 3, none⟩ = some (.int .i64 0) := K9.out.g.c 3 (by decide)
  have c4 : A.cell? ⟨X3.heap.size, 4, none⟩ = some (.int .i64 0) := K9.out.g.c 4 (by decide)
  have c5 : A.cell? ⟨X3.heap.size, 5, none⟩ = some (.int .i64 0) := K9.out.g.c 5 (by decide)
  have c6 : A.cell? ⟨X3.heap.size, 6, none⟩ = some (.int .i64 0) := K9.out.g.c 6 (by decide)
  have c7 : A.cell? ⟨X3.heap.size, 7, none⟩ = some (.int .i64 32768) := K9.out.g.c 7 (by decide)
  have c8 : A.cell? ⟨X3.heap.size, 8, none⟩ = some (.int .i64 250) := K9.out.g.c 8 (by decide)
  have c9 : A.cell? ⟨X3.heap.size, 9, none⟩ = some (.int .i64 250) := K9.out.g.c 9 (by decide)
  have c10 : A.cell? ⟨X3.heap.size, 10, none⟩ = some (.int .i64 1000) := K9.out.g.c 10 (by decide)
  have c11 : A.cell? ⟨X3.heap.size, 11, none⟩ = some (.int .i64 1000) := K9.out.g.c 11 (by decide)
  have c12 : A.cell? ⟨X3.heap.size, 12, none⟩ = some (.int .i64 0) := K9.out.g.c 12 (by decide)
  have c13 : A.cell? ⟨X3.heap.size, 13, none⟩ = some (.int .i64 0) := K9.out.g.c 13 (by decide)
  have d0 : A.cell? ⟨R4.heap.size, 0, none⟩ = some (.int .i64 1) := K8.out.g.c 0 (by decide)
  have d1 : A.cell? ⟨R4.heap.size, 1, none⟩ = some (.int .i64 0) := K8.out.g.c 1 (by decide)
  have d2 : A.cell? ⟨R4.heap.size, 2, none⟩ = some (.int .i64 0) := K8.out.g.c 2 (by decide)
  have d3 : A.cell? ⟨R4.heap.size, 3, none⟩ = some (.int .i64 0) := K8.out.g.c 3 (by decide)
  have d4 : A.cell? ⟨R4.heap.size, 4, none⟩ = some (.int .i64 0) := K8.out.g.c 4 (by decide)
  have d5 : A.cell? ⟨R4.heap.size, 5, none⟩ = some (.int .i64 0) := K8.out.g.c 5 (by decide)
  have d6 : A.cell? ⟨R4.heap.size, 6, none⟩ = some (.int .i64 0) := K8.out.g.c 6 (by decide)
  have d7 : A.cell? ⟨R4.heap.size, 7, none⟩ = some (.int .i64 0) := K8.out.g.c 7 (by decide)
  have d8 : A.cell? ⟨R4.heap.size, 8, none⟩ = some (.int .i64 0) := K8.out.g.c 8 (by decide)
  have d9 : A.cell? ⟨R4.heap.size, 9, none⟩ = some (.int .i64 0) := K8.out.g.c 9 (by decide)
  have d10 : A.cell? ⟨R4.heap.size, 10, none⟩ = some (.int .i64 0) := K8.out.g.c 10 (by decide)
  have d11 : A.cell? ⟨R4.heap.size, 11, none⟩ = some (.int .i64 0) := K8.out.g.c 11 (by decide)
  have d12 : A.cell? ⟨R4.heap.size, 12, none⟩ = some (.int .i64 0) := K8.out.g.c 12 (by decide)
  have d13 : A.cell? ⟨R4.heap.size, 13, none⟩ = some (.int .i64 0) := K8.out.g.c 13 (by decide)
  go_wp2_with fail
  rw [← hA]
  clear hA
  have HS := Lib.hid (show (fun w' : World => w'.cell? ⟨X3.heap.size, 0, none⟩ = some (.int .i64 2) ∧ w'.cell? ⟨X3.heap.size, 1, none⟩ = some (.int .i64 100) ∧ w'.cell? ⟨X3.heap.size, 2, none⟩ = some (.int .i64 100) ∧ w'.cell? ⟨X3.heap.size, 3, none⟩ = some (.int .i64 0) ∧ w'.cell? ⟨X3.heap.size, 4, none⟩ = some (.int .i64 0) ∧ w'.cell? ⟨X3.heap.size, 5, none⟩ = some (.int .i64 0) ∧ w'.cell? ⟨X3.heap.size, 6, none⟩ = some (.int .i64 0) ∧ w'.cell? ⟨X3.heap.size, 7, none⟩ = some (.int .i64 32768) ∧ w'.cell? ⟨X3.heap.size, 8, none⟩ = some (.int .i64 250) ∧ w'.cell? ⟨X3.heap.size, 9, none⟩ = some (.int .i64 250) ∧ w'.cell? ⟨X3.heap.size, 10, none⟩ = some (.int .i64 1000) ∧ w'.cell? ⟨X3.heap.size, 11, none⟩ = some (.int .i64 1000) ∧ w'.cell? ⟨X3.heap.size, 12, none⟩ = some (.int .i64 0) ∧ w'.cell? ⟨X3.heap.size, 13, none⟩ = some (.int .i64 0) ∧ w'.cell? ⟨R4.heap.size, 0, none⟩ = some (.int .i64 1) ∧ w'.cell? ⟨R4.heap.size, 1, none⟩ = some (.int .i64 0) ∧ w'.cell? ⟨R4.heap.size, 2, none⟩ = some (.int .i64 0) ∧ w'.cell? ⟨R4.heap.size, 3, none⟩ = some (.int .i64 0) ∧ w'.cell? ⟨R4.heap.size, 4, none⟩ = some (.int .i64 0) ∧ w'.cell? ⟨R4.heap.size, 5, none⟩ = some (.int .i64 0) ∧ w'.cell? ⟨R4.heap.size, 6, none⟩ = some (.int .i64 0) ∧ w'.cell? ⟨R4.heap.size, 7, none⟩ = some (.int .i64 0) ∧ w'.cell? ⟨R4.heap.size, 8, none⟩ = some (.int .i64 0) ∧ w'.cell? ⟨R4.heap.size, 9, none⟩ = some (.int .i64 0) ∧ w'.cell? ⟨R4.heap.size, 10, none⟩ = some (.int .i64 0) ∧ w'.cell? ⟨R4.heap.size, 11, none⟩ = some (.int .i64 0) ∧ w'.cell? ⟨R4.heap.size, 12, none⟩ = some (.int .i64 0) ∧ w'.cell? ⟨R4.heap.size, 13, none⟩ = some (.int .i64 0) ∧ Kn w w' (X3.heap.size) (fun i => ([2, 100, 100, 0, 0, 0, 0, 32768, 250, 250, 1000, 1000, 0, 0] : List Int)[i]?.getD 0) ∧ Kn w w' (R4.heap.size) (fun i => ([1, 0, 0, 0, 0, 0, 0, 0, 0, 0, 0, 0, 0, 0] : List Int)[i]?.getD 0) ∧ Below A.drew.heap.size A.drew w') A.drew from ⟨c0, c1, c2, c3, c4, c5, c6, c7, c8, c9, c10, c11, c12, c13, d0, d1, d2, d3, d4, d5, d6, d7, d8, d9, d10, d11, d12, d13, K9.out.drew, K8.out.drew, Below.refl _ _⟩)
  clear c0 c1 c2 c3 c4 c5 c6 c7 c8 c9 c10 c11 c12 c13 d0 d1 d2 d3 d4 d5 d6 d7 d8 d9 d10 d11 d12 d13
  refine wp_region_held_tail (S := (fun w' : World => w'.cell? ⟨X3.heap.size, 0, none⟩ = some (.int .i64 2) ∧ w'.cell? ⟨X3.heap.size, 1, none⟩ = some (.int .i64 100) ∧ w'.cell? ⟨X3.heap.size, 2, none⟩ = some (.int .i64 100) ∧ w'.cell? ⟨X3.heap.size, 3, none⟩ = some (.int .i64 0) ∧ w'.cell? ⟨X3.heap.size, 4, none⟩ = some (.int .i64 0) ∧ w'.cell? ⟨X3.heap.size, 5, none⟩ = some (.int .i64 0) ∧ w'.cell? ⟨X3.heap.size, 6, none⟩ = some (.int .i64 0) ∧ w'.cell? ⟨X3.heap.size, 7, none⟩ = some (.int .i64 32768) ∧ w'.cell? ⟨X3.heap.size, 8, none⟩ = some (.int .i64 250) ∧ w'.cell? ⟨X3.heap.size, 9, none⟩ = some (.int .i64 250) ∧ w'.cell? ⟨X3.heap.size, 10, none⟩ = some (.int .i64 1000) ∧ w'.cell? ⟨X3.heap.size, 11, none⟩ = some (.int .i64 1000) ∧ w'.cell? ⟨X3.heap.size, 12, none⟩ = some (.int .i64 0) ∧ w'.cell? ⟨X3.heap.size, 13, none⟩ = some (.int .i64 0) ∧ w'.cell? ⟨R4.heap.size, 0, none⟩ = some (.int .i64 1) ∧ w'.cell? ⟨R4.heap.size, 1, none⟩ = some (.int .i64 0) ∧ w'.cell? ⟨R4.heap.size, 2, none⟩ = some (.int .i64 0) ∧ w'.cell? ⟨R4.heap.size, 3, none⟩ = some (.int .i64 0) ∧ w'.cell? ⟨R4.heap.size, 4, none⟩ = some (.int .i64 0) ∧ w'.cell? ⟨R4.heap.size, 5, none⟩ = some (.int .i64 0) ∧ w'.cell? ⟨R4.heap.size, 6, none⟩ = some (.int .i64 0) ∧ w'.cell? ⟨R4.heap.size, 7, none⟩ = some (.int .i64 0) ∧ w'.cell? ⟨R4.heap.size, 8, none⟩ = some (.int .i64 0) ∧ w'.cell? ⟨R4.heap.size, 9, none⟩ = some (.int .i64 0) ∧ w'.cell? ⟨R4.heap.size, 10, none⟩ = some (.int .i64 0) ∧ w'.cell? ⟨R4.heap.size, 11, none⟩ = some (.int .i64 0) ∧ w'.cell? ⟨R4.heap.size, 12, none⟩ = some (.int .i64 0) ∧ w'.cell? ⟨R4.heap.size, 13, none⟩ = some (.int .i64 0) ∧ Kn w w' (X3.heap.size) (fun i => ([2, 100, 100, 0, 0, 0, 0, 32768, 250, 250, 1000, 1000, 0, 0] : List Int)[i]?.getD 0) ∧ Kn w w' (R4.heap.size) (fun i => ([1, 0, 0, 0, 0, 0, 0, 0, 0, 0, 0, 0, 0, 0] : List Int)[i]?.getD 0) ∧ Below A.drew.heap.size A.drew w')) 18 (by kernel_rfl) (by kernel_rfl) HS.out (fun hHeld => ?_)
  refine wpAnyH_take (i := 0) (v := ?v0_22) rfl (by kernel_rfl) (by kernel_rfl) (by kernel_rfl) (fun _ _ _ h => h) (Or.inl ⟨by rfl, ?hy0_22⟩) (by assumption) ?rest0_22
  case hy0_22 => (intro w hSw; (try dsimp only at hSw); go_simp; (try with_reducible rfl))
  try simp only [Act.put, List.setIfInBounds_toArray, List.set_cons_zero, List.set_cons_succ]
  refine wpAnyH_take (i := 1) (v := ?v1_23) rfl (by kernel_rfl) (by kernel_rfl) (by kernel_rfl) (fun _ _ _ h => h) (Or.inl ⟨by rfl, ?hy1_23⟩) (by assumption) ?rest1_23
  case hy1_23 => (intro w hSw; (try dsimp only at hSw); go_simp; (try with_reducible rfl))
  try simp only [Act.put, List.setIfInBounds_toArray, List.set_cons_zero, List.set_cons_succ]
  refine wpAnyH_take (i := 2) (v := ?v2_24) rfl (by kernel_rfl) (by kernel_rfl) (by kernel_rfl) (fun _ _ _ h => h) (Or.inl ⟨by rfl, ?hy2_24⟩) (by assumption) ?rest2_24
  case hy2_24 => (intro w hSw; (try dsimp only at hSw); go_simp; (try with_reducible rfl))
  try simp only [Act.put, List.setIfInBounds_toArray, List.set_cons_zero, List.set_cons_succ]
  refine wpAnyH_take (i := 3) (v := ?v3_25) rfl (by kernel_rfl) (by kernel_rfl) (by kernel_rfl) (fun _ _ _ h => h) (Or.inl ⟨by rfl, ?hy3_25⟩) (by assumption) ?rest3_25
  case hy3_25 => (intro w hSw; (try dsimp only at hSw); go_simp; (try with_reducible rfl))
  try simp only [Act.put, List.setIfInBounds_toArray, List.set_cons_zero, List.set_cons_succ]
  refine wpAnyH_take (i := 4) (v := ?v4_26) rfl (by kernel_rfl) (by kernel_rfl) (by kernel_rfl) (fun _ _ _ h => h) (Or.inl ⟨by rfl, ?hy4_26⟩) (by assumption) ?rest4_26
  case hy4_26 => (intro w hSw; (try dsimp only at hSw); go_simp; (try with_reducible rfl))
  try simp only [Act.put, List.setIfInBounds_toArray, List.set_cons_zero, List.set_cons_succ]
  refine wpAnyH_take (i := 5) (v := ?v5_27) rfl (by kernel_rfl) (by kernel_rfl) (by kernel_rfl) (fun _ _ _ h => h) (Or.inl ⟨by rfl, ?hy5_27⟩) (by assumption) ?rest5_27
  case hy5_27 => (intro w hSw; (try dsimp only at hSw); go_simp; (try with_reducible rfl))
  try simp only [Act.put, List.setIfInBounds_toArray, List.set_cons_zero, List.set_cons_succ]
  refine wpAnyH_take (i := 6) (v := ?v6_28) rfl (by kernel_rfl) (by kernel_rfl) (by kernel_rfl) (fun _ _ _ h => h) (Or.inl ⟨by rfl, ?hy6_28⟩) (by assumption) ?rest6_28
  case hy6_28 => (intro w hSw; (try dsimp only at hSw); go_simp; (try with_reducible rfl))
  try simp only [Act.put, List.setIfInBounds_toArray, List.set_cons_zero, List.set_cons_succ]
  refine wpAnyH_take (i := 7) (v := ?v7_29) rfl (by kernel_rfl) (by kernel_rfl) (by kernel_rfl) (fun _ _ _ h => h) (Or.inl ⟨by rfl, ?hy7_29⟩) (by assumption) ?rest7_29
  case hy7_29 => (intro w hSw; (try dsimp only at hSw); go_simp; (try with_reducible rfl))
  try simp only [Act.put, List.setIfInBounds_toArray, List.set_cons_zero, List.set_cons_succ]
  refine wpAnyH_ready (rs := [8]) (by kernel_rfl) (by simp) ?_
  refine AllReadyH.cons rfl (fun K hK => ?_) AllReadyH.nil
  go_simp; go_at_call 38; refine (point_any 100 _).mono ?_; rintro e' w' ⟨rfl, hb'⟩
  refine hK.out _ _ (⟨keepW hb' hHeld.1, keepW hb' hHeld.2.1, keepW hb' hHeld.2.2.1, keepW hb' hHeld.2.2.2.1, keepW hb' hHeld.2.2.2.2.1, keepW hb' hHeld.2.2.2.2.2.1, keepW hb' hHeld.2.2.2.2.2.2.1, keepW hb' hHeld.2.2.2.2.2.2.2.1, keepW hb' hHeld.2.2.2.2.2.2.2.2.1, keepW hb' hHeld.2.2.2.2.2.2.2.2.2.1, keepW hb' hHeld.2.2.2.2.2.2.2.2.2.2.1, keepW hb' hHeld.2.2.2.2.2.2.2.2.2.2.2.1, keepW hb' hHeld.2.2.2.2.2.2.2.2.2.2.2.2.1, keepW hb' hHeld.2.2.2.2.2.2.2.2.2.2.2.2.2.1, keepW hb' hHeld.2.2.2.2.2.2.2.2.2.2.2.2.2.2.1, keepW hb' hHeld.2.2.2.2.2.2.2.2.2.2.2.2.2.2.2.1, keepW hb' hHeld.2.2.2.2.2.2.2.2.2.2.2.2.2.2.2.2.1, keepW hb' hHeld.2.2.2.2.2.2.2.2.2.2.2.2.2.2.2.2.2.1, keepW hb' hHeld.2.2.2.2.2.2.2.2.2.2.2.2.2.2.2.2.2.2.1, keepW hb' hHeld.2.2.2.2.2.2.2.2.2.2.2.2.2.2.2.2.2.2.2.1, keepW hb' hHeld.2.2.2.2.2.2.2.2.2.2.2.2.2.2.2.2.2.2.2.2.1, keepW hb' hHeld.2.2.2.2.2.2.2.2.2.2.2.2.2.2.2.2.2.2.2.2.2.1, keepW hb' hHeld.2.2.2.2.2.2.2.2.2.2.2.2.2.2.2.2.2.2.2.2.2.2.1, keepW hb' hHeld.2.2.2.2.2.2.2.2.2.2.2.2.2.2.2.2.2.2.2.2.2.2.2.1, keepW hb' hHeld.2.2.2.2.2.2.2.2.2.2.2.2.2.2.2.2.2.2.2.2.2.2.2.2.1, keepW hb' hHeld.2.2.2.2.2.2.2.2.2.2.2.2.2.2.2.2.2.2.2.2.2.2.2.2.2.1, keepW hb' hHeld.2.2.2.2.2.2.2.2.2.2.2.2.2.2.2.2.2.2.2.2.2.2.2.2.2.2.1, keepW hb' hHeld.2.2.2.2.2.2.2.2.2.2.2.2.2.2.2.2.2.2.2.2.2.2.2.2.2.2.2.1, hHeld.2.2.2.2.2.2.2.2.2.2.2.2.2.2.2.2.2.2.2.2.2.2.2.2.2.2.2.2.1.keep hb', hHeld.2.2.2.2.2.2.2.2.2.2.2.2.2.2.2.2.2.2.2.2.2.2.2.2.2.2.2.2.2.1.keep hb', hHeld.2.2.2.2.2.2.2.2.2.2.2.2.2.2.2.2.2.2.2.2.2.2.2.2.2.2.2.2.2.2.trans (hb'.mono hHeld.2.2.2.2.2.2.2.2.2.2.2.2.2.2.2.2.2.2.2.2.2.2.2.2.2.2.2.2.2.2.size)⟩) (fun hHeld => ?_)
  clear hK K
  try simp only [Act.put, List.setIfInBounds_toArray, List.set_cons_zero, List.set_cons_succ]
  refine wpAnyH_ready (rs := [9]) (by kernel_rfl) (by simp) ?_
  refine AllReadyH.cons rfl (fun K hK => ?_) AllReadyH.nil
  go_simp; go_at_call 38; refine (point_any 250 _).mono ?_; rintro e' w' ⟨rfl, hb'⟩
  refine hK.out _ _ (⟨keepW hb' hHeld.1, keepW hb' hHeld.2.1, keepW hb' hHeld.2.2.1, keepW hb' hHeld.2.2.2.1, keepW hb' hHeld.2.2.2.2.1, keepW hb' hHeld.2.2.2.2.2.1, keepW hb' hHeld.2.2.2.2.2.2.1, keepW hb' hHeld.2.2.2.2.2.2.2.1, keepW hb' hHeld.2.2.2.2.2.2.2.2.1, keepW hb' hHeld.2.2.2.2.2.2.2.2.2.1, keepW hb' hHeld.2.2.2.2.2.2.2.2.2.2.1, keepW hb' hHeld.2.2.2.2.2.2.2.2.2.2.2.1, keepW hb' hHeld.2.2.2.2.2.2.2.2.2.2.2.2.1, keepW hb' hHeld.2.2.2.2.2.2.2.2.2.2.2.2.2.1, keepW hb' hHeld.2.2.2.2.2.2.2.2.2.2.2.2.2.2.1, keepW hb' hHeld.2.2.2.2.2.2.2.2.2.2.2.2.2.2.2.1, keepW hb' hHeld.2.2.2.2.2.2.2.2.2.2.2.2.2.2.2.2.1, keepW hb' hHeld.2.2.2.2.2.2.2.2.2.2.2.2.2.2.2.2.2.1, keepW hb' hHeld.2.2.2.2.2.2.2.2.2.2.2.2.2.2.2.2.2.2.1, keepW hb' hHeld.2.2.2.2.2.2.2.2.2.2.2.2.2.2.2.2.2.2.2.1, keepW hb' hHeld.2.2.2.2.2.2.2.2.2.2.2.2.2.2.2.2.2.2.2.2.1, keepW hb' hHeld.2.2.2.2.2.2.2.2.2.2.2.2.2.2.2.2.2.2.2.2.2.1, keepW hb' hHeld.2.2.2.2.2.2.2.2.2.2.2.2.2.2.2.2.2.2.2.2.2.2.1, keepW hb' hHeld.2.2.2.2.2.2.2.2.2.2.2.2.2.2.2.2.2.2.2.2.2.2.2.1, keepW hb' hHeld.2.2.2.2.2.2.2.2.2.2.2.2.2.2.2.2.2.2.2.2.2.2.2.2.1, keepW hb' hHeld.2.2.2.2.2.2.2.2.2.2.2.2.2.2.2.2.2.2.2.2.2.2.2.2.2.1, keepW hb' hHeld.2.2.2.2.2.2.2.2.2.2.2.2.2.2.2.2.2.2.2.2.2.2.2.2.2.2.1, keepW hb' hHeld.2.2.2.2.2.2.2.2.2.2.2.2.2.2.2.2.2.2.2.2.2.2.2.2.2.2.2.1, hHeld.2.2.2.2.2.2.2.2.2.2.2.2.2.2.2.2.2.2.2.2.2.2.2.2.2.2.2.2.1.keep hb', hHeld.2.2.2.2.2.2.2.2.2.2.2.2.2.2.2.2.2.2.2.2.2.2.2.2.2.2.2.2.2.1.keep hb', hHeld.2.2.2.2.2.2.2.2.2.2.2.2.2.2.2.2.2.2.2.2.2.2.2.2.2.2.2.2.2.2.trans (hb'.mono hHeld.2.2.2.2.2.2.2.2.2.2.2.2.2.2.2.2.2.2.2.2.2.2.2.2.2.2.2.2.2.2.size)⟩) (fun hHeld => ?_)
  clear hK K
  try simp only [Act.put, List.setIfInBounds_toArray, List.set_cons_zero, List.set_cons_succ]
  refine wpAnyH_ready (rs := [10]) (by kernel_rfl) (by simp) ?_
  refine AllReadyH.cons rfl (fun K hK => ?_) AllReadyH.nil
  go_simp; go_at_call 38; refine (point_any 1000 _).mono ?_; rintro e' w' ⟨rfl, hb'⟩
  refine hK.out _ _ (⟨keepW hb' hHeld.1, keepW hb' hHeld.2.1, keepW hb' hHeld.2.2.1, keepW hb' hHeld.2.2.2.1, keepW hb' hHeld.2.2.2.2.1, keepW hb' hHeld.2.2.2.2.2.1, keepW hb' hHeld.2.2.2.2.2.2.1, keepW hb' hHeld.2.2.2.2.2.2.2.1, keepW hb' hHeld.2.2.2.2.2.2.2.2.1, keepW hb' hHeld.2.2.2.2.2.2.2.2.2.1, keepW hb' hHeld.2.2.2.2.2.2.2.2.2.2.1, keepW hb' hHeld.2.2.2.2.2.2.2.2.2.2.2.1, keepW hb' hHeld.2.2.2.2.2.2.2.2.2.2.2.2.1, keepW hb' hHeld.2.2.2.2.2.2.2.2.2.2.2.2.2.1, keepW hb' hHeld.2.2.2.2.2.2.2.2.2.2.2.2.2.2.1, keepW hb' hHeld.2.2.2.2.2.2.2.2.2.2.2.2.2.2.2.1, keepW hb' hHeld.2.2.2.2.2.2.2.2.2.2.2.2.2.2.2.2.1, keepW hb' hHeld.2.2.2.2.2.2.2.2.2.2.2.2.2.2.2.2.2.1, keepW hb' hHeld.2.2.2.2.2.2.2.2.2.2.2.2.2.2.2.2.2.2.1, keepW hb' hHeld.2.2.2.2.2.2.2.2.2.2.2.2.2.2.2.2.2.2.2.1, keepW hb' hHeld.2.2.2.2.2.2.2.2.2.2.2.2.2.2.2.2.2.2.2.2.1, keepW hb' hHeld.2.2.2.2.2.2.2.2.2.2.2.2.2.2.2.2.2.2.2.2.2.1, keepW hb' hHeld.2.2.2.2.2.2.2.2.2.2.2.2.2.2.2.2.2.2.2.2.2.2.1, keepW hb' hHeld.2.2.2.2.2.2.2.2.2.2.2.2.2.2.2.2.2.2.2.2.2.2.2.1, keepW hb' hHeld.2.2.2.2.2.2.2.2.2.2.2.2.2.2.2.2.2.2.2.2.2.2.2.2.1, keepW hb' hHeld.2.2.2.2.2.2.2.2.2.2.2.2.2.2.2.2.2.2.2.2.2.2.2.2.2.1, keepW hb' hHeld.2.2.2.2.2.2.2.2.2.2.2.2.2.2.2.2.2.2.2.2.2.2.2.2.2.2.1, keepW hb' hHeld.2.2.2.2.2.2.2.2.2.2.2.2.2.2.2.2.2.2.2.2.2.2.2.2.2.2.2.1, hHeld.2.2.2.2.2.2.2.2.2.2.2.2.2.2.2.2.2.2.2.2.2.2.2.2.2.2.2.2.1.keep hb', hHeld.2.2.2.2.2.2.2.2.2.2.2.2.2.2.2.2.2.2.2.2.2.2.2.2.2.2.2.2.2.1.keep hb', hHeld.2.2.2.2.2.2.2.2.2.2.2.2.2.2.2.2.2.2.2.2.2.2.2.2.2.2.2.2.2.2.trans (hb'.mono hHeld.2.2.2.2.2.2.2.2.2.2.2.2.2.2.2.2.2.2.2.2.2.2.2.2.2.2.2.2.2.2.size)⟩) (fun hHeld => ?_)
  clear hK K
  try simp only [Act.put, List.setIfInBounds_toArray, List.set_cons_zero, List.set_cons_succ]
  refine wpAnyH_take (i := 11) (v := ?v11_30) rfl (by kernel_rfl) (by kernel_rfl) (by kernel_rfl) (fun _ _ _ h => h) (Or.inl ⟨by rfl, ?hy11_30⟩) (by assumption) ?rest11_30
  case hy11_30 => (intro w hSw; (try dsimp only at hSw); go_simp; (try with_reducible rfl))
  try simp only [Act.put, List.setIfInBounds_toArray, List.set_cons_zero, List.set_cons_succ]
  refine wpAnyH_take (i := 12) (v := ?v12_31) rfl (by kernel_rfl) (by kernel_rfl) (by kernel_rfl) (fun _ _ _ h => h) (Or.inl ⟨by rfl, ?hy12_31⟩) (by assumption) ?rest12_31
  case hy12_31 => (intro w hSw; (try dsimp only at hSw); go_simp; (try with_reducible rfl))
  try simp only [Act.put, List.setIfInBounds_toArray, List.set_cons_zero, List.set_cons_succ]
  refine wpAnyH_take (i := 13) (v := ?v13_32) rfl (by kernel_rfl) (by kernel_rfl) (by kernel_rfl) (fun _ _ _ h => h) (Or.inl ⟨by rfl, ?hy13_32⟩) (by assumption) ?rest13_32
  case hy13_32 => (intro w hSw; (try dsimp only at hSw); go_simp; (try with_reducible rfl))
  try simp only [Act.put, List.setIfInBounds_toArray, List.set_cons_zero, List.set_cons_succ]
  refine wpAnyH_take (i := 14) (v := ?v14_33) rfl (by kernel_rfl) (by kernel_rfl) (by kernel_rfl) (fun _ _ _ h => h) (Or.inl ⟨by rfl, ?hy14_33⟩) (by assumption) ?rest14_33
  case hy14_33 => (intro w hSw; (try dsimp only at hSw); go_simp; (try with_reducible rfl))
  try simp only [Act.put, List.setIfInBounds_toArray, List.set_cons_zero, List.set_cons_succ]
  refine wpAnyH_take (i := 15) (v := ?v15_34) rfl (by kernel_rfl) (by kernel_rfl) (by kernel_rfl) (fun _ _ _ h => h) (Or.inl ⟨by rfl, ?hy15_34⟩) (by assumption) ?rest15_34
  case hy15_34 => (intro w hSw; (try dsimp only at hSw); go_simp; (try with_reducible rfl))
  try simp only [Act.put, List.setIfInBounds_toArray, List.set_cons_zero, List.set_cons_succ]
  refine wpAnyH_take (i := 16) (v := ?v16_35) rfl (by kernel_rfl) (by kernel_rfl) (by kernel_rfl) (fun _ _ _ h => h) (Or.inl ⟨by rfl, ?hy16_35⟩) (by assumption) ?rest16_35
  case hy16_35 => (intro w hSw; (try dsimp only at hSw); go_simp; (try with_reducible rfl))
  try simp only [Act.put, List.setIfInBounds_toArray, List.set_cons_zero, List.set_cons_succ]
  refine wpAnyH_take (i := 17) (v := ?v17_36) rfl (by kernel_rfl) (by kernel_rfl) (by kernel_rfl) (fun _ _ _ h => h) (Or.inl ⟨by rfl, ?hy17_36⟩) (by assumption) ?rest17_36
  case hy17_36 => (intro w hSw; (try dsimp only at hSw); go_simp; (try with_reducible rfl))
  try simp only [Act.put, List.setIfInBounds_toArray, List.set_cons_zero, List.set_cons_succ]
  refine wpAnyH_done (by kernel_rfl) ?_ _
  change wpList _ _ _ _ _ _
  simp only [List.drop_succ_cons, List.drop_zero]
  have KA0 := Lib.hid hHeld.2.2.2.2.2.2.2.2.2.2.2.2.2.2.2.2.2.2.2.2.2.2.2.2.2.2.2.2.1
  have KA1 := Lib.hid hHeld.2.2.2.2.2.2.2.2.2.2.2.2.2.2.2.2.2.2.2.2.2.2.2.2.2.2.2.2.2.1
  clear hHeld HS K9 K8
  have bW := KA0.out.b
  clear KA0 KA1
  go_wp2_with fail
  refine (O_any _).mono ?_; rintro e' C1 ⟨rfl, hb⟩
  have bW' := bW.trans (hb.mono bW.size)
  clear bW
  have bW := bW'
  clear bW'
  clear hb
  go_wp2_with fail
  refine (point_any 110 _).mono ?_; rintro e' C2 ⟨rfl, hb⟩
  have bW' := bW.trans (hb.mono bW.size)
  clear bW
  have bW := bW'
  clear bW'
  clear hb
  go_wp2_with fail
  refine (HK0.out _).mono ?_; rintro e' C3 ⟨rfl, hb⟩
  have bW' := bW.trans (hb.mono bW.size)
  clear bW
  have bW := bW'
  clear bW'
  clear hb
  have G1 := Lib.hid (show (C3.alloc (.cells #[.int .i64 83, .int .i64 84] 25)).cell? ⟨C3.heap.size, 0, none⟩ = some (.int .i64 83) ∧ (C3.alloc (.cells #[.int .i64 83, .int .i64 84] 25)).cell? ⟨C3.heap.size, 1, none⟩ = some (.int .i64 84) from ⟨alloc_new rfl rfl, alloc_new rfl rfl⟩)
  have hal := below_alloc C3 (.cells #[.int .i64 83, .int .i64 84] 25)
  have bW' := bW.trans (hal.mono bW.size)
  clear bW
  have bW := bW'
  clear bW'
  clear hal
  go_wp2_with fail
  refine (O_any _).mono ?_; rintro e' C4 ⟨rfl, hb⟩
  have G1' := Lib.hid (And.intro (keepW hb G1.out.1) (keepW hb G1.out.2))
  clear G1
  have G1 := G1'
  clear G1'
  have bW' := bW.trans (hb.mono bW.size)
  clear bW
  have bW := bW'
  clear bW'
  clear hb
  go_wp2_with fail
  refine (point_any 110 _).mono ?_; rintro e' C5 ⟨rfl, hb⟩
  have G1' := Lib.hid (And.intro (keepW hb G1.out.1) (keepW hb G1.out.2))
  clear G1
  have G1 := G1'
  clear G1'
  have bW' := bW.trans (hb.mono bW.size)
  clear bW
  have bW := bW'
  clear bW'
  clear hb
  go_wp2_with fail
  refine (HK1.out _).mono ?_; rintro e' C6 ⟨rfl, hb⟩
  have G1' := Lib.hid (And.intro (keepW hb G1.out.1) (keepW hb G1.out.2))
  clear G1
  have G1 := G1'
  clear G1'
  have bW' := bW.trans (hb.mono bW.size)
  clear bW
  have bW := bW'
  clear bW'
  clear hb
  have G2 := Lib.hid (show (C6.alloc (.cells #[.int .i64 (-49917), .int .i64 (-49916)] 25)).cell? ⟨C6.heap.size, 0, none⟩ = some (.int .i64 (-49917)) ∧ (C6.alloc (.cells #[.int .i64 (-49917), .int .i64 (-49916)] 25)).cell? ⟨C6.heap.size, 1, none⟩ = some (.int .i64 (-49916)) from ⟨alloc_new rfl rfl, alloc_new rfl rfl⟩)
  have hal := below_alloc C6 (.cells #[.int .i64 (-49917), .int .i64 (-49916)] 25)
  have G1' := Lib.hid (And.intro (keepW hal G1.out.1) (keepW hal G1.out.2))
  clear G1
  have G1 := G1'
  clear G1'
  have bW' := bW.trans (hal.mono bW.size)
  clear bW
  have bW := bW'
  clear bW'
  clear hal
  go_wp2_with fail
  refine (O_any _).mono ?_; rintro e' C7 ⟨rfl, hb⟩
  have G1' := Lib.hid (And.intro (keepW hb G1.out.1) (keepW hb G1.out.2))
  clear G1
  have G1 := G1'
  clear G1'
  have G2' := Lib.hid (And.intro (keepW hb G2.out.1) (keepW hb G2.out.2))
  clear G2
  have G2 := G2'
  clear G2'
  have bW' := bW.trans (hb.mono bW.size)
  clear bW
  have bW := bW'
  clear bW'
  clear hb
  go_wp2_with fail
  refine (HF0.out _).mono ?_; rintro e' C8 ⟨rfl, hb⟩
  have G1' := Lib.hid (And.intro (keepW hb G1.out.1) (keepW hb G1.out.2))
  clear G1
  have G1 := G1'
  clear G1'
  have G2' := Lib.hid (And.intro (keepW hb G2.out.1) (keepW hb G2.out.2))
  clear G2
  have G2 := G2'
  clear G2'
  have bW' := bW.trans (hb.mono bW.size)
  clear bW
  have bW := bW'
  clear bW'
  clear hb
  go_wp2_with fail
  refine (O_any _).mono ?_; rintro e' C9 ⟨rfl, hb⟩
  have G1' := Lib.hid (And.intro (keepW hb G1.out.1) (keepW hb G1.out.2))
  clear G1
  have G1 := G1'
  clear G1'
  have G2' := Lib.hid (And.intro (keepW hb G2.out.1) (keepW hb G2.out.2))
  clear G2
  have G2 := G2'
  clear G2'
  have bW' := bW.trans (hb.mono bW.size)
  clear bW
  have bW := bW'
  clear bW'
  clear hb
  go_wp2_with fail
  refine (HF1.out _).mono ?_; rintro e' D1 ⟨rfl, hb⟩
  have G1' := Lib.hid (And.intro (keepW hb G1.out.1) (keepW hb G1.out.2))
  clear G1
  have G1 := G1'
  clear G1'
  have G2' := Lib.hid (And.intro (keepW hb G2.out.1) (keepW hb G2.out.2))
  clear G2
  have G2 := G2'
  clear G2'
  have bW' := bW.trans (hb.mono bW.size)
  clear bW
  have bW := bW'
  clear bW'
  clear hb
  go_wp2_with fail
  refine (O_any _).mono ?_; rintro e' D2 ⟨rfl, hb⟩
  have G1' := Lib.hid (And.intro (keepW hb G1.out.1) (keepW hb G1.out.2))
  clear G1
  have G1 := G1'
  clear G1'
  have G2' := Lib.hid (And.intro (keepW hb G2.out.1) (keepW hb G2.out.2))
  clear G2
  have G2 := G2'
  clear G2'
  have bW' := bW.trans (hb.mono bW.size)
  clear bW
  have bW := bW'
  clear bW'
  clear hb
  go_wp2_with fail
  refine (HR.out _).mono ?_; rintro e' D3 ⟨rfl, hb⟩
  have G1' := Lib.hid (And.intro (keepW hb G1.out.1) (keepW hb G1.out.2))
  clear G1
  have G1 := G1'
  clear G1'
  have G2' := Lib.hid (And.intro (keepW hb G2.out.1) (keepW hb G2.out.2))
  clear G2
  have G2 := G2'
  clear G2'
  have bW' := bW.trans (hb.mono bW.size)
  clear bW
  have bW := bW'
  clear bW'
  clear hb
  have hal := below_alloc D3 (.cells #[.int .i64 32768, .int .i64 0] 3)
  have G1' := Lib.hid (And.intro (keepW hal G1.out.1) (keepW hal G1.out.2))
  clear G1
  have G1 := G1'
  clear G1'
  have G2' := Lib.hid (And.intro (keepW hal G2.out.1) (keepW hal G2.out.2))
  clear G2
  have G2 := G2'
  clear G2'
  have bW' := bW.trans (hal.mono bW.size)
  clear bW
  have bW := bW'
  clear bW'
  clear hal
  go_wp2_with fail
  refine (arc2 _).mono ?_; rintro e' D4 ⟨rfl, hb⟩
  have G1' := Lib.hid (And.intro (keepW hb G1.out.1) (keepW hb G1.out.2))
  clear G1
  have G1 := G1'
  clear G1'
  have G2' := Lib.hid (And.intro (keepW hb G2.out.1) (keepW hb G2.out.2))
  clear G2
  have G2 := G2'
  clear G2'
  have bW' := bW.trans (hb.mono bW.size)
  clear bW
  have bW := bW'
  clear bW'
  clear hb
  obtain ⟨g0, g1⟩ := G1.out
  obtain ⟨g2, g3⟩ := G2.out
  go_wp2_with fail
  refine (works_any _).mono ?_; rintro e' D5 ⟨rfl, hb⟩
  go_wp2_with fail
  go_ret
  exact ⟨rfl, bW.trans (hb.mono bW.size)⟩

end Go.Proofs.Ytmojnopgpgnfeaa
