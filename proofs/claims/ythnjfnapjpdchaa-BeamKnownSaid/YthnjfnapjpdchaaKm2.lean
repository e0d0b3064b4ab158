/-
  Walks over roundings, in the code and in the reference.
-/
import Derived.Laws.EntriesVeiled
import Derived.Test.YthnjfnapjpdchaaKm1
namespace Go.Proofs.Ythnjfnapjpdchaa
open Go.RowKit

theorem floor_pos {a b : Int} (hb : 1 ≤ b) (ha : 0 ≤ a) : 0 ≤ a / b ∧ a / b ≤ a ∧ 0 ≤ a % b := by
  refine ⟨Int.ediv_nonneg ha (by omega), Int.ediv_le_self b ha, Int.emod_nonneg _ (by omega)⟩

theorem tdiv_neg_bd {a b : Int} (hb : 1 ≤ b) (ha : a < 0) : a ≤ a.tdiv b ∧ a.tdiv b ≤ 0 := by
  have h : a.tdiv b = -((-a) / b) := by
    have h1 := Int.neg_tdiv (-a) b
    rw [Int.neg_neg] at h1
    rw [h1, Int.tdiv_eq_ediv_of_nonneg (by omega)]
  have := floor_pos (a := -a) hb (by omega)
  omega

theorem tmod_neg_bd {a b : Int} (hb : 1 ≤ b) (ha : a < 0) : a.tmod b ≤ 0 ∧ -b < a.tmod b := by
  have h1 := Int.neg_tmod (-a) b
  rw [Int.neg_neg] at h1
  have h2 : (-a).tmod b = (-a) % b := Int.tmod_eq_emod_of_nonneg (by omega)
  have h3 := Int.emod_nonneg (-a) (b := b) (by omega)
  have h4 := Int.emod_lt_of_pos (-a) (b := b) (by omega)
  omega

theorem floor_neg {a b : Int} (hb : 1 ≤ b) (ha : a < 0) : (a.tmod b < 0 → a.tdiv b - 1 = a / b) ∧ (¬ a.tmod b < 0 → a.tdiv b = a / b) := by
  have h0 := Int.mul_tdiv_add_tmod a b
  have h1 := tmod_neg_bd hb ha
  refine ⟨fun h => ?_, fun h => ?_⟩
  · have h5 : b * (a.tdiv b - 1) = b * a.tdiv b - b := by rw [Int.mul_sub, Int.mul_one]
    symm
    exact ((Int.ediv_emod_unique (r := a.tmod b + b) (by omega)).2 ⟨by rw [h5]; omega, by omega, by omega⟩).1
  · symm
    exact ((Int.ediv_emod_unique (r := a.tmod b) (by omega)).2 ⟨by omega, by omega, by omega⟩).1

set_option maxHeartbeats 400000 in
theorem Down_any (a b : Int) (w : World) (hb : 1 ≤ b) (ha1 : -1000000000000000 ≤ a) (ha2 : a ≤ 1000000000000000) :
    Calls Try.prog 77 #[.int .i64 a, .int .i64 b] w fun e w' => e = .returned (.int .i64 (a / b)) ∧ w = w' := by
  by_cases ha : 0 ≤ a
  · obtain ⟨h1, h2, h3⟩ := floor_pos hb ha
    go_enter Try.func77, Try.ntmps77
    go_wp2
    go_ret
    exact ⟨rfl, rfl⟩
  · obtain ⟨h1, h2⟩ := tdiv_neg_bd (a := a) hb (by omega)
    by_cases h : a.tmod b < 0
    · rw [← (floor_neg hb (by omega)).1 h]
      go_enter Try.func77, Try.ntmps77
      go_wp2
      go_ret
      exact ⟨rfl, rfl⟩
    · rw [← (floor_neg hb (by omega)).2 h]
      go_enter Try.func77, Try.ntmps77
      go_wp2
      go_ret
      exact ⟨rfl, rfl⟩

set_option maxHeartbeats 400000 in
theorem down_any (a b : Int) (w : World) (hb : 1 ≤ b) (ha1 : -1000000000000000 ≤ a) (ha2 : a ≤ 1000000000000000) :
    Calls Try.prog 92 #[.int .i64 a, .int .i64 b] w fun e w' => e = .returned (.int .i64 (a / b)) ∧ w = w' := by
  by_cases ha : 0 ≤ a
  · obtain ⟨h1, h2, h3⟩ := floor_pos hb ha
    go_enter Try.func92, Try.ntmps92
    go_wp2
    go_ret
    exact ⟨rfl, rfl⟩
  · obtain ⟨h1, h2⟩ := tdiv_neg_bd (a := a) hb (by omega)
    by_cases h : a.tmod b < 0
    · rw [← (floor_neg hb (by omega)).1 h]
      go_enter Try.func92, Try.ntmps92
      go_wp2
      go_ret
      exact ⟨rfl, rfl⟩
    · rw [← (floor_neg hb (by omega)).2 h]
      go_enter Try.func92, Try.ntmps92
      go_wp2
      go_ret
      exact ⟨rfl, rfl⟩

theorem floor_bd {a b : Int} (hb : 1 ≤ b) (ha1 : -1000000000000000 ≤ a) (ha2 : a ≤ 1000000000000000) : -1000000000000000 ≤ a / b ∧ a / b ≤ 1000000000000000 := by
  have h1 : a / b < 1000000000000000 + 1 := Int.ediv_lt_of_lt_mul (by omega) (by
    have := Int.mul_le_mul_of_nonneg_left hb (show (0:Int) ≤ 1000000000000000 + 1 by decide)
    omega)
  have h2 : -1000000000000000 ≤ a / b := Int.le_ediv_of_mul_le (by omega) (by
    have := Int.mul_le_mul_of_nonneg_left hb (show (0:Int) ≤ 1000000000000000 by decide)
    omega)
  omega

set_option maxHeartbeats 400000 in
theorem Up_any (a b : Int) (w : World) (hb : 1 ≤ b) (ha1 : -1000000000000000 ≤ a) (ha2 : a ≤ 1000000000000000) :
    Calls Try.prog 94 #[.int .i64 a, .int .i64 b] w fun e w' => e = .returned (.int .i64 (-((-a) / b))) ∧ w = w' := by
  obtain ⟨h1, h2⟩ := floor_bd (a := -a) hb (by omega) (by omega)
  go_enter Try.func94, Try.ntmps94
  go_wp2_with (go_at_call 77; refine (Down_any _ _ _ hb (by omega) (by omega)).mono ?_; rintro e w' ⟨rfl, rfl⟩)
  go_ret
  exact ⟨rfl, rfl⟩

end Go.Proofs.Ythnjfnapjpdchaa

namespace Go.Proofs.Ythnjfnapjpdchaa
open Go.RowKit

set_option maxHeartbeats 400000 in
theorem roundings_any (w : World) :
    Calls Try.prog 68 #[] w fun e w' => e = .returned (.tuple #[.func (Fn.func 92) #[] #[], .func (Fn.func 93) #[] #[.pointer (some ⟨w.heap.size, 0, none⟩)]]) ∧ w' = w.alloc (.cells #[.func (Fn.func 92) #[] #[]] 90) := by
  go_enter Try.func68, Try.ntmps68
  go_wp2
  exact bodyPost_ret (v := .tuple #[.func (Fn.func 92) #[] #[], .func (Fn.func 93) #[] #[.pointer (some ⟨w.heap.size, 0, none⟩)]]) (by simp [results, Try.results68, go_sem]) rfl ⟨rfl, by simp⟩

set_option maxHeartbeats 400000 in
theorem up_any (a b : Int) (p : Addr) (w : World) (hp : w.cell? p = some (.func (Fn.func 92) #[] #[])) (hb : 1 ≤ b) (ha1 : -1000000000000000 ≤ a) (ha2 : a ≤ 1000000000000000) :
    Calls Try.prog 93 #[.int .i64 a, .int .i64 b, .pointer (some p)] w fun e w' => e = .returned (.int .i64 (-((-a) / b))) ∧ w = w' := by
  obtain ⟨h1, h2⟩ := floor_bd (a := -a) hb (by omega) (by omega)
  go_enter Try.func93, Try.ntmps93
  go_wp2_with (go_at_call 92; refine (down_any _ _ _ hb (by omega) (by omega)).mono ?_; rintro e w' ⟨rfl, rfl⟩)
  go_ret
  exact ⟨rfl, rfl⟩

/-- numerator and denominator of a ground range -/
def runN (step t gate : Int) : Int := (2 * gate + 1) * step * (262144 - t * t)
def runD (t : Int) : Int := 2 * (262144 + t * t)
def runLo (step t gate : Int) : Int := runN step t gate / runD t
def runHi (step t gate : Int) : Int := -((-runN step t gate) / runD t)

theorem runD_bd {t : Int} (h1 : -8 ≤ t) (h2 : t ≤ 264) : 524288 ≤ runD t ∧ runD t ≤ 663680 := by
  have hb : 0 ≤ t * t := M.sq_nonneg t
  have hb2 : t * t ≤ 69696 := (M.sq_bd (a := t) (A := 264) (by omega) h2).2
  unfold runD; omega

theorem runN_bd {step t gate : Int} (h1 : -8 ≤ t) (h2 : t ≤ 264) (s1 : 50 ≤ step) (s2 : step ≤ 2000) (g1 : 0 ≤ gate) (g2 : gate ≤ 199) :
    (0 ≤ (2 * gate + 1) * step ∧ (2 * gate + 1) * step ≤ 798000) ∧ 0 ≤ runN step t gate ∧ runN step t gate ≤ 209190912000 ∧ 0 ≤ t * t ∧ t * t ≤ 69696 := by
  have hb : 0 ≤ t * t := M.sq_nonneg t
  have hb2 : t * t ≤ 69696 := (M.sq_bd (a := t) (A := 264) (by omega) h2).2
  have h3 := M.mul_bd (a := 2 * gate + 1) (b := step) (A := 399) (B := 2000) (by omega) (by omega) (by omega) s2
  have h4 := M.mul_bd (a := (2 * gate + 1) * step) (b := 262144 - t * t) (A := 798000) (B := 262144) (by omega) (by omega) (by omega) (by omega)
  unfold runN
  exact ⟨by omega, by omega, by omega, hb, hb2⟩

theorem runLo_bd {step t gate : Int} (h1 : -8 ≤ t) (h2 : t ≤ 264) (s1 : 50 ≤ step) (s2 : step ≤ 2000) (g1 : 0 ≤ gate) (g2 : gate ≤ 199) :
    0 ≤ runLo step t gate ∧ runLo step t gate ≤ 399000 := by
  have hd := runD_bd h1 h2
  have hn := runN_bd h1 h2 s1 s2 g1 g2
  unfold runLo
  refine ⟨Int.ediv_nonneg (by omega) (by omega), ?_⟩
  have : runN step t gate / runD t < 399001 := Int.ediv_lt_of_lt_mul (by omega) (by omega)
  omega

theorem runHi_bd {step t gate : Int} (h1 : -8 ≤ t) (h2 : t ≤ 264) (s1 : 50 ≤ step) (s2 : step ≤ 2000) (g1 : 0 ≤ gate) (g2 : gate ≤ 199) :
    0 ≤ runHi step t gate ∧ runHi step t gate ≤ 399000 := by
  have hd := runD_bd h1 h2
  have hn := runN_bd h1 h2 s1 s2 g1 g2
  unfold runHi
  have h3 : -399000 ≤ (-runN step t gate) / runD t := Int.le_ediv_of_mul_le (by omega) (by omega)
  have h4 : (-runN step t gate) / runD t < 1 := Int.ediv_lt_of_lt_mul (by omega) (by omega)
  omega

set_option maxHeartbeats 400000 in
theorem run_down (nm : ByteArray) (x y z rose gates step width t gate : Int) (w : World) (h1 : -8 ≤ t) (h2 : t ≤ 264) (s1 : 50 ≤ step) (s2 : step ≤ 2000) (g1 : 0 ≤ gate) (g2 : gate ≤ 199) :
    Calls Try.prog 69 #[.agg #[.string nm, .int .i64 x, .int .i64 y, .int .i64 z, .int .i64 rose, .int .i64 gates, .int .i64 step, .int .i64 width], .int .i64 t, .int .i64 gate, .func (Fn.func 92) #[] #[]] w
      fun e w' => e = .returned (.int .i64 (runLo step t gate)) ∧ Below w.heap.size w w' := by
  obtain ⟨⟨b1, b2⟩, b3, b4, b5, b6⟩ := runN_bd h1 h2 s1 s2 g1 g2
  have hd := runD_bd h1 h2
  unfold runN at b3 b4
  unfold runD at hd
  go_enter Try.func69, Try.ntmps69
  go_wp2_with (first | (go_at_call 65; refine (slant_any _ _ h1 h2).mono ?_; rintro e w' ⟨rfl, rfl⟩) | (go_at_call 92; refine (down_any _ _ _ (by omega) (by omega) (by omega)).mono ?_; rintro e w' ⟨rfl, rfl⟩))
  go_ret
  exact ⟨rfl, (Below.refl _ _).alloc (Nat.le_refl _) _⟩

set_option maxHeartbeats 400000 in
theorem run_up (nm : ByteArray) (x y z rose gates step width t gate : Int) (p : Addr) (w : World) (hp : w.cell? p = some (.func (Fn.func 92) #[] #[])) (hp2 : p.block < w.heap.size) (h1 : -8 ≤ t) (h2 : t ≤ 264) (s1 : 50 ≤ step) (s2 : step ≤ 2000) (g1 : 0 ≤ gate) (g2 : gate ≤ 199) :
    Calls Try.prog 69 #[.agg #[.string nm, .int .i64 x, .int .i64 y, .int .i64 z, .int .i64 rose, .int .i64 gates, .int .i64 step, .int .i64 width], .int .i64 t, .int .i64 gate, .func (Fn.func 93) #[] #[.pointer (some p)]] w
      fun e w' => e = .returned (.int .i64 (runHi step t gate)) ∧ Below w.heap.size w w' := by
  obtain ⟨⟨b1, b2⟩, b3, b4, b5, b6⟩ := runN_bd h1 h2 s1 s2 g1 g2
  have hd := runD_bd h1 h2
  unfold runN at b3 b4
  unfold runD at hd
  have HP : Hid (∀ o, (w.alloc o).cell? p = some (.func (Fn.func 92) #[] #[])) := Lib.hid fun o => by rw [((Below.refl w.heap.size w).alloc (Nat.le_refl _) o).cell hp2]; exact hp
  clear hp
  go_enter Try.func69, Try.ntmps69
  go_wp2_with (first | (go_at_call 65; refine (slant_any _ _ h1 h2).mono ?_; rintro e w' ⟨rfl, rfl⟩) | (go_at_call 93; refine (up_any _ _ _ _ (HP.out _) (by omega) (by omega) (by omega)).mono ?_; rintro e w' ⟨rfl, rfl⟩))
  go_ret
  exact ⟨rfl, (Below.refl _ _).alloc (Nat.le_refl _) _⟩

end Go.Proofs.Ythnjfnapjpdchaa

namespace Go.Proofs.Ythnjfnapjpdchaa
open Go.RowKit

def letB (c : Int) : Bool := decide (97 ≤ c ∧ c ≤ 122)
def digB (c : Int) : Bool := decide (48 ≤ c ∧ c ≤ 57)

theorem letB_true {c : Int} : letB c = true ↔ 97 ≤ c ∧ c ≤ 122 := by unfold letB; simp
theorem letB_false {c : Int} : letB c = false ↔ ¬ (97 ≤ c ∧ c ≤ 122) := by unfold letB; rw [decide_eq_false_iff_not]
theorem digB_true {c : Int} : digB c = true ↔ 48 ≤ c ∧ c ≤ 57 := by unfold digB; simp
theorem digB_false {c : Int} : digB c = false ↔ ¬ (48 ≤ c ∧ c ≤ 57) := by unfold digB; rw [decide_eq_false_iff_not]

set_option maxHeartbeats 400000 in
theorem isLetter_any (n : Int) (w : World) :
    Calls Try.prog 56 #[.int .u8 n] w fun e w' => e = .returned (.bool (letB n)) ∧ w = w' := by
  by_cases h1 : 97 ≤ n
  · by_cases h2 : n ≤ 122
    · have h : letB n = true := letB_true.2 ⟨h1, h2⟩
      rw [h]; clear h
      go_enter Try.func56, Try.ntmps56
      go_wp2
      go_ret
      exact ⟨rfl, rfl⟩
    · have h : letB n = false := letB_false.2 (by omega)
      rw [h]; clear h
      go_enter Try.func56, Try.ntmps56
      go_wp2
      go_ret
      exact ⟨rfl, rfl⟩
  · have h : letB n = false := letB_false.2 (by omega)
    rw [h]; clear h
    go_enter Try.func56, Try.ntmps56
    go_wp2
    go_ret
    exact ⟨rfl, rfl⟩

set_option maxHeartbeats 400000 in
theorem isDigit_any (n : Int) (w : World) :
    Calls Try.prog 57 #[.int .u8 n] w fun e w' => e = .returned (.bool (digB n)) ∧ w = w' := by
  by_cases h1 : 48 ≤ n
  · by_cases h2 : n ≤ 57
    · have h : digB n = true := digB_true.2 ⟨h1, h2⟩
      rw [h]; clear h
      go_enter Try.func57, Try.ntmps57
      go_wp2
      go_ret
      exact ⟨rfl, rfl⟩
    · have h : digB n = false := digB_false.2 (by omega)
      rw [h]; clear h
      go_enter Try.func57, Try.ntmps57
      go_wp2
      go_ret
      exact ⟨rfl, rfl⟩
  · have h : digB n = false := digB_false.2 (by omega)
    rw [h]; clear h
    go_enter Try.func57, Try.ntmps57
    go_wp2
    go_ret
    exact ⟨rfl, rfl⟩

def chB (c : Int) : Bool := letB c || digB c || decide (c = 95)
theorem chB_let {c : Int} (h : letB c = true) : chB c = true := by unfold chB; rw [h]; rfl
theorem chB_dig {c : Int} (h : digB c = true) : chB c = true := by unfold chB; rw [h]; simp
theorem chB_us {c : Int} (h : c = 95) : chB c = true := by unfold chB; simp [h]
theorem chB_no {c : Int} (h1 : letB c = false) (h2 : digB c = false) (h3 : c ≠ 95) : chB c = false := by unfold chB; simp [h1, h2, h3]

/-- what a name is -/
def nameP (s : ByteArray) : Prop := 1 ≤ s.size ∧ s.size ≤ 12 ∧ (∀ h : 0 < s.size, letB (s[0].toNat : Int) = true) ∧ ∀ j, ∀ h : j < s.size, chB (s[j].toNat : Int) = true

/-- the answer is whether it is a name -/
def NameRet (s : ByteArray) (w : World) (e : Ending) (w' : World) : Prop := ∃ b : Bool, e = .returned (.bool b) ∧ (b = true ↔ nameP s) ∧ w = w'

theorem NameRet_no {s : ByteArray} {w : World} (h : ¬ nameP s) : NameRet s w (.returned (.bool false)) w := ⟨false, rfl, ⟨(fun h' => by cases h'), fun h' => absurd h' h⟩, rfl⟩
theorem NameRet_yes {s : ByteArray} {w : World} (h : nameP s) : NameRet s w (.returned (.bool true)) w := ⟨true, rfl, ⟨fun _ => h, fun _ => rfl⟩, rfl⟩

theorem name_start {s : ByteArray} (h1 : 1 ≤ s.size) (h3 : letB (s[0].toNat : Int) = true) : ∀ j, j < 1 → ∀ h : j < s.size, chB (s[j].toNat : Int) = true := by
  intro j hj h
  obtain rfl : j = 0 := by omega
  exact chB_let h3

set_option maxHeartbeats 400000 in
theorem Name_in (s : ByteArray) (w : World) (h1 : 1 ≤ s.size) (h2 : s.size ≤ 12) (h3 : letB (s[0].toNat : Int) = true) :
    Calls Try.prog 15 #[.string s] w (NameRet s w) := by
  have H3 := Lib.hid h3
  go_enter Try.func15, Try.ntmps15
  go_wp2_with (go_at_call 56; refine (isLetter_any _ _).mono ?_; rintro e w' ⟨rfl, rfl⟩)
  clear h3
  go_loop [3] (fun i => ∃ k : Nat, k ≤ s.size ∧ i = .int .i64 k ∧ 1 ≤ k ∧ ∀ j, j < k → ∀ h : j < s.size, chB (s[j].toNat : Int) = true) (fun i => s.size - (intOf i).toNat)
  case atStart => exact ⟨1, h1, rfl, Nat.le_refl _, name_start h1 H3.out⟩
  case round =>
    obtain ⟨k, hk, rfl, hk1, hall⟩ := hrel
    have HA := Lib.hid hall
    clear hall
    by_cases hlt : k < s.size
    · have step : ∀ hc : chB (s[k].toNat : Int) = true, ∀ j, j < k + 1 → ∀ h : j < s.size, chB (s[j].toNat : Int) = true := fun hc j hj h => by
        by_cases e : j = k
        · subst e; exact hc
        · exact HA.out j (by omega) h
      have STEP := Lib.hid step
      clear step
      have stop : chB (s[k].toNat : Int) = false → ¬ nameP s := fun hc hn => by
        have := hn.2.2.2 k hlt
        rw [hc] at this; cases this
      have STOP := Lib.hid stop
      clear stop
      cases hl : letB (s[k].toNat : Int)
      · cases hd : digB (s[k].toNat : Int)
        · by_cases hu : (s[k].toNat : Int) = 95
          · have hu' : ((s[k].toNat : Int) != 95) = false := by simp [hu]
            have HU := Lib.hid hu
            clear hu
            go_wp2_with (first | (go_at_call 56; refine (isLetter_any _ _).mono ?_; rintro e w' ⟨rfl, rfl⟩) | (go_at_call 57; refine (isDigit_any _ _).mono ?_; rintro e w' ⟨rfl, rfl⟩))
            go_round
            case rel => exact ⟨k + 1, by omega, by go_num, by omega, STEP.out (chB_us HU.out)⟩
            case measure => simp [intOf]; omega
          · have hu' : ((s[k].toNat : Int) != 95) = true := by simp [hu]
            have hno := STOP.out (chB_no hl hd hu)
            have HNO := Lib.hid hno
            clear hno hu
            go_wp2_with (first | (go_at_call 56; refine (isLetter_any _ _).mono ?_; rintro e w' ⟨rfl, rfl⟩) | (go_at_call 57; refine (isDigit_any _ _).mono ?_; rintro e w' ⟨rfl, rfl⟩))
            go_ret
            exact NameRet_no HNO.out
        · have hc := Lib.hid (chB_dig hd)
          go_wp2_with (first | (go_at_call 56; refine (isLetter_any _ _).mono ?_; rintro e w' ⟨rfl, rfl⟩) | (go_at_call 57; refine (isDigit_any _ _).mono ?_; rintro e w' ⟨rfl, rfl⟩))
          go_round
          case rel => exact ⟨k + 1, by omega, by go_num, by omega, STEP.out hc.out⟩
          case measure => simp [intOf]; omega
      · have hc := Lib.hid (chB_let hl)
        go_wp2_with (first | (go_at_call 56; refine (isLetter_any _ _).mono ?_; rintro e w' ⟨rfl, rfl⟩) | (go_at_call 57; refine (isDigit_any _ _).mono ?_; rintro e w' ⟨rfl, rfl⟩))
        go_round
        case rel => exact ⟨k + 1, by omega, by go_num, by omega, STEP.out hc.out⟩
        case measure => simp [intOf]; omega
    · go_wp2
      go_ret
      exact NameRet_yes ⟨h1, h2, fun _ => H3.out, fun j h => HA.out j (by omega) h⟩

set_option maxHeartbeats 400000 in
theorem Name_any (s : ByteArray) (w : World) (hs : s.size ≤ maxLen) :
    Calls Try.prog 15 #[.string s] w (NameRet s w) := by
  unfold maxLen at hs
  by_cases h1 : 1 ≤ s.size
  · by_cases h2 : s.size ≤ 12
    · cases h3 : letB (s[0].toNat : Int)
      · have hno : ¬ nameP s := fun hn => by
          have := hn.2.2.1 (by omega)
          rw [h3] at this; cases this
        have HNO := Lib.hid hno
        clear hno
        go_enter Try.func15, Try.ntmps15
        go_wp2_with (go_at_call 56; refine (isLetter_any _ _).mono ?_; rintro e w' ⟨rfl, rfl⟩)
        go_ret
        exact NameRet_no HNO.out
      · exact Name_in s w h1 h2 h3
    · have HNO := Lib.hid (show ¬ nameP s from fun hn => h2 hn.2.1)
      go_enter Try.func15, Try.ntmps15
      go_wp2
      go_ret
      exact NameRet_no HNO.out
  · have HNO := Lib.hid (show ¬ nameP s from fun hn => h1 hn.1)
    go_enter Try.func15, Try.ntmps15
    go_wp2
    go_ret
    exact NameRet_no HNO.out

set_option maxHeartbeats 400000 in
theorem refName_in (s : ByteArray) (w : World) (h1 : 1 ≤ s.size) (h2 : s.size ≤ 12) (h3 : (97 : Int) ≤ (s[0].toNat : Int)) (h4 : (s[0].toNat : Int) ≤ 122) :
    Calls Try.prog 16 #[.string s] w (NameRet s w) := by
  have H3 := Lib.hid (letB_true.2 ⟨h3, h4⟩)
  go_enter Try.func16, Try.ntmps16
  go_wp2
  clear h3 h4
  go_loop [3] (fun i => ∃ k : Nat, k ≤ s.size ∧ i = .int .i64 k ∧ ∀ j, j < k → ∀ h : j < s.size, chB (s[j].toNat : Int) = true) (fun i => s.size - (intOf i).toNat)
  case atStart => exact ⟨0, Nat.zero_le _, rfl, by omega⟩
  case round =>
    obtain ⟨k, hk, rfl, hall⟩ := hrel
    have HA := Lib.hid hall
    clear hall
    by_cases hlt : k < s.size
    · have step : ∀ hc : chB (s[k].toNat : Int) = true, ∀ j, j < k + 1 → ∀ h : j < s.size, chB (s[j].toNat : Int) = true := fun hc j hj h => by
        by_cases e : j = k
        · subst e; exact hc
        · exact HA.out j (by omega) h
      have STEP := Lib.hid step
      clear step
      have stop : chB (s[k].toNat : Int) = false → ¬ nameP s := fun hc hn => by
        have := hn.2.2.2 k hlt
        rw [hc] at this; cases this
      have STOP := Lib.hid stop
      clear stop
      by_cases hl : (97 : Int) ≤ (s[k].toNat : Int) ∧ (s[k].toNat : Int) ≤ 122
      · have hc := Lib.hid (chB_let (letB_true.2 hl))
        obtain ⟨hl1, hl2⟩ := hl
        go_wp2
        go_round
        case rel => exact ⟨k + 1, by omega, by go_num, STEP.out hc.out⟩
        case measure => simp [intOf]; omega
      · by_cases hd : (48 : Int) ≤ (s[k].toNat : Int) ∧ (s[k].toNat : Int) ≤ 57
        · have hc := Lib.hid (chB_dig (digB_true.2 hd))
          obtain ⟨hd1, hd2⟩ := hd
          clear hl
          go_wp2
          go_round
          case rel => exact ⟨k + 1, by omega, by go_num, STEP.out hc.out⟩
          case measure => simp [intOf]; omega
        · have HL := Lib.hid hl
          have HD := Lib.hid hd
          have hl' : (s[k].toNat : Int) < 97 ∨ (122 : Int) < (s[k].toNat : Int) := by omega
          have hd' : (s[k].toNat : Int) < 48 ∨ (57 : Int) < (s[k].toNat : Int) := by omega
          clear hl hd
          by_cases hu : (s[k].toNat : Int) = 95
          · have hu' : ((s[k].toNat : Int) != 95) = false := by simp [hu]
            have HU := Lib.hid (chB_us hu)
            clear hl' hd'
            have h5 : (s[k].toNat : Int) < 97 := by omega
            have h6 : (57 : Int) < (s[k].toNat : Int) := by omega
            have h7 : ¬ (s[k].toNat : Int) < 48 := by omega
            clear hu
            go_wp2
            go_round
            case rel => exact ⟨k + 1, by omega, by go_num, STEP.out HU.out⟩
            case measure => simp [intOf]; omega
          · have hu' : ((s[k].toNat : Int) != 95) = true := by simp [hu]
            have HNO := Lib.hid (STOP.out (chB_no (letB_false.2 HL.out) (digB_false.2 HD.out) hu))
            clear hu
            rcases hl' with hl' | hl'
            · rcases hd' with hd' | hd'
              · go_wp2
                go_ret
                exact NameRet_no HNO.out
              · have h7 : ¬ (s[k].toNat : Int) < 48 := by omega
                go_wp2
                go_ret
                exact NameRet_no HNO.out
            · have h7 : ¬ (s[k].toNat : Int) < 48 := by omega
              have h8 : ¬ (s[k].toNat : Int) < 97 := by omega
              have h9 : (57 : Int) < (s[k].toNat : Int) := by omega
              clear hd'
              go_wp2
              go_ret
              exact NameRet_no HNO.out
    · go_wp2
      go_ret
      exact NameRet_yes ⟨h1, h2, fun _ => H3.out, fun j h => HA.out j (by omega) h⟩

set_option maxHeartbeats 400000 in
theorem refName_any (s : ByteArray) (w : World) (hs : s.size ≤ maxLen) :
    Calls Try.prog 16 #[.string s] w (NameRet s w) := by
  unfold maxLen at hs
  by_cases h1 : 1 ≤ s.size
  · by_cases h2 : s.size ≤ 12
    · by_cases h3 : (97 : Int) ≤ (s[0].toNat : Int) ∧ (s[0].toNat : Int) ≤ 122
      · exact refName_in s w h1 h2 h3.1 h3.2
      · have hno : ¬ nameP s := fun hn => h3 (letB_true.1 (hn.2.2.1 (by omega)))
        have HNO := Lib.hid hno
        have h4 : (s[0].toNat : Int) < 97 ∨ (122 : Int) < (s[0].toNat : Int) := by omega
        clear hno h3
        rcases h4 with h4 | h4
        · go_enter Try.func16, Try.ntmps16
          go_wp2
          go_ret
          exact NameRet_no HNO.out
        · have h5 : ¬ (s[0].toNat : Int) < 97 := by omega
          go_enter Try.func16, Try.ntmps16
          go_wp2
          go_ret
          exact NameRet_no HNO.out
    · have HNO := Lib.hid (show ¬ nameP s from fun hn => h2 hn.2.1)
      go_enter Try.func16, Try.ntmps16
      go_wp2
      go_ret
      exact NameRet_no HNO.out
  · have HNO := Lib.hid (show ¬ nameP s from fun hn => h1 hn.1)
    go_enter Try.func16, Try.ntmps16
    go_wp2
    go_ret
    exact NameRet_no HNO.out

end Go.Proofs.Ythnjfnapjpdchaa
