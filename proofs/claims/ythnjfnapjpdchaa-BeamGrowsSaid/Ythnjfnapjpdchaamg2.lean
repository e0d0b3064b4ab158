/-
  Walks over roundings and run.
-/
import Derived.Laws.EntriesVeiled
import Derived.Deep.RegionHeld3
import Derived.Test.Ythnjfnapjpdchaamg1
namespace Go.Proofs.Ythnjfnapjpdchaa
open Go.RowKit

set_option maxHeartbeats 400000 in
theorem roundings_any (w : World) :
    Calls Try.prog 68 #[] w fun e w' => e = .returned (.tuple #[.func (Fn.func 92) #[] #[], .func (Fn.func 93) #[] #[.pointer (some ⟨w.heap.size, 0, none⟩)]]) ∧ w' = w.alloc (.cells #[.func (Fn.func 92) #[] #[]] 90) := by
  go_enter Try.func68, Try.ntmps68
  go_wp2
  exact bodyPost_ret (v := .tuple #[.func (Fn.func 92) #[] #[], .func (Fn.func 93) #[] #[.pointer (some ⟨w.heap.size, 0, none⟩)]]) (by simp [results, Try.results68, go_sem]) rfl ⟨rfl, by simp⟩

set_option maxHeartbeats 400000 in
theorem up_any (a b : Int) (p : Addr) (w : World) (hp : w.cell? p = some (.func (Fn.func 92) #[] #[])) (hb : 1 ≤ b) (ha1 : -1000000000000000 ≤ a) (ha2 : a ≤ 1000000000000000) :
    Calls Try.prog 93 #[.int .i64 a, .int .i64 b, .pointer (some p)] w fun e w' => e = .returned (.int .i64 (-((-a) / b))) ∧ w = w' := by
  obtain ⟨h1, h2⟩ := floor_bd (a := -a) hb (by omega) (by omega)
  go_enter Try.func93, Try.ntmps93
  go_wp2_with (go_at_call 92; refine (down_any _ _ _ hb (by omega) (by omega)).mono ?_; rintro e w' ⟨rfl, rfl⟩)
  go_ret
  exact ⟨rfl, rfl⟩

/-- numerator and denominator of a ground range -/
def runN (step t gate : Int) : Int := (2 * gate + 1) * step * (262144 - t * t)
def runD (t : Int) : Int := 2 * (262144 + t * t)
def runLo (step t gate : Int) : Int := runN step t gate / runD t
def runHi (step t gate : Int) : Int := -((-runN step t gate) / runD t)

theorem runD_bd {t : Int} (h1 : -8 ≤ t) (h2 : t ≤ 264) : 524288 ≤ runD t ∧ runD t ≤ 663680 := by
  have hb : 0 ≤ t * t := M.sq_nonneg t
  have hb2 : t * t ≤ 69696 := (M.sq_bd (a := t) (A := 264) (by omega) h2).2
  unfold runD; omega

theorem runN_bd {step t gate : Int} (h1 : -8 ≤ t) (h2 : t ≤ 264) (s1 : 50 ≤ step) (s2 : step ≤ 2000) (g1 : 0 ≤ gate) (g2 : gate ≤ 199) :
    (0 ≤ (2 * gate + 1) * step ∧ (2 * gate + 1) * step ≤ 798000) ∧ 0 ≤ runN step t gate ∧ runN step t gate ≤ 209190912000 ∧ 0 ≤ t * t ∧ t * t ≤ 69696 := by
  have hb : 0 ≤ t * t := M.sq_nonneg t
  have hb2 : t * t ≤ 69696 := (M.sq_bd (a := t) (A := 264) (by omega) h2).2
  have h3 := M.mul_bd (a := 2 * gate + 1) (b := step) (A := 399) (B := 2000) (by omega) (by omega) (by omega) s2
  have h4 := M.mul_bd (a := (2 * gate + 1) * step) (b := 262144 - t * t) (A := 798000) (B := 262144) (by omega) (by omega) (by omega) (by omega)
  unfold runN
  exact ⟨by omega, by omega, by omega, hb, hb2⟩

theorem runLo_bd {step t gate : Int} (h1 : -8 ≤ t) (h2 : t ≤ 264) (s1 : 50 ≤ step) (s2 : step ≤ 2000) (g1 : 0 ≤ gate) (g2 : gate ≤ 199) :
    0 ≤ runLo step t gate ∧ runLo step t gate ≤ 399000 := by
  have hd := runD_bd h1 h2
  have hn := runN_bd h1 h2 s1 s2 g1 g2
  unfold runLo
  refine ⟨Int.ediv_nonneg (by omega) (by omega), ?_⟩
  have : runN step t gate / runD t < 399001 := Int.ediv_lt_of_lt_mul (by omega) (by omega)
  omega

theorem runHi_bd {step t gate : Int} (h1 : -8 ≤ t) (h2 : t ≤ 264) (s1 : 50 ≤ step) (s2 : step ≤ 2000) (g1 : 0 ≤ gate) (g2 : gate ≤ 199) :
    0 ≤ runHi step t gate ∧ runHi step t gate ≤ 399000 := by
  have hd := runD_bd h1 h2
  have hn := runN_bd h1 h2 s1 s2 g1 g2
  unfold runHi
  have h3 : -399000 ≤ (-runN step t gate) / runD t := Int.le_ediv_of_mul_le (by omega) (by omega)
  have h4 : (-runN step t gate) / runD t < 1 := Int.ediv_lt_of_lt_mul (by omega) (by omega)
  omega

set_option maxHeartbeats 400000 in
theorem run_down (nm : ByteArray) (x y z rose gates step width t gate : Int) (w : World) (h1 : -8 ≤ t) (h2 : t ≤ 264) (s1 : 50 ≤ step) (s2 : step ≤ 2000) (g1 : 0 ≤ gate) (g2 : gate ≤ 199) :
    Calls Try.prog 69 #[.agg #[.string nm, .int .i64 x, .int .i64 y, .int .i64 z, .int .i64 rose, .int .i64 gates, .int .i64 step, .int .i64 width], .int .i64 t, .int .i64 gate, .func (Fn.func 92) #[] #[]] w
      fun e w' => e = .returned (.int .i64 (runLo step t gate)) ∧ Below w.heap.size w w' := by
  obtain ⟨⟨b1, b2⟩, b3, b4, b5, b6⟩ := runN_bd h1 h2 s1 s2 g1 g2
  have hd := runD_bd h1 h2
  unfold runN at b3 b4
  unfold runD at hd
  go_enter Try.func69, Try.ntmps69
  go_wp2_with (first | (go_at_call 65; refine (slant_any _ _ h1 h2).mono ?_; rintro e w' ⟨rfl, rfl⟩) | (go_at_call 92; refine (down_any _ _ _ (by omega) (by omega) (by omega)).mono ?_; rintro e w' ⟨rfl, rfl⟩))
  go_ret
  exact ⟨rfl, (Below.refl _ _).alloc (Nat.le_refl _) _⟩

set_option maxHeartbeats 400000 in
theorem run_up (nm : ByteArray) (x y z rose gates step width t gate : Int) (p : Addr) (w : World) (hp : w.cell? p = some (.func (Fn.func 92) #[] #[])) (hp2 : p.block < w.heap.size) (h1 : -8 ≤ t) (h2 : t ≤ 264) (s1 : 50 ≤ step) (s2 : step ≤ 2000) (g1 : 0 ≤ gate) (g2 : gate ≤ 199) :
    Calls Try.prog 69 #[.agg #[.string nm, .int .i64 x, .int .i64 y, .int .i64 z, .int .i64 rose, .int .i64 gates, .int .i64 step, .int .i64 width], .int .i64 t, .int .i64 gate, .func (Fn.func 93) #[] #[.pointer (some p)]] w
      fun e w' => e = .returned (.int .i64 (runHi step t gate)) ∧ Below w.heap.size w w' := by
  obtain ⟨⟨b1, b2⟩, b3, b4, b5, b6⟩ := runN_bd h1 h2 s1 s2 g1 g2
  have hd := runD_bd h1 h2
  unfold runN at b3 b4
  unfold runD at hd
  have HP : Hid (∀ o, (w.alloc o).cell? p = some (.func (Fn.func 92) #[] #[])) := Lib.hid fun o => by rw [((Below.refl w.heap.size w).alloc (Nat.le_refl _) o).cell hp2]; exact hp
  clear hp
  go_enter Try.func69, Try.ntmps69
  go_wp2_with (first | (go_at_call 65; refine (slant_any _ _ h1 h2).mono ?_; rintro e w' ⟨rfl, rfl⟩) | (go_at_call 93; refine (up_any _ _ _ _ (HP.out _) (by omega) (by omega) (by omega)).mono ?_; rintro e w' ⟨rfl, rfl⟩))
  go_ret
  exact ⟨rfl, (Below.refl _ _).alloc (Nat.le_refl _) _⟩

end Go.Proofs.Ythnjfnapjpdchaa

namespace Go.Proofs.Ythnjfnapjpdchaa
open Go.RowKit

def letB (c : Int) : Bool := decide (97 ≤ c ∧ c ≤ 122)
def digB (c : Int) : Bool := decide (48 ≤ c ∧ c ≤ 57)

theorem letB_true {c : Int} : letB c = true ↔ 97 ≤ c ∧ c ≤ 122 := by unfold letB; simp
theorem letB_false {c : Int} : letB c = false ↔ ¬ (97 ≤ c ∧ c ≤ 122) := by unfold letB; rw [decide_eq_false_iff_not]
theorem digB_true {c : Int} : digB c = true ↔ 48 ≤ c ∧ c ≤ 57 := by unfold digB; simp
theorem digB_false {c : Int} : digB c = false ↔ ¬ (48 ≤ c ∧ c ≤ 57) := by unfold digB; rw [decide_eq_false_iff_not]

set_option maxHeartbeats 400000 in
theorem isLetter_any (n : Int) (w : World) :
    Calls Try.prog 56 #[.int .u8 n] w fun e w' => e = .returned (.bool (letB n)) ∧ w = w' := by
  by_cases h1 : 97 ≤ n
  · by_cases h2 : n ≤ 122
    · have h : letB n = true := letB_true.2 ⟨h1, h2⟩
      rw [h]; clear h
      go_enter Try.func56, Try.ntmps56
      go_wp2
      go_ret
      exact ⟨rfl, rfl⟩
    · have h : letB n = false := letB_false.2 (by omega)
      rw [h]; clear h
      go_enter Try.func56, Try.ntmps56
      go_wp2
      go_ret
      exact ⟨rfl, rfl⟩
  · have h : letB n = false := letB_false.2 (by omega)
    rw [h]; clear h
    go_enter Try.func56, Try.ntmps56
    go_wp2
    go_ret
    exact ⟨rfl, rfl⟩

set_option maxHeartbeats 400000 in
theorem isDigit_any (n : Int) (w : World) :
    Calls Try.prog 57 #[.int .u8 n] w fun e w' => e = .returned (.bool (digB n)) ∧ w = w' := by
  by_cases h1 : 48 ≤ n
  · by_cases h2 : n ≤ 57
    · have h : digB n = true := digB_true.2 ⟨h1, h2⟩
      rw [h]; clear h
      go_enter Try.func57, Try.ntmps57
      go_wp2
      go_ret
      exact ⟨rfl, rfl⟩
    · have h : digB n = false := digB_false.2 (by omega)
      rw [h]; clear h
      go_enter Try.func57, Try.ntmps57
      go_wp2
      go_ret
      exact ⟨rfl, rfl⟩
  · have h : digB n = false := digB_false.2 (by omega)
    rw [h]; clear h
    go_enter Try.func57, Try.ntmps57
    go_wp2
    go_ret
    exact ⟨rfl, rfl⟩

def chB (c : Int) : Bool := letB c || digB c || decide (c = 95)
theorem chB_let {c : Int} (h : letB c = true) : chB c = true := by unfold chB; rw [h]; rfl
theorem chB_dig {c : Int} (h : digB c = true) : chB c = true := by unfold chB; rw [h]; simp
theorem chB_us {c : Int} (h : c = 95) : chB c = true := by unfold chB; simp [h]
theorem chB_no {c : Int} (h1 : letB c = false) (h2 : digB c = false) (h3 : c ≠ 95) : chB c = false := by unfold chB; simp [h1, h2, h3]

/-- what a name is -/
def nameP (s : ByteArray) : Prop := 1 ≤ s.size ∧ s.size ≤ 12 ∧ (∀ h : 0 < s.size, letB (s[0].toNat : Int) = true) ∧ ∀ j, ∀ h : j < s.size, chB (s[j].toNat : Int) = true

/-- the answer is whether it is a name -/
def NameRet (s : ByteArray) (w : World) (e : Ending) (w' : World) : Prop := ∃ b : Bool, e = .returned (.bool b) ∧ (b = true ↔ nameP s) ∧ w = w'

theorem NameRet_no {s : ByteArray} {w : World} (h : ¬ nameP s) : NameRet s w (.returned (.bool false)) w := ⟨false, rfl, ⟨(fun h' => by cases h'), fun h' => absurd h' h⟩, rfl⟩
theorem NameRet_yes {s : ByteArray} {w : World} (h : nameP s) : NameRet s w (.returned (.bool true)) w := ⟨true, rfl, ⟨fun _ => h, fun _ => rfl⟩, rfl⟩

theorem name_start {s : ByteArray} (h1 : 1 ≤ s.size) (h3 : letB (s[0].toNat : Int) = true) : ∀ j, j < 1 → ∀ h : j < s.size, chB (s[j].toNat : Int) = true := by
  intro j hj h
  obtain rfl : j = 0 := by omega
  exact chB_let h3

set_option maxHeartbeats 400000 in
theorem Name_in (s : ByteArray) (w : World) (h1 : 1 ≤ s.size) (h2 : s.size ≤ 12) (h3 : letB (s[0].toNat : Int) = true) :
    Calls Try.prog 15 #[.string s] w (NameRet s w) := by
  have H3 := Lib.hid h3
  go_enter Try.func15, Try.ntmps15
  go_wp2_with (go_at_call 56; refine (isLetter_any _ _).mono ?_; rintro e w' ⟨rfl, rfl⟩)
  clear h3
  go_loop [3] (fun i => ∃ k : Nat, k ≤ s.size ∧ i = .int .i64 k ∧ 1 ≤ k ∧ ∀ j, j < k → ∀ h : j < s.size, chB (s[j].toNat : Int) = true) (fun i => s.size - (intOf i).toNat)
  case atStart => exact ⟨1, h1, rfl, Nat.le_refl _, name_start h1 H3.out⟩
  case round =>
    obtain ⟨k, hk, rfl, hk1, hall⟩ := hrel
    have HA := Lib.hid hall
    clear hall
    by_cases hlt : k < s.size
    · have step : ∀ hc : chB (s[k].toNat : Int) = true, ∀ j, j < k + 1 → ∀ h : j < s.size, chB (s[j].toNat : Int) = true := fun hc j hj h => by
        by_cases e : j = k
        · subst e; exact hc
        · exact HA.out j (by omega) h
      have STEP := Lib.hid step
      clear step
      have stop : chB (s[k].toNat : Int) = false → ¬ nameP s := fun hc hn => by
        have := hn.2.2.2 k hlt
        rw [hc] at this; cases this
      have STOP := Lib.hid stop
      clear stop
      cases hl : letB (s[k].toNat : Int)
      · cases hd : digB (s[k].toNat : Int)
        · by_cases hu : (s[k].toNat : Int) = 95
          · have hu' : ((s[k].toNat : Int) != 95) = false := by simp [hu]
            have HU := Lib.hid hu
            clear hu
            go_wp2_with (first | (go_at_call 56; refine (isLetter_any _ _).mono ?_; rintro e w' ⟨rfl, rfl⟩) | (go_at_call 57; refine (isDigit_any _ _).mono ?_; rintro e w' ⟨rfl, rfl⟩))
            go_round
            case rel => exact ⟨k + 1, by omega, by go_num, by omega, STEP.out (chB_us HU.out)⟩
            case measure => simp [intOf]; omega
          · have hu' : ((s[k].toNat : Int) != 95) = true := by simp [hu]
            have hno := STOP.out (chB_no hl hd hu)
            have HNO := Lib.hid hno
            clear hno hu
            go_wp2_with (first | (go_at_call 56; refine (isLetter_any _ _).mono ?_; rintro e w' ⟨rfl, rfl⟩) | (go_at_call 57; refine (isDigit_any _ _).mono ?_; rintro e w' ⟨rfl, rfl⟩))
            go_ret
            exact NameRet_no HNO.out
        · have hc := Lib.hid (chB_dig hd)
          go_wp2_with (first | (go_at_call 56; refine (isLetter_any _ _).mono ?_; rintro e w' ⟨rfl, rfl⟩) | (go_at_call 57; refine (isDigit_any _ _).mono ?_; rintro e w' ⟨rfl, rfl⟩))
          go_round
          case rel => exact ⟨k + 1, by omega, by go_num, by omega, STEP.out hc.out⟩
          case measure => simp [intOf]; omega
      · have hc := Lib.hid (chB_let hl)
        go_wp2_with (first | (go_at_call 56; refine (isLetter_any _ _).mono ?_; rintro e w' ⟨rfl, rfl⟩) | (go_at_call 57; refine (isDigit_any _ _).mono ?_; rintro e w' ⟨rfl, rfl⟩))
        go_round
        case rel => exact ⟨k + 1, by omega, by go_num, by omega, STEP.out hc.out⟩
        case measure => simp [intOf]; omega
    · go_wp2
      go_ret
      exact NameRet_yes ⟨h1, h2, fun _ => H3.out, fun j h => HA.out j (by omega) h⟩

set_option maxHeartbeats 400000 in
theorem Name_any (s : ByteArray) (w : World) (hs : s.size ≤ maxLen) :
    Calls Try.prog 15 #[.string s] w (NameRet s w) := by
  unfold maxLen at hs
  by_cases h1 : 1 ≤ s.size
  · by_cases h2 : s.size ≤ 12
    · cases h3 : letB (s[0].toNat : Int)
      · have hno : ¬ nameP s := fun hn => by
          have := hn.2.2.1 (by omega)
          rw [h3] at this; cases this
        have HNO := Lib.hid hno
        clear hno
        go_enter Try.func15, Try.ntmps15
        go_wp2_with (go_at_call 56; refine (isLetter_any _ _).mono ?_; rintro e w' ⟨rfl, rfl⟩)
        go_ret
        exact NameRet_no HNO.out
      · exact Name_in s w h1 h2 h3
    · have HNO := Lib.hid (show ¬ nameP s from fun hn => h2 hn.2.1)
      go_enter Try.func15, Try.ntmps15
      go_wp2
      go_ret
      exact NameRet_no HNO.out
  · have HNO := Lib.hid (show ¬ nameP s from fun hn => h1 hn.1)
    go_enter Try.func15, Try.ntmps15
    go_wp2
    go_ret
    exact NameRet_no HNO.out

set_option maxHeartbeats 400000 in
theorem refName_in (s : ByteArray) (w : World) (h1 : 1 ≤ s.size) (h2 : s.size ≤ 12) (h3 : (97 : Int) ≤ (s[0].toNat : Int)) (h4 : (s[0].toNat : Int) ≤ 122) :
    Calls Try.prog 16 #[.string s] w (NameRet s w) := by
  have H3 := Lib.hid (letB_true.2 ⟨h3, h4⟩)
  go_enter Try.func16, Try.ntmps16
  go_wp2
  clear h3 h4
  go_loop [3] (fun i => ∃ k : Nat, k ≤ s.size ∧ i = .int .i64 k ∧ ∀ j, j < k → ∀ h : j < s.size, chB (s[j].toNat : Int) = true) (fun i => s.size - (intOf i).toNat)
  case atStart => exact ⟨0, Nat.zero_le _, rfl, by omega⟩
  case round =>
    obtain ⟨k, hk, rfl, hall⟩ := hrel
    have HA := Lib.hid hall
    clear hall
    by_cases hlt : k < s.size
    · have step : ∀ hc : chB (s[k].toNat : Int) = true, ∀ j, j < k + 1 → ∀ h : j < s.size, chB (s[j].toNat : Int) = true := fun hc j hj h => by
        by_cases e : j = k
        · subst e; exact hc
        · exact HA.out j (by omega) h
      have STEP := Lib.hid step
      clear step
      have stop : chB (s[k].toNat : Int) = false → ¬ nameP s := fun hc hn => by
        have := hn.2.2.2 k hlt
        rw [hc] at this; cases this
      have STOP := Lib.hid stop
      clear stop
      by_cases hl : (97 : Int) ≤ (s[k].toNat : Int) ∧ (s[k].toNat : Int) ≤ 122
      · have hc := Lib.hid (chB_let (letB_true.2 hl))
        obtain ⟨hl1, hl2⟩ := hl
        go_wp2
        go_round
        case rel => exact ⟨k + 1, by omega, by go_num, STEP.out hc.out⟩
        case measure => simp [intOf]; omega
      · by_cases hd : (48 : Int) ≤ (s[k].toNat : Int) ∧ (s[k].toNat : Int) ≤ 57
        · have hc := Lib.hid (chB_dig (digB_true.2 hd))
          obtain ⟨hd1, hd2⟩ := hd
          clear hl
          go_wp2
          go_round
          case rel => exact ⟨k + 1, by omega, by go_num, STEP.out hc.out⟩
          case measure => simp [intOf]; omega
        · have HL := Lib.hid hl
          have HD := Lib.hid hd
          have hl' : (s[k].toNat : Int) < 97 ∨ (122 : Int) < (s[k].toNat : Int) := by omega
          have hd' : (s[k].toNat : Int) < 48 ∨ (57 : Int) < (s[k].toNat : Int) := by omega
          clear hl hd
          by_cases hu : (s[k].toNat : Int) = 95
          · have hu' : ((s[k].toNat : Int) != 95) = false := by simp [hu]
            have HU := Lib.hid (chB_us hu)
            clear hl' hd'
            have h5 : (s[k].toNat : Int) < 97 := by omega
            have h6 : (57 : Int) < (s[k].toNat : Int) := by omega
            have h7 : ¬ (s[k].toNat : Int) < 48 := by omega
            clear hu
            go_wp2
            go_round
            case rel => exact ⟨k + 1, by omega, by go_num, STEP.out HU.out⟩
            case measure => simp [intOf]; omega
          · have hu' : ((s[k].toNat : Int) != 95) = true := by simp [hu]
            have HNO := Lib.hid (STOP.out (chB_no (letB_false.2 HL.out) (digB_false.2 HD.out) hu))
            clear hu
            rcases hl' with hl' | hl'
            · rcases hd' with hd' | hd'
              · go_wp2
                go_ret
                exact NameRet_no HNO.out
              · have h7 : ¬ (s[k].toNat : Int) < 48 := by omega
                go_wp2
                go_ret
                exact NameRet_no HNO.out
            · have h7 : ¬ (s[k].toNat : Int) < 48 := by omega
              have h8 : ¬ (s[k].toNat : Int) < 97 := by omega
              have h9 : (57 : Int) < (s[k].toNat : Int) := by omega
              clear hd'
              go_wp2
              go_ret
              exact NameRet_no HNO.out
    · go_wp2
      go_ret
      exact NameRet_yes ⟨h1, h2, fun _ => H3.out, fun j h => HA.out j (by omega) h⟩

set_option maxHeartbeats 400000 in
theorem refName_any (s : ByteArray) (w : World) (hs : s.size ≤ maxLen) :
    Calls Try.prog 16 #[.string s] w (NameRet s w) := by
  unfold maxLen at hs
  by_cases h1 : 1 ≤ s.size
  · by_cases h2 : s.size ≤ 12
    · by_cases h3 : (97 : Int) ≤ (s[0].toNat : Int) ∧ (s[0].toNat : Int) ≤ 122
      · exact refName_in s w h1 h2 h3.1 h3.2
      · have hno : ¬ nameP s := fun hn => h3 (letB_true.1 (hn.2.2.1 (by omega)))
        have HNO := Lib.hid hno
        have h4 : (s[0].toNat : Int) < 97 ∨ (122 : Int) < (s[0].toNat : Int) := by omega
        clear hno h3
        rcases h4 with h4 | h4
        · go_enter Try.func16, Try.ntmps16
          go_wp2
          go_ret
          exact NameRet_no HNO.out
        · have h5 : ¬ (s[0].toNat : Int) < 97 := by omega
          go_enter Try.func16, Try.ntmps16
          go_wp2
          go_ret
          exact NameRet_no HNO.out
    · have HNO := Lib.hid (show ¬ nameP s from fun hn => h2 hn.2.1)
      go_enter Try.func16, Try.ntmps16
      go_wp2
      go_ret
      exact NameRet_no HNO.out
  · have HNO := Lib.hid (show ¬ nameP s from fun hn => h1 hn.1)
    go_enter Try.func16, Try.ntmps16
    go_wp2
    go_ret
    exact NameRet_no HNO.out

end Go.Proofs.Ythnjfnapjpdchaa

namespace Go.Proofs.Ythnjfnapjpdchaa
open Go.RowKit

noncomputable def nameB (s : ByteArray) : Bool := @decide (nameP s) (Classical.propDecidable _)
theorem nameB_true {s : ByteArray} : nameB s = true ↔ nameP s := by unfold nameB; exact @decide_eq_true_iff _ (Classical.propDecidable _)

theorem NameRet_b {s : ByteArray} {w w' : World} {e : Ending} (h : NameRet s w e w') : e = .returned (.bool (nameB s)) ∧ w = w' := by
  obtain ⟨b, rfl, hb, hw⟩ := h
  refine ⟨?_, hw⟩
  have : b = nameB s := by rw [Bool.eq_iff_iff, hb, nameB_true]
  rw [this]

theorem Name_b (s : ByteArray) (w : World) (hs : s.size ≤ maxLen) :
    Calls Try.prog 15 #[.string s] w fun e w' => e = .returned (.bool (nameB s)) ∧ w = w' := (Name_any s w hs).mono fun _ _ h => NameRet_b h
theorem refName_b (s : ByteArray) (w : World) (hs : s.size ≤ maxLen) :
    Calls Try.prog 16 #[.string s] w fun e w' => e = .returned (.bool (nameB s)) ∧ w = w' := (refName_any s w hs).mono fun _ _ h => NameRet_b h

/-- the numbers of a site are within their ranges -/
def siteB (x y z rose gates step width : Int) : Bool :=
  inB x (-1048576) 1048576 && inB y (-1048576) 1048576 && inB z 0 20000 && inB rose 1 90 && inB gates 1 200 && inB step 50 2000 && inB width 0 8
/-- the answer of CheckSite -/
noncomputable def siteC (nm : ByteArray) (x y z rose gates step width : Int) : Int :=
  if nameB nm = true then (if siteB x y z rose gates step width = true then 0 else 3) else 10

theorem siteC_name {nm : ByteArray} {x y z rose gates step width : Int} (h : nameB nm = false) : siteC nm x y z rose gates step width = 10 := by unfold siteC; rw [h]; rfl
theorem siteC_ok {nm : ByteArray} {x y z rose gates step width : Int} (h : nameB nm = true) (h1 : siteB x y z rose gates step width = true) : siteC nm x y z rose gates step width = 0 := by unfold siteC; rw [h, h1]; rfl
theorem siteC_no {nm : ByteArray} {x y z rose gates step width : Int} (h : nameB nm = true) (h1 : siteB x y z rose gates step width = false) : siteC nm x y z rose gates step width = 3 := by unfold siteC; rw [h, h1]; rfl

theorem siteB_f1 {x y z rose gates step width : Int} (h : inB x (-1048576) 1048576 = false) : siteB x y z rose gates step width = false := by unfold siteB; rw [h]; simp
theorem siteB_f2 {x y z rose gates step width : Int} (h : inB y (-1048576) 1048576 = false) : siteB x y z rose gates step width = false := by unfold siteB; rw [h]; simp
theorem siteB_f3 {x y z rose gates step width : Int} (h : inB z 0 20000 = false) : siteB x y z rose gates step width = false := by unfold siteB; rw [h]; simp
theorem siteB_f4 {x y z rose gates step width : Int} (h : inB rose 1 90 = false) : siteB x y z rose gates step width = false := by unfold siteB; rw [h]; simp
theorem siteB_f5 {x y z rose gates step width : Int} (h : inB gates 1 200 = false) : siteB x y z rose gates step width = false := by unfold siteB; rw [h]; simp
theorem siteB_f6 {x y z rose gates step width : Int} (h : inB step 50 2000 = false) : siteB x y z rose gates step width = false := by unfold siteB; rw [h]; simp
theorem siteB_f7 {x y z rose gates step width : Int} (h : inB width 0 8 = false) : siteB x y z rose gates step width = false := by unfold siteB; rw [h]; simp
theorem siteB_ok {x y z rose gates step width : Int} (h1 : inB x (-1048576) 1048576 = true) (h2 : inB y (-1048576) 1048576 = true) (h3 : inB z 0 20000 = true) (h4 : inB rose 1 90 = true) (h5 : inB gates 1 200 = true) (h6 : inB step 50 2000 = true) (h7 : inB width 0 8 = true) : siteB x y z rose gates step width = true := by unfold siteB; rw [h1, h2, h3, h4, h5, h6, h7]; rfl

theorem three (a b c : Bool) : a = false ∨ (a = true ∧ b = false) ∨ (a = true ∧ b = true ∧ c = false) ∨ (a = true ∧ b = true ∧ c = true) := by cases a <;> cases b <;> cases c <;> simp
theorem two (a b : Bool) : a = false ∨ (a = true ∧ b = false) ∨ (a = true ∧ b = true) := by cases a <;> cases b <;> simp
theorem five (a b c d e : Bool) : (a = false) ∨ (a = true ∧ b = false) ∨ (a = true ∧ b = true ∧ c = false) ∨ (a = true ∧ b = true ∧ c = true ∧ d = false) ∨ (a = true ∧ b = true ∧ c = true ∧ d = true ∧ e = false) ∨ (a = true ∧ b = true ∧ c = true ∧ d = true ∧ e = true) := by cases a <;> cases b <;> cases c <;> cases d <;> cases e <;> simp
theorem seven (a b c d e f g : Bool) : (a = false) ∨ (a = true ∧ b = false) ∨ (a = true ∧ b = true ∧ c = false) ∨ (a = true ∧ b = true ∧ c = true ∧ d = false) ∨ (a = true ∧ b = true ∧ c = true ∧ d = true ∧ e = false) ∨ (a = true ∧ b = true ∧ c = true ∧ d = true ∧ e = true ∧ f = false) ∨ (a = true ∧ b = true ∧ c = true ∧ d = true ∧ e = true ∧ f = true ∧ g = false) ∨ (a = true ∧ b = true ∧ c = true ∧ d = true ∧ e = true ∧ f = true ∧ g = true) := by cases a <;> cases b <;> cases c <;> cases d <;> cases e <;> cases f <;> cases g <;> simp

set_option maxHeartbeats 8000000 in
theorem CheckSite_any (nm : ByteArray) (x y z rose gates step width : Int) (w : World) (hs : nm.size ≤ maxLen) :
    Calls Try.prog 17 #[.agg #[.string nm, .int .i64 x, .int .i64 y, .int .i64 z, .int .i64 rose, .int .i64 gates, .int .i64 step, .int .i64 width]] w
      fun e w' => e = .returned (.int .i64 (siteC nm x y z rose gates step width)) ∧ Below w.heap.size w w' := by
  have HS := Lib.hid hs
  clear hs
  cases hn : nameB nm
  · rw [siteC_name hn]
    go_enter Try.func17, Try.ntmps17
    go_wp2_with (go_at_call 15; refine (Name_b _ _ HS.out).mono ?_; rintro e w' ⟨rfl, rfl⟩)
    go_ret
    exact ⟨rfl, (Below.refl _ _).alloc (Nat.le_refl _) _⟩
  · rcases three (inB x (-1048576) 1048576) (inB y (-1048576) 1048576) (inB z 0 20000) with h1 | ⟨h1, h2⟩ | ⟨h1, h2, h3⟩ | ⟨h1, h2, h3⟩ <;>
    rcases two (inB rose 1 90) (inB width 0 8) with h4 | ⟨h4, h7⟩ | ⟨h4, h7⟩ <;>
    rcases two (inB gates 1 200) (inB step 50 2000) with h5 | ⟨h5, h6⟩ | ⟨h5, h6⟩ <;>
    (first | rw [siteC_ok hn (siteB_ok h1 h2 h3 h4 h5 h6 h7)] | rw [siteC_no hn (siteB_f1 h1)] | rw [siteC_no hn (siteB_f2 h2)] | rw [siteC_no hn (siteB_f3 h3)] | rw [siteC_no hn (siteB_f4 h4)] | rw [siteC_no hn (siteB_f5 h5)] | rw [siteC_no hn (siteB_f6 h6)] | rw [siteC_no hn (siteB_f7 h7)]) <;>
    (go_enter Try.func17, Try.ntmps17
     go_wp2_with (first | (go_at_call 15; refine (Name_b _ _ HS.out).mono ?_; rintro e w' ⟨rfl, rfl⟩) | (go_at_call 58; refine (isCoordinate_any _ _).mono ?_; rintro e w' ⟨rfl, rfl⟩) | (go_at_call 59; refine (isIn_any _ _ _ _).mono ?_; rintro e w' ⟨rfl, rfl⟩))
     go_ret
     exact ⟨rfl, (Below.refl _ _).alloc (Nat.le_refl _) _⟩)

set_option maxHeartbeats 8000000 in
theorem refCheckSite_any (nm : ByteArray) (x y z rose gates step width : Int) (w : World) (hs : nm.size ≤ maxLen) :
    Calls Try.prog 18 #[.agg #[.string nm, .int .i64 x, .int .i64 y, .int .i64 z, .int .i64 rose, .int .i64 gates, .int .i64 step, .int .i64 width]] w
      fun e w' => e = .returned (.int .i64 (siteC nm x y z rose gates step width)) ∧ Below w.heap.size w w' := by
  have HS := Lib.hid hs
  clear hs
  cases hn : nameB nm
  · rw [siteC_name hn]
    go_enter Try.func18, Try.ntmps18
    go_wp2_with (go_at_call 16; refine (refName_b _ _ HS.out).mono ?_; rintro e w' ⟨rfl, rfl⟩)
    go_ret
    exact ⟨rfl, (Below.refl _ _).alloc (Nat.le_refl _) _⟩
  · rcases seven (inB x (-1048576) 1048576) (inB y (-1048576) 1048576) (inB z 0 20000) (inB rose 1 90) (inB gates 1 200) (inB step 50 2000) (inB width 0 8) with h1 | ⟨h1, h2⟩ | ⟨h1, h2, h3⟩ | ⟨h1, h2, h3, h4⟩ | ⟨h1, h2, h3, h4, h5⟩ | ⟨h1, h2, h3, h4, h5, h6⟩ | ⟨h1, h2, h3, h4, h5, h6, h7⟩ | ⟨h1, h2, h3, h4, h5, h6, h7⟩ <;>
    (first | rw [siteC_ok hn (siteB_ok h1 h2 h3 h4 h5 h6 h7)] | rw [siteC_no hn (siteB_f1 h1)] | rw [siteC_no hn (siteB_f2 h2)] | rw [siteC_no hn (siteB_f3 h3)] | rw [siteC_no hn (siteB_f4 h4)] | rw [siteC_no hn (siteB_f5 h5)] | rw [siteC_no hn (siteB_f6 h6)] | rw [siteC_no hn (siteB_f7 h7)]) <;>
    (go_enter Try.func18, Try.ntmps18
     go_wp2_with (first | (go_at_call 16; refine (refName_b _ _ HS.out).mono ?_; rintro e w' ⟨rfl, rfl⟩) | (go_at_call 60; refine (refIn_any _ _ _ _).mono ?_; rintro e w' ⟨rfl, rfl⟩))
     go_ret
     exact ⟨rfl, (Below.refl _ _).alloc (Nat.le_refl _) _⟩)

/-- the answer of CheckGrid -/
def gridB (x y size wide high : Int) : Bool :=
  inB x (-1048576) 1048576 && inB y (-1048576) 1048576 && inB size 1 10000 && inB wide 1 64 && inB high 1 64
def gridC (x y size wide high : Int) : Int := if gridB x y size wide high = true then 0 else 3
theorem gridC_ok {x y size wide high : Int} (h : gridB x y size wide high = true) : gridC x y size wide high = 0 := by unfold gridC; rw [h]; rfl
theorem gridC_no {x y size wide high : Int} (h : gridB x y size wide high = false) : gridC x y size wide high = 3 := by unfold gridC; rw [h]; rfl
theorem gridB_f1 {x y size wide high : Int} (h : inB x (-1048576) 1048576 = false) : gridB x y size wide high = false := by unfold gridB; rw [h]; simp
theorem gridB_f2 {x y size wide high : Int} (h : inB y (-1048576) 1048576 = false) : gridB x y size wide high = false := by unfold gridB; rw [h]; simp
theorem gridB_f3 {x y size wide high : Int} (h : inB size 1 10000 = false) : gridB x y size wide high = false := by unfold gridB; rw [h]; simp
theorem gridB_f4 {x y size wide high : Int} (h : inB wide 1 64 = false) : gridB x y size wide high = false := by unfold gridB; rw [h]; simp
theorem gridB_f5 {x y size wide high : Int} (h : inB high 1 64 = false) : gridB x y size wide high = false := by unfold gridB; rw [h]; simp
theorem gridB_ok {x y size wide high : Int} (h1 : inB x (-1048576) 1048576 = true) (h2 : inB y (-1048576) 1048576 = true) (h3 : inB size 1 10000 = true) (h4 : inB wide 1 64 = true) (h5 : inB high 1 64 = true) : gridB x y size wide high = true := by unfold gridB; rw [h1, h2, h3, h4, h5]; rfl

set_option maxHeartbeats 8000000 in
theorem refCheckGrid_any (x y size wide high : Int) (w : World) :
    Calls Try.prog 20 #[.agg #[.int .i64 x, .int .i64 y, .int .i64 size, .int .i64 wide, .int .i64 high]] w
      fun e w' => e = .returned (.int .i64 (gridC x y size wide high)) ∧ Below w.heap.size w w' := by
  rcases five (inB x (-1048576) 1048576) (inB y (-1048576) 1048576) (inB size 1 10000) (inB wide 1 64) (inB high 1 64) with h1 | ⟨h1, h2⟩ | ⟨h1, h2, h3⟩ | ⟨h1, h2, h3, h4⟩ | ⟨h1, h2, h3, h4, h5⟩ | ⟨h1, h2, h3, h4, h5⟩ <;>
  (first | rw [gridC_ok (gridB_ok h1 h2 h3 h4 h5)] | rw [gridC_no (gridB_f1 h1)] | rw [gridC_no (gridB_f2 h2)] | rw [gridC_no (gridB_f3 h3)] | rw [gridC_no (gridB_f4 h4)] | rw [gridC_no (gridB_f5 h5)]) <;>
  (go_enter Try.func20, Try.ntmps20
   go_wp2_with (go_at_call 60; refine (refIn_any _ _ _ _).mono ?_; rintro e w' ⟨rfl, rfl⟩)
   go_ret
   exact ⟨rfl, (Below.refl _ _).alloc (Nat.le_refl _) _⟩)

set_option maxHeartbeats 8000000 in
theorem CheckGrid_any (x y size wide high : Int) (w : World) :
    Calls Try.prog 19 #[.agg #[.int .i64 x, .int .i64 y, .int .i64 size, .int .i64 wide, .int .i64 high]] w
      fun e w' => e = .returned (.int .i64 (gridC x y size wide high)) ∧ Below w.heap.size w w' := by
  rcases two (inB x (-1048576) 1048576) (inB y (-1048576) 1048576) with h1 | ⟨h1, h2⟩ | ⟨h1, h2⟩ <;>
  rcases three (inB size 1 10000) (inB wide 1 64) (inB high 1 64) with h3 | ⟨h3, h4⟩ | ⟨h3, h4, h5⟩ | ⟨h3, h4, h5⟩ <;>
  (first | rw [gridC_ok (gridB_ok h1 h2 h3 h4 h5)] | rw [gridC_no (gridB_f1 h1)] | rw [gridC_no (gridB_f2 h2)] | rw [gridC_no (gridB_f3 h3)] | rw [gridC_no (gridB_f4 h4)] | rw [gridC_no (gridB_f5 h5)]) <;>
  (go_enter Try.func19, Try.ntmps19
   go_wp2_with (first | (go_at_call 58; refine (isCoordinate_any _ _).mono ?_; rintro e w' ⟨rfl, rfl⟩) | (go_at_call 59; refine (isIn_any _ _ _ _).mono ?_; rintro e w' ⟨rfl, rfl⟩))
   go_ret
   exact ⟨rfl, (Below.refl _ _).alloc (Nat.le_refl _) _⟩)

end Go.Proofs.Ythnjfnapjpdchaa

namespace Go.Proofs.Ythnjfnapjpdchaa
open Go.RowKit

theorem bcell {B : Nat} {W w1 : World} (hb : Below B W w1) : (∀ b o, b < B → w1.cell? ⟨b, o, none⟩ = W.cell? ⟨b, o, none⟩) ∧ (∀ b o, b < B → w1.frozen? ⟨b, o, none⟩ = W.frozen? ⟨b, o, none⟩) :=
  ⟨fun b o h => hb.cell (p := ⟨b, o, none⟩) h, fun b o h => hb.frozen (p := ⟨b, o, none⟩) h⟩

theorem keepB {B b o : Nat} {W w1 : World} {v : Value} (hb : Below B W w1) (h : b < B) (hc : W.cell? ⟨b, o, none⟩ = some v) : w1.cell? ⟨b, o, none⟩ = some v := by
  rw [hb.cell (p := ⟨b, o, none⟩) h]; exact hc

theorem keepF {B b o : Nat} {W w1 : World} {v : Bool} (hb : Below B W w1) (h : b < B) (hc : W.frozen? ⟨b, o, none⟩ = v) : w1.frozen? ⟨b, o, none⟩ = v := by
  rw [hb.frozen (p := ⟨b, o, none⟩) h]; exact hc

/-- what a cell holds, behind a name -/
def cellAt (w : World) (a : Addr) : Value := (w.cell? a).getD (.bool false)
theorem cellAt_mk {w : World} {a : Addr} {v : Value} (h : w.cell? a = some v) : w.cell? a = some (cellAt w a) := by unfold cellAt; rw [h]; rfl
theorem keepA {B b o : Nat} {W w1 : World} (hb : Below B W w1) (h : b < B) (hc : W.cell? ⟨b, o, none⟩ = some (cellAt W ⟨b, o, none⟩)) : w1.cell? ⟨b, o, none⟩ = some (cellAt w1 ⟨b, o, none⟩) :=
  cellAt_mk (keepB hb h hc)
theorem cellAt_set {w : World} {p q : Addr} {x : Value} (h : w.cell? q = some (cellAt w q)) : (w.setCell p x).cell? q = some (cellAt (w.setCell p x) q) := by
  obtain ⟨v', h'⟩ := cell?_setCell_some (p := p) (x := x) h
  exact cellAt_mk h'

theorem isSome_of_set {w : World} {p q : Addr} {x : Value} (h : ((w.setCell p x).cell? q).isSome = true) : (w.cell? q).isSome = true := by
  unfold World.cell? at *
  simp only [World.setCell, Array.getElem?_modify] at h
  by_cases e : p.block = q.block
  · rw [if_pos e] at h
    cases hq : w.heap[q.block]? with
    | none => rw [hq] at h; exact h
    | some o =>
      rw [hq] at h
      cases o with
      | cells c t f =>
        simp only [Option.map_some] at h
        by_cases hs : q.spot.isSome
        · simp [hs] at h
        · simp only [hs] at h ⊢
          by_cases hp : p.spot.isSome
          · simpa [hp] using h
          · simpa [hp] using h
      | _ => exact h
  · rw [if_neg e] at h; exact h

theorem set_read {w : World} {b i : Nat} {u c0 : Value} (h0 : (w.setCell ⟨b, i, none⟩ u).cell? ⟨b, i, none⟩ = some c0) :
    (w.setCell ⟨b, i, none⟩ u).cell? ⟨b, i, none⟩ = some u :=
  World.cell?_setCell_same' _ _ _ (isSome_of_set (by rw [h0]; rfl))

theorem pair_read {w : World} {b : Nat} {u v c0 c1 : Value} (h0 : ((w.setCell ⟨b, 0, none⟩ u).setCell ⟨b, 1, none⟩ v).cell? ⟨b, 0, none⟩ = some c0)
    (h1 : ((w.setCell ⟨b, 0, none⟩ u).setCell ⟨b, 1, none⟩ v).cell? ⟨b, 1, none⟩ = some c1) :
    ((w.setCell ⟨b, 0, none⟩ u).setCell ⟨b, 1, none⟩ v).cell? ⟨b, 0, none⟩ = some u ∧ ((w.setCell ⟨b, 0, none⟩ u).setCell ⟨b, 1, none⟩ v).cell? ⟨b, 1, none⟩ = some v := by
  have e : (w.setCell ⟨b, 0, none⟩ u).cell? ⟨b, 0, none⟩ = some c0 := by rw [← h0]; exact (World.cell?_setCell_other _ _ _ _ (by simp)).symm
  refine ⟨?_, set_read h1⟩
  rw [World.cell?_setCell_other _ _ _ _ (by simp)]
  exact set_read e

end Go.Proofs.Ythnjfnapjpdchaa
