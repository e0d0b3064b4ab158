/-
  Sites.
-/
import Derived.Test.Ytmojnopgpgnfeaamg25
import Derived.Test.Ytmojnopgpgnfeaamg18
namespace Go.Proofs.Ytmojnopgpgnfeaa
open Go.RowKit

theorem bIn_any (n a b : Int) (w : World) :
    Calls Try.prog 81 #[.int .i64 n, .int .i64 a, .int .i64 b] w fun e w' => e = .returned (.bool (inB n a b)) ∧ w = w' := by
  by_cases h1 : a ≤ n
  · by_cases h2 : n ≤ b
    · have h : inB n a b = true := inB_true.2 ⟨h1, h2⟩
      rw [h]; clear h
      go_enter Try.func81, Try.ntmps81
      go_wp2
      go_ret
      exact ⟨rfl, rfl⟩
    · have h : inB n a b = false := inB_false.2 (by omega)
      rw [h]; clear h
      go_enter Try.func81, Try.ntmps81
      go_wp2
      go_ret
      exact ⟨rfl, rfl⟩
  · have h : inB n a b = false := inB_false.2 (by omega)
    rw [h]; clear h
    go_enter Try.func81, Try.ntmps81
    go_wp2
    go_ret
    exact ⟨rfl, rfl⟩


theorem bCo_any (n : Int) (w : World) :
    Calls Try.prog 80 #[.int .i64 n] w fun e w' => e = .returned (.bool (inB n (-1048576) 1048576)) ∧ w = w' := by
  go_enter Try.func80, Try.ntmps80
  go_wp2_with (go_at_call 81; refine (bIn_any _ _ _ _).mono ?_; rintro e w' ⟨rfl, rfl⟩)
  go_ret
  exact ⟨rfl, rfl⟩



noncomputable def nameB (s : ByteArray) : Bool := @decide (nameP s) (Classical.propDecidable _)
theorem nameB_true {s : ByteArray} : nameB s = true ↔ nameP s := by unfold nameB; exact @decide_eq_true_iff _ (Classical.propDecidable _)

theorem NameRet_b {s : ByteArray} {w w' : World} {e : Ending} (h : NameRet s w e w') : e = .returned (.bool (nameB s)) ∧ w = w' := by
  obtain ⟨b, rfl, hb, hw⟩ := h
  refine ⟨?_, hw⟩
  have : b = nameB s := by rw [Bool.eq_iff_iff, hb, nameB_true]
  rw [this]

theorem Name_b (s : ByteArray) (w : World) (hs : s.size ≤ maxLen) :
    Calls Try.prog 79 #[.string s] w fun e w' => e = .returned (.bool (nameB s)) ∧ w = w' := (Name_any s w hs).mono fun _ _ h => NameRet_b h
theorem refName_b (s : ByteArray) (w : World) (hs : s.size ≤ maxLen) :
    Calls Try.prog 82 #[.string s] w fun e w' => e = .returned (.bool (nameB s)) ∧ w = w' := (refName_any s w hs).mono fun _ _ h => NameRet_b h

/-- the numbers of a site are within their ranges -/
def siteB (x y z rose gates step width : Int) : Bool :=
  inB x (-1048576) 1048576 && inB y (-1048576) 1048576 && inB z 0 20000 && inB rose 1 90 && inB gates 1 200 && inB step 50 2000 && inB width 0 8
/-- the answer of CheckSite -/
noncomputable def siteC (nm : ByteArray) (x y z rose gates step width : Int) : Int :=
  if nameB nm = true then (if siteB x y z rose gates step width = true then 0 else 3) else 10

theorem siteC_name {nm : ByteArray} {x y z rose gates step width : Int} (h : nameB nm = false) : siteC nm x y z rose gates step width = 10 := by unfold siteC; rw [h]; rfl
theorem siteC_ok {nm : ByteArray} {x y z rose gates step width : Int} (h : nameB nm = true) (h1 : siteB x y z rose gates step width = true) : siteC nm x y z rose gates step width = 0 := by unfold siteC; rw [h, h1]; rfl
theorem siteC_no {nm : ByteArray} {x y z rose gates step width : Int} (h : nameB nm = true) (h1 : siteB x y z rose gates step width = false) : siteC nm x y z rose gates step width = 3 := by unfold siteC; rw [h, h1]; rfl

theorem siteB_f1 {x y z rose gates step width : Int} (h : inB x (-1048576) 1048576 = false) : siteB x y z rose gates step width = false := by unfold siteB; rw [h]; simp
theorem siteB_f2 {x y z rose gates step width : Int} (h : inB y (-1048576) 1048576 = false) : siteB x y z rose gates step width = false := by unfold siteB; rw [h]; simp
theorem siteB_f3 {x y z rose gates step width : Int} (h : inB z 0 20000 = false) : siteB x y z rose gates step width = false := by unfold siteB; rw [h]; simp
theorem siteB_f4 {x y z rose gates step width : Int} (h : inB rose 1 90 = false) : siteB x y z rose gates step width = false := by unfold siteB; rw [h]; simp
theorem siteB_f5 {x y z rose gates step width : Int} (h : inB gates 1 200 = false) : siteB x y z rose gates step width = false := by unfold siteB; rw [h]; simp
theorem siteB_f6 {x y z rose gates step width : Int} (h : inB step 50 2000 = false) : siteB x y z rose gates step width = false := by unfold siteB; rw [h]; simp
theorem siteB_f7 {x y z rose gates step width : Int} (h : inB width 0 8 = false) : siteB x y z rose gates step width = false := by unfold siteB; rw [h]; simp
theorem siteB_ok {x y z rose gates step width : Int} (h1 : inB x (-1048576) 1048576 = true) (h2 : inB y (-1048576) 1048576 = true) (h3 : inB z 0 20000 = true) (h4 : inB rose 1 90 = true) (h5 : inB gates 1 200 = true) (h6 : inB step 50 2000 = true) (h7 : inB width 0 8 = true) : siteB x y z rose gates step width = true := by unfold siteB; rw [h1, h2, h3, h4, h5, h6, h7]; rfl

theorem bthree (a b c : Bool) : a = false ∨ (a = true ∧ b = false) ∨ (a = true ∧ b = true ∧ c = false) ∨ (a = true ∧ b = true ∧ c = true) := by cases a <;> cases b <;> cases c <;> simp
theorem btwo (a b : Bool) : a = false ∨ (a = true ∧ b = false) ∨ (a = true ∧ b = true) := by cases a <;> cases b <;> simp
theorem bfive (a b c d e : Bool) : (a = false) ∨ (a = true ∧ b = false) ∨ (a = true ∧ b = true ∧ c = false) ∨ (a = true ∧ b = true ∧ c = true ∧ d = false) ∨ (a = true ∧ b = true ∧ c = true ∧ d = true ∧ e = false) ∨ (a = true ∧ b = true ∧ c = true ∧ d = true ∧ e = true) := by cases a <;> cases b <;> cases c <;> cases d <;> cases e <;> simp
theorem bseven (a b c d e f g : Bool) : (a = false) ∨ (a = true ∧ b = false) ∨ (a = true ∧ b = true ∧ c = false) ∨ (a = true ∧ b = true ∧ c = true ∧ d = false) ∨ (a = true ∧ b = true ∧ c = true ∧ d = true ∧ e = false) ∨ (a = true ∧ b = true ∧ c = true ∧ d = true ∧ e = true ∧ f = false) ∨ (a = true ∧ b = true ∧ c = true ∧ d = true ∧ e = true ∧ f = true ∧ g = false) ∨ (a = true ∧ b = true ∧ c = true ∧ d = true ∧ e = true ∧ f = true ∧ g = true) := by cases a <;> cases b <;> cases c <;> cases d <;> cases e <;> cases f <;> cases g <;> simp

set_option maxHeartbeats 8000000 in
theorem CheckSite_any (nm : ByteArray) (x y z rose gates step width : Int) (w : World) (hs : nm.size ≤ maxLen) :
    Calls Try.prog 55 #[.agg #[.string nm, .int .i64 x, .int .i64 y, .int .i64 z, .int .i64 rose, .int .i64 gates, .int .i64 step, .int .i64 width]] w
      fun e w' => e = .returned (.int .i64 (siteC nm x y z rose gates step width)) ∧ Below w.heap.size w w' := by
  have HS := Lib.hid hs
  clear hs
  cases hn : nameB nm
  · rw [siteC_name hn]
    go_enter Try.func55, Try.ntmps55
    go_wp2_with (go_at_call 79; refine (Name_b _ _ HS.out).mono ?_; rintro e w' ⟨rfl, rfl⟩)
    go_ret
    exact ⟨rfl, (Below.refl _ _).alloc (Nat.le_refl _) _⟩
  · rcases bthree (inB x (-1048576) 1048576) (inB y (-1048576) 1048576) (inB z 0 20000) with h1 | ⟨h1, h2⟩ | ⟨h1, h2, h3⟩ | ⟨h1, h2, h3⟩ <;>
    rcases btwo (inB rose 1 90) (inB width 0 8) with h4 | ⟨h4, h7⟩ | ⟨h4, h7⟩ <;>
    rcases btwo (inB gates 1 200) (inB step 50 2000) with h5 | ⟨h5, h6⟩ | ⟨h5, h6⟩ <;>
    (first | rw [siteC_ok hn (siteB_ok h1 h2 h3 h4 h5 h6 h7)] | rw [siteC_no hn (siteB_f1 h1)] | rw [siteC_no hn (siteB_f2 h2)] | rw [siteC_no hn (siteB_f3 h3)] | rw [siteC_no hn (siteB_f4 h4)] | rw [siteC_no hn (siteB_f5 h5)] | rw [siteC_no hn (siteB_f6 h6)] | rw [siteC_no hn (siteB_f7 h7)]) <;>
    (go_enter Try.func55, Try.ntmps55
     go_wp2_with (first | (go_at_call 79; refine (Name_b _ _ HS.out).mono ?_; rintro e w' ⟨rfl, rfl⟩) | (go_at_call 80; refine (bCo_any _ _).mono ?_; rintro e w' ⟨rfl, rfl⟩) | (go_at_call 81; refine (bIn_any _ _ _ _).mono ?_; rintro e w' ⟨rfl, rfl⟩))
     go_ret
     exact ⟨rfl, (Below.refl _ _).alloc (Nat.le_refl _) _⟩)

set_option maxHeartbeats 8000000 in
theorem refCheckSite_any (nm : ByteArray) (x y z rose gates step width : Int) (w : World) (hs : nm.size ≤ maxLen) :
    Calls Try.prog 57 #[.agg #[.string nm, .int .i64 x, .int .i64 y, .int .i64 z, .int .i64 rose, .int .i64 gates, .int .i64 step, .int .i64 width]] w
      fun e w' => e = .returned (.int .i64 (siteC nm x y z rose gates step width)) ∧ Below w.heap.size w w' := by
  have HS := Lib.hid hs
  clear hs
  cases hn : nameB nm
  · rw [siteC_name hn]
    go_enter Try.func57, Try.ntmps57
    go_wp2_with (go_at_call 82; refine (refName_b _ _ HS.out).mono ?_; rintro e w' ⟨rfl, rfl⟩)
    go_ret
    exact ⟨rfl, (Below.refl _ _).alloc (Nat.le_refl _) _⟩
  · rcases bseven (inB x (-1048576) 1048576) (inB y (-1048576) 1048576) (inB z 0 20000) (inB rose 1 90) (inB gates 1 200) (inB step 50 2000) (inB width 0 8) with h1 | ⟨h1, h2⟩ | ⟨h1, h2, h3⟩ | ⟨h1, h2, h3, h4⟩ | ⟨h1, h2, h3, h4, h5⟩ | ⟨h1, h2, h3, h4, h5, h6⟩ | ⟨h1, h2, h3, h4, h5, h6, h7⟩ | ⟨h1, h2, h3, h4, h5, h6, h7⟩ <;>
    (first | rw [siteC_ok hn (siteB_ok h1 h2 h3 h4 h5 h6 h7)] | rw [siteC_no hn (siteB_f1 h1)] | rw [siteC_no hn (siteB_f2 h2)] | rw [siteC_no hn (siteB_f3 h3)] | rw [siteC_no hn (siteB_f4 h4)] | rw [siteC_no hn (siteB_f5 h5)] | rw [siteC_no hn (siteB_f6 h6)] | rw [siteC_no hn (siteB_f7 h7)]) <;>
    (go_enter Try.func57, Try.ntmps57
     go_wp2_with (first | (go_at_call 82; refine (refName_b _ _ HS.out).mono ?_; rintro e w' ⟨rfl, rfl⟩) | (go_at_call 48; refine (refIn_any _ _ _ _).mono ?_; rintro e w' ⟨rfl, rfl⟩))
     go_ret
     exact ⟨rfl, (Below.refl _ _).alloc (Nat.le_refl _) _⟩)
end Go.Proofs.Ytmojnopgpgnfeaa

namespace Go.Proofs.Ytmojnopgpgnfeaa
open Go.RowKit
set_option linter.unusedVariables false
set_option linter.unusedSimpArgs false

/-- the first number that is not 0, of the first k -/
def fstN (f : Nat → Int) : Nat → Int
  | 0 => 0
  | k + 1 => if fstN f k = 0 then f k else fstN f k
theorem fstN_hit {f : Nat → Int} {k : Nat} (h : fstN f k = 0) : fstN f (k + 1) = f k := by rw [fstN, if_pos h]
theorem fstN_stay {f : Nat → Int} {e : Int} (he : e ≠ 0) : ∀ {n k : Nat}, fstN f k = e → k ≤ n → fstN f n = e
  | 0, k, h, hk => by
    have : k = 0 := by omega
    subst this; exact h
  | n + 1, k, h, hk => by
    by_cases c : k = n + 1
    · subst c; exact h
    · have h2 := fstN_stay he h (show k ≤ n by omega)
      rw [fstN, if_neg (by rw [h2]; exact he)]; exact h2
theorem fstN_found {f : Nat → Int} {n k : Nat} (h : fstN f k = 0) (he : f k ≠ 0) (hk : k < n) : fstN f n = f k := fstN_stay he (fstN_hit h) hk
theorem fstN_same {f g : Nat → Int} : ∀ {n : Nat}, (∀ k, k < n → f k = g k) → fstN f n = fstN g n
  | 0, _ => rfl
  | n + 1, h => by rw [fstN, fstN, fstN_same (n := n) fun k hk => h k (by omega), h n (by omega)]

/-- the error of an echo, by its numbers -/
def ecC (xs : Nat → Int) : Int := echoC (xs 0) (xs 1) (xs 2) (xs 3) (xs 4) (xs 5) (xs 6) (xs 7) (xs 8) (xs 9) (xs 10) (xs 11) (xs 12) (xs 13)
/-- the error of a ray's echoes -/
def rayC (r : RayD) : Int := fstN (fun i => ecC (r.xs i)) r.len
def longB (rs : Nat → RayD) (gates : Int) : Nat → Bool
  | 0 => true
  | k + 1 => longB rs gates k && decide (((rs k).len : Int) = gates)
theorem longB_no {rs : Nat → RayD} {gates : Int} {k : Nat} (h : ¬ ((rs k).len : Int) = gates) : ∀ {n : Nat}, k < n → longB rs gates n = false
  | n + 1, hk => by
    rw [longB]
    by_cases c : k = n
    · subst c; rw [decide_eq_false h, Bool.and_false]
    · rw [longB_no h (show k < n by omega), Bool.false_and]
theorem longB_at {rs : Nat → RayD} {gates : Int} {k : Nat} : ∀ {n : Nat}, longB rs gates n = true → k < n → ((rs k).len : Int) = gates
  | n + 1, h, hk => by
    rw [longB, Bool.and_eq_true, decide_eq_true_eq] at h
    by_cases c : k = n
    · subst c; exact h.2
    · exact longB_at h.1 (by omega)
def shapeB (rose gates : Int) (n : Nat) (rs : Nat → RayD) : Bool := decide ((n : Int) = 4 * rose) && longB rs gates n
/-- the error of a sweep -/
noncomputable def sweepC (nm : ByteArray) (x y z rose gates step width tilt time : Int) (n : Nat) (rs : Nat → RayD) : Int :=
  if siteC nm x y z rose gates step width = 0 then (if (inB tilt 0 256 && inB time 0 4294967296) = true then (if shapeB rose gates n rs = true then fstN (fun i => rayC (rs i)) n else 11) else 3) else siteC nm x y z rose gates step width
theorem siteC_rose {nm : ByteArray} {x y z rose gates step width : Int} (h : siteC nm x y z rose gates step width = 0) : (1 ≤ rose ∧ rose ≤ 90) ∧ (1 ≤ gates ∧ gates ≤ 200) := by
  unfold siteC at h
  split at h
  · split at h
    · rename_i h2
      unfold siteB at h2
      simp only [Bool.and_eq_true, inB_true] at h2
      exact ⟨h2.1.1.1.2, h2.1.1.2⟩
    · omega
  · omega

/-- a sweep in its box -/
structure SwAt (w : World) (B : Nat) (nm : ByteArray) (x y z rose gates step width tilt time : Int) (a : Option Addr) (n cap : Nat) : Prop where
  c0 : w.cell? ⟨B, 0, none⟩ = some (.string nm)
  c1 : w.cell? ⟨B, 1, none⟩ = some (.int .i64 x)
  c2 : w.cell? ⟨B, 2, none⟩ = some (.int .i64 y)
  c3 : w.cell? ⟨B, 3, none⟩ = some (.int .i64 z)
  c4 : w.cell? ⟨B, 4, none⟩ = some (.int .i64 rose)
  c5 : w.cell? ⟨B, 5, none⟩ = some (.int .i64 gates)
  c6 : w.cell? ⟨B, 6, none⟩ = some (.int .i64 step)
  c7 : w.cell? ⟨B, 7, none⟩ = some (.int .i64 width)
  c8 : w.cell? ⟨B, 8, none⟩ = some (.int .i64 tilt)
  c9 : w.cell? ⟨B, 9, none⟩ = some (.int .i64 time)
  c10 : w.cell? ⟨B, 10, none⟩ = some (.slice a n cap)
theorem SwAt.new (nm : ByteArray) (x y z rose gates step width tilt time : Int) (a : Option Addr) (n cap : Nat) (w : World) : SwAt (w.alloc (.cells #[.string nm, .int .i64 x, .int .i64 y, .int .i64 z, .int .i64 rose, .int .i64 gates, .int .i64 step, .int .i64 width, .int .i64 tilt, .int .i64 time, .slice a n cap] 46)) w.heap.size nm x y z rose gates step width tilt time a n cap :=
  ⟨alloc_new rfl rfl, alloc_new rfl rfl, alloc_new rfl rfl, alloc_new rfl rfl, alloc_new rfl rfl, alloc_new rfl rfl, alloc_new rfl rfl, alloc_new rfl rfl, alloc_new rfl rfl, alloc_new rfl rfl, alloc_new rfl rfl⟩
theorem SwAt.keep {C B : Nat} {W w1 : World} {nm : ByteArray} {x y z rose gates step width tilt time : Int} {a : Option Addr} {n cap : Nat} (s : SwAt W B nm x y z rose gates step width tilt time a n cap) (hb : Below C W w1) (h : B < C) : SwAt w1 B nm x y z rose gates step width tilt time a n cap :=
  ⟨keepB hb h s.c0, keepB hb h s.c1, keepB hb h s.c2, keepB hb h s.c3, keepB hb h s.c4, keepB hb h s.c5, keepB hb h s.c6, keepB hb h s.c7, keepB hb h s.c8, keepB hb h s.c9, keepB hb h s.c10⟩

set_option maxRecDepth 100000 in
set_option maxHeartbeats 4000000 in
theorem isShaped_any (nm : ByteArray) (x y z rose gates step width tilt time : Int) (a : Option Addr) (n cap : Nat) (rs : Nat → RayD) (w : World) (hn : n ≤ maxLen) (hr : 1 ≤ rose ∧ rose ≤ 90) (hR : RaysIs w a n rs) :
    Calls Try.prog 56 #[.agg #[.string nm, .int .i64 x, .int .i64 y, .int .i64 z, .int .i64 rose, .int .i64 gates, .int .i64 step, .int .i64 width, .int .i64 tilt, .int .i64 time, .slice a n cap]] w fun e w' => e = .returned (.bool (shapeB rose gates n rs)) ∧ Below w.heap.size w w' := by
  have hmaxl : maxLen = 9223372036854775807 := rfl
  have i1 : IntKind.i64.wrap (4 * rose) = 4 * rose := IntWalk.i64_in _ (by omega)
  obtain ⟨U, hU⟩ : ∃ U, U = w.alloc (.cells #[.string nm, .int .i64 x, .int .i64 y, .int .i64 z, .int .i64 rose, .int .i64 gates, .int .i64 step, .int .i64 width, .int .i64 tilt, .int .i64 time, .slice a n cap] 46) := ⟨_, rfl⟩
  have hS : SwAt U w.heap.size nm x y z rose gates step width tilt time a n cap := by rw [hU]; exact SwAt.new nm x y z rose gates step width tilt time a n cap w
  have bU : Below w.heap.size w U := by rw [hU]; exact below_alloc _ _
  obtain ⟨r, hr0⟩ : ∃ r, r = shapeB rose gates n rs := ⟨_, rfl⟩
  rw [← hr0]
  have HR := Lib.hid hr0
  clear hr0
  obtain ⟨c0, c1, c2, c3, c4, c5, c6, c7, c8, c9, c10⟩ := hS
  by_cases h4 : (n : Int) = 4 * rose
  · have e1 : ((n : Int) != 4 * rose) = false := by simpa using h4
    have e2 : ((n : Int) == 4 * rose) = true := by simpa using h4
    have hn0 : 1 ≤ n := by omega
    rcases hR with h | ⟨b, off, rfl, hb, hc⟩
    · omega
    have HC := Lib.hid hc
    have HB := Lib.hid bU
    have hRR := Lib.hid (show r = longB rs gates n by rw [HR.out]; unfold shapeB; rw [decide_eq_true h4, Bool.true_and])
    have hbU : b < U.heap.size := Nat.lt_of_lt_of_le hb bU.size
    have hn3 : n ≤ 360 := by omega
    clear hc bU h4 HR
    go_enter Try.func56, Try.ntmps56
    go_wp2_with fail
    rw [← hU]
    clear hU
    go_wp2
    go_loopw [16] (fun i wr => ∃ k : Nat, k ≤ n ∧ i = .int .i64 k ∧ U = wr ∧ longB rs gates k = true) (fun i _ => n - (intOf i).toNat)
    case atStart => exact ⟨0, Nat.zero_le _, rfl, rfl, rfl⟩
    case round =>
      obtain ⟨k, hk, rfl, rfl, hall⟩ := hrel
      have HA := Lib.hid hall
      clear hall
      by_cases hlt : k < n
      · obtain ⟨zk, zl, zx⟩ := HC.out k hlt
        obtain ⟨ra, hra⟩ : ∃ v, v = (rs k).a := ⟨_, rfl⟩
        obtain ⟨rl, hrl⟩ : ∃ v, v = (rs k).len := ⟨_, rfl⟩
        obtain ⟨rc, hrc⟩ : ∃ v, v = (rs k).cap := ⟨_, rfl⟩
        rw [← hra, ← hrl, ← hrc] at zk
        rw [← hrl] at zl
        have z := keepB HB.out hb zk
        by_cases hg : (rl : Int) = gates
        · have e3 : ((rl : Int) != gates) = false := by simpa using hg
          have e4 : ((rl : Int) == gates) = true := by simpa using hg
          have HN := Lib.hid (show longB rs gates (k + 1) = true by rw [longB, HA.out, ← hrl, decide_eq_true hg]; rfl)
          clear hra hrl hrc hg zx zk
          go_wp2
          go_roundw
          case rel => exact ⟨k + 1, by omega, by go_num, (by trivial), HN.out⟩
          case measure => simp [intOf]; omega
        · have e3 : ((rl : Int) != gates) = true := by simpa using hg
          have e4 : ((rl : Int) == gates) = false := by simpa using hg
          have HN := Lib.hid (show r = false by rw [hRR.out]; exact longB_no (by rw [← hrl]; exact hg) hlt)
          clear hra hrl hrc hg zx zk
          go_wp2
          go_ret
          (rw [HN.out]; exact ⟨rfl, HB.out⟩)
      · obtain rfl : k = n := by omega
        have HN := Lib.hid (show r = true by rw [hRR.out]; exact HA.out)
        go_wp2
        go_ret
        (rw [HN.out]; exact ⟨rfl, HB.out⟩)
  · have e1 : ((n : Int) != 4 * rose) = true := by simpa using h4
    have e2 : ((n : Int) == 4 * rose) = false := by simpa using h4
    have HB := Lib.hid bU
    have HN := Lib.hid (show r = false by rw [HR.out]; unfold shapeB; rw [decide_eq_false h4, Bool.false_and])
    clear bU h4 HR hR
    go_enter Try.func56, Try.ntmps56
    go_wp2_with fail
    rw [← hU]
    clear hU
    go_wp2
    go_ret
    (rw [HN.out]; exact ⟨rfl, HB.out⟩)

end Go.Proofs.Ytmojnopgpgnfeaa
