/-
  RainSums, walked.
-/
import Derived.Test.YtdmbkhmhaininaaRUx
import Derived.Test.YtdmbkhmhaininaaWK
import Derived.Test.YtdmbkhmhaininaaP
namespace Go.Proofs.Ytdmbkhmhaininaa
open Go.RowKit
set_option linter.unusedVariables false
set_option linter.unusedSimpArgs false

theorem info59 : (Try.prog.info? 59).map (fun i => (i.zero, i.size, i.bytes)) = some (some (.agg #[.int .i64 0, .int .i64 0, .int .i64 0]), 3, 24) := by kernel_rfl
/-- readings in a row, one behind the other -/
def rcv (rs : Nat → Rc) : Nat → List Value
  | 0 => []
  | j + 1 => rcv rs j ++ [.int .i64 (rs j).t, .int .i64 (rs j).lo, .int .i64 (rs j).hi]
theorem rcv_len (rs : Nat → Rc) (j : Nat) : (rcv rs j).length = j * 3 := by
  induction j with
  | zero => rfl
  | succ j ih => unfold rcv; rw [List.length_append, ih]; simp; omega
theorem rcv_get (rs : Nat → Rc) (n k : Nat) (h : k < n) : (rcv rs n)[k * 3]? = some (.int .i64 (rs k).t) ∧ (rcv rs n)[k * 3 + 1]? = some (.int .i64 (rs k).lo) ∧ (rcv rs n)[k * 3 + 2]? = some (.int .i64 (rs k).hi) := by
  induction n with
  | zero => omega
  | succ n ih =>
    have hl := rcv_len rs n
    by_cases e : k = n
    · subst e
      unfold rcv
      rw [List.getElem?_append_right (by omega), List.getElem?_append_right (by omega), List.getElem?_append_right (by omega), hl]
      refine ⟨by rw [Nat.sub_self]; rfl, by rw [show k * 3 + 1 - k * 3 = 1 by omega]; rfl, by rw [show k * 3 + 2 - k * 3 = 2 by omega]; rfl⟩
    · have := ih (by omega)
      unfold rcv
      rw [List.getElem?_append_left (by omega), List.getElem?_append_left (by omega), List.getElem?_append_left (by omega)]
      exact this
theorem cell_three_new (w : World) (x y z : Value) (t : TypeId) : ∀ j u, [x, y, z][j]? = some u → (w.alloc (.cells #[x, y, z] t)).cell? ((⟨w.heap.size, 0, none⟩ : Addr).add j) = some u := by
  intro j u hj
  match j, hj with
  | 0, hj => simp at hj; subst hj; simp [Addr.add]
  | 1, hj => simp at hj; subst hj; simp [Addr.add]
  | 2, hj => simp at hj; subst hj; simp [Addr.add]
structure RcRel (w wr : World) (k : Nat) (v : Value) (rs : Nat → Rc) : Prop where
  own : wr.ownsRow w.heap.size 59 3 v k (rcv rs k)
  nil : k = 0 → v = .slice none 0 0
  b : Below w.heap.size w wr
theorem own_recs {w : World} {base n : Nat} {v : Value} {rs : Nat → Rc} (h : w.ownsRow base 59 3 v n (rcv rs n)) (h0 : n = 0 → v = .slice none 0 0) : ∃ (a : Option Addr) (cap : Nat), v = .slice a n cap ∧ RecsIs w a n rs := by
  by_cases hn : n = 0
  · subst hn
    exact ⟨none, 0, h0 rfl, .inl rfl⟩
  · obtain ⟨b, cap, rfl, hb1, hb2⟩ := h.form (by omega)
    refine ⟨_, cap, rfl, .inr ⟨b, 0, rfl, hb2, fun i hi => ⟨?_, ?_, ?_⟩⟩⟩
    · rw [Nat.zero_add, h.cellAt (i * 3) (by omega)]; exact (rcv_get _ n i hi).1
    · rw [Nat.zero_add, h.cellAt (i * 3 + 1) (by omega)]; exact (rcv_get _ n i hi).2.1
    · rw [Nat.zero_add, h.cellAt (i * 3 + 2) (by omega)]; exact (rcv_get _ n i hi).2.2
/-- the record of the example -/
def twoR (i : Nat) : Rc := if i = 0 then ⟨0, 360, 360⟩ else ⟨100, 720, 720⟩
theorem two_recs (w : World) : RecsIs (w.alloc (.cells #[.int .i64 0, .int .i64 360, .int .i64 360, .int .i64 100, .int .i64 720, .int .i64 720] 60)) (some ⟨w.heap.size, 0, none⟩) 2 twoR := .inr ⟨w.heap.size, 0, rfl, by rw [World.size_alloc]; omega, fun i hi => by
  match i, hi with
  | 0, _ => exact ⟨alloc_new rfl rfl, alloc_new rfl rfl, alloc_new rfl rfl⟩
  | 1, _ => exact ⟨alloc_new rfl rfl, alloc_new rfl rfl, alloc_new rfl rfl⟩⟩
theorem two_val : (smL 2 twoR 200 100, smH 2 twoR 200 100, smE 2 twoR 200 100) = (270, 440, 0) := by decide +kernel
theorem Sum2 (b : Nat) (w : World) (h : RecsIs w (some ⟨b, 0, none⟩) 2 twoR) : Calls Try.prog 32 #[.slice (some ⟨b, 0, none⟩) 2 2, .int .i64 200, .int .i64 100] w fun e w' => e = .returned (.tuple #[.agg #[.int .i64 270, .int .i64 440], .int .i64 0]) ∧ Below w.heap.size w w' := by
  have hh := Sum_any (some ⟨b, 0, none⟩) 2 2 twoR 200 100 w (by decide) h
  have e := two_val
  simp only [Prod.mk.injEq] at e
  rw [e.1, e.2.1, e.2.2] at hh
  exact hh
set_option maxRecDepth 100000 in
set_option maxHeartbeats 3200000 in
theorem RainSums_big (a : Option Addr) (n cap : Nat) (en sl : Int) (w : World) (hn : 300 < n) (hm : n ≤ maxLen) :
    Calls Try.prog 6 #[.slice a n cap, .int .i64 en, .int .i64 sl] w fun e w' => e = .returned (.bool true) ∧ Below w.heap.size w w' := by
  unfold maxLen at hm
  have d1 : decide (300 < (n : Int)) = true := decide_eq_true (by omega)
  go_enter Try.func6, Try.ntmps6
  go_wp2_with fail
  refine (works_any _).mono ?_; rintro e X ⟨rfl, hbX⟩
  go_wp2
  go_ret
  exact ⟨rfl, hbX⟩

set_option maxRecDepth 100000 in
set_option maxHeartbeats 12800000 in
theorem RainSums_some (a : Option Addr) (b off n cap : Nat) (rs : Nat → Rc) (en sl : Int) (w : World) (hn : n ≤ 300) (hs : RecsAt w b off n rs) (hb : b < w.heap.size) (hr : RecsIs w (some ⟨b, off, none⟩) n rs) :
    Calls Try.prog 6 #[.slice (some ⟨b, off, none⟩) n cap, .int .i64 en, .int .i64 sl] w fun e w' => e = .returned (.bool true) ∧ Below w.heap.size w w' := by
  obtain ⟨i0, hi0, hz0, hz1, hz2⟩ := info_parts info59
  have d1 : decide (300 < ((n : Nat) : Int)) = false := decide_eq_false (by omega)
  have HS1 := Lib.hid (fun W (hW : Below w.heap.size w W) => Sum_any (some ⟨b, off, none⟩) n cap rs en sl W (by omega) (hr.keep hW))
  have HS2 := Lib.hid (fun (ma : Option Addr) (mc : Nat) W (h : RecsIs W ma n rs) => refSum_any ma n mc rs en sl W (by omega) h)
  clear hr
  generalize smL n rs en sl = xl at *
  generalize smH n rs en sl = xh at *
  generalize smE n rs en sl = xe at *
  have HS := Lib.hid hs
  clear hs
  go_enter Try.func6, Try.ntmps6
  go_wp2
  go_loopw [7, 8] (fun v i wr => ∃ k : Nat, k ≤ n ∧ i = .int .i64 k ∧ RcRel w wr k v rs) (fun _ i _ => n - (intOf i).toNat)
  case atStart => exact ⟨0, Nat.zero_le _, rfl, World.ownsRow_nil _ _ _ _, fun _ => rfl, Below.refl _ _⟩
  case round =>
    obtain ⟨k, hk, rfl, hR⟩ := hrel
    have hbw := hR.b
    have hown := hR.own
    have HW := Lib.hid hown
    by_cases hlt : k < n
    · have c0 := keepB hbw hb (HS.out k hlt).1
      have c1 := keepB hbw hb (HS.out k hlt).2.1
      have c2' := keepB hbw hb (HS.out k hlt).2.2
      have hzz := hbw.size
      clear hR
      go_wp2_with (first | (at_builtin; refine wpList_append_own _ rfl _ _ 57 rfl w.heap.size 59 i0 (.agg #[.int .i64 0, .int .i64 0, .int .i64 0]) 3 24 Try.underlying57 hi0 hz0 hz1 hz2 rfl (by decide) _ _ _ rfl (hown.alloc _) ⟨wr.heap.size, 0, none⟩ 1 1 [.int .i64 (rs k).t, .int .i64 (rs k).lo, .int .i64 (rs k).hi] rfl rfl (cell_three_new _ _ _ _ _) ?c2 ?c3 ?c4 ?c5 ?_) | go_in)
      case c2 => intro u hu; simp at hu; rcases hu with rfl | rfl | rfl <;> rfl
      case c3 => unfold maxLen; omega
      case c4 => omega
      case c5 => simp; omega
      · intro v' w7 hown' hgrow _
        have B7 : Below w.heap.size wr w7 := Below.grown ((Below.refl w.heap.size wr).alloc (by omega) _) hgrow (by simp; omega) (fun k hk => (HW.out.lt k hk).1)
        have R7 := Lib.hid (show RcRel w w7 (k + 1) v' rs from ⟨hown', fun h => absurd h (by omega), hbw.trans B7⟩)
        clear hown' hgrow B7
        go_wp2
        go_roundw
        case rel => exact ⟨k + 1, by omega, by go_num, R7.out⟩
        case measure => simp [intOf]; omega
    · have hkn : k = n := by omega
      subst hkn
      have HV := Lib.hid (own_recs hR.own hR.nil)
      clear hR hown HW HS
      obtain ⟨ma, mc, rfl, hmr⟩ := HV.out
      have HMR := Lib.hid hmr
      have bW := Lib.hid hbw
      have b0 := hbw
      clear hmr HV hbw
      go_wp2_with fail
      refine (HS1.out _ b0).mono ?_; rintro e C ⟨rfl, hb1⟩
      have b1 := b0.trans (hb1.mono b0.size)
      have HMR := Lib.hid (HMR.out.keep hb1)
      clear hb1 HS1 b0 bW
      have bb := below_alloc C (.cells #[.int .i64 xl, .int .i64 xh] 24)
      have x0 : (C.alloc (.cells #[.int .i64 xl, .int .i64 xh] 24)).cell? ⟨C.heap.size, 0, none⟩ = some (.int .i64 xl) := alloc_new rfl rfl
      have x1 : (C.alloc (.cells #[.int .i64 xl, .int .i64 xh] 24)).cell? ⟨C.heap.size, 1, none⟩ = some (.int .i64 xh) := alloc_new rfl rfl
      have HMR := Lib.hid (HMR.out.keep bb)
      have b2 := b1.trans (bb.mono b1.size)
      have xz : C.heap.size < (C.alloc (.cells #[.int .i64 xl, .int .i64 xh] 24)).heap.size := by rw [World.size_alloc]; omega
      obtain ⟨D, hD⟩ : ∃ D, D = C.alloc (.cells #[.int .i64 xl, .int .i64 xh] 24) := ⟨_, rfl⟩
      rw [← hD] at x0 x1 HMR b2 xz
      clear bb b1
      go_wp2_with fail
      rw [← hD]
      clear hD
      refine (HS2.out _ _ _ HMR.out).mono ?_; rintro e E ⟨rfl, hb1⟩
      have b3 := b2.trans (hb1.mono b2.size)
      have x0 := keepB hb1 xz x0
      have x1 := keepB hb1 xz x1
      have xz := Nat.lt_of_lt_of_le xz hb1.size
      clear hb1 HS2 HMR b2
      have bb := below_alloc E (.cells #[.int .i64 xl, .int .i64 xh] 24)
      have y0 : (E.alloc (.cells #[.int .i64 xl, .int .i64 xh] 24)).cell? ⟨E.heap.size, 0, none⟩ = some (.int .i64 xl) := alloc_new rfl rfl
      have y1 : (E.alloc (.cells #[.int .i64 xl, .int .i64 xh] 24)).cell? ⟨E.heap.size, 1, none⟩ = some (.int .i64 xh) := alloc_new rfl rfl
      have x0 := keepB bb xz x0
      have x1 := keepB bb xz x1
      have yz : E.heap.size < (E.alloc (.cells #[.int .i64 xl, .int .i64 xh] 24)).heap.size := by rw [World.size_alloc]; omega
      have xz := Nat.lt_of_lt_of_le xz bb.size
      have b4 := b3.trans (bb.mono b3.size)
      obtain ⟨F, hF⟩ : ∃ F, F = E.alloc (.cells #[.int .i64 xl, .int .i64 xh] 24) := ⟨_, rfl⟩
      rw [← hF] at x0 x1 y0 y1 xz yz b4
      clear bb b3
      go_wp2_with fail
      rw [← hF]
      clear hF
      refine (point_any 360 _).mono ?_; rintro e G ⟨rfl, hb1⟩
      have b5 := b4.trans (hb1.mono b4.size)
      have x0 := keepB hb1 xz x0
      have x1 := keepB hb1 xz x1
      have y0 := keepB hb1 yz y0
      have y1 := keepB hb1 yz y1
      have xz := Nat.lt_of_lt_of_le xz hb1.size
      have yz := Nat.lt_of_lt_of_le yz hb1.size
      clear hb1 b4
      go_wp2_with fail
      refine (point_any 720 _).mono ?_; rintro e G2 ⟨rfl, hb1⟩
      have b6 := b5.trans (hb1.mono b5.size)
      have x0 := keepB hb1 xz x0
      have x1 := keepB hb1 xz x1
      have y0 := keepB hb1 yz y0
      have y1 := keepB hb1 yz y1
      have xz := Nat.lt_of_lt_of_le xz hb1.size
      have yz := Nat.lt_of_lt_of_le yz hb1.size
      clear hb1 b5
      have bb := below_alloc G2 (.cells #[.int .i64 0, .int .i64 360, .int .i64 360, .int .i64 100, .int .i64 720, .int .i64 720] 60)
      have h2 := two_recs G2
      have x0 := keepB bb xz x0
      have x1 := keepB bb xz x1
      have y0 := keepB bb yz y0
      have y1 := keepB bb yz y1
      have xz := Nat.lt_of_lt_of_le xz bb.size
      have yz := Nat.lt_of_lt_of_le yz bb.size
      have b7 := b6.trans (bb.mono b6.size)
      obtain ⟨L, hL⟩ : ∃ L, L = G2.alloc (.cells #[.int .i64 0, .int .i64 360, .int .i64 360, .int .i64 100, .int .i64 720, .int .i64 720] 60) := ⟨_, rfl⟩
      rw [← hL] at x0 x1 y0 y1 xz yz b7 h2
      clear bb b6
      go_wp2_with fail
      rw [← hL]
      clear hL
      refine (Sum2 _ _ h2).mono ?_; rintro e M ⟨rfl, hb1⟩
      have x0 := keepB hb1 xz x0
      have x1 := keepB hb1 xz x1
      have y0 := keepB hb1 yz y0
      have y1 := keepB hb1 yz y1
      have xz := Nat.lt_of_lt_of_le xz hb1.size
      have yz := Nat.lt_of_lt_of_le yz hb1.size
      have b8 := b7.trans (hb1.mono b7.size)
      clear hb1 b7 h2
      have b9 := b8.trans ((below_alloc M (.cells #[.int .i64 270, .int .i64 440] 24)).mono b8.size)
      go_wp2_with fail
      refine (works_any _).mono ?_; rintro e G4 ⟨rfl, hb1⟩
      have b10 := b9.trans (hb1.mono b9.size)
      clear hb1
      go_wp2
      go_ret
      exact ⟨rfl, b10⟩

set_option maxRecDepth 100000 in
set_option maxHeartbeats 12800000 in
theorem RainSums_nil (a : Option Addr) (b off n cap : Nat) (rs : Nat → Rc) (en sl : Int) (w : World) (hn : n ≤ 300)  (hr : RecsIs w a 0 rs) :
    Calls Try.prog 6 #[.slice a 0 cap, .int .i64 en, .int .i64 sl] w fun e w' => e = .returned (.bool true) ∧ Below w.heap.size w w' := by
  obtain ⟨i0, hi0, hz0, hz1, hz2⟩ := info_parts info59
  have d1 : decide (300 < ((0 : Nat) : Int)) = false := decide_eq_false (by omega)
  have HS1 := Lib.hid (fun W (hW : Below w.heap.size w W) => Sum_any a 0 cap rs en sl W (by omega) (hr.keep hW))
  have HS2 := Lib.hid (fun (ma : Option Addr) (mc : Nat) W (h : RecsIs W ma 0 rs) => refSum_any ma 0 mc rs en sl W (by omega) h)
  clear hr
  generalize smL 0 rs en sl = xl at *
  generalize smH 0 rs en sl = xh at *
  generalize smE 0 rs en sl = xe at *
  go_enter Try.func6, Try.ntmps6
  go_wp2
  go_loopw [7, 8] (fun v i wr => v = .slice none 0 0 ∧ i = .int .i64 0 ∧ Below w.heap.size w wr) (fun _ i _ => 0)
  case atStart => exact ⟨rfl, rfl, Below.refl _ _⟩
  case round =>
    obtain ⟨rfl, rfl, hbw⟩ := hrel
    have hmr : RecsIs wr (none : Option Addr) 0 rs := .inl rfl
    have HV := Lib.hid hmr
    have HMR := Lib.hid hmr
    have bW := Lib.hid hbw
    have b0 := hbw
    clear hmr HV hbw
    go_wp2_with fail
    refine (HS1.out _ b0).mono ?_; rintro e C ⟨rfl, hb1⟩
    have b1 := b0.trans (hb1.mono b0.size)
    have HMR := Lib.hid (HMR.out.keep hb1)
    clear hb1 HS1 b0 bW
    have bb := below_alloc C (.cells #[.int .i64 xl, .int .i64 xh] 24)
    have x0 : (C.alloc (.cells #[.int .i64 xl, .int .i64 xh] 24)).cell? ⟨C.heap.size, 0, none⟩ = some (.int .i64 xl) := alloc_new rfl rfl
    have x1 : (C.alloc (.cells #[.int .i64 xl, .int .i64 xh] 24)).cell? ⟨C.heap.size, 1, none⟩ = some (.int .i64 xh) := alloc_new rfl rfl
    have HMR := Lib.hid (HMR.out.keep bb)
    have b2 := b1.trans (bb.mono b1.size)
    have xz : C.heap.size < (C.alloc (.cells #[.int .i64 xl, .int .i64 xh] 24)).heap.size := by rw [World.size_alloc]; omega
    obtain ⟨D, hD⟩ : ∃ D, D = C.alloc (.cells #[.int .i64 xl, .int .i64 xh] 24) := ⟨_, rfl⟩
    rw [← hD] at x0 x1 HMR b2 xz
    clear bb b1
    go_wp2_with fail
    rw [← hD]
    clear hD
    refine (HS2.out _ _ _ HMR.out).mono ?_; rintro e E ⟨rfl, hb1⟩
    have b3 := b2.trans (hb1.mono b2.size)
    have x0 := keepB hb1 xz x0
    have x1 := keepB hb1 xz x1
    have xz := Nat.lt_of_lt_of_le xz hb1.size
    clear hb1 HS2 HMR b2
    have bb := below_alloc E (.cells #[.int .i64 xl, .int .i64 xh] 24)
    have y0 : (E.alloc (.cells #[.int .i64 xl, .int .i64 xh] 24)).cell? ⟨E.heap.size, 0, none⟩ = some (.int .i64 xl) := alloc_new rfl rfl
    have y1 : (E.alloc (.cells #[.int .i64 xl, .int .i64 xh] 24)).cell? ⟨E.heap.size, 1, none⟩ = some (.int .i64 xh) := alloc_new rfl rfl
    have x0 := keepB bb xz x0
    have x1 := keepB bb xz x1
    have yz : E.heap.size < (E.alloc (.cells #[.int .i64 xl, .int .i64 xh] 24)).heap.size := by rw [World.size_alloc]; omega
    have xz := Nat.lt_of_lt_of_le xz bb.size
    have b4 := b3.trans (bb.mono b3.size)
    obtain ⟨F, hF⟩ : ∃ F, F = E.alloc (.cells #[.int .i64 xl, .int .i64 xh] 24) := ⟨_, rfl⟩
    rw [← hF] at x0 x1 y0 y1 xz yz b4
    clear bb b3
    go_wp2_with fail
    rw [← hF]
    clear hF
    refine (point_any 360 _).mono ?_; rintro e G ⟨rfl, hb1⟩
    have b5 := b4.trans (hb1.mono b4.size)
    have x0 := keepB hb1 xz x0
    have x1 := keepB hb1 xz x1
    have y0 := keepB hb1 yz y0
    have y1 := keepB hb1 yz y1
    have xz := Nat.lt_of_lt_of_le xz hb1.size
    have yz := Nat.lt_of_lt_of_le yz hb1.size
    clear hb1 b4
    go_wp2_with fail
    refine (point_any 720 _).mono ?_; rintro e G2 ⟨rfl, hb1⟩
    have b6 := b5.trans (hb1.mono b5.size)
    have x0 := keepB hb1 xz x0
    have x1 := keepB hb1 xz x1
    have y0 := keepB hb1 yz y0
    have y1 := keepB hb1 yz y1
    have xz := Nat.lt_of_lt_of_le xz hb1.size
    have yz := Nat.lt_of_lt_of_le yz hb1.size
    clear hb1 b5
    have bb := below_alloc G2 (.cells #[.int .i64 0, .int .i64 360, .int .i64 360, .int .i64 100, .int .i64 720, .int .i64 720] 60)
    have h2 := two_recs G2
    have x0 := keepB bb xz x0
    have x1 := keepB bb xz x1
    have y0 := keepB bb yz y0
    have y1 := keepB bb yz y1
    have xz := Nat.lt_of_lt_of_le xz bb.size
    have yz := Nat.lt_of_lt_of_le yz bb.size
    have b7 := b6.trans (bb.mono b6.size)
    obtain ⟨L, hL⟩ : ∃ L, L = G2.alloc (.cells #[.int .i64 0, .int .i64 360, .int .i64 360, .int .i64 100, .int .i64 720, .int .i64 720] 60) := ⟨_, rfl⟩
    rw [← hL] at x0 x1 y0 y1 xz yz b7 h2
    clear bb b6
    go_wp2_with fail
    rw [← hL]
    clear hL
    refine (Sum2 _ _ h2).mono ?_; rintro e M ⟨rfl, hb1⟩
    have x0 := keepB hb1 xz x0
    have x1 := keepB hb1 xz x1
    have y0 := keepB hb1 yz y0
    have y1 := keepB hb1 yz y1
    have xz := Nat.lt_of_lt_of_le xz hb1.size
    have yz := Nat.lt_of_lt_of_le yz hb1.size
    have b8 := b7.trans (hb1.mono b7.size)
    clear hb1 b7 h2
    have b9 := b8.trans ((below_alloc M (.cells #[.int .i64 270, .int .i64 440] 24)).mono b8.size)
    go_wp2_with fail
    refine (works_any _).mono ?_; rintro e G4 ⟨rfl, hb1⟩
    have b10 := b9.trans (hb1.mono b9.size)
    clear hb1
    go_wp2
    go_ret
    exact ⟨rfl, b10⟩

theorem RainSums_walk (a : Option Addr) (n cap : Nat) (rs : Nat → Rc) (en sl : Int) (w : World) (hm : n ≤ maxLen) (hr : RecsIs w a n rs) (wf1 : (Lit.int .i64 en).wf = true) (wf2 : (Lit.int .i64 sl).wf = true) :
    Calls Try.prog 6 #[.slice a n cap, .int .i64 en, .int .i64 sl] w fun e w' => e = .returned (.bool true) ∧ Below w.heap.size w w' := by
  by_cases h : 300 < n
  · exact RainSums_big a n cap en sl w h hm
  by_cases h0 : n = 0
  · subst h0
    exact RainSums_nil a 0 0 0 cap rs en sl w (by decide) hr
  rcases hr with h1 | ⟨b, off, rfl, hb, hs⟩
  · exact absurd h1 h0
  · exact RainSums_some none b off n cap rs en sl w (by omega) hs hb (.inr ⟨b, off, rfl, hb, hs⟩)

end Go.Proofs.Ytdmbkhmhaininaa
