/-
  The arc of numbers: the code and its reference.
-/
import Derived.Test.Ytmojnopgpgnfeaamg7
import Derived.Test.Ytmojnopgpgnfeaamg6
import Derived.Test.Ytmojnopgpgnfeaamg9
namespace Go.Proofs.Ytmojnopgpgnfeaa
open Go.RowKit
set_option linter.unusedVariables false
set_option linter.unusedSimpArgs false

/-- numbers are parts of a turn, as far as the k-th -/
def allP (f : Nat → Int) : Nat → Bool
  | 0 => true
  | k + 1 => allP f k && inB (f k) 0 65535
theorem allP_true {f : Nat → Int} : ∀ {n : Nat}, allP f n = true ↔ ∀ j, j < n → 0 ≤ f j ∧ f j ≤ 65535
  | 0 => by simp [allP]
  | n + 1 => by
    rw [allP, Bool.and_eq_true, allP_true (n := n), inB_true]
    constructor
    · intro h j hj
      by_cases e : j = n
      · subst e; exact h.2
      · exact h.1 j (by omega)
    · intro h
      exact ⟨fun j hj => h j (by omega), h n (by omega)⟩
theorem allP_at {f : Nat → Int} {n k : Nat} (h : allP f n = true) (hk : k < n) : inB (f k) 0 65535 = true := inB_true.2 (allP_true.1 h k hk)
theorem arc_empty (a : Option Addr) (cap : Nat) (w : World) : Calls Try.prog 25 #[.slice a 0 cap] w fun e w' => e = .returned (.tuple #[.int .i64 0, .int .i64 0, .int .i64 18]) ∧ Below w.heap.size w w' := by
  go_enter Try.func25, Try.ntmps25
  go_wp2
  exact bodyPost_ret (v := .tuple #[.int .i64 0, .int .i64 0, .int .i64 18]) (by simp [results, Try.results25, go_sem]) rfl ⟨rfl, Below.refl _ _⟩
theorem refArc_empty (a : Option Addr) (cap : Nat) (w : World) : Calls Try.prog 26 #[.slice a 0 cap] w fun e w' => e = .returned (.tuple #[.int .i64 0, .int .i64 0, .int .i64 18]) ∧ Below w.heap.size w w' := by
  go_enter Try.func26, Try.ntmps26
  go_wp2
  exact bodyPost_ret (v := .tuple #[.int .i64 0, .int .i64 0, .int .i64 18]) (by simp [results, Try.results26, go_sem]) rfl ⟨rfl, Below.refl _ _⟩
set_option maxRecDepth 100000 in
set_option maxHeartbeats 1600000 in
theorem arc_bad (b off n cap : Nat) (zs : List Int) (w : World) (hn : zs.length = n) (h0 : 1 ≤ n) (hlen : n ≤ 1000000) (hb : b < w.heap.size) (hc : ∀ j, j < n → w.cell? ⟨b, off + j, none⟩ = some (.int .i64 (zs[j]?.getD 0))) (hbad : allP (fun j => zs[j]?.getD 0) n = false) :
    Calls Try.prog 25 #[.slice (some ⟨b, off, none⟩) n cap] w fun e w' => e = .returned (.tuple #[.int .i64 0, .int .i64 0, .int .i64 3]) ∧ Below w.heap.size w w' := by
  obtain ⟨f, hf⟩ : ∃ f : Nat → Int, f = fun j => zs[j]?.getD 0 := ⟨_, rfl⟩
  have HC : Hid (∀ j, j < n → w.cell? ⟨b, off + j, none⟩ = some (.int .i64 (f j))) := Lib.hid (by rw [hf]; exact hc)
  rw [← hf] at hbad
  have HB := Lib.hid hbad
  clear hc hf hbad hn
  have hne : ((n : Int) == 0) = false := beq_eq_false_iff_ne.2 (by omega)
  go_enter Try.func25, Try.ntmps25
  go_wp2
  go_loopw [13] (fun i wr => ∃ k : Nat, k ≤ n ∧ i = .int .i64 k ∧ wr = w ∧ allP f k = true) (fun i _ => n - (intOf i).toNat)
  case atStart => exact ⟨0, Nat.zero_le _, rfl, rfl, rfl⟩
  case round =>
    obtain ⟨k, hk, rfl, rfl, hall⟩ := hrel
    have HA := Lib.hid hall
    clear hall
    by_cases hlt : k < n
    · have z := HC.out k hlt
      rcases (Bool.eq_false_or_eq_true (inB (f k) 0 65535)).symm with e | e
      · go_wp2_with (go_at_call 58; refine (isPart_any _ _).mono ?_; rw [e]; rintro e' w' ⟨rfl, rfl⟩)
        exact bodyPost_ret (v := .tuple #[.int .i64 0, .int .i64 0, .int .i64 3]) (by simp [results, Try.results25, go_sem]) rfl ⟨rfl, Below.refl _ _⟩
      · have HN := Lib.hid (show allP f (k + 1) = true by rw [allP, HA.out, e]; rfl)
        go_wp2_with (go_at_call 58; refine (isPart_any _ _).mono ?_; rw [e]; rintro e' w' ⟨rfl, rfl⟩)
        go_roundw
        case rel => exact ⟨k + 1, by omega, by go_num, (by trivial), HN.out⟩
        case measure => simp [intOf]; omega
    · obtain rfl : k = n := by omega
      exact absurd HA.out (by rw [HB.out]; decide)
set_option maxRecDepth 100000 in
set_option maxHeartbeats 1600000 in
theorem arc_ok (b off n cap : Nat) (zs : List Int) (w : World) (hn : zs.length = n) (h0 : 1 ≤ n) (hlen : n ≤ 1000000) (hb : b < w.heap.size) (hc : ∀ j, j < n → w.cell? ⟨b, off + j, none⟩ = some (.int .i64 (zs[j]?.getD 0))) (hok : allP (fun j => zs[j]?.getD 0) n = true) :
    Calls Try.prog 25 #[.slice (some ⟨b, off, none⟩) n cap] w fun e w' => e = .returned (.tuple #[.int .i64 (arcB zs), .int .i64 (arcW zs), .int .i64 0]) ∧ Below w.heap.size w w' := by
  have HH : Hid (∀ W : World, Below w.heap.size w W → Calls Try.prog 59 #[.slice (some ⟨b, off, none⟩) n cap] W fun e w' => e = .returned (.agg #[.slice (some ⟨b, off, none⟩) n cap, .int .i64 (arcB zs), .int .i64 (arcW zs)]) ∧ Below W.heap.size W w') := Lib.hid fun W hW => by
    refine arcOf_some b off n cap zs W hn hlen (by intro h; rw [h] at hn; simp at hn; omega) (fun x hx => ?_) (.inr ⟨b, off, cap, by rw [hn], Nat.lt_of_lt_of_le hb hW.size, fun j hj => keepB hW hb (hc j (by omega))⟩)
    obtain ⟨j, hj, rfl⟩ := List.getElem_of_mem hx
    have h := allP_true.1 hok j (by omega)
    simp only [List.getElem?_eq_getElem hj, Option.getD_some] at h
    omega
  obtain ⟨f, hf⟩ : ∃ f : Nat → Int, f = fun j => zs[j]?.getD 0 := ⟨_, rfl⟩
  have HC : Hid (∀ j, j < n → w.cell? ⟨b, off + j, none⟩ = some (.int .i64 (f j))) := Lib.hid (by rw [hf]; exact hc)
  rw [← hf] at hok
  have HP := Lib.hid (fun k (hk : k < n) => allP_at hok hk)
  clear hc hf hok hn
  obtain ⟨aB, haB⟩ : ∃ x, x = arcB zs := ⟨_, rfl⟩
  obtain ⟨aW, haW⟩ : ∃ x, x = arcW zs := ⟨_, rfl⟩
  rw [← haB, ← haW] at HH ⊢
  clear haB haW
  have hne : ((n : Int) == 0) = false := beq_eq_false_iff_ne.2 (by omega)
  go_enter Try.func25, Try.ntmps25
  go_wp2
  go_loopw [13] (fun i wr => ∃ k : Nat, k ≤ n ∧ i = .int .i64 k ∧ wr = w) (fun i _ => n - (intOf i).toNat)
  case atStart => exact ⟨0, Nat.zero_le _, rfl, rfl⟩
  case round =>
    obtain ⟨k, hk, rfl, rfl⟩ := hrel
    by_cases hlt : k < n
    · have z := HC.out k hlt
      have e := HP.out k hlt
      go_wp2_with (go_at_call 58; refine (isPart_any _ _).mono ?_; rw [e]; rintro e' w' ⟨rfl, rfl⟩)
      go_roundw
      case rel => exact ⟨k + 1, by omega, by go_num, (by trivial)⟩
      case measure => simp [intOf]; omega
    · obtain rfl : k = n := by omega
      go_wp2_with fail
      refine (HH.out _ (Below.refl _ _)).mono ?_; rintro e' W ⟨rfl, hb1⟩
      obtain ⟨V, hV⟩ : ∃ V, V = W.alloc (.cells #[.slice (some ⟨b, off, none⟩) k cap, .int .i64 aB, .int .i64 aW] 107) := ⟨_, rfl⟩
      have hA := ArcAt.new W (.slice (some ⟨b, off, none⟩) k cap) aB aW 107
      have b2 : Below W.heap.size W V := by rw [hV]; exact below_alloc _ _
      rw [← hV] at hA
      have b3 := hb1.trans (b2.mono hb1.size)
      obtain ⟨c0, c1, c2, f0, f1, f2⟩ := hA
      clear hb1 b2
      go_wp2_with fail
      rw [← hV]
      clear hV
      go_quiet (fail)
      go_wp2
      exact bodyPost_ret (v := .tuple #[.int .i64 aB, .int .i64 aW, .int .i64 0]) (by simp [results, Try.results25, go_sem]) rfl ⟨rfl, drewN_below b3 _⟩

end Go.Proofs.Ytmojnopgpgnfeaa

namespace Go.Proofs.Ytmojnopgpgnfeaa
open Go.RowKit
set_option linter.unusedVariables false
set_option linter.unusedSimpArgs false

theorem drop_at (zs : List Int) (k : Nat) (h : k < zs.length) : zs.drop k = zs[k]?.getD 0 :: zs.drop (k + 1) := by
  rw [List.drop_eq_getElem_cons h, List.getElem?_eq_getElem h]; rfl
theorem far_step {a r x fr : Int} {l l' : List Int} (hl : l = x :: l') (h : max fr (far a l) = r) : max (max fr ((x - a) % 65536)) (far a l') = r := by
  rw [hl, far] at h; omega
theorem arcGo_step {l r r' : List Int} {x b w fr : Int} {q : Int × Int} (hr : r = x :: r') (h : arcGo l r (b, w) = q) (hf : far x l = fr) : arcGo l r' (if fr < w ∨ (fr = w ∧ x < b) then (x, fr) else (b, w)) = q := by
  rw [hr, arcGo, hf] at h; exact h
set_option maxRecDepth 100000 in
set_option maxHeartbeats 1600000 in
theorem refArc_bad (b off n cap : Nat) (zs : List Int) (w : World) (hn : zs.length = n) (h0 : 1 ≤ n) (hlen : n ≤ 1000000) (hb : b < w.heap.size) (hc : ∀ j, j < n → w.cell? ⟨b, off + j, none⟩ = some (.int .i64 (zs[j]?.getD 0))) (hbad : allP (fun j => zs[j]?.getD 0) n = false) :
    Calls Try.prog 26 #[.slice (some ⟨b, off, none⟩) n cap] w fun e w' => e = .returned (.tuple #[.int .i64 0, .int .i64 0, .int .i64 3]) ∧ Below w.heap.size w w' := by
  obtain ⟨f, hf⟩ : ∃ f : Nat → Int, f = fun j => zs[j]?.getD 0 := ⟨_, rfl⟩
  have HC : Hid (∀ j, j < n → w.cell? ⟨b, off + j, none⟩ = some (.int .i64 (f j))) := Lib.hid (by rw [hf]; exact hc)
  rw [← hf] at hbad
  have HB := Lib.hid hbad
  clear hc hf hbad hn
  have hne : ((n : Int) == 0) = false := beq_eq_false_iff_ne.2 (by omega)
  go_enter Try.func26, Try.ntmps26
  go_wp2
  go_loopw [5] (fun i wr => ∃ k : Nat, k ≤ n ∧ i = .int .i64 k ∧ wr = w ∧ allP f k = true) (fun i _ => n - (intOf i).toNat)
  case atStart => exact ⟨0, Nat.zero_le _, rfl, rfl, rfl⟩
  case round =>
    obtain ⟨k, hk, rfl, rfl, hall⟩ := hrel
    have HA := Lib.hid hall
    clear hall
    by_cases hlt : k < n
    · have z := HC.out k hlt
      rcases (Bool.eq_false_or_eq_true (inB (f k) 0 65535)).symm with e | e
      · go_wp2_with (go_at_call 48; refine (refIn_any _ _ _ _).mono ?_; rw [e]; rintro e' w' ⟨rfl, rfl⟩)
        exact bodyPost_ret (v := .tuple #[.int .i64 0, .int .i64 0, .int .i64 3]) (by simp [results, Try.results26, go_sem]) rfl ⟨rfl, Below.refl _ _⟩
      · have HN := Lib.hid (show allP f (k + 1) = true by rw [allP, HA.out, e]; rfl)
        go_wp2_with (go_at_call 48; refine (refIn_any _ _ _ _).mono ?_; rw [e]; rintro e' w' ⟨rfl, rfl⟩)
        go_roundw
        case rel => exact ⟨k + 1, by omega, by go_num, (by trivial), HN.out⟩
        case measure => simp [intOf]; omega
    · obtain rfl : k = n := by omega
      exact absurd HA.out (by rw [HB.out]; decide)
set_option maxRecDepth 100000 in
set_option maxHeartbeats 4000000 in
theorem refArc_ok (b off n cap : Nat) (zs : List Int) (w : World) (hn : zs.length = n) (h0 : 1 ≤ n) (hlen : n ≤ 1000000) (hb : b < w.heap.size) (hc : ∀ j, j < n → w.cell? ⟨b, off + j, none⟩ = some (.int .i64 (zs[j]?.getD 0))) (hok : allP (fun j => zs[j]?.getD 0) n = true) :
    Calls Try.prog 26 #[.slice (some ⟨b, off, none⟩) n cap] w fun e w' => e = .returned (.tuple #[.int .i64 (arcB zs), .int .i64 (arcW zs), .int .i64 0]) ∧ Below w.heap.size w w' := by
  obtain ⟨f, hf⟩ : ∃ f : Nat → Int, f = fun j => zs[j]?.getD 0 := ⟨_, rfl⟩
  have HC : Hid (∀ j, j < n → w.cell? ⟨b, off + j, none⟩ = some (.int .i64 (f j))) := Lib.hid (by rw [hf]; exact hc)
  rw [← hf] at hok
  have HP := Lib.hid (fun k (hk : k < n) => allP_at hok hk)
  have HD := Lib.hid (show ∀ k, k < n → zs.drop k = f k :: zs.drop (k + 1) from fun k hk => by rw [hf]; exact drop_at zs k (by omega))
  have HE := Lib.hid (show zs.drop n = [] from List.drop_eq_nil_of_le (by omega))
  have hnz : zs ≠ [] := by intro h; rw [h] at hn; simp at hn; omega
  have HG := Lib.hid (show arcGo zs zs (0, 65536) = (arcB zs, arcW zs) by unfold arcB arcW arcV; rw [if_neg hnz])
  clear hc hf hok hn hnz
  obtain ⟨aB, haB⟩ : ∃ x, x = arcB zs := ⟨_, rfl⟩
  obtain ⟨aW, haW⟩ : ∃ x, x = arcW zs := ⟨_, rfl⟩
  rw [← haB, ← haW] at HG ⊢
  clear haB haW
  have hne : ((n : Int) == 0) = false := beq_eq_false_iff_ne.2 (by omega)
  go_enter Try.func26, Try.ntmps26
  go_wp2
  go_loopw [5] (fun i wr => ∃ k : Nat, k ≤ n ∧ i = .int .i64 k ∧ w = wr) (fun i _ => n - (intOf i).toNat)
  case atStart => exact ⟨0, Nat.zero_le _, rfl, rfl⟩
  case round =>
    obtain ⟨k, hk, rfl, rfl⟩ := hrel
    by_cases hlt : k < n
    · have z := HC.out k hlt
      have e := HP.out k hlt
      go_wp2_with (go_at_call 48; refine (refIn_any _ _ _ _).mono ?_; rw [e]; rintro e' w' ⟨rfl, rfl⟩)
      go_roundw
      case rel => exact ⟨k + 1, by omega, by go_num, (by trivial)⟩
      case measure => simp [intOf]; omega
    · obtain rfl : k = n := by omega
      clear hlt hk
      go_wp2
      go_loopw [6, 7, 8] (fun v6 v7 v8 wr2 => ∃ (q : Nat) (bb ww : Int), q ≤ k ∧ v6 = .int .i64 bb ∧ v7 = .int .i64 ww ∧ v8 = .int .i64 q ∧ Below w.heap.size w wr2 ∧ arcGo zs (zs.drop q) (bb, ww) = (aB, aW)) (fun _ _ v8 _ => k - (intOf v8).toNat)
      case atStart => exact ⟨0, 0, 65536, Nat.zero_le _, rfl, rfl, rfl, Below.refl _ _, HG.out⟩
      case round =>
        obtain ⟨q, bb, ww, hq, rfl, rfl, rfl, hbw, hgo⟩ := hrel
        have HGO := Lib.hid hgo
        clear hgo
        by_cases hlt : q < k
        · obtain ⟨x, hx⟩ : ∃ x, f q = x := ⟨_, rfl⟩
          have bx := inB_true.1 (HP.out q hlt)
          rw [hx] at bx
          have HX := Lib.hid (show zs.drop q = x :: zs.drop (q + 1) by rw [← hx]; exact HD.out q hlt)
          have hzq : w.cell? ⟨b, off + q, none⟩ = some (.int .i64 x) := by rw [← hx]; exact HC.out q hlt
          have HZ := Lib.hid hzq
          have HXX := Lib.hid hx
          clear hx hzq
          go_wp2
          go_loopw [9, 10] (fun v9 v10 wr3 => ∃ (j : Nat) (fr : Int), j ≤ k ∧ v9 = .int .i64 fr ∧ v10 = .int .i64 j ∧ Below w.heap.size w wr3 ∧ max fr (far x (zs.drop j)) = far x zs ∧ 0 ≤ fr ∧ fr < 65536) (fun _ v10 _ => k - (intOf v10).toNat)
          case atStart => exact ⟨0, 0, Nat.zero_le _, rfl, rfl, hbw, (by have := far_bd x zs; rw [List.drop_zero]; omega), by decide, by decide⟩
          case round =>
            obtain ⟨j, fr, hj, rfl, rfl, hb3, hfr, fr0, fr1⟩ := hrel
            have HF := Lib.hid hfr
            clear hfr
            have hbr : b < wr.heap.size := Nat.lt_of_lt_of_le hb hb3.size
            have zq := keepB hb3 hb HZ.out
            by_cases hlj : j < k
            · obtain ⟨y, hy⟩ : ∃ y, f j = y := ⟨_, rfl⟩
              have by0 := inB_true.1 (HP.out j hlj)
              rw [hy] at by0
              have zj := keepB hb3 hb (HC.out j hlj)
              rw [hy] at zj
              obtain ⟨d, hd⟩ : ∃ d, d = (y - x) % 65536 := ⟨_, rfl⟩
              have bd : 0 ≤ d ∧ d < 65536 := by omega
              have HN := Lib.hid (show max (max fr d) (far x (zs.drop (j + 1))) = far x zs by rw [hd]; exact far_step (by rw [← hy]; exact HD.out j hlj) HF.out)
              have HDD := Lib.hid hd
              clear hd hy
              have i1 : IntKind.i64.wrap (y - x) = y - x := IntWalk.i64_in _ (by omega)
              have bm : 0 ≤ max fr d ∧ max fr d < 65536 := by omega
              have HW : Hid (∀ W : World, Calls Try.prog 60 #[.int .i64 (y - x)] W fun e w' => e = .returned (.int .i64 d) ∧ w' = W) := Lib.hid fun W => (Wrap_any (y - x) W (by omega) (by omega)).mono (by rintro e w' ⟨rfl, rfl⟩; exact ⟨by rw [HDD.out], rfl⟩)
              have HM := Lib.hid bm
              clear bm
              go_wp2
              go_quiet ((go_at_call 60; exact Calls.quiet_of_same (HW.out _)))
              go_wp2
              go_roundw
              case rel => exact ⟨j + 1, max fr d, by omega, (by first | rfl | (go_num)), by go_num, drewN_below hb3 _, HN.out, HM.out.1, HM.out.2⟩
              case measure => simp [intOf]; omega
            · obtain rfl : j = k := by omega
              have hfx : far x zs = fr := by
                have h := HF.out
                rw [HE.out, far] at h
                omega
              have HS := Lib.hid (arcGo_step HX.out HGO.out hfx)
              clear hfx hlj
              by_cases h1 : fr < ww
              · have HR := Lib.hid (show arcGo zs (zs.drop (q + 1)) (x, fr) = (aB, aW) by have h := HS.out; rw [if_pos (.inl h1)] at h; exact h)
                go_wp2
                go_roundw
                case rel => exact ⟨q + 1, x, fr, by omega, rfl, rfl, by go_num, hb3, HR.out⟩
                case measure => simp [intOf]; omega
              · have e1 : decide (fr < ww) = false := decide_eq_false h1
                by_cases h2 : fr = ww
                · subst h2
                  by_cases h3 : x < bb
                  · have HR := Lib.hid (show arcGo zs (zs.drop (q + 1)) (x, fr) = (aB, aW) by have h := HS.out; rw [if_pos (.inr ⟨rfl, h3⟩)] at h; exact h)
                    go_wp2
                    go_roundw
                    case rel => exact ⟨q + 1, x, fr, by omega, rfl, rfl, by go_num, hb3, HR.out⟩
                    case measure => simp [intOf]; omega
                  · have e3 : decide (x < bb) = false := decide_eq_false h3
                    have HR := Lib.hid (show arcGo zs (zs.drop (q + 1)) (bb, fr) = (aB, aW) by have h := HS.out; rw [if_neg (by omega)] at h; exact h)
                    go_wp2
                    go_roundw
                    case rel => exact ⟨q + 1, bb, fr, by omega, rfl, rfl, by go_num, hb3, HR.out⟩
                    case measure => simp [intOf]; omega
                · have e2 : (fr == ww) = false := beq_eq_false_iff_ne.2 h2
                  have HR := Lib.hid (show arcGo zs (zs.drop (q + 1)) (bb, ww) = (aB, aW) by have h := HS.out; rw [if_neg (by omega)] at h; exact h)
                  go_wp2
                  go_roundw
                  case rel => exact ⟨q + 1, bb, ww, by omega, rfl, rfl, by go_num, hb3, HR.out⟩
                  case measure => simp [intOf]; omega
        · obtain rfl : q = k := by omega
          have hfin : (bb, ww) = (aB, aW) := by have h := HGO.out; rw [HE.out, arcGo] at h; exact h
          obtain ⟨rfl, rfl⟩ : bb = aB ∧ ww = aW := by simpa using hfin
          clear hfin
          go_wp2
          exact bodyPost_ret (v := .tuple #[.int .i64 bb, .int .i64 ww, .int .i64 0]) (by simp [results, Try.results26, go_sem]) rfl ⟨rfl, hbw⟩

end Go.Proofs.Ytmojnopgpgnfeaa
