/-
  Points are copied, to new memory.
-/
import Derived.Test.YtdmbkhmhaininaaP
namespace Go.Proofs.Ytdmbkhmhaininaa
open Go.RowKit
set_option linter.unusedVariables false
set_option linter.unusedSimpArgs false

/-- a slice of spans, in memory that is new -/
def SpNew (n : Nat) (zs : Nat → Int × Int) (w : World) (e : Ending) (w' : World) : Prop := ∃ (a : Option Addr) (cap : Nat), e = .returned (.slice a n cap) ∧ SliceIs w' a n cap zs ∧ (∀ b off, a = some ⟨b, off, none⟩ → w.heap.size ≤ b) ∧ Below w.heap.size w w'
theorem own_new {w : World} {base T n : Nat} {v : Value} {zs : Nat → Int × Int} (h : w.ownsRow base T 2 v n (spv (fun i => (zs i).1) (fun i => (zs i).2) n)) (h0 : n = 0 → v = .slice none 0 0) : ∃ (a : Option Addr) (cap : Nat), v = .slice a n cap ∧ SliceIs w a n cap zs ∧ ∀ b off, a = some ⟨b, off, none⟩ → base ≤ b := by
  by_cases hn : n = 0
  · subst hn
    exact ⟨none, 0, h0 rfl, .inl rfl, fun b off h => by cases h⟩
  · obtain ⟨b, cap, rfl, hb1, hb2⟩ := h.form (by omega)
    refine ⟨_, cap, rfl, .inr ⟨b, 0, rfl, hb2, fun i hi => ⟨?_, ?_⟩⟩, fun b2 off2 e => ?_⟩
    · rw [Nat.zero_add, h.cellAt (i * 2) (by omega)]; exact (spv_get _ _ n i hi).1
    · rw [Nat.zero_add, h.cellAt (i * 2 + 1) (by omega)]; exact (spv_get _ _ n i hi).2
    · injection e with e; injection e with e1 e2; subst e1; exact hb1

set_option maxHeartbeats 3200000 in
theorem points_new_some (b off n cap : Nat) (zs : Nat → Int × Int) (w : World) (hl : n ≤ 1000000) (hs : SpansAt w b off n zs) (hb : b < w.heap.size) :
    Calls Try.prog 16 #[.slice (some ⟨b, off, none⟩) n cap] w (SpNew n zs w) := by
  obtain ⟨i0, hi0, hz0, hz1, hz2⟩ := info_parts info115
  have HS := Lib.hid hs
  clear hs
  go_enter Try.func16, Try.ntmps16
  go_wp2
  go_loopw [3, 4] (fun v i wr => ∃ k : Nat, k ≤ n ∧ i = .int .i64 k ∧ RowRel w wr 115 k v zs) (fun _ i _ => n - (intOf i).toNat)
  case atStart => exact ⟨0, Nat.zero_le _, rfl, World.ownsRow_nil _ _ _ _, fun _ => rfl, Below.refl _ _⟩
  case round =>
    obtain ⟨k, hk, rfl, hR⟩ := hrel
    have hbw := hR.b
    have hown := hR.own
    have HW := Lib.hid hown
    by_cases hlt : k < n
    · have c0 := keepB hbw hb (HS.out k hlt).1
      have c1 := keepB hbw hb (HS.out k hlt).2
      have hzz := hbw.size
      clear hR
      go_wp2_with (first | (at_builtin; refine wpList_append_own _ rfl _ _ 31 rfl w.heap.size 115 i0 (.agg #[.int .i64 0, .int .i64 0]) 2 16 Try.underlying31 hi0 hz0 hz1 hz2 rfl (by decide) _ _ _ rfl (hown.alloc _) ⟨wr.heap.size, 0, none⟩ 1 1 [.int .i64 (zs k).1, .int .i64 (zs k).2] rfl rfl (cell_two_new _ _ _ _) ?c2 ?c3 ?c4 ?c5 ?_) | go_in)
      case c2 => intro u hu; simp at hu; rcases hu with rfl | rfl <;> rfl
      case c3 => unfold maxLen; omega
      case c4 => omega
      case c5 => simp; omega
      · intro v' w7 hown' hgrow _
        have B7 : Below w.heap.size wr w7 := Below.grown ((Below.refl w.heap.size wr).alloc (by omega) _) hgrow (by simp; omega) (fun k hk => (HW.out.lt k hk).1)
        have R7 := Lib.hid (show RowRel w w7 115 (k + 1) v' zs from ⟨hown', fun h => absurd h (by omega), hbw.trans B7⟩)
        clear hown' hgrow B7
        go_wp2
        go_roundw
        case rel => exact ⟨k + 1, by omega, by go_num, R7.out⟩
        case measure => simp [intOf]; omega
    · obtain rfl : n = k := by omega
      obtain ⟨a, cap', rfl, hsl, hfr⟩ := own_new hR.own hR.nil
      have HSL := Lib.hid (And.intro hsl hfr)
      clear hsl hfr hR hown HW
      go_wp2
      go_ret
      exact ⟨a, cap', rfl, HSL.out.1, HSL.out.2, hbw⟩
set_option maxHeartbeats 800000 in
theorem points_new_nil (a : Option Addr) (cap : Nat) (zs : Nat → Int × Int) (w : World) :
    Calls Try.prog 16 #[.slice a 0 cap] w (SpNew 0 zs w) := by
  go_enter Try.func16, Try.ntmps16
  go_wp2
  go_loopw [3, 4] (fun v i wr => v = .slice none 0 0 ∧ i = .int .i64 0 ∧ Below w.heap.size w wr) (fun _ i _ => 0)
  case atStart => exact ⟨rfl, rfl, Below.refl _ _⟩
  case round =>
    obtain ⟨rfl, rfl, hbw⟩ := hrel
    go_wp2
    go_ret
    exact ⟨none, 0, rfl, .inl rfl, (fun b off h => by cases h), hbw⟩
theorem points_new (a : Option Addr) (n cap : Nat) (zs : Nat → Int × Int) (w : World) (hl : n ≤ 1000000) (hs : SliceIs w a n cap zs) :
    Calls Try.prog 16 #[.slice a n cap] w (SpNew n zs w) := by
  rcases hs with rfl | ⟨b, off, rfl, h2, h3⟩
  · exact points_new_nil a cap zs w
  · exact points_new_some b off n cap zs w hl h3 h2

end Go.Proofs.Ytdmbkhmhaininaa
