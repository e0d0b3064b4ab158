/-
  Points are copied.
-/
import Derived.Test.YtdmbkhmhaininaaB
import Derived.Maps.AppendAt
import Derived.Deep.AppendLies
namespace Go.Proofs.Ytdmbkhmhaininaa
open Go.RowKit
set_option linter.unusedVariables false
set_option linter.unusedSimpArgs false

/-- spans in a row, one behind the other -/
def spv (L H : Nat → Int) : Nat → List Value
  | 0 => []
  | j + 1 => spv L H j ++ [.int .i64 (L j), .int .i64 (H j)]
theorem spv_len (L H : Nat → Int) (j : Nat) : (spv L H j).length = j * 2 := by
  induction j with
  | zero => rfl
  | succ j ih => unfold spv; rw [List.length_append, ih]; simp; omega
theorem spv_get (L H : Nat → Int) (n k : Nat) (h : k < n) : (spv L H n)[k * 2]? = some (.int .i64 (L k)) ∧ (spv L H n)[k * 2 + 1]? = some (.int .i64 (H k)) := by
  induction n with
  | zero => omega
  | succ n ih =>
    have hl := spv_len L H n
    by_cases e : k = n
    · subst e
      unfold spv
      rw [List.getElem?_append_right (by omega), List.getElem?_append_right (by omega), hl]
      refine ⟨by rw [Nat.sub_self]; rfl, by rw [show k * 2 + 1 - k * 2 = 1 by omega]; rfl⟩
    · have := ih (by omega)
      unfold spv
      rw [List.getElem?_append_left (by omega), List.getElem?_append_left (by omega)]
      exact this
theorem cell_two_new (w : World) (x y : Value) (t : TypeId) : ∀ j u, [x, y][j]? = some u → (w.alloc (.cells #[x, y] t)).cell? ((⟨w.heap.size, 0, none⟩ : Addr).add j) = some u := by
  intro j u hj
  match j, hj with
  | 0, hj => simp at hj; subst hj; simp [Addr.add]
  | 1, hj => simp at hj; subst hj; simp [Addr.add]

theorem owns_keep {w w' : World} {base : Nat} {e : TypeId} {size : Nat} {v : Value} {n : Nat} {xs : List Value} (h : w.ownsRow base e size v n xs) (hb : Below w.heap.size w w') : w'.ownsRow base e size v n xs := by
  have hl := h.lt
  refine ⟨h.1, ?_⟩
  rcases h.2 with hn | ⟨g, cap, cur, rfl, h1, h2, rest⟩
  · exact .inl hn
  · refine .inr ⟨g, cap, cur, rfl, h1, ?_, rest⟩
    rw [hb.block g (hl g rfl).2]; exact h2


theorem info115 : (Try.prog.info? 115).map (fun i => (i.zero, i.size, i.bytes)) = some (some (.agg #[.int .i64 0, .int .i64 0]), 2, 16) := by kernel_rfl
/-- a slice of spans, in memory -/
def SpRet (n : Nat) (zs : Nat → Int × Int) (w : World) (e : Ending) (w' : World) : Prop := ∃ (a : Option Addr) (cap : Nat), e = .returned (.slice a n cap) ∧ SliceIs w' a n cap zs ∧ Below w.heap.size w w'
/-- the spans of a row that is owned -/
theorem own_spans {w : World} {base T n : Nat} {v : Value} {zs : Nat → Int × Int} (h : w.ownsRow base T 2 v n (spv (fun i => (zs i).1) (fun i => (zs i).2) n)) (h0 : n = 0 → v = .slice none 0 0) : ∃ (a : Option Addr) (cap : Nat), v = .slice a n cap ∧ SliceIs w a n cap zs := by
  by_cases hn : n = 0
  · subst hn
    exact ⟨none, 0, h0 rfl, .inl rfl⟩
  · obtain ⟨b, cap, rfl, hb1, hb2⟩ := h.form (by omega)
    refine ⟨_, cap, rfl, .inr ⟨b, 0, rfl, hb2, fun i hi => ⟨?_, ?_⟩⟩⟩
    · rw [Nat.zero_add, h.cellAt (i * 2) (by omega)]; exact (spv_get _ _ n i hi).1
    · rw [Nat.zero_add, h.cellAt (i * 2 + 1) (by omega)]; exact (spv_get _ _ n i hi).2
structure RowRel (w wr : World) (T k : Nat) (v : Value) (zs : Nat → Int × Int) : Prop where
  own : wr.ownsRow w.heap.size T 2 v k (spv (fun i => (zs i).1) (fun i => (zs i).2) k)
  nil : k = 0 → v = .slice none 0 0
  b : Below w.heap.size w wr

set_option maxHeartbeats 3200000 in
theorem points_some (b off n cap : Nat) (zs : Nat → Int × Int) (w : World) (hl : n ≤ 1000000) (hs : SpansAt w b off n zs) (hb : b < w.heap.size) :
    Calls Try.prog 16 #[.slice (some ⟨b, off, none⟩) n cap] w (SpRet n zs w) := by
  obtain ⟨i0, hi0, hz0, hz1, hz2⟩ := info_parts info115
  have HS := Lib.hid hs
  clear hs
  go_enter Try.func16, Try.ntmps16
  go_wp2
  go_loopw [3, 4] (fun v i wr => ∃ k : Nat, k ≤ n ∧ i = .int .i64 k ∧ RowRel w wr 115 k v zs) (fun _ i _ => n - (intOf i).toNat)
  case atStart => exact ⟨0, Nat.zero_le _, rfl, World.ownsRow_nil _ _ _ _, fun _ => rfl, Below.refl _ _⟩
  case round =>
    obtain ⟨k, hk, rfl, hR⟩ := hrel
    have hbw := hR.b
    have hown := hR.own
    have HW := Lib.hid hown
    by_cases hlt : k < n
    · have c0 := keepB hbw hb (HS.out k hlt).1
      have c1 := keepB hbw hb (HS.out k hlt).2
      have hzz := hbw.size
      clear hR
      go_wp2_with (first | (at_builtin; refine wpList_append_own _ rfl _ _ 31 rfl w.heap.size 115 i0 (.agg #[.int .i64 0, .int .i64 0]) 2 16 Try.underlying31 hi0 hz0 hz1 hz2 rfl (by decide) _ _ _ rfl (hown.alloc _) ⟨wr.heap.size, 0, none⟩ 1 1 [.int .i64 (zs k).1, .int .i64 (zs k).2] rfl rfl (cell_two_new _ _ _ _) ?c2 ?c3 ?c4 ?c5 ?_) | go_in)
      case c2 => intro u hu; simp at hu; rcases hu with rfl | rfl <;> rfl
      case c3 => unfold maxLen; omega
      case c4 => omega
      case c5 => simp; omega
      · intro v' w7 hown' hgrow _
        have B7 : Below w.heap.size wr w7 := Below.grown ((Below.refl w.heap.size wr).alloc (by omega) _) hgrow (by simp; omega) (fun k hk => (HW.out.lt k hk).1)
        have R7 := Lib.hid (show RowRel w w7 115 (k + 1) v' zs from ⟨hown', fun h => absurd h (by omega), hbw.trans B7⟩)
        clear hown' hgrow B7
        go_wp2
        go_roundw
        case rel => exact ⟨k + 1, by omega, by go_num, R7.out⟩
        case measure => simp [intOf]; omega
    · obtain rfl : n = k := by omega
      obtain ⟨a, cap', rfl, hsl⟩ := own_spans hR.own hR.nil
      have HSL := Lib.hid hsl
      clear hsl hR hown HW
      go_wp2
      go_ret
      exact ⟨a, cap', rfl, HSL.out, hbw⟩
set_option maxHeartbeats 800000 in
theorem points_nil (a : Option Addr) (cap : Nat) (zs : Nat → Int × Int) (w : World) :
    Calls Try.prog 16 #[.slice a 0 cap] w (SpRet 0 zs w) := by
  go_enter Try.func16, Try.ntmps16
  go_wp2
  go_loopw [3, 4] (fun v i wr => v = .slice none 0 0 ∧ i = .int .i64 0 ∧ Below w.heap.size w wr) (fun _ i _ => 0)
  case atStart => exact ⟨rfl, rfl, Below.refl _ _⟩
  case round =>
    obtain ⟨rfl, rfl, hbw⟩ := hrel
    go_wp2
    go_ret
    exact ⟨none, 0, rfl, .inl rfl, hbw⟩
theorem points_any (a : Option Addr) (n cap : Nat) (zs : Nat → Int × Int) (w : World) (hl : n ≤ 1000000) (hs : SliceIs w a n cap zs) :
    Calls Try.prog 16 #[.slice a n cap] w (SpRet n zs w) := by
  rcases hs with rfl | ⟨b, off, rfl, h2, h3⟩
  · exact points_nil a cap zs w
  · exact points_some b off n cap zs w hl h3 h2

end Go.Proofs.Ytdmbkhmhaininaa
