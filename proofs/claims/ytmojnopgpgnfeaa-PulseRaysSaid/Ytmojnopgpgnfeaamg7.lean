/-
  What the library sorts and what it keeps of it, as facts on lists and cells.
-/
import Derived.Sort.OwnSortedInts
import Derived.Test.Ytmojnopgpgnfeaamg4
import Derived.Test.Ytmojnopgpgnfeaamg6
namespace Go.Proofs.Ytmojnopgpgnfeaa
open Go.RowKit Go.Shelf Go.Sort
set_option linter.unusedVariables false
attribute [local go_sem] Oper.semAt_some

def sortI (zs : List Int) : List Int := zs.mergeSort fun x y => decide (x ≤ y)
theorem sortI_len (zs : List Int) : (sortI zs).length = zs.length := List.length_mergeSort _
theorem sortI_mem (zs : List Int) (x : Int) : x ∈ sortI zs ↔ x ∈ zs := List.mem_mergeSort
theorem sortI_asc (zs : List Int) : (sortI zs).Pairwise (· ≤ ·) := by
  have h := List.pairwise_mergeSort (le := fun x y : Int => decide (x ≤ y)) (fun a b c h1 h2 => by simp at h1 h2 ⊢; omega) (fun a b => by simp; omega) zs
  exact h.imp (fun h => by simpa using h)
theorem compact_up {d : Array Int} (hs : ∀ i j, i ≤ j → j < d.size → d[i]! ≤ d[j]!) : ∀ m, m ≤ d.size → (Lib.compactUpTo d m).Pairwise (· < ·) ∧ ∀ x, x ∈ Lib.compactUpTo d m ↔ ∃ j, j < m ∧ d[j]! = x
  | 0, _ => by simp [Lib.compactUpTo]
  | m + 1, hm => by
    obtain ⟨h1, h2⟩ := compact_up hs m (by omega)
    rw [Lib.compactUpTo_succ]
    by_cases hk : Lib.keeps d m = true
    · rw [if_pos hk]
      refine ⟨List.pairwise_append.2 ⟨h1, List.pairwise_singleton _ _, fun a ha b hb => ?_⟩, fun x => ?_⟩
      · obtain rfl : b = d[m]! := by simpa using hb
        obtain ⟨j, hj, rfl⟩ := (h2 a).1 ha
        have a1 := hs j (m - 1) (by omega) (by omega)
        have a2 := hs (m - 1) m (by omega) (by omega)
        have a3 : d[m]! ≠ d[m - 1]! := by
          intro e
          rw [Lib.keeps_neg (by omega) e] at hk
          cases hk
        omega
      · rw [List.mem_append, h2]
        constructor
        · rintro (⟨j, hj, rfl⟩ | h)
          · exact ⟨j, by omega, rfl⟩
          · exact ⟨m, by omega, (List.mem_singleton.1 h).symm⟩
        · rintro ⟨j, hj, rfl⟩
          by_cases e : j = m
          · subst e; right; simp
          · left; exact ⟨j, by omega, rfl⟩
    · have hk' : Lib.keeps d m = false := by simpa using hk
      rw [hk']
      simp only [Bool.false_eq_true, if_false, List.append_nil]
      have hm0 : m ≠ 0 := by
        intro e; subst e
        rw [Lib.keeps_lt_one d 0 (by omega)] at hk'; cases hk'
      have e : d[m]! = d[m - 1]! := by
        by_cases e : d[m]! = d[m - 1]!
        · exact e
        · rw [Lib.keeps_pos e] at hk'; cases hk'
      refine ⟨h1, fun x => ?_⟩
      rw [h2]
      constructor
      · rintro ⟨j, hj, rfl⟩; exact ⟨j, by omega, rfl⟩
      · rintro ⟨j, hj, rfl⟩
        by_cases e2 : j = m
        · subst e2; exact ⟨j - 1, by omega, e.symm⟩
        · exact ⟨j, by omega, rfl⟩
/-- the numbers, each once, ascending -/
def ups (zs : List Int) : List Int := Lib.compact (sortI zs)
theorem ups_is (zs : List Int) : (ups zs).Pairwise (· < ·) ∧ ∀ x, x ∈ ups zs ↔ x ∈ zs := by
  have hp := sortI_asc zs
  have hs : ∀ i j, i ≤ j → j < (sortI zs).toArray.size → (sortI zs).toArray[i]! ≤ (sortI zs).toArray[j]! := fun i j hij hj => by
    have hj' : j < (sortI zs).length := by simpa using hj
    have hi' : i < (sortI zs).length := by omega
    have e1 : (sortI zs).toArray[i]! = (sortI zs)[i] := by simp [hi']
    have e2 : (sortI zs).toArray[j]! = (sortI zs)[j] := by simp [hj']
    rw [e1, e2]
    rcases Nat.lt_or_eq_of_le hij with h | h
    · exact List.pairwise_iff_getElem.1 hp i j hi' hj' h
    · subst h; exact Int.le_refl _
  obtain ⟨h1, h2⟩ := compact_up hs (sortI zs).length (by simp)
  refine ⟨h1, fun x => (h2 x).trans ?_⟩
  rw [← sortI_mem zs x, List.mem_iff_getElem]
  constructor
  · rintro ⟨j, hj, e⟩; exact ⟨j, hj, by rw [← e]; simp [hj]⟩
  · rintro ⟨j, hj, e⟩; exact ⟨j, hj, by rw [← e]; simp [hj]⟩
theorem ups_len (zs : List Int) : (ups zs).length ≤ zs.length := by
  unfold ups Lib.compact Lib.compactUpTo
  rw [List.length_map]
  refine Nat.le_trans (List.length_filter_le _ _) ?_
  rw [List.length_range, sortI_len]
  exact Nat.le_refl _
theorem ups_nil {zs : List Int} (h : zs ≠ []) : 0 < (ups zs).length := by
  obtain ⟨x, hx⟩ := List.exists_mem_of_ne_nil _ h
  exact List.length_pos_of_mem ((ups_is zs).2 x |>.2 hx)

theorem collect_in (n : Nat) (hn : 3 ≤ n) (Bs : Nat) (sv : Value) (zs : List Int) (hlen : zs.length ≤ 1000000) (w : World) (hBs : Bs < w.heap.size) (hc : w.cell? ⟨Bs, 0, none⟩ = some sv) (hI : Vl.Ints w.heap.size w sv zs) :
    CallsIn Fence.wide n Try.prog 96 #[.func (.func 98) #[] #[.pointer (some ⟨Bs, 0, none⟩)]] w fun e W' => ∃ v, e = .returned v ∧ W'.ownsRow w.heap.size 3 1 v zs.length (zs.map (Value.int .i64)) ∧ (v = .slice none 0 0 ↔ zs = []) ∧ Below w.heap.size w W' := by
  have cA := appendSeq_in Fence.wide (n - 1) trivial rfl (by omega) 98 #[.pointer (some ⟨Bs, 0, none⟩)] trivial (enters_of Try.func98 (by kernel_rfl) rfl) zs (by unfold maxLen; omega) (by omega) w (Vl.values_stops Fence.wide _ trivial rfl (by omega) Bs w.heap.size sv zs (by omega) w hBs (Nat.le_refl _) hc hI)
  have hf : Fence.wide.fn 107 := trivial
  have h1 : 1 ≤ n := by omega
  refine callsIn_of_wp Try.func96 rfl trivial ?_ rfl
  simp only [Try.ntmps96, List.size_toArray, List.length_cons, List.length_nil, Nat.reduceAdd, Nat.reduceSub, Array.replicate_succ, Array.replicate_zero, List.push_toArray, List.append_toArray, List.nil_append, List.cons_append]
  gi_wp2_with (gi_at_call 107; refine cA.mono ?_; rintro e w' ⟨v, rfl, hrow, hnil, hb⟩)
  go_ret
  exact ⟨v, rfl, hrow, hnil, hb⟩

/-- what slices.Sorted hands back: nil where nothing came; else a block of its own that holds the numbers, sorted -/
def SortedAt (w w' : World) (v : Value) (zs : List Int) : Prop :=
  (zs = [] ∧ v = .slice none 0 0) ∨ (zs ≠ [] ∧ ∃ g cap, v = .slice (some ⟨g, 0, none⟩) zs.length cap ∧ zs.length ≤ cap ∧ w.heap.size ≤ g ∧ g < w'.heap.size ∧ Holds (Value.int .i64) w' g 0 (sortI zs).toArray)
theorem sorted_any (Bs : Nat) (sv : Value) (zs : List Int) (hlen : zs.length ≤ 1000000) (w : World) (hBs : Bs < w.heap.size) (hc : w.cell? ⟨Bs, 0, none⟩ = some sv) (hI : Vl.Ints w.heap.size w sv zs) :
    Calls Try.prog 84 #[.func (.func 98) #[] #[.pointer (some ⟨Bs, 0, none⟩)]] w fun e W' => ∃ v, e = .returned v ∧ SortedAt w W' v zs ∧ Below w.heap.size w W' := by
  have cC := (callsIn_wide (n := 4)).1 (collect_in 4 (by omega) Bs sv zs hlen w hBs hc hI)
  go_enter Try.func84, Try.ntmps84
  go_wp2_with (go_at_call 96; refine cC.mono ?_; clear cC; rintro e W ⟨v, rfl, hrow, hnil, hb⟩)
  rcases hrow.2 with ⟨rfl, hz⟩ | ⟨gb, cap, cur, rfl, hbase, hgb, r1, r2, r3, r4⟩
  · have hz2 : zs = [] := List.eq_nil_of_length_eq_zero hz
    go_wp2_with (go_at_call 97; refine (Try.slices_Sort_int_none none 0 W).mono ?_; rintro e w' ⟨rfl, rfl⟩)
    go_ret
    exact ⟨_, rfl, .inl ⟨hz2, rfl⟩, hb⟩
  · have hH : Holds (Value.int .i64) W gb 0 zs.toArray := holds_of_blockI hgb (by simpa using r4)
    have hgl : gb < W.heap.size := (Array.getElem?_eq_some_iff.1 hgb).1
    have hne : zs ≠ [] := fun e => by have := hnil.2 e; cases this
    have cS := Try.slices_Sort_int gb 0 cap zs W hH hgl (by omega)
    go_wp2_with (go_at_call 97; refine cS.mono ?_; clear cS; rintro e w' ⟨rfl, nn, os, rfl⟩)
    go_ret
    refine ⟨_, rfl, .inr ⟨hne, gb, cap, rfl, r1, hbase, by simp; omega, fun j hj => ?_⟩, hb.grown (grownBy_sortedI _) hb.size (fun j hj => by cases hj; exact hbase)⟩
    have hsz : (sortI zs).toArray.size = zs.toArray.size := by simp [sortI_len]
    have hp := holds_putRow (Value.int .i64) (Sort.ahead W nn) gb 0 zs.toArray (sortI zs).toArray hH hsz j hj
    refine ⟨?_, ?_⟩
    · rw [← hp.1]
      exact World.cell?_of_block (heap_grow_old _ _ (by simpa using hgl))
    · rw [← hp.2]
      show (World.frozen? (grow (putRow (Value.int .i64) (Sort.ahead W nn) gb 0 (sortI zs).toArray) os) _) = _
      unfold World.frozen?
      rw [heap_grow_old _ _ (by simpa using hgl)]

/-- what slices.Compact hands back of it -/
def UpsAt (w w' : World) (v : Value) (zs : List Int) : Prop :=
  (zs = [] ∧ v = .slice none 0 0) ∨ (zs ≠ [] ∧ ∃ g cap, v = .slice (some ⟨g, 0, none⟩) (ups zs).length cap ∧ w.heap.size ≤ g ∧ g < w'.heap.size ∧ ∀ j, j < (ups zs).length → w'.cell? ⟨g, j, none⟩ = some (.int .i64 ((ups zs)[j]?.getD 0)))
theorem compact_any (v : Value) (zs : List Int) (hlen : zs.length ≤ 1000000) (w W : World) (hs : SortedAt w W v zs) (hb : Below w.heap.size w W) :
    Calls Try.prog 83 #[v] W fun e W' => ∃ v', e = .returned v' ∧ UpsAt w W' v' zs ∧ Below w.heap.size w W' := by
  rcases hs with ⟨h0, rfl⟩ | ⟨hne, g, cap, rfl, hcap, hg, hgw, hH⟩
  · refine (Try.slices_Compact_int_empty none 0 W).mono ?_
    rintro e w' ⟨rfl, rfl⟩
    exact ⟨_, rfl, .inl ⟨h0, rfl⟩, hb⟩
  · have hl := sortI_len zs
    have c := Try.slices_Compact_int g 0 cap (sortI zs) W hH (by omega) (by omega)
    rw [hl] at c
    refine c.mono ?_
    rintro e w' ⟨rfl, q, rfl⟩
    have hul : (ups zs).length ≤ zs.length := ups_len zs
    have hsz : (Lib.compact (sortI zs) ++ List.replicate ((sortI zs).length - (Lib.compact (sortI zs)).length) (0 : Int)).toArray.size = (sortI zs).toArray.size := by
      have : (Lib.compact (sortI zs)).length = (ups zs).length := rfl
      simp; omega
    rw [← hl]
    refine ⟨_, rfl, .inr ⟨hne, g, cap, rfl, hg, by simpa using hgw, fun j hj => ?_⟩, hb.grown (row := some g) (by have h := grownBy_sortedI (w := W) (g := g) (n := q) (os := #[]) (Lib.compact (sortI zs) ++ List.replicate ((sortI zs).length - (Lib.compact (sortI zs)).length) (0 : Int)).toArray; rw [grow_empty] at h; exact h) hb.size (fun j hj => by cases hj; exact hg)⟩
    have hp := (holds_putRow (Value.int .i64) (Sort.ahead W q) g 0 (sortI zs).toArray _ hH hsz j (by rw [hsz]; simp; omega)).1
    rw [Nat.zero_add] at hp
    rw [hp]
    have e : (Lib.compact (sortI zs) ++ List.replicate ((sortI zs).length - (Lib.compact (sortI zs)).length) (0 : Int)).toArray[j]! = (ups zs)[j]?.getD 0 := by
      have hj' : j < (Lib.compact (sortI zs)).length := hj
      show _ = (Lib.compact (sortI zs))[j]?.getD 0
      simp [List.getElem?_append_left hj', hj']
    rw [e]

theorem values_any (a : Option Addr) (len cap : Nat) (w : World) :
    Calls Try.prog 85 #[.slice a len cap] w fun e w' => e = .returned (.func (.func 98) #[] #[.pointer (some ⟨w.heap.size, 0, none⟩)]) ∧ w' = w.alloc (.cells #[.slice a len cap] 50) :=
  (callsIn_wide (n := 2)).1 (Vl.values_in Fence.wide 2 trivial rfl a len cap w)

end Go.Proofs.Ytmojnopgpgnfeaa

namespace Go.Proofs.Ytmojnopgpgnfeaa
open Go.RowKit
set_option linter.unusedVariables false
set_option linter.unusedSimpArgs false

/-- the arc that is looked for, in its box -/
structure ArcAt (w : World) (B : Nat) (v : Value) (b x : Int) : Prop where
  c0 : w.cell? ⟨B, 0, none⟩ = some v
  c1 : w.cell? ⟨B, 1, none⟩ = some (.int .i64 b)
  c2 : w.cell? ⟨B, 2, none⟩ = some (.int .i64 x)
  f0 : w.frozen? ⟨B, 0, none⟩ = false
  f1 : w.frozen? ⟨B, 1, none⟩ = false
  f2 : w.frozen? ⟨B, 2, none⟩ = false
theorem ArcAt.new (w : World) (v : Value) (b x : Int) (T : TypeId) : ArcAt (w.alloc (.cells #[v, .int .i64 b, .int .i64 x] T)) w.heap.size v b x :=
  ⟨alloc_new rfl rfl, alloc_new rfl rfl, alloc_new rfl rfl, alloc_newF rfl, alloc_newF rfl, alloc_newF rfl⟩
theorem ArcAt.keep {C B : Nat} {W w1 : World} {v : Value} {b x : Int} (s : ArcAt W B v b x) (hb : Below C W w1) (h : B < C) : ArcAt w1 B v b x :=
  ⟨keepB hb h s.c0, keepB hb h s.c1, keepB hb h s.c2, keepF hb h s.f0, keepF hb h s.f1, keepF hb h s.f2⟩
theorem frz {w : World} {p q : Addr} {u : Value} (hc : w.frozen? p = false) : (w.setCell q u).frozen? p = false := by rw [World.frozen?_setCell]; exact hc
theorem ArcAt.set {B : Nat} {W : World} {v : Value} {b x b2 x2 : Int} (s : ArcAt W B v b x) : ArcAt ((W.setCell ⟨B, 1, none⟩ (.int .i64 b2)).setCell ⟨B, 2, none⟩ (.int .i64 x2)) B v b2 x2 :=
  ⟨set_other (by decide) (set_other (by decide) s.c0), set_other (by decide) (set_same s.c1), set_same (set_other (by decide) s.c2), frz (frz s.f0), frz (frz s.f1), frz (frz s.f2)⟩

theorem IntsL.vals {w : World} {v : Value} {xs : List Int} (h : IntsL w v xs) : Vl.Ints w.heap.size w v xs := by
  rcases h with h | ⟨b, off, cap, h1, h2, h3⟩
  · exact .inl h
  · exact .inr ⟨b, off, cap, h1, h2, h3⟩
theorem IntsL.slice {w : World} {v : Value} {xs : List Int} (h : IntsL w v xs) : ∃ a cap, v = .slice a xs.length cap := by
  rcases h with ⟨h1, h2⟩ | ⟨b, off, cap, h1, h2, h3⟩
  · exact ⟨none, 0, by rw [h1, h2]; rfl⟩
  · exact ⟨_, cap, h1⟩

/-- the three calls at the head of arcOf -/
theorem ups_call (w0 w : World) (a : Option Addr) (n cap : Nat) (zs : List Int) (hn : zs.length = n) (hlen : n ≤ 1000000) (hI : IntsL w (.slice a n cap) zs) (hb : Below w0.heap.size w0 w) :
    Calls Try.prog 85 #[.slice a n cap] w fun e W => ∃ f, e = .returned f ∧ Calls Try.prog 84 #[f] W fun e W => ∃ v, e = .returned v ∧ Calls Try.prog 83 #[v] W fun e W => ∃ v', e = .returned v' ∧ UpsAt w W v' zs ∧ Below w0.heap.size w0 W := by
  refine (values_any a n cap w).mono ?_
  rintro e W ⟨rfl, rfl⟩
  have b1 : Below w.heap.size w (w.alloc (.cells #[.slice a n cap] 50)) := below_alloc _ _
  have hz : (w.alloc (.cells #[.slice a n cap] 50)).heap.size = w.heap.size + 1 := World.size_alloc _ _
  refine ⟨_, rfl, (sorted_any w.heap.size (.slice a n cap) zs (by omega) _ (by omega) (alloc_new rfl rfl) ((hI.keep b1).vals)).mono ?_⟩
  rintro e W2 ⟨v, rfl, hs, hb2⟩
  have b2 : Below w.heap.size w W2 := b1.trans (hb2.mono (by omega))
  have hs2 : SortedAt w W2 v zs := by
    rcases hs with h | ⟨h0, g, c, h1, h2, h3, h4, h5⟩
    · exact .inl h
    · exact .inr ⟨h0, g, c, h1, h2, by omega, h4, h5⟩
  refine ⟨_, rfl, (compact_any v zs (by omega) w W2 hs2 b2).mono ?_⟩
  rintro e W3 ⟨v', rfl, hu, hb3⟩
  exact ⟨_, rfl, hu, hb.trans (hb3.mono hb.size)⟩

theorem ups_call2 (w0 w : World) (a : Option Addr) (n cap : Nat) (zs : List Int) (hn : zs.length = n) (hlen : n ≤ 1000000) (hI : IntsL w (.slice a n cap) zs) (hb : Below w0.heap.size w0 w) :
    Calls Try.prog 85 #[.slice a n cap] w fun e W => ∃ f, e = .returned f ∧ Calls Try.prog 84 #[f] W fun e W => ∃ v, e = .returned v ∧ Calls Try.prog 83 #[v] W fun e W => ∃ v', e = .returned v' ∧ UpsAt w W v' zs ∧ Below w.heap.size w W ∧ Below w0.heap.size w0 W := by
  refine (ups_call w w a n cap zs hn hlen hI (Below.refl _ _)).mono ?_
  rintro e W ⟨f, rfl, h⟩
  refine ⟨_, rfl, h.mono ?_⟩
  rintro e W2 ⟨v, rfl, h2⟩
  refine ⟨_, rfl, h2.mono ?_⟩
  rintro e W3 ⟨v', rfl, hu, hb3⟩
  exact ⟨_, rfl, hu, hb3, hb.trans (hb3.mono hb.size)⟩
theorem ArcAt.far {B C : Nat} {W : World} {v u1 u2 : Value} {b x : Int} (s : ArcAt W B v b x) (h : C ≠ B) : ArcAt ((W.setCell ⟨C, 1, none⟩ u1).setCell ⟨C, 2, none⟩ u2) B v b x :=
  ⟨cell_far h (cell_far h s.c0), cell_far h (cell_far h s.c1), cell_far h (cell_far h s.c2), frz (frz s.f0), frz (frz s.f1), frz (frz s.f2)⟩

set_option maxRecDepth 100000 in
set_option maxHeartbeats 6400000 in
theorem arcOf_none (a : Option Addr) (n cap : Nat) (w : World) (hn : n = 0) (hI : IntsL w (.slice a n cap) []) :
    Calls Try.prog 59 #[.slice a n cap] w fun e w' => e = .returned (.agg #[.slice a n cap, .int .i64 0, .int .i64 0]) ∧ Below w.heap.size w w' := by
  subst hn
  have hc := ups_call2 w (w.alloc (.cells #[.slice none 0 0, .int .i64 0, .int .i64 0] 107)) a 0 cap [] rfl (by omega) (hI.keep (below_alloc _ _)) (below_alloc _ _)
  have hz : (w.alloc (.cells #[.slice none 0 0, .int .i64 0, .int .i64 0] 107)).heap.size = w.heap.size + 1 := World.size_alloc _ _
  have hA := Lib.hid (ArcAt.new w (.slice none 0 0) 0 0 107)
  clear hI
  go_enter Try.func59, Try.ntmps59
  go_wp2_with fail
  refine hc.mono ?_; clear hc; rintro e W1 ⟨f, rfl, hc⟩
  go_wp2_with fail
  refine hc.mono ?_; clear hc; rintro e W2 ⟨v, rfl, hc⟩
  go_wp2_with fail
  refine hc.mono ?_; clear hc; rintro e W ⟨v', rfl, hu, hb, hb0⟩
  rcases hu with ⟨_, rfl⟩ | ⟨hne, _⟩
  · have hwz : w.heap.size + 1 ≤ W.heap.size := by have := hb.size; omega
    go_wp2
    obtain ⟨V, hV⟩ : ∃ V, V = W.alloc (.cells #[.slice a 0 cap, .int .i64 0, .int .i64 0] 107) := ⟨_, rfl⟩
    have hB2 : ArcAt V W.heap.size (.slice a 0 cap) 0 0 := by rw [hV]; exact ArcAt.new _ _ _ _ _
    have hbW : Below W.heap.size W V := by rw [hV]; exact below_alloc _ _
    have hbV : Below w.heap.size w V := hb0.trans (hbW.mono (by omega))
    have hA2 : ArcAt V w.heap.size (.slice none 0 0) 0 0 := (hA.out.keep hb (by omega)).keep hbW (by omega)
    have hzV : W.heap.size < V.heap.size := by rw [hV, World.size_alloc]; omega
    have y0 : w.heap.size < V.heap.size := by omega
    rw [← hV]
    clear hV hA
    go_loopw [17] (fun i wr => i = .int .i64 0 ∧ wr = V) (fun _ _ => 0)
    case atStart => exact ⟨rfl, rfl⟩
    case round =>
      obtain ⟨rfl, rfl⟩ := hrel
      obtain ⟨r0, r1, r2, g0, g1, g2⟩ := hA2
      obtain ⟨c0, c1, c2, f0, f1, f2⟩ := hB2
      go_wp2
      exact bodyPost_ret (v := .agg #[.slice a 0 cap, .int .i64 0, .int .i64 0]) (by simp [results, Try.results59, go_sem, set_same (i := 0) (v := .slice a 0 cap) r0, set_other (i := 1) (j := 0) (v := .int .i64 0) (by decide) (set_same (i := 0) (v := .slice a 0 cap) r0), set_other (i := 2) (j := 0) (v := .int .i64 0) (by decide) (set_other (i := 1) (j := 0) (v := .int .i64 0) (by decide) (set_same (i := 0) (v := .slice a 0 cap) r0)), set_same (i := 1) (v := .int .i64 0) (set_other (i := 0) (j := 1) (v := .slice a 0 cap) (by decide) r1), set_other (i := 2) (j := 1) (v := .int .i64 0) (by decide) (set_same (i := 1) (v := .int .i64 0) (set_other (i := 0) (j := 1) (v := .slice a 0 cap) (by decide) r1)), set_same (i := 2) (v := .int .i64 0) (set_other (i := 1) (j := 2) (v := .int .i64 0) (by decide) (set_other (i := 0) (j := 2) (v := .slice a 0 cap) (by decide) r2))]) rfl ⟨rfl, (((hbV.setCell (p := ⟨w.heap.size, 0, none⟩) (by dsimp only; omega) _).setCell (p := ⟨w.heap.size, 1, none⟩) (by dsimp only; omega) _).setCell (p := ⟨w.heap.size, 2, none⟩) (by dsimp only; omega) _)⟩
  · exact absurd rfl hne

set_option maxRecDepth 100000 in
set_option maxHeartbeats 6400000 in
theorem arcOf_some (b off n cap : Nat) (zs : List Int) (w : World) (hn : zs.length = n) (hlen : n ≤ 1000000) (hne0 : zs ≠ []) (hp : ∀ x, x ∈ zs → 0 ≤ x ∧ x < 65536) (hI : IntsL w (.slice (some ⟨b, off, none⟩) n cap) zs) :
    Calls Try.prog 59 #[.slice (some ⟨b, off, none⟩) n cap] w fun e w' => e = .returned (.agg #[.slice (some ⟨b, off, none⟩) n cap, .int .i64 (arcB zs), .int .i64 (arcW zs)]) ∧ Below w.heap.size w w' := by
  have hc := ups_call2 w (w.alloc (.cells #[.slice none 0 0, .int .i64 0, .int .i64 0] 107)) (some ⟨b, off, none⟩) n cap zs hn hlen (hI.keep (below_alloc _ _)) (below_alloc _ _)
  have hz : (w.alloc (.cells #[.slice none 0 0, .int .i64 0, .int .i64 0] 107)).heap.size = w.heap.size + 1 := World.size_alloc _ _
  have hA := Lib.hid (ArcAt.new w (.slice none 0 0) 0 0 107)
  obtain ⟨ss, hss⟩ : ∃ ss, ss = ups zs := ⟨_, rfl⟩
  obtain ⟨hup1, hup2⟩ := ups_is zs
  have hul := ups_len zs
  have hun := ups_nil hne0
  rw [← hss] at hup1 hup2 hul hun
  have HP := Lib.hid (show ∀ x, x ∈ ss → 0 ≤ x ∧ x < 65536 from fun x hx => hp x ((hup2 x).1 hx))
  have HU := Lib.hid (And.intro hup1 hup2)
  clear hI hp hup1 hup2
  obtain ⟨aB, haB⟩ : ∃ x, x = arcB zs := ⟨_, rfl⟩
  obtain ⟨aW, haW⟩ : ∃ x, x = arcW zs := ⟨_, rfl⟩
  have HAB := Lib.hid (And.intro haB haW)
  rw [← haB, ← haW]
  clear haB haW
  go_enter Try.func59, Try.ntmps59
  go_wp2_with fail
  refine hc.mono ?_; clear hc; rintro e W1 ⟨f, rfl, hc⟩
  go_wp2_with fail
  refine hc.mono ?_; clear hc; rintro e W2 ⟨v, rfl, hc⟩
  go_wp2_with fail
  refine hc.mono ?_; clear hc; rintro e W ⟨v', rfl, hu, hb, hb0⟩
  rcases hu with ⟨h0, _⟩ | ⟨_, g, cap2, rfl, hg, hgw, hcell⟩
  · exact absurd h0 hne0
  · rw [← hss] at hcell ⊢
    have HC := Lib.hid hcell
    obtain ⟨m, hm⟩ : ∃ m, m = ss.length := ⟨_, rfl⟩
    rw [← hm] at hul hun ⊢
    have HM := Lib.hid hm
    clear hcell hm hss
    have hwz : w.heap.size + 1 ≤ W.heap.size := by have := hb.size; omega
    go_wp2
    obtain ⟨V, hV⟩ : ∃ V, V = W.alloc (.cells #[.slice (some ⟨b, off, none⟩) n cap, .int .i64 0, .int .i64 0] 107) := ⟨_, rfl⟩
    have hB2 : ArcAt V W.heap.size (.slice (some ⟨b, off, none⟩) n cap) 0 0 := by rw [hV]; exact ArcAt.new _ _ _ _ _
    have hbW : Below W.heap.size W V := by rw [hV]; exact below_alloc _ _
    have hbV : Below w.heap.size w V := hb0.trans (hbW.mono (by omega))
    have hA2 : ArcAt V w.heap.size (.slice none 0 0) 0 0 := (hA.out.keep hb (by omega)).keep hbW (by omega)
    have hzV : W.heap.size < V.heap.size := by rw [hV, World.size_alloc]; omega
    have y0 : w.heap.size < V.heap.size := by omega
    rw [← hV]
    clear hV hA
    go_loopw [17] (fun i wr => ∃ k : Nat, ∃ bb ww : Int, k ≤ m ∧ i = .int .i64 k ∧ ArcAt wr W.heap.size (.slice (some ⟨b, off, none⟩) n cap) bb ww ∧ ArcAt wr w.heap.size (.slice none 0 0) 0 0 ∧ W.heap.size < wr.heap.size ∧ Below w.heap.size w wr ∧ Below W.heap.size W wr ∧ ((k = 0 ∧ bb = 0 ∧ ww = 0) ∨ (0 < k ∧ Best ss k bb ww)) ∧ 0 ≤ ww ∧ ww < 65536) (fun i _ => m - (intOf i).toNat)
    case atStart => exact ⟨0, 0, 0, Nat.zero_le _, rfl, hB2, hA2, hzV, hbV, hbW, .inl ⟨rfl, rfl, rfl⟩, by decide, by decide⟩
    case round =>
      obtain ⟨k, bb, ww, hk, rfl, hB, hA3, hz3, hbw, hbW3, hbest, w0, w1⟩ := hrel
      have HB := Lib.hid hbest
      have HA := Lib.hid hA3
      have HBB := Lib.hid hB
      clear hbest
      obtain ⟨c0, c1, c2, f0, f1, f2⟩ := hB
      by_cases hlt : k < m
      · clear hA3
        obtain ⟨q, hq⟩ : ∃ q, q = (k + ss.length - 1) % ss.length := ⟨_, rfl⟩
        have hm := HM.out
        have hqm : q < m := by rw [hq, ← hm]; exact Nat.mod_lt _ (by omega)
        have hgr : g < wr.heap.size := Nat.lt_of_lt_of_le hgw hbW3.size
        have zk := keepB hbW3 hgw (HC.out k (by omega))
        have zq := keepB hbW3 hgw (HC.out q (by omega))
        obtain ⟨xk, hxk⟩ : ∃ x, x = ss[k]?.getD 0 := ⟨_, rfl⟩
        obtain ⟨xq, hxq⟩ : ∃ x, x = ss[q]?.getD 0 := ⟨_, rfl⟩
        have hgap : gapN ss k = (xq - xk) % 65536 := by rw [hxk, hxq, hq]; rfl
        have bk : 0 ≤ xk ∧ xk < 65536 := by rw [hxk, List.getElem?_eq_getElem (by omega)]; exact HP.out _ (List.getElem_mem _)
        have bq : 0 ≤ xq ∧ xq < 65536 := by rw [hxq, List.getElem?_eq_getElem (by omega)]; exact HP.out _ (List.getElem_mem _)
        rw [← hxk] at zk
        rw [← hxq] at zq
        have i0 : IntKind.i64.wrap ((k : Int) + (m : Int)) = (k : Int) + (m : Int) := IntWalk.i64_in _ (by omega)
        have i1 : IntKind.i64.wrap ((k : Int) + (m : Int) - 1) = (k : Int) + (m : Int) - 1 := IntWalk.i64_in _ (by omega)
        have i2 : ((k : Int) + (m : Int) - 1).tmod (m : Int) = (q : Int) := by
          rw [Int.tmod_eq_emod_of_nonneg (by omega), show (k : Int) + (m : Int) - 1 = ((k + m - 1 : Nat) : Int) by omega, ← Int.natCast_emod, hq, ← hm]
        have i3 : IntKind.i64.wrap (xq - xk) = xq - xk := IntWalk.i64_in _ (by omega)
        have i4 : ((q : Int)).toNat = q := by omega
        have hmz : ((m : Int) == 0) = false := by rw [beq_eq_false_iff_ne]; omega
        obtain ⟨gp, hgp⟩ : ∃ x, x = (xq - xk) % 65536 := ⟨_, rfl⟩
        have gb : 0 ≤ gp ∧ gp < 65536 := by omega
        have HG := Lib.hid (hgap.trans hgp.symm)
        have HX := Lib.hid hxk
        have HGP := Lib.hid hgp
        clear hgap hgp hxk hxq hq hm
        have y0 : W.heap.size < wr.heap.size := hz3
        rcases Nat.eq_zero_or_pos k with hk0 | hk0
        · have hkz : ((k : Int) == 0) = true := by rw [beq_iff_eq]; omega
          have HE := Lib.hid (show Best ss (k + 1) xk gp by rw [hk0, HX.out, ← HG.out, hk0]; exact Best.first ss)
          clear hk0
          go_wp2_with (go_at_call 86; refine (modulo_any _ _ (by omega) (by omega)).mono ?_; rw [← HGP.out]; rintro e w' ⟨rfl, rfl⟩)
          go_roundw
          case rel => exact ⟨k + 1, xk, gp, by omega, by go_num, (HBB.out).set, ((HA.out).far (by omega)), by simpa using hz3, (hbw.setCell (p := ⟨W.heap.size, 1, none⟩) (by dsimp only; omega) _).setCell (p := ⟨W.heap.size, 2, none⟩) (by dsimp only; omega) _, (hbW3.setCell (p := ⟨W.heap.size, 1, none⟩) (by dsimp only; omega) _).setCell (p := ⟨W.heap.size, 2, none⟩) (by dsimp only; omega) _, .inr ⟨by omega, HE.out⟩, gb.1, gb.2⟩
          case measure => simp [intOf]; omega
        · have hkz : ((k : Int) == 0) = false := by rw [beq_eq_false_iff_ne]; omega
          have hbst : Best ss k bb ww := by
            rcases HB.out with ⟨h, _⟩ | ⟨_, h⟩
            · omega
            · exact h
          by_cases hl : gp < ww
          · have hl2 : decide (gp < ww) = true := decide_eq_true hl
            have HE := Lib.hid (show Best ss (k + 1) xk gp by rw [HX.out, ← HG.out]; exact hbst.less (by rw [HG.out]; exact hl))
            clear hbst
            go_wp2_with (go_at_call 86; refine (modulo_any _ _ (by omega) (by omega)).mono ?_; rw [← HGP.out]; rintro e w' ⟨rfl, rfl⟩)
            go_roundw
            case rel => exact ⟨k + 1, xk, gp, by omega, by go_num, (HBB.out).set, ((HA.out).far (by omega)), by simpa using hz3, (hbw.setCell (p := ⟨W.heap.size, 1, none⟩) (by dsimp only; omega) _).setCell (p := ⟨W.heap.size, 2, none⟩) (by dsimp only; omega) _, (hbW3.setCell (p := ⟨W.heap.size, 1, none⟩) (by dsimp only; omega) _).setCell (p := ⟨W.heap.size, 2, none⟩) (by dsimp only; omega) _, .inr ⟨by omega, HE.out⟩, gb.1, gb.2⟩
            case measure => simp [intOf]; omega
          · have hl2 : decide (gp < ww) = false := decide_eq_false hl
            have HE := Lib.hid (show Best ss (k + 1) bb ww from hbst.more (by rw [HG.out]; exact hl))
            clear hbst
            go_wp2_with (go_at_call 86; refine (modulo_any _ _ (by omega) (by omega)).mono ?_; rw [← HGP.out]; rintro e w' ⟨rfl, rfl⟩)
            go_roundw
            case rel => exact ⟨k + 1, bb, ww, by omega, by go_num, HBB.out, HA.out, hz3, hbw, hbW3, .inr ⟨by omega, HE.out⟩, w0, w1⟩
            case measure => simp [intOf]; omega
      · have hkm : k = m := by omega
        subst hkm
        have hm := HM.out
        have hbst : Best ss ss.length bb ww := by
          rcases HB.out with ⟨h, _⟩ | ⟨_, h⟩
          · omega
          · rw [← hm]; exact h
        obtain ⟨e1, e2⟩ := hbst.is HU.out.1 HP.out HU.out.2 hne0
        rw [← HAB.out.1] at e1
        rw [← HAB.out.2] at e2
        subst e1 e2
        clear hbst hm
        obtain ⟨r0, r1, r2, g0, g1, g2⟩ := hA3
        have y0 : w.heap.size < wr.heap.size := by omega
        go_wp2
        exact bodyPost_ret (v := .agg #[.slice (some ⟨b, off, none⟩) n cap, .int .i64 bb, .int .i64 ww]) (by simp [results, Try.results59, go_sem, set_same (i := 0) (v := .slice (some ⟨b, off, none⟩) n cap) r0, set_other (i := 1) (j := 0) (v := .int .i64 bb) (by decide) (set_same (i := 0) (v := .slice (some ⟨b, off, none⟩) n cap) r0), set_other (i := 2) (j := 0) (v := .int .i64 ww) (by decide) (set_other (i := 1) (j := 0) (v := .int .i64 bb) (by decide) (set_same (i := 0) (v := .slice (some ⟨b, off, none⟩) n cap) r0)), set_same (i := 1) (v := .int .i64 bb) (set_other (i := 0) (j := 1) (v := .slice (some ⟨b, off, none⟩) n cap) (by decide) r1), set_other (i := 2) (j := 1) (v := .int .i64 ww) (by decide) (set_same (i := 1) (v := .int .i64 bb) (set_other (i := 0) (j := 1) (v := .slice (some ⟨b, off, none⟩) n cap) (by decide) r1)), set_same (i := 2) (v := .int .i64 ww) (set_other (i := 1) (j := 2) (v := .int .i64 bb) (by decide) (set_other (i := 0) (j := 2) (v := .slice (some ⟨b, off, none⟩) n cap) (by decide) r2))]) rfl ⟨rfl, (((hbw.setCell (p := ⟨w.heap.size, 0, none⟩) (by dsimp only; omega) _).setCell (p := ⟨w.heap.size, 1, none⟩) (by dsimp only; omega) _).setCell (p := ⟨w.heap.size, 2, none⟩) (by dsimp only; omega) _)⟩


end Go.Proofs.Ytmojnopgpgnfeaa
