/-
  Rows of RainBack.
-/
import Derived.Test.YtdmbkhmhaininaaBM
import Derived.Test.YtdmbkhmhaininaaSM
import Derived.Test.YtdmbkhmhaininaaDR
import Derived.Test.YtdmbkhmhaininaaP
import Derived.Test.YtdmbkhmhaininaaWK
namespace Go.Proofs.Ytdmbkhmhaininaa
open Go.RowKit
set_option linter.unusedVariables false
set_option linter.unusedSimpArgs false

theorem info3 : (Try.prog.info? 3).map (fun i => (i.zero, i.size, i.bytes)) = some (some (.int .i64 0), 1, 8) := by kernel_rfl
/-- numbers in a row -/
def nuv (ps : Nat → Int) : Nat → List Value
  | 0 => []
  | j + 1 => nuv ps j ++ [.int .i64 (ps j)]
theorem nuv_len (ps : Nat → Int) (j : Nat) : (nuv ps j).length = j * 1 := by
  induction j with
  | zero => rfl
  | succ j ih => unfold nuv; rw [List.length_append, ih]; simp
theorem nuv_get (ps : Nat → Int) (n k : Nat) (h : k < n) : (nuv ps n)[k]? = some (.int .i64 (ps k)) := by
  induction n with
  | zero => omega
  | succ n ih =>
    have hl := nuv_len ps n
    by_cases e : k = n
    · subst e
      unfold nuv
      rw [List.getElem?_append_right (by omega), hl, show k - k * 1 = 0 by omega]; rfl
    · have := ih (by omega)
      unfold nuv
      rw [List.getElem?_append_left (by omega)]
      exact this
structure NuRel (w wr : World) (k : Nat) (v : Value) (ps : Nat → Int) : Prop where
  own : wr.ownsRow w.heap.size 3 1 v k (nuv ps k)
  nil : k = 0 → v = .slice none 0 0
  b : Below w.heap.size w wr
theorem NuRel.put {w W W1 w1 : World} {k : Nat} {v v' : Value} {ps : Nat → Int} (R : NuRel w W k v ps) (hW : Below w.heap.size W W1) (hg : W1.grownBy w1 v.ownBlock) (ho : w1.ownsRow w.heap.size 3 1 v' (k + 1) (nuv ps k ++ [.int .i64 (ps k)])) : NuRel w w1 (k + 1) v' ps :=
  ⟨ho, fun h => absurd h (by omega), R.b.trans (Below.grown hW hg (by have := hW.size; have := R.b.size; omega) (fun k hk => (R.own.lt k hk).1))⟩
theorem own_nums {w : World} {base n : Nat} {v : Value} {ps : Nat → Int} (h : w.ownsRow base 3 1 v n (nuv ps n)) (h0 : n = 0 → v = .slice none 0 0) : ∃ (a : Option Addr) (cap : Nat), v = .slice a n cap ∧ PowIs w a n ps := by
  by_cases hn : n = 0
  · subst hn
    exact ⟨none, 0, h0 rfl, .inl rfl⟩
  · obtain ⟨b, cap, rfl, hb1, hb2⟩ := h.form (by omega)
    refine ⟨_, cap, rfl, .inr ⟨b, 0, rfl, hb2, fun i hi => ?_⟩⟩
    rw [Nat.zero_add, h.cellAt i (by omega)]; exact nuv_get _ n i hi
theorem cell_1_new (w : World) (x : Value) (t : TypeId) : ∀ j v, [x][j]? = some v → (w.alloc (.cells #[x] t)).cell? ((⟨w.heap.size, 0, none⟩ : Addr).add j) = some v := by
  intro j v hj
  match j, hj with
  | 0, hj => simp at hj; subst hj; simp [Addr.add]
/-- two rows of spans that grow side by side -/
def Apart2 (u v : Value) : Prop := ∀ q, u.ownBlock = some q → v.ownBlock ≠ some q
structure BkR (L W : World) (k : Nat) (v u : Value) (xs ys : Nat → Int × Int) : Prop where
  o1 : W.ownsRow L.heap.size 24 2 v k (spv (fun j => (xs j).1) (fun j => (xs j).2) k)
  o2 : W.ownsRow L.heap.size 24 2 u k (spv (fun j => (ys j).1) (fun j => (ys j).2) k)
  n1 : k = 0 → v = .slice none 0 0
  n2 : k = 0 → u = .slice none 0 0
  ap : Apart2 v u
  b : Below L.heap.size L W
/-- the same, when the first has grown -/
structure BkM (L W : World) (k : Nat) (v u : Value) (xs ys : Nat → Int × Int) : Prop where
  o1 : W.ownsRow L.heap.size 24 2 v (k + 1) (spv (fun j => (xs j).1) (fun j => (xs j).2) (k + 1))
  o2 : W.ownsRow L.heap.size 24 2 u k (spv (fun j => (ys j).1) (fun j => (ys j).2) k)
  ap : Apart2 v u
  b : Below L.heap.size L W
theorem BkR.new (L : World) (xs ys : Nat → Int × Int) : BkR L L 0 (.slice none 0 0) (.slice none 0 0) xs ys := ⟨World.ownsRow_nil _ _ _ _, World.ownsRow_nil _ _ _ _, fun _ => rfl, fun _ => rfl, fun q h => by simp [Value.ownBlock] at h, Below.refl _ _⟩
theorem BkR.keep {L W w1 : World} {k : Nat} {v u : Value} {xs ys : Nat → Int × Int} (R : BkR L W k v u xs ys) (hb : Below W.heap.size W w1) : BkR L w1 k v u xs ys := ⟨owns_keep R.o1 hb, owns_keep R.o2 hb, R.n1, R.n2, R.ap, R.b.trans (hb.mono R.b.size)⟩
theorem BkM.keep {L W w1 : World} {k : Nat} {v u : Value} {xs ys : Nat → Int × Int} (R : BkM L W k v u xs ys) (hb : Below W.heap.size W w1) : BkM L w1 k v u xs ys := ⟨owns_keep R.o1 hb, owns_keep R.o2 hb, R.ap, R.b.trans (hb.mono R.b.size)⟩
theorem row_setc {w : World} {base T size n q j : Nat} {v x : Value} {xs : List Value} (h : w.ownsRow base T size v n xs) (hq : v.ownBlock ≠ some q) : (w.setCell ⟨q, j, none⟩ x).ownsRow base T size v n xs := by
  refine ⟨h.1, ?_⟩
  rcases h.2 with hn | ⟨g, cap, cur, rfl, h1, h2, rest⟩
  · exact .inl hn
  · refine .inr ⟨g, cap, cur, rfl, h1, ?_, rest⟩
    have hne : q ≠ g := fun e => hq (by simp [Value.ownBlock, e])
    have e : (w.setCell ⟨q, j, none⟩ x).heap[g]? = w.heap[g]? := by
      unfold World.setCell
      simp only [Array.getElem?_modify]
      rw [if_neg (by omega)]
    rw [e]; exact h2
theorem BkM.setq {L W : World} {k q j : Nat} {v u x : Value} {xs ys : Nat → Int × Int} (R : BkM L W k v u xs ys) (h1 : v.ownBlock ≠ some q) (h2 : u.ownBlock ≠ some q) (hq : L.heap.size ≤ q) : BkM L (W.setCell ⟨q, j, none⟩ x) k v u xs ys :=
  ⟨row_setc R.o1 h1, row_setc R.o2 h2, R.ap, R.b.setCell (p := ⟨q, j, none⟩) (by dsimp only; omega) _⟩
theorem grow_two {L W W1 w1 : World} {k j m : Nat} {v u v' : Value} {xs us ys : List Value} (hrow : W.ownsRow L.heap.size 24 2 v k xs) (hoth : W.ownsRow L.heap.size 24 2 u j us) (hd : ∀ q, v.ownBlock = some q → u.ownBlock ≠ some q) (hn : L.heap.size ≤ W.heap.size) (hW : Below W.heap.size W W1) (hgrow : W1.grownBy w1 v.ownBlock) (hown : w1.ownsRow L.heap.size 24 2 v' m ys) (hat : v'.ownBlock = v.ownBlock ∨ v'.ownBlock = some W1.heap.size) :
    w1.ownsRow L.heap.size 24 2 u j us ∧ (∀ q, v'.ownBlock = some q → u.ownBlock ≠ some q) ∧ Below L.heap.size W w1 := by
  have hoth2 := owns_keep hoth hW
  have sW := hW.size
  refine ⟨hoth2.kept hgrow ?_, ?_, Below.grown (hW.mono hn) hgrow (by omega) fun j ej => (hrow.lt j ej).1⟩
  · cases hu : u.ownBlock with
    | none => exact .inl rfl
    | some q => exact .inr fun e => hd q e.symm hu
  · intro q hq e
    rcases hat with h | h
    · exact hd q (h ▸ hq) e
    · rw [h] at hq
      have h1 : W1.heap.size = q := by injection hq
      have h2 := (hoth.lt q e).2
      omega
theorem BkR.put1 {L W W1 w1 : World} {k : Nat} {v u v' : Value} {xs ys : Nat → Int × Int} {x y : Int} (R : BkR L W k v u xs ys) (hx : (xs k).1 = x) (hy : (xs k).2 = y) (hW : Below W.heap.size W W1) (hg : W1.grownBy w1 v.ownBlock) (ho : w1.ownsRow L.heap.size 24 2 v' (k + 1) (spv (fun j => (xs j).1) (fun j => (xs j).2) k ++ [.int .i64 x, .int .i64 y])) (hat : v'.ownBlock = v.ownBlock ∨ v'.ownBlock = some W1.heap.size) : BkM L w1 k v' u xs ys := by
  obtain ⟨a, b, c⟩ := grow_two R.o1 R.o2 R.ap R.b.size hW hg ho hat
  subst hx hy
  exact ⟨ho, a, b, R.b.trans c⟩
theorem BkM.put2 {L W W1 w1 : World} {k : Nat} {v u u' : Value} {xs ys : Nat → Int × Int} {x y : Int} (R : BkM L W k v u xs ys) (hx : (ys k).1 = x) (hy : (ys k).2 = y) (hW : Below W.heap.size W W1) (hg : W1.grownBy w1 u.ownBlock) (ho : w1.ownsRow L.heap.size 24 2 u' (k + 1) (spv (fun j => (ys j).1) (fun j => (ys j).2) k ++ [.int .i64 x, .int .i64 y])) (hat : u'.ownBlock = u.ownBlock ∨ u'.ownBlock = some W1.heap.size) : BkR L w1 (k + 1) v u' xs ys := by
  obtain ⟨a, b, c⟩ := grow_two R.o2 R.o1 (fun q h1 h2 => R.ap q h2 h1) R.b.size hW hg ho hat
  subst hx hy
  exact ⟨a, ho, fun h => absurd h (by omega), fun h => absurd h (by omega), fun q h1 h2 => b q h2 h1, R.b.trans c⟩
/-- the powers, and the measures that are wider, and greater -/
def powB (cs : Nat → Int) (j : Nat) : Int := cs j % 1073741825
def widB (m : Nat → Int × Int) (un : Nat) (us : Nat → Int) (j : Nat) : Int × Int := (max 0 ((m j).1 - nthC un us (2 * j) % 1000), min 1073741824 ((m j).2 + nthC un us (2 * j + 1) % 1000))
def morB (ws : Nat → Int × Int) (gn : Nat) (gs : Nat → Int) (j : Nat) : Int × Int := if j < gn then (min 1073741824 ((ws j).1 + gs j), min 1073741824 ((ws j).2 + gs j)) else ws j
theorem powB_bd (cs : Nat → Int) (j : Nat) : 0 ≤ powB cs j ∧ powB cs j ≤ 1073741824 := by
  have a := Int.emod_nonneg (cs j) (b := 1073741825) (by decide)
  have b := Int.emod_lt_of_pos (cs j) (b := 1073741825) (by decide)
  unfold powB; omega
theorem widB_in {m : Nat → Int × Int} {un : Nat} {us : Nat → Int} {k : Nat} (h : MesOk m k) : MesOk (widB m un us) k ∧ ∀ j, j < k → (widB m un us j).1 ≤ (m j).1 ∧ (m j).2 ≤ (widB m un us j).2 := by
  have key : ∀ j, j < k → 0 ≤ (widB m un us j).1 ∧ (widB m un us j).1 ≤ (m j).1 ∧ (m j).2 ≤ (widB m un us j).2 ∧ (widB m un us j).2 ≤ 1073741824 := fun j hj => by
    have h0 := h j hj
    have a := Int.emod_nonneg (nthC un us (2 * j)) (b := 1000) (by decide)
    have b := Int.emod_nonneg (nthC un us (2 * j + 1)) (b := 1000) (by decide)
    unfold widB
    dsimp only
    omega
  exact ⟨fun j hj => by have := key j hj; have := h j hj; omega, fun j hj => by have := key j hj; omega⟩
theorem morB_in {ws : Nat → Int × Int} {gn : Nat} {gs : Nat → Int} {k : Nat} (h : MesOk ws k) (hg : ∀ j, 0 ≤ gs j) : MesOk (morB ws gn gs) k ∧ ∀ j, j < k → (ws j).1 ≤ (morB ws gn gs j).1 ∧ (ws j).2 ≤ (morB ws gn gs j).2 := by
  have key : ∀ j, j < k → (ws j).1 ≤ (morB ws gn gs j).1 ∧ (ws j).2 ≤ (morB ws gn gs j).2 ∧ (morB ws gn gs j).1 ≤ (morB ws gn gs j).2 ∧ (morB ws gn gs j).2 ≤ 1073741824 := fun j hj => by
    have h0 := h j hj
    have g := hg j
    unfold morB
    by_cases e : j < gn
    · rw [if_pos e]; dsimp only; omega
    · rw [if_neg e]; omega
  exact ⟨fun j hj => by have := key j hj; have := h j hj; omega, fun j hj => by have := key j hj; omega⟩
theorem mesC_zero {n : Nat} {zs : Nat → Int × Int} {m : Nat} {ms : Nat → Int × Int} (h : tabC n zs 32768 = 0) (hm : m ≤ 200) (hk : MesOk ms m) : rstC n zs m ms = 0 := by
  unfold rstC
  rw [if_neg (by rw [h]; decide), if_neg (by omega)]
  exact firstE_zero fun j hj => by unfold mesE; rw [spanB_true.2 (hk j hj)]; rfl
theorem pasC_zero {n : Nat} {zs : Nat → Int × Int} {m : Nat} {ps : Nat → Int} (h : tabC n zs 32768 = 0) (hm : m ≤ 200) (hk : ∀ j, j < m → 0 ≤ ps j ∧ ps j ≤ 1073741824) : passC n zs m ps = 0 := by
  unfold passC
  rw [if_neg (by rw [h]; decide), if_neg (by omega)]
  exact firstE_zero fun j hj => by unfold powE; rw [inB_true.2 (hk j hj)]; rfl

end Go.Proofs.Ytdmbkhmhaininaa
