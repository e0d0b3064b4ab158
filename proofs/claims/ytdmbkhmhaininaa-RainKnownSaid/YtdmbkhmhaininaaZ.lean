/-
  A region that draws its order: its head under a condition on the world, its tail in the one order that is left.
-/
import Derived.StillTail
import Derived.Deep.RegionHeld
namespace Go.Proofs.Ytdmbkhmhaininaa
set_option linter.unusedVariables false

section
variable {P : Program} {ops : Array Oper} {Q : Exit → Act → World → Prop} {md : Region.Mode} {S : World → Prop}

theorem wpAny_more : ∀ (f : Nat) (listed : Array Bool) (a : Act) (w : World), wpAny P md ops Q f listed a w → wpAny P md ops Q (f + 1) listed a w
  | 0, listed, a, w, h => ⟨fun _ => h.2, by rw [h.1]; intro i hi; cases hi⟩
  | f + 1, listed, a, w, h => ⟨h.1, fun i hi => wpOp_mono (fun a w => wpAny_more f _ a w) (h.2 i hi)⟩
theorem wpAny_mores {f : Nat} {listed : Array Bool} {a : Act} {w : World} (h : wpAny P md ops Q f listed a w) : ∀ d, wpAny P md ops Q (d + f) listed a w
  | 0 => by rw [Nat.zero_add]; exact h
  | d + 1 => by rw [show d + 1 + f = (d + f) + 1 by omega]; exact wpAny_more _ _ _ _ (wpAny_mores h d)

theorem wpOp_post {Q' : Exit → Act → World → Prop} (hp : ∀ c a w, Q' (.panic c) a w → Q (.panic c) a w) (ho : ∀ a w, Q' .outgrown a w → Q .outgrown a w) {i : Nat} {K : Act → World → Prop} {a : Act} {w : World} (h : wpOp P ops Q' i K a w) : wpOp P ops Q i K a w := by
  unfold wpOp at *
  cases hoi : ops[i]? with
  | none => simpa [hoi] using h
  | some o =>
    simp only [hoi] at h ⊢
    split
    · rename_i hw
      simp only [hw, if_true] at h
      rcases h with h | ⟨h1, a', w', h2⟩
      · left
        unfold Oper.wp at *
        generalize (execOp a.eval o).run P w = r at *
        cases r with
        | ok n w' =>
          cases n <;> simp only [Oper.upon] at h ⊢ <;>
            first
              | exact h
              | exact Calls.mono h (fun e w'' he => by cases e <;> first | exact he | exact hp _ _ _ he | exact (let ⟨x1, x2, x3⟩ := he; ⟨x1, x2, ho _ _ x3⟩))
        | halt x w' => cases x <;> simp only [Oper.upon] at h ⊢ <;> first | exact h | exact hp _ _ _ h | exact ho _ _ h
      · exact .inr ⟨h1, a', w', ho _ _ h2⟩
    · rename_i hw
      simp only [hw] at h
      exact h

/-- each operation waits only for earlier ones -/
def backB (md : Region.Mode) (ops : Array Oper) : Bool :=
  (List.range ops.size).all fun i => ((ops[i]?).map (·.after.all fun e => !Region.binds md e || decide (e.on < i))).getD true
theorem back_of (hb : backB md ops = true) {i : Nat} {o : Oper} (hi : ops[i]? = some o) : ∀ e ∈ o.after, Region.binds md e = true → e.on < i := by
  intro e he hbd
  have hlt := (Array.getElem?_eq_some_iff.1 hi).1
  have h1 := List.all_eq_true.1 hb i (List.mem_range.2 hlt)
  rw [hi] at h1
  simp only [Option.map_some, Option.getD_some] at h1
  have h2 := Array.all_eq_true'.1 h1 e he
  simpa [hbd] using h2

/-- what has come up, and the same with the tail struck -/
structure Struck (ops : Array Oper) (n : Nat) (listed L : Array Bool) : Prop where
  size : L.size = ops.size
  head : ∀ j, j < n → L.getD j true = listed.getD j true
  tail : ∀ j, n ≤ j → L.getD j true = true

theorem getD_tf {L : Array Bool} {j : Nat} (h : j < L.size) : L.getD j true = L.getD j false := by simp [h]

theorem least_ready {n : Nat} {listed L : Array Bool} (hb : backB md ops = true) (hn : n ≤ ops.size) (hs : listed.size = ops.size) (hL : Struck ops n listed L) :
    ∀ (d i : Nat), i = d → i < n → listed.getD i true = false → ∃ j, j < n ∧ j ∈ Region.ready md ops listed ∧ j ∈ Region.ready md ops L := by
  intro d
  induction d using Nat.strongRecOn with
  | _ d ih =>
    intro i hid hi hun
    obtain ⟨o, ho⟩ : ∃ o, ops[i]? = some o := ⟨ops[i]'(by omega), Array.getElem?_eq_getElem _⟩
    by_cases hall : ∀ e ∈ o.after, Region.binds md e = true → listed.getD e.on false = true
    · refine ⟨i, hi, mem_ready.2 ⟨hun, o, ho, hall⟩, mem_ready.2 ⟨by rw [hL.head i hi]; exact hun, o, ho, fun e he hbd => ?_⟩⟩
      have hlt := back_of hb ho e he hbd
      rw [← getD_tf (by rw [hL.size]; omega), hL.head _ (by omega), getD_tf (by omega)]
      exact hall e he hbd
    · obtain ⟨e, he⟩ := Classical.not_forall.1 hall
      obtain ⟨hm, he2⟩ := Classical.not_imp.1 he
      obtain ⟨hbd, hf⟩ := Classical.not_imp.1 he2
      have hlt := back_of hb ho e hm hbd
      have hf2 : listed.getD e.on true = false := by rw [getD_tf (by omega)]; simpa using hf
      exact ih e.on (by omega) e.on rfl (by omega) hf2

/-- what is to hold where the head is through: the tail's walk -/
def TailPost (P : Program) (ops : Array Oper) (Q : Exit → Act → World → Prop) (tl : List Oper) : Exit → Act → World → Prop
  | .normal, a, w => wpList P ops Q tl a w
  | e, a, w => Q e a w

theorem ready_struck {n i : Nat} {listed L : Array Bool} (hs : listed.size = ops.size) (hL : Struck ops n listed L) (hi : i < n) (h : i ∈ Region.ready md ops listed) : i ∈ Region.ready md ops L := by
  obtain ⟨hun, o, ho, hall⟩ := mem_ready.1 h
  refine mem_ready.2 ⟨by rw [hL.head i hi]; exact hun, o, ho, fun e he hbd => ?_⟩
  have h1 := hall e he hbd
  have hlt : e.on < listed.size := by
    rcases Nat.lt_or_ge e.on listed.size with h' | h'
    · exact h'
    · simp [Array.getElem?_eq_none h'] at h1
  rw [← getD_tf (by rw [hL.size]; omega)]
  rcases Nat.lt_or_ge e.on n with h' | h'
  · rw [hL.head _ h', getD_tf hlt]; exact h1
  · exact hL.tail _ h'

theorem held_tail {n g : Nat} {tl : List Oper} {done : Array Bool} (hb : backB md ops = true) (hs : Region.sinkB md ops n = true) (hc : Region.chainB md ops n = true) (hn : n < ops.size)
    (hdone : ∀ listed : Array Bool, HeadInv md ops n listed → (∀ j, j < n → listed.getD j true = true) → listed = done)
    (hseq : ∀ (a : Act) (w : World), wpList P ops Q tl a w → wpAny P md ops Q g done a w) :
    ∀ (f : Nat) (listed L : Array Bool) (a : Act) (w : World), HeadInv md ops n listed → Struck ops n listed L → wpAnyH P md ops (TailPost P ops Q tl) S f L a w → wpAny P md ops Q (f + g) listed a w := by
  intro f
  induction f with
  | zero =>
    intro listed L a w inv hL h
    rw [Nat.zero_add]
    have hall : ∀ j, j < n → listed.getD j true = true := fun j hj => by
      cases hh : listed.getD j true with
      | true => rfl
      | false =>
        obtain ⟨j2, _, _, h2⟩ := least_ready (md := md) hb (by omega) inv.size hL j j rfl hj hh
        rw [h.1] at h2; cases h2
    rw [hdone listed inv hall]
    exact hseq _ _ h.2
  | succ f ih =>
    intro listed L a w inv hL h
    by_cases hall : ∀ j, j < n → listed.getD j true = true
    · have hr : Region.ready md ops L = [] := by
        cases hrr : Region.ready md ops L with
        | nil => rfl
        | cons i rs =>
          have hi : i ∈ Region.ready md ops L := by rw [hrr]; exact List.mem_cons_self
          have hun := (mem_ready.1 hi).1
          rcases Nat.lt_or_ge i n with h' | h'
          · rw [hL.head i h', hall i h'] at hun; cases hun
          · rw [hL.tail i h'] at hun; cases hun
      rw [hdone listed inv hall]
      exact wpAny_mores (hseq _ _ (h.1 hr)) (f + 1)
    · obtain ⟨i0, hi0⟩ := Classical.not_forall.1 hall
      obtain ⟨hi0n, hi0f⟩ := Classical.not_imp.1 hi0
      have hun0 : listed.getD i0 true = false := by simpa using hi0f
      rw [show f + 1 + g = (f + g) + 1 by omega]
      refine ⟨fun h0 => ?_, fun i hi => ?_⟩
      · obtain ⟨j2, _, h2, _⟩ := least_ready (md := md) hb (by omega) inv.size hL i0 i0 rfl hi0n hun0
        rw [h0] at h2; cases h2
      · have hin : i < n := by
          rcases Nat.lt_or_ge i n with h' | h'
          · exact h'
          · exact absurd hi (tail_waits hs hc hn inv _ i0 rfl hi0n hun0 i h')
        have h2 := h.2 i (ready_struck inv.size hL hin hi)
        refine wpOp_mono (fun a' w' h3 => ih _ _ a' w' (inv.set hi hin) ?_ h3.2) (wpOp_post (Q' := TailPost P ops Q tl) (fun _ _ _ h => h) (fun _ _ h => h) h2)
        refine ⟨by simp [hL.size], fun j hj => ?_, fun j hj => ?_⟩
        · by_cases e : i = j
          · subst e
            rw [getD_tf (by simp [hL.size]; omega), getD_tf (by simp [inv.size]; omega)]
            simp [hL.size, inv.size, show i < ops.size by omega]
          · rw [getD_set_ne true e, getD_set_ne true e]; exact hL.head j hj
        · rw [getD_set_ne true (by omega)]; exact hL.tail j hj

/-- the head has come up -/
def doneHead (m n : Nat) : Array Bool := ((List.range m).map fun j => decide (j < n)).toArray
/-- the tail is struck -/
def struckTail (m n : Nat) : Array Bool := ((List.range m).map fun j => decide (n ≤ j)).toArray
def heldTailB (md : Region.Mode) (ops : Array Oper) (n : Nat) : Bool :=
  decide (n < ops.size) && backB md ops && Region.sinkB md ops n && Region.chainB md ops n && Region.seqB md ops (ops.size - n) n (doneHead ops.size n)

theorem wp_region_held_tail {id : Nat} {a : Act} {w : World} {l : List Oper} (n : Nat) (hm : P.follows .mixedOrders = true) (hB : heldTailB .any l.toArray n = true) (hS : S w.drew)
    (h : S w.drew → wpAnyH P .any l.toArray (TailPost P l.toArray Q (l.drop n)) S n (struckTail l.length n) a w.drew) : (Code.region id l.toArray true).wp P Q a w := by
  simp only [heldTailB, Bool.and_eq_true, decide_eq_true_eq] at hB
  obtain ⟨⟨⟨⟨hn, hb⟩, hs⟩, hc⟩, hseq⟩ := hB
  have hn' : n < l.length := by simpa using hn
  have inv0 : HeadInv .any l.toArray n (Array.replicate l.toArray.size false) :=
    ⟨by simp, fun j oj hj hl => (by rw [getD_replicate_false] at hl; cases hl), fun t ht ht' => by rw [List.size_toArray] at ht'; simp [ht']⟩
  refine wp_region_any hm ?_
  have key := held_tail (P := P) (Q := Q) (S := S) (md := .any) (ops := l.toArray) (n := n) (g := l.length - n) (tl := l.drop n) (done := doneHead l.length n) hb hs hc hn
    (fun listed inv hall => ?_) (fun a w hw => ?_) n (Array.replicate l.toArray.size false) (struckTail l.length n) a w.drew inv0 ⟨by simp [struckTail], fun j hj => ?_, fun j hj => ?_⟩ (h hS)
  · rw [show n + (l.length - n) = l.toArray.size by simp; omega] at key
    exact key
  · refine Array.ext (by rw [inv.size]; simp [doneHead]) (fun j h1 h2 => ?_)
    have hj : j < l.length := by rw [inv.size] at h1; simpa using h1
    rcases Nat.lt_or_ge j n with h' | h'
    · have := hall j h'
      simp [h1] at this
      simp [doneHead, this, h']
    · have := inv.tail j h' (by simpa using hj)
      simp [h1] at this
      simp [doneHead, this, show ¬ j < n by omega]
  · have hlen : (l.drop n).length = l.length - n := by simp
    have hsq : Region.seqB .any l.toArray (l.drop n).length n (doneHead l.length n) = true := by rw [hlen]; simpa using hseq
    have := wpAny_of_seq (P := P) (md := .any) (ops := l.toArray) (l.drop n) n (doneHead l.length n) a w (fun j => by simp [List.getElem?_drop]) hsq hw
    rw [hlen] at this
    exact this
  · have hj2 : j < l.length := by omega
    simp [struckTail, hj2, show ¬ n ≤ j by omega]
  · rcases Nat.lt_or_ge j l.length with h' | h'
    · simp [struckTail, h', hj]
    · simp [struckTail, h']
end

end Go.Proofs.Ytdmbkhmhaininaa
