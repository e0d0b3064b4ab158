/-
  Inside a fence: a region that draws its order, walked under a condition on the world.
-/
import Derived.OrdersHeld
import Derived.OrdersIn
import Derived.Deep.RegionHeld
import Derived.TacticsIn
import Derived.Test.Ytmojnopgpgnfeaamg2
import Derived.Test.Ytmojnopgpgnfeaamg3
import Derived.Test.Ytmojnopgpgnfeaamg4
namespace Go.Proofs.Ytmojnopgpgnfeaa
open Go
set_option linter.unusedVariables false

section
variable {F : Fence} {n : Nat} {P : Program} {ops : Array Oper} {Q : Exit → Act → World → Prop} {md : Region.Mode} {S : World → Prop}

/-- in each world that meets S the operation yields v, and it is about to make no call -/
def Yld (P : Program) (ops : Array Oper) (S : World → Prop) (o : Oper) (v : Value) (a : Act) : Prop := YieldsIf P ops S o v a ∧ ∀ w, o.about P w a.eval = none

theorem Yld.op {i : Nat} {o : Oper} {v : Value} {a : Act} (hro : F.round = none) (hi : ops[i]? = some o) (hy : Yld P ops S o v a)
    {K : Act → World → Prop} {w : World} (hS : S w) (h : K (a.put o.dst v) w) : wpOpIn F n P ops Q i K a w := by
  unfold wpOpIn
  simp only [hi]
  have hab : ∀ f, o.about P w a.eval = some f → F.fn f := fun f hf => by rw [hy.2 w] at hf; cases hf
  rcases hy.1 with ⟨hw, hv⟩ | ⟨hw, rfl⟩
  · simp only [hw, if_true, Oper.wpIn, hro, Oper.semAt_none, hv w hS, Oper.uponIn]; exact ⟨hab, h⟩
  · simp only [hw, Bool.false_eq_true, if_false]; exact ⟨hab, h⟩

theorem Yld.put {j : Nat} {oi oj : Oper} {v : Value} (hro : F.round = none) (hj : ops[j]? = some oj) (hap : oi.apart ops oj = true)
    (hsi : ∀ cs b, oi.op ≠ .select cs b) (hsj : ∀ cs b, oj.op ≠ .select cs b)
    (hQ : ∀ c a w, Q (.panic c) (a.put oi.dst v) w → Q (.panic c) a w) {K : Act → World → Prop} {a : Act} {w : World}
    (hy : Yld P ops S oi v a) (h : wpOpIn F n P ops Q j K (a.put oi.dst v) w) :
    wpOpIn F n P ops Q j (fun a' w' => Yld P ops S oi v a' ∧ K (a'.put oi.dst v) w') a w := by
  obtain ⟨h1, h2, h3⟩ := Oper.apart_spec hap
  have keep : ∀ (a : Act), Yld P ops S oi v a → ∀ u, Yld P ops S oi v (a.put oj.dst u) := fun a hy u =>
    ⟨hy.1.of_same (execOp_put oi hsi a oj.dst u h3) (wanted_put oi a oj.dst u h3), fun w => by rw [about_put oi w a oj.dst u h3]; exact hy.2 w⟩
  have keepD : ∀ d, Yld P ops S oi v { a with defers := d :: a.defers } := fun d => ⟨hy.1.of_same rfl rfl, fun w => hy.2 w⟩
  unfold wpOpIn at *
  simp only [hj] at *
  rw [wanted_put oj a oi.dst v h1, about_put oj w a oi.dst v h1] at h
  split
  · rename_i hw
    simp only [hw, if_true] at h
    unfold Oper.wpIn at *
    rw [about_put oj w a oi.dst v h1] at h
    refine ⟨h.1, ?_⟩
    have h := h.2
    rw [hro, Oper.semAt_none, execOp_put oj hsj a oi.dst v h1] at h
    rw [hro, Oper.semAt_none]
    generalize (execOp a.eval oj).run P w = r at *
    cases r with
    | ok x w' =>
      cases x <;> simp only [Oper.uponIn] at h ⊢
      case value u => exact ⟨keep a hy u, by rw [← Act.put_comm a v u h2]; exact h⟩
      case skip => exact ⟨keep a hy _, by rw [← Act.put_comm a v undef h2]; exact h⟩
      case defer d =>
        refine ⟨keep _ (keepD d) _, ?_⟩
        rw [← Act.put_comm _ v undef h2, ← Act.put_defers]
        exact h
      case enter f args =>
        refine ⟨h.1, CallsIn.mono h.2 fun e w'' he => ?_⟩
        cases e with
        | returned u => exact ⟨keep a hy u, by rw [← Act.put_comm a v u h2]; exact he⟩
        | panicked c => exact hQ _ _ _ he
        | outgrown => exact he
      case row row args => exact ⟨h.1, RowsIn.mono h.2 fun u w'' he => ⟨keep a hy u, by rw [← Act.put_comm a v u h2]; exact he⟩⟩
      case round l f tmps assign body =>
        refine ⟨h.1, RoundIn.mono h.2 fun e w'' he => ?_⟩
        cases e with
        | returned u => exact ⟨keep a hy u, by rw [← Act.put_comm a v u h2]; exact he⟩
        | panicked c => exact hQ _ _ _ he
        | outgrown => exact he
    | halt x w' =>
      cases x <;> simp only [Oper.uponIn] at h ⊢
      case panic u => exact hQ _ _ _ h
  · rename_i hw
    simp only [hw] at h
    exact ⟨h.1, keep a hy _, by rw [← Act.put_comm a v undef h2]; exact h.2⟩

/-- whatever order, and S holds behind each operation that is carried out -/
def anyS (F : Fence) (n : Nat) (P : Program) (md : Region.Mode) (ops : Array Oper) (Q : Exit → Act → World → Prop) (S : World → Prop) : Nat → Array Bool → Act → World → Prop
  | 0, listed, a, w => Region.ready md ops listed = [] ∧ Q .normal a w
  | f + 1, listed, a, w => (Region.ready md ops listed = [] → Q .normal a w) ∧
    ∀ i ∈ Region.ready md ops listed, wpOpIn F n P ops Q i (fun a' w' => S w' ∧ anyS F n P md ops Q S f (listed.setIfInBounds i true) a' w') a w

theorem anyS_any : ∀ (f : Nat) (listed : Array Bool) (a : Act) (w : World), anyS F n P md ops Q S f listed a w → wpAnyIn F n P md ops Q f listed a w
  | 0, _, _, _, h => h
  | f + 1, _, _, _, h => ⟨h.1, fun i hi => wpOpIn_mono (fun a' w' h' => anyS_any f _ a' w' h'.2) (h.2 i hi)⟩

theorem anyS_first {i : Nat} {oi : Oper} {v : Value} (hro : F.round = none) (hi : ops[i]? = some oi) (hsel : ∀ (j : Nat) (o : Oper) cs b, ops[j]? = some o → o.op ≠ .select cs b)
    (hQ : ∀ c a w, Q (.panic c) (a.put oi.dst v) w → Q (.panic c) a w) :
    ∀ (f : Nat) (listed : Array Bool) (a : Act) (w : World),
      (∀ j oj, ops[j]? = some oj → j ≠ i → listed.getD j true = false → (∀ e ∈ oj.after, Region.binds md e = true → e.on ≠ i) → oi.apart ops oj = true) →
      i ∈ Region.ready md ops listed → Yld P ops S oi v a → S w →
      anyS F n P md ops Q S f (listed.setIfInBounds i true) (a.put oi.dst v) w → anyS F n P md ops Q S (f + 1) listed a w := by
  intro f
  induction f with
  | zero =>
    intro listed a w _ hr hy hS H
    refine ⟨fun h => (by rw [h] at hr; cases hr), fun j hj => ?_⟩
    by_cases hji : j = i
    · subst hji; exact hy.op hro hi hS ⟨hS, H⟩
    · have := ready_mono hj hji
      rw [H.1] at this
      cases this
  | succ f ih =>
    intro listed a w hfree hr hy hS H
    refine ⟨fun h => (by rw [h] at hr; cases hr), fun j hj => ?_⟩
    by_cases hji : j = i
    · subst hji; exact hy.op hro hi hS ⟨hS, H⟩
    · have h1 := H.2 j (ready_mono hj hji)
      obtain ⟨hjun, oj, hoj, hall⟩ := mem_ready.1 hj
      have hnot : ∀ e ∈ oj.after, Region.binds md e = true → e.on ≠ i := fun e he hb heq => by
        have h1 := hall e he hb
        have h0 := (mem_ready.1 hr).1
        rw [heq] at h1
        rcases Nat.lt_or_ge i listed.size with h' | h'
        · simp [h'] at h0 h1; rw [h0] at h1; cases h1
        · simp [Array.getElem?_eq_none h'] at h1
      have h2 := Yld.put hro hoj (hfree j oj hoj hji hjun hnot) (fun cs b => hsel i oi cs b hi) (fun cs b => hsel j oj cs b hoj) hQ hy h1
      have hfree' : ∀ k ok, ops[k]? = some ok → k ≠ i → (listed.setIfInBounds j true).getD k true = false →
          (∀ e ∈ ok.after, Region.binds md e = true → e.on ≠ i) → oi.apart ops ok = true := fun k ok hk hki hun hno => by
        refine hfree k ok hk hki ?_ hno
        by_cases hjk : j = k
        · subst hjk; exact hjun
        · rw [getD_set_ne true hjk] at hun; exact hun
      refine wpOpIn_mono (fun a' w' h3 => ⟨h3.2.1, ih (listed.setIfInBounds j true) a' w' hfree' (ready_mono hr (Ne.symm hji)) h3.1 h3.2.1 ?_⟩) h2
      rw [Array.setIfInBounds_comm _ _ hji]
      exact h3.2.2

theorem anyS_take {i : Nat} {oi : Oper} {v : Value} {f : Nat} {listed : Array Bool} {a : Act} {w : World} (hro : F.round = none) (hi : ops[i]? = some oi)
    (hs : Region.noSelect ops = true) (hf : Region.free md ops listed i = true) (hr : (Region.ready md ops listed).contains i = true)
    (hQ : ∀ c a w, Q (.panic c) (a.put oi.dst v) w → Q (.panic c) a w) (hy : Yld P ops S oi v a) (hS : S w)
    (h : anyS F n P md ops Q S f (listed.setIfInBounds i true) (a.put oi.dst v) w) : anyS F n P md ops Q S (f + 1) listed a w :=
  anyS_first hro hi (Region.noSelect_spec hs) hQ f listed a w (Region.free_spec hi hf) (by simpa using hr) hy hS h

/-- one alone can come up -/
theorem anyS_one {i : Nat} {o : Oper} {f : Nat} {listed : Array Bool} {a : Act} {w : World} (hr : Region.ready md ops listed = [i]) (ho : ops[i]? = some o)
    (h : ∀ K' : Act → World → Prop, Shut (∀ a w, S w → (S w → anyS F n P md ops Q S f (listed.setIfInBounds i true) a w) → K' a w) → if Region.wanted o (yielded ops a.tmps) = true then Oper.wpIn F n P o a w K' Q else (∀ f, o.about P w a.eval = some f → F.fn f) ∧ K' (a.put o.dst undef) w) :
    anyS F n P md ops Q S (f + 1) listed a w :=
  ⟨fun h0 => (by rw [hr] at h0; cases h0), fun j hj => by
    rw [hr] at hj
    obtain rfl : j = i := by simpa using hj
    exact wpOpIn_step ho fun K' hK => h K' fun a w hS hW => hK a w ⟨hS, hW hS⟩⟩

theorem anyS_done {listed : Array Bool} {a : Act} {w : World} (hr : Region.ready md ops listed = []) (h : Q .normal a w) : ∀ f, anyS F n P md ops Q S f listed a w
  | 0 => ⟨hr, h⟩
  | _ + 1 => ⟨fun _ => h, by rw [hr]; simp⟩

theorem wpIn_region_S {id : Nat} {a : Act} {w : World} (hm : P.follows .mixedOrders = true) (hS : S w.drew)
    (h : S w.drew → anyS F n P .any ops Q S ops.size (Array.replicate ops.size false) a w.drew) : (Code.region id ops true).wpIn F n P Q a w :=
  wpIn_region_any hm (anyS_any _ _ _ _ (h hS))
theorem anyIn_more : ∀ (f : Nat) (listed : Array Bool) (a : Act) (w : World), wpAnyIn F n P md ops Q f listed a w → wpAnyIn F n P md ops Q (f + 1) listed a w
  | 0, listed, a, w, h => ⟨fun _ => h.2, by rw [h.1]; intro i hi; cases hi⟩
  | f + 1, listed, a, w, h => ⟨h.1, fun i hi => wpOpIn_mono (fun a w => anyIn_more f _ a w) (h.2 i hi)⟩
theorem anyIn_mores {f : Nat} {listed : Array Bool} {a : Act} {w : World} (h : wpAnyIn F n P md ops Q f listed a w) : ∀ d, wpAnyIn F n P md ops Q (d + f) listed a w
  | 0 => by rw [Nat.zero_add]; exact h
  | d + 1 => by rw [show d + 1 + f = (d + f) + 1 by omega]; exact anyIn_more _ _ _ _ (anyIn_mores h d)
theorem opIn_post {Q' : Exit → Act → World → Prop} (hp : ∀ c a w, Q' (.panic c) a w → Q (.panic c) a w) (ho : LetsOut Q' → LetsOut Q) {i : Nat} {K : Act → World → Prop} {a : Act} {w : World} (h : wpOpIn F n P ops Q' i K a w) : wpOpIn F n P ops Q i K a w := by
  unfold wpOpIn at *
  cases hoi : ops[i]? with
  | none => simpa [hoi] using h
  | some o =>
    simp only [hoi] at h ⊢
    split
    · rename_i hw
      simp only [hw, if_true] at h
      unfold Oper.wpIn at *
      refine ⟨h.1, ?_⟩
      have h := h.2
      generalize (o.semAt F.round a.eval).run P w = r at *
      cases r with
      | ok x w' =>
        cases x <;> simp only [Oper.uponIn] at h ⊢ <;>
          first
            | exact h
            | exact ⟨h.1, CallsIn.mono h.2 (fun e w'' he => by cases e <;> first | exact he | exact hp _ _ _ he | exact ho he)⟩
            | exact ⟨h.1, RoundIn.mono h.2 (fun e w'' he => by cases e <;> first | exact he | exact hp _ _ _ he | exact ho he)⟩
      | halt x w' => cases x <;> simp only [Oper.uponIn] at h ⊢ <;> first | exact h | exact hp _ _ _ h
    · rename_i hw
      simp only [hw] at h
      exact h
theorem anyIn_of_seq {Q' : Exit → Act → World → Prop} : ∀ (l : List Oper) (k : Nat) (listed : Array Bool) (a : Act) (w : World), (∀ j, l[j]? = ops[k + j]?) →
    Region.seqB md ops l.length k listed = true → wpListIn F n P ops Q' l a w → wpAnyIn F n P md ops Q' l.length listed a w
  | [], _, _, _, _, _, hB, h => ⟨by simpa [Region.seqB] using hB, h⟩
  | o :: l, k, listed, a, w, hl, hB, h => by
    have h0 : ops[k]? = some o := by simpa using (hl 0).symm
    simp only [List.length_cons, Region.seqB, Bool.and_eq_true, decide_eq_true_eq] at hB
    refine ⟨fun h1 => (by rw [hB.1] at h1; cases h1), fun i hi => ?_⟩
    rw [hB.1] at hi
    have hik : i = k := by simpa using hi
    subst hik
    have hw : wpOpIn F n P ops Q' i (wpListIn F n P ops Q' l) a w := by unfold wpOpIn; simp only [h0]; exact h
    exact wpOpIn_mono (fun a' w' h' => anyIn_of_seq l (i + 1) _ a' w' (fun j => by have := hl (j + 1); simpa [Nat.add_assoc, Nat.add_comm 1 j] using this) hB.2 h') hw

/-- what is to hold where the head is through: the tail's walk -/
def TailIn (F : Fence) (n : Nat) (P : Program) (ops : Array Oper) (Q : Exit → Act → World → Prop) (tl : List Oper) : Exit → Act → World → Prop
  | .normal, a, w => wpListIn F n P ops Q tl a w
  | _, _, _ => False

theorem letsOut_no {tl : List Oper} (h : LetsOut (TailIn F n P ops Q tl)) : False := by
  obtain ⟨a, w, h⟩ := h
  exact h
theorem heldIn_tail {m g : Nat} {tl : List Oper} {done : Array Bool} (hb : backB md ops = true) (hs : Region.sinkB md ops m = true) (hc : Region.chainB md ops m = true) (hn : m < ops.size)
    (hdone : ∀ listed : Array Bool, HeadInv md ops m listed → (∀ j, j < m → listed.getD j true = true) → listed = done)
    (hseq : ∀ (a : Act) (w : World), wpListIn F n P ops Q tl a w → wpAnyIn F n P md ops Q g done a w) :
    ∀ (f : Nat) (listed L : Array Bool) (a : Act) (w : World), HeadInv md ops m listed → Struck ops m listed L → anyS F n P md ops (TailIn F n P ops Q tl) S f L a w → wpAnyIn F n P md ops Q (f + g) listed a w := by
  intro f
  induction f with
  | zero =>
    intro listed L a w inv hL h
    rw [Nat.zero_add]
    have hall : ∀ j, j < m → listed.getD j true = true := fun j hj => by
      cases hh : listed.getD j true with
      | true => rfl
      | false =>
        obtain ⟨j2, _, _, h2⟩ := least_ready (md := md) hb (by omega) inv.size hL j j rfl hj hh
        rw [h.1] at h2; cases h2
    rw [hdone listed inv hall]
    exact hseq _ _ h.2
  | succ f ih =>
    intro listed L a w inv hL h
    by_cases hall : ∀ j, j < m → listed.getD j true = true
    · have hr : Region.ready md ops L = [] := by
        cases hrr : Region.ready md ops L with
        | nil => rfl
        | cons i rs =>
          have hi : i ∈ Region.ready md ops L := by rw [hrr]; exact List.mem_cons_self
          have hun := (mem_ready.1 hi).1
          rcases Nat.lt_or_ge i m with h' | h'
          · rw [hL.head i h', hall i h'] at hun; cases hun
          · rw [hL.tail i h'] at hun; cases hun
      rw [hdone listed inv hall]
      exact anyIn_mores (hseq _ _ (h.1 hr)) (f + 1)
    · obtain ⟨i0, hi0⟩ := Classical.not_forall.1 hall
      obtain ⟨hi0n, hi0f⟩ := Classical.not_imp.1 hi0
      have hun0 : listed.getD i0 true = false := by simpa using hi0f
      rw [show f + 1 + g = (f + g) + 1 by omega]
      refine ⟨fun h0 => ?_, fun i hi => ?_⟩
      · obtain ⟨j2, _, h2, _⟩ := least_ready (md := md) hb (by omega) inv.size hL i0 i0 rfl hi0n hun0
        rw [h0] at h2; cases h2
      · have hin : i < m := by
          rcases Nat.lt_or_ge i m with h' | h'
          · exact h'
          · exact absurd hi (tail_waits hs hc hn inv _ i0 rfl hi0n hun0 i h')
        have h2 := h.2 i (ready_struck inv.size hL hin hi)
        refine wpOpIn_mono (fun a' w' h3 => ih _ _ a' w' (inv.set hi hin) ?_ h3.2) (opIn_post (Q' := TailIn F n P ops Q tl) (fun _ _ _ h => h.elim) (fun h => (letsOut_no h).elim) h2)
        refine ⟨by simp [hL.size], fun j hj => ?_, fun j hj => ?_⟩
        · by_cases e : i = j
          · subst e
            rw [getD_tf (by simp [hL.size]; omega), getD_tf (by simp [inv.size]; omega)]
            simp [hL.size, inv.size, show i < ops.size by omega]
          · rw [getD_set_ne true e, getD_set_ne true e]; exact hL.head j hj
        · rw [getD_set_ne true (by omega)]; exact hL.tail j hj

theorem wpIn_region_tail {id : Nat} {a : Act} {w : World} {l : List Oper} (m : Nat) (hm : P.follows .mixedOrders = true) (hB : heldTailB .any l.toArray m = true) (hS : S w.drew)
    (h : S w.drew → anyS F n P .any l.toArray (TailIn F n P l.toArray Q (l.drop m)) S m (struckTail l.length m) a w.drew) : (Code.region id l.toArray true).wpIn F n P Q a w := by
  simp only [heldTailB, Bool.and_eq_true, decide_eq_true_eq] at hB
  obtain ⟨⟨⟨⟨hn, hb⟩, hs⟩, hc⟩, hseq⟩ := hB
  have hn' : m < l.length := by simpa using hn
  have inv0 : HeadInv .any l.toArray m (Array.replicate l.toArray.size false) :=
    ⟨by simp, fun j oj hj hl => (by rw [getD_replicate_false] at hl; cases hl), fun t ht ht' => by rw [List.size_toArray] at ht'; simp [ht']⟩
  refine wpIn_region_any hm ?_
  have key := heldIn_tail (F := F) (n := n) (P := P) (Q := Q) (S := S) (md := .any) (ops := l.toArray) (m := m) (g := l.length - m) (tl := l.drop m) (done := doneHead l.length m) hb hs hc hn
    (fun listed inv hall => ?_) (fun a w hw => ?_) m (Array.replicate l.toArray.size false) (struckTail l.length m) a w.drew inv0 ⟨by simp [struckTail], fun j hj => ?_, fun j hj => ?_⟩ (h hS)
  · rw [show m + (l.length - m) = l.toArray.size by simp; omega] at key
    exact key
  · refine Array.ext (by rw [inv.size]; simp [doneHead]) (fun j h1 h2 => ?_)
    have hj : j < l.length := by rw [inv.size] at h1; simpa using h1
    rcases Nat.lt_or_ge j m with h' | h'
    · have := hall j h'
      simp [h1] at this
      simp [doneHead, this, h']
    · have := inv.tail j h' (by simpa using hj)
      simp [h1] at this
      simp [doneHead, this, show ¬ j < m by omega]
  · have hlen : (l.drop m).length = l.length - m := by simp
    have hsq : Region.seqB .any l.toArray (l.drop m).length m (doneHead l.length m) = true := by rw [hlen]; simpa using hseq
    have := anyIn_of_seq (F := F) (n := n) (P := P) (md := .any) (ops := l.toArray) (l.drop m) m (doneHead l.length m) a w (fun j => by simp [List.getElem?_drop]) hsq hw
    rw [hlen] at this
    exact this
  · have hj2 : j < l.length := by omega
    simp [struckTail, hj2, show ¬ m ≤ j by omega]
  · rcases Nat.lt_or_ge j l.length with h' | h'
    · simp [struckTail, h', hj]
    · simp [struckTail, h']
end

end Go.Proofs.Ytmojnopgpgnfeaa

namespace Go.Proofs.Ytmojnopgpgnfeaa
open Go.RowKit Go.Shelf
set_option linter.unusedVariables false
set_option linter.unusedSimpArgs false
attribute [local go_sem] Oper.semAt_some

/-- whether the second time passes behind a pulse -/
def tbB (kd c : Int) (i : Nat) : Bool := if kd = 2 then decide (c / 2 ≤ (i : Int)) else if kd = 3 then decide ((i : Int) % 2 = 1) else false
def bI (b : Bool) : Int := if b then 1 else 0
set_option maxHeartbeats 800000 in
theorem timeBehind_any (l kd f s c : Int) (i : Nat) (w : World) (hc : kd = 2 → 4 ≤ c ∧ c ≤ 64 ∧ c % 2 = 0) (hi : kd = 2 → (i : Int) < c) (hi2 : i ≤ 1000) :
    Calls Try.prog 124 #[.agg #[.int .i64 l, .int .i64 kd, .int .i64 f, .int .i64 s, .int .i64 c], .int .i64 (i : Int)] w fun e w' => e = .returned (.int .i64 (bI (tbB kd c i))) ∧ Below w.heap.size w w' := by
  by_cases h2 : kd = 2
  · obtain ⟨c1, c2, c3⟩ := hc h2
    have hi := hi h2
    subst h2
    have e1 : c.tdiv 2 = c / 2 := Int.tdiv_eq_ediv_of_nonneg (by omega)
    have hz : (c / 2 == 0) = false := by rw [beq_eq_false_iff_ne]; omega
    have e2 : (i : Int).tdiv (c / 2) = bI (tbB 2 c i) := by
      rw [Int.tdiv_eq_ediv_of_nonneg (by omega)]
      unfold tbB bI
      rw [if_pos rfl]
      by_cases h : c / 2 ≤ (i : Int)
      · rw [decide_eq_true h, if_pos rfl]
        exact ((Int.ediv_emod_unique (r := (i : Int) - c / 2) (by omega)).2 ⟨by omega, by omega, by omega⟩).1
      · rw [decide_eq_false h, if_neg (by decide)]
        exact Int.ediv_eq_zero_of_lt (by omega) (by omega)
    rw [← e2]
    clear e2
    have i9 : IntKind.i64.wrap ((i : Int) / (c / 2)) = (i : Int) / (c / 2) := by
      have := Int.ediv_nonneg (show 0 ≤ (i : Int) by omega) (show 0 ≤ c / 2 by omega)
      have := Int.ediv_le_self (c / 2) (show 0 ≤ (i : Int) by omega)
      exact IntWalk.i64_in _ (by omega)
    have hq0 : -9000000000000000000 ≤ (i : Int).tdiv (c / 2) ∧ (i : Int).tdiv (c / 2) ≤ 9000000000000000000 := by
      rw [Int.tdiv_eq_ediv_of_nonneg (by omega)]
      have := Int.ediv_nonneg (show 0 ≤ (i : Int) by omega) (show 0 ≤ c / 2 by omega)
      have := Int.ediv_le_self (c / 2) (show 0 ≤ (i : Int) by omega)
      omega
    go_enter Try.func124, Try.ntmps124
    go_wp2
    go_ret
    exact ⟨rfl, below_alloc _ _⟩
  · by_cases h3 : kd = 3
    · subst h3
      have e2 : (i : Int).tmod 2 = bI (tbB 3 c i) := by
        rw [Int.tmod_eq_emod_of_nonneg (by omega)]
        have ht : tbB 3 c i = decide ((i : Int) % 2 = 1) := by unfold tbB; rw [if_neg (by decide), if_pos rfl]
        rw [ht]
        unfold bI
        by_cases h : (i : Int) % 2 = 1
        · rw [decide_eq_true h, if_pos rfl]; exact h
        · rw [decide_eq_false h, if_neg (by decide)]; omega
      rw [← e2]
      clear e2
      go_enter Try.func124, Try.ntmps124
      go_wp2
      go_ret
      exact ⟨rfl, below_alloc _ _⟩
    · have e2 : (0 : Int) = bI (tbB kd c i) := by
        unfold tbB bI
        rw [if_neg h2, if_neg h3]
        rfl
      rw [← e2]
      clear e2
      go_enter Try.func124, Try.ntmps124
      go_wp2
      go_ret
      exact ⟨rfl, below_alloc _ _⟩

/-- the steps of a train up to a pulse, each with its time -/
def stp (zs : Nat → Smp) (kd c : Int) (i : Nat) : List (Bool × Int) := if kd = 2 ∧ (i : Int) = c / 2 - 1 then [] else [(tbB kd c i, ((zs (i + 1)).p - (zs i).p) % 65536)]
def stpTo (zs : Nat → Smp) (kd c : Int) : Nat → List (Bool × Int)
  | 0 => []
  | i + 1 => stpTo zs kd c i ++ stp zs kd c i
theorem stpTo_len (zs : Nat → Smp) (kd c : Int) : ∀ i, (stpTo zs kd c i).length ≤ i
  | 0 => by simp [stpTo]
  | i + 1 => by
    have := stpTo_len zs kd c i
    rw [stpTo, List.length_append]
    unfold stp
    split <;> simp <;> omega
/-- the blocks that a round keeps: two boxes, and the samples -/
def KeepS (lo b : Nat) (W W' : World) : Prop := ∀ k, (lo ≤ k ∧ k < lo + 2) ∨ k = b → W'.heap[k]? = W.heap[k]?
theorem KeepS.trans {lo b : Nat} {A B C : World} (h : KeepS lo b A B) (k : KeepS lo b B C) : KeepS lo b A C := fun i h1 => (k i h1).trans (h i h1)
theorem KeepS.of_below {lo b B : Nat} {A C : World} (h : Below B A C) (hB : lo + 2 ≤ B) (hb : b < B) : KeepS lo b A C := fun i h1 => h.block i (by omega)
theorem KeepS.cell {lo b : Nat} {A B : World} (h : KeepS lo b A B) {a : Addr} {v : Value} (h1 : (lo ≤ a.block ∧ a.block < lo + 2) ∨ a.block = b) (hc : A.cell? a = some v) : B.cell? a = some v := (World.cell?_of_block (h _ h1)).trans hc
theorem grown_below {w w' : World} (h : Below w.heap.size w w') : w.grownBy w' none := ⟨h.os, h.tape, h.output, h.size, fun k hk _ => h.block k hk⟩

set_option maxRecDepth 100000 in
set_option maxHeartbeats 6400000 in
theorem steps1_in (l kd f s c : Int) (b off n cap : Nat) (zs : Nat → Smp) (nn : Nat) (hnn : 2 ≤ nn) (hn : 1 ≤ n) (hn2 : n ≤ 64) (hc : kd = 2 → 4 ≤ c ∧ c ≤ 64 ∧ c % 2 = 0) (hcn : (n : Int) = c) (hzs : ∀ i, i < n → 0 ≤ (zs i).p ∧ (zs i).p < 65536) (ly lo : Nat) (J Jx : List (Bool × Int) → World → Prop) (W : World) (hJ : AbidesFrom W.heap.size J)
    (hY : ∀ pre (x1 : Bool × Int) W1, J pre W1 → pre.length < 64 → YieldAt Fence.wide (nn - 1) Try.prog ly #[.int .i64 (bI x1.1), .int .i64 x1.2] W1 fun e W' =>
      (e = .returned (.bool true) ∧ J (pre ++ [x1]) W' ∧ KeepS lo b W1 W') ∨ (e = .returned (.bool false) ∧ Jx (pre ++ [x1]) W'))
    (hlo : lo + 2 ≤ W.heap.size) (hb : b < W.heap.size) (hT0 : W.cell? ⟨lo, 0, none⟩ = some (.int .i64 l)) (hT1 : W.cell? ⟨lo, 1, none⟩ = some (.int .i64 kd)) (hT2 : W.cell? ⟨lo, 2, none⟩ = some (.int .i64 f)) (hT3 : W.cell? ⟨lo, 3, none⟩ = some (.int .i64 s)) (hT4 : W.cell? ⟨lo, 4, none⟩ = some (.int .i64 c)) (hSl : W.cell? ⟨lo + 1, 0, none⟩ = some (.slice (some ⟨b, off, none⟩) n cap)) (hS : SmpsAt W b off n zs) (h0 : J [] W) :
    CallsIn Fence.wide nn Try.prog 123 #[.func (.yield ly) #[] #[], .pointer (some ⟨lo + 1, 0, none⟩), .pointer (some ⟨lo, 0, none⟩)] W fun e W' => (∃ v, e = .returned v) ∧
      ((∃ ys, ys = stpTo zs kd c (n - 1) ∧ J ys W') ∨ (∃ pre, True ∧ Jx pre W')) := by
  have h1n : 1 ≤ nn := by omega
  refine callsIn_of_wp Try.func123 rfl trivial ?_ rfl
  simp only [Try.ntmps123, List.size_toArray, List.length_cons, List.length_nil, Nat.reduceAdd, Nat.reduceSub, Array.replicate_succ, Array.replicate_zero, List.push_toArray, List.append_toArray, List.nil_append, List.cons_append]
  have HS := Lib.hid hS
  have HC := Lib.hid hcn
  have i0 : IntKind.i64.wrap ((n : Int) - 1) = ((n - 1 : Nat) : Int) := by rw [IntWalk.i64_in _ (by omega)]; omega
  clear hS hcn
  gi_wp2
  clear i0
  gi_loopw [8] (fun i wr => ∃ k : Nat, k ≤ n - 1 ∧ i = .int .i64 k ∧ J (stpTo zs kd c k) wr ∧ KeepS lo b W wr) (fun i _ => n - (intOf i).toNat)
  case atStart => exact ⟨0, Nat.zero_le _, rfl, h0, fun _ _ => rfl⟩
  case round =>
    obtain ⟨k, hk2, rfl, hJs, hkb⟩ := hrel
    by_cases hlt : k < n - 1
    · have k0 := hkb.cell (.inl ⟨Nat.le_refl _, by dsimp only; omega⟩) hT0
      have k1 := hkb.cell (.inl ⟨Nat.le_refl _, by dsimp only; omega⟩) hT1
      have k2 := hkb.cell (.inl ⟨Nat.le_refl _, by dsimp only; omega⟩) hT2
      have k3 := hkb.cell (.inl ⟨Nat.le_refl _, by dsimp only; omega⟩) hT3
      have k4 := hkb.cell (.inl ⟨Nat.le_refl _, by dsimp only; omega⟩) hT4
      have k5 := hkb.cell (.inl ⟨by dsimp only; omega, by dsimp only; omega⟩) hSl
      have z0 := hkb.cell (.inr rfl) (HS.out.c1 k (by omega))
      have z1 := hkb.cell (.inr rfl) (HS.out.c1 (k + 1) (by omega))
      have e1 : c.tdiv 2 = c / 2 := Int.tdiv_eq_ediv_of_nonneg (by have := HC.out; omega)
      have i2 : IntKind.i64.wrap (c / 2) = c / 2 := IntWalk.i64_in _ (by have := HC.out; omega)
      have i1 : IntKind.i64.wrap (c / 2 - 1) = c / 2 - 1 := IntWalk.i64_in _ (by have := HC.out; omega)
      by_cases hsk : kd = 2 ∧ (k : Int) = c / 2 - 1
      · have HN := Lib.hid (show stpTo zs kd c (k + 1) = stpTo zs kd c k by rw [stpTo]; unfold stp; rw [if_pos hsk, List.append_nil])
        have q1 : (kd == 2) = true := beq_iff_eq.2 hsk.1
        have q2 : ((k : Int) == c / 2 - 1) = true := beq_iff_eq.2 hsk.2
        clear hsk z0 z1
        gi_wp2
        go_roundw
        case rel => exact ⟨k + 1, by omega, by go_num, by rw [HN.out]; exact hJs, hkb⟩
        case measure => simp [intOf]; omega
      · have HN := Lib.hid (show stpTo zs kd c (k + 1) = stpTo zs kd c k ++ [(tbB kd c k, ((zs (k + 1)).p - (zs k).p) % 65536)] by rw [stpTo]; unfold stp; rw [if_neg hsk])
        have HSK := Lib.hid hsk
        obtain ⟨pk, hpk⟩ : ∃ x, x = (zs k).p := ⟨_, rfl⟩
        obtain ⟨pn, hpn⟩ : ∃ x, x = (zs (k + 1)).p := ⟨_, rfl⟩
        have bp := hzs k (by omega)
        have bn := hzs (k + 1) (by omega)
        rw [← hpk] at z0 bp
        rw [← hpn] at z1 bn
        rw [← hpk, ← hpn] at HN
        clear hsk hpk hpn
        have ii : IntKind.i64.wrap ((k : Int) + 1) = ((k + 1 : Nat) : Int) := by rw [IntWalk.i64_in _ (by omega)]; omega
        have ij : IntKind.i64.wrap (pn - pk) = pn - pk := IntWalk.i64_in _ (by omega)
        have hy9 : b < wr.heap.size := World.block_lt_of_cell? wr _ z0
        have hy8 : lo + 1 < wr.heap.size := World.block_lt_of_cell? wr _ k5
        have hy1 : (0 : Int) ≤ (k : Int) + 1 := by omega
        have hy2 : (k : Int) + 1 < (n : Int) := by omega
        have hy3 : (0 : Int) ≤ (k : Int) := by omega
        have hy4 : (k : Int) < (n : Int) := by omega
        have HT : Hid (∀ w : World, Calls Try.prog 124 #[.agg #[.int .i64 l, .int .i64 kd, .int .i64 f, .int .i64 s, .int .i64 c], .int .i64 (k : Int)] w fun e w' => e = .returned (.int .i64 (bI (tbB kd c k))) ∧ Below w.heap.size w w') := Lib.hid fun w => timeBehind_any l kd f s c k w hc (fun _ => by have := HC.out; omega) (by omega)
        have hd0 : Below wr.heap.size wr wr.drew := (Below.refl _ _).drew
        have HR := Lib.hid (show (fun w' : World => w'.cell? ⟨lo, 0, none⟩ = some (.int .i64 l) ∧ w'.cell? ⟨lo, 1, none⟩ = some (.int .i64 kd) ∧ w'.cell? ⟨lo, 2, none⟩ = some (.int .i64 f) ∧ w'.cell? ⟨lo, 3, none⟩ = some (.int .i64 s) ∧ w'.cell? ⟨lo, 4, none⟩ = some (.int .i64 c) ∧ w'.cell? ⟨lo + 1, 0, none⟩ = some (.slice (some ⟨b, off, none⟩) n cap) ∧ w'.cell? ⟨b, off + k * 4 + 1, none⟩ = some (.int .i64 pk) ∧ w'.cell? ⟨b, off + (k + 1) * 4 + 1, none⟩ = some (.int .i64 pn)) wr.drew from ⟨k0, k1, k2, k3, k4, k5, z0, z1⟩)
        by_cases q1 : kd = 2
        · have q2 : ((k : Int) == c / 2 - 1) = false := beq_eq_false_iff_ne.2 fun h => HSK.out ⟨q1, h⟩
          have q3 : (kd == 2) = true := beq_iff_eq.2 q1
          clear q1
          gi_wp2_with fail
          refine wpIn_region_tail (S := (fun w' : World => w'.cell? ⟨lo, 0, none⟩ = some (.int .i64 l) ∧ w'.cell? ⟨lo, 1, none⟩ = some (.int .i64 kd) ∧ w'.cell? ⟨lo, 2, none⟩ = some (.int .i64 f) ∧ w'.cell? ⟨lo, 3, none⟩ = some (.int .i64 s) ∧ w'.cell? ⟨lo, 4, none⟩ = some (.int .i64 c) ∧ w'.cell? ⟨lo + 1, 0, none⟩ = some (.slice (some ⟨b, off, none⟩) n cap) ∧ w'.cell? ⟨b, off + k * 4 + 1, none⟩ = some (.int .i64 pk) ∧ w'.cell? ⟨b, off + (k + 1) * 4 + 1, none⟩ = some (.int .i64 pn))) 17 (by kernel_rfl) (by kernel_rfl) HR.out (fun hHeld => ?_)
          refine anyS_take (i := 0) (v := ?v0_16) rfl rfl (by kernel_rfl) (by kernel_rfl) (by kernel_rfl) (fun _ _ _ h => h) ⟨Or.inl ⟨by rfl, ?hy0_16⟩, fun _ => rfl⟩ (by assumption) ?rest0_16
          case hy0_16 => (intro w hSw; (try dsimp only at hSw); go_simp; (try with_reducible rfl))
          try simp only [Act.put, List.setIfInBounds_toArray, List.set_cons_zero, List.set_cons_succ]
          refine anyS_take (i := 1) (v := ?v1_17) rfl rfl (by kernel_rfl) (by kernel_rfl) (by kernel_rfl) (fun _ _ _ h => h) ⟨Or.inl ⟨by rfl, ?hy1_17⟩, fun _ => rfl⟩ (by assumption) ?rest1_17
          case hy1_17 => (intro w hSw; (try dsimp only at hSw); go_simp; (try with_reducible rfl))
          try simp only [Act.put, List.setIfInBounds_toArray, List.set_cons_zero, List.set_cons_succ]
          refine anyS_take (i := 2) (v := ?v2_18) rfl rfl (by kernel_rfl) (by kernel_rfl) (by kernel_rfl) (fun _ _ _ h => h) ⟨Or.inl ⟨by rfl, ?hy2_18⟩, fun _ => rfl⟩ (by assumption) ?rest2_18
          case hy2_18 => (intro w hSw; (try dsimp only at hSw); go_simp; (try with_reducible rfl))
          try simp only [Act.put, List.setIfInBounds_toArray, List.set_cons_zero, List.set_cons_succ]
          refine anyS_take (i := 4) (v := ?v4_19) rfl rfl (by kernel_rfl) (by kernel_rfl) (by kernel_rfl) (fun _ _ _ h => h) ⟨Or.inl ⟨by rfl, ?hy4_19⟩, fun _ => rfl⟩ (by assumption) ?rest4_19
          case hy4_19 => (intro w hSw; (try dsimp only at hSw); go_simp; (try with_reducible rfl))
          try simp only [Act.put, List.setIfInBounds_toArray, List.set_cons_zero, List.set_cons_succ]
          refine anyS_take (i := 5) (v := ?v5_20) rfl rfl (by kernel_rfl) (by kernel_rfl) (by kernel_rfl) (fun _ _ _ h => h) ⟨Or.inl ⟨by rfl, ?hy5_20⟩, fun _ => rfl⟩ (by assumption) ?rest5_20
          case hy5_20 => (intro w hSw; (try dsimp only at hSw); go_simp; (try with_reducible rfl))
          try simp only [Act.put, List.setIfInBounds_toArray, List.set_cons_zero, List.set_cons_succ]
          refine anyS_take (i := 6) (v := ?v6_21) rfl rfl (by kernel_rfl) (by kernel_rfl) (by kernel_rfl) (fun _ _ _ h => h) ⟨Or.inl ⟨by rfl, ?hy6_21⟩, fun _ => rfl⟩ (by assumption) ?rest6_21
          case hy6_21 => (intro w hSw; (try dsimp only at hSw); go_simp; (try with_reducible rfl))
          try simp only [Act.put, List.setIfInBounds_toArray, List.set_cons_zero, List.set_cons_succ]
          refine anyS_take (i := 7) (v := ?v7_22) rfl rfl (by kernel_rfl) (by kernel_rfl) (by kernel_rfl) (fun _ _ _ h => h) ⟨Or.inl ⟨by rfl, ?hy7_22⟩, fun _ => rfl⟩ (by assumption) ?rest7_22
          case hy7_22 => (intro w hSw; (try dsimp only at hSw); go_simp; (try with_reducible rfl))
          try simp only [Act.put, List.setIfInBounds_toArray, List.set_cons_zero, List.set_cons_succ]
          refine anyS_take (i := 8) (v := ?v8_23) rfl rfl (by kernel_rfl) (by kernel_rfl) (by kernel_rfl) (fun _ _ _ h => h) ⟨Or.inl ⟨by rfl, ?hy8_23⟩, fun _ => rfl⟩ (by assumption) ?rest8_23
          case hy8_23 => (intro w hSw; (try dsimp only at hSw); go_simp; (try with_reducible rfl))
          try simp only [Act.put, List.setIfInBounds_toArray, List.set_cons_zero, List.set_cons_succ]
          refine anyS_take (i := 9) (v := ?v9_24) rfl rfl (by kernel_rfl) (by kernel_rfl) (by kernel_rfl) (fun _ _ _ h => h) ⟨Or.inl ⟨by rfl, ?hy9_24⟩, fun _ => rfl⟩ (by assumption) ?rest9_24
          case hy9_24 => (intro w hSw; (try dsimp only at hSw); go_simp; (try with_reducible rfl))
          try simp only [Act.put, List.setIfInBounds_toArray, List.set_cons_zero, List.set_cons_succ]
          refine anyS_take (i := 10) (v := ?v10_25) rfl rfl (by kernel_rfl) (by kernel_rfl) (by kernel_rfl) (fun _ _ _ h => h) ⟨Or.inl ⟨by rfl, ?hy10_25⟩, fun _ => rfl⟩ (by assumption) ?rest10_25
          case hy10_25 => (intro w hSw; (try dsimp only at hSw); go_simp; (try with_reducible rfl))
          try simp only [Act.put, List.setIfInBounds_toArray, List.set_cons_zero, List.set_cons_succ]
          refine anyS_take (i := 11) (v := ?v11_26) rfl rfl (by kernel_rfl) (by kernel_rfl) (by kernel_rfl) (fun _ _ _ h => h) ⟨Or.inl ⟨by rfl, ?hy11_26⟩, fun _ => rfl⟩ (by assumption) ?rest11_26
          case hy11_26 => (intro w hSw; (try dsimp only at hSw); go_simp; (try with_reducible rfl))
          try simp only [Act.put, List.setIfInBounds_toArray, List.set_cons_zero, List.set_cons_succ]
          refine anyS_take (i := 12) (v := ?v12_27) rfl rfl (by kernel_rfl) (by kernel_rfl) (by kernel_rfl) (fun _ _ _ h => h) ⟨Or.inl ⟨by rfl, ?hy12_27⟩, fun _ => rfl⟩ (by assumption) ?rest12_27
          case hy12_27 => (intro w hSw; (try dsimp only at hSw); go_simp; (try with_reducible rfl))
          try simp only [Act.put, List.setIfInBounds_toArray, List.set_cons_zero, List.set_cons_succ]
          refine anyS_take (i := 13) (v := ?v13_28) rfl rfl (by kernel_rfl) (by kernel_rfl) (by kernel_rfl) (fun _ _ _ h => h) ⟨Or.inl ⟨by rfl, ?hy13_28⟩, fun _ => rfl⟩ (by assumption) ?rest13_28
          case hy13_28 => (intro w hSw; (try dsimp only at hSw); go_simp; (try with_reducible rfl))
          try simp only [Act.put, List.setIfInBounds_toArray, List.set_cons_zero, List.set_cons_succ]
          refine anyS_take (i := 14) (v := ?v14_29) rfl rfl (by kernel_rfl) (by kernel_rfl) (by kernel_rfl) (fun _ _ _ h => h) ⟨Or.inl ⟨by rfl, ?hy14_29⟩, fun _ => rfl⟩ (by assumption) ?rest14_29
          case hy14_29 => (intro w hSw; (try dsimp only at hSw); go_simp; (try with_reducible rfl))
          try simp only [Act.put, List.setIfInBounds_toArray, List.set_cons_zero, List.set_cons_succ]
          refine anyS_take (i := 15) (v := ?v15_30) rfl rfl (by kernel_rfl) (by kernel_rfl) (by kernel_rfl) (fun _ _ _ h => h) ⟨Or.inl ⟨by rfl, ?hy15_30⟩, fun _ => rfl⟩ (by assumption) ?rest15_30
          case hy15_30 => (intro w hSw; (try dsimp only at hSw); go_simp; (try with_reducible rfl))
          try simp only [Act.put, List.setIfInBounds_toArray, List.set_cons_zero, List.set_cons_succ]
          refine anyS_one (i := 3) (by kernel_rfl) rfl (fun K hK => ?_)
          go_simp
          refine ⟨trivial, ?_⟩
          refine (callsIn_wide.2 (HT.out _)).mono ?_; rintro e w' ⟨rfl, hb'⟩
          have hkp : KeepS lo b wr w' := KeepS.of_below (hd0.trans hb') (by omega) hy9
          have hJ1 := hJ _ _ _ none hJs (grown_below (hd0.trans hb')) (fun r e => by cases e)
          refine hK.out _ _ (⟨keepW hb' hHeld.1, keepW hb' hHeld.2.1, keepW hb' hHeld.2.2.1, keepW hb' hHeld.2.2.2.1, keepW hb' hHeld.2.2.2.2.1, keepW hb' hHeld.2.2.2.2.2.1, keepW hb' hHeld.2.2.2.2.2.2.1, keepW hb' hHeld.2.2.2.2.2.2.2⟩) (fun hHeld => ?_)
          clear hK K
          try simp only [Act.put, List.setIfInBounds_toArray, List.set_cons_zero, List.set_cons_succ]
          refine anyS_one (i := 16) (by kernel_rfl) rfl (fun K hK => ?_)
          go_simp
          refine ⟨trivial, ?_⟩
          refine (callsIn_wide.2 (modulo_any _ _ (by omega) (by omega))).mono ?_; rintro e w' ⟨rfl, rfl⟩
          refine hK.out _ _ hHeld (fun hHeld => ?_)
          clear hK K
          try simp only [Act.put, List.setIfInBounds_toArray, List.set_cons_zero, List.set_cons_succ]
          obtain ⟨fn, tmps, assign, body, hy, hR⟩ := hY _ (tbB kd c k, (pn - pk) % 65536) _ hJ1 (by have := stpTo_len zs kd c k; omega)
          dsimp only at hy
          clear hHeld HR k0 k1 k2 k3 k4 k5 z0 z1
          refine anyS_done (by kernel_rfl) ?_ _
          change wpListIn _ _ _ _ _ _ _ _
          simp only [List.drop_succ_cons, List.drop_zero]
          gi_wp2
          refine hR.mono ?_
          rintro e W3 (⟨rfl, hJ3, hk3⟩ | ⟨rfl, hJx3⟩)
          · gi_wp2
            go_roundw
            case rel => exact ⟨k + 1, by omega, by go_num, by rw [HN.out]; exact hJ3, hkb.trans (hkp.trans hk3)⟩
            case measure => simp [intOf]; omega
          · gi_wp2
            refine bodyPost_ret (results_none rfl _ _ _) rfl ?_
            exact ⟨⟨_, rfl⟩, .inr ⟨_, trivial, hJx3⟩⟩

        · have q3 : (kd == 2) = false := beq_eq_false_iff_ne.2 q1
          clear q1
          gi_wp2_with fail
          refine wpIn_region_tail (S := (fun w' : World => w'.cell? ⟨lo, 0, none⟩ = some (.int .i64 l) ∧ w'.cell? ⟨lo, 1, none⟩ = some (.int .i64 kd) ∧ w'.cell? ⟨lo, 2, none⟩ = some (.int .i64 f) ∧ w'.cell? ⟨lo, 3, none⟩ = some (.int .i64 s) ∧ w'.cell? ⟨lo, 4, none⟩ = some (.int .i64 c) ∧ w'.cell? ⟨lo + 1, 0, none⟩ = some (.slice (some ⟨b, off, none⟩) n cap) ∧ w'.cell? ⟨b, off + k * 4 + 1, none⟩ = some (.int .i64 pk) ∧ w'.cell? ⟨b, off + (k + 1) * 4 + 1, none⟩ = some (.int .i64 pn))) 17 (by kernel_rfl) (by kernel_rfl) HR.out (fun hHeld => ?_)
          refine anyS_take (i := 0) (v := ?v0_31) rfl rfl (by kernel_rfl) (by kernel_rfl) (by kernel_rfl) (fun _ _ _ h => h) ⟨Or.inl ⟨by rfl, ?hy0_31⟩, fun _ => rfl⟩ (by assumption) ?rest0_31
          case hy0_31 => (intro w hSw; (try dsimp only at hSw); go_simp; (try with_reducible rfl))
          try simp only [Act.put, List.setIfInBounds_toArray, List.set_cons_zero, List.set_cons_succ]
          refine anyS_take (i := 1) (v := ?v1_32) rfl rfl (by kernel_rfl) (by kernel_rfl) (by kernel_rfl) (fun _ _ _ h => h) ⟨Or.inl ⟨by rfl, ?hy1_32⟩, fun _ => rfl⟩ (by assumption) ?rest1_32
          case hy1_32 => (intro w hSw; (try dsimp only at hSw); go_simp; (try with_reducible rfl))
          try simp only [Act.put, List.setIfInBounds_toArray, List.set_cons_zero, List.set_cons_succ]
          refine anyS_take (i := 2) (v := ?v2_33) rfl rfl (by kernel_rfl) (by kernel_rfl) (by kernel_rfl) (fun _ _ _ h => h) ⟨Or.inl ⟨by rfl, ?hy2_33⟩, fun _ => rfl⟩ (by assumption) ?rest2_33
          case hy2_33 => (intro w hSw; (try dsimp only at hSw); go_simp; (try with_reducible rfl))
          try simp only [Act.put, List.setIfInBounds_toArray, List.set_cons_zero, List.set_cons_succ]
          refine anyS_take (i := 4) (v := ?v4_34) rfl rfl (by kernel_rfl) (by kernel_rfl) (by kernel_rfl) (fun _ _ _ h => h) ⟨Or.inl ⟨by rfl, ?hy4_34⟩, fun _ => rfl⟩ (by assumption) ?rest4_34
          case hy4_34 => (intro w hSw; (try dsimp only at hSw); go_simp; (try with_reducible rfl))
          try simp only [Act.put, List.setIfInBounds_toArray, List.set_cons_zero, List.set_cons_succ]
          refine anyS_take (i := 5) (v := ?v5_35) rfl rfl (by kernel_rfl) (by kernel_rfl) (by kernel_rfl) (fun _ _ _ h => h) ⟨Or.inl ⟨by rfl, ?hy5_35⟩, fun _ => rfl⟩ (by assumption) ?rest5_35
          case hy5_35 => (intro w hSw; (try dsimp only at hSw); go_simp; (try with_reducible rfl))
          try simp only [Act.put, List.setIfInBounds_toArray, List.set_cons_zero, List.set_cons_succ]
          refine anyS_take (i := 6) (v := ?v6_36) rfl rfl (by kernel_rfl) (by kernel_rfl) (by kernel_rfl) (fun _ _ _ h => h) ⟨Or.inl ⟨by rfl, ?hy6_36⟩, fun _ => rfl⟩ (by assumption) ?rest6_36
          case hy6_36 => (intro w hSw; (try dsimp only at hSw); go_simp; (try with_reducible rfl))
          try simp only [Act.put, List.setIfInBounds_toArray, List.set_cons_zero, List.set_cons_succ]
          refine anyS_take (i := 7) (v := ?v7_37) rfl rfl (by kernel_rfl) (by kernel_rfl) (by kernel_rfl) (fun _ _ _ h => h) ⟨Or.inl ⟨by rfl, ?hy7_37⟩, fun _ => rfl⟩ (by assumption) ?rest7_37
          case hy7_37 => (intro w hSw; (try dsimp only at hSw); go_simp; (try with_reducible rfl))
          try simp only [Act.put, List.setIfInBounds_toArray, List.set_cons_zero, List.set_cons_succ]
          refine anyS_take (i := 8) (v := ?v8_38) rfl rfl (by kernel_rfl) (by kernel_rfl) (by kernel_rfl) (fun _ _ _ h => h) ⟨Or.inl ⟨by rfl, ?hy8_38⟩, fun _ => rfl⟩ (by assumption) ?rest8_38
          case hy8_38 => (intro w hSw; (try dsimp only at hSw); go_simp; (try with_reducible rfl))
          try simp only [Act.put, List.setIfInBounds_toArray, List.set_cons_zero, List.set_cons_succ]
          refine anyS_take (i := 9) (v := ?v9_39) rfl rfl (by kernel_rfl) (by kernel_rfl) (by kernel_rfl) (fun _ _ _ h => h) ⟨Or.inl ⟨by rfl, ?hy9_39⟩, fun _ => rfl⟩ (by assumption) ?rest9_39
          case hy9_39 => (intro w hSw; (try dsimp only at hSw); go_simp; (try with_reducible rfl))
          try simp only [Act.put, List.setIfInBounds_toArray, List.set_cons_zero, List.set_cons_succ]
          refine anyS_take (i := 10) (v := ?v10_40) rfl rfl (by kernel_rfl) (by kernel_rfl) (by kernel_rfl) (fun _ _ _ h => h) ⟨Or.inl ⟨by rfl, ?hy10_40⟩, fun _ => rfl⟩ (by assumption) ?rest10_40
          case hy10_40 => (intro w hSw; (try dsimp only at hSw); go_simp; (try with_reducible rfl))
          try simp only [Act.put, List.setIfInBounds_toArray, List.set_cons_zero, List.set_cons_succ]
          refine anyS_take (i := 11) (v := ?v11_41) rfl rfl (by kernel_rfl) (by kernel_rfl) (by kernel_rfl) (fun _ _ _ h => h) ⟨Or.inl ⟨by rfl, ?hy11_41⟩, fun _ => rfl⟩ (by assumption) ?rest11_41
          case hy11_41 => (intro w hSw; (try dsimp only at hSw); go_simp; (try with_reducible rfl))
          try simp only [Act.put, List.setIfInBounds_toArray, List.set_cons_zero, List.set_cons_succ]
          refine anyS_take (i := 12) (v := ?v12_42) rfl rfl (by kernel_rfl) (by kernel_rfl) (by kernel_rfl) (fun _ _ _ h => h) ⟨Or.inl ⟨by rfl, ?hy12_42⟩, fun _ => rfl⟩ (by assumption) ?rest12_42
          case hy12_42 => (intro w hSw; (try dsimp only at hSw); go_simp; (try with_reducible rfl))
          try simp only [Act.put, List.setIfInBounds_toArray, List.set_cons_zero, List.set_cons_succ]
          refine anyS_take (i := 13) (v := ?v13_43) rfl rfl (by kernel_rfl) (by kernel_rfl) (by kernel_rfl) (fun _ _ _ h => h) ⟨Or.inl ⟨by rfl, ?hy13_43⟩, fun _ => rfl⟩ (by assumption) ?rest13_43
          case hy13_43 => (intro w hSw; (try dsimp only at hSw); go_simp; (try with_reducible rfl))
          try simp only [Act.put, List.setIfInBounds_toArray, List.set_cons_zero, List.set_cons_succ]
          refine anyS_take (i := 14) (v := ?v14_44) rfl rfl (by kernel_rfl) (by kernel_rfl) (by kernel_rfl) (fun _ _ _ h => h) ⟨Or.inl ⟨by rfl, ?hy14_44⟩, fun _ => rfl⟩ (by assumption) ?rest14_44
          case hy14_44 => (intro w hSw; (try dsimp only at hSw); go_simp; (try with_reducible rfl))
          try simp only [Act.put, List.setIfInBounds_toArray, List.set_cons_zero, List.set_cons_succ]
          refine anyS_take (i := 15) (v := ?v15_45) rfl rfl (by kernel_rfl) (by kernel_rfl) (by kernel_rfl) (fun _ _ _ h => h) ⟨Or.inl ⟨by rfl, ?hy15_45⟩, fun _ => rfl⟩ (by assumption) ?rest15_45
          case hy15_45 => (intro w hSw; (try dsimp only at hSw); go_simp; (try with_reducible rfl))
          try simp only [Act.put, List.setIfInBounds_toArray, List.set_cons_zero, List.set_cons_succ]
          refine anyS_one (i := 3) (by kernel_rfl) rfl (fun K hK => ?_)
          go_simp
          refine ⟨trivial, ?_⟩
          refine (callsIn_wide.2 (HT.out _)).mono ?_; rintro e w' ⟨rfl, hb'⟩
          have hkp : KeepS lo b wr w' := KeepS.of_below (hd0.trans hb') (by omega) hy9
          have hJ1 := hJ _ _ _ none hJs (grown_below (hd0.trans hb')) (fun r e => by cases e)
          refine hK.out _ _ (⟨keepW hb' hHeld.1, keepW hb' hHeld.2.1, keepW hb' hHeld.2.2.1, keepW hb' hHeld.2.2.2.1, keepW hb' hHeld.2.2.2.2.1, keepW hb' hHeld.2.2.2.2.2.1, keepW hb' hHeld.2.2.2.2.2.2.1, keepW hb' hHeld.2.2.2.2.2.2.2⟩) (fun hHeld => ?_)
          clear hK K
          try simp only [Act.put, List.setIfInBounds_toArray, List.set_cons_zero, List.set_cons_succ]
          refine anyS_one (i := 16) (by kernel_rfl) rfl (fun K hK => ?_)
          go_simp
          refine ⟨trivial, ?_⟩
          refine (callsIn_wide.2 (modulo_any _ _ (by omega) (by omega))).mono ?_; rintro e w' ⟨rfl, rfl⟩
          refine hK.out _ _ hHeld (fun hHeld => ?_)
          clear hK K
          try simp only [Act.put, List.setIfInBounds_toArray, List.set_cons_zero, List.set_cons_succ]
          obtain ⟨fn, tmps, assign, body, hy, hR⟩ := hY _ (tbB kd c k, (pn - pk) % 65536) _ hJ1 (by have := stpTo_len zs kd c k; omega)
          dsimp only at hy
          clear hHeld HR k0 k1 k2 k3 k4 k5 z0 z1
          refine anyS_done (by kernel_rfl) ?_ _
          change wpListIn _ _ _ _ _ _ _ _
          simp only [List.drop_succ_cons, List.drop_zero]
          gi_wp2
          refine hR.mono ?_
          rintro e W3 (⟨rfl, hJ3, hk3⟩ | ⟨rfl, hJx3⟩)
          · gi_wp2
            go_roundw
            case rel => exact ⟨k + 1, by omega, by go_num, by rw [HN.out]; exact hJ3, hkb.trans (hkp.trans hk3)⟩
            case measure => simp [intOf]; omega
          · gi_wp2
            refine bodyPost_ret (results_none rfl _ _ _) rfl ?_
            exact ⟨⟨_, rfl⟩, .inr ⟨_, trivial, hJx3⟩⟩

    · obtain rfl : k = n - 1 := by omega
      gi_wp2
      go_end0
      exact ⟨⟨_, rfl⟩, .inl ⟨_, rfl, hJs⟩⟩

end Go.Proofs.Ytmojnopgpgnfeaa
