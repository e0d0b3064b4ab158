/-
  A region that draws its order: its head under a condition on the world, its tail in the one order that is left.
-/
import Derived.StillTail
import Derived.Deep.RegionHeld
import Derived.Deep.RegionHeld3
import Derived.Deep.CutRange
import Derived.Deep.DeepCutAuto
import Derived.BigQuiet
import Derived.Test.Ythnjfnapjpdchaamg17
namespace Go.Proofs.Ythnjfnapjpdchaa
set_option linter.unusedVariables false

section
variable {P : Program} {ops : Array Oper} {Q : Exit → Act → World → Prop} {md : Region.Mode} {S : World → Prop}

theorem wpAny_more : ∀ (f : Nat) (listed : Array Bool) (a : Act) (w : World), wpAny P md ops Q f listed a w → wpAny P md ops Q (f + 1) listed a w
  | 0, listed, a, w, h => ⟨fun _ => h.2, by rw [h.1]; intro i hi; cases hi⟩
  | f + 1, listed, a, w, h => ⟨h.1, fun i hi => wpOp_mono (fun a w => wpAny_more f _ a w) (h.2 i hi)⟩
theorem wpAny_mores {f : Nat} {listed : Array Bool} {a : Act} {w : World} (h : wpAny P md ops Q f listed a w) : ∀ d, wpAny P md ops Q (d + f) listed a w
  | 0 => by rw [Nat.zero_add]; exact h
  | d + 1 => by rw [show d + 1 + f = (d + f) + 1 by omega]; exact wpAny_more _ _ _ _ (wpAny_mores h d)

theorem wpOp_post {Q' : Exit → Act → World → Prop} (hp : ∀ c a w, Q' (.panic c) a w → Q (.panic c) a w) (ho : ∀ a w, Q' .outgrown a w → Q .outgrown a w) {i : Nat} {K : Act → World → Prop} {a : Act} {w : World} (h : wpOp P ops Q' i K a w) : wpOp P ops Q i K a w := by
  unfold wpOp at *
  cases hoi : ops[i]? with
  | none => simpa [hoi] using h
  | some o =>
    simp only [hoi] at h ⊢
    split
    · rename_i hw
      simp only [hw, if_true] at h
      rcases h with h | ⟨h1, a', w', h2⟩
      · left
        unfold Oper.wp at *
        generalize (execOp a.eval o).run P w = r at *
        cases r with
        | ok n w' =>
          cases n <;> simp only [Oper.upon] at h ⊢ <;>
            first
              | exact h
              | exact Calls.mono h (fun e w'' he => by cases e <;> first | exact he | exact hp _ _ _ he | exact (let ⟨x1, x2, x3⟩ := he; ⟨x1, x2, ho _ _ x3⟩))
        | halt x w' => cases x <;> simp only [Oper.upon] at h ⊢ <;> first | exact h | exact hp _ _ _ h | exact ho _ _ h
      · exact .inr ⟨h1, a', w', ho _ _ h2⟩
    · rename_i hw
      simp only [hw] at h
      exact h

/-- each operation waits only for earlier ones -/
def backB (md : Region.Mode) (ops : Array Oper) : Bool :=
  (List.range ops.size).all fun i => ((ops[i]?).map (·.after.all fun e => !Region.binds md e || decide (e.on < i))).getD true
theorem back_of (hb : backB md ops = true) {i : Nat} {o : Oper} (hi : ops[i]? = some o) : ∀ e ∈ o.after, Region.binds md e = true → e.on < i := by
  intro e he hbd
  have hlt := (Array.getElem?_eq_some_iff.1 hi).1
  have h1 := List.all_eq_true.1 hb i (List.mem_range.2 hlt)
  rw [hi] at h1
  simp only [Option.map_some, Option.getD_some] at h1
  have h2 := Array.all_eq_true'.1 h1 e he
  simpa [hbd] using h2

/-- what has come up, and the same with the tail struck -/
structure Struck (ops : Array Oper) (n : Nat) (listed L : Array Bool) : Prop where
  size : L.size = ops.size
  head : ∀ j, j < n → L.getD j true = listed.getD j true
  tail : ∀ j, n ≤ j → L.getD j true = true

theorem getD_tf {L : Array Bool} {j : Nat} (h : j < L.size) : L.getD j true = L.getD j false := by simp [h]

theorem least_ready {n : Nat} {listed L : Array Bool} (hb : backB md ops = true) (hn : n ≤ ops.size) (hs : listed.size = ops.size) (hL : Struck ops n listed L) :
    ∀ (d i : Nat), i = d → i < n → listed.getD i true = false → ∃ j, j < n ∧ j ∈ Region.ready md ops listed ∧ j ∈ Region.ready md ops L := by
  intro d
  induction d using Nat.strongRecOn with
  | _ d ih =>
    intro i hid hi hun
    obtain ⟨o, ho⟩ : ∃ o, ops[i]? = some o := ⟨ops[i]'(by omega), Array.getElem?_eq_getElem _⟩
    by_cases hall : ∀ e ∈ o.after, Region.binds md e = true → listed.getD e.on false = true
    · refine ⟨i, hi, mem_ready.2 ⟨hun, o, ho, hall⟩, mem_ready.2 ⟨by rw [hL.head i hi]; exact hun, o, ho, fun e he hbd => ?_⟩⟩
      have hlt := back_of hb ho e he hbd
      rw [← getD_tf (by rw [hL.size]; omega), hL.head _ (by omega), getD_tf (by omega)]
      exact hall e he hbd
    · obtain ⟨e, he⟩ := Classical.not_forall.1 hall
      obtain ⟨hm, he2⟩ := Classical.not_imp.1 he
      obtain ⟨hbd, hf⟩ := Classical.not_imp.1 he2
      have hlt := back_of hb ho e hm hbd
      have hf2 : listed.getD e.on true = false := by rw [getD_tf (by omega)]; simpa using hf
      exact ih e.on (by omega) e.on rfl (by omega) hf2

/-- what is to hold where the head is through: the tail's walk -/
def TailPost (P : Program) (ops : Array Oper) (Q : Exit → Act → World → Prop) (tl : List Oper) : Exit → Act → World → Prop
  | .normal, a, w => wpList P ops Q tl a w
  | e, a, w => Q e a w

theorem ready_struck {n i : Nat} {listed L : Array Bool} (hs : listed.size = ops.size) (hL : Struck ops n listed L) (hi : i < n) (h : i ∈ Region.ready md ops listed) : i ∈ Region.ready md ops L := by
  obtain ⟨hun, o, ho, hall⟩ := mem_ready.1 h
  refine mem_ready.2 ⟨by rw [hL.head i hi]; exact hun, o, ho, fun e he hbd => ?_⟩
  have h1 := hall e he hbd
  have hlt : e.on < listed.size := by
    rcases Nat.lt_or_ge e.on listed.size with h' | h'
    · exact h'
    · simp [Array.getElem?_eq_none h'] at h1
  rw [← getD_tf (by rw [hL.size]; omega)]
  rcases Nat.lt_or_ge e.on n with h' | h'
  · rw [hL.head _ h', getD_tf hlt]; exact h1
  · exact hL.tail _ h'

theorem held_tail {n g : Nat} {tl : List Oper} {done : Array Bool} (hb : backB md ops = true) (hs : Region.sinkB md ops n = true) (hc : Region.chainB md ops n = true) (hn : n < ops.size)
    (hdone : ∀ listed : Array Bool, HeadInv md ops n listed → (∀ j, j < n → listed.getD j true = true) → listed = done)
    (hseq : ∀ (a : Act) (w : World), wpList P ops Q tl a w → wpAny P md ops Q g done a w) :
    ∀ (f : Nat) (listed L : Array Bool) (a : Act) (w : World), HeadInv md ops n listed → Struck ops n listed L → wpAnyH P md ops (TailPost P ops Q tl) S f L a w → wpAny P md ops Q (f + g) listed a w := by
  intro f
  induction f with
  | zero =>
    intro listed L a w inv hL h
    rw [Nat.zero_add]
    have hall : ∀ j, j < n → listed.getD j true = true := fun j hj => by
      cases hh : listed.getD j true with
      | true => rfl
      | false =>
        obtain ⟨j2, _, _, h2⟩ := least_ready (md := md) hb (by omega) inv.size hL j j rfl hj hh
        rw [h.1] at h2; cases h2
    rw [hdone listed inv hall]
    exact hseq _ _ h.2
  | succ f ih =>
    intro listed L a w inv hL h
    by_cases hall : ∀ j, j < n → listed.getD j true = true
    · have hr : Region.ready md ops L = [] := by
        cases hrr : Region.ready md ops L with
        | nil => rfl
        | cons i rs =>
          have hi : i ∈ Region.ready md ops L := by rw [hrr]; exact List.mem_cons_self
          have hun := (mem_ready.1 hi).1
          rcases Nat.lt_or_ge i n with h' | h'
          · rw [hL.head i h', hall i h'] at hun; cases hun
          · rw [hL.tail i h'] at hun; cases hun
      rw [hdone listed inv hall]
      exact wpAny_mores (hseq _ _ (h.1 hr)) (f + 1)
    · obtain ⟨i0, hi0⟩ := Classical.not_forall.1 hall
      obtain ⟨hi0n, hi0f⟩ := Classical.not_imp.1 hi0
      have hun0 : listed.getD i0 true = false := by simpa using hi0f
      rw [show f + 1 + g = (f + g) + 1 by omega]
      refine ⟨fun h0 => ?_, fun i hi => ?_⟩
      · obtain ⟨j2, _, h2, _⟩ := least_ready (md := md) hb (by omega) inv.size hL i0 i0 rfl hi0n hun0
        rw [h0] at h2; cases h2
      · have hin : i < n := by
          rcases Nat.lt_or_ge i n with h' | h'
          · exact h'
          · exact absurd hi (tail_waits hs hc hn inv _ i0 rfl hi0n hun0 i h')
        have h2 := h.2 i (ready_struck inv.size hL hin hi)
        refine wpOp_mono (fun a' w' h3 => ih _ _ a' w' (inv.set hi hin) ?_ h3.2) (wpOp_post (Q' := TailPost P ops Q tl) (fun _ _ _ h => h) (fun _ _ h => h) h2)
        refine ⟨by simp [hL.size], fun j hj => ?_, fun j hj => ?_⟩
        · by_cases e : i = j
          · subst e
            rw [getD_tf (by simp [hL.size]; omega), getD_tf (by simp [inv.size]; omega)]
            simp [hL.size, inv.size, show i < ops.size by omega]
          · rw [getD_set_ne true e, getD_set_ne true e]; exact hL.head j hj
        · rw [getD_set_ne true (by omega)]; exact hL.tail j hj

/-- the head has come up -/
def doneHead (m n : Nat) : Array Bool := ((List.range m).map fun j => decide (j < n)).toArray
/-- the tail is struck -/
def struckTail (m n : Nat) : Array Bool := ((List.range m).map fun j => decide (n ≤ j)).toArray
def heldTailB (md : Region.Mode) (ops : Array Oper) (n : Nat) : Bool :=
  decide (n < ops.size) && backB md ops && Region.sinkB md ops n && Region.chainB md ops n && Region.seqB md ops (ops.size - n) n (doneHead ops.size n)

theorem wp_region_held_tail {id : Nat} {a : Act} {w : World} {l : List Oper} (n : Nat) (hm : P.follows .mixedOrders = true) (hB : heldTailB .any l.toArray n = true) (hS : S w.drew)
    (h : S w.drew → wpAnyH P .any l.toArray (TailPost P l.toArray Q (l.drop n)) S n (struckTail l.length n) a w.drew) : (Code.region id l.toArray true).wp P Q a w := by
  simp only [heldTailB, Bool.and_eq_true, decide_eq_true_eq] at hB
  obtain ⟨⟨⟨⟨hn, hb⟩, hs⟩, hc⟩, hseq⟩ := hB
  have hn' : n < l.length := by simpa using hn
  have inv0 : HeadInv .any l.toArray n (Array.replicate l.toArray.size false) :=
    ⟨by simp, fun j oj hj hl => (by rw [getD_replicate_false] at hl; cases hl), fun t ht ht' => by rw [List.size_toArray] at ht'; simp [ht']⟩
  refine wp_region_any hm ?_
  have key := held_tail (P := P) (Q := Q) (S := S) (md := .any) (ops := l.toArray) (n := n) (g := l.length - n) (tl := l.drop n) (done := doneHead l.length n) hb hs hc hn
    (fun listed inv hall => ?_) (fun a w hw => ?_) n (Array.replicate l.toArray.size false) (struckTail l.length n) a w.drew inv0 ⟨by simp [struckTail], fun j hj => ?_, fun j hj => ?_⟩ (h hS)
  · rw [show n + (l.length - n) = l.toArray.size by simp; omega] at key
    exact key
  · refine Array.ext (by rw [inv.size]; simp [doneHead]) (fun j h1 h2 => ?_)
    have hj : j < l.length := by rw [inv.size] at h1; simpa using h1
    rcases Nat.lt_or_ge j n with h' | h'
    · have := hall j h'
      simp [h1] at this
      simp [doneHead, this, h']
    · have := inv.tail j h' (by simpa using hj)
      simp [h1] at this
      simp [doneHead, this, show ¬ j < n by omega]
  · have hlen : (l.drop n).length = l.length - n := by simp
    have hsq : Region.seqB .any l.toArray (l.drop n).length n (doneHead l.length n) = true := by rw [hlen]; simpa using hseq
    have := wpAny_of_seq (P := P) (md := .any) (ops := l.toArray) (l.drop n) n (doneHead l.length n) a w (fun j => by simp [List.getElem?_drop]) hsq hw
    rw [hlen] at this
    exact this
  · have hj2 : j < l.length := by omega
    simp [struckTail, hj2, show ¬ n ≤ j by omega]
  · rcases Nat.lt_or_ge j l.length with h' | h'
    · simp [struckTail, h', hj]
    · simp [struckTail, h']
end

end Go.Proofs.Ythnjfnapjpdchaa

namespace Go.Proofs.Ythnjfnapjpdchaa
open Go.RowKit
set_option linter.unusedVariables false
set_option linter.unusedSimpArgs false

theorem two_cells (x y : Int) : ∀ u ∈ [Value.int .i64 x, Value.int .i64 y], u.oneCell' = true := by
  intro u hu
  simp at hu
  rcases hu with rfl | rfl <;> rfl

set_option maxRecDepth 100000 in
set_option maxHeartbeats 25600000 in
theorem BeamGrows_ok (nm : ByteArray) (x y z rose : Int) (g : Nat) (step width lo hi gx gy size wide high : Int) (fb off len cap : Nat) (zs : Nat → Int × Int) (t ray : Int) (ca : Option Addr) (cl cc : Nat) (cs : Nat → Int) (ua : Option Addr) (ul uc : Nat) (us : Nat → Int) (w : World) (hs : nm.size ≤ maxLen) (hf : fewB nm.size rose g wide high = true) (h3 : len ≤ 300) (h4 : cl ≤ 700) (h5 : ul ≤ 300)
    (hg2 : g ≤ 200) (d1 : 0 ≤ width) (d2 : width ≤ 8) (hsp : SpansAt w fb off len zs) (hfb : fb < w.heap.size) (ha : AllIn len zs 0 20000)
    (hcs : NumsIs .u32 w ca cl cs) (hus : NumsIs .u8 w ua ul us) (hub : ∀ i, 0 ≤ us i ∧ us i ≤ 255)
    (La Ha Lb Hb Lc Hc : Nat → Int) (P Q : Int) (tz hh : Nat → Int × Int)
    (f46a : ∀ wx : World, Below w.heap.size w wx → Calls Try.prog 46 #[.agg #[.string nm, .int .i64 x, .int .i64 y, .int .i64 z, .int .i64 rose, .int .i64 (g : Nat), .int .i64 step, .int .i64 width], .int .i64 t, .agg #[.int .i64 lo, .int .i64 hi], .agg #[.int .i64 gx, .int .i64 gy, .int .i64 size, .int .i64 wide, .int .i64 high, .slice (some ⟨fb, off, none⟩) len cap], .int .i64 ray] wx (BlkRet g La Ha wx))
    (fence : ∀ j, j < g → 0 ≤ La j ∧ La j ≤ Ha j ∧ Ha j ≤ 2 * width + 1) (nextL : ∀ j, La j ≤ La (j + 1)) (nextH : ∀ j, Ha j ≤ Ha (j + 1))
    (hin : ∀ wx : World, Calls Try.prog 52 #[.agg #[.int .i64 lo, .int .i64 hi], .int .u32 (cutC cl cs 0), .int .u32 (cutC cl cs 1)] wx fun e w' => e = .returned (.agg #[.int .i64 P, .int .i64 Q]) ∧ Below wx.heap.size wx w')
    (hiz : ∀ (k : Nat), k < len → ∀ wx : World, Calls Try.prog 52 #[.agg #[.int .i64 (zs k).1, .int .i64 (zs k).2], .int .u32 (cutC cl cs (2 * k + 2)), .int .u32 (cutC cl cs (2 * k + 3))] wx fun e w' => e = .returned (.agg #[.int .i64 (tz k).1, .int .i64 (tz k).2]) ∧ Below wx.heap.size wx w')
    (hhz : ∀ k, hh k = if k < ul then (if (zs k).1 + us k < 20000 then (zs k).1 + us k else 20000, if (zs k).2 + us k < 20000 then (zs k).2 + us k else 20000) else zs k)
    (f46b : ∀ (b c : Nat) (wx : World), SpansAt wx b 0 len tz → b < wx.heap.size → Calls Try.prog 46 #[.agg #[.string nm, .int .i64 x, .int .i64 y, .int .i64 z, .int .i64 rose, .int .i64 (g : Nat), .int .i64 step, .int .i64 width], .int .i64 t, .agg #[.int .i64 P, .int .i64 Q], .agg #[.int .i64 gx, .int .i64 gy, .int .i64 size, .int .i64 wide, .int .i64 high, .slice (some ⟨b, 0, none⟩) len c], .int .i64 ray] wx (BlkRet g Lb Hb wx))
    (f46c : ∀ (b c : Nat) (wx : World), SpansAt wx b 0 len hh → b < wx.heap.size → Calls Try.prog 46 #[.agg #[.string nm, .int .i64 x, .int .i64 y, .int .i64 z, .int .i64 rose, .int .i64 (g : Nat), .int .i64 step, .int .i64 width], .int .i64 t, .agg #[.int .i64 lo, .int .i64 hi], .agg #[.int .i64 gx, .int .i64 gy, .int .i64 size, .int .i64 wide, .int .i64 high, .slice (some ⟨b, 0, none⟩) len c], .int .i64 ray] wx (BlkRet g Lc Hc wx))
    (hlen : 0 < len) (fin : ∀ j, j < g → Lb j ≤ Hb j ∧ La j ≤ Lb j ∧ Hb j ≤ Ha j ∧ La j ≤ Lc j ∧ Ha j ≤ Hc j) :
    Calls Try.prog 12 #[.agg #[.string nm, .int .i64 x, .int .i64 y, .int .i64 z, .int .i64 rose, .int .i64 (g : Nat), .int .i64 step, .int .i64 width], .int .i64 t, .agg #[.int .i64 lo, .int .i64 hi], .agg #[.int .i64 gx, .int .i64 gy, .int .i64 size, .int .i64 wide, .int .i64 high, .slice (some ⟨fb, off, none⟩) len cap], .int .i64 ray, .slice ca cl cc, .slice ua ul uc] w fun e w' => e = .returned (.bool true) ∧ Below w.heap.size w w' := by
  obtain ⟨i0, hi0, hz0, hz1, hz2⟩ := info_parts info43
  have HS := Lib.hid hs
  have HF := Lib.hid hf
  have FA := Lib.hid f46a
  have FB := Lib.hid f46b
  have FC := Lib.hid f46c
  have HIN := Lib.hid hin
  have HIZ := Lib.hid hiz
  have HHZ := Lib.hid hhz
  have HSP := Lib.hid hsp
  have HAL := Lib.hid ha
  have HCS := Lib.hid hcs
  have HUS := Lib.hid hus
  have HUB := Lib.hid hub
  have FEN := Lib.hid fence
  have NXL := Lib.hid nextL
  have NXH := Lib.hid nextH
  have FIN := Lib.hid fin
  clear hs hf f46a f46b f46c hin hiz hhz hsp ha hcs hus hub fence nextL nextH fin
  have i1 : IntKind.i64.wrap (2 * width) = 2 * width := IntWalk.i64_in _ (by omega)
  have i2 : IntKind.i64.wrap (2 * width + 1) = 2 * width + 1 := IntWalk.i64_in _ (by omega)
  go_enter Try.func12, Try.ntmps12
  go_wp2_with fail
  refine (few_any _ _ _ _ _ _ _ _ _ _ _ _ _ _ HS.out).mono ?_; rintro e w1 ⟨rfl, hb1⟩
  have O1 := (SEF.new w nm x y z rose g step width lo hi gx gy size wide high (.slice (some ⟨fb, off, none⟩) len cap)).keep hb1 (by simp)
  clear hb1
  obtain ⟨⟨k0, k1, k2, k3, k4, k5, k6, k7⟩, ⟨p0, p1⟩, ⟨f0, f1, f2, f3, f4, f5⟩, hz, hbw⟩ := O1
  have y0 : w.heap.size < w1.heap.size := by omega
  have y1 : w.heap.size + 1 < w1.heap.size := by omega
  have y2 : w.heap.size + 1 + 1 < w1.heap.size := by omega
  rw [HF.out]
  go_wp2_with fail
  refine (FA.out _ hbw).mono ?_; rintro e w2 ⟨ba, cA, rfl, SA, ba0, bal, hb2⟩
  have O2 := (⟨⟨k0, k1, k2, k3, k4, k5, k6, k7⟩, ⟨p0, p1⟩, ⟨f0, f1, f2, f3, f4, f5⟩, hz, hbw⟩ : SEF w w1 nm x y z rose (g : Int) step width lo hi gx gy size wide high (.slice (some ⟨fb, off, none⟩) len cap)).keep hb2 hz
  have ES := Lib.hid O2
  have HSA := Lib.hid SA
  clear k0 k1 k2 k3 k4 k5 k6 k7 p0 p1 f0 f1 f2 f3 f4 f5 hz hbw y0 y1 y2 hb2 SA
  obtain ⟨⟨k0, k1, k2, k3, k4, k5, k6, k7⟩, ⟨p0, p1⟩, ⟨f0, f1, f2, f3, f4, f5⟩, hz, hbw⟩ := O2
  have y0 : w.heap.size < w2.heap.size := by omega
  have y1 : w.heap.size + 1 < w2.heap.size := by omega
  have y2 : w.heap.size + 1 + 1 < w2.heap.size := by omega
  go_wp2
  go_loopw [17] (fun i wr => ∃ k : Nat, k ≤ g ∧ i = .int .i64 k ∧ Below w2.heap.size w2 wr) (fun i _ => g - (intOf i).toNat)
  case atStart => exact ⟨0, Nat.zero_le _, rfl, Below.refl _ _⟩
  case round =>
  clear k0 k1 k2 k3 k4 k5 k6 k7 p0 p1 f0 f1 f2 f3 f4 f5 hz hbw y0 y1 y2
  obtain ⟨k, hk, rfl, hbk⟩ := hrel
  have ES2 := Lib.hid (ES.out.keep hbk ES.out.z)
  obtain ⟨⟨k0, k1, k2, k3, k4, k5, k6, k7⟩, ⟨p0, p1⟩, ⟨f0, f1, f2, f3, f4, f5⟩, hz, hbw⟩ := ES2.out
  have y0 : w.heap.size < wr.heap.size := by omega
  have y1 : w.heap.size + 1 < wr.heap.size := by omega
  have y2 : w.heap.size + 1 + 1 < wr.heap.size := by omega
  have balr : ba < wr.heap.size := Nat.lt_of_lt_of_le bal hbk.size
  by_cases hlt : k < g
  · obtain ⟨c0, c1⟩ := HSA.out.keep hbk bal k hlt
    rw [Nat.zero_add] at c0 c1
    obtain ⟨n0, n1, n2⟩ := FEN.out k hlt
    have q0 : (0 : Int) ≤ (k : Int) := by omega
    have q1 : (k : Int) < (g : Int) := by omega
    have e0 : decide (La k < 0) = false := decide_eq_false (by omega)
    have e1 : decide (La k > Ha k) = false := decide_eq_false (by omega)
    have e2 : decide (Ha k > 2 * width + 1) = false := decide_eq_false (by omega)
    clear n0 n1 n2
    rcases Nat.eq_zero_or_pos k with hk0 | hk0
    · subst hk0
      have e5 : decide ((0 : Int) > 0) = false := by decide
      go_wp2
      go_quiet (fail)
      go_wp2
      go_roundw
      case rel => exact ⟨0 + 1, by omega, by go_num, below_drewN hbk _⟩
      case measure => simp [intOf]; omega
    · obtain ⟨m, hm⟩ : ∃ m, k = m + 1 := ⟨k - 1, by omega⟩
      obtain ⟨b0, b1⟩ := HSA.out.keep hbk bal m (by omega)
      rw [Nat.zero_add] at b0 b1
      have e3 : decide (La k < La m) = false := decide_eq_false (by rw [hm]; have := NXL.out m; omega)
      have e4 : decide (Ha k < Ha m) = false := decide_eq_false (by rw [hm]; have := NXH.out m; omega)
      have e5 : decide ((k : Int) > 0) = true := decide_eq_true (by omega)
      have i6 : IntKind.i64.wrap ((k : Int) - 1) = (m : Int) := by rw [IntWalk.i64_in _ (by omega)]; omega
      have q2 : (0 : Int) ≤ (m : Int) := by omega
      have q3 : (m : Int) < (g : Int) := by omega
      have HM := Lib.hid hm
      clear hm
      go_wp2
      go_quiet (fail)
      go_wp2
      go_roundw
      case rel => exact ⟨k + 1, by omega, by go_num, below_drewN hbk _⟩
      case measure => simp [intOf]; omega
  · have hkg : k = g := by omega
    clear hlt
    go_upto_region 11 with fail
    go_cut [18, 19] from 129 to 130 (fun a b wx => ∃ b1 b2 : Nat, a = .pointer (some ⟨b1, 0, none⟩) ∧ b = .pointer (some ⟨b2, 0, none⟩) ∧ b1 ≠ b2 ∧ wr.heap.size ≤ b1 ∧ wr.heap.size ≤ b2 ∧ b1 < wx.heap.size ∧ b2 < wx.heap.size ∧ FieldAt wx b1 gx gy size wide high (.slice (some ⟨fb, off, none⟩) len cap) ∧ FieldAt wx b2 gx gy size wide high (.slice (some ⟨fb, off, none⟩) len cap) ∧ wx.frozen? ⟨b1, 5, none⟩ = false ∧ wx.frozen? ⟨b2, 5, none⟩ = false ∧ Below wr.heap.size wr wx)
    case first =>
      go_region
      all_goals (go_wp2_with fail; go_meet)
      all_goals (obtain ⟨R1, R2, R3, R4, R5, R6⟩ := two_fields wr gx gy size wide high (.slice (some ⟨fb, off, none⟩) len cap))
      all_goals (first | exact ⟨wr.heap.size, wr.heap.size + 1, rfl, rfl, by omega, Nat.le_refl _, by omega, by omega, by omega, R1, R2, R3, R4, R6⟩ | exact ⟨wr.heap.size + 1, wr.heap.size, rfl, rfl, by omega, by omega, Nat.le_refl _, by omega, by omega, R2, R1, R4, R3, R6⟩)
    case rest =>
    obtain ⟨b1, b2, rfl, rfl, hne, z1, z2, x1, x2, hf1, hf2, g1, g2, hbc⟩ := hcut
    have HBC := Lib.hid (hbk.trans (hbc.mono hbk.size))
    have GST := Lib.hid (GRel.start tz hh HBC.out hf1 hf2 g1 g2 (Nat.le_trans hbk.size z1) (Nat.le_trans hbk.size z2) hne x1 x2)
    clear k0 k1 k2 k3 k4 k5 k6 k7 p0 p1 f0 f1 f2 f3 f4 f5 hz hbw y0 y1 y2 balr
    obtain ⟨_, _, _, _, _, h15⟩ := hf1
    obtain ⟨_, _, _, _, _, h25⟩ := hf2
    go_wp2
    clear h15 h25 x1 x2 g1 g2 z1 z2 hkg hk
    go_loopw [20] (fun i wr => ∃ k : Nat, k ≤ len ∧ i = .int .i64 k ∧ ∃ tv hv : Value, GRel w2 wr wc.heap.size b1 b2 k k tv hv tz hh gx gy size wide high) (fun i _ => len - (intOf i).toNat)
    case atStart => exact ⟨0, Nat.zero_le _, rfl, _, _, GST.out⟩
    case round =>
    clear GST
    obtain ⟨k, hk, rfl, tv, hv, hR⟩ := hrel
    have HR := Lib.hid hR
    have ES2 := Lib.hid (ES.out.keep hR.b ES.out.z)
    clear hR
    obtain ⟨⟨k0, k1, k2, k3, k4, k5, k6, k7⟩, ⟨p0, p1⟩, ⟨f0, f1, f2, f3, f4, f5⟩, hz, hbw⟩ := ES2.out
    have y0 : w.heap.size < wr.heap.size := by omega
    have y1 : w.heap.size + 1 < wr.heap.size := by omega
    have y2 : w.heap.size + 1 + 1 < wr.heap.size := by omega
    by_cases hlt : k < len
    · obtain ⟨c0, c1⟩ := HSP.out.keep hbw hfb k hlt
      have hfbr : fb < wr.heap.size := Nat.lt_of_lt_of_le hfb hbw.size
      obtain ⟨n1, n2, n3⟩ := spanB_true.1 (HAL.out k hlt)
      have q0 : (0 : Int) ≤ (k : Int) := by omega
      have q1 : (k : Int) < (len : Int) := by omega
      have e1 : decide ((zs k).1 > (zs k).2) = false := decide_eq_false (by omega)
      go_upto_region 19 with fail
      have R5 := Lib.hid (HR.out.keep (below_alloc wr (.cells #[.int .i64 (zs k).1, .int .i64 (zs k).2] 43)))
      have PV := PairAt.new wr (.int .i64 (zs k).1) (.int .i64 (zs k).2) 43
      have FV0 : (wr.alloc (.cells #[.int .i64 (zs k).1, .int .i64 (zs k).2] 43)).frozen? ⟨wr.heap.size, 0, none⟩ = false := alloc_newF rfl
      have FV1 : (wr.alloc (.cells #[.int .i64 (zs k).1, .int .i64 (zs k).2] 43)).frozen? ⟨wr.heap.size, 1, none⟩ = false := alloc_newF rfl
      have zX : (wr.alloc (.cells #[.int .i64 (zs k).1, .int .i64 (zs k).2] 43)).heap.size = wr.heap.size + 1 := by simp
      have bX : Below w.heap.size w (wr.alloc (.cells #[.int .i64 (zs k).1, .int .i64 (zs k).2] 43)) := hbw.trans ((below_alloc _ _).mono (by omega))
      clear k0 k1 k2 k3 k4 k5 k6 k7 p0 p1 f0 f1 f2 f3 f4 f5 hz hbw y0 y1 y2 c0 c1 hfbr e1
      have ownb : ∀ q, tv.ownBlock = some q → q < wr.heap.size := fun q hq => (HR.out.ot.lt q hq).2
      have zB : wc.heap.size ≤ wr.heap.size := HR.out.zz
      have ownh : ∀ q, hv.ownBlock = some q → q ≠ wr.heap.size := fun q hq => Nat.ne_of_lt (HR.out.oh.lt q hq).2
      clear HR ES2
      generalize wr.alloc (.cells #[.int .i64 (zs k).1, .int .i64 (zs k).2] 43) = X at R5 PV FV0 FV1 zX bX ⊢
      obtain ⟨v0, v1⟩ := PV
      have j7 : IntKind.i64.wrap (2 * (k : Int)) = 2 * (k : Int) := IntWalk.i64_in _ (by omega)
      have j8 : IntKind.i64.wrap (2 * (k : Int) + 2) = 2 * (k : Int) + 2 := IntWalk.i64_in _ (by omega)
      have j9 : IntKind.i64.wrap (2 * (k : Int) + 3) = 2 * (k : Int) + 3 := IntWalk.i64_in _ (by omega)
      have HC2 := Lib.hid (show Calls Try.prog 54 #[.slice ca cl cc, .int .i64 (2 * (k : Int) + 2)] X.drew (fun e w' => e = .returned (.int .u32 (cutC cl cs (2 * k + 2))) ∧ X.drew = w') from by
        have h := cut_any ca cl cc cs (2 * k + 2) X.drew (by omega) (by omega) (HCS.out.keep bX.drew)
        rwa [show ((2 * k + 2 : Nat) : Int) = 2 * (k : Int) + 2 by omega] at h)
      have HC3 := Lib.hid (show Calls Try.prog 54 #[.slice ca cl cc, .int .i64 (2 * (k : Int) + 3)] X.drew (fun e w' => e = .returned (.int .u32 (cutC cl cs (2 * k + 3))) ∧ X.drew = w') from by
        have h := cut_any ca cl cc cs (2 * k + 3) X.drew (by omega) (by omega) (HCS.out.keep bX.drew)
        rwa [show ((2 * k + 3 : Nat) : Int) = 2 * (k : Int) + 3 by omega] at h)
      have t5 := R5.out.ft.c5
      have tf := R5.out.tf
      have HOT := Lib.hid R5.out.ot
      have tb : b1 < X.heap.size := by have := R5.out.l1; omega
      have HS19 := Lib.hid (show (fun w' : World => w'.cell? ⟨b1, 5, none⟩ = some tv ∧ w'.cell? ⟨wr.heap.size, 0, none⟩ = some (.int .i64 (zs k).1) ∧ w'.cell? ⟨wr.heap.size, 1, none⟩ = some (.int .i64 (zs k).2) ∧ Below X.heap.size X w') X.drew from ⟨t5, v0, v1, (Below.refl _ _).drew⟩)
      refine wp_region_held_tail (S := fun w' : World => w'.cell? ⟨b1, 5, none⟩ = some tv ∧ w'.cell? ⟨wr.heap.size, 0, none⟩ = some (.int .i64 (zs k).1) ∧ w'.cell? ⟨wr.heap.size, 1, none⟩ = some (.int .i64 (zs k).2) ∧ Below X.heap.size X w') 15 (by kernel_rfl) (by kernel_rfl) HS19.out (fun hHeld => ?_)
      refine wpAnyH_take (i := 0) (v := ?v0) rfl (by kernel_rfl) (by kernel_rfl) (by kernel_rfl) (fun _ _ _ h => h) (Or.inl ⟨by rfl, ?hy0⟩) (by assumption) ?rest0
      case hy0 => (intro w hSw; (try dsimp only at hSw); go_simp; (try with_reducible rfl))
      try simp only [Act.put, List.setIfInBounds_toArray, List.set_cons_zero, List.set_cons_succ]
      refine wpAnyH_take (i := 1) (v := ?v1) rfl (by kernel_rfl) (by kernel_rfl) (by kernel_rfl) (fun _ _ _ h => h) (Or.inl ⟨by rfl, ?hy1⟩) (by assumption) ?rest1
      case hy1 => (intro w hSw; (try dsimp only at hSw); go_simp; (try with_reducible rfl))
      try simp only [Act.put, List.setIfInBounds_toArray, List.set_cons_zero, List.set_cons_succ]
      refine wpAnyH_take (i := 2) (v := ?v2) rfl (by kernel_rfl) (by kernel_rfl) (by kernel_rfl) (fun _ _ _ h => h) (Or.inl ⟨by rfl, ?hy2⟩) (by assumption) ?rest2
      case hy2 => (intro w hSw; (try dsimp only at hSw); go_simp; (try with_reducible rfl))
      try simp only [Act.put, List.setIfInBounds_toArray, List.set_cons_zero, List.set_cons_succ]
      refine wpAnyH_take (i := 3) (v := ?v3) rfl (by kernel_rfl) (by kernel_rfl) (by kernel_rfl) (fun _ _ _ h => h) (Or.inl ⟨by rfl, ?hy3⟩) (by assumption) ?rest3
      case hy3 => (intro w hSw; (try dsimp only at hSw); go_simp; (try with_reducible rfl))
      try simp only [Act.put, List.setIfInBounds_toArray, List.set_cons_zero, List.set_cons_succ]
      refine wpAnyH_take (i := 4) (v := ?v4) rfl (by kernel_rfl) (by kernel_rfl) (by kernel_rfl) (fun _ _ _ h => h) (Or.inl ⟨by rfl, ?hy4⟩) (by assumption) ?rest4
      case hy4 => (intro w hSw; (try dsimp only at hSw); go_simp; (try with_reducible rfl))
      try simp only [Act.put, List.setIfInBounds_toArray, List.set_cons_zero, List.set_cons_succ]
      refine wpAnyH_take (i := 5) (v := ?v5) rfl (by kernel_rfl) (by kernel_rfl) (by kernel_rfl) (fun _ _ _ h => h) (Or.inl ⟨by rfl, ?hy5⟩) (by assumption) ?rest5
      case hy5 => (intro w hSw; (try dsimp only at hSw); go_simp; (try with_reducible rfl))
      try simp only [Act.put, List.setIfInBounds_toArray, List.set_cons_zero, List.set_cons_succ]
      refine wpAnyH_take (i := 6) (v := ?v6) rfl (by kernel_rfl) (by kernel_rfl) (by kernel_rfl) (fun _ _ _ h => h) (Or.inl ⟨by rfl, ?hy6⟩) (by assumption) ?rest6
      case hy6 => (intro w hSw; (try dsimp only at hSw); go_simp; (try with_reducible rfl))
      try simp only [Act.put, List.setIfInBounds_toArray, List.set_cons_zero, List.set_cons_succ]
      refine wpAnyH_take (i := 8) (v := ?v8) rfl (by kernel_rfl) (by kernel_rfl) (by kernel_rfl) (fun _ _ _ h => h) (Or.inl ⟨by rfl, ?hy8⟩) (by assumption) ?rest8
      case hy8 => (intro w hSw; (try dsimp only at hSw); go_simp; (try with_reducible rfl))
      try simp only [Act.put, List.setIfInBounds_toArray, List.set_cons_zero, List.set_cons_succ]
      refine wpAnyH_take (i := 9) (v := ?v9) rfl (by kernel_rfl) (by kernel_rfl) (by kernel_rfl) (fun _ _ _ h => h) (Or.inl ⟨by rfl, ?hy9⟩) (by assumption) ?rest9
      case hy9 => (intro w hSw; (try dsimp only at hSw); go_simp; (try with_reducible rfl))
      try simp only [Act.put, List.setIfInBounds_toArray, List.set_cons_zero, List.set_cons_succ]
      refine wpAnyH_take (i := 10) (v := ?v10) rfl (by kernel_rfl) (by kernel_rfl) (by kernel_rfl) (fun _ _ _ h => h) (Or.inl ⟨by rfl, ?hy10⟩) (by assumption) ?rest10
      case hy10 => (intro w hSw; (try dsimp only at hSw); go_simp; (try with_reducible rfl))
      try simp only [Act.put, List.setIfInBounds_toArray, List.set_cons_zero, List.set_cons_succ]
      refine wpAnyH_take (i := 11) (v := ?v11) rfl (by kernel_rfl) (by kernel_rfl) (by kernel_rfl) (fun _ _ _ h => h) (Or.inl ⟨by rfl, ?hy11⟩) (by assumption) ?rest11
      case hy11 => (intro w hSw; (try dsimp only at hSw); go_simp; (try with_reducible rfl))
      try simp only [Act.put, List.setIfInBounds_toArray, List.set_cons_zero, List.set_cons_succ]

      refine wpAnyH_ready (rs := [7]) (by kernel_rfl) (by simp) ?_
      refine AllReadyH.cons rfl (fun K hK => ?_) AllReadyH.nil
      go_simp; go_at_call 54; refine HC2.out.mono ?_; rintro e w' ⟨rfl, rfl⟩
      refine hK.out _ _ hHeld (fun hHeld => ?_)
      clear hK K
      try simp only [Act.put, List.setIfInBounds_toArray, List.set_cons_zero, List.set_cons_succ]
      refine wpAnyH_ready (rs := [12]) (by kernel_rfl) (by simp) ?_
      refine AllReadyH.cons rfl (fun K hK => ?_) AllReadyH.nil
      go_simp; go_at_call 54; refine HC3.out.mono ?_; rintro e w' ⟨rfl, rfl⟩
      refine hK.out _ _ hHeld (fun hHeld => ?_)
      clear hK K
      try simp only [Act.put, List.setIfInBounds_toArray, List.set_cons_zero, List.set_cons_succ]
      refine wpAnyH_ready (rs := [13]) (by kernel_rfl) (by simp) ?_
      refine AllReadyH.cons rfl (fun K hK => ?_) AllReadyH.nil
      go_simp; go_at_call 52; refine (HIZ.out k hlt _).mono ?_; rintro e w5 ⟨rfl, hb5⟩
      refine hK.out _ _ ⟨keepB (((Below.refl _ _).drew).trans hb5) tb t5, keepB (((Below.refl _ _).drew).trans hb5) (show wr.heap.size < X.heap.size by omega) v0, keepB (((Below.refl _ _).drew).trans hb5) (show wr.heap.size < X.heap.size by omega) v1, ((Below.refl _ _).drew).trans hb5⟩ (fun hHeld => ?_)
      clear hK K
      try simp only [Act.put, List.setIfInBounds_toArray, List.set_cons_zero, List.set_cons_succ]
      refine wpAnyH_ready (rs := [14]) (by kernel_rfl) (by simp) ?_
      refine AllReadyH.cons rfl (fun K hK => ?_) AllReadyH.nil
      go_simp
      refine hK.out _ _ ⟨keepB (below_alloc _ _) (Nat.lt_of_lt_of_le tb hHeld.2.2.2.size) hHeld.1, keepB (below_alloc _ _) (by have := hHeld.2.2.2.size; omega) hHeld.2.1, keepB (below_alloc _ _) (by have := hHeld.2.2.2.size; omega) hHeld.2.2.1, Below.trans hHeld.2.2.2 ((below_alloc _ _).mono hHeld.2.2.2.size)⟩ (fun hHeld => ?_)
      clear hK K
      try simp only [Act.put, List.setIfInBounds_toArray, List.set_cons_zero, List.set_cons_succ]
      refine wpAnyH_done (by kernel_rfl) ?_ _
      change wpList _ _ _ _ _ _
      simp only [List.drop_succ_cons, List.drop_zero]
      have hb6 : Below X.heap.size X w5 := ((Below.refl _ _).drew).trans hb5
      have t6 := keepB hb6 tb t5
      have tf6 := keepF hb6 tb tf
      have tb6 : b1 < w5.heap.size := Nat.lt_of_lt_of_le tb hb6.size
      have z5 := hb6.size
      have HW5 := Lib.hid (owns_keep HOT.out hb6)
      go_wp2_with (first | (at_builtin; refine wpList_append_lies _ rfl _ _ 26 rfl wc.heap.size 43 i0 (.agg #[.int .i64 0, .int .i64 0]) 2 16 Try.underlying26 hi0 hz0 hz1 hz2 rfl (by decide) tv k _ rfl (HW5.out.alloc _) ⟨w5.heap.size, 0, none⟩ 1 1 [.int .i64 (tz k).1, .int .i64 (tz k).2] rfl rfl (cell_two_new _ _ _ _) (two_cells _ _) (by decide) ?c3 ?c4 ?c5 _ rfl ?_) | go_in)
      case c3 => unfold maxLen; omega
      case c4 => omega
      case c5 => (first | omega | (simp; omega))
      intro g0 cap0 w7 hown hgrow hat hlt2
      have hb7 : Below X.heap.size X (w5.alloc (.cells #[.int .i64 (tz k).1, .int .i64 (tz k).2] 43)) := hb6.trans ((below_alloc _ _).mono hb6.size)
      have R7 := Lib.hid (GRel.put R5.out hb7 hown hgrow (hat.imp id (fun e => e.trans (World.size_alloc _ _).symm)))
      have bw : Below wc.heap.size (w5.alloc (.cells #[.int .i64 (tz k).1, .int .i64 (tz k).2] 43)) w7 := Below.grown (Below.refl _ _) hgrow (by simp; omega) (fun q hq => (R5.out.ot.lt q hq).1)
      have t7 := keepB bw R5.out.l1 (keepB (below_alloc w5 (.cells #[.int .i64 (tz k).1, .int .i64 (tz k).2] 43)) tb6 t6)
      have tf7 := keepF bw R5.out.l1 (keepF (below_alloc w5 (.cells #[.int .i64 (tz k).1, .int .i64 (tz k).2] 43)) tb6 tf6)
      have tb7 : b1 < w7.heap.size := by have := bw.size; simp only [World.size_alloc] at this; omega
      have zv7 : wr.heap.size < (w5.alloc (.cells #[.int .i64 (tz k).1, .int .i64 (tz k).2] 43)).heap.size := by simp; omega
      have nb1 : b1 ≠ wr.heap.size := by have := R5.out.l1; omega
      have vr : some wr.heap.size ≠ tv.ownBlock := fun hq => by have := ownb _ hq.symm; omega
      have v0y := cell_far (j := 5) (u := .slice (some ⟨g0, 0, none⟩) (k + 1) cap0) nb1 ((hgrow.cell_far ⟨wr.heap.size, 0, none⟩ zv7 vr).trans (keepB hb7 (show wr.heap.size < X.heap.size by omega) v0))
      have v1y := cell_far (j := 5) (u := .slice (some ⟨g0, 0, none⟩) (k + 1) cap0) nb1 ((hgrow.cell_far ⟨wr.heap.size, 1, none⟩ zv7 vr).trans (keepB hb7 (show wr.heap.size < X.heap.size by omega) v1))
      have fv0y : (w7.setCell ⟨b1, 5, none⟩ (.slice (some ⟨g0, 0, none⟩) (k + 1) cap0)).frozen? ⟨wr.heap.size, 0, none⟩ = false := by simp; exact (hgrow.frozen_far ⟨wr.heap.size, 0, none⟩ zv7 vr).trans (keepF hb7 (show wr.heap.size < X.heap.size by omega) FV0)
      have fv1y : (w7.setCell ⟨b1, 5, none⟩ (.slice (some ⟨g0, 0, none⟩) (k + 1) cap0)).frozen? ⟨wr.heap.size, 1, none⟩ = false := by simp; exact (hgrow.frozen_far ⟨wr.heap.size, 1, none⟩ zv7 vr).trans (keepF hb7 (show wr.heap.size < X.heap.size by omega) FV1)
      have zvY : wr.heap.size < (w7.setCell ⟨b1, 5, none⟩ (.slice (some ⟨g0, 0, none⟩) (k + 1) cap0)).heap.size := by have := hgrow.size; simp; omega
      have g0ne : ∀ q, (Value.slice (some ⟨g0, 0, none⟩) (k + 1) cap0).ownBlock = some q → q ≠ wr.heap.size := fun q hq => by
        obtain rfl : g0 = q := by injection hq
        rcases hat with h | h
        · exact Nat.ne_of_lt (ownb _ h)
        · have := hb6.size; omega
      clear hown hat hb7 bw hgrow v0 v1 FV0 FV1 hHeld hb5 hb6 t6 tf6 tb6 z5 t5 tf
      clear HW5 HC2 HC3 HOT HS19 R5
      go_upto_region 20 with fail
      clear t7 tf7 tb7
      generalize w7.setCell ⟨b1, 5, none⟩ (.slice (some ⟨g0, 0, none⟩) (k + 1) cap0) = Y at R7 v0y v1y fv0y fv1y zvY ⊢
      have HHk := Lib.hid (HHZ.out k)
      by_cases hu : k < ul
      · rw [if_pos hu] at HHk
        obtain ⟨ub, uoff, rfl, hub1, hua⟩ : ∃ b off, ua = some ⟨b, off, none⟩ ∧ b < w.heap.size ∧ NumsAt .u8 w b off ul us := by
          rcases HUS.out with h | h
          · omega
          · exact h
        have hYb : Below w.heap.size w Y := (ES.out.b).trans (R7.out.b.mono ES.out.b.size)
        have cu := keepB hYb hub1 (hua k hu)
        have zuY : ub < Y.heap.size := Nat.lt_of_lt_of_le hub1 hYb.size
        obtain ⟨m1, m2⟩ := HUB.out k
        have j1 : IntKind.i64.wrap (us k) = us k := IntWalk.i64_in _ (by omega)
        have j2 : IntKind.i64.wrap ((zs k).1 + us k) = (zs k).1 + us k := IntWalk.i64_in _ (by omega)
        have j3 : IntKind.i64.wrap ((zs k).2 + us k) = (zs k).2 + us k := IntWalk.i64_in _ (by omega)
        have q2 : (k : Int) < (ul : Int) := by omega
        go_upto_region 21 with fail
        go_still_tail 19, (by kernel_rfl)
        change wpList _ _ _ _ _ Y.drew
        have R72 := Lib.hid (R7.out.keep ((Below.refl _ _).drew))
        have w0y : Y.drew.cell? ⟨wr.heap.size, 0, none⟩ = some (.int .i64 (zs k).1) := v0y
        have w1y : Y.drew.cell? ⟨wr.heap.size, 1, none⟩ = some (.int .i64 (zs k).2) := v1y
        have gw0 : Y.drew.frozen? ⟨wr.heap.size, 0, none⟩ = false := fv0y
        have gw1 : Y.drew.frozen? ⟨wr.heap.size, 1, none⟩ = false := fv1y
        have zwY : wr.heap.size < Y.drew.heap.size := zvY
        clear v0y v1y fv0y fv1y zvY R7 hYb cu zuY hua
        generalize Y.drew = Y2 at R72 w0y w1y gw0 gw1 zwY ⊢
        go_upto_region 22 with fail
        have x1 : (if (zs k).1 + us k < 20000 then (zs k).1 + us k else 20000) = (hh k).1 := by rw [HHk.out]
        have x2 : (if (zs k).2 + us k < 20000 then (zs k).2 + us k else 20000) = (hh k).2 := by rw [HHk.out]
        rw [x1, x2]
        have R8 := Lib.hid ((R72.out.far zB g0ne ownh (j := 0) (u := .int .i64 (hh k).1)).far zB g0ne ownh (j := 1) (u := .int .i64 (hh k).2))
        have v0y := set_other (i := 1) (j := 0) (b := wr.heap.size) (v := .int .i64 (hh k).2) (by decide) (set_same (v := .int .i64 (hh k).1) w0y)
        have v1y := set_same (v := .int .i64 (hh k).2) (set_other (i := 0) (j := 1) (b := wr.heap.size) (v := .int .i64 (hh k).1) (by decide) w1y)
        have zvY : wr.heap.size < ((Y2.setCell ⟨wr.heap.size, 0, none⟩ (.int .i64 (hh k).1)).setCell ⟨wr.heap.size, 1, none⟩ (.int .i64 (hh k).2)).heap.size := by simp; exact zwY
        clear w0y w1y gw0 gw1 zwY R72 x1 x2 HHk j1 j2 j3
        generalize (Y2.setCell ⟨wr.heap.size, 0, none⟩ (.int .i64 (hh k).1)).setCell ⟨wr.heap.size, 1, none⟩ (.int .i64 (hh k).2) = Z at R8 v0y v1y zvY ⊢
        have c5h := R8.out.fh.c5
        have hfh := R8.out.hf
        have hb2 : b2 < Z.heap.size := by have := R8.out.l2; have := R8.out.zz; omega
        have HOH := Lib.hid R8.out.oh
        have l2B := R8.out.l2
        have zzB := R8.out.zz
        go_wp2_with (first | (at_builtin; refine wpList_append_lies _ rfl _ _ 26 rfl wc.heap.size 43 i0 (.agg #[.int .i64 0, .int .i64 0]) 2 16 Try.underlying26 hi0 hz0 hz1 hz2 rfl (by decide) hv k _ rfl (HOH.out.alloc _) ⟨Z.heap.size, 0, none⟩ 1 1 [.int .i64 (hh k).1, .int .i64 (hh k).2] rfl rfl (cell_two_new _ _ _ _) (two_cells _ _) (by decide) ?c3 ?c4 ?c5 _ rfl ?_) | go_in)
        case c3 => unfold maxLen; omega
        case c4 => omega
        case c5 => (first | omega | (simp; omega))
        intro g2 cap2 w9 hown hgrow hat hlt3
        have R9 := Lib.hid (GRel.put R8.out.swap (below_alloc Z (.cells #[.int .i64 (hh k).1, .int .i64 (hh k).2] 43)) hown hgrow (hat.imp id (fun e => e.trans (World.size_alloc _ _).symm)))
        have bw : Below wc.heap.size (Z.alloc (.cells #[.int .i64 (hh k).1, .int .i64 (hh k).2] 43)) w9 := Below.grown (Below.refl _ _) hgrow (by simp; omega) (fun q hq => (HOH.out.lt q hq).1)
        have t9 := keepB bw l2B (keepB (below_alloc Z (.cells #[.int .i64 (hh k).1, .int .i64 (hh k).2] 43)) hb2 c5h)
        have tf9 := keepF bw l2B (keepF (below_alloc Z (.cells #[.int .i64 (hh k).1, .int .i64 (hh k).2] 43)) hb2 hfh)
        have tb9 : b2 < w9.heap.size := by have := bw.size; simp only [World.size_alloc] at this; omega
        clear hown hgrow hat bw hlt3
        go_wp2
        go_roundw
        case rel => exact ⟨k + 1, by omega, by go_num, _, _, R9.out.swap⟩
        case measure => simp [intOf]; omega
      · rw [if_neg hu] at HHk
        obtain ⟨Z, hZ⟩ : ∃ Z, Z = Y := ⟨_, rfl⟩
        rw [← hZ] at R7 v0y v1y fv0y fv1y zvY ⊢
        have R8 := R7
        rw [← HHk.out] at v0y v1y
        clear R7 HHk hZ
        have c5h := R8.out.fh.c5
        have hfh := R8.out.hf
        have hb2 : b2 < Z.heap.size := by have := R8.out.l2; have := R8.out.zz; omega
        have HOH := Lib.hid R8.out.oh
        have l2B := R8.out.l2
        have zzB := R8.out.zz
        go_wp2_with (first | (at_builtin; refine wpList_append_lies _ rfl _ _ 26 rfl wc.heap.size 43 i0 (.agg #[.int .i64 0, .int .i64 0]) 2 16 Try.underlying26 hi0 hz0 hz1 hz2 rfl (by decide) hv k _ rfl (HOH.out.alloc _) ⟨Z.heap.size, 0, none⟩ 1 1 [.int .i64 (hh k).1, .int .i64 (hh k).2] rfl rfl (cell_two_new _ _ _ _) (two_cells _ _) (by decide) ?c3 ?c4 ?c5 _ rfl ?_) | go_in)
        case c3 => unfold maxLen; omega
        case c4 => omega
        case c5 => (first | omega | (simp; omega))
        intro g2 cap2 w9 hown hgrow hat hlt3
        have R9 := Lib.hid (GRel.put R8.out.swap (below_alloc Z (.cells #[.int .i64 (hh k).1, .int .i64 (hh k).2] 43)) hown hgrow (hat.imp id (fun e => e.trans (World.size_alloc _ _).symm)))
        have bw : Below wc.heap.size (Z.alloc (.cells #[.int .i64 (hh k).1, .int .i64 (hh k).2] 43)) w9 := Below.grown (Below.refl _ _) hgrow (by simp; omega) (fun q hq => (HOH.out.lt q hq).1)
        have t9 := keepB bw l2B (keepB (below_alloc Z (.cells #[.int .i64 (hh k).1, .int .i64 (hh k).2] 43)) hb2 c5h)
        have tf9 := keepF bw l2B (keepF (below_alloc Z (.cells #[.int .i64 (hh k).1, .int .i64 (hh k).2] 43)) hb2 hfh)
        have tb9 : b2 < w9.heap.size := by have := bw.size; simp only [World.size_alloc] at this; omega
        clear hown hgrow hat bw hlt3
        go_wp2
        go_roundw
        case rel => exact ⟨k + 1, by omega, by go_num, _, _, R9.out.swap⟩
        case measure => simp [intOf]; omega
    · have hkl : k = len := by omega
      have HRL := HR.out
      rw [hkl] at HRL
      obtain ⟨tb, tc, rfl, htb, hST⟩ := HRL.spans (by omega)
      obtain ⟨hb0, hcp, rfl, hhb, hSH⟩ := HRL.swap.spans (by omega)
      have HST := Lib.hid hST
      have HSH := Lib.hid hSH
      obtain ⟨t0, t1, t2, t3, t4, t5⟩ := HRL.ft
      have tb1 : b1 < wr.heap.size := by have := HRL.l1; have := HRL.zz; omega
      have hb2w : b2 < wr.heap.size := by have := HRL.l2; have := HRL.zz; omega
      have HFH := Lib.hid HRL.fh
      have HBW := Lib.hid HRL.b
      clear HRL HR hkl hST hSH
      have HC0 := Lib.hid (fun (i : Int) (g1 : 0 ≤ i) (g2 : i ≤ 1000) (wx : World) (hb : Below w.heap.size w wx) => show Calls Try.prog 54 #[.slice ca cl cc, .int .i64 i] wx (fun e w' => e = .returned (.int .u32 (cutC cl cs i.toNat)) ∧ wx = w') from by
        have h := cut_any ca cl cc cs i.toNat wx (by omega) (by omega) (HCS.out.keep hb)
        rwa [Int.toNat_of_nonneg g1] at h)
      have HIN2 := Lib.hid (show ∀ wx : World, Calls Try.prog 52 #[.agg #[.int .i64 lo, .int .i64 hi], .int .u32 (cutC cl cs (Int.toNat 0)), .int .u32 (cutC cl cs (Int.toNat 1))] wx (fun e w' => e = .returned (.agg #[.int .i64 P, .int .i64 Q]) ∧ Below wx.heap.size wx w') from HIN.out)
      have HWR := Lib.hid hbw
      have LEAD := Lib.hid (show (fun w' : World => w'.cell? ⟨w.heap.size, 0, none⟩ = some (.string nm) ∧ w'.cell? ⟨w.heap.size, 1, none⟩ = some (.int .i64 x) ∧ w'.cell? ⟨w.heap.size, 2, none⟩ = some (.int .i64 y) ∧ w'.cell? ⟨w.heap.size, 3, none⟩ = some (.int .i64 z) ∧ w'.cell? ⟨w.heap.size, 4, none⟩ = some (.int .i64 rose) ∧ w'.cell? ⟨w.heap.size, 5, none⟩ = some (.int .i64 (g : Nat)) ∧ w'.cell? ⟨w.heap.size, 6, none⟩ = some (.int .i64 step) ∧ w'.cell? ⟨w.heap.size, 7, none⟩ = some (.int .i64 width) ∧ w'.cell? ⟨w.heap.size + 1, 0, none⟩ = some (.int .i64 lo) ∧ w'.cell? ⟨w.heap.size + 1, 1, none⟩ = some (.int .i64 hi) ∧ w'.cell? ⟨b1, 0, none⟩ = some (.int .i64 gx) ∧ w'.cell? ⟨b1, 1, none⟩ = some (.int .i64 gy) ∧ w'.cell? ⟨b1, 2, none⟩ = some (.int .i64 size) ∧ w'.cell? ⟨b1, 3, none⟩ = some (.int .i64 wide) ∧ w'.cell? ⟨b1, 4, none⟩ = some (.int .i64 high) ∧ w'.cell? ⟨b1, 5, none⟩ = some (.slice (some ⟨tb, 0, none⟩) len tc) ∧ w.heap.size < w'.heap.size ∧ w.heap.size + 1 < w'.heap.size ∧ b1 < w'.heap.size ∧ Below wr.heap.size wr w') wr.drew from ⟨k0, k1, k2, k3, k4, k5, k6, k7, p0, p1, t0, t1, t2, t3, t4, t5, y0, y1, tb1, (Below.refl _ _).drew⟩)
      go_wp2
      clear k0 k1 k2 k3 k4 k5 k6 k7 p0 p1 f0 f1 f2 f3 f4 f5 hz hbw y0 y1 y2 t0 t1 t2 t3 t4 t5
      go_region_held3 (fun w' : World => w'.cell? ⟨w.heap.size, 0, none⟩ = some (.string nm) ∧ w'.cell? ⟨w.heap.size, 1, none⟩ = some (.int .i64 x) ∧ w'.cell? ⟨w.heap.size, 2, none⟩ = some (.int .i64 y) ∧ w'.cell? ⟨w.heap.size, 3, none⟩ = some (.int .i64 z) ∧ w'.cell? ⟨w.heap.size, 4, none⟩ = some (.int .i64 rose) ∧ w'.cell? ⟨w.heap.size, 5, none⟩ = some (.int .i64 (g : Nat)) ∧ w'.cell? ⟨w.heap.size, 6, none⟩ = some (.int .i64 step) ∧ w'.cell? ⟨w.heap.size, 7, none⟩ = some (.int .i64 width) ∧ w'.cell? ⟨w.heap.size + 1, 0, none⟩ = some (.int .i64 lo) ∧ w'.cell? ⟨w.heap.size + 1, 1, none⟩ = some (.int .i64 hi) ∧ w'.cell? ⟨b1, 0, none⟩ = some (.int .i64 gx) ∧ w'.cell? ⟨b1, 1, none⟩ = some (.int .i64 gy) ∧ w'.cell? ⟨b1, 2, none⟩ = some (.int .i64 size) ∧ w'.cell? ⟨b1, 3, none⟩ = some (.int .i64 wide) ∧ w'.cell? ⟨b1, 4, none⟩ = some (.int .i64 high) ∧ w'.cell? ⟨b1, 5, none⟩ = some (.slice (some ⟨tb, 0, none⟩) len tc) ∧ w.heap.size < w'.heap.size ∧ w.heap.size + 1 < w'.heap.size ∧ b1 < w'.heap.size ∧ Below wr.heap.size wr w')
        (first | exact LEAD.out | (go_split_ands; refine ⟨?_, ?_, ?_, ?_, ?_, ?_, ?_, ?_, ?_, ?_, ?_, ?_, ?_, ?_, ?_, ?_, ?_, ?_, ?_, ?_⟩ <;> first | assumption | exact keepB hb4 (by omega) (by assumption) | (have := hb4.size; omega) | exact Below.trans (by assumption) (hb4.mono (Below.size (by assumption)))))
        (first | (go_at_call 54; go_split_ands; refine (HC0.out _ (by decide) (by decide) _ (HWR.out.trans (Below.mono (by assumption) HWR.out.size))).mono ?_; rintro e w' ⟨rfl, rfl⟩) | (go_at_call 52; refine (HIN2.out _).mono ?_; rintro e w5 ⟨rfl, hb4⟩) | (go_at_call 46; go_split_ands; refine (FB.out tb tc _ (HST.out.keep (by assumption) htb) (Nat.lt_of_lt_of_le htb (Below.size (by assumption)))).mono ?_; rintro e w6 ⟨bb, cb, rfl, SB, _, bbl, hb4⟩))
      go_split_ands
      have HB6 : Below wr.heap.size wr w6 := by assumption
      have h26 := HB6.size
      have HW6 := Lib.hid (HWR.out.trans (HB6.mono HWR.out.size))
      have E6 := (ES.out.keep HBW.out ES.out.z).keep HB6 (Nat.le_trans ES.out.z HBW.out.size)
      obtain ⟨h0, h1, h2, h3, h4, h5⟩ := HFH.out.keep HB6 hb2w
      have hb26 : b2 < w6.heap.size := by omega
      obtain ⟨⟨k0, k1, k2, k3, k4, k5, k6, k7⟩, ⟨p0, p1⟩, ⟨f0, f1, f2, f3, f4, f5⟩, hz, hbw⟩ := E6
      have y0 : w.heap.size < w6.heap.size := by omega
      have y1 : w.heap.size + 1 < w6.heap.size := by omega
      have y2 : w.heap.size + 1 + 1 < w6.heap.size := by omega
      have S6 := Lib.hid (HSA.out.keep (HBW.out.trans (HB6.mono HBW.out.size)) bal)
      have S6B := Lib.hid SB
      have bal6 : ba < w6.heap.size := by have := HBW.out.size; omega
      clear SB LEAD
      go_wp2_with fail
      refine (FC.out hb0 hcp _ (HSH.out.keep HB6 hhb) (by omega)).mono ?_; rintro e w8 ⟨bc, cc2, rfl, SC, _, bcl, hb8⟩
      have k58 := keepB hb8 y0 k5
      have y08 : w.heap.size < w8.heap.size := Nat.lt_of_lt_of_le y0 hb8.size
      have S8A := Lib.hid (S6.out.keep hb8 bal6)
      have S8B := Lib.hid (S6B.out.keep hb8 bbl)
      have S8C := Lib.hid SC
      have bal8 : ba < w8.heap.size := Nat.lt_of_lt_of_le bal6 hb8.size
      have bbl8 : bb < w8.heap.size := Nat.lt_of_lt_of_le bbl hb8.size
      have HW8 := Lib.hid (HW6.out.trans (hb8.mono HW6.out.size))
      clear k0 k1 k2 k3 k4 k5 k6 k7 p0 p1 f0 f1 f2 f3 f4 f5 hz hbw y0 y1 y2 h0 h1 h2 h3 h4 h5 SC hb8 hb26 hlt HB6 h26
      clear HFH HSH HST HBW HWR S6 S6B HC0 HIN2
      go_wp2
      clear k58
      go_loopw [25] (fun i wr => ∃ j : Nat, j ≤ g ∧ i = .int .i64 j ∧ Below w8.heap.size w8 wr) (fun i _ => g - (intOf i).toNat)
      case atStart => exact ⟨0, Nat.zero_le _, rfl, Below.refl _ _⟩
      case round =>
      obtain ⟨j, hj, rfl, hbq⟩ := hrel
      have hzq := hbq.size
      by_cases hlt : j < g
      · obtain ⟨f1, f2, f3, f4, f5⟩ := FIN.out j hlt
        obtain ⟨a0, a1⟩ := S8A.out.keep hbq bal8 j hlt
        obtain ⟨b0, b1'⟩ := S8B.out.keep hbq bbl8 j hlt
        obtain ⟨c0, c1⟩ := S8C.out.keep hbq bcl j hlt
        rw [Nat.zero_add] at a0 a1 b0 b1' c0 c1
        have q0 : (0 : Int) ≤ (j : Int) := by omega
        have q1 : (j : Int) < (g : Int) := by omega
        have u4 : decide (Lc j < La j) = false := decide_eq_false (by omega)
        have u5 : decide (Hc j < Ha j) = false := decide_eq_false (by omega)
        have LEAD := Lib.hid (show (fun w' : World => w'.cell? ⟨bb, j * 2, none⟩ = some (.int .i64 (Lb j)) ∧ w'.cell? ⟨bb, j * 2 + 1, none⟩ = some (.int .i64 (Hb j)) ∧ w'.cell? ⟨ba, j * 2, none⟩ = some (.int .i64 (La j)) ∧ w'.cell? ⟨ba, j * 2 + 1, none⟩ = some (.int .i64 (Ha j)) ∧ w'.cell? ⟨bc, j * 2, none⟩ = some (.int .i64 (Lc j)) ∧ w'.cell? ⟨bc, j * 2 + 1, none⟩ = some (.int .i64 (Hc j)) ∧ bb < w'.heap.size ∧ ba < w'.heap.size ∧ bc < w'.heap.size ∧ Below wr.heap.size wr w') wr.drew from ⟨b0, b1', a0, a1, c0, c1, show bb < wr.heap.size by omega, show ba < wr.heap.size by omega, show bc < wr.heap.size by omega, (Below.refl _ _).drew⟩)
        go_wp2
        clear a0 a1 b0 b1' c0 c1
        go_region_held3 (fun w' : World => w'.cell? ⟨bb, j * 2, none⟩ = some (.int .i64 (Lb j)) ∧ w'.cell? ⟨bb, j * 2 + 1, none⟩ = some (.int .i64 (Hb j)) ∧ w'.cell? ⟨ba, j * 2, none⟩ = some (.int .i64 (La j)) ∧ w'.cell? ⟨ba, j * 2 + 1, none⟩ = some (.int .i64 (Ha j)) ∧ w'.cell? ⟨bc, j * 2, none⟩ = some (.int .i64 (Lc j)) ∧ w'.cell? ⟨bc, j * 2 + 1, none⟩ = some (.int .i64 (Hc j)) ∧ bb < w'.heap.size ∧ ba < w'.heap.size ∧ bc < w'.heap.size ∧ Below wr.heap.size wr w')
          (first | exact LEAD.out | (go_split_ands; refine ⟨?_, ?_, ?_, ?_, ?_, ?_, ?_, ?_, ?_, ?_⟩ <;> first | assumption | exact keepB hb4 (by omega) (by assumption) | (have := hb4.size; omega) | exact Below.trans (by assumption) (hb4.mono (Below.size (by assumption)))))
          (first | (go_at_call 53; refine (lies_yes _ _ _ _ _ f1 f2 f3).mono ?_; rintro e w5 ⟨rfl, hb4⟩))
        go_split_ands
        have HB5 : Below wr.heap.size wr w5 := by assumption
        have HBQ := Lib.hid (hbq.trans (HB5.mono hbq.size))
        go_wp2
        go_roundw
        case rel => exact ⟨j + 1, by omega, by go_num, HBQ.out⟩
        case measure => simp [intOf]; omega
      · have HBF := Lib.hid (HW8.out.trans (hbq.mono HW8.out.size))
        go_wp2_with fail
        refine (works_any _).mono ?_; rintro e w9 ⟨rfl, hb9⟩
        go_wp2
        go_ret
        exact ⟨rfl, HBF.out.trans (hb9.mono HBF.out.size)⟩

end Go.Proofs.Ythnjfnapjpdchaa

namespace Go.Proofs.Ythnjfnapjpdchaa
open Go.RowKit
set_option linter.unusedVariables false

/-- a span within another one -/
def inLo (s : Int × Int) (a : Int) : Int := s.1 + a % (s.2 - s.1 + 1)
def inHi (s : Int × Int) (a b : Int) : Int := inLo s a + b % (s.2 - inLo s a + 1)
theorem in_bd {s : Int × Int} {a b : Int} (h : s.1 ≤ s.2) : s.1 ≤ inLo s a ∧ inLo s a ≤ inHi s a b ∧ inHi s a b ≤ s.2 := by
  obtain ⟨m1, m2⟩ := cut_bd (a := a) (n := s.2 - s.1 + 1) (by omega)
  have e1 : inLo s a = s.1 + a % (s.2 - s.1 + 1) := rfl
  obtain ⟨m3, m4⟩ := cut_bd (a := b) (n := s.2 - inLo s a + 1) (by omega)
  have e2 : inHi s a b = inLo s a + b % (s.2 - inLo s a + 1) := rfl
  omega
theorem cutC_bd {len : Nat} {cs : Nat → Int} (h : ∀ i, 0 ≤ cs i ∧ cs i ≤ 4294967295) (i : Nat) : 0 ≤ cutC len cs i ∧ cutC len cs i ≤ 4294967295 := by
  unfold cutC
  split
  · decide
  · exact h _
theorem inner_in (s : Int × Int) (len : Nat) (cs : Nat → Int) (i j : Nat) (hc : ∀ i, 0 ≤ cs i ∧ cs i ≤ 4294967295) (h1 : 0 ≤ s.1) (h2 : s.1 ≤ s.2) (h3 : s.2 ≤ 1000000000) (wx : World) :
    Calls Try.prog 52 #[.agg #[.int .i64 s.1, .int .i64 s.2], .int .u32 (cutC len cs i), .int .u32 (cutC len cs j)] wx fun e w' => e = .returned (.agg #[.int .i64 (inLo s (cutC len cs i)), .int .i64 (inHi s (cutC len cs i) (cutC len cs j))]) ∧ Below wx.heap.size wx w' :=
  inner_any s.1 s.2 _ _ wx h1 h2 h3 (cutC_bd hc i).1 (cutC_bd hc i).2 (cutC_bd hc j).1 (cutC_bd hc j).2
/-- the ground, narrowed -/
def tightZ (zs : Nat → Int × Int) (cl : Nat) (cs : Nat → Int) (k : Nat) : Int × Int := (inLo (zs k) (cutC cl cs (2 * k + 2)), inHi (zs k) (cutC cl cs (2 * k + 2)) (cutC cl cs (2 * k + 3)))
/-- the ground, raised -/
def highZ (zs : Nat → Int × Int) (ul : Nat) (us : Nat → Int) (k : Nat) : Int × Int := if k < ul then (if (zs k).1 + us k < 20000 then (zs k).1 + us k else 20000, if (zs k).2 + us k < 20000 then (zs k).2 + us k else 20000) else zs k
theorem high_bd {zs : Nat → Int × Int} {ul : Nat} {us : Nat → Int} {k : Nat} (hu : ∀ i, 0 ≤ us i ∧ us i ≤ 255) (h1 : (zs k).1 ≤ (zs k).2) (h2 : (zs k).2 ≤ 20000) : (zs k).1 ≤ (highZ zs ul us k).1 ∧ (highZ zs ul us k).1 ≤ (highZ zs ul us k).2 ∧ (zs k).2 ≤ (highZ zs ul us k).2 ∧ (highZ zs ul us k).2 ≤ 20000 := by
  have := hu k
  unfold highZ
  by_cases h : k < ul
  · rw [if_pos h]
    dsimp only
    split <;> split <;> omega
  · rw [if_neg h]; omega

theorem field_again {gx gy size wide high : Int} {len : Nat} {zs zs' : Nat → Int × Int} (hg : fieldC gx gy size wide high len zs 20000 = 0) (ha : AllIn len zs' 0 20000) : fieldC gx gy size wide high len zs' 20000 = 0 := by
  obtain ⟨h1, h2, _⟩ := ground_zero hg
  rw [fieldC_spans h1 h2, spansC_ok ha]

theorem BeamGrows_valid (nm : ByteArray) (x y z rose : Int) (g : Nat) (step width lo hi gx gy size wide high : Int) (fa : Option Addr) (len cap : Nat) (zs : Nat → Int × Int) (t ray : Int) (ca : Option Addr) (cl cc : Nat) (cs : Nat → Int) (ua : Option Addr) (ul uc : Nat) (us : Nat → Int) (w : World) (hs : nm.size ≤ maxLen) (hf : fewB nm.size rose g wide high = true) (h3 : len ≤ 300) (h4 : cl ≤ 700) (h5 : ul ≤ 300)
    (hsl : SliceIs w fa len cap zs) (hcs : NumsIs .u32 w ca cl cs) (hcb : ∀ i, 0 ≤ cs i ∧ cs i ≤ 4294967295) (hus : NumsIs .u8 w ua ul us) (hub : ∀ i, 0 ≤ us i ∧ us i ≤ 255) (h : BlkIn nm x y z rose g step width lo hi gx gy size wide high len zs t ray) :
    Calls Try.prog 12 #[.agg #[.string nm, .int .i64 x, .int .i64 y, .int .i64 z, .int .i64 rose, .int .i64 (g : Nat), .int .i64 step, .int .i64 width], .int .i64 t, .agg #[.int .i64 lo, .int .i64 hi], .agg #[.int .i64 gx, .int .i64 gy, .int .i64 size, .int .i64 wide, .int .i64 high, .slice fa len cap], .int .i64 ray, .slice ca cl cc, .slice ua ul uc] w fun e w' => e = .returned (.bool true) ∧ Below w.heap.size w w' := by
  have hk := (siteC_zero.1 h.h0).2
  obtain ⟨T, hT⟩ := Int.eq_ofNat_of_zero_le (show 0 ≤ 2 * width + 1 by have := hk.d1; omega)
  obtain ⟨GO, ha, fb, off, rfl, hfb, hsp⟩ := blk_slice h.hg hsl
  obtain ⟨t1, t2⟩ := inB_true.1 h.c0
  obtain ⟨e1, e0, e4⟩ := spanB_true.1 h.c1
  have gg := hk.g2
  have hab : ∀ k, k < len → 0 ≤ (zs k).1 ∧ (zs k).1 ≤ (zs k).2 ∧ (zs k).2 ≤ 20000 := fun k hk => spanB_true.1 (ha k hk)
  have hte : ∀ k, k < len → (zs k).1 ≤ (tightZ zs cl cs k).1 ∧ (tightZ zs cl cs k).1 ≤ (tightZ zs cl cs k).2 ∧ (tightZ zs cl cs k).2 ≤ (zs k).2 := fun k hk => in_bd (hab k hk).2.1
  have hhe := fun k (hk : k < len) => high_bd (zs := zs) (ul := ul) (us := us) (k := k) hub (hab k hk).2.1 (hab k hk).2.2
  have hta : AllIn len (tightZ zs cl cs) 0 20000 := fun k hk => by have a := hab k hk; have b := hte k hk; exact spanB_true.2 ⟨by omega, by omega, by omega⟩
  have hha : AllIn len (highZ zs ul us) 0 20000 := fun k hk => by have a := hab k hk; have b := hhe k hk; exact spanB_true.2 ⟨by omega, by omega, by omega⟩
  have hpq := in_bd (s := (lo, hi)) (a := cutC cl cs 0) (b := cutC cl cs 1) e0
  generalize hP : inLo (lo, hi) (cutC cl cs 0) = P at hpq
  generalize hQ : inHi (lo, hi) (cutC cl cs 0) (cutC cl cs 1) = Q at hpq
  dsimp only at hpq
  have hb : BlkIn nm x y z rose g step width P Q gx gy size wide high len (tightZ zs cl cs) t ray := ⟨h.h0, field_again h.hg hta, h.c0, spanB_true.2 ⟨by omega, by omega, by omega⟩, h.c2⟩
  have hc : BlkIn nm x y z rose g step width lo hi gx gy size wide high len (highZ zs ul us) t ray := ⟨h.h0, field_again h.hg hha, h.c0, h.c1, h.c2⟩
  have hl0 : 0 < len := by
    have := GO.hl
    obtain ⟨_, _, _, ⟨v1, v2⟩, v3, v4⟩ := gridB_bd (gridC_zero.1 (ground_zero h.hg).1)
    have v7 : 1 * 1 ≤ wide * high := Int.mul_le_mul v1 v3 (by omega) (by omega)
    omega
  refine BeamGrows_ok nm x y z rose g step width lo hi gx gy size wide high fb off len cap zs t ray ca cl cc cs ua ul uc us w hs hf h3 h4 h5 (by omega) hk.d1 hk.d2 hsp hfb ha hcs hus hub _ _ _ _ _ _ P Q (tightZ zs cl cs) (highZ zs ul us)
    (fun wx hbx => (blocked_good nm x y z rose g step width lo hi gx gy size wide high (some ⟨fb, off, none⟩) len cap zs t ray T hT.symm wx hs (by omega) (hsl.keep hbx) h).1)
    (fun j hj => blk_fence GO hT.symm hk.d1 hk.d2 t1 t2 hk.s1 hk.s2 e1 e0 (by omega) ha j hj)
    (fun j => blkL_next j) (fun j => blkH_next j)
    (fun wx => by
      have hi' := inner_in (lo, hi) cl cs 0 1 hcb (show (0 : Int) ≤ lo by omega) e0 (show hi ≤ 1000000000 by omega) wx
      rw [hP, hQ] at hi'
      exact hi')
    (fun k hk2 wx => inner_in (zs k) cl cs (2 * k + 2) (2 * k + 3) hcb (hab k hk2).1 (hab k hk2).2.1 (by have := (hab k hk2).2.2; omega) wx)
    (fun k => rfl)
    (fun b c wx hsx hbx => (blocked_good nm x y z rose g step width P Q gx gy size wide high (some ⟨b, 0, none⟩) len c (tightZ zs cl cs) t ray T hT.symm wx hs (by omega) (.inr ⟨b, 0, rfl, hbx, hsx⟩) hb).1)
    (fun b c wx hsx hbx => (blocked_good nm x y z rose g step width lo hi gx gy size wide high (some ⟨b, 0, none⟩) len c (highZ zs ul us) t ray T hT.symm wx hs (by omega) (.inr ⟨b, 0, rfl, hbx, hsx⟩) hc).1)
    hl0 (fun j hj => ⟨?_, ?_, ?_, ?_, ?_⟩)
  · exact (blk_fence GO hT.symm hk.d1 hk.d2 t1 t2 hk.s1 hk.s2 (by omega) hpq.2.1 (by omega) hta j hj).2.1
  · exact blkL_mono GO (by omega) hpq.1 (fun i hi2 => (hte i hi2).1) j
  · exact blkH_mono GO (by omega) hpq.2.2 (fun i hi2 => (hte i hi2).2.2) j
  · exact blkL_mono GO (by omega) (Int.le_refl _) (fun i hi2 => (hhe i hi2).1) j
  · exact blkH_mono GO (by omega) (Int.le_refl _) (fun i hi2 => (hhe i hi2).2.2.1) j

end Go.Proofs.Ythnjfnapjpdchaa
