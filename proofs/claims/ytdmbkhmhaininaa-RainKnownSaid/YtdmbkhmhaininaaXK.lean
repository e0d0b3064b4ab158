/-
  The examples of RainKnown, each as a contract.
-/
import Derived.Test.YtdmbkhmhaininaaWK
import Derived.Test.YtdmbkhmhaininaaGT
import Derived.Test.YtdmbkhmhaininaaLF
import Derived.Test.YtdmbkhmhaininaaS
import Derived.Test.YtdmbkhmhaininaaN
import Derived.Test.YtdmbkhmhaininaaGB
import Derived.Test.YtdmbkhmhaininaaDS
import Derived.Test.YtdmbkhmhaininaaSF
import Derived.Test.YtdmbkhmhaininaaR
namespace Go.Proofs.Ytdmbkhmhaininaa
open Go.RowKit
set_option linter.unusedVariables false
set_option linter.unusedSimpArgs false

def zK (i : Nat) : Int × Int := if i = 0 then (0, 0) else (3, 1)
def mK (i : Nat) : Int × Int := if i = 0 then (1000, 1000) else if i = 1 then (1000, 1000) else (500, 500)
def mM (i : Nat) : Int × Int := if i = 0 then (900, 1100) else (500, 500)
def mN (i : Nat) : Int × Int := if i = 0 then (900, 1100) else (909, 1000)
def rK (i : Nat) : Rc := if i = 0 then ⟨0, 360, 360⟩ else ⟨100, 720, 720⟩
def aK (i : Nat) : Pr := if i = 0 then ⟨1000, 2000, 3, 200⟩ else ⟨4000, 4000, 10, 200⟩
def aM (i : Nat) : Pr := if i = 0 then ⟨1000, 1000, 3, 200⟩ else ⟨4000, 4000, 100, 200⟩
theorem known_val : (vL 3 tZ 101, vH 3 tZ 101, vE 3 tZ 101) = (11, 11, 0) := by decide +kernel
theorem known_val2 : (vL 2 zK 1, vH 2 zK 1, vE 2 zK 1) = (0, 1, 0) := by decide +kernel
theorem known_val3 : (vL 3 tZ 1000000, vH 3 tZ 1000000, vE 3 tZ 1000000) = (110, 110, 0) := by decide +kernel
theorem known_rst : rstC 2 lZ 3 mZ = 0 ∧ rstC 2 lZ 2 mM = 0 := by decide +kernel
theorem known_rst1 : (List.range 3).map (rstOf 2 lZ mZ) = (List.range 3).map mK := by decide +kernel
theorem known_rst2 : (List.range 2).map (rstOf 2 lZ mM) = (List.range 2).map mN := by decide +kernel
theorem known_fill : (fiLo 100 200 3 0 1, fiHi 100 200 3 0 1, fiE 100 200 3 0 1) = (100, 300, 0) ∧ (fiLo 100 200 3 3 3, fiHi 100 200 3 3 3, fiE 100 200 3 3 3) = (300, 1073741824, 0) ∧ (fiLo 100 200 3 1 3, fiHi 100 200 3 1 3, fiE 100 200 3 1 3) = (150, 1073741824, 0) := by decide +kernel
def faK (lo hi : Int) : Int × Int × Int := (faL (faE 2 lZ 3 tZ 2000 2500 200 1000 1000 3000 lo hi) (facR 2000 2500 200 1000 1000 3000 lo hi), faH (faE 2 lZ 3 tZ 2000 2500 200 1000 1000 3000 lo hi) (facR 2000 2500 200 1000 1000 3000 lo hi), faE 2 lZ 3 tZ 2000 2500 200 1000 1000 3000 lo hi)
theorem known_fac : faK 0 1999 = (1000, 1000, 0) ∧ faK 1000 2200 = (200, 1000, 0) ∧ faK 2600 3000 = (1000, 3000, 0) ∧ faK 0 9000 = (200, 3000, 0) := by decide +kernel
theorem known_sum : (smL 2 rK 200 0, smH 2 rK 200 0, smE 2 rK 200 0) = (300, 400, 0) := by decide +kernel
theorem known_fell : (feLo 0 200, feHi 0 200, feE 0 200) = (0, 199, 0) := by decide +kernel
theorem known_adj : adjC 2 aK = 0 ∧ rF aK 2 = (451, 549) := by decide +kernel
theorem known_adj2 : adjC 2 aM = 0 ∧ ¬ (rF aM 2).1 ≤ (rF aM 2).2 := by decide +kernel
theorem known_two : ∀ i j, FirstBad 2 aM i j → i = 0 ∧ j = 1 := fun i j h => by
  have k1 : badP (aM 0) (aM 1) = true := by decide +kernel
  have k2 : badP (aM 0) (aM 0) = false := by decide +kernel
  have g : FirstBad 2 aM 0 1 := ⟨by decide, by decide, k1, fun b h1 h2 => by
    obtain rfl : b = 0 := by omega
    exact k2, fun a b h1 => by omega⟩
  exact h.uniq g
theorem slice_at {w : World} {b n cap : Nat} {zs : Nat → Int × Int} (hs : SpansAt w b 0 n zs) (hb : b < w.heap.size) : SliceIs w (some ⟨b, 0, none⟩) n cap zs := .inr ⟨b, 0, rfl, hb, hs⟩
theorem Val101 (b : Nat) (w : World) (hs : SpansAt w b 0 3 tZ) (hb : b < w.heap.size) :
    Calls Try.prog 20 #[.slice (some ⟨b, 0, none⟩) 3 3, .int .i64 101] w fun e w' => e = .returned (.tuple #[.agg #[.int .i64 11, .int .i64 11], .int .i64 0]) ∧ Below w.heap.size w w' := by
  have h := Value_any (some ⟨b, 0, none⟩) 3 3 tZ 101 w (slice_at hs hb)
  have e := known_val
  simp only [Prod.mk.injEq] at e
  rw [e.1, e.2.1, e.2.2] at h
  exact h
theorem Val1 (b : Nat) (w : World) (hs : SpansAt w b 0 2 zK) (hb : b < w.heap.size) :
    Calls Try.prog 20 #[.slice (some ⟨b, 0, none⟩) 2 2, .int .i64 1] w fun e w' => e = .returned (.tuple #[.agg #[.int .i64 0, .int .i64 1], .int .i64 0]) ∧ Below w.heap.size w w' := by
  have h := Value_any (some ⟨b, 0, none⟩) 2 2 zK 1 w (slice_at hs hb)
  have e := known_val2
  simp only [Prod.mk.injEq] at e
  rw [e.1, e.2.1, e.2.2] at h
  exact h
theorem ValBig (b : Nat) (w : World) (hs : SpansAt w b 0 3 tZ) (hb : b < w.heap.size) :
    Calls Try.prog 20 #[.slice (some ⟨b, 0, none⟩) 3 3, .int .i64 1000000] w fun e w' => e = .returned (.tuple #[.agg #[.int .i64 110, .int .i64 110], .int .i64 0]) ∧ Below w.heap.size w w' := by
  have h := Value_any (some ⟨b, 0, none⟩) 3 3 tZ 1000000 w (slice_at hs hb)
  have e := known_val3
  simp only [Prod.mk.injEq] at e
  rw [e.1, e.2.1, e.2.2] at h
  exact h
theorem Rst3 (b c : Nat) (w : World) (hs : SpansAt w b 0 2 lZ) (hb : b < w.heap.size) (hm : SpansAt w c 0 3 mZ) (hc : c < w.heap.size) :
    Calls Try.prog 25 #[.slice (some ⟨b, 0, none⟩) 2 2, .slice (some ⟨c, 0, none⟩) 3 3] w fun e w' => ∃ (a : Option Addr) (cap : Nat), e = .returned (.tuple #[.slice a 3 cap, .int .i64 0]) ∧ SliceIs w' a 3 cap mK ∧ Below w.heap.size w w' := by
  have h := Restore_any (some ⟨b, 0, none⟩) 2 2 lZ (some ⟨c, 0, none⟩) 3 3 mZ w (by decide) (slice_at hs hb) (slice_at hm hc)
  rw [known_rst.1] at h
  exact h.mono (by rintro e w' ⟨a, cap, he, h1, h2⟩; exact ⟨a, cap, he, SliceIs.ext h1 (fun j hj => by
    have h : ((List.range 3).map (rstOf 2 lZ mZ))[j]? = ((List.range 3).map mK)[j]? := by rw [known_rst1]
    have hj' : j < 3 := hj
    simpa [hj'] using h), h2⟩)
theorem Rst2 (b c : Nat) (w : World) (hs : SpansAt w b 0 2 lZ) (hb : b < w.heap.size) (hm : SpansAt w c 0 2 mM) (hc : c < w.heap.size) :
    Calls Try.prog 25 #[.slice (some ⟨b, 0, none⟩) 2 2, .slice (some ⟨c, 0, none⟩) 2 2] w fun e w' => ∃ (a : Option Addr) (cap : Nat), e = .returned (.tuple #[.slice a 2 cap, .int .i64 0]) ∧ SliceIs w' a 2 cap mN ∧ Below w.heap.size w w' := by
  have h := Restore_any (some ⟨b, 0, none⟩) 2 2 lZ (some ⟨c, 0, none⟩) 2 2 mM w (by decide) (slice_at hs hb) (slice_at hm hc)
  rw [known_rst.2] at h
  exact h.mono (by rintro e w' ⟨a, cap, he, h1, h2⟩; exact ⟨a, cap, he, SliceIs.ext h1 (fun j hj => by
    have h : ((List.range 2).map (rstOf 2 lZ mM))[j]? = ((List.range 2).map mN)[j]? := by rw [known_rst2]
    have hj' : j < 2 := hj
    simpa [hj'] using h), h2⟩)
theorem Fill1 (w : World) : Calls Try.prog 28 #[.agg #[.int .i64 100, .int .i64 200], .int .i64 3, .agg #[.int .i64 0, .int .i64 1]] w fun e w' => e = .returned (.tuple #[.agg #[.int .i64 100, .int .i64 300], .int .i64 0]) ∧ Below w.heap.size w w' := by
  have h := Fill_any 100 200 3 0 1 w
  have e := known_fill.1
  simp only [Prod.mk.injEq] at e
  rw [e.1, e.2.1, e.2.2] at h
  exact h
theorem Fill2 (w : World) : Calls Try.prog 28 #[.agg #[.int .i64 100, .int .i64 200], .int .i64 3, .agg #[.int .i64 3, .int .i64 3]] w fun e w' => e = .returned (.tuple #[.agg #[.int .i64 300, .int .i64 1073741824], .int .i64 0]) ∧ Below w.heap.size w w' := by
  have h := Fill_any 100 200 3 3 3 w
  have e := known_fill.2.1
  simp only [Prod.mk.injEq] at e
  rw [e.1, e.2.1, e.2.2] at h
  exact h
theorem Fill3 (w : World) : Calls Try.prog 28 #[.agg #[.int .i64 100, .int .i64 200], .int .i64 3, .agg #[.int .i64 1, .int .i64 3]] w fun e w' => e = .returned (.tuple #[.agg #[.int .i64 150, .int .i64 1073741824], .int .i64 0]) ∧ Below w.heap.size w w' := by
  have h := Fill_any 100 200 3 1 3 w
  have e := known_fill.2.2
  simp only [Prod.mk.injEq] at e
  rw [e.1, e.2.1, e.2.2] at h
  exact h
theorem Fac1 (l t : Nat) (w : World) (sl : SpansAt w l 0 2 lZ) (hl : l < w.heap.size) (st : SpansAt w t 0 3 tZ) (ht : t < w.heap.size) : Calls Try.prog 30 #[.agg #[.slice (some ⟨l, 0, none⟩) 2 2, .slice (some ⟨t, 0, none⟩) 3 3, .int .i64 2000, .int .i64 2500, .int .i64 200, .int .i64 1000, .int .i64 1000, .int .i64 3000], .agg #[.int .i64 0, .int .i64 1999]] w fun e w' => e = .returned (.tuple #[.agg #[.int .i64 1000, .int .i64 1000], .int .i64 0]) ∧ Below w.heap.size w w' := by
  have h := Factor_any (some ⟨l, 0, none⟩) 2 2 (some ⟨t, 0, none⟩) 3 3 2000 2500 200 1000 1000 3000 lZ tZ 0 1999 w (slice_at sl hl) (slice_at st ht)
  have e := known_fac.1
  unfold faK at e
  simp only [Prod.mk.injEq] at e
  rw [e.1, e.2.1, e.2.2] at h
  exact h
theorem Fac2 (l t : Nat) (w : World) (sl : SpansAt w l 0 2 lZ) (hl : l < w.heap.size) (st : SpansAt w t 0 3 tZ) (ht : t < w.heap.size) : Calls Try.prog 30 #[.agg #[.slice (some ⟨l, 0, none⟩) 2 2, .slice (some ⟨t, 0, none⟩) 3 3, .int .i64 2000, .int .i64 2500, .int .i64 200, .int .i64 1000, .int .i64 1000, .int .i64 3000], .agg #[.int .i64 1000, .int .i64 2200]] w fun e w' => e = .returned (.tuple #[.agg #[.int .i64 200, .int .i64 1000], .int .i64 0]) ∧ Below w.heap.size w w' := by
  have h := Factor_any (some ⟨l, 0, none⟩) 2 2 (some ⟨t, 0, none⟩) 3 3 2000 2500 200 1000 1000 3000 lZ tZ 1000 2200 w (slice_at sl hl) (slice_at st ht)
  have e := known_fac.2.1
  unfold faK at e
  simp only [Prod.mk.injEq] at e
  rw [e.1, e.2.1, e.2.2] at h
  exact h
theorem Fac3 (l t : Nat) (w : World) (sl : SpansAt w l 0 2 lZ) (hl : l < w.heap.size) (st : SpansAt w t 0 3 tZ) (ht : t < w.heap.size) : Calls Try.prog 30 #[.agg #[.slice (some ⟨l, 0, none⟩) 2 2, .slice (some ⟨t, 0, none⟩) 3 3, .int .i64 2000, .int .i64 2500, .int .i64 200, .int .i64 1000, .int .i64 1000, .int .i64 3000], .agg #[.int .i64 2600, .int .i64 3000]] w fun e w' => e = .returned (.tuple #[.agg #[.int .i64 1000, .int .i64 3000], .int .i64 0]) ∧ Below w.heap.size w w' := by
  have h := Factor_any (some ⟨l, 0, none⟩) 2 2 (some ⟨t, 0, none⟩) 3 3 2000 2500 200 1000 1000 3000 lZ tZ 2600 3000 w (slice_at sl hl) (slice_at st ht)
  have e := known_fac.2.2.1
  unfold faK at e
  simp only [Prod.mk.injEq] at e
  rw [e.1, e.2.1, e.2.2] at h
  exact h
theorem Fac4 (l t : Nat) (w : World) (sl : SpansAt w l 0 2 lZ) (hl : l < w.heap.size) (st : SpansAt w t 0 3 tZ) (ht : t < w.heap.size) : Calls Try.prog 30 #[.agg #[.slice (some ⟨l, 0, none⟩) 2 2, .slice (some ⟨t, 0, none⟩) 3 3, .int .i64 2000, .int .i64 2500, .int .i64 200, .int .i64 1000, .int .i64 1000, .int .i64 3000], .agg #[.int .i64 0, .int .i64 9000]] w fun e w' => e = .returned (.tuple #[.agg #[.int .i64 200, .int .i64 3000], .int .i64 0]) ∧ Below w.heap.size w w' := by
  have h := Factor_any (some ⟨l, 0, none⟩) 2 2 (some ⟨t, 0, none⟩) 3 3 2000 2500 200 1000 1000 3000 lZ tZ 0 9000 w (slice_at sl hl) (slice_at st ht)
  have e := known_fac.2.2.2
  unfold faK at e
  simp only [Prod.mk.injEq] at e
  rw [e.1, e.2.1, e.2.2] at h
  exact h
theorem SumK (b : Nat) (w : World) (hs : RecsAt w b 0 2 rK) (hb : b < w.heap.size) : Calls Try.prog 32 #[.slice (some ⟨b, 0, none⟩) 2 2, .int .i64 200, .int .i64 0] w fun e w' => e = .returned (.tuple #[.agg #[.int .i64 300, .int .i64 400], .int .i64 0]) ∧ Below w.heap.size w w' := by
  have h := Sum_any (some ⟨b, 0, none⟩) 2 2 rK 200 0 w (by decide) (.inr ⟨b, 0, rfl, hb, hs⟩)
  have e := known_sum
  simp only [Prod.mk.injEq] at e
  rw [e.1, e.2.1, e.2.2] at h
  exact h
theorem FellK (w : World) : Calls Try.prog 35 #[.agg #[.int .i64 0, .int .i64 200]] w fun e w' => e = .returned (.tuple #[.agg #[.int .i64 0, .int .i64 199], .int .i64 0]) ∧ Below w.heap.size w w' := by
  have h := Fell_any 0 200 w
  have e := known_fell
  simp only [Prod.mk.injEq] at e
  rw [e.1, e.2.1, e.2.2] at h
  exact h
theorem AdjK (b : Nat) (w : World) (hs : PrsAt w b 0 2 aK) (hb : b < w.heap.size) : Calls Try.prog 37 #[.slice (some ⟨b, 0, none⟩) 2 2] w fun e w' => e = .returned (.tuple #[.agg #[.int .i64 451, .int .i64 549], .agg #[.int .i64 0, .int .i64 0], .int .i64 0]) ∧ Below w.heap.size w w' := by
  refine (Adjust_any (some ⟨b, 0, none⟩) 2 2 aK w (by decide) (.inr ⟨b, 0, rfl, hb, hs⟩)).mono ?_
  rintro e w' ⟨x, y, i, j, c, h, he, hb⟩
  have k := known_adj
  obtain ⟨rfl, rfl, rfl, rfl, rfl⟩ := h.good k.1 (by rw [k.2]; decide)
  rw [k.2] at he
  exact ⟨he, hb⟩
theorem AdjM (b : Nat) (w : World) (hs : PrsAt w b 0 2 aM) (hb : b < w.heap.size) : Calls Try.prog 37 #[.slice (some ⟨b, 0, none⟩) 2 2] w fun e w' => e = .returned (.tuple #[.agg #[.int .i64 0, .int .i64 0], .agg #[.int .i64 0, .int .i64 1], .int .i64 14]) ∧ Below w.heap.size w w' := by
  refine (Adjust_any (some ⟨b, 0, none⟩) 2 2 aM w (by decide) (.inr ⟨b, 0, rfl, hb, hs⟩)).mono ?_
  rintro e w' ⟨x, y, i, j, c, h, he, hb⟩
  have k := known_adj2
  obtain ⟨rfl, rfl, hf, rfl⟩ := h.conf k.1 k.2
  obtain ⟨rfl, rfl⟩ := known_two i j hf
  exact ⟨he, hb⟩

end Go.Proofs.Ytdmbkhmhaininaa
