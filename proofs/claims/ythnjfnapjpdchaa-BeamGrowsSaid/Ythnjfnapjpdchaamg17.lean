/-
  Slices of numbers by value, opened; the walk over cut.
-/
import Derived.Test.Ythnjfnapjpdchaamg16
import Derived.Test.Ythnjfnapjpdchaamg8
import Derived.Test.Ythnjfnapjpdchaamg3
import Derived.Test.Ythnjfnapjpdchaamg10
import Derived.Test.Ythnjfnapjpdchaamg15
namespace Go.Proofs.Ythnjfnapjpdchaa
open Go.ChangeShapes Go.WideShapes Go.ChangeAt Go.RowKit
set_option linter.unusedVariables false

/-- the numbers of a slice -/
def NumsAt (k : IntKind) (w : World) (b off len : Nat) (cs : Nat → Int) : Prop := ∀ i, i < len → w.cell? ⟨b, off + i, none⟩ = some (.int k (cs i))
def NumsIs (k : IntKind) (w : World) (a : Option Addr) (len : Nat) (cs : Nat → Int) : Prop :=
  len = 0 ∨ ∃ b off, a = some ⟨b, off, none⟩ ∧ b < w.heap.size ∧ NumsAt k w b off len cs
theorem NumsAt.keep {k : IntKind} {B b off len : Nat} {W w1 : World} {cs : Nat → Int} (s : NumsAt k W b off len cs) (hb : Below B W w1) (h : b < B) : NumsAt k w1 b off len cs := fun i hi => keepB hb h (s i hi)
theorem NumsIs.keep {k : IntKind} {a : Option Addr} {len : Nat} {W w1 : World} {cs : Nat → Int} (s : NumsIs k W a len cs) (hb : Below W.heap.size W w1) : NumsIs k w1 a len cs := by
  rcases s with h | ⟨b, off, h, hl, hs⟩
  · exact .inl h
  · exact .inr ⟨b, off, h, Nat.lt_of_lt_of_le hl hb.size, hs.keep hb hl⟩

set_option maxRecDepth 100000 in
theorem nums_open {H : Type} {enc : TypeId × Value → H} {w : World} {r : Reach} {b0 base : Nat} {spare : Nat → Bool} {held : Bool} {v : Value} {d : DataW H} {p : List MemPlace} {t e : TypeId} {k : IntKind}
    (ht : Try.prog.underlying t = some (.slice e)) (he : Try.prog.underlying e = some (.int k)) (hc : Try.prog.cellsOf e = 1) (h0 : (Lit.int k 0).wf = true)
    (hv : Value.okWide Try.prog w r b0 t v) (h : DataW.Trod enc Try.prog w base spare held t v d p) :
    ∃ (a : Option Addr) (len cap : Nat) (cs : Nat → Int), v = .slice a len cap ∧ len ≤ maxLen ∧ NumsIs k w a len cs ∧ ∀ i, (Lit.int k (cs i)).wf = true := by
  obtain ⟨a, len, cap, rfl⟩ := okWide_slice ht hv
  obtain ⟨fuel, hf⟩ := h
  rcases open_ints ht he hc hf with ⟨hcs, _⟩ | ⟨a2, len2, cap2, zs, hcs, _, hl, hm, hzl, _, hz, hw⟩
  · have hcs2 : [Value.slice a len cap] = [Value.slice none 0 0] := hcs
    simp only [List.cons.injEq, Value.slice.injEq, and_true] at hcs2
    obtain ⟨rfl, rfl, rfl⟩ := hcs2
    exact ⟨none, 0, 0, fun _ => 0, rfl, by decide, .inl rfl, fun _ => h0⟩
  · have hcs2 : [Value.slice a len cap] = [Value.slice (some a2) len2 cap2] := hcs
    simp only [List.cons.injEq, Value.slice.injEq, and_true] at hcs2
    obtain ⟨rfl, rfl, rfl⟩ := hcs2
    have hle : len ≤ zs.length := by rw [hzl]; split <;> omega
    refine ⟨some a2, len, cap, fun i => zs.getD i 0, rfl, by omega, ?_, fun i => ?_⟩
    · by_cases h0 : len = 0
      · exact .inl h0
      · have hsp : a2.spot = none := World.cell?_spot (show w.cell? (a2.add 0) = some _ from hz 0 (by omega))
        refine .inr ⟨a2.block, a2.off, ?_, ?_, fun i hil => ?_⟩
        · obtain ⟨b, off, spot⟩ := a2
          simp only at hsp
          rw [hsp]
        · have h1 := hz 0 (by omega)
          rw [add_at hsp] at h1
          exact World.block_lt_of_cell? w ⟨a2.block, a2.off + 0, none⟩ h1
        · have h1 := hz i (by omega)
          rw [add_at hsp] at h1
          exact h1
    · show (Lit.int k (zs.getD i 0)).wf = true
      by_cases hi : i < zs.length
      · exact hw _ (by rw [List.getD_eq_getElem?_getD, List.getElem?_eq_getElem hi]; exact List.getElem_mem hi)
      · rw [List.getD_eq_getElem?_getD, List.getElem?_eq_none (by omega)]; exact h0

/-- what cut answers -/
def cutC (len : Nat) (cs : Nat → Int) (i : Nat) : Int := if len = 0 then 0 else cs (i % len)
set_option maxHeartbeats 800000 in
theorem cut_any (a : Option Addr) (len cap : Nat) (cs : Nat → Int) (i : Nat) (w : World) (hl : len ≤ 1000000) (hi : i ≤ 1000000) (h : NumsIs .u32 w a len cs) :
    Calls Try.prog 54 #[.slice a len cap, .int .i64 i] w fun e w' => e = .returned (.int .u32 (cutC len cs i)) ∧ w = w' := by
  by_cases h0 : len = 0
  · subst h0
    go_enter Try.func54, Try.ntmps54
    go_wp2
    go_ret
    exact ⟨rfl, rfl⟩
  · rcases h with h | ⟨b, off, rfl, hb, hs⟩
    · exact absurd h h0
    · have hlt : i % len < len := Nat.mod_lt _ (by omega)
      have hc := hs _ hlt
      have HE := Lib.hid (show cutC len cs i = cs (i % len) from if_neg h0)
      have z1 : ((len : Int) == 0) = false := by rw [beq_eq_false_iff_ne]; omega
      have q1 : (i : Int).tmod (len : Int) = ((i % len : Nat) : Int) := by rw [Int.tmod_eq_emod_of_nonneg (by omega)]; rfl
      have q2 : IntKind.i64.wrap ((i % len : Nat) : Int) = ((i % len : Nat) : Int) := IntWalk.i64_in _ (by omega)
      have q3 : (0 : Int) ≤ ((i % len : Nat) : Int) := by omega
      have q4 : ((i % len : Nat) : Int) < (len : Int) := by omega
      generalize i % len = m at hlt hc HE q1 q2 q3 q4
      go_enter Try.func54, Try.ntmps54
      go_wp2
      go_ret
      exact ⟨by rw [HE.out]; rfl, rfl⟩

end Go.Proofs.Ythnjfnapjpdchaa

namespace Go.Proofs.Ythnjfnapjpdchaa
open Go.RowKit

theorem cut_bd {a n : Int} (h : 1 ≤ n) : 0 ≤ a % n ∧ a % n < n := ⟨Int.emod_nonneg _ (by omega), Int.emod_lt_of_pos _ (by omega)⟩

set_option maxHeartbeats 800000 in
theorem inner_any (lo hi a b : Int) (w : World) (h1 : 0 ≤ lo) (h2 : lo ≤ hi) (h3 : hi ≤ 1000000000) (a1 : 0 ≤ a) (a2 : a ≤ 4294967295) (b1 : 0 ≤ b) (b2 : b ≤ 4294967295) :
    Calls Try.prog 52 #[.agg #[.int .i64 lo, .int .i64 hi], .int .u32 a, .int .u32 b] w
      fun e w' => e = .returned (.agg #[.int .i64 (lo + a % (hi - lo + 1)), .int .i64 (lo + a % (hi - lo + 1) + b % (hi - (lo + a % (hi - lo + 1)) + 1))]) ∧ Below w.heap.size w w' := by
  obtain ⟨c1, c2⟩ := cut_bd (a := a) (n := hi - lo + 1) (by omega)
  obtain ⟨c3, c4⟩ := cut_bd (a := b) (n := hi - (lo + a % (hi - lo + 1)) + 1) (by omega)
  have q1 : IntKind.i64.wrap (hi - lo) = hi - lo := IntWalk.i64_in _ (by omega)
  have q2 : IntKind.i64.wrap (hi - lo + 1) = hi - lo + 1 := IntWalk.i64_in _ (by omega)
  have q3 : a.tmod (hi - lo + 1) = a % (hi - lo + 1) := Int.tmod_eq_emod_of_nonneg a1
  have q4 : IntKind.i64.wrap (lo + a % (hi - lo + 1)) = lo + a % (hi - lo + 1) := IntWalk.i64_in _ (by omega)
  have q5 : (hi - lo + 1 == 0) = false := by rw [beq_eq_false_iff_ne]; omega
  have q6 : IntKind.i64.wrap a = a := IntWalk.i64_in _ (by omega)
  have q7 : IntKind.i64.wrap (a % (hi - lo + 1)) = a % (hi - lo + 1) := IntWalk.i64_in _ (by omega)
  go_enter Try.func52, Try.ntmps52
  go_wp2
  go_quiet (fail)
  clear q1 q2 q3 q4 q5 q6 q7
  go_wp2
  exact bodyPost_ret (v := .agg #[.int .i64 (lo + a % (hi - lo + 1)), .int .i64 (lo + a % (hi - lo + 1) + b % (hi - (lo + a % (hi - lo + 1)) + 1))]) (by simp [results, Try.results52, go_sem]) rfl ⟨rfl, by repeat (first | exact Below.refl _ _ | (refine below_drewN ?_ _) | (refine Below.setCell ?_ (by simp) _) | (refine Below.alloc ?_ (by simp) _))⟩

set_option maxHeartbeats 800000 in
theorem lies_yes (lo hi a b : Int) (w : World) (h1 : lo ≤ hi) (h2 : a ≤ lo) (h3 : hi ≤ b) :
    Calls Try.prog 53 #[.agg #[.int .i64 lo, .int .i64 hi], .agg #[.int .i64 a, .int .i64 b]] w
      fun e w' => e = .returned (.bool true) ∧ Below w.heap.size w w' := by
  go_enter Try.func53, Try.ntmps53
  go_wp2
  go_ret
  exact ⟨rfl, by repeat (first | exact Below.refl _ _ | (refine Below.alloc ?_ (by simp) _))⟩

end Go.Proofs.Ythnjfnapjpdchaa

namespace Go.Proofs.Ythnjfnapjpdchaa
open Go.RowKit
set_option linter.unusedVariables false

set_option maxRecDepth 100000 in
set_option maxHeartbeats 6400000 in
theorem BeamGrows_few (nm : ByteArray) (x y z rose gates step width lo hi gx gy size wide high : Int) (fa : Option Addr) (len cap : Nat) (t ray : Int) (ca : Option Addr) (cl cc : Nat) (ua : Option Addr) (ul uc : Nat) (w : World) (hs : nm.size ≤ maxLen) (hl : len ≤ maxLen) (hl2 : cl ≤ maxLen) (hl3 : ul ≤ maxLen) (hf : fewB nm.size rose gates wide high = false) :
    Calls Try.prog 12 #[.agg #[.string nm, .int .i64 x, .int .i64 y, .int .i64 z, .int .i64 rose, .int .i64 gates, .int .i64 step, .int .i64 width], .int .i64 t, .agg #[.int .i64 lo, .int .i64 hi], .agg #[.int .i64 gx, .int .i64 gy, .int .i64 size, .int .i64 wide, .int .i64 high, .slice fa len cap], .int .i64 ray, .slice ca cl cc, .slice ua ul uc] w fun e w' => e = .returned (.bool true) ∧ Below w.heap.size w w' := by
  have HS := Lib.hid hs
  clear hs
  unfold maxLen at hl hl2 hl3
  have HF := Lib.hid hf
  clear hf
  go_enter Try.func12, Try.ntmps12
  go_wp2_with fail
  refine (few_any _ _ _ _ _ _ _ _ _ _ _ _ _ _ HS.out).mono ?_; rintro e w1 ⟨rfl, hb1⟩
  have O1 := (SEF.new w nm x y z rose gates step width lo hi gx gy size wide high (.slice fa len cap)).keep hb1 (by simp)
  clear hb1
  obtain ⟨⟨k0, k1, k2, k3, k4, k5, k6, k7⟩, ⟨p0, p1⟩, ⟨f0, f1, f2, f3, f4, f5⟩, hz, hbw⟩ := O1
  have y0 : w.heap.size < w1.heap.size := by omega
  have y1 : w.heap.size + 1 < w1.heap.size := by omega
  have y2 : w.heap.size + 1 + 1 < w1.heap.size := by omega
  rw [HF.out]
  go_wp2_with fail
  refine (works_any _).mono ?_; rintro e w99 ⟨rfl, hb99⟩
  go_wp2
  go_ret
  exact ⟨rfl, hbw.trans (hb99.mono (by omega))⟩

set_option maxRecDepth 100000 in
set_option maxHeartbeats 6400000 in
theorem BeamGrows_long (nm : ByteArray) (x y z rose gates step width lo hi gx gy size wide high : Int) (fa : Option Addr) (len cap : Nat) (t ray : Int) (ca : Option Addr) (cl cc : Nat) (ua : Option Addr) (ul uc : Nat) (w : World) (hs : nm.size ≤ maxLen) (hl : len ≤ maxLen) (hl2 : cl ≤ maxLen) (hl3 : ul ≤ maxLen) (hf : fewB nm.size rose gates wide high = true) (h3 : 300 < len) :
    Calls Try.prog 12 #[.agg #[.string nm, .int .i64 x, .int .i64 y, .int .i64 z, .int .i64 rose, .int .i64 gates, .int .i64 step, .int .i64 width], .int .i64 t, .agg #[.int .i64 lo, .int .i64 hi], .agg #[.int .i64 gx, .int .i64 gy, .int .i64 size, .int .i64 wide, .int .i64 high, .slice fa len cap], .int .i64 ray, .slice ca cl cc, .slice ua ul uc] w fun e w' => e = .returned (.bool true) ∧ Below w.heap.size w w' := by
  have HS := Lib.hid hs
  clear hs
  unfold maxLen at hl hl2 hl3
  have HF := Lib.hid hf
  clear hf
  go_enter Try.func12, Try.ntmps12
  go_wp2_with fail
  refine (few_any _ _ _ _ _ _ _ _ _ _ _ _ _ _ HS.out).mono ?_; rintro e w1 ⟨rfl, hb1⟩
  have O1 := (SEF.new w nm x y z rose gates step width lo hi gx gy size wide high (.slice fa len cap)).keep hb1 (by simp)
  clear hb1
  obtain ⟨⟨k0, k1, k2, k3, k4, k5, k6, k7⟩, ⟨p0, p1⟩, ⟨f0, f1, f2, f3, f4, f5⟩, hz, hbw⟩ := O1
  have y0 : w.heap.size < w1.heap.size := by omega
  have y1 : w.heap.size + 1 < w1.heap.size := by omega
  have y2 : w.heap.size + 1 + 1 < w1.heap.size := by omega
  rw [HF.out]
  go_wp2_with fail
  refine (works_any _).mono ?_; rintro e w99 ⟨rfl, hb99⟩
  go_wp2
  go_ret
  exact ⟨rfl, hbw.trans (hb99.mono (by omega))⟩

set_option maxRecDepth 100000 in
set_option maxHeartbeats 6400000 in
theorem BeamGrows_cuts (nm : ByteArray) (x y z rose gates step width lo hi gx gy size wide high : Int) (fa : Option Addr) (len cap : Nat) (t ray : Int) (ca : Option Addr) (cl cc : Nat) (ua : Option Addr) (ul uc : Nat) (w : World) (hs : nm.size ≤ maxLen) (hl : len ≤ maxLen) (hl2 : cl ≤ maxLen) (hl3 : ul ≤ maxLen) (hf : fewB nm.size rose gates wide high = true) (h3 : len ≤ 300) (h4 : 700 < cl) :
    Calls Try.prog 12 #[.agg #[.string nm, .int .i64 x, .int .i64 y, .int .i64 z, .int .i64 rose, .int .i64 gates, .int .i64 step, .int .i64 width], .int .i64 t, .agg #[.int .i64 lo, .int .i64 hi], .agg #[.int .i64 gx, .int .i64 gy, .int .i64 size, .int .i64 wide, .int .i64 high, .slice fa len cap], .int .i64 ray, .slice ca cl cc, .slice ua ul uc] w fun e w' => e = .returned (.bool true) ∧ Below w.heap.size w w' := by
  have HS := Lib.hid hs
  clear hs
  unfold maxLen at hl hl2 hl3
  have HF := Lib.hid hf
  clear hf
  go_enter Try.func12, Try.ntmps12
  go_wp2_with fail
  refine (few_any _ _ _ _ _ _ _ _ _ _ _ _ _ _ HS.out).mono ?_; rintro e w1 ⟨rfl, hb1⟩
  have O1 := (SEF.new w nm x y z rose gates step width lo hi gx gy size wide high (.slice fa len cap)).keep hb1 (by simp)
  clear hb1
  obtain ⟨⟨k0, k1, k2, k3, k4, k5, k6, k7⟩, ⟨p0, p1⟩, ⟨f0, f1, f2, f3, f4, f5⟩, hz, hbw⟩ := O1
  have y0 : w.heap.size < w1.heap.size := by omega
  have y1 : w.heap.size + 1 < w1.heap.size := by omega
  have y2 : w.heap.size + 1 + 1 < w1.heap.size := by omega
  rw [HF.out]
  go_wp2_with fail
  refine (works_any _).mono ?_; rintro e w99 ⟨rfl, hb99⟩
  go_wp2
  go_ret
  exact ⟨rfl, hbw.trans (hb99.mono (by omega))⟩

set_option maxRecDepth 100000 in
set_option maxHeartbeats 6400000 in
theorem BeamGrows_ups (nm : ByteArray) (x y z rose gates step width lo hi gx gy size wide high : Int) (fa : Option Addr) (len cap : Nat) (t ray : Int) (ca : Option Addr) (cl cc : Nat) (ua : Option Addr) (ul uc : Nat) (w : World) (hs : nm.size ≤ maxLen) (hl : len ≤ maxLen) (hl2 : cl ≤ maxLen) (hl3 : ul ≤ maxLen) (hf : fewB nm.size rose gates wide high = true) (h3 : len ≤ 300) (h4 : cl ≤ 700) (h5 : 300 < ul) :
    Calls Try.prog 12 #[.agg #[.string nm, .int .i64 x, .int .i64 y, .int .i64 z, .int .i64 rose, .int .i64 gates, .int .i64 step, .int .i64 width], .int .i64 t, .agg #[.int .i64 lo, .int .i64 hi], .agg #[.int .i64 gx, .int .i64 gy, .int .i64 size, .int .i64 wide, .int .i64 high, .slice fa len cap], .int .i64 ray, .slice ca cl cc, .slice ua ul uc] w fun e w' => e = .returned (.bool true) ∧ Below w.heap.size w w' := by
  have HS := Lib.hid hs
  clear hs
  unfold maxLen at hl hl2 hl3
  have HF := Lib.hid hf
  clear hf
  go_enter Try.func12, Try.ntmps12
  go_wp2_with fail
  refine (few_any _ _ _ _ _ _ _ _ _ _ _ _ _ _ HS.out).mono ?_; rintro e w1 ⟨rfl, hb1⟩
  have O1 := (SEF.new w nm x y z rose gates step width lo hi gx gy size wide high (.slice fa len cap)).keep hb1 (by simp)
  clear hb1
  obtain ⟨⟨k0, k1, k2, k3, k4, k5, k6, k7⟩, ⟨p0, p1⟩, ⟨f0, f1, f2, f3, f4, f5⟩, hz, hbw⟩ := O1
  have y0 : w.heap.size < w1.heap.size := by omega
  have y1 : w.heap.size + 1 < w1.heap.size := by omega
  have y2 : w.heap.size + 1 + 1 < w1.heap.size := by omega
  rw [HF.out]
  go_wp2_with fail
  refine (works_any _).mono ?_; rintro e w99 ⟨rfl, hb99⟩
  go_wp2
  go_ret
  exact ⟨rfl, hbw.trans (hb99.mono (by omega))⟩

set_option maxRecDepth 100000 in
set_option maxHeartbeats 6400000 in
theorem BeamGrows_err (nm : ByteArray) (x y z rose gates step width lo hi gx gy size wide high : Int) (fa : Option Addr) (len cap : Nat) (t ray : Int) (ca : Option Addr) (cl cc : Nat) (ua : Option Addr) (ul uc : Nat) (w : World) (hs : nm.size ≤ maxLen) (hl : len ≤ maxLen) (hl2 : cl ≤ maxLen) (hl3 : ul ≤ maxLen) (hf : fewB nm.size rose gates wide high = true) (h3 : len ≤ 300) (h4 : cl ≤ 700) (h5 : ul ≤ 300) (c : Int) (hc : (c != 0) = true) (f46 : ∀ wx : World, Below w.heap.size w wx → Calls Try.prog 46 #[.agg #[.string nm, .int .i64 x, .int .i64 y, .int .i64 z, .int .i64 rose, .int .i64 gates, .int .i64 step, .int .i64 width], .int .i64 t, .agg #[.int .i64 lo, .int .i64 hi], .agg #[.int .i64 gx, .int .i64 gy, .int .i64 size, .int .i64 wide, .int .i64 high, .slice fa len cap], .int .i64 ray] wx fun e w' => e = .returned (.tuple #[.slice none 0 0, .int .i64 c]) ∧ Below wx.heap.size wx w') :
    Calls Try.prog 12 #[.agg #[.string nm, .int .i64 x, .int .i64 y, .int .i64 z, .int .i64 rose, .int .i64 gates, .int .i64 step, .int .i64 width], .int .i64 t, .agg #[.int .i64 lo, .int .i64 hi], .agg #[.int .i64 gx, .int .i64 gy, .int .i64 size, .int .i64 wide, .int .i64 high, .slice fa len cap], .int .i64 ray, .slice ca cl cc, .slice ua ul uc] w fun e w' => e = .returned (.bool true) ∧ Below w.heap.size w w' := by
  have HS := Lib.hid hs
  clear hs
  have F46 := Lib.hid f46
  clear f46
  unfold maxLen at hl hl2 hl3
  have HF := Lib.hid hf
  clear hf
  go_enter Try.func12, Try.ntmps12
  go_wp2_with fail
  refine (few_any _ _ _ _ _ _ _ _ _ _ _ _ _ _ HS.out).mono ?_; rintro e w1 ⟨rfl, hb1⟩
  have O1 := (SEF.new w nm x y z rose gates step width lo hi gx gy size wide high (.slice fa len cap)).keep hb1 (by simp)
  clear hb1
  obtain ⟨⟨k0, k1, k2, k3, k4, k5, k6, k7⟩, ⟨p0, p1⟩, ⟨f0, f1, f2, f3, f4, f5⟩, hz, hbw⟩ := O1
  have y0 : w.heap.size < w1.heap.size := by omega
  have y1 : w.heap.size + 1 < w1.heap.size := by omega
  have y2 : w.heap.size + 1 + 1 < w1.heap.size := by omega
  rw [HF.out]
  go_wp2_with fail
  refine (F46.out _ hbw).mono ?_; rintro e w2 ⟨rfl, hb2⟩
  have O2 := (⟨⟨k0, k1, k2, k3, k4, k5, k6, k7⟩, ⟨p0, p1⟩, ⟨f0, f1, f2, f3, f4, f5⟩, hz, hbw⟩ : SEF w w1 nm x y z rose gates step width lo hi gx gy size wide high (.slice fa len cap)).keep hb2 hz
  clear k0 k1 k2 k3 k4 k5 k6 k7 p0 p1 f0 f1 f2 f3 f4 f5 hz hbw y0 y1 y2 hb2
  obtain ⟨⟨k0, k1, k2, k3, k4, k5, k6, k7⟩, ⟨p0, p1⟩, ⟨f0, f1, f2, f3, f4, f5⟩, hz, hbw⟩ := O2
  have y0 : w.heap.size < w2.heap.size := by omega
  have y1 : w.heap.size + 1 < w2.heap.size := by omega
  have y2 : w.heap.size + 1 + 1 < w2.heap.size := by omega
  go_wp2_with fail
  refine (works_any _).mono ?_; rintro e w99 ⟨rfl, hb99⟩
  go_wp2
  go_ret
  exact ⟨rfl, hbw.trans (hb99.mono (by omega))⟩

end Go.Proofs.Ythnjfnapjpdchaa

namespace Go.Proofs.Ythnjfnapjpdchaa
open Go.RowKit
set_option linter.unusedVariables false

theorem two_fields (W : World) (gx gy size wide high : Int) (sl : Value) :
    FieldAt ((W.alloc (.cells #[.int .i64 gx, .int .i64 gy, .int .i64 size, .int .i64 wide, .int .i64 high, sl] 28)).alloc (.cells #[.int .i64 gx, .int .i64 gy, .int .i64 size, .int .i64 wide, .int .i64 high, sl] 28)).drew W.heap.size gx gy size wide high sl ∧ FieldAt ((W.alloc (.cells #[.int .i64 gx, .int .i64 gy, .int .i64 size, .int .i64 wide, .int .i64 high, sl] 28)).alloc (.cells #[.int .i64 gx, .int .i64 gy, .int .i64 size, .int .i64 wide, .int .i64 high, sl] 28)).drew (W.heap.size + 1) gx gy size wide high sl ∧ ((W.alloc (.cells #[.int .i64 gx, .int .i64 gy, .int .i64 size, .int .i64 wide, .int .i64 high, sl] 28)).alloc (.cells #[.int .i64 gx, .int .i64 gy, .int .i64 size, .int .i64 wide, .int .i64 high, sl] 28)).drew.frozen? ⟨W.heap.size, 5, none⟩ = false ∧ ((W.alloc (.cells #[.int .i64 gx, .int .i64 gy, .int .i64 size, .int .i64 wide, .int .i64 high, sl] 28)).alloc (.cells #[.int .i64 gx, .int .i64 gy, .int .i64 size, .int .i64 wide, .int .i64 high, sl] 28)).drew.frozen? ⟨W.heap.size + 1, 5, none⟩ = false ∧ ((W.alloc (.cells #[.int .i64 gx, .int .i64 gy, .int .i64 size, .int .i64 wide, .int .i64 high, sl] 28)).alloc (.cells #[.int .i64 gx, .int .i64 gy, .int .i64 size, .int .i64 wide, .int .i64 high, sl] 28)).drew.heap.size = W.heap.size + 2 ∧ Below W.heap.size W ((W.alloc (.cells #[.int .i64 gx, .int .i64 gy, .int .i64 size, .int .i64 wide, .int .i64 high, sl] 28)).alloc (.cells #[.int .i64 gx, .int .i64 gy, .int .i64 size, .int .i64 wide, .int .i64 high, sl] 28)).drew := by
  obtain ⟨X, hX⟩ : ∃ X, X = W.alloc (.cells #[.int .i64 gx, .int .i64 gy, .int .i64 size, .int .i64 wide, .int .i64 high, sl] 28) := ⟨_, rfl⟩
  have sX : X.heap.size = W.heap.size + 1 := by rw [hX]; simp
  have bX : Below W.heap.size W X := by rw [hX]; exact below_alloc _ _
  rw [← hX]
  have a1 : FieldAt (X.alloc (.cells #[.int .i64 gx, .int .i64 gy, .int .i64 size, .int .i64 wide, .int .i64 high, sl] 28)) W.heap.size gx gy size wide high sl := FieldAt.keep (by rw [hX]; exact FieldAt.new _ _ _ _ _ _ _) (below_alloc _ _) (by omega)
  have a2 : FieldAt (X.alloc (.cells #[.int .i64 gx, .int .i64 gy, .int .i64 size, .int .i64 wide, .int .i64 high, sl] 28)) (W.heap.size + 1) gx gy size wide high sl := by rw [← sX]; exact FieldAt.new _ _ _ _ _ _ _
  have f1 : (X.alloc (.cells #[.int .i64 gx, .int .i64 gy, .int .i64 size, .int .i64 wide, .int .i64 high, sl] 28)).frozen? ⟨W.heap.size, 5, none⟩ = false := keepF (below_alloc _ _) (by omega) (by rw [hX]; exact alloc_newF rfl)
  have f2 : (X.alloc (.cells #[.int .i64 gx, .int .i64 gy, .int .i64 size, .int .i64 wide, .int .i64 high, sl] 28)).frozen? ⟨W.heap.size + 1, 5, none⟩ = false := alloc_newF sX.symm
  exact ⟨⟨a1.c0, a1.c1, a1.c2, a1.c3, a1.c4, a1.c5⟩, ⟨a2.c0, a2.c1, a2.c2, a2.c3, a2.c4, a2.c5⟩, f1, f2, by simp; omega, (bX.trans ((below_alloc _ _).mono (by omega))).drew⟩

/-- two fields that are being filled -/
structure GRel (w2 wr : World) (B b1 b2 kt kh : Nat) (tv hv : Value) (tz hz : Nat → Int × Int) (gx gy size wide high : Int) : Prop where
  b : Below w2.heap.size w2 wr
  ft : FieldAt wr b1 gx gy size wide high tv
  fh : FieldAt wr b2 gx gy size wide high hv
  tf : wr.frozen? ⟨b1, 5, none⟩ = false
  hf : wr.frozen? ⟨b2, 5, none⟩ = false
  ot : wr.ownsRow B 43 2 tv kt (spv (fun i => (tz i).1) (fun i => (tz i).2) kt)
  oh : wr.ownsRow B 43 2 hv kh (spv (fun i => (hz i).1) (fun i => (hz i).2) kh)
  ap : ∀ g, tv.ownBlock = some g → hv.ownBlock ≠ some g
  z1 : w2.heap.size ≤ b1
  z2 : w2.heap.size ≤ b2
  ne : b1 ≠ b2
  l1 : b1 < B
  l2 : b2 < B
  zz : B ≤ wr.heap.size
theorem GRel.swap {w2 W : World} {B b1 b2 kt kh : Nat} {tv hv : Value} {tz hz : Nat → Int × Int} {gx gy size wide high : Int} (R : GRel w2 W B b1 b2 kt kh tv hv tz hz gx gy size wide high) : GRel w2 W B b2 b1 kh kt hv tv hz tz gx gy size wide high :=
  ⟨R.b, R.fh, R.ft, R.hf, R.tf, R.oh, R.ot, fun g h1 h2 => R.ap g h2 h1, R.z2, R.z1, R.ne.symm, R.l2, R.l1, R.zz⟩
theorem GRel.keep {w2 W : World} {B b1 b2 kt kh : Nat} {tv hv : Value} {tz hz : Nat → Int × Int} {gx gy size wide high : Int} (R : GRel w2 W B b1 b2 kt kh tv hv tz hz gx gy size wide high) {w1 : World} (hb : Below W.heap.size W w1) : GRel w2 w1 B b1 b2 kt kh tv hv tz hz gx gy size wide high := by
  have e1 := R.l1
  have e2 := R.l2
  have e3 := R.zz
  exact ⟨R.b.trans (hb.mono R.b.size), R.ft.keep hb (by omega), R.fh.keep hb (by omega), keepF hb (by omega) R.tf, keepF hb (by omega) R.hf, owns_keep R.ot hb, owns_keep R.oh hb, R.ap, R.z1, R.z2, R.ne, R.l1, R.l2, Nat.le_trans e3 hb.size⟩
theorem GRel.start {w2 W : World} {b1 b2 : Nat} {sl : Value} (tz hz : Nat → Int × Int) {gx gy size wide high : Int} (hb : Below w2.heap.size w2 W) (f1 : FieldAt W b1 gx gy size wide high sl) (f2 : FieldAt W b2 gx gy size wide high sl) (g1 : W.frozen? ⟨b1, 5, none⟩ = false) (g2 : W.frozen? ⟨b2, 5, none⟩ = false) (z1 : w2.heap.size ≤ b1) (z2 : w2.heap.size ≤ b2) (ne : b1 ≠ b2) (l1 : b1 < W.heap.size) (l2 : b2 < W.heap.size) :
    GRel w2 ((W.setCell ⟨b1, 5, none⟩ (.slice none 0 0)).setCell ⟨b2, 5, none⟩ (.slice none 0 0)) W.heap.size b1 b2 0 0 (.slice none 0 0) (.slice none 0 0) tz hz gx gy size wide high := by
  have n1 : b2 ≠ b1 := ne.symm
  refine ⟨(hb.setCell (by dsimp only; omega) _).setCell (by dsimp only; omega) _, ?_, ?_, by simp; exact g1, by simp; exact g2, World.ownsRow_nil _ _ _ _, World.ownsRow_nil _ _ _ _, fun g h => (by cases h), z1, z2, ne, l1, l2, by simp⟩
  · exact ⟨cell_far n1 (set_other (by decide) f1.c0), cell_far n1 (set_other (by decide) f1.c1), cell_far n1 (set_other (by decide) f1.c2), cell_far n1 (set_other (by decide) f1.c3), cell_far n1 (set_other (by decide) f1.c4), cell_far n1 (set_same f1.c5)⟩
  · exact ⟨set_other (by decide) (cell_far ne f2.c0), set_other (by decide) (cell_far ne f2.c1), set_other (by decide) (cell_far ne f2.c2), set_other (by decide) (cell_far ne f2.c3), set_other (by decide) (cell_far ne f2.c4), set_same (cell_far ne f2.c5)⟩
theorem GRel.put {w2 W : World} {B b1 b2 kt kh : Nat} {tv hv : Value} {tz hz : Nat → Int × Int} {gx gy size wide high : Int} (R : GRel w2 W B b1 b2 kt kh tv hv tz hz gx gy size wide high) {w5 w1 : World} (hb : Below W.heap.size W w5) {g cap : Nat} (hown : w1.ownsRow B 43 2 (.slice (some ⟨g, 0, none⟩) (kt + 1) cap) (kt + 1) (spv (fun i => (tz i).1) (fun i => (tz i).2) kt ++ [.int .i64 (tz kt).1, .int .i64 (tz kt).2])) (hgrow : w5.grownBy w1 tv.ownBlock) (hat : tv.ownBlock = some g ∨ g = w5.heap.size) :
    GRel w2 (w1.setCell ⟨b1, 5, none⟩ (.slice (some ⟨g, 0, none⟩) (kt + 1) cap)) B b1 b2 (kt + 1) kh (.slice (some ⟨g, 0, none⟩) (kt + 1) cap) hv tz hz gx gy size wide high := by
  have R := R.keep hb
  have e1 := R.l1
  have e2 := R.l2
  have e3 := R.zz
  have hB := R.ot.lt
  have n1 : b2 ≠ b1 := R.ne.symm
  have bw : Below B w5 w1 := Below.grown (Below.refl B w5) hgrow e3 (fun k hk => (hB k hk).1)
  have f1 := R.ft.keep bw e1
  have f2 := R.fh.keep bw e2
  have oh : w1.ownsRow B 43 2 hv kh (spv (fun i => (hz i).1) (fun i => (hz i).2) kh) := R.oh.kept hgrow (by
    rcases h : hv.ownBlock with _ | q
    · exact .inl rfl
    · right; intro h2; exact R.ap q h2.symm h)
  have hg := (hown.lt g rfl).1
  refine ⟨(Below.grown R.b hgrow (by have := R.z1; omega) (fun k hk => by have := (hB k hk).1; have := R.z1; omega)).setCell (by dsimp only; exact R.z1) _, ?_, ?_, by simp; exact keepF bw e1 R.tf, by simp; exact keepF bw e2 R.hf, owns_far hown (fun q hq => by have := (hown.lt q hq).1; omega), owns_far oh (fun q hq => by have := (oh.lt q hq).1; omega), fun q hq h2 => ?_, R.z1, R.z2, R.ne, e1, e2, by simp; have := bw.size; omega⟩
  · exact ⟨set_other (by decide) f1.c0, set_other (by decide) f1.c1, set_other (by decide) f1.c2, set_other (by decide) f1.c3, set_other (by decide) f1.c4, set_same f1.c5⟩
  · exact ⟨cell_far R.ne f2.c0, cell_far R.ne f2.c1, cell_far R.ne f2.c2, cell_far R.ne f2.c3, cell_far R.ne f2.c4, cell_far R.ne f2.c5⟩
  · obtain rfl : q = g := by injection hq with hq; exact hq.symm
    rcases hat with h | h
    · exact R.ap q h h2
    · have := (R.oh.lt q h2).2
      omega
theorem GRel.far {w2 W : World} {B b1 b2 kt kh : Nat} {tv hv : Value} {tz hz : Nat → Int × Int} {gx gy size wide high : Int} (R : GRel w2 W B b1 b2 kt kh tv hv tz hz gx gy size wide high) {c j : Nat} {u : Value} (hc : B ≤ c) (ht : ∀ q, tv.ownBlock = some q → q ≠ c) (hh : ∀ q, hv.ownBlock = some q → q ≠ c) : GRel w2 (W.setCell ⟨c, j, none⟩ u) B b1 b2 kt kh tv hv tz hz gx gy size wide high := by
  have e1 := R.l1
  have e2 := R.l2
  have e3 := R.z1
  have n1 : c ≠ b1 := by omega
  have n2 : c ≠ b2 := by omega
  exact ⟨R.b.setCell (by dsimp only; omega) _, ⟨cell_far n1 R.ft.c0, cell_far n1 R.ft.c1, cell_far n1 R.ft.c2, cell_far n1 R.ft.c3, cell_far n1 R.ft.c4, cell_far n1 R.ft.c5⟩, ⟨cell_far n2 R.fh.c0, cell_far n2 R.fh.c1, cell_far n2 R.fh.c2, cell_far n2 R.fh.c3, cell_far n2 R.fh.c4, cell_far n2 R.fh.c5⟩, by simp; exact R.tf, by simp; exact R.hf, owns_far R.ot ht, owns_far R.oh hh, R.ap, R.z1, R.z2, R.ne, R.l1, R.l2, by simp; exact R.zz⟩
/-- the spans of a field that is filled -/
theorem GRel.spans {w2 W : World} {B b1 b2 kt kh : Nat} {tv hv : Value} {tz hz : Nat → Int × Int} {gx gy size wide high : Int} (R : GRel w2 W B b1 b2 kt kh tv hv tz hz gx gy size wide high) (h : 0 < kt) : ∃ g cap, tv = .slice (some ⟨g, 0, none⟩) kt cap ∧ g < W.heap.size ∧ SpansAt W g 0 kt tz := by
  have HO := R.ot
  obtain ⟨g, cap, rfl, _, hb2⟩ := HO.form h
  exact ⟨g, cap, rfl, hb2, fun i hi => ⟨by rw [Nat.zero_add, HO.cellAt (i * 2) (by omega)]; exact (spv_get _ _ kt i hi).1, by rw [Nat.zero_add, HO.cellAt (i * 2 + 1) (by omega)]; exact (spv_get _ _ kt i hi).2⟩⟩

end Go.Proofs.Ythnjfnapjpdchaa
