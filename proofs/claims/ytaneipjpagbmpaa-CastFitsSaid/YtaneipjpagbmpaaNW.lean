/-
  CastFits: the walk.
-/
import Derived.Test.YtaneipjpagbmpaaNYa
import Derived.Test.YtaneipjpagbmpaaNYb
import Derived.Test.YtaneipjpagbmpaaNZa
import Derived.Test.YtaneipjpagbmpaaNZb
import Derived.Test.YtaneipjpagbmpaaNZc
namespace Go.Proofs.Ytaneipjpagbmpaa
open Go.RowKit
set_option linter.unusedVariables false
set_option linter.unusedSimpArgs false
set_option maxRecDepth 100000
set_option maxHeartbeats 4000000
theorem CastFits_walk {s : Value} {l : List Fl} (x y sec times oa ob oc od : Int) (w : World) (hs : SliceIs w s 4 (l.map Fl.row)) (hcap : l.length ≤ capV s) (hx : -128 ≤ x ∧ x ≤ 127) (hy : -128 ≤ y ∧ y ≤ 127) (hse : 0 ≤ sec ∧ sec ≤ 65535) (hti : 0 ≤ times ∧ times ≤ 255) : Calls Try.prog 12 #[.int .i8 x, .int .i8 y, .int .u16 sec, .int .u8 times, s, .agg #[cI oa, cI ob, cI oc, cI od]] w fun e w' => e = .returned (.bool true) ∧ Below w.heap.size w w' := by
  classical
  by_cases h20 : 20 < (↑l.length : Int)
  · obtain ⟨fa, hfa⟩ : ∃ z : Int, z = 0 := ⟨0, rfl⟩
    obtain ⟨fb, hfb⟩ : ∃ z : Int, z = 0 := ⟨0, rfl⟩
    obtain ⟨vc, hfc⟩ : ∃ z : Int, z = 0 := ⟨0, rfl⟩
    obtain ⟨fd, hfd⟩ : ∃ z : Int, z = 0 := ⟨0, rfl⟩
    exact (@calls_signs ({ sigE Try.prog w [(.int .i8 (x)), (.int .i8 (y)), (.int .u16 (sec)), (.int .u8 (times)), s, cI (oa), cI (ob), cI (oc), cI (od), cI (fa), cI (fb), cI (vc), cI (fd), cI (mxd l 0 (dl l)), cI (mnd l 1 (dl l)), cI (mxd l 2 (dl l)), cI (mnd l 3 (dl l)), cI (mnd l 0 (dl l)), cI (mxd l 1 (dl l)), cI (mnd l 2 (dl l)), cI (mxd l 3 (dl l)), cI (↑l.length : Int)] (by simp only [List.all_cons, List.all_nil, Bool.and_true, Bool.and_self, hs.cellV, cell_at, cell_fat, cell_cI, show ∀ n, cellV (.int .i8 n) = true from fun _ => rfl, show ∀ n, cellV (.int .u8 n) = true from fun _ => rfl, show ∀ n, cellV (.int .u16 n) = true from fun _ => rfl]) with bins := [(.gtr, (sg 21), (cI 20), .bool true)], okB := fun op_ x_ y_ z_ h_ => (show ∀ e ∈ [(.gtr, (sg 21), (cI 20), .bool true)], FactB (sigF [(.int .i8 (x)), (.int .i8 (y)), (.int .u16 (sec)), (.int .u8 (times)), s, cI (oa), cI (ob), cI (oc), cI (od), cI (fa), cI (fb), cI (vc), cI (fd), cI (mxd l 0 (dl l)), cI (mnd l 1 (dl l)), cI (mxd l 2 (dl l)), cI (mnd l 3 (dl l)), cI (mnd l 0 (dl l)), cI (mxd l 1 (dl l)), cI (mnd l 2 (dl l)), cI (mxd l 3 (dl l)), cI (↑l.length : Int)]) e from (consF (gtrF rfl rfl (decide_eq_true (show 20 < (↑l.length : Int) from by omega))) nilF)) _ h_, lens := [(24, (sg 4), sg 21)], okLe := fun t_ x_ r_ h_ => (show ∀ e ∈ [(24, (sg 4), sg 21)], FactL Try.prog (sigF [(.int .i8 (x)), (.int .i8 (y)), (.int .u16 (sec)), (.int .u8 (times)), s, cI (oa), cI (ob), cI (oc), cI (od), cI (fa), cI (fb), cI (vc), cI (fd), cI (mxd l 0 (dl l)), cI (mnd l 1 (dl l)), cI (mxd l 2 (dl l)), cI (mnd l 3 (dl l)), cI (mnd l 0 (dl l)), cI (mxd l 1 (dl l)), cI (mnd l 2 (dl l)), cI (mxd l 3 (dl l)), cI (↑l.length : Int)]) e from (consF (fun ty w => hs.lenM Try.underlying24 ty w) nilF)) _ h_ }) Try.prog rfl mixed [(14, #[], .bool true)] (consK _ (fun w hb => (show Calls Try.prog 14 #[] w (Rt (.bool true) w) from works_true w)) (nilK _)) [] (noRows _) 100000 60 12 #[sg 0, sg 1, sg 2, sg 3, sg 4, .agg #[sg 5, sg 6, sg 7, sg 8]] (Go.Value.bool Bool.true) rfl rfl (by kernel_rfl) w (Below.refl _ _)).mono fun e w' h => ⟨h.1.trans (congrArg Ending.returned (show (Go.Value.bool Bool.true) = .bool true from by rfl)), h.2⟩
  by_cases hf : fitOk (x.tmod 33) (y.tmod 33) (1 + sec.tmod 40000)
  · by_cases c0 : chkFlows l = 0
    · by_cases he : empt l (dl l)
      · exact fitsBC hs hcap hx hy hse hti h20 hf c0 he
      · by_cases hoth : chkF oa ob oc od = 0
        · by_cases hF1 : ∀ k : Nat, k < l.length → liesP oa ob oc od (fc l ↑k 0) (fc l ↑k 1) (fc l ↑k 2) (fc l ↑k 3)
          · by_cases hF2 : ∀ k : Nat, k < l.length → liesP (fc l ↑k 0) (fc l ↑k 1) (fc l ↑k 2) (fc l ↑k 3) oa ob oc od
            · exact fitsBTT hs hcap hx hy hse hti h20 hf c0 he hoth hF1 hF2
            · exact fitsBTF hs hcap hx hy hse hti h20 hf c0 he hoth hF1 hF2
          · by_cases hF2 : ∀ k : Nat, k < l.length → liesP (fc l ↑k 0) (fc l ↑k 1) (fc l ↑k 2) (fc l ↑k 3) oa ob oc od
            · exact fitsBFT hs hcap hx hy hse hti h20 hf c0 he hoth hF1 hF2
            · exact fitsBFF hs hcap hx hy hse hti h20 hf c0 he hoth hF1 hF2
        · exact fitsBNV hs hcap hx hy hse hti h20 hf c0 he (by unfold chkF at hoth ⊢; split at hoth <;> simp_all)
    · exact fitsBE hs hcap hx hy hse hti h20 hf c0
  · by_cases c0 : chkFlows l = 0
    · by_cases he : empt l (dl l)
      · exact fitsAC hs hcap hx hy hse hti h20 hf c0 he
      · by_cases hoth : chkF oa ob oc od = 0
        · by_cases hF1 : ∀ k : Nat, k < l.length → liesP oa ob oc od (fc l ↑k 0) (fc l ↑k 1) (fc l ↑k 2) (fc l ↑k 3)
          · by_cases hF2 : ∀ k : Nat, k < l.length → liesP (fc l ↑k 0) (fc l ↑k 1) (fc l ↑k 2) (fc l ↑k 3) oa ob oc od
            · exact fitsATT hs hcap hx hy hse hti h20 hf c0 he hoth hF1 hF2
            · exact fitsATF hs hcap hx hy hse hti h20 hf c0 he hoth hF1 hF2
          · by_cases hF2 : ∀ k : Nat, k < l.length → liesP (fc l ↑k 0) (fc l ↑k 1) (fc l ↑k 2) (fc l ↑k 3) oa ob oc od
            · exact fitsAFT hs hcap hx hy hse hti h20 hf c0 he hoth hF1 hF2
            · exact fitsAFF hs hcap hx hy hse hti h20 hf c0 he hoth hF1 hF2
        · exact fitsANV hs hcap hx hy hse hti h20 hf c0 he (by unfold chkF at hoth ⊢; split at hoth <;> simp_all)
    · exact fitsAE hs hcap hx hy hse hti h20 hf c0
end Go.Proofs.Ytaneipjpagbmpaa
