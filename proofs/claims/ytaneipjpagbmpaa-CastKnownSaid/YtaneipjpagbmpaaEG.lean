/-
  The small machine: a loop whose rounds are known one by one.
-/
import Derived.Test.YtaneipjpagbmpaaED
namespace Go.Proofs.Ytaneipjpagbmpaa
open Go.RowKit
set_option linter.unusedVariables false
set_option linter.unusedSimpArgs false
set_option linter.unusedSectionVars false

theorem roundsIn_le {F : Fence} {n : Nat} {P : Program} {c : Code} {Q : Exit → Act → World → Prop} : ∀ {m k : Nat}, m ≤ k → ∀ {a : Act} {w : World}, Code.roundsIn F n P c Q m a w → Code.roundsIn F n P c Q k a w
  | 0, _, _, _, _, h => h.elim
  | m + 1, 0, hk, _, _, _ => by omega
  | m + 1, k + 1, hk, a, w, h => by
    rw [roundsIn_succ] at h ⊢
    refine wpIn_mono h fun e a w hq => ?_
    cases e <;> first | exact hq | exact roundsIn_le (by omega) hq
noncomputable def eqX : XM → XM → Bool
  | .normal, .normal => true
  | .ret, .ret => true
  | .exit a, .exit b => decide (a = b)
  | _, _ => false
theorem eqX_sound {x y : XM} (h : eqX x y = true) : x = y := by
  unfold eqX at h
  split at h
  · rfl
  · rfl
  · rw [of_decide_eq_true h]
  · cases h
/-- a round is gone, and the head is reached again -/
noncomputable def goes (T : XT) (mA : Mini) (ah : MA) (mh : Mini) : Option (XM × MA × Mini) → Bool
  | some (.normal, a, m) => xst T mA a m ah mh
  | _ => false
/-- the loop is left -/
noncomputable def leaves (T : XT) (mA : Mini) (x : XM) (a1 : MA) (m1 : Mini) : Option (XM × MA × Mini) → Bool
  | some (y, a, m) => eqX x y && xst T mA a m a1 m1
  | none => false
theorem goes_spec {T : XT} {mA mh : Mini} {ah : MA} {r : Option (XM × MA × Mini)} (h : goes T mA ah mh r = true) : ∃ a m, r = some (.normal, a, m) ∧ xst T mA a m ah mh = true := by
  unfold goes at h
  split at h
  · exact ⟨_, _, rfl, h⟩
  · cases h
theorem leaves_spec {T : XT} {mA m1 : Mini} {x : XM} {a1 : MA} {r : Option (XM × MA × Mini)} (h : leaves T mA x a1 m1 r = true) : ∃ a m, r = some (x, a, m) ∧ xst T mA a m a1 m1 = true := by
  unfold leaves at h
  split at h
  · rw [Bool.and_eq_true] at h
    rw [eqX_sound h.1]
    exact ⟨_, _, rfl, h.2⟩
  · cases h
/-- a loop, from its head: E x is how the signs are read at x -/
structure LoopIs (P : Program) (Ec : Env) (r : LoopRow) (b : Code) {X : Type} (E : X → Env) (Inv : X → Prop) (meas : X → Nat) (f : Nat) (ah : MA) (mh : Mini) : Prop where
  base : ∀ x, (E x).base = Ec.base
  step : ∀ x, Inv x → ∃ (E' : Env) (T1 : XT) (call : CallF) (lt : LoopT), T1.Ok (E x) E' ∧ xst T1 r.m ah mh ah mh = true ∧ @CallS E' P call ∧ @LoopsOk E' P lt ∧
    ((∃ y T, Inv y ∧ meas y < meas x ∧ T.Ok E' (E y) ∧ goes T r.m ah mh (@evCode E' P call lt r.rd r.fn f (false :: r.place) b ah mh) = true) ∨
    (∃ T, r.x ≠ .normal ∧ T.Ok E' Ec ∧ leaves T r.m r.x r.a1 r.m1 (@evCode E' P call lt r.rd r.fn f (false :: r.place) b ah mh) = true))
theorem LoopIs.row {P : Program} (hm : P.follows .mixedOrders = true) {Ec : Env} {r : LoopRow} {b : Code} (hb : codeAt P r.fn r.place = some (.loop b)) {X : Type} {E : X → Env} {Inv : X → Prop} {meas : X → Nat} {f : Nat} {ah : MA} {mh : Mini}
    (h : LoopIs P Ec r b E Inv meas f ah mh) (x0 : X) (hx0 : Inv x0) (T0 : XT) (hT0 : T0.Ok Ec (E x0)) (h0 : xst T0 r.m r.a r.m ah mh = true) : @RowOk Ec P r := by
  refine ⟨meas x0 + 1, fun w0 rr Q w ρe a' hrd ha hw hK b' hb' => ?_⟩
  rw [hb] at hb'; injection hb' with hb'; injection hb' with hb'; subst hb'
  have hdom : ∀ n t, ρe n = some t → r.m.heap.get n ≠ none := @WR.dom Ec _ _ _ _ _ hw
  have hgh : ∀ n, @Base.gh Ec w0 n → r.m.heap.get n ≠ none := fun n hn => (@WR.ghost Ec _ _ _ _ _ hw n hn).2.1
  have hbc := codeAt_child hb false (x := b) rfl
  have out : ∀ {E' : Env} {call : CallF} {lt : LoopT} {T : XT} {ρ : Nm} {a' : Act} {w : World} (hbase : E'.base = Ec.base), Ext ρe ρ → @ActR E' ρ ah a' → @WR E' P (Base.to hbase.symm w0) ρ mh w → @CallS E' P call → @LoopsOk E' P lt → r.x ≠ .normal → (hT : T.Ok E' Ec) → leaves T r.m r.x r.a1 r.m1 (@evCode E' P call lt r.rd r.fn f (false :: r.place) b ah mh) = true →
      ∀ R : Act → World → Prop, b.wpIn (WF rr) 0 P (Exit.then R Q) a' w := fun hbase hE ha hw hc hl hne hT hlv R => by
    obtain ⟨a1, m1, he, hst⟩ := leaves_spec hlv
    refine @evCode_run _ P _ hm hc _ hl _ r.rd rr r.fn f _ b ah mh r.x a1 m1 hbc he _ _ _ _ (hrd.ext hE) ha hw fun ρ1 a1' w1 e1 e2 e3 => ?_
    obtain ⟨ρ2, f1, f2, f3⟩ := hand_on hT hst (hE.trans e1) hdom hgh e2 e3
    have := hK ρ2 a1' w1 f1 f2 f3
    cases hx : r.x with
    | normal => exact absurd hx hne
    | exit id => rw [hx] at this; exact this
    | ret => rw [hx] at this; exact this
  have key : ∀ k x, Inv x → meas x ≤ k → ∀ (ρ : Nm) (a' : Act) (w : World), Ext ρe ρ → @ActR (E x) ρ ah a' → @WR (E x) P (Base.to (h.base x).symm w0) ρ mh w → Code.roundsIn (WF rr) 0 P b Q (k + 1) a' w := by
    intro k
    induction k with
    | zero =>
      intro x hi hk ρ a' w hE ha hw
      rw [roundsIn_succ]
      obtain ⟨E', T1, call, lt, hT1, hs1, hc, hl, hor⟩ := h.step x hi
      obtain ⟨ρ1, g1, g2, g3⟩ := hand_on hT1 hs1 hE hdom hgh ha hw
      rcases hor with ⟨y, T, hy, hlt, _⟩ | ⟨T, hne, hT, hlv⟩
      · omega
      · exact out (hT1.base.symm.trans (h.base x)) g1 g2 g3 hc hl hne hT hlv _
    | succ k ih =>
      intro x hi hk ρ a' w hE ha hw
      rw [roundsIn_succ]
      obtain ⟨E', T1, call, lt, hT1, hs1, hc, hl, hor⟩ := h.step x hi
      obtain ⟨ρ1, g1, g2, g3⟩ := hand_on hT1 hs1 hE hdom hgh ha hw
      rcases hor with ⟨y, T, hy, hlt, hT, hg⟩ | ⟨T, hne, hT, hlv⟩
      · obtain ⟨a1, m1, he, hst⟩ := goes_spec hg
        refine @evCode_run E' P call hm hc lt hl _ r.rd rr r.fn f _ b ah mh .normal a1 m1 hbc he _ _ _ _ (hrd.ext g1) g2 g3 fun ρ2 a1' w1 e1 e2 e3 => ?_
        obtain ⟨ρ3, f1, f2, f3⟩ := hand_on hT hst (g1.trans e1) hdom hgh e2 e3
        exact ih y hy (by omega) ρ3 a1' w1 f1 f2 f3
      · exact out (hT1.base.symm.trans (h.base x)) g1 g2 g3 hc hl hne hT hlv _
  obtain ⟨ρ1, f1, f2, f3⟩ := hand_on hT0 h0 (Ext.refl _) hdom hgh ha hw
  exact key (meas x0) x0 hx0 (Nat.le_refl _) ρ1 a' w f1 f2 f3
/-- pairs of signs that mean the same, one by one -/
theorem XT.only {E1 E2 : Env} {l : List (Value × Value)} (hb : E1.base = E2.base) (h : ∀ e ∈ l, flat e.1 = true ∧ flat e.2 = true ∧ realD E1.σ e.1 = realD E2.σ e.2) : XT.Ok { tau := l, lam := [], kap := [], zer := [], pi := [] } E1 E2 :=
  ⟨hb, fun a b hm => h (a, b) hm, fun _ _ hm => (by cases hm), fun _ _ hm => (by cases hm), fun _ _ hm => (by cases hm)⟩
theorem loopsOne {E : Env} {P : Program} {r : LoopRow} (h : @RowOk E P r) : @LoopsOk E P [r] := fun q hq => by
  rcases List.mem_singleton.1 hq with rfl; exact h
end Go.Proofs.Ytaneipjpagbmpaa
namespace Go.Proofs.Ytaneipjpagbmpaa
/-- a round that comes back to the head -/
theorem stepGo {P : Program} {Ec : Env} {r : LoopRow} {b : Code} {X : Type} {E : X → Env} {Inv : X → Prop} {meas : X → Nat} {f : Nat} {ah : MA} {mh : Mini} {x : X} (hm : P.follows .mixedOrders = true) (E' : Env) (hP : P = E'.prog) {K : Cons} (hK : @ConsOk E' P K) {lt : LoopT} (hL : @LoopsOk E' P lt) (T1 : XT) (hT1 : T1.Ok (E x) E') (h1 : xst T1 r.m ah mh ah mh = true)
    (y : X) (T : XT) (hy : Inv y) (hlt : meas y < meas x) (hT : T.Ok E' (E y)) {cf n : Nat} (h : goes T r.m ah mh (@evCode E' P (@evCall E' P K lt cf n) lt r.rd r.fn f (false :: r.place) b ah mh) = true) :
    ∃ (E' : Env) (T1 : XT) (call : CallF) (lt : LoopT), T1.Ok (E x) E' ∧ xst T1 r.m ah mh ah mh = true ∧ @CallS E' P call ∧ @LoopsOk E' P lt ∧
    ((∃ y T, Inv y ∧ meas y < meas x ∧ T.Ok E' (E y) ∧ goes T r.m ah mh (@evCode E' P call lt r.rd r.fn f (false :: r.place) b ah mh) = true) ∨
    (∃ T, r.x ≠ .normal ∧ T.Ok E' Ec ∧ leaves T r.m r.x r.a1 r.m1 (@evCode E' P call lt r.rd r.fn f (false :: r.place) b ah mh) = true)) :=
  ⟨E', T1, _, lt, hT1, h1, @evCall_spec E' P hP hm K hK lt hL cf n, hL, .inl ⟨y, T, hy, hlt, hT, h⟩⟩
/-- a round that leaves -/
theorem stepOut {P : Program} {Ec : Env} {r : LoopRow} {b : Code} {X : Type} {E : X → Env} {Inv : X → Prop} {meas : X → Nat} {f : Nat} {ah : MA} {mh : Mini} {x : X} (hm : P.follows .mixedOrders = true) (E' : Env) (hP : P = E'.prog) {K : Cons} (hK : @ConsOk E' P K) {lt : LoopT} (hL : @LoopsOk E' P lt) (T1 : XT) (hT1 : T1.Ok (E x) E') (h1 : xst T1 r.m ah mh ah mh = true)
    (T : XT) (hx : r.x ≠ .normal) (hT : T.Ok E' Ec) {cf n : Nat} (h : leaves T r.m r.x r.a1 r.m1 (@evCode E' P (@evCall E' P K lt cf n) lt r.rd r.fn f (false :: r.place) b ah mh) = true) :
    ∃ (E' : Env) (T1 : XT) (call : CallF) (lt : LoopT), T1.Ok (E x) E' ∧ xst T1 r.m ah mh ah mh = true ∧ @CallS E' P call ∧ @LoopsOk E' P lt ∧
    ((∃ y T, Inv y ∧ meas y < meas x ∧ T.Ok E' (E y) ∧ goes T r.m ah mh (@evCode E' P call lt r.rd r.fn f (false :: r.place) b ah mh) = true) ∨
    (∃ T, r.x ≠ .normal ∧ T.Ok E' Ec ∧ leaves T r.m r.x r.a1 r.m1 (@evCode E' P call lt r.rd r.fn f (false :: r.place) b ah mh) = true)) :=
  ⟨E', T1, _, lt, hT1, h1, @evCall_spec E' P hP hm K hK lt hL cf n, hL, .inr ⟨T, hx, hT, h⟩⟩
end Go.Proofs.Ytaneipjpagbmpaa
