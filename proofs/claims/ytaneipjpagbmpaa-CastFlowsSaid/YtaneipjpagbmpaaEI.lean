/-
  The small machine: a loop whose head's state depends on the round.
-/
import Derived.Test.YtaneipjpagbmpaaEG
namespace Go.Proofs.Ytaneipjpagbmpaa
open Go.RowKit
set_option linter.unusedVariables false
set_option linter.unusedSimpArgs false
set_option linter.unusedSectionVars false
/-- a loop whose head's state depends on x (Booleans that are carried) -/
structure LoopIx (P : Program) (Ec : Env) (r : LoopRow) (b : Code) {X : Type} (E : X → Env) (Inv : X → Prop) (meas : X → Nat) (f : Nat) (ah : X → MA) (mh : X → Mini) : Prop where
  base : ∀ x, (E x).base = Ec.base
  step : ∀ x, Inv x → ∃ (E' : Env) (T1 : XT) (call : CallF) (lt : LoopT), T1.Ok (E x) E' ∧ xst T1 r.m (ah x) (mh x) (ah x) (mh x) = true ∧ @CallS E' P call ∧ @LoopsOk E' P lt ∧
    ((∃ y T, Inv y ∧ meas y < meas x ∧ T.Ok E' (E y) ∧ goes T r.m (ah y) (mh y) (@evCode E' P call lt r.rd r.fn f (false :: r.place) b (ah x) (mh x)) = true) ∨
    (∃ T, r.x ≠ .normal ∧ T.Ok E' Ec ∧ leaves T r.m r.x r.a1 r.m1 (@evCode E' P call lt r.rd r.fn f (false :: r.place) b (ah x) (mh x)) = true))
theorem LoopIx.row {P : Program} (hm : P.follows .mixedOrders = true) {Ec : Env} {r : LoopRow} {b : Code} (hb : codeAt P r.fn r.place = some (.loop b)) {X : Type} {E : X → Env} {Inv : X → Prop} {meas : X → Nat} {f : Nat} {ah : X → MA} {mh : X → Mini}
    (h : LoopIx P Ec r b E Inv meas f ah mh) (x0 : X) (hx0 : Inv x0) (T0 : XT) (hT0 : T0.Ok Ec (E x0)) (h0 : xst T0 r.m r.a r.m (ah x0) (mh x0) = true) : @RowOk Ec P r := by
  refine ⟨meas x0 + 1, fun w0 rr Q w ρe a' hrd ha hw hK b' hb' => ?_⟩
  rw [hb] at hb'; injection hb' with hb'; injection hb' with hb'; subst hb'
  have hdom : ∀ n t, ρe n = some t → r.m.heap.get n ≠ none := @WR.dom Ec _ _ _ _ _ hw
  have hgh : ∀ n, @Base.gh Ec w0 n → r.m.heap.get n ≠ none := fun n hn => (@WR.ghost Ec _ _ _ _ _ hw n hn).2.1
  have hbc := codeAt_child hb false (x := b) rfl
  have out : ∀ {x : X} {E' : Env} {call : CallF} {lt : LoopT} {T : XT} {ρ : Nm} {a' : Act} {w : World} (hbase : E'.base = Ec.base), Ext ρe ρ → @ActR E' ρ (ah x) a' → @WR E' P (Base.to hbase.symm w0) ρ (mh x) w → @CallS E' P call → @LoopsOk E' P lt → r.x ≠ .normal → (hT : T.Ok E' Ec) → leaves T r.m r.x r.a1 r.m1 (@evCode E' P call lt r.rd r.fn f (false :: r.place) b (ah x) (mh x)) = true →
      ∀ R : Act → World → Prop, b.wpIn (WF rr) 0 P (Exit.then R Q) a' w := fun {x} {E'} {call} {lt} {T} {ρ} {a'} {w} hbase hE ha hw hc hl hne hT hlv R => by
    obtain ⟨a1, m1, he, hst⟩ := leaves_spec hlv
    refine @evCode_run _ P _ hm hc _ hl _ r.rd rr r.fn f _ b (ah x) (mh x) r.x a1 m1 hbc he _ _ _ _ (hrd.ext hE) ha hw fun ρ1 a1' w1 e1 e2 e3 => ?_
    obtain ⟨ρ2, f1, f2, f3⟩ := hand_on hT hst (hE.trans e1) hdom hgh e2 e3
    have := hK ρ2 a1' w1 f1 f2 f3
    cases hx : r.x with
    | normal => exact absurd hx hne
    | exit id => rw [hx] at this; exact this
    | ret => rw [hx] at this; exact this
  have key : ∀ k x, Inv x → meas x ≤ k → ∀ (ρ : Nm) (a' : Act) (w : World), Ext ρe ρ → @ActR (E x) ρ (ah x) a' → @WR (E x) P (Base.to (h.base x).symm w0) ρ (mh x) w → Code.roundsIn (WF rr) 0 P b Q (k + 1) a' w := by
    intro k
    induction k with
    | zero =>
      intro x hi hk ρ a' w hE ha hw
      rw [roundsIn_succ]
      obtain ⟨E', T1, call, lt, hT1, hs1, hc, hl, hor⟩ := h.step x hi
      obtain ⟨ρ1, g1, g2, g3⟩ := hand_on hT1 hs1 hE hdom hgh ha hw
      rcases hor with ⟨y, T, hy, hlt, _⟩ | ⟨T, hne, hT, hlv⟩
      · omega
      · exact out (hT1.base.symm.trans (h.base x)) g1 g2 g3 hc hl hne hT hlv _
    | succ k ih =>
      intro x hi hk ρ a' w hE ha hw
      rw [roundsIn_succ]
      obtain ⟨E', T1, call, lt, hT1, hs1, hc, hl, hor⟩ := h.step x hi
      obtain ⟨ρ1, g1, g2, g3⟩ := hand_on hT1 hs1 hE hdom hgh ha hw
      rcases hor with ⟨y, T, hy, hlt, hT, hg⟩ | ⟨T, hne, hT, hlv⟩
      · obtain ⟨a1, m1, he, hst⟩ := goes_spec hg
        refine @evCode_run E' P call hm hc lt hl _ r.rd rr r.fn f _ b (ah x) (mh x) .normal a1 m1 hbc he _ _ _ _ (hrd.ext g1) g2 g3 fun ρ2 a1' w1 e1 e2 e3 => ?_
        obtain ⟨ρ3, f1, f2, f3⟩ := hand_on hT hst (g1.trans e1) hdom hgh e2 e3
        exact ih y hy (by omega) ρ3 a1' w1 f1 f2 f3
      · exact out (hT1.base.symm.trans (h.base x)) g1 g2 g3 hc hl hne hT hlv _
  obtain ⟨ρ1, f1, f2, f3⟩ := hand_on hT0 h0 (Ext.refl _) hdom hgh ha hw
  exact key (meas x0) x0 hx0 (Nat.le_refl _) ρ1 a' w f1 f2 f3
/-- a round that comes back to the head -/
theorem stepGoX {P : Program} {Ec : Env} {r : LoopRow} {b : Code} {X : Type} {E : X → Env} {Inv : X → Prop} {meas : X → Nat} {f : Nat} {ah : X → MA} {mh : X → Mini} {x : X} (hm : P.follows .mixedOrders = true) (E' : Env) (hP : P = E'.prog) {K : Cons} (hK : @ConsOk E' P K) {lt : LoopT} (hL : @LoopsOk E' P lt) (T1 : XT) (hT1 : T1.Ok (E x) E') (h1 : xst T1 r.m (ah x) (mh x) (ah x) (mh x) = true)
    (y : X) (T : XT) (hy : Inv y) (hlt : meas y < meas x) (hT : T.Ok E' (E y)) {cf n : Nat} (h : goes T r.m (ah y) (mh y) (@evCode E' P (@evCall E' P K lt cf n) lt r.rd r.fn f (false :: r.place) b (ah x) (mh x)) = true) :
    ∃ (E' : Env) (T1 : XT) (call : CallF) (lt : LoopT), T1.Ok (E x) E' ∧ xst T1 r.m (ah x) (mh x) (ah x) (mh x) = true ∧ @CallS E' P call ∧ @LoopsOk E' P lt ∧
    ((∃ y T, Inv y ∧ meas y < meas x ∧ T.Ok E' (E y) ∧ goes T r.m (ah y) (mh y) (@evCode E' P call lt r.rd r.fn f (false :: r.place) b (ah x) (mh x)) = true) ∨
    (∃ T, r.x ≠ .normal ∧ T.Ok E' Ec ∧ leaves T r.m r.x r.a1 r.m1 (@evCode E' P call lt r.rd r.fn f (false :: r.place) b (ah x) (mh x)) = true)) :=
  ⟨E', T1, _, lt, hT1, h1, @evCall_spec E' P hP hm K hK lt hL cf n, hL, .inl ⟨y, T, hy, hlt, hT, h⟩⟩
/-- a round that leaves -/
theorem stepOutX {P : Program} {Ec : Env} {r : LoopRow} {b : Code} {X : Type} {E : X → Env} {Inv : X → Prop} {meas : X → Nat} {f : Nat} {ah : X → MA} {mh : X → Mini} {x : X} (hm : P.follows .mixedOrders = true) (E' : Env) (hP : P = E'.prog) {K : Cons} (hK : @ConsOk E' P K) {lt : LoopT} (hL : @LoopsOk E' P lt) (T1 : XT) (hT1 : T1.Ok (E x) E') (h1 : xst T1 r.m (ah x) (mh x) (ah x) (mh x) = true)
    (T : XT) (hx : r.x ≠ .normal) (hT : T.Ok E' Ec) {cf n : Nat} (h : leaves T r.m r.x r.a1 r.m1 (@evCode E' P (@evCall E' P K lt cf n) lt r.rd r.fn f (false :: r.place) b (ah x) (mh x)) = true) :
    ∃ (E' : Env) (T1 : XT) (call : CallF) (lt : LoopT), T1.Ok (E x) E' ∧ xst T1 r.m (ah x) (mh x) (ah x) (mh x) = true ∧ @CallS E' P call ∧ @LoopsOk E' P lt ∧
    ((∃ y T, Inv y ∧ meas y < meas x ∧ T.Ok E' (E y) ∧ goes T r.m (ah y) (mh y) (@evCode E' P call lt r.rd r.fn f (false :: r.place) b (ah x) (mh x)) = true) ∨
    (∃ T, r.x ≠ .normal ∧ T.Ok E' Ec ∧ leaves T r.m r.x r.a1 r.m1 (@evCode E' P call lt r.rd r.fn f (false :: r.place) b (ah x) (mh x)) = true)) :=
  ⟨E', T1, _, lt, hT1, h1, @evCall_spec E' P hP hm K hK lt hL cf n, hL, .inr ⟨T, hx, hT, h⟩⟩
end Go.Proofs.Ytaneipjpagbmpaa
