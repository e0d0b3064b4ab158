/-
  The small machine, in pieces, each of which begins with a state that is written down: what nobody needs any more is left out.
-/
import Derived.Test.YtaneipjpagbmpaaEC
import Derived.Test.YtaneipjpagbmpaaED
namespace Go.Proofs.Ytaneipjpagbmpaa
open Go.RowKit
set_option linter.unusedVariables false
set_option linter.unusedSimpArgs false
set_option linter.unusedSectionVars false

noncomputable def frE : List Fr → List Fr → Bool
  | [], [] => true
  | .seqR p :: l, .seqR q :: m => decide (p = q) && frE l m
  | .blk i :: l, .blk j :: m => decide (i = j) && frE l m
  | .scp :: l, .scp :: m => frE l m
  | _, _ => false
theorem frE_eq : ∀ {l m : List Fr}, frE l m = true → l = m
  | [], [], _ => rfl
  | .seqR p :: l, .seqR q :: m, h => by
    simp only [frE, Bool.and_eq_true, decide_eq_true_eq] at h
    rw [h.1, frE_eq h.2]
  | .blk i :: l, .blk j :: m, h => by
    simp only [frE, Bool.and_eq_true, decide_eq_true_eq] at h
    rw [h.1, frE_eq h.2]
  | .scp :: l, .scp :: m, h => by
    simp only [frE] at h
    rw [frE_eq h]
  | [], .seqR _ :: _, h => by simp [frE] at h
  | [], .blk _ :: _, h => by simp [frE] at h
  | [], .scp :: _, h => by simp [frE] at h
  | .seqR _ :: _, [], h => by simp [frE] at h
  | .blk _ :: _, [], h => by simp [frE] at h
  | .scp :: _, [], h => by simp [frE] at h
  | .seqR _ :: _, .blk _ :: _, h => by simp [frE] at h
  | .seqR _ :: _, .scp :: _, h => by simp [frE] at h
  | .blk _ :: _, .seqR _ :: _, h => by simp [frE] at h
  | .blk _ :: _, .scp :: _, h => by simp [frE] at h
  | .scp :: _, .seqR _ :: _, h => by simp [frE] at h
  | .scp :: _, .blk _ :: _, h => by simp [frE] at h
abbrev same : XT := ⟨[], [], [], [], []⟩
theorem same_ok {E : Env} : same.Ok E E := { base := rfl, tau := fun _ _ h => (by cases h), lam := fun _ _ h => (by cases h), kap := fun _ _ h => (by cases h), zer := fun _ _ h => (by cases h) }
noncomputable def handSt : St → St → Bool
  | .run fs p a1 m1, .run gs q a2 m2 => frE fs gs && decide (p = q) && xst same Mini.empty a1 m1 a2 m2
  | _, _ => false
section
variable [Env] {P : Program} {g : FuncId}
/-- nothing is a ghost -/
abbrev plainB (w : World) (hb : Below Env.base.heap.size Env.base w) : Base := ⟨w, fun _ => False, hb⟩
theorem good_hand {Q : Exit → Act → World → Prop} {w : World} {hb : Below Env.base.heap.size Env.base w} {s t : St} (h : handSt s t = true) (ht : Good P g Q (plainB w hb) (fun _ => none) t) : Good P g Q (plainB w hb) (fun _ => none) s := by
  unfold handSt at h
  split at h
  · rename_i fs p a1 m1 gs q a2 m2
    simp only [Bool.and_eq_true, decide_eq_true_eq] at h
    obtain ⟨⟨h1, rfl⟩, h3⟩ := h
    have h1 := frE_eq h1
    subst h1
    intro c hc ρ w1 a' hx ha hw
    obtain ⟨ρ', x, y, z⟩ := hand_on (E1 := ‹Env›) (E2 := ‹Env›) (w0 := plainB w hb) same_ok h3 hx (fun n t hn => (by cases hn)) (fun n (hn : False) => hn.elim) ha hw
    exact ht c hc ρ' w1 a' x y z
  · cases h
noncomputable def pieceOk (P : Program) (call : CallF) (lt : LoopT) (g : FuncId) (cf n : Nat) (s t : St) : Bool := match iter P call lt g cf n s with
  | some r => handSt r t
  | none => false
/-- from a state on, all goes well, and what is answered is true -/
def Ends (P : Program) (g : FuncId) (fn : Func) (s : St) : Prop := ∀ (w : World) (hb : Below Env.base.heap.size Env.base w) (Q : Exit → Act → World → Prop),
  (∀ x a m, endsTrue P fn (some (.ret [] x a m)) = true → Good P g Q (plainB w hb) (fun _ => none) (.ret [] x a m)) → Good P g Q (plainB w hb) (fun _ => none) s
theorem ends_last {call : CallF} {lt : LoopT} (hm : P.follows .mixedOrders = true) (hcall : CallS P call) (hL : LoopsOk P lt) {cf n : Nat} {fn : Func} {s : St} (h : endsTrue P fn (iter P call lt g cf n s) = true) : Ends P g fn s := fun w hb Q hQ => by
  unfold endsTrue at h
  split at h
  · rename_i x a m hi
    exact iter_good hm hcall hL hi (hQ x a m h)
  · cases h
theorem ends_piece {call : CallF} {lt : LoopT} (hm : P.follows .mixedOrders = true) (hcall : CallS P call) (hL : LoopsOk P lt) {cf n : Nat} {fn : Func} {s t : St} (h : pieceOk P call lt g cf n s t = true) (ht : Ends P g fn t) : Ends P g fn s := fun w hb Q hQ => by
  unfold pieceOk at h
  split at h
  · rename_i r hi
    exact iter_good hm hcall hL hi (good_hand h (ht w hb Q hQ))
  · cases h
theorem ends_calls (hP : P = Env.prog) (hm : P.follows .mixedOrders = true) {args : Array Value} (hp : flatA args = true) {fn : Func} {c : Code} (hfn : P.funcs[g]? = some fn) (hc : fn.body = some c) (hle : args.size + (fn.ntmps - args.size) ≤ 1048576)
    (h : Ends P g fn (.run [] [] (startM fn args) Mini.empty)) (w : World) (hb : Below Env.base.heap.size Env.base w) :
    Calls P g (realA Env.σ args) w fun e w' => e = .returned (.bool true) ∧ Below w.heap.size w w' := by
  have har := realA_rel (ρ := fun _ => none) args hp
  have hact := startM_act (fn := fn) har hle
  have hat : codeAt P g [] = some c := by simp only [codeAt, hfn]; exact hc
  refine (callsIn_wide (n := 0)).1 (callsIn_of_wp_marks (F := WF none) hfn hc trivial ?_)
  refine h w hb _ (fun x a m he => ?_) c hat _ w _ (Ext.refl _) hact (WR.empty P w hb)
  intro ρ w1 a' hx1 ha hw
  unfold endsTrue at he
  rw [Bool.and_eq_true] at he
  obtain ⟨hx, he⟩ := he
  split at he
  · rename_i m2 ht
    split at he
    · rename_i hr
      have : LeavesInM (WF none) 0 P fn a'.tmps (fun e w' => e = .returned (.bool true) ∧ Below w.heap.size w w') a'.defers .returning w1 := by
        refine takeMarks_spec ha.defs hw ht fun w2 hw2 => ?_
        obtain ⟨v', r1, r2⟩ := resultsM_spec ha hw2 hr
        exact ⟨v', r1, by rw [r2.det (v := .bool true) rfl (real_rel (ρ := ρ) _ rfl)]; rfl, hw2.below⟩
      cases x with
      | normal => exact this
      | ret => exact this
      | exit id => cases hx
    · cases he
  · cases he
end
end Go.Proofs.Ytaneipjpagbmpaa
