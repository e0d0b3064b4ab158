/-
  The small machine, in several pieces: a function's own code, step by step.
-/
import Derived.Test.YtaneipjpagbmpaaEB
namespace Go.Proofs.Ytaneipjpagbmpaa
open Go.RowKit
set_option linter.unusedVariables false
set_option linter.unusedSimpArgs false
set_option linter.unusedSectionVars false
variable [Env]

inductive Fr where
  | seqR (p : List Bool)
  | blk (id : Nat)
  | scp
inductive St where
  | run (fs : List Fr) (p : List Bool) (a : MA) (m : Mini)
  | ret (fs : List Fr) (x : XM) (a : MA) (m : Mini)
noncomputable def step1 (P : Program) (call : CallF) (lt : LoopT) (g : FuncId) (cf : Nat) : St → Option St
  | .run fs p a m => match codeAt P g p with
    | some (.seq _ _) => some (.run (.seqR p :: fs) (false :: p) a m)
    | some (.scope _) => some (.run (.scp :: fs) (false :: p) a m)
    | some (.block id _) => some (.run (.blk id :: fs) (false :: p) a m)
    | some (.cond x _ _) => match evalM a x with
      | some (.bool b) => some (.run fs ((!b) :: p) a m)
      | _ => none
    | some c => match evCode P call lt none g cf p c a m with
      | some (x, a1, m1) => some (.ret fs x a1 m1)
      | none => none
    | none => none
  | .ret (.seqR p :: fs) .normal a m => match codeAt P g (true :: p) with
    | some _ => some (.run fs (true :: p) a m)
    | none => none
  | .ret (.seqR p :: fs) x a m => some (.ret fs x a m)
  | .ret (.blk id :: fs) (.exit id') a m => if id' = id then some (.ret fs .normal a m) else some (.ret fs (.exit id') a m)
  | .ret (.blk id :: fs) x a m => some (.ret fs x a m)
  | .ret (.scp :: fs) x a m => some (.ret fs x a m)
  | .ret [] _ _ _ => none
noncomputable def iter (P : Program) (call : CallF) (lt : LoopT) (g : FuncId) (cf : Nat) : Nat → St → Option St
  | 0, s => some s
  | n + 1, s => match step1 P call lt g cf s with
    | some s' => iter P call lt g cf n s'
    | none => none
theorem iter_trans {P : Program} {call : CallF} {lt : LoopT} {g : FuncId} {cf : Nat} : ∀ {n k : Nat} {s t u : St}, iter P call lt g cf n s = some t → iter P call lt g cf k t = some u → iter P call lt g cf (n + k) s = some u
  | 0, k, s, t, u, h, h' => by
    simp only [iter, Option.some.injEq] at h; subst h
    rw [Nat.zero_add]; exact h'
  | n + 1, k, s, t, u, h, h' => by
    rw [Nat.add_right_comm]
    simp only [iter] at h ⊢
    split at h
    · exact iter_trans h h'
    · cases h
section
variable {P : Program} {g : FuncId} (Q : Exit → Act → World → Prop)
noncomputable def Post (P : Program) (g : FuncId) (Q : Exit → Act → World → Prop) : List Fr → Exit → Act → World → Prop
  | [] => Q
  | .seqR p :: fs => Exit.then (fun a w => ∃ y, codeAt P g (true :: p) = some y ∧ y.wpIn (WF none) 0 P (Post P g Q fs) a w) (Post P g Q fs)
  | .blk id :: fs => Exit.inBlock id (Post P g Q fs)
  | .scp :: fs => Exit.noGoto (Post P g Q fs)
noncomputable def Good (P : Program) (g : FuncId) (Q : Exit → Act → World → Prop) (w0 : Base) (ρ0 : Nm) : St → Prop
  | .run fs p a m => ∀ c, codeAt P g p = some c → ∀ ρ w a', Ext ρ0 ρ → ActR ρ a a' → WR P w0 ρ m w → c.wpIn (WF none) 0 P (Post P g Q fs) a' w
  | .ret fs x a m => ∀ ρ w a', Ext ρ0 ρ → ActR ρ a a' → WR P w0 ρ m w → Post P g Q fs x.out a' w
theorem step_good {call : CallF} {lt : LoopT} (hm : P.follows .mixedOrders = true) (hcall : CallS P call) (hL : LoopsOk P lt) {cf : Nat} {Q : Exit → Act → World → Prop} {w0 : Base} {ρ0 : Nm} {s t : St} (h : step1 P call lt g cf s = some t) (ht : Good P g Q w0 ρ0 t) : Good P g Q w0 ρ0 s := by
  unfold step1 at h
  split at h
  · rename_i fs p a m
    intro c hc ρ w a' hx ha hw
    split at h
    · rename_i x y hat
      injection h with h; subst h
      rw [hc] at hat; injection hat with hat; subst hat
      refine wpIn_seq (wpIn_mono (ht x (codeAt_child hc false rfl) ρ w a' hx ha hw) fun e a w hq => ?_)
      cases e <;> first | exact hq | skip
      obtain ⟨y', h1, h2⟩ := hq
      rw [codeAt_child hc true (x := y) rfl] at h1; injection h1 with h1; subst h1
      exact h2
    · rename_i x hat
      injection h with h; subst h
      rw [hc] at hat; injection hat with hat; subst hat
      exact wpIn_scope (ht x (codeAt_child hc false rfl) ρ w a' hx ha hw)
    · rename_i id x hat
      injection h with h; subst h
      rw [hc] at hat; injection hat with hat; subst hat
      exact wpIn_block (ht x (codeAt_child hc false rfl) ρ w a' hx ha hw)
    · rename_i o y z hat
      rw [hc] at hat; injection hat with hat; subst hat
      split at h
      · rename_i b hb
        injection h with h; subst h
        have hbe := (evalM_spec ha hb).1.pure rfl
        exact wpIn_cond hbe (ht _ (codeAt_child hc (!b) (by cases b <;> rfl)) ρ w a' hx ha hw)
      · cases h
    · rename_i c' _ _ _ _ hat
      rw [hc] at hat; injection hat with hat; subst hat
      split at h
      · rename_i x a1 m1 he
        injection h with h; subst h
        exact evCode_run hm hcall hL (rd := none) (rr := none) hc he trivial ha hw fun ρ' a1' w' x' y' z' => ht ρ' w' a1' (hx.trans x') y' z'
      · cases h
    · cases h
  · rename_i p fs a m
    intro ρ w a' hx ha hw
    split at h
    · rename_i y hy
      injection h with h; subst h
      exact ⟨y, hy, ht y hy ρ w a' hx ha hw⟩
    · cases h
  · rename_i p fs x a m hne
    intro ρ w a' hx ha hw
    injection h with h; subst h
    have := ht ρ w a' hx ha hw
    cases x with
    | normal => exact absurd rfl hne
    | exit id => exact this
    | ret => exact this
  · rename_i id fs id' a m
    intro ρ w a' hx ha hw
    show Exit.inBlock id _ (.exit id') a' w
    split at h
    · rename_i e
      injection h with h; subst h
      simp only [Exit.inBlock, if_pos e]
      exact ht ρ w a' hx ha hw
    · rename_i e
      injection h with h; subst h
      simp only [Exit.inBlock, if_neg e]
      exact ht ρ w a' hx ha hw
  · rename_i id fs x a m hne
    intro ρ w a' hx ha hw
    injection h with h; subst h
    have := ht ρ w a' hx ha hw
    cases x with
    | normal => exact this
    | exit id' => exact absurd rfl (hne id')
    | ret => exact this
  · rename_i fs x a m
    intro ρ w a' hx ha hw
    injection h with h; subst h
    have := ht ρ w a' hx ha hw
    cases x <;> exact this
  · cases h
theorem iter_good {call : CallF} {lt : LoopT} (hm : P.follows .mixedOrders = true) (hcall : CallS P call) (hL : LoopsOk P lt) {cf : Nat} {Q : Exit → Act → World → Prop} {w0 : Base} {ρ0 : Nm} : ∀ {n : Nat} {s t : St}, iter P call lt g cf n s = some t → Good P g Q w0 ρ0 t → Good P g Q w0 ρ0 s
  | 0, s, t, h, ht => by simp only [iter, Option.some.injEq] at h; subst h; exact ht
  | n + 1, s, t, h, ht => by
    simp only [iter] at h
    split at h
    · rename_i u hu; exact step_good hm hcall hL hu (iter_good hm hcall hL h ht)
    · cases h
end
noncomputable def xRet : XM → Bool
  | .exit _ => false
  | _ => true
theorem calls_iter {P : Program} (hP : P = Env.prog) (hm : P.follows .mixedOrders = true) {K : Cons} (hK : ConsOk P K) {lt : LoopT} (hL : LoopsOk P lt) {cf n k : Nat} {g : FuncId} {args : Array Value} {v : Value} (hp : flatA args = true) (hv : flat v = true) {fn : Func} {c : Code} (hfn : P.funcs[g]? = some fn) (hc : fn.body = some c) (hle : args.size + (fn.ntmps - args.size) ≤ 1048576)
    {x : XM} {a1 : MA} {m1 m2 : Mini} (h : iter P (evCall P K lt cf k) lt g cf n (.run [] [] (startM fn args) Mini.empty) = some (.ret [] x a1 m1)) (hx : xRet x = true) (ht : takeMarks m1 a1.defers = some m2) (hr : resultsM P fn a1 m2 = some v) (w : World) (hb : Below Env.base.heap.size Env.base w) :
    Calls P g (realA Env.σ args) w fun e w' => e = .returned (realD Env.σ v) ∧ Below w.heap.size w w' := by
  have har := realA_rel (ρ := fun _ => none) args hp
  have hact := startM_act (fn := fn) har hle
  have hat : codeAt P g [] = some c := by simp only [codeAt, hfn]; exact hc
  refine (callsIn_wide (n := 0)).1 (callsIn_of_wp_marks (F := WF none) hfn hc trivial ?_)
  refine iter_good (w0 := ⟨w, fun _ => False, hb⟩) (ρ0 := fun _ => none) hm (evCall_spec hP hm hK hL cf k) hL h ?_ c hat _ w _ (Ext.refl _) hact (WR.empty P w hb)
  intro ρ w1 a' hx1 ha hw
  have : LeavesInM (WF none) 0 P fn a'.tmps (fun e w' => e = .returned (realD Env.σ v) ∧ Below w.heap.size w w') a'.defers .returning w1 := by
    refine takeMarks_spec ha.defs hw ht fun w2 hw2 => ?_
    obtain ⟨v', r1, r2⟩ := resultsM_spec ha hw2 hr
    exact ⟨v', r1, by rw [r2.det hv (real_rel (ρ := ρ) v hv)], hw2.below⟩
  cases x with
  | normal => exact this
  | ret => exact this
  | exit id => cases hx
/-- what is at a function's end true -/
noncomputable def endsTrue (P : Program) (fn : Func) : Option St → Bool
  | some (.ret [] x a m) => xRet x && (match takeMarks m a.defers with
    | some m2 => (match resultsM P fn a m2 with
      | some (.bool true) => true
      | _ => false)
    | none => false)
  | _ => false
theorem calls_true {P : Program} (hP : P = Env.prog) (hm : P.follows .mixedOrders = true) {K : Cons} (hK : ConsOk P K) {lt : LoopT} (hL : LoopsOk P lt) {cf n l k : Nat} {g : FuncId} {args : Array Value} (hp : flatA args = true) {fn : Func} {c : Code} (hfn : P.funcs[g]? = some fn) (hc : fn.body = some c) (hle : args.size + (fn.ntmps - args.size) ≤ 1048576)
    {s : St} (h : iter P (evCall P K lt cf k) lt g cf n (.run [] [] (startM fn args) Mini.empty) = some s) (he : endsTrue P fn (iter P (evCall P K lt cf k) lt g cf l s) = true) (w : World) (hb : Below Env.base.heap.size Env.base w) :
    Calls P g (realA Env.σ args) w fun e w' => e = .returned (.bool true) ∧ Below w.heap.size w w' := by
  unfold endsTrue at he
  split at he
  · rename_i x a m hi
    rw [Bool.and_eq_true] at he
    obtain ⟨hx, he⟩ := he
    split at he
    · rename_i m2 ht
      split at he
      · rename_i hr
        exact calls_iter hP hm hK hL hp (v := .bool true) rfl hfn hc hle (iter_trans h hi) hx ht hr w hb
      · cases he
    · cases he
  · cases he
end Go.Proofs.Ytaneipjpagbmpaa
