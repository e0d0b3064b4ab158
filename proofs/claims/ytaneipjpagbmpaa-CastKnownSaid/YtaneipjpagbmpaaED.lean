/-
  The small machine: a state handed on from one reading of the signs to another; loops.
-/
import Derived.Test.YtaneipjpagbmpaaEB
namespace Go.Proofs.Ytaneipjpagbmpaa
open Go.RowKit
set_option linter.unusedVariables false
set_option linter.unusedSimpArgs false
set_option linter.unusedSectionVars false

structure XT where
  tau : List (Value × Value)
  lam : List (Nat × Nat)
  kap : List (Nat × Nat)
  zer : List (Nat × Nat)
  pi : List (Nat × Nat)
structure XT.Ok (T : XT) (E1 E2 : Env) : Prop where
  base : E1.base = E2.base
  tau : ∀ a b, (a, b) ∈ T.tau → flat a = true ∧ flat b = true ∧ realD E1.σ a = realD E2.σ b
  lam : ∀ a b, (a, b) ∈ T.lam → E1.lenR a = E2.lenR b
  kap : ∀ a b, (a, b) ∈ T.kap → E1.rows a = E2.rows b
  zer : ∀ a b, (a, b) ∈ T.zer → E2.rows a = [] ∧ E2.lenR b = 0
noncomputable def isAnyV : Value → Bool
  | .float .f64 0 => true
  | _ => false
theorem isAnyV_spec {v : Value} (h : isAnyV v = true) : v = anyV := by
  unfold isAnyV at h; split at h
  · rfl
  · cases h
noncomputable def hasT (a b : Value) : List (Value × Value) → Bool
  | [] => false
  | (x, y) :: l => (eqV x a && eqV y b) || hasT a b l
theorem hasT_spec [Env] {a b : Value} : ∀ (l : List (Value × Value)), hasT a b l = true → (a, b) ∈ l
  | [], h => by cases h
  | (x, y) :: l, h => by
    rw [hasT, Bool.or_eq_true, Bool.and_eq_true] at h
    rcases h with ⟨h1, h2⟩ | h
    · rw [eqV_sound _ _ h1, eqV_sound _ _ h2]; exact List.mem_cons_self ..
    · exact List.mem_cons_of_mem _ (hasT_spec l h)
noncomputable def hasN (a b : Nat) : List (Nat × Nat) → Bool
  | [] => false
  | (x, y) :: l => (decide (x = a) && decide (y = b)) || hasN a b l
theorem hasN_spec {a b : Nat} : ∀ (l : List (Nat × Nat)), hasN a b l = true → (a, b) ∈ l
  | [], h => by cases h
  | (x, y) :: l, h => by
    rw [hasN, Bool.or_eq_true, Bool.and_eq_true, decide_eq_true_eq, decide_eq_true_eq] at h
    rcases h with ⟨h1, h2⟩ | h
    · rw [h1, h2]; exact List.mem_cons_self ..
    · exact List.mem_cons_of_mem _ (hasN_spec l h)
noncomputable def look (n : Nat) : List (Nat × Nat) → Option Nat
  | [] => none
  | (x, y) :: l => if x = n then some y else look n l
noncomputable def pf (p : List (Nat × Nat)) (n : Nat) : Nat := match look n p with
  | some k => k
  | none => n
noncomputable def zerL (L : Nat) : List (Nat × Nat) → Bool
  | [] => false
  | (_, y) :: l => decide (y = L) || zerL L l
theorem zerL_spec {L : Nat} : ∀ (l : List (Nat × Nat)), zerL L l = true → ∃ k, (k, L) ∈ l
  | [], h => by cases h
  | (x, y) :: l, h => by
    rw [zerL, Bool.or_eq_true, decide_eq_true_eq] at h
    rcases h with rfl | h
    · exact ⟨x, List.mem_cons_self ..⟩
    · obtain ⟨k, hk⟩ := zerL_spec l h; exact ⟨k, List.mem_cons_of_mem _ hk⟩
section
variable (T : XT) (pr : Nat → Bool)
noncomputable def nm (n1 n2 : Nat) : Bool := decide (pf T.pi n2 = n1) && pr n2
/-- values that have no values within -/
noncomputable def xv0 : Value → Value → Bool
  | .pointer (some ⟨n1, o1, none⟩), .pointer (some ⟨n2, o2, none⟩) => nm T pr n1 n2 && decide (o1 = o2)
  | .slice (some ⟨n1, o1, none⟩) l1 c1, .slice (some ⟨n2, o2, none⟩) l2 c2 => nm T pr n1 n2 && decide (o1 = o2) && decide (l1 = l2) && decide (c1 = c2)
  | .slice (some ⟨n1, L1, some 0⟩) 0 1, .slice (some ⟨n2, L2, some 0⟩) 0 1 => nm T pr n1 n2 && hasN L1 L2 T.lam
  | .slice none 0 0, .slice (some ⟨n2, L2, some 0⟩) 0 1 => zerL L2 T.zer
  | .map (some n1), .map (some n2) => nm T pr n1 n2
  | a, b => pureV a && eqV a b
/-- a loop's own function -/
noncomputable def xy : Fn → Array Value → Array Value → Fn → Array Value → Array Value → Bool
  | .yield n1, a, c, .yield n2, b, d => a.isEmpty && b.isEmpty && c.isEmpty && d.isEmpty && nm T pr n1 n2
  | _, _, _, _, _, _ => false
mutual
noncomputable def xs : Value → Value → Bool
  | .agg a, .agg b => xa a b
  | .tuple a, .tuple b => xa a b
  | .iface t a, .iface u b => decide (t = u) && (isAnyV b || hasT a b T.tau || xs a b)
  | .func f a c, .func g b d => (decide (f = g) && noLoop f && xa a b && xa c d) || xy T pr f a c g b d
  | a, b => xv0 T pr a b
noncomputable def xa : Array Value → Array Value → Bool
  | ⟨a⟩, ⟨b⟩ => xl a b
noncomputable def xl : List Value → List Value → Bool
  | [], [] => true
  | a :: l, b :: m => (isAnyV b || hasT a b T.tau || xs a b) && xl l m
  | _, _ => false
end
noncomputable def xv (a b : Value) : Bool := isAnyV b || hasT a b T.tau || xs T pr a b
theorem xl_get : ∀ (a b : List Value), xl T pr a b = true → a.length = b.length ∧ ∀ i (h : i < a.length) (h' : i < b.length), xv T pr a[i] b[i] = true
  | [], [], _ => ⟨rfl, fun i h => by simp at h⟩
  | a :: l, b :: m, h => by
    rw [xl, Bool.and_eq_true] at h
    obtain ⟨h1, h2⟩ := xl_get l m h.2
    refine ⟨by simp [h1], fun i hi hi' => ?_⟩
    cases i with
    | zero => exact h.1
    | succ i => exact h2 i (by simpa using hi) (by simpa using hi')
  | [], _ :: _, h => by simp [xl] at h
  | _ :: _, [], h => by simp [xl] at h
theorem xa_get {a b : Array Value} (h : xa T pr a b = true) : a.size = b.size ∧ ∀ i (h : i < a.size) (h' : i < b.size), xv T pr a[i] b[i] = true := by
  obtain ⟨a⟩ := a; obtain ⟨b⟩ := b
  rw [xa] at h
  exact xl_get T pr a b h
end
/-- how names are handed on -/
noncomputable def Hand (T : XT) (pr : Nat → Bool) (ρ ρ' : Nm) : Prop := ∀ n2 t, pr n2 = true → ρ (pf T.pi n2) = some t → ρ' n2 = some t
theorem nm_spec {T : XT} {pr : Nat → Bool} {ρ ρ' : Nm} (hh : Hand T pr ρ ρ') {n1 n2 : Nat} (h : nm T pr n1 n2 = true) {t : Nat × Nat × Nat} (hr : ρ n1 = some t) : ρ' n2 = some t := by
  rw [nm, Bool.and_eq_true, decide_eq_true_eq] at h
  exact hh n2 t h.2 (by rw [h.1]; exact hr)
section
variable {E1 E2 : Env} {T : XT} (hT : T.Ok E1 E2) {pr : Nat → Bool} {ρ ρ' : Nm} (hh : Hand T pr ρ ρ')
include hT hh
theorem tau_vr {v1 v2 v' : Value} (h : @VR E1 ρ v1 v') (hx : hasT v1 v2 T.tau = true) : @VR E2 ρ' v2 v' := by
  obtain ⟨h1, h2, h3⟩ := hT.tau _ _ (@hasT_spec E1 _ _ _ hx)
  have h4 := @VR.det E1 ρ ρ v1 v' _ h1 h (@real_rel E1 ρ v1 h1)
  rw [h4]
  rw [show realD (@Env.σ E1) v1 = realD E2.σ v2 from h3]
  exact @real_rel E2 ρ' v2 h2
theorem xv0_vr {v1 v2 v' : Value} (h : @VR E1 ρ v1 v') (hx : xv0 T pr v1 v2 = true) : @VR E2 ρ' v2 v' := by
  unfold xv0 at hx
  split at hx
  · rename_i n1 o1 n2 o2
    rw [Bool.and_eq_true, decide_eq_true_eq] at hx
    obtain ⟨b, d, e, _, h2, rfl⟩ := @VR.ptr_inv E1 _ _ _ h rfl
    rw [hx.2]
    exact @VR.ptr E2 ρ' _ _ _ _ _ (nm_spec hh hx.1 h2)
  · rename_i n1 o1 l1 c1 n2 o2 l2 c2
    simp only [Bool.and_eq_true, decide_eq_true_eq] at hx
    obtain ⟨⟨⟨hx1, rfl⟩, rfl⟩, rfl⟩ := hx
    obtain ⟨b, d, e, _, h2, rfl⟩ := @VR.slice_inv E1 _ _ _ _ _ h rfl
    exact @VR.slice E2 ρ' _ _ _ _ _ _ _ (nm_spec hh hx1 h2)
  · rename_i n1 L1 n2 L2
    rw [Bool.and_eq_true] at hx
    have hl := hT.lam _ _ (hasN_spec _ hx.2)
    rcases @VR.row_inv E1 _ _ _ _ h with ⟨b, d, e, h2, rfl⟩ | ⟨h2, rfl⟩
    · rw [show @Env.lenR E1 L1 = @Env.lenR E2 L2 from hl]
      exact @VR.row E2 ρ' _ _ _ _ _ (nm_spec hh hx.1 h2)
    · exact @VR.rnil E2 ρ' _ _ (hl.symm.trans h2)
  · rename_i n2 L2
    obtain ⟨k, hk⟩ := zerL_spec _ hx
    have := @VR.pure E1 _ _ _ h rfl
    subst this
    exact @VR.rnil E2 ρ' _ _ (hT.zer _ _ hk).2
  · rename_i n1 n2
    obtain ⟨b, h2, rfl⟩ := @VR.map_inv E1 _ _ _ h
    exact @VR.map E2 ρ' _ _ (nm_spec hh hx h2)
  · rename_i a b _ _ _ _ _
    rw [Bool.and_eq_true] at hx
    have := @VR.pure E1 _ _ _ h hx.1
    have e := @eqV_sound E1 _ _ hx.2
    subst this e
    exact @VR.same E2 ρ' _ hx.1
theorem arr_vr {xs ys zs : Array Value} (hs : xs.size = ys.size) (ih : ∀ i (h : i < xs.size) (h' : i < ys.size), ∀ v2, xv T pr xs[i] v2 = true → @VR E2 ρ' v2 ys[i]) (hx : xa T pr xs zs = true) : zs.size = ys.size ∧ ∀ i (h : i < zs.size) (h' : i < ys.size), @VR E2 ρ' zs[i] ys[i] := by
  obtain ⟨q1, q2⟩ := xa_get T pr hx
  exact ⟨q1 ▸ hs, fun i a b => ih i (by omega) b _ (q2 i (by omega) a)⟩
mutual
theorem same_vr : ∀ {v v2 : Value}, pureV v = true → xs T pr v v2 = true → @VR E2 ρ' v2 v
  | .agg a, v2, h, hx => by
    cases v2 with
    | agg b =>
      rw [xs] at hx
      rw [pureV] at h
      obtain ⟨a1, a2⟩ := sameA_vr h hx
      exact @VR.agg E2 ρ' _ _ a1 a2
    | _ => simp [xs, xv0, eqV] at hx
  | .tuple a, v2, h, hx => by
    cases v2 with
    | tuple b =>
      rw [xs] at hx
      rw [pureV] at h
      obtain ⟨a1, a2⟩ := sameA_vr h hx
      exact @VR.tuple E2 ρ' _ _ a1 a2
    | _ => simp [xs, xv0, eqV] at hx
  | .iface t a, v2, h, hx => by
    cases v2 with
    | iface u b =>
      rw [xs, Bool.and_eq_true, decide_eq_true_eq] at hx
      rw [pureV] at h
      rw [← hx.1]
      exact @VR.iface E2 ρ' _ _ _ (sameX_vr h hx.2)
    | _ => simp [xs, xv0, eqV] at hx
  | .func f a c, v2, h, hx => by
    rw [pureV, Bool.and_eq_true, Bool.and_eq_true] at h
    cases v2 with
    | func g b d =>
      rw [xs, Bool.or_eq_true] at hx
      rcases hx with hx | hx
      · simp only [Bool.and_eq_true, decide_eq_true_eq] at hx
        obtain ⟨⟨⟨rfl, _⟩, hx1⟩, hx2⟩ := hx
        obtain ⟨a1, a2⟩ := sameA_vr h.1.2 hx1
        obtain ⟨b1, b2⟩ := sameA_vr h.2 hx2
        exact @VR.func E2 ρ' _ h.1.1 _ _ _ _ a1 a2 b1 b2
      · cases f with
        | yield n => simp [noLoop] at h
        | _ => simp [xy] at hx
    | _ => simp [xs, xv0, eqV] at hx
  | .bool a, v2, h, hx => xv0_vr hT hh (@VR.same E1 ρ _ h) (by cases v2 <;> exact hx)
  | .int k a, v2, h, hx => xv0_vr hT hh (@VR.same E1 ρ _ h) (by cases v2 <;> exact hx)
  | .float k a, v2, h, hx => xv0_vr hT hh (@VR.same E1 ρ _ h) (by cases v2 <;> exact hx)
  | .complex k a b, v2, h, hx => xv0_vr hT hh (@VR.same E1 ρ _ h) (by cases v2 <;> exact hx)
  | .string a, v2, h, hx => xv0_vr hT hh (@VR.same E1 ρ _ h) (by cases v2 <;> exact hx)
  | .pointer a, v2, h, hx => xv0_vr hT hh (@VR.same E1 ρ _ h) (by cases v2 <;> exact hx)
  | .slice a l c, v2, h, hx => xv0_vr hT hh (@VR.same E1 ρ _ h) (by cases v2 <;> exact hx)
  | .map a, v2, h, hx => xv0_vr hT hh (@VR.same E1 ρ _ h) (by cases v2 <;> exact hx)
  | .chan a, v2, h, hx => xv0_vr hT hh (@VR.same E1 ρ _ h) (by cases v2 <;> exact hx)
  | .nilFunc, v2, h, hx => xv0_vr hT hh (@VR.same E1 ρ _ h) (by cases v2 <;> exact hx)
  | .nilIface, v2, h, hx => xv0_vr hT hh (@VR.same E1 ρ _ h) (by cases v2 <;> exact hx)
theorem sameX_vr : ∀ {v v2 : Value}, pureV v = true → (isAnyV v2 || hasT v v2 T.tau || xs T pr v v2) = true → @VR E2 ρ' v2 v
  | v, v2, h, hx => by
    simp only [Bool.or_eq_true] at hx
    rcases hx with (hx | hx) | hx
    · rw [isAnyV_spec hx]; exact @VR.any E2 ρ' _
    · exact tau_vr hT hh (@VR.same E1 ρ _ h) hx
    · exact same_vr h hx
theorem sameA_vr : ∀ {a b : Array Value}, pureA a = true → xa T pr a b = true → b.size = a.size ∧ ∀ i (h : i < b.size) (h' : i < a.size), @VR E2 ρ' b[i] a[i]
  | ⟨a⟩, ⟨b⟩, h, hx => by
    rw [pureA] at h
    rw [xa] at hx
    exact sameL_vr a b h hx
theorem sameL_vr : ∀ (a b : List Value), pureL a = true → xl T pr a b = true → b.length = a.length ∧ ∀ i (h : i < b.length) (h' : i < a.length), @VR E2 ρ' b[i] a[i]
  | [], [], _, _ => ⟨rfl, fun i h => by simp at h⟩
  | a :: l, b :: m, h, hx => by
    rw [xl, Bool.and_eq_true] at hx
    rw [pureL, Bool.and_eq_true] at h
    obtain ⟨h1, h2⟩ := sameL_vr l m h.2 hx.2
    refine ⟨by simp [h1], fun i hi hi' => ?_⟩
    cases i with
    | zero => exact sameX_vr h.1 hx.1
    | succ i => exact h2 i (by simpa using hi) (by simpa using hi')
  | [], _ :: _, _, hx => by simp [xl] at hx
  | _ :: _, [], _, hx => by simp [xl] at hx
end
theorem xv_vr {v1 v' : Value} (h : @VR E1 ρ v1 v') : ∀ v2, xv T pr v1 v2 = true → @VR E2 ρ' v2 v' := by
  have top : ∀ {v1 v' : Value}, @VR E1 ρ v1 v' → (∀ v2, xs T pr v1 v2 = true → @VR E2 ρ' v2 v') → ∀ v2, xv T pr v1 v2 = true → @VR E2 ρ' v2 v' := fun h k v2 hx => by
    simp only [xv, Bool.or_eq_true] at hx
    rcases hx with (hx | hx) | hx
    · rw [isAnyV_spec hx]; exact @VR.any E2 ρ' _
    · exact tau_vr hT hh h hx
    · exact k v2 hx
  have leaf : ∀ {v1 v' : Value}, @VR E1 ρ v1 v' → (∀ v2, xs T pr v1 v2 = xv0 T pr v1 v2) → ∀ v2, xv T pr v1 v2 = true → @VR E2 ρ' v2 v' := fun h k => top h fun v2 hx => xv0_vr hT hh h (by rw [← k]; exact hx)
  induction h with
  | sign k => exact leaf (@VR.sign E1 ρ k) fun b => by cases b <;> rfl
  | same v h =>
    -- a value without addresses: by its own form
    exact top (@VR.same E1 ρ v h) fun v2 hx => same_vr hT hh h hx
  | ptr n o b d e h => exact leaf (@VR.ptr E1 ρ n o b d e h) fun b => by cases b <;> rfl
  | slice n o b d e l c h => exact leaf (@VR.slice E1 ρ n o b d e l c h) fun b => by cases b <;> rfl
  | hollow n o q a c => exact leaf (@VR.hollow E1 ρ n o q a c) fun b => by cases b <;> rfl
  | any v' => exact leaf (@VR.any E1 ρ v') fun b => by cases b <;> rfl
  | row n L b d e h => exact leaf (@VR.row E1 ρ n L b d e h) fun b => by cases b <;> rfl
  | rnil n L h => exact leaf (@VR.rnil E1 ρ n L h) fun b => by cases b <;> rfl
  | elem n f q b d e i h hi => exact leaf (@VR.elem E1 ρ n f q b d e i h hi) fun b => by cases b <;> rfl
  | map n b h => exact leaf (@VR.map E1 ρ n b h) fun b => by cases b <;> rfl
  | yield n b h =>
    refine top (@VR.yield E1 ρ n b h) fun v2 hx => ?_
    cases v2 with
    | func g bb dd =>
      rw [xs, Bool.or_eq_true] at hx
      rcases hx with hx | hx
      · simp [noLoop] at hx
      · cases g with
        | yield n2 =>
          simp only [xy, Bool.and_eq_true, Array.isEmpty_iff] at hx
          obtain ⟨⟨⟨⟨_, rfl⟩, _⟩, rfl⟩, hx⟩ := hx
          exact @VR.yield E2 ρ' _ _ (nm_spec hh hx h)
        | _ => simp [xy] at hx
    | _ => simp [xs, xv0, pureV, eqV] at hx
  | func fn hn xs ys us vs h1 h2 h3 h4 ih2 ih4 =>
    refine top (@VR.func E1 ρ fn hn xs ys us vs h1 h2 h3 h4) fun v2 hx => ?_
    cases v2 with
    | func g bb dd =>
      rw [Ytaneipjpagbmpaa.xs, Bool.or_eq_true] at hx
      rcases hx with hx | hx
      · simp only [Bool.and_eq_true, decide_eq_true_eq] at hx
        obtain ⟨⟨⟨rfl, _⟩, hx1⟩, hx2⟩ := hx
        obtain ⟨a1, a2⟩ := arr_vr hT hh h1 ih2 hx1
        obtain ⟨b1, b2⟩ := arr_vr hT hh h3 ih4 hx2
        exact @VR.func E2 ρ' _ hn _ _ _ _ a1 a2 b1 b2
      · cases fn with
        | yield n => simp [noLoop] at hn
        | _ => simp [xy] at hx
    | _ => simp [Ytaneipjpagbmpaa.xs, xv0, pureV, eqV] at hx
  | iface t v v' h ih =>
    refine top (@VR.iface E1 ρ t v v' h) fun v2 hx => ?_
    cases v2 with
    | iface u b =>
      rw [xs, Bool.and_eq_true, decide_eq_true_eq] at hx
      rw [← hx.1]
      exact @VR.iface E2 ρ' _ _ _ (ih b (by rw [xv]; exact hx.2))
    | _ => simp [xs, xv0, pureV, eqV] at hx
  | agg ws ys h1 h2 ih =>
    refine top (@VR.agg E1 ρ ws ys h1 h2) fun v2 hx => ?_
    cases v2 with
    | agg b =>
      rw [xs] at hx
      obtain ⟨a1, a2⟩ := arr_vr hT hh h1 ih hx
      exact @VR.agg E2 ρ' _ _ a1 a2
    | _ => simp [xs, xv0, pureV, eqV] at hx
  | tuple ws ys h1 h2 ih =>
    refine top (@VR.tuple E1 ρ ws ys h1 h2) fun v2 hx => ?_
    cases v2 with
    | tuple b =>
      rw [xs] at hx
      obtain ⟨a1, a2⟩ := arr_vr hT hh h1 ih hx
      exact @VR.tuple E2 ρ' _ _ a1 a2
    | _ => simp [xs, xv0, pureV, eqV] at hx
end

/-! ### Memory that is handed on -/
section
variable (T : XT) (pr : Nat → Bool)
noncomputable def xr : Array Value → Array Value → Bool
  | ⟨[.chan (some k1), .chan (some L1)]⟩, ⟨[.chan (some k2), .chan (some L2)]⟩ => hasN k1 k2 T.kap && hasN L1 L2 T.lam
  | _, _ => false
noncomputable def xe : List MapEntry → List MapEntry → Bool
  | [], [] => true
  | a :: l, b :: m => pureV a.key && eqV a.key b.key && decide (a.born = b.born) && xv T pr a.val b.val && xe l m
  | _, _ => false
noncomputable def xo : Obj → Obj → Bool
  | .cells c t fr, .cells d u gr => decide (t = u) && ((decide (fr = (0, 0)) && decide (gr = (0, 0)) && xa T pr c d) || (decide (fr = (1, 1)) && decide (gr = (1, 1)) && xr T c d))
  | .map a c, .map b d => decide (c = d) && xe T pr a.toList b.toList
  | .deferred none, .deferred none => true
  | .deferred (some []), .deferred (some []) => true
  | .loop r, .loop q => decide (r.state = q.state) && eqJ r.pending q.pending && decide (r.fn = q.fn) && xa T pr r.tmps q.tmps && decide (r.params = q.params) && eqC r.assign q.assign && nm T pr r.defers q.defers
  | _, _ => false
noncomputable def xd : List Deferred → List Deferred → Bool
  | [], [] => true
  | ⟨.collected a, x⟩ :: l, ⟨.collected b, y⟩ :: m => nm T pr a b && x.isEmpty && y.isEmpty && xd l m
  | _, _ => false
end
noncomputable def rowObj : Obj → Bool
  | .cells _ _ fr => decide (fr = (1, 1))
  | _ => false
section
variable {E1 E2 : Env} {T : XT} (hT : T.Ok E1 E2) {pr : Nat → Bool} {ρ ρ' : Nm} (hh : Hand T pr ρ ρ') {P : Program}
include hT hh
theorem xa_ar {a b a' : Array Value} (h : @AR E1 ρ a a') (hx : xa T pr a b = true) : @AR E2 ρ' b a' := by
  obtain ⟨g1, g2⟩ := h
  obtain ⟨h1, h2⟩ := arr_vr hT hh g1 (fun i x y v2 hv => xv_vr hT hh (g2 i x y) v2 hv) hx
  exact ⟨h1, h2⟩
theorem xe_er : ∀ (l m : List MapEntry), xe T pr l m = true → l.length = m.length ∧ ∀ (i : Nat) (en : MapEntry), m[i]? = some en → ∃ e0, l[i]? = some e0 ∧ e0.key = en.key ∧ pureV en.key = true ∧ e0.born = en.born ∧ ∀ v', @VR E1 ρ e0.val v' → @VR E2 ρ' en.val v'
  | [], [], _ => ⟨rfl, fun i en h => by simp at h⟩
  | a :: l, b :: m, h => by
    simp only [xe, Bool.and_eq_true, decide_eq_true_eq] at h
    obtain ⟨⟨⟨⟨g1, g2⟩, g3⟩, g4⟩, g5⟩ := h
    obtain ⟨h1, h2⟩ := xe_er l m g5
    refine ⟨by simp [h1], fun i en hi => ?_⟩
    cases i with
    | zero =>
      simp at hi; subst hi
      have e := @eqV_sound E1 _ _ g2
      exact ⟨a, rfl, e, e ▸ g1, g3, fun v' hv => xv_vr hT hh hv _ g4⟩
    | succ i => exact h2 i en (by simpa using hi)
  | [], _ :: _, h => by simp [xe] at h
  | _ :: _, [], h => by simp [xe] at h
theorem xr_spec {c d : Array Value} (h : xr T c d = true) : ∃ k1 L1 k2 L2, c = ⟨[.chan (some k1), .chan (some L1)]⟩ ∧ d = ⟨[.chan (some k2), .chan (some L2)]⟩ ∧ E1.rows k1 = E2.rows k2 ∧ E1.lenR L1 = E2.lenR L2 := by
  unfold xr at h
  split at h
  · rename_i k1 L1 k2 L2
    rw [Bool.and_eq_true] at h
    exact ⟨k1, L1, k2, L2, rfl, rfl, hT.kap _ _ (hasN_spec _ h.1), hT.lam _ _ (hasN_spec _ h.2)⟩
  · cases h
theorem xo_or {o1 o2 : Obj} {d e : Nat} {x : Option Obj} (h : @OR E1 P ρ o1 d e x) (hx : xo T pr o1 o2 = true) : @OR E2 P ρ' o2 d e x := by
  unfold xo at hx
  split at hx
  · rename_i c t fr c2 u gr
    rw [Bool.and_eq_true, decide_eq_true_eq] at hx
    obtain ⟨rfl, hx⟩ := hx
    rw [Bool.or_eq_true] at hx
    simp only [Bool.and_eq_true, decide_eq_true_eq] at hx
    rcases hx with ⟨⟨rfl, rfl⟩, hx⟩ | ⟨⟨rfl, rfl⟩, hx⟩
    · rcases h with ⟨_, c', h1, h2, h3⟩ | ⟨_, _, h0, _⟩
      · obtain ⟨q1, q2⟩ := xa_get T pr hx
        refine .inl ⟨rfl, c', h1, by rw [← q1]; exact h2, fun i v hv => ?_⟩
        obtain ⟨hi, rfl⟩ := Array.getElem?_eq_some_iff.1 hv
        obtain ⟨v', a, b⟩ := h3 i c[i] (by simp)
        exact ⟨v', a, xv_vr hT hh b _ (q2 i (by omega) hi)⟩
      · simp at h0
    · rcases h with ⟨h0, _⟩ | ⟨k, L, _, h1, h2, c', h3, h4, h5⟩
      · simp at h0
      · obtain ⟨k1, L1, k2, L2, e1, e2, e3, e4⟩ := xr_spec hT hh hx
        rw [h1] at e1
        simp at e1
        obtain ⟨rfl, rfl⟩ := e1
        refine .inr ⟨k2, L2, rfl, e2, ?_, c', h3, ?_, ?_⟩
        · rw [show @Env.rows E2 k2 = E1.rows k from e3.symm, show @Env.lenR E2 L2 = E1.lenR L from e4.symm]; exact h2
        · rw [show @Env.rows E2 k2 = E1.rows k from e3.symm]; exact h4
        · rw [show @Env.rows E2 k2 = E1.rows k from e3.symm]; exact h5
  · rename_i a c b c2
    rw [Bool.and_eq_true, decide_eq_true_eq] at hx
    obtain ⟨rfl, hx⟩ := hx
    obtain ⟨h0, h1, es', h2, h3, h4⟩ := h
    obtain ⟨q1, q2⟩ := xe_er hT hh _ _ hx
    refine ⟨h0, h1, es', h2, by simpa using q1.symm.trans (by simpa using h3), fun i en hen => ?_⟩
    obtain ⟨e0, a1, a2, a3, a4, a5⟩ := q2 i en (by simpa using hen)
    obtain ⟨en', b1, b2, b3, b4, b5⟩ := h4 i e0 (by simpa using a1)
    exact ⟨en', b1, b2.trans a2, a3, b4.trans a4, a5 _ b5⟩
  · exact h
  · exact h
  · rename_i r q
    simp only [Bool.and_eq_true, decide_eq_true_eq] at hx
    obtain ⟨⟨⟨⟨⟨⟨g1, g2⟩, g3⟩, g4⟩, g5⟩, g6⟩, g7⟩ := hx
    obtain ⟨h0, h1, r', h2, f1, f2, f3, f4, f5, f6⟩ := h
    refine ⟨h0, h1, r', h2, f1.trans g1, f2.trans (@eqJ_sound E1 _ _ g2), f3.trans g5, xa_ar hT hh f4 g4, ?_, ?_⟩
    · have e6 := @eqC_sound E1 _ _ g6
      rw [← g3, ← e6]; exact f5
    · obtain ⟨b, e1, e2⟩ := f6
      exact ⟨b, nm_spec hh g7 e1, e2⟩
  · cases hx
theorem xd_dr {l m l' : List Deferred} (h : @DR E1 ρ l l') (hx : xd T pr l m = true) : @DR E2 ρ' m l' := by
  induction h generalizing m with
  | nil => cases m with
    | nil => exact @DR.nil E2 ρ'
    | cons d m => simp [xd] at hx
  | cons hb ht ih => cases m with
    | nil => simp [xd] at hx
    | cons d m =>
      obtain ⟨t, x⟩ := d
      cases t with
      | collected a =>
        simp only [xd, Bool.and_eq_true, Array.isEmpty_iff] at hx
        obtain ⟨⟨⟨g1, _⟩, rfl⟩, g4⟩ := hx
        exact @DR.cons E2 ρ' _ _ _ _ (nm_spec hh g1 hb) (ih g4)
      | _ => simp [xd] at hx
  | fn hb ht ih => cases m with
    | nil => simp [xd] at hx
    | cons d m => simp [xd] at hx
end

/-! ### All entries of a memory -/
noncomputable def allT (p : Nat → Option Obj → Bool) : Tr (Option Obj) → (Nat → Nat) → Bool
  | .leaf, _ => true
  | .node none l r, f => allT p l (fun n => f (2 * n + 1)) && allT p r (fun n => f (2 * n + 2))
  | .node (some o) l r, f => p (f 0) o && allT p l (fun n => f (2 * n + 1)) && allT p r (fun n => f (2 * n + 2))
theorem allT_spec {p : Nat → Option Obj → Bool} : ∀ (t : Tr (Option Obj)) (f : Nat → Nat), allT p t f = true → ∀ n o, t.get n = some o → p (f n) o = true
  | .leaf, f, _, n, o, hg => by simp [Tr.get] at hg
  | .node q l r, f, h, n, o, hg => by
    have hl : allT p l (fun n => f (2 * n + 1)) = true ∧ allT p r (fun n => f (2 * n + 2)) = true ∧ ∀ q', q = some q' → p (f 0) q' = true := by
      cases q with
      | none => rw [allT, Bool.and_eq_true] at h; exact ⟨h.1, h.2, fun _ e => by cases e⟩
      | some q => rw [allT, Bool.and_eq_true, Bool.and_eq_true] at h; exact ⟨h.1.2, h.2, fun _ e => by injection e with e; rw [← e]; exact h.1.1⟩
    rw [Tr.get] at hg
    split at hg
    · rename_i e; rw [e]; exact hl.2.2 o hg
    · split at hg
      · have := allT_spec l _ hl.1 _ _ hg
        rwa [show 2 * (n / 2) + 1 = n by omega] at this
      · have := allT_spec r _ hl.2.1 _ _ hg
        rwa [show 2 * (n / 2 - 1) + 2 = n by omega] at this
noncomputable def pres (m : Mini) (n : Nat) : Bool := (m.heap.get n).isSome
noncomputable def live (m : Mini) (n : Nat) : Bool := match m.heap.get n with
  | some (some _) => true
  | _ => false
noncomputable def xone (T : XT) (m1 m2 : Mini) (n : Nat) : Option Obj → Bool
  | none => true
  | some o2 => match m1.heap.get (pf T.pi n) with
    | some (some o1) => xo T (pres m2) o1 o2 && (decide (pf T.pi n = n) || rowObj o2)
    | some none => false
    | none => match o2 with
      | .cells ⟨[.chan (some k), .chan (some L)]⟩ _ fr => decide (fr = (1, 1)) && hasN k L T.zer
      | _ => false
noncomputable def nodupB : List Nat → Bool
  | [] => true
  | x :: l => !l.contains x && nodupB l
noncomputable def piB (T : XT) (m2 : Mini) : Bool := nodupB (T.pi.map (·.2)) && T.pi.all fun e => !live m2 e.2
noncomputable def keepB (T : XT) (mA m2 : Mini) : Bool := allT (fun n _ => (look n T.pi).isNone && pres m2 n) mA.heap id
noncomputable def xst (T : XT) (mA : Mini) (a1 : MA) (m1 : Mini) (a2 : MA) (m2 : Mini) : Bool :=
  decide (a1.n = a2.n) && ((List.range a2.n).all fun i => xv T (pres m2) (a1.get i) (a2.get i)) && xd T (pres m2) a1.defers a2.defers && allT (xone T m1 m2) m2.heap id && piB T m2 && keepB T mA m2
noncomputable def Base.to {E1 E2 : Env} (h : E1.base = E2.base) (w0 : @Base E1) : @Base E2 := @Base.mk E2 (@Base.w E1 w0) (@Base.gh E1 w0) (by have := @Base.ok E1 w0; rw [show @Env.base E1 = @Env.base E2 from h] at this; exact this)
theorem nodup_inj : ∀ {l : List (Nat × Nat)}, nodupB (l.map (·.2)) = true → ∀ {a b s : Nat}, look a l = some s → look b l = some s → (∀ x, look x l = some s → (x, s) ∈ l) → a = b
  | [], _, a, b, s, h, _, _ => by simp [look] at h
  | (x, y) :: l, hn, a, b, s, ha, hb, _ => by
    simp only [List.map_cons, nodupB, Bool.and_eq_true, Bool.not_eq_true'] at hn
    have mem : ∀ {l : List (Nat × Nat)} {c s : Nat}, look c l = some s → s ∈ l.map (·.2) := fun {l} => by
      induction l with
      | nil => intro c s h; simp [look] at h
      | cons e l ih =>
        intro c s h
        obtain ⟨u, v⟩ := e
        rw [look] at h
        split at h
        · injection h with h; simp [h]
        · rw [List.map_cons]; exact List.mem_cons_of_mem _ (ih h)
    rw [look] at ha hb
    split at ha
    · rename_i e1
      injection ha with ha
      split at hb
      · rename_i e2; rw [← e1, ← e2]
      · have := mem hb
        rw [← ha] at this
        have h1 := hn.1
        simp at h1 this
        exact absurd this (by rintro ⟨c, hc⟩; exact h1 c hc)
    · split at hb
      · injection hb with hb
        have := mem ha
        rw [← hb] at this
        have h1 := hn.1
        simp at h1 this
        exact absurd this (by rintro ⟨c, hc⟩; exact h1 c hc)
      · exact nodup_inj hn.2 ha hb (fun x hx => by
          have : ∀ {l : List (Nat × Nat)} {c s : Nat}, look c l = some s → (c, s) ∈ l := fun {l} => by
            induction l with
            | nil => intro c s h; simp [look] at h
            | cons e l ih =>
              intro c s h
              obtain ⟨u, v⟩ := e
              rw [look] at h
              split at h
              · rename_i e; injection h with h; rw [e, h]; exact List.mem_cons_self ..
              · exact List.mem_cons_of_mem _ (ih h)
          exact this hx)

theorem look_mem : ∀ {l : List (Nat × Nat)} {c s : Nat}, look c l = some s → (c, s) ∈ l
  | [], c, s, h => by simp [look] at h
  | (u, v) :: l, c, s, h => by
    rw [look] at h
    split at h
    · rename_i e; injection h with h; rw [e, h]; exact List.mem_cons_self ..
    · exact List.mem_cons_of_mem _ (look_mem h)
theorem row_of_xo {T : XT} {pr : Nat → Bool} {o1 o2 : Obj} (h : xo T pr o1 o2 = true) (hr : rowObj o2 = true) : ∃ k1 L1 k2 L2 t, o1 = .cells ⟨[.chan (some k1), .chan (some L1)]⟩ t (1, 1) ∧ o2 = .cells ⟨[.chan (some k2), .chan (some L2)]⟩ t (1, 1) ∧ hasN k1 k2 T.kap = true ∧ hasN L1 L2 T.lam = true := by
  cases o2 with
  | cells d u gr =>
    simp only [rowObj, decide_eq_true_eq] at hr
    subst hr
    cases o1 with
    | cells c t fr =>
      simp only [xo, Bool.and_eq_true, Bool.or_eq_true, decide_eq_true_eq] at h
      obtain ⟨rfl, h⟩ := h
      rcases h with ⟨⟨_, h⟩, _⟩ | ⟨⟨rfl, _⟩, h⟩
      · simp at h
      · unfold xr at h
        split at h
        · rename_i k1 L1 k2 L2
          rw [Bool.and_eq_true] at h
          exact ⟨k1, L1, k2, L2, t, rfl, rfl, h.1, h.2⟩
        · cases h
    | _ => simp [xo] at h
  | _ => simp [rowObj] at hr
theorem rowAt_row {m : Mini} {n k L : Nat} {t : TypeId} (h : m.heap.get n = some (some (.cells ⟨[.chan (some k), .chan (some L)]⟩ t (1, 1)))) : m.rowAt n = some (k, L, t) := by
  unfold Mini.rowAt; rw [h]; rfl
theorem hand_on {E1 E2 : Env} {T : XT} (hT : T.Ok E1 E2) {P : Program} {mA m1 m2 : Mini} {a1 a2 : MA} (hx : xst T mA a1 m1 a2 m2 = true) {w0 : @Base E1} {ρe ρ : Nm} {a' : Act} {w : World} (hE : Ext ρe ρ) (hdom : ∀ n t, ρe n = some t → mA.heap.get n ≠ none) (hgh : ∀ n, @Base.gh E1 w0 n → mA.heap.get n ≠ none)
    (ha : @ActR E1 ρ a1 a') (hw : @WR E1 P w0 ρ m1 w) : ∃ ρ', Ext ρe ρ' ∧ @ActR E2 ρ' a2 a' ∧ @WR E2 P (Base.to hT.base w0) ρ' m2 w := by
  simp only [xst, Bool.and_eq_true] at hx
  obtain ⟨⟨⟨⟨⟨x0, x1⟩, x2⟩, x3⟩, x4⟩, x5⟩ := hx
  have x0 := of_decide_eq_true x0
  let ρ' : Nm := fun n => if pres m2 n then ρ (pf T.pi n) else none
  have hρ : ∀ n, ρ' n = if pres m2 n then ρ (pf T.pi n) else none := fun _ => rfl
  have hh : Hand T (pres m2) ρ ρ' := fun n2 t hp hr => by rw [hρ, if_pos hp]; exact hr
  have keep : ∀ n, mA.heap.get n ≠ none → pf T.pi n = n ∧ pres m2 n = true := fun n hn => by
    cases hq : mA.heap.get n with
    | none => exact absurd hq hn
    | some q =>
      have := allT_spec _ _ x5 n q hq
      simp only [id, Bool.and_eq_true, Option.isNone_iff_eq_none] at this
      exact ⟨by unfold pf; rw [this.1], this.2⟩
  have one : ∀ n o2, m2.heap.get n = some (some o2) → xone T m1 m2 n (some o2) = true := fun n o2 hg => allT_spec _ _ x3 n _ hg
  obtain ⟨g0, gl, g1, g2⟩ := ha
  obtain ⟨wb, wo, wd, wi, wg⟩ := hw
  refine ⟨ρ', fun n t hr => ?_, ⟨g0.trans x0, x0 ▸ gl, fun i => ?_, xd_dr hT hh g2 x2⟩, wb, fun n o2 hg => ?_, fun n t hr => ?_, ?_, fun n hn => ?_⟩
  · obtain ⟨e1, e2⟩ := keep n (hdom n t hr)
    rw [hρ, if_pos e2, e1]; exact hE n t hr
  · by_cases hi : i < a2.n
    · exact xv_vr hT hh (g1 i) _ (List.all_eq_true.1 x1 i (List.mem_range.2 hi))
    · rw [MA.get_out (Nat.le_of_not_lt hi), show a'.tmps.getD i undef = undef by simp only [Array.getD]; rw [dif_neg (by omega)]]
      exact @VR.same E2 ρ' _ rfl
  · have hone := one n o2 hg
    have hp : pres m2 n = true := by unfold pres; rw [hg]; rfl
    unfold xone at hone
    dsimp only at hone
    split at hone
    · rename_i o1 h1
      rw [Bool.and_eq_true, Bool.or_eq_true, decide_eq_true_eq] at hone
      rcases wo _ o1 h1 with (hg' | ⟨hn, hnil⟩) | ⟨b, d, e, hr, hB, hor⟩
      · rcases hone.2 with hid | hrow
        · exact .inl (.inl (by rw [hid] at hg'; exact hg'))
        · obtain ⟨k1, L1, k2, L2, t, rfl, _⟩ := row_of_xo hone.1 hrow
          have := (wg _ hg').2.2
          rw [rowAt_row h1] at this; cases this
      · refine .inl (.inr ⟨by rw [hρ, if_pos hp]; exact hn, ?_⟩)
        cases o1 with
        | cells c t fr =>
          obtain ⟨rfl, k1, L1, rfl, e1, e2⟩ := hnil
          have hrow : rowObj o2 = true := by
            cases o2 with
            | cells d u gr =>
              simp only [xo, Bool.and_eq_true, Bool.or_eq_true, decide_eq_true_eq] at hone
              rcases hone.1.2 with ⟨⟨h, _⟩, _⟩ | ⟨⟨_, h⟩, _⟩
              · simp at h
              · simp [rowObj, h]
            | _ => simp [xo] at hone
          obtain ⟨k3, L3, k2, L2, t2, h1', rfl, hk, hl⟩ := row_of_xo hone.1 hrow
          simp at h1'
          obtain ⟨⟨rfl, rfl⟩, _⟩ := h1'
          exact ⟨rfl, k2, L2, rfl, (hT.kap _ _ (hasN_spec _ hk)).symm.trans e1, (hT.lam _ _ (hasN_spec _ hl)).symm.trans e2⟩
        | _ => exact hnil.elim
      · exact .inr ⟨b, d, e, by rw [hρ, if_pos hp]; exact hr, hB, xo_or hT hh hor hone.1⟩
    · cases hone
    · rename_i h1
      split at hone
      · rename_i k L t fr
        rw [Bool.and_eq_true, decide_eq_true_eq] at hone
        obtain ⟨e1, e2⟩ := hT.zer _ _ (hasN_spec _ hone.2)
        refine .inl (.inr ⟨?_, hone.1, k, L, rfl, e1, e2⟩)
        rw [hρ, if_pos hp]
        cases hr : ρ (pf T.pi n) with
        | none => rfl
        | some t => exact absurd h1 (wd _ _ hr)
      · cases hone
  · intro hq
    rw [hρ] at hr
    rw [if_neg (by unfold pres; rw [hq]; simp)] at hr
    cases hr
  · intro n k o q b d e d' e' hn hk hrn hrk
    have hpn : pres m2 n = true := by unfold pres; rw [hn]; rfl
    have hpk : pres m2 k = true := by unfold pres; rw [hk]; rfl
    rw [hρ, if_pos hpn] at hrn
    rw [hρ, if_pos hpk] at hrk
    have src : ∀ n o t, m2.heap.get n = some (some o) → ρ (pf T.pi n) = some t → ∃ o1, m1.heap.get (pf T.pi n) = some (some o1) := fun n o t hg hr => by
      have hone := one n o hg
      unfold xone at hone
      dsimp only at hone
      split at hone
      · rename_i o1 h1; exact ⟨o1, h1⟩
      · cases hone
      · rename_i h1; exact absurd h1 (wd _ _ hr)
    obtain ⟨o1, h1⟩ := src n o _ hn hrn
    obtain ⟨q1, h2⟩ := src k q _ hk hrk
    have he := wi _ _ _ _ _ _ _ _ _ h1 h2 hrn hrk
    rw [piB, Bool.and_eq_true] at x4
    have dead : ∀ c s, look c T.pi = some s → ∀ u, m2.heap.get s ≠ some (some u) := fun c s hl u hu => by
      have := List.all_eq_true.1 x4.2 _ (look_mem hl)
      unfold live at this
      simp only [hu] at this
      simp at this
    unfold pf at he
    cases hln : look n T.pi with
    | none =>
      cases hlk : look k T.pi with
      | none => simpa [hln, hlk] using he
      | some s =>
        simp only [hln, hlk] at he
        exact absurd (he ▸ hn) (dead k s hlk o)
    | some r =>
      cases hlk : look k T.pi with
      | none =>
        simp only [hln, hlk] at he
        exact absurd (he ▸ hk) (dead n r hln q)
      | some s =>
        simp only [hln, hlk] at he
        subst he
        exact nodup_inj x4.1 hln hlk (fun x hx => look_mem hx)
  · obtain ⟨e1, e2⟩ := keep n (hgh n hn)
    obtain ⟨f1, f2, f3⟩ := wg n hn
    refine ⟨by rw [hρ, if_pos e2, e1]; exact f1, ?_, ?_⟩
    · intro hq; unfold pres at e2; rw [hq] at e2; simp at e2
    · cases hrow : m2.rowAt n with
      | none => rfl
      | some r =>
        obtain ⟨k, L, t⟩ := r
        have hg := rowAt_spec hrow
        have hone := one n _ hg
        unfold xone at hone
        dsimp only at hone
        rw [e1] at hone
        split at hone
        · rename_i o1 h1
          rw [Bool.and_eq_true] at hone
          obtain ⟨k1, L1, k2, L2, t, rfl, _⟩ := row_of_xo hone.1 rfl
          rw [rowAt_row h1] at f3; cases f3
        · cases hone
        · rename_i h1; exact absurd h1 f2
end Go.Proofs.Ytaneipjpagbmpaa
