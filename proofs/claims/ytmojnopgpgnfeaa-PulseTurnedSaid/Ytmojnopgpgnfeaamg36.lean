/-
  Three slices of samples that grow side by side.
-/
import Derived.Test.Ytmojnopgpgnfeaamg35
import Derived.Test.Ytmojnopgpgnfeaamg8
import Derived.Test.Ytmojnopgpgnfeaamg33
import Derived.Test.Ytmojnopgpgnfeaamg34
import Derived.Test.Ytmojnopgpgnfeaamg14
namespace Go.Proofs.Ytmojnopgpgnfeaa
open Go.RowKit
set_option linter.unusedVariables false
set_option linter.unusedSimpArgs false

theorem pairS_grown {e : TypeId} {s : Nat} {W w1 : World} {n0 k m j : Nat} {v u v' : Value} {xs us ys : List Value} {tmp : Obj} (hrow : W.ownsRow n0 e s v k xs) (hoth : W.ownsRow n0 e s u j us) (hd : Apart u v) (hn : n0 ≤ W.heap.size) (hgrow : (W.alloc tmp).grownBy w1 v.ownBlock) (hown : w1.ownsRow n0 e s v' m ys) (hat : v'.ownBlock = v.ownBlock ∨ v'.ownBlock = some (W.alloc tmp).heap.size) :
    w1.ownsRow n0 e s u j us ∧ Apart u v' ∧ KeepsOthers W w1 ∧ Below n0 W w1 := by
  refine ⟨(hoth.alloc tmp).kept hgrow ?_, ?_, (KeepsOthers.alloc W tmp).trans (KeepsOthers.of_grownBy hgrow fun j o ej hj => ?_), ((Below.refl n0 W).alloc hn tmp).grown hgrow (by simp; omega) fun j ej => (hrow.lt j ej).1⟩
  · cases hu : u.ownBlock with
    | none => exact .inl rfl
    | some q => exact .inr fun e => hd q hu e.symm
  · intro q hq e
    rcases hat with h | h
    · exact hd q hq (h ▸ e)
    · rw [h] at e
      have h1 : (W.alloc tmp).heap.size = q := by injection e
      have h2 := (hoth.lt q hq).2
      rw [World.size_alloc] at h1
      omega
  · rcases (hrow.alloc tmp).2 with ⟨rfl, _⟩ | ⟨g, cap, cur, rfl, _, hgb, _⟩
    · simp [Value.ownBlock] at ej
    · obtain rfl : g = j := by simpa [Value.ownBlock] using ej
      rw [hgb] at hj; cases hj; rfl

/-- three slices of samples, behind a world: how many each holds, and of which samples -/
structure TrS (V W : World) (v u r : Value) (i j m : Nat) (ys zs us : Nat → Smp) : Prop where
  r0 : W.ownsRow V.heap.size 84 4 v i (flatS ys i)
  r1 : W.ownsRow V.heap.size 84 4 u j (flatS zs j)
  r2 : W.ownsRow V.heap.size 84 4 r m (flatS us m)
  d0 : Apart u v
  d1 : Apart r v
  d2 : Apart r u
  b : Below V.heap.size V W
theorem TrS.new (V : World) (ys zs us : Nat → Smp) : TrS V V (.slice none 0 0) (.slice none 0 0) (.slice none 0 0) 0 0 0 ys zs us :=
  ⟨World.ownsRow_nil _ _ _ _, World.ownsRow_nil _ _ _ _, World.ownsRow_nil _ _ _ _, fun k h => by simp [Value.ownBlock] at h, fun k h => by simp [Value.ownBlock] at h, fun k h => by simp [Value.ownBlock] at h, Below.refl _ _⟩
theorem TrS.keep {V W W' : World} {v u r : Value} {i j m : Nat} {ys zs us : Nat → Smp} (h : TrS V W v u r i j m ys zs us) (hb : Below W.heap.size W W') : TrS V W' v u r i j m ys zs us :=
  ⟨row_below h.r0 hb, row_below h.r1 hb, row_below h.r2 hb, h.d0, h.d1, h.d2, h.b.trans (hb.mono h.b.size)⟩
theorem TrS.g0 {V W w1 : World} {v u r v' : Value} {i j m : Nat} {ys zs us : Nat → Smp} {tmp : Obj} (h : TrS V W v u r i j m ys zs us) (hgrow : (W.alloc tmp).grownBy w1 v.ownBlock) (hown : w1.ownsRow V.heap.size 84 4 v' (i + 1) (flatS ys i ++ [.int .i64 (ys i).h, .int .i64 (ys i).p, .int .i64 (ys i).v, .int .i64 (ys i).q])) (hat : v'.ownBlock = v.ownBlock ∨ v'.ownBlock = some (W.alloc tmp).heap.size) :
    TrS V w1 v' u r (i + 1) j m ys zs us := by
  obtain ⟨k1, k2, _, k4⟩ := pairS_grown h.r0 h.r1 (h.d0) h.b.size hgrow hown hat
  obtain ⟨m1, m2, _, _⟩ := pairS_grown h.r0 h.r2 (h.d1) h.b.size hgrow hown hat
  exact ⟨hown, k1, m1, k2, m2, h.d2, h.b.trans k4⟩
theorem TrS.g1 {V W w1 : World} {v u r v' : Value} {i j m : Nat} {ys zs us : Nat → Smp} {tmp : Obj} (h : TrS V W v u r i j m ys zs us) (hgrow : (W.alloc tmp).grownBy w1 u.ownBlock) (hown : w1.ownsRow V.heap.size 84 4 v' (j + 1) (flatS zs j ++ [.int .i64 (zs j).h, .int .i64 (zs j).p, .int .i64 (zs j).v, .int .i64 (zs j).q])) (hat : v'.ownBlock = u.ownBlock ∨ v'.ownBlock = some (W.alloc tmp).heap.size) :
    TrS V w1 v v' r i (j + 1) m ys zs us := by
  obtain ⟨k1, k2, _, k4⟩ := pairS_grown h.r1 h.r0 (h.d0.symm) h.b.size hgrow hown hat
  obtain ⟨m1, m2, _, _⟩ := pairS_grown h.r1 h.r2 (h.d2) h.b.size hgrow hown hat
  exact ⟨k1, hown, m1, k2.symm, h.d1, m2, h.b.trans k4⟩
theorem TrS.g2 {V W w1 : World} {v u r v' : Value} {i j m : Nat} {ys zs us : Nat → Smp} {tmp : Obj} (h : TrS V W v u r i j m ys zs us) (hgrow : (W.alloc tmp).grownBy w1 r.ownBlock) (hown : w1.ownsRow V.heap.size 84 4 v' (m + 1) (flatS us m ++ [.int .i64 (us m).h, .int .i64 (us m).p, .int .i64 (us m).v, .int .i64 (us m).q])) (hat : v'.ownBlock = r.ownBlock ∨ v'.ownBlock = some (W.alloc tmp).heap.size) :
    TrS V w1 v u v' i j (m + 1) ys zs us := by
  obtain ⟨k1, k2, _, k4⟩ := pairS_grown h.r2 h.r0 (h.d1.symm) h.b.size hgrow hown hat
  obtain ⟨m1, m2, _, _⟩ := pairS_grown h.r2 h.r1 (h.d2.symm) h.b.size hgrow hown hat
  exact ⟨k1, m1, hown, h.d0, k2.symm, m2.symm, h.b.trans k4⟩
/-- phases to which m is added -/
def addP (m : Int) (zs : Nat → Smp) : Nat → Smp := fun i => { zs i with p := ((zs i).p + m) % 65536, q := ((zs i).q + m) % 65536 }
/-- phases that run by d -/
def runP (d : Int) (zs : Nat → Smp) : Nat → Smp := fun i => { zs i with p := ((zs i).p + i * d) % 65536, q := ((zs i).q + i * d) % 65536 }
/-- opposite phases -/
def oppP (zs : Nat → Smp) : Nat → Smp := fun i => { zs i with p := (-(zs i).p) % 65536, q := (-(zs i).q) % 65536 }

end Go.Proofs.Ytmojnopgpgnfeaa

namespace Go.Proofs.Ytmojnopgpgnfeaa
open Go.RowKit
set_option linter.unusedVariables false
set_option linter.unusedSimpArgs false

/-- three slices of samples, and the box of the sample that is taken up -/
structure TrX (V W : World) (v u r : Value) (i j m : Nat) (ys zs us : Nat → Smp) (q : Nat) (a b c d : Int) : Prop where
  s : TrS V W v u r i j m ys zs us
  c0 : W.cell? ⟨q, 0, none⟩ = some (.int .i64 a)
  c1 : W.cell? ⟨q, 1, none⟩ = some (.int .i64 b)
  c2 : W.cell? ⟨q, 2, none⟩ = some (.int .i64 c)
  c3 : W.cell? ⟨q, 3, none⟩ = some (.int .i64 d)
  z : q < W.heap.size
  n0 : some q ≠ v.ownBlock
  n1 : some q ≠ u.ownBlock
  n2 : some q ≠ r.ownBlock
theorem TrX.keep {V W : World} {v u r : Value} {i j m : Nat} {ys zs us : Nat → Smp} {q : Nat} {a b c d : Int} {W' : World} (h : TrX V W v u r i j m ys zs us q a b c d) (hb : Below W.heap.size W W') : TrX V W' v u r i j m ys zs us q a b c d :=
  ⟨h.s.keep hb, keepW hb h.c0, keepW hb h.c1, keepW hb h.c2, keepW hb h.c3, Nat.lt_of_lt_of_le h.z hb.size, h.n0, h.n1, h.n2⟩
theorem TrX.new {V W : World} {v u r : Value} {i j m : Nat} {ys zs us : Nat → Smp} (a b c d : Int) (h : TrS V W v u r i j m ys zs us) : TrX V (W.alloc (.cells #[.int .i64 a, .int .i64 b, .int .i64 c, .int .i64 d] 84)) v u r i j m ys zs us W.heap.size a b c d := by
  have nn : ∀ {x : Value} {k : Nat} {f : List Value}, W.ownsRow V.heap.size 84 4 x k f → some W.heap.size ≠ x.ownBlock := fun hr e => by
    have := (hr.lt _ e.symm).2
    omega
  exact ⟨h.keep (below_alloc _ _), alloc_new rfl rfl, alloc_new rfl rfl, alloc_new rfl rfl, alloc_new rfl rfl, by rw [World.size_alloc]; omega, nn h.r0, nn h.r1, nn h.r2⟩
theorem TrX.g0 {V W : World} {v u r : Value} {i j m : Nat} {ys zs us : Nat → Smp} {q : Nat} {a b c d : Int} {w1 : World} {v' : Value} {tmp : Obj} (h : TrX V W v u r i j m ys zs us q a b c d) (hgrow : (W.alloc tmp).grownBy w1 v.ownBlock) (hown : w1.ownsRow V.heap.size 84 4 v' (i + 1) (flatS ys i ++ [.int .i64 (ys i).h, .int .i64 (ys i).p, .int .i64 (ys i).v, .int .i64 (ys i).q])) (hat : v'.ownBlock = v.ownBlock ∨ v'.ownBlock = some (W.alloc tmp).heap.size) :
    TrX V w1 v' u r (i + 1) j m ys zs us q a b c d := by
  have hz := h.z
  have hq' : some q ≠ v'.ownBlock := by
    rcases hat with e | e
    · rw [e]; exact h.n0
    · rw [e, World.size_alloc]; intro e2; injection e2; omega
  have key : ∀ t x, W.cell? ⟨q, t, none⟩ = some x → w1.cell? ⟨q, t, none⟩ = some x := fun t x hx => hgrow.cell (keepW (below_alloc W tmp) hx) h.n0
  exact ⟨h.s.g0 hgrow hown hat, key _ _ h.c0, key _ _ h.c1, key _ _ h.c2, key _ _ h.c3, Nat.lt_of_lt_of_le hz (by have := hgrow.size; rw [World.size_alloc] at this; omega), hq', h.n1, h.n2⟩
theorem TrX.g1 {V W : World} {v u r : Value} {i j m : Nat} {ys zs us : Nat → Smp} {q : Nat} {a b c d : Int} {w1 : World} {v' : Value} {tmp : Obj} (h : TrX V W v u r i j m ys zs us q a b c d) (hgrow : (W.alloc tmp).grownBy w1 u.ownBlock) (hown : w1.ownsRow V.heap.size 84 4 v' (j + 1) (flatS zs j ++ [.int .i64 (zs j).h, .int .i64 (zs j).p, .int .i64 (zs j).v, .int .i64 (zs j).q])) (hat : v'.ownBlock = u.ownBlock ∨ v'.ownBlock = some (W.alloc tmp).heap.size) :
    TrX V w1 v v' r i (j + 1) m ys zs us q a b c d := by
  have hz := h.z
  have hq' : some q ≠ v'.ownBlock := by
    rcases hat with e | e
    · rw [e]; exact h.n1
    · rw [e, World.size_alloc]; intro e2; injection e2; omega
  have key : ∀ t x, W.cell? ⟨q, t, none⟩ = some x → w1.cell? ⟨q, t, none⟩ = some x := fun t x hx => hgrow.cell (keepW (below_alloc W tmp) hx) h.n1
  exact ⟨h.s.g1 hgrow hown hat, key _ _ h.c0, key _ _ h.c1, key _ _ h.c2, key _ _ h.c3, Nat.lt_of_lt_of_le hz (by have := hgrow.size; rw [World.size_alloc] at this; omega), h.n0, hq', h.n2⟩
theorem TrX.g2 {V W : World} {v u r : Value} {i j m : Nat} {ys zs us : Nat → Smp} {q : Nat} {a b c d : Int} {w1 : World} {v' : Value} {tmp : Obj} (h : TrX V W v u r i j m ys zs us q a b c d) (hgrow : (W.alloc tmp).grownBy w1 r.ownBlock) (hown : w1.ownsRow V.heap.size 84 4 v' (m + 1) (flatS us m ++ [.int .i64 (us m).h, .int .i64 (us m).p, .int .i64 (us m).v, .int .i64 (us m).q])) (hat : v'.ownBlock = r.ownBlock ∨ v'.ownBlock = some (W.alloc tmp).heap.size) :
    TrX V w1 v u v' i j (m + 1) ys zs us q a b c d := by
  have hz := h.z
  have hq' : some q ≠ v'.ownBlock := by
    rcases hat with e | e
    · rw [e]; exact h.n2
    · rw [e, World.size_alloc]; intro e2; injection e2; omega
  have key : ∀ t x, W.cell? ⟨q, t, none⟩ = some x → w1.cell? ⟨q, t, none⟩ = some x := fun t x hx => hgrow.cell (keepW (below_alloc W tmp) hx) h.n2
  exact ⟨h.s.g2 hgrow hown hat, key _ _ h.c0, key _ _ h.c1, key _ _ h.c2, key _ _ h.c3, Nat.lt_of_lt_of_le hz (by have := hgrow.size; rw [World.size_alloc] at this; omega), h.n0, h.n1, hq'⟩

end Go.Proofs.Ytmojnopgpgnfeaa

namespace Go.Proofs.Ytmojnopgpgnfeaa
set_option linter.unusedVariables false

theorem valsB_append (xs ys : List (Bool × Int)) (t : Bool) : valsB (xs ++ ys) t = valsB xs t ++ valsB ys t := by simp [valsB]
/-- steps of which each is turned by the same function -/
theorem stpTo_map {zs zs' : Nat → Smp} {kd c : Int} {g : Int → Int} : ∀ m, (∀ i, i < m → ((zs' (i + 1)).p - (zs' i).p) % 65536 = g (((zs (i + 1)).p - (zs i).p) % 65536)) → ∀ t, valsB (stpTo zs' kd c m) t = (valsB (stpTo zs kd c m) t).map g
  | 0, _, t => rfl
  | m + 1, h, t => by
    have ih := stpTo_map (kd := kd) (c := c) m (fun i hi => h i (by omega)) t
    rw [stpTo, stpTo, valsB_append, valsB_append, ih, List.map_append]
    congr 1
    unfold stp
    rw [h m (by omega)]
    split
    · rfl
    · unfold valsB
      cases (tbB kd c m) <;> cases t <;> rfl
theorem trnTo_map {zs zs' : Nat → Smp} {g : Int → Int} : ∀ m, (∀ i, i < m → ((zs' i).q - (zs' i).p) % 65536 = g (((zs i).q - (zs i).p) % 65536)) → trnTo zs' m = (trnTo zs m).map g
  | 0, _ => rfl
  | m + 1, h => by
    rw [trnTo, trnTo, trnTo_map m (fun i hi => h i (by omega)), h m (by omega), List.map_append]
    rfl
theorem sumF_same {f g : Nat → Int} : ∀ k, (∀ i, i < k → f i = g i) → sumF f k = sumF g k
  | 0, _ => rfl
  | k + 1, h => by rw [sumF, sumF, sumF_same k (fun i hi => h i (by omega)), h k (by omega)]
/-- what is heard of samples with the same levels: only the lists of phases differ -/
theorem hearOf_lists {l kd c lv ph n0 n1 : Int} {n : Nat} {zs zs' : Nat → Smp} (h : ∀ i, i < n → (zs' i).h = (zs i).h ∧ (zs' i).v = (zs i).v) :
    hearOf l kd c lv ph n0 n1 n zs' = hearE (mx (sumF (sqH zs (-lv)) n / c - n1)) (mx (sumF (sqV zs (-lv)) n / c - n1)) (mx (-(-sumF (sqH zs lv) n / c) - n0)) (mx (-(-sumF (sqV zs lv) n / c) - n0)) (sumF (sqH zs (-lv)) n) (sumF (sqV zs (-lv)) n) (sumF (prd zs (-lv)) n) (sumF (sqH zs lv) n) (sumF (sqV zs lv) n) (sumF (prd zs lv) n) kd ph c (valsB (stpTo zs' kd c (n - 1)) false) (valsB (stpTo zs' kd c (n - 1)) true) (trnTo zs' n) := by
  have a : ∀ e, sumF (sqH zs' e) n = sumF (sqH zs e) n := fun e => sumF_same n fun i hi => by unfold sqH; rw [(h i hi).1]
  have b : ∀ e, sumF (sqV zs' e) n = sumF (sqV zs e) n := fun e => sumF_same n fun i hi => by unfold sqV; rw [(h i hi).2]
  have d : ∀ e, sumF (prd zs' e) n = sumF (prd zs e) n := fun e => sumF_same n fun i hi => by unfold prd; rw [(h i hi).1, (h i hi).2]
  unfold hearOf
  rw [a, a, b, b, d, d]
/-- the same number added to all phases changes nothing -/
theorem hearOf_more {l kd c lv ph n0 n1 m : Int} {n : Nat} {zs zs' : Nat → Smp} (h : ∀ i, i < n → (zs' i).h = (zs i).h ∧ (zs' i).v = (zs i).v ∧ (zs' i).p = ((zs i).p + m) % 65536 ∧ (zs' i).q = ((zs i).q + m) % 65536) :
    hearOf l kd c lv ph n0 n1 n zs' = hearOf l kd c lv ph n0 n1 n zs := by
  rw [hearOf_lists (zs := zs) fun i hi => ⟨(h i hi).1, (h i hi).2.1⟩]
  have e1 : ∀ t, valsB (stpTo zs' kd c (n - 1)) t = valsB (stpTo zs kd c (n - 1)) t := fun t => by
    rw [stpTo_map (g := id) (zs := zs) (n - 1) (fun i hi => by
      rw [(h i (by omega)).2.2.1, (h (i + 1) (by omega)).2.2.1]
      simp only [id]
      omega) t, List.map_id]
  have e2 : trnTo zs' n = trnTo zs n := by
    rw [trnTo_map (g := id) (zs := zs) n (fun i hi => by
      rw [(h i hi).2.2.1, (h i hi).2.2.2]
      simp only [id]
      omega), List.map_id]
  rw [e1, e1, e2]
  rfl
/-- numbers moved by the same one -/
def movL (d : Int) (xs : List Int) : List Int := xs.map fun x => (x + d) % 65536
/-- opposite numbers -/
def oppL (xs : List Int) : List Int := xs.map fun x => (-x) % 65536
theorem steps_run {kd c d : Int} {n : Nat} {zs zs' : Nat → Smp} (h : ∀ i : Nat, i < n → (zs' i).p = ((zs i).p + i * d) % 65536) (t : Bool) : valsB (stpTo zs' kd c (n - 1)) t = movL d (valsB (stpTo zs kd c (n - 1)) t) :=
  stpTo_map (n - 1) (fun i hi => by
    rw [h i (by omega), h (i + 1) (by omega)]
    have e : ((i + 1 : Nat) : Int) * d = (i : Int) * d + d := by rw [Int.natCast_add, Int.add_mul]; simp
    rw [e]
    omega) t
theorem turns_run {d : Int} {n : Nat} {zs zs' : Nat → Smp} (h : ∀ i : Nat, i < n → (zs' i).p = ((zs i).p + i * d) % 65536 ∧ (zs' i).q = ((zs i).q + i * d) % 65536) : trnTo zs' n = trnTo zs n := by
  rw [trnTo_map (g := id) (zs := zs) n (fun i hi => by
    rw [(h i hi).1, (h i hi).2]
    simp only [id]
    omega), List.map_id]
theorem steps_opp {kd c : Int} {n : Nat} {zs zs' : Nat → Smp} (h : ∀ i : Nat, i < n → (zs' i).p = (-(zs i).p) % 65536) (t : Bool) : valsB (stpTo zs' kd c (n - 1)) t = oppL (valsB (stpTo zs kd c (n - 1)) t) :=
  stpTo_map (n - 1) (fun i hi => by
    rw [h i (by omega), h (i + 1) (by omega)]
    omega) t
theorem turns_opp {n : Nat} {zs zs' : Nat → Smp} (h : ∀ i : Nat, i < n → (zs' i).p = (-(zs i).p) % 65536 ∧ (zs' i).q = (-(zs i).q) % 65536) : trnTo zs' n = oppL (trnTo zs n) :=
  trnTo_map n (fun i hi => by
    rw [(h i hi).1, (h i hi).2]
    omega)

end Go.Proofs.Ytmojnopgpgnfeaa

namespace Go.Proofs.Ytmojnopgpgnfeaa
set_option linter.unusedVariables false

/-- the numbers laid out from the start of their arc -/
def layL (b : Int) (xs : List Int) : List Int := xs.map fun x => b + (x - b) % 65536
theorem red_mov {b d : Int} {xs : List Int} : red ((layL b xs).map (· + d)) = movL d xs := by
  unfold red layL movL
  rw [List.map_map, List.map_map]
  refine List.map_congr_left fun x _ => ?_
  show (b + (x - b) % 65536 + d) % 65536 = (x + d) % 65536
  omega
theorem red_opp {b : Int} {xs : List Int} : red ((layL b xs).map (- ·)) = oppL xs := by
  unfold red layL oppL
  rw [List.map_map, List.map_map]
  refine List.map_congr_left fun x _ => ?_
  show (-(b + (x - b) % 65536)) % 65536 = (-x) % 65536
  omega
theorem mov_bd {d : Int} {xs : List Int} : ∀ u, u ∈ (layL (arcB xs) xs).map (· + d) → arcB xs + d ≤ u ∧ u ≤ arcB xs + d + arcW xs := by
  intro u hu
  obtain ⟨v, hv, rfl⟩ := List.mem_map.1 hu
  obtain ⟨x, hx, rfl⟩ := List.mem_map.1 hv
  have := (arc_each hx).1
  omega
theorem opp_bd {xs : List Int} : ∀ u, u ∈ (layL (arcB xs) xs).map (- ·) → -(arcB xs) - arcW xs ≤ u ∧ u ≤ -(arcB xs) - arcW xs + arcW xs := by
  intro u hu
  obtain ⟨v, hv, rfl⟩ := List.mem_map.1 hu
  obtain ⟨x, hx, rfl⟩ := List.mem_map.1 hv
  have := (arc_each hx).1
  omega
theorem arcW_mov1 {d : Int} {xs : List Int} : arcW (movL d xs) ≤ arcW xs := by
  rw [← red_mov (b := arcB xs)]
  exact arcW_red mov_bd (arcW_bd xs).1
theorem arcW_opp1 {xs : List Int} : arcW (oppL xs) ≤ arcW xs := by
  rw [← red_opp (b := arcB xs)]
  exact arcW_red opp_bd (arcW_bd xs).1
theorem mov_mov {d : Int} {xs : List Int} (hp : ∀ x, x ∈ xs → 0 ≤ x ∧ x < 65536) : movL (-d) (movL d xs) = xs := by
  unfold movL
  rw [List.map_map]
  conv => rhs; rw [← List.map_id xs]
  refine List.map_congr_left fun x hx => ?_
  have := hp x hx
  show ((x + d) % 65536 + -d) % 65536 = x
  omega
theorem opp_opp {xs : List Int} (hp : ∀ x, x ∈ xs → 0 ≤ x ∧ x < 65536) : oppL (oppL xs) = xs := by
  unfold oppL
  rw [List.map_map]
  conv => rhs; rw [← List.map_id xs]
  refine List.map_congr_left fun x hx => ?_
  have := hp x hx
  show (-((-x) % 65536)) % 65536 = x
  omega
theorem arcW_mov {d : Int} {xs : List Int} (hp : ∀ x, x ∈ xs → 0 ≤ x ∧ x < 65536) : arcW (movL d xs) = arcW xs := by
  have h := arcW_mov1 (d := -d) (xs := movL d xs)
  rw [mov_mov hp] at h
  have := arcW_mov1 (d := d) (xs := xs)
  omega
theorem arcW_opp {xs : List Int} (hp : ∀ x, x ∈ xs → 0 ≤ x ∧ x < 65536) : arcW (oppL xs) = arcW xs := by
  have h := arcW_opp1 (xs := oppL xs)
  rw [opp_opp hp] at h
  have := arcW_opp1 (xs := xs)
  omega
theorem sum_mov {d : Int} : ∀ {xs : List Int}, (xs.map (· + d)).sum = xs.sum + xs.length * d := fun {xs} => sum_add_const (f := (· + d)) (k := d) fun u _ => rfl
theorem sum_opp : ∀ {xs : List Int}, (xs.map (- ·)).sum = -xs.sum
  | [] => rfl
  | x :: xs => by rw [List.map_cons, List.sum_cons, List.sum_cons, sum_opp]; omega
/-- two spans that are equal up to whole turns -/
def eqT (a b c d : Int) : Prop := ∃ k : Int, -2 ≤ k ∧ k ≤ 2 ∧ a ≤ b ∧ c = a + k * 65536 ∧ d = b + k * 65536
theorem sumT_mov {d : Int} {xs : List Int} (hw : arcW xs < 32768) (hne : xs ≠ []) : ∃ k : Int, sumT (arcB (movL d xs)) (movL d xs) (movL d xs).length = sumT (arcB xs) xs xs.length + xs.length * (d + 65536 * k) := by
  have ho : (layL (arcB xs) xs).map (· + d) ≠ [] := by unfold layL; simpa using hne
  obtain ⟨k, hk⟩ := sumT_red mov_bd hw ho
  refine ⟨k, ?_⟩
  rw [red_mov, sum_mov] at hk
  have l1 : (layL (arcB xs) xs).length = xs.length := by unfold layL; simp
  have l2 : ((layL (arcB xs) xs).map (· + d)).length = xs.length := by rw [List.length_map, l1]
  rw [hk, l1, l2, sumT_all]
  show (layL (arcB xs) xs).sum + _ + _ = (layL (arcB xs) xs).sum + _
  rw [Int.mul_add]
  omega
theorem sumT_opp {xs : List Int} (hw : arcW xs < 32768) (hne : xs ≠ []) : ∃ k : Int, sumT (arcB (oppL xs)) (oppL xs) (oppL xs).length = -sumT (arcB xs) xs xs.length + xs.length * (65536 * k) := by
  have ho : (layL (arcB xs) xs).map (- ·) ≠ [] := by unfold layL; simpa using hne
  obtain ⟨k, hk⟩ := sumT_red opp_bd hw ho
  refine ⟨k, ?_⟩
  rw [red_opp, sum_opp] at hk
  have l1 : (layL (arcB xs) xs).length = xs.length := by unfold layL; simp
  have l2 : ((layL (arcB xs) xs).map (- ·)).length = xs.length := by rw [List.length_map, l1]
  rw [hk, l2, sumT_all]
  rfl

end Go.Proofs.Ytmojnopgpgnfeaa
