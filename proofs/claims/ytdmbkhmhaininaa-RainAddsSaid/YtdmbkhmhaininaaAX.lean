/-
  Readings in rows; boxes of readings; append in a region.
-/
import Derived.Test.YtdmbkhmhaininaaVS
import Derived.Test.YtdmbkhmhaininaaAM
import Derived.Test.YtdmbkhmhaininaaY0
import Derived.Maps.AppendAt
namespace Go.Proofs.Ytdmbkhmhaininaa
open Go.RowKit
set_option linter.unusedVariables false
set_option linter.unusedSimpArgs false

theorem info60 : (Try.prog.info? 60).map (fun i => (i.zero, i.size, i.bytes)) = some (some (.agg #[.int .i64 0, .int .i64 0, .int .i64 0]), 3, 24) := by kernel_rfl
theorem recs_news {w : World} {b off n m : Nat} {rs : Nat → Rc} (h : RecsAt w b off n rs) (hm : m ≤ n) : ∀ j u, (rcv rs m)[j]? = some u → w.cell? ((⟨b, off, none⟩ : Addr).add j) = some u := fun j u hj => by
  have hl : j < (rcv rs m).length := (List.getElem?_eq_some_iff.1 hj).1
  rw [rcv_len] at hl
  obtain ⟨q, r, hr, rfl⟩ : ∃ q r, r < 3 ∧ j = q * 3 + r := ⟨j / 3, j % 3, Nat.mod_lt _ (by decide), by omega⟩
  have hq : q < m := by omega
  have g := rcv_get rs m q hq
  have c := h q (by omega)
  rw [show (⟨b, off, none⟩ : Addr).add (q * 3 + r) = ⟨b, off + (q * 3 + r), none⟩ by simp [Addr.add]]
  match r, hr with
  | 0, _ => rw [Nat.add_zero] at hj ⊢; rw [g.1] at hj; injection hj with hj; rw [← hj]; exact c.1
  | 1, _ => rw [g.2.1] at hj; injection hj with hj; rw [← hj, ← Nat.add_assoc]; exact c.2.1
  | 2, _ => rw [g.2.2] at hj; injection hj with hj; rw [← hj, ← Nat.add_assoc]; exact c.2.2
theorem rcv_one (rs : Nat → Rc) : ∀ m, ∀ u ∈ rcv rs m, u.oneCell' = true
  | 0, u, h => by cases h
  | m + 1, u, h => by
    unfold rcv at h
    rcases List.mem_append.1 h with h | h
    · exact rcv_one rs m u h
    · simp at h
      rcases h with rfl | rfl | rfl <;> rfl
theorem rcv_ext {rs ss : Nat → Rc} : ∀ m, (∀ j, j < m → rs j = ss j) → rcv rs m = rcv ss m
  | 0, _ => rfl
  | m + 1, h => by
    unfold rcv
    rw [rcv_ext m (fun j hj => h j (by omega)), h m (by omega)]
theorem rcv_ins (rs : Nat → Rc) (k : Nat) (r : Rc) : rcv rs (k + 1) ++ [.int .i64 (r).t, .int .i64 (r).lo, .int .i64 (r).hi] = rcv (insR rs k r) (k + 2) := by
  have e : rcv rs (k + 1) = rcv (insR rs k r) (k + 1) := rcv_ext _ (fun j hj => (ins_lo rs k r (by omega)).symm)
  rw [e]
  show _ = rcv (insR rs k r) (k + 1) ++ [.int .i64 (insR rs k r (k + 1)).t, .int .i64 (insR rs k r (k + 1)).lo, .int .i64 (insR rs k r (k + 1)).hi]
  rw [ins_at]
theorem rcv_rest (rs : Nat → Rc) (k : Nat) (r : Rc) : ∀ d, rcv (insR rs k r) (k + 2) ++ rcv (fun j => rs (k + 1 + j)) d = rcv (insR rs k r) (k + 2 + d)
  | 0 => by rw [show rcv (fun j => rs (k + 1 + j)) 0 = [] from rfl, List.append_nil]
  | d + 1 => by
    show rcv (insR rs k r) (k + 2) ++ (rcv (fun j => rs (k + 1 + j)) d ++ [.int .i64 (rs (k + 1 + d)).t, .int .i64 (rs (k + 1 + d)).lo, .int .i64 (rs (k + 1 + d)).hi]) = rcv (insR rs k r) (k + 2 + d) ++ [.int .i64 (insR rs k r (k + 2 + d)).t, .int .i64 (insR rs k r (k + 2 + d)).lo, .int .i64 (insR rs k r (k + 2 + d)).hi]
    rw [← List.append_assoc, rcv_rest rs k r d]
    have e : insR rs k r (k + 2 + d) = rs (k + 1 + d) := by
      rw [show k + 2 + d = (k + 1 + d) + 1 by omega]; exact ins_hi rs k r (by omega)
    rw [e]
theorem own_recs60 {w : World} {base n : Nat} {v : Value} {rs : Nat → Rc} (h : w.ownsRow base 60 3 v n (rcv rs n)) (hn : 0 < n) : ∃ (a : Option Addr) (cap : Nat), v = .slice a n cap ∧ RecsIs w a n rs := by
  obtain ⟨b, cap, rfl, hb1, hb2⟩ := h.form (by omega)
  refine ⟨_, cap, rfl, .inr ⟨b, 0, rfl, hb2, fun i hi => ⟨?_, ?_, ?_⟩⟩⟩
  · rw [Nat.zero_add, h.cellAt (i * 3) (by omega)]; exact (rcv_get _ n i hi).1
  · rw [Nat.zero_add, h.cellAt (i * 3 + 1) (by omega)]; exact (rcv_get _ n i hi).2.1
  · rw [Nat.zero_add, h.cellAt (i * 3 + 2) (by omega)]; exact (rcv_get _ n i hi).2.2
theorem RecsAt.shift {w : World} {b off n k : Nat} {rs : Nat → Rc} (h : RecsAt w b off n rs) (hk : k ≤ n) : RecsAt w b (off + k * 3) (n - k) (fun j => rs (k + j)) := fun i hi => by
  have c := h (k + i) (by omega)
  rw [show off + (k + i) * 3 = off + k * 3 + i * 3 by rw [Nat.add_mul]; omega] at c
  exact c
theorem RecsAt.head {w : World} {b off n k : Nat} {rs : Nat → Rc} (h : RecsAt w b off n rs) (hk : k ≤ n) : RecsAt w b off k rs := fun i hi => h i (by omega)
/-- a box of a reading -/
structure RcV (W : World) (q : Nat) (t x y : Int) : Prop where
  c0 : W.cell? ⟨q, 0, none⟩ = some (.int .i64 t)
  c1 : W.cell? ⟨q, 1, none⟩ = some (.int .i64 x)
  c2 : W.cell? ⟨q, 2, none⟩ = some (.int .i64 y)
  f0 : W.frozen? ⟨q, 0, none⟩ = false
  f1 : W.frozen? ⟨q, 1, none⟩ = false
  f2 : W.frozen? ⟨q, 2, none⟩ = false
theorem RcB.new (W : World) : RcV (W.alloc (.cells #[.int .i64 0, .int .i64 0, .int .i64 0] 60)) W.heap.size 0 0 0 := ⟨alloc_new rfl rfl, alloc_new rfl rfl, alloc_new rfl rfl, alloc_newF rfl, alloc_newF rfl, alloc_newF rfl⟩
theorem RcV.keep {W w1 : World} {q : Nat} {t x y : Int} (s : RcV W q t x y) (hb : Below W.heap.size W w1) (h : q < W.heap.size) : RcV w1 q t x y := ⟨keepB hb h s.c0, keepB hb h s.c1, keepB hb h s.c2, keepF hb h s.f0, keepF hb h s.f1, keepF hb h s.f2⟩
theorem RcV.put {W : World} {q : Nat} {t x y t2 x2 y2 : Int} (s : RcV W q t x y) : RcV (((W.setCell ⟨q, 0, none⟩ (.int .i64 t2)).setCell ⟨q, 1, none⟩ (.int .i64 x2)).setCell ⟨q, 2, none⟩ (.int .i64 y2)) q t2 x2 y2 :=
  ⟨set_other (by decide) (set_other (by decide) (set_same s.c0)), set_other (by decide) (set_same (set_other (by decide) s.c1)), set_same (set_other (by decide) (set_other (by decide) s.c2)), by simp; exact s.f0, by simp; exact s.f1, by simp; exact s.f2⟩
/-- append, as an operation of a region that draws its order -/
theorem oper_append {P : Program} {o : Oper} {a : Act} {w : World} {K : Act → World → Prop} {Q : Exit → Act → World → Prop} (s x : Operand) (t : TypeId)
    (ho : o.op = .call { callee := .builtin .append, args := #[s, x], argTypes := #[t, t] })
    (base : Nat) (e : TypeId) (i : TypeInfo) (z : Value) (size bytes : Nat) (ht : P.underlying t = some (.slice e)) (hi : P.info? e = some i) (hz : i.zero = some z)
    (hsize : i.size = size) (hby : i.bytes = bytes) (hzs : z.cells.size = size) (hsz : 0 < size)
    (v : Value) (n : Nat) (xs : List Value) (hs : a.eval s = v) (hown : w.ownsRow base e size v n xs)
    (ad : Addr) (m c : Nat) (news : List Value) (hx : a.eval x = .slice (some ad) m c) (hl : news.length = m * size) (hnews : ∀ j u, news[j]? = some u → w.cell? (ad.add j) = some u) (h1 : ∀ u ∈ news, u.oneCell' = true)
    (h63 : n + m ≤ maxLen) (hbytes : (n + m) * bytes ≤ 140737488355328) (hbase : base ≤ w.heap.size)
    (h : ∀ v' w', w'.ownsRow base e size v' (n + m) (xs ++ news) → w.grownBy w' v.ownBlock → (v'.ownBlock = v.ownBlock ∨ v'.ownBlock = some w.heap.size) → K (a.put o.dst v') w') :
    Oper.wp P o a w K Q := by
  obtain ⟨v', w', hr, h2, h3, _, h5⟩ := run_append_own_at (P := P) w base t o.type e i z size bytes ht hi hz hsize hby hzs hsz v n xs hown ad m c news hl hnews h1 h63 hbytes hbase
  have key := h v' w' h2 h3 h5
  simp only [Oper.wp, execOp, ho, resolve, invoke, builtin, Sem.run_bind, Sem.run_pure, Result.andThen_ok, List.map_toArray, List.map_cons, List.map_nil, hs, hx, hr]
  exact key

end Go.Proofs.Ytdmbkhmhaininaa
