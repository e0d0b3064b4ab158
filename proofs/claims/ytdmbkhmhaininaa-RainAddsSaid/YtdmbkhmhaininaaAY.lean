/-
  Rows of readings that are made.
-/
import Derived.Test.YtdmbkhmhaininaaAX
namespace Go.Proofs.Ytdmbkhmhaininaa
open Go.RowKit
set_option linter.unusedVariables false
set_option linter.unusedSimpArgs false

theorem add_row (b off j : Nat) : (⟨b, off, none⟩ : Addr).add j = ⟨b, off + j, none⟩ := by simp [Addr.add]
/-- two boxes of spans that are made -/
structure TwoB (E W : World) (qa qb : Nat) (x y u v : Int) : Prop where
  a0 : W.cell? ⟨qa, 0, none⟩ = some (.int .i64 x)
  a1 : W.cell? ⟨qa, 1, none⟩ = some (.int .i64 y)
  b0 : W.cell? ⟨qb, 0, none⟩ = some (.int .i64 u)
  b1 : W.cell? ⟨qb, 1, none⟩ = some (.int .i64 v)
  za : qa < W.heap.size
  zb : qb < W.heap.size
  b : Below E.heap.size E W
theorem TwoB.fst (W : World) (x y u v : Int) : TwoB W ((W.alloc (.cells #[.int .i64 x, .int .i64 y] 24)).alloc (.cells #[.int .i64 u, .int .i64 v] 24)).drew W.heap.size (W.heap.size + 1) x y u v := by
  obtain ⟨A, hA⟩ : ∃ A, A = W.alloc (.cells #[.int .i64 x, .int .i64 y] 24) := ⟨_, rfl⟩
  have sA : A.heap.size = W.heap.size + 1 := by rw [hA]; exact World.size_alloc _ _
  have bA : Below W.heap.size W A := by rw [hA]; exact below_alloc _ _
  have a0 : A.cell? ⟨W.heap.size, 0, none⟩ = some (.int .i64 x) := by rw [hA]; exact alloc_new rfl rfl
  have a1 : A.cell? ⟨W.heap.size, 1, none⟩ = some (.int .i64 y) := by rw [hA]; exact alloc_new rfl rfl
  rw [← hA]
  have bB := below_alloc A (.cells #[.int .i64 u, .int .i64 v] 24)
  have z : W.heap.size + 1 < (A.alloc (.cells #[.int .i64 u, .int .i64 v] 24)).heap.size := by rw [World.size_alloc]; omega
  exact ⟨alloc_keep (by omega) a0, alloc_keep (by omega) a1, alloc_new sA.symm rfl, alloc_new sA.symm rfl, Nat.lt_of_succ_lt z, z, (bA.trans (bB.mono bA.size)).drew⟩
theorem TwoB.snd (W : World) (x y u v : Int) : TwoB W ((W.alloc (.cells #[.int .i64 u, .int .i64 v] 24)).alloc (.cells #[.int .i64 x, .int .i64 y] 24)).drew (W.heap.size + 1) W.heap.size x y u v := by
  obtain ⟨a0, a1, b0, b1, za, zb, b⟩ := TwoB.fst W u v x y
  exact ⟨b0, b1, a0, a1, zb, za, b⟩
/-- a row of readings that is the call's own -/
structure RwA (N W : World) (v : Value) (m : Nat) (xs : List Value) : Prop where
  own : W.ownsRow N.heap.size 60 3 v m xs
  b : Below N.heap.size N W
theorem RwA.keep {N W w1 : World} {v : Value} {m : Nat} {xs : List Value} (R : RwA N W v m xs) (hb : Below W.heap.size W w1) : RwA N w1 v m xs := ⟨owns_keep R.own hb, R.b.trans (hb.mono R.b.size)⟩
theorem RwA.new {N W : World} (h : Below N.heap.size N W) : RwA N (W.alloc (.cells #[] 60)) (.slice (some ⟨W.heap.size, 0, none⟩) 0 0) 0 [] :=
  ⟨World.ownsRow_lit W #[] 0 h.size (by decide) rfl, h.trans ((below_alloc W _).mono h.size)⟩
theorem RwA.grown {N W w1 : World} {v v' : Value} {m m2 : Nat} {xs ys : List Value} (R : RwA N W v m xs) (hg : W.grownBy w1 v.ownBlock) (ho : w1.ownsRow N.heap.size 60 3 v' m2 ys) : RwA N w1 v' m2 ys :=
  ⟨ho, R.b.trans (Below.grown (Below.refl N.heap.size W) hg R.b.size (fun k hk => (R.own.lt k hk).1))⟩
/-- a row of one reading, apart from another row -/
structure TbA (W : World) (s : Nat) (v : Value) (t x y : Int) : Prop where
  c : ∀ j u, ([.int .i64 t, .int .i64 x, .int .i64 y] : List Value)[j]? = some u → W.cell? ((⟨s, 0, none⟩ : Addr).add j) = some u
  z : s < W.heap.size
  n : some s ≠ v.ownBlock
theorem TbA.new {W : World} {v : Value} (t x y : Int) (h : ∀ k, v.ownBlock = some k → k < W.heap.size) : TbA (W.alloc (.cells #[.int .i64 t, .int .i64 x, .int .i64 y] 60)) W.heap.size v t x y :=
  ⟨cell_three_new _ _ _ _ _, by rw [World.size_alloc]; omega, fun e => by have := h _ e.symm; omega⟩
theorem TbA.keep {W w1 : World} {s : Nat} {v : Value} {t x y : Int} (h : TbA W s v t x y) (hb : Below W.heap.size W w1) : TbA w1 s v t x y :=
  ⟨fun j u hj => by
    have := h.c j u hj
    rw [add_row s 0 j] at this ⊢
    exact keepB hb h.z this, Nat.lt_of_lt_of_le h.z hb.size, h.n⟩
theorem TbA.other {W : World} {s : Nat} {v v' : Value} {t x y : Int} (h : TbA W s v t x y) (hn : some s ≠ v'.ownBlock) : TbA W s v' t x y := ⟨h.c, h.z, hn⟩
theorem TbA.grown {W w1 : World} {s : Nat} {v v' : Value} {t x y : Int} (h : TbA W s v t x y) (hg : W.grownBy w1 v.ownBlock) (hat : v'.ownBlock = v.ownBlock ∨ v'.ownBlock = some W.heap.size) : TbA w1 s v' t x y :=
  ⟨fun j u hj => by
    have := h.c j u hj
    rw [add_row s 0 j] at this ⊢
    exact hg.cell this h.n, Nat.lt_of_lt_of_le h.z hg.size, by
    rcases hat with e | e
    · rw [e]; exact h.n
    · rw [e]; intro e2; injection e2 with e2; have := h.z; omega⟩

end Go.Proofs.Ytdmbkhmhaininaa
