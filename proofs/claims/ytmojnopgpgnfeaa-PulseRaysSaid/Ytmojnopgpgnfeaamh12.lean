/-
  The reference's echoes of a ray.
-/
import Derived.Test.Ytmojnopgpgnfeaamh11
import Derived.Test.Ytmojnopgpgnfeaamh9
namespace Go.Proofs.Ytmojnopgpgnfeaa
open Go.RowKit
set_option linter.unusedVariables false
set_option linter.unusedSimpArgs false

theorem TrB.newR (w : World) (l kd f s c lv ph n0 n1 : Int) : TrB w ((w.alloc (.cells #[.int .i64 l, .int .i64 kd, .int .i64 f, .int .i64 s, .int .i64 c] 34)).alloc (.cells #[.int .i64 lv, .int .i64 ph, .int .i64 n0, .int .i64 n1] 37)) l kd f s c lv ph n0 n1 := by
  obtain ⟨A1, e1⟩ : ∃ A, A = w.alloc (.cells #[.int .i64 l, .int .i64 kd, .int .i64 f, .int .i64 s, .int .i64 c] 34) := ⟨_, rfl⟩
  obtain ⟨A2, e2⟩ : ∃ A, A = A1.alloc (.cells #[.int .i64 lv, .int .i64 ph, .int .i64 n0, .int .i64 n1] 37) := ⟨_, rfl⟩
  have s1 : A1.heap.size = w.heap.size + 1 := by rw [e1]; exact World.size_alloc _ _
  have s2 : A2.heap.size = w.heap.size + 2 := by rw [e2, World.size_alloc, s1]
  rw [← e1, ← e2]
  have b1 : Below w.heap.size w A1 := by rw [e1]; exact below_alloc _ _
  have b2 : Below A1.heap.size A1 A2 := by rw [e2]; exact below_alloc _ _
  exact ⟨keepB b2 (by omega) (by rw [e1]; exact alloc_new rfl rfl), keepB b2 (by omega) (by rw [e1]; exact alloc_new rfl rfl), keepB b2 (by omega) (by rw [e1]; exact alloc_new rfl rfl), keepB b2 (by omega) (by rw [e1]; exact alloc_new rfl rfl), keepB b2 (by omega) (by rw [e1]; exact alloc_new rfl rfl), by rw [e2, ← s1]; exact alloc_new rfl rfl, by rw [e2, ← s1]; exact alloc_new rfl rfl, by rw [e2, ← s1]; exact alloc_new rfl rfl, by rw [e2, ← s1]; exact alloc_new rfl rfl, by omega, b1.trans (b2.mono (by omega))⟩

theorem info_parts14 {t : TypeId} {z : Value} {s b : Nat} (h : (Try.prog.info? t).map (fun i => (i.zero, i.size, i.bytes)) = some (some z, s, b)) : ∃ i, Try.prog.info? t = some i ∧ i.zero = some z ∧ i.size = s ∧ i.bytes = b := info_parts4 h
/-- the cells of echoes, one after the other -/
def flatE (x : Nat → Nat → Int) : Nat → List Value
  | 0 => []
  | k + 1 => flatE x k ++ [.int .i64 (x k 0), .int .i64 (x k 1), .int .i64 (x k 2), .int .i64 (x k 3), .int .i64 (x k 4), .int .i64 (x k 5), .int .i64 (x k 6), .int .i64 (x k 7), .int .i64 (x k 8), .int .i64 (x k 9), .int .i64 (x k 10), .int .i64 (x k 11), .int .i64 (x k 12), .int .i64 (x k 13)]
theorem flatE_len (x : Nat → Nat → Int) : ∀ k, (flatE x k).length = k * 14
  | 0 => rfl
  | k + 1 => by rw [flatE, List.length_append, flatE_len x k]; simp; omega
theorem flatE_at (x : Nat → Nat → Int) {j : Nat} (hj : j < 14) : ∀ {k i : Nat}, i < k → (flatE x k)[i * 14 + j]? = some (.int .i64 (x i j))
  | k + 1, i, h => by
    rw [flatE]
    by_cases c : i = k
    · subst c
      rw [List.getElem?_append_right (by rw [flatE_len]; omega), flatE_len, Nat.add_sub_cancel_left]
      have hj2 : j = 0 ∨ j = 1 ∨ j = 2 ∨ j = 3 ∨ j = 4 ∨ j = 5 ∨ j = 6 ∨ j = 7 ∨ j = 8 ∨ j = 9 ∨ j = 10 ∨ j = 11 ∨ j = 12 ∨ j = 13 := by omega
      rcases hj2 with rfl | rfl | rfl | rfl | rfl | rfl | rfl | rfl | rfl | rfl | rfl | rfl | rfl | rfl <;> rfl
    · rw [List.getElem?_append_left (by rw [flatE_len]; omega)]
      exact flatE_at x hj (by omega)
/-- echoes that grow behind a world -/
structure EcI (V W : World) (v : Value) (k : Nat) (x : Nat → Nat → Int) : Prop where
  r : W.ownsRow V.heap.size 30 14 v k (flatE x k)
  b : Below V.heap.size V W
theorem EcI.new (V : World) (x : Nat → Nat → Int) : EcI V V (.slice none 0 0) 0 x := ⟨World.ownsRow_nil _ _ _ _, Below.refl _ _⟩
theorem EcI.keep {V W W' : World} {v : Value} {k : Nat} {x : Nat → Nat → Int} (h : EcI V W v k x) (hb : Below W.heap.size W W') : EcI V W' v k x := ⟨row_below h.r hb, h.b.trans (hb.mono h.b.size)⟩
theorem EcI.grown {V W w1 : World} {v v' : Value} {k : Nat} {x : Nat → Nat → Int} {tmp : Obj} (h : EcI V W v k x) (hg : (W.alloc tmp).grownBy w1 v.ownBlock) (ho : w1.ownsRow V.heap.size 30 14 v' (k + 1) (flatE x k ++ [.int .i64 (x k 0), .int .i64 (x k 1), .int .i64 (x k 2), .int .i64 (x k 3), .int .i64 (x k 4), .int .i64 (x k 5), .int .i64 (x k 6), .int .i64 (x k 7), .int .i64 (x k 8), .int .i64 (x k 9), .int .i64 (x k 10), .int .i64 (x k 11), .int .i64 (x k 12), .int .i64 (x k 13)])) : EcI V w1 v' (k + 1) x := by
  have hb : Below V.heap.size W w1 := ((Below.refl _ W).alloc h.b.size tmp).grown hg (by have := h.b.size; simp; omega) fun j ej => (h.r.lt j ej).1
  exact ⟨ho, h.b.trans hb⟩
theorem EcI.open {V W : World} {v : Value} {k : Nat} {x : Nat → Nat → Int} (h : EcI V W v k x) : ∃ a cap, v = .slice a k cap ∧ EchosIs W a k x := by
  rcases h.r.2 with ⟨rfl, hm⟩ | ⟨g, cap, cur, rfl, hng, hgb, _, _, _, _⟩
  · exact ⟨none, 0, by rw [hm], .inl hm⟩
  · refine ⟨some ⟨g, 0, none⟩, cap, rfl, .inr ⟨g, 0, rfl, (Array.getElem?_eq_some_iff.1 hgb).1, fun i hi j hj => ?_⟩⟩
    have h2 := h.r.cells (g := g) rfl (i * 14 + j) _ (flatE_at x hj hi)
    rw [add_at rfl] at h2
    rw [Nat.add_assoc]
    exact h2
theorem cell_row_new (W : World) (g : Nat → Int) (T : TypeId) : ∀ j u, ([.int .i64 (g 0), .int .i64 (g 1), .int .i64 (g 2), .int .i64 (g 3), .int .i64 (g 4), .int .i64 (g 5), .int .i64 (g 6), .int .i64 (g 7), .int .i64 (g 8), .int .i64 (g 9), .int .i64 (g 10), .int .i64 (g 11), .int .i64 (g 12), .int .i64 (g 13)] : List Value)[j]? = some u → (W.alloc (.cells #[.int .i64 (g 0), .int .i64 (g 1), .int .i64 (g 2), .int .i64 (g 3), .int .i64 (g 4), .int .i64 (g 5), .int .i64 (g 6), .int .i64 (g 7), .int .i64 (g 8), .int .i64 (g 9), .int .i64 (g 10), .int .i64 (g 11), .int .i64 (g 12), .int .i64 (g 13)] T)).cell? ((⟨W.heap.size, 0, none⟩ : Addr).add j) = some u := fun j u h => by
  rw [add_at rfl]
  have hj : j < 14 := by
    have := (List.getElem?_eq_some_iff.1 h).1
    simpa using this
  have hj2 : j = 0 ∨ j = 1 ∨ j = 2 ∨ j = 3 ∨ j = 4 ∨ j = 5 ∨ j = 6 ∨ j = 7 ∨ j = 8 ∨ j = 9 ∨ j = 10 ∨ j = 11 ∨ j = 12 ∨ j = 13 := by omega
  rcases hj2 with rfl | rfl | rfl | rfl | rfl | rfl | rfl | rfl | rfl | rfl | rfl | rfl | rfl | rfl <;> (simp at h; subst h; exact alloc_new rfl rfl)

set_option maxRecDepth 100000 in
set_option maxHeartbeats 4000000 in
theorem refRay_err (l kd f s c lv ph n0 n1 : Int) (a : Option Addr) (n cap : Nat) (w : World) (h : ckC l kd f s c lv ph n0 n1 ≠ 0) :
    Calls Try.prog 31 #[.agg #[.int .i64 l, .int .i64 kd, .int .i64 f, .int .i64 s, .int .i64 c], .agg #[.int .i64 lv, .int .i64 ph, .int .i64 n0, .int .i64 n1], .slice a n cap] w fun e w' => e = .returned (.tuple #[.slice none 0 0, .int .i64 (ckC l kd f s c lv ph n0 n1)]) ∧ Below w.heap.size w w' := by
  obtain ⟨E, hE⟩ : ∃ E, E = ckC l kd f s c lv ph n0 n1 := ⟨_, rfl⟩
  have HC : Hid (∀ W : World, Calls Try.prog 64 #[.agg #[.int .i64 l, .int .i64 kd, .int .i64 f, .int .i64 s, .int .i64 c], .agg #[.int .i64 lv, .int .i64 ph, .int .i64 n0, .int .i64 n1]] W fun e w' => e = .returned (.int .i64 E) ∧ Below W.heap.size W w') := Lib.hid fun W => by rw [hE]; exact both_any l kd f s c lv ph n0 n1 W
  rw [← hE] at h ⊢
  have hne : (E != 0) = true := bne_iff_ne.2 h
  have hne2 : (E == 0) = false := beq_eq_false_iff_ne.2 h
  clear h hE
  have P0 := Lib.hid (TrB.newR w l kd f s c lv ph n0 n1)
  obtain ⟨U, hU⟩ : ∃ U, U = ((w.alloc (.cells #[.int .i64 l, .int .i64 kd, .int .i64 f, .int .i64 s, .int .i64 c] 34)).alloc (.cells #[.int .i64 lv, .int .i64 ph, .int .i64 n0, .int .i64 n1] 37)) := ⟨_, rfl⟩
  rw [← hU] at P0
  go_enter Try.func31, Try.ntmps31
  go_wp2_with fail
  rw [← hU]
  clear hU
  obtain ⟨c0, c1, c2, c3, c4, c5, c6, c7, c8, hz, hbw⟩ := P0.out
  refine (HC.out _).mono ?_; rintro e' X1 ⟨rfl, hb1⟩
  have b1 := hbw.trans (hb1.mono hbw.size)
  clear c0 c1 c2 c3 c4 c5 c6 c7 c8 hz hbw hb1 P0 HC
  go_wp2
  exact bodyPost_ret (v := .tuple #[.slice none 0 0, .int .i64 E]) (by simp [results, Try.results31, go_sem]) rfl ⟨rfl, b1⟩
set_option maxRecDepth 100000 in
set_option maxHeartbeats 4000000 in
theorem refRay_many (l kd f s c lv ph n0 n1 : Int) (a : Option Addr) (n cap : Nat) (w : World) (h : ckC l kd f s c lv ph n0 n1 = 0) (hn : 200 < n) :
    Calls Try.prog 31 #[.agg #[.int .i64 l, .int .i64 kd, .int .i64 f, .int .i64 s, .int .i64 c], .agg #[.int .i64 lv, .int .i64 ph, .int .i64 n0, .int .i64 n1], .slice a n cap] w fun e w' => e = .returned (.tuple #[.slice none 0 0, .int .i64 (11)]) ∧ Below w.heap.size w w' := by
  have HC : Hid (∀ W : World, Calls Try.prog 64 #[.agg #[.int .i64 l, .int .i64 kd, .int .i64 f, .int .i64 s, .int .i64 c], .agg #[.int .i64 lv, .int .i64 ph, .int .i64 n0, .int .i64 n1]] W fun e w' => e = .returned (.int .i64 0) ∧ Below W.heap.size W w') := Lib.hid fun W => by rw [← h]; exact both_any l kd f s c lv ph n0 n1 W
  have d1 : decide (200 < (n : Int)) = true := decide_eq_true (by omega)
  clear h
  have P0 := Lib.hid (TrB.newR w l kd f s c lv ph n0 n1)
  obtain ⟨U, hU⟩ : ∃ U, U = ((w.alloc (.cells #[.int .i64 l, .int .i64 kd, .int .i64 f, .int .i64 s, .int .i64 c] 34)).alloc (.cells #[.int .i64 lv, .int .i64 ph, .int .i64 n0, .int .i64 n1] 37)) := ⟨_, rfl⟩
  rw [← hU] at P0
  go_enter Try.func31, Try.ntmps31
  go_wp2_with fail
  rw [← hU]
  clear hU
  obtain ⟨c0, c1, c2, c3, c4, c5, c6, c7, c8, hz, hbw⟩ := P0.out
  refine (HC.out _).mono ?_; rintro e' X1 ⟨rfl, hb1⟩
  have b1 := hbw.trans (hb1.mono hbw.size)
  clear c0 c1 c2 c3 c4 c5 c6 c7 c8 hz hbw hb1 P0 HC
  go_wp2
  exact bodyPost_ret (v := .tuple #[.slice none 0 0, .int .i64 11]) (by simp [results, Try.results31, go_sem]) rfl ⟨rfl, b1⟩
set_option maxRecDepth 100000 in
set_option maxHeartbeats 16000000 in
theorem refRay_ok (l kd f s c lv ph n0 n1 : Int) (a : Option Addr) (n cap : Nat) (rs : Nat → SmpR) (w : World) (k1 : trainC l kd f s c = 0) (k2 : recvC lv ph n0 n1 = 0) (hn : n ≤ 200) (hR : RwsIs w a n rs) (h100 : ∀ i, i < n → (rs i).len ≤ 100) :
    Calls Try.prog 31 #[.agg #[.int .i64 l, .int .i64 kd, .int .i64 f, .int .i64 s, .int .i64 c], .agg #[.int .i64 lv, .int .i64 ph, .int .i64 n0, .int .i64 n1], .slice a n cap] w (RayRet w (errTo c rs n) n (rayG l kd c lv ph n0 n1 rs)) := by
  have hmaxl : maxLen = 9223372036854775807 := rfl
  have hck : ckC l kd f s c lv ph n0 n1 = 0 := by unfold ckC; rw [if_pos k1, k2]
  have HC : Hid (∀ W : World, Calls Try.prog 64 #[.agg #[.int .i64 l, .int .i64 kd, .int .i64 f, .int .i64 s, .int .i64 c], .agg #[.int .i64 lv, .int .i64 ph, .int .i64 n0, .int .i64 n1]] W fun e w' => e = .returned (.int .i64 0) ∧ Below W.heap.size W w') := Lib.hid fun W => by rw [← hck]; exact both_any l kd f s c lv ph n0 n1 W
  have d1 : decide (200 < (n : Int)) = false := decide_eq_false (by omega)
  have HCK := Lib.hid hck
  have HR := Lib.hid hR
  have HL := Lib.hid h100
  clear k1 k2 hR hck h100
  obtain ⟨i0, hi, hz0, hz1, hz2⟩ := info_parts14 info30
  have P0 := Lib.hid (TrB.newR w l kd f s c lv ph n0 n1)
  obtain ⟨U, hU⟩ : ∃ U, U = ((w.alloc (.cells #[.int .i64 l, .int .i64 kd, .int .i64 f, .int .i64 s, .int .i64 c] 34)).alloc (.cells #[.int .i64 lv, .int .i64 ph, .int .i64 n0, .int .i64 n1] 37)) := ⟨_, rfl⟩
  rw [← hU] at P0
  go_enter Try.func31, Try.ntmps31
  go_wp2_with fail
  rw [← hU]
  clear hU
  obtain ⟨c0, c1, c2, c3, c4, c5, c6, c7, c8, hz, hbw⟩ := P0.out
  refine (HC.out _).mono ?_; rintro e' X1 ⟨rfl, hb1⟩
  have P1 := Lib.hid (P0.out.keep hb1)
  have bwX := Lib.hid P1.out.b
  clear c0 c1 c2 c3 c4 c5 c6 c7 c8 hz hbw hb1 P0 HC
  go_wp2_with fail
  go_loopw [9, 10] (fun v9 v10 wr => ∃ k : Nat, k ≤ n ∧ v10 = .int .i64 k ∧ errTo c rs k = 0 ∧ EcI X1 wr v9 k (rayG l kd c lv ph n0 n1 rs)) (fun _ v10 _ => n - (intOf v10).toNat)
  case atStart => exact ⟨0, Nat.zero_le _, rfl, rfl, EcI.new X1 _⟩
  case round =>
    obtain ⟨k, hk, rfl, he, hI⟩ := hrel
    by_cases hlt : k < n
    · rcases HR.out with h0 | ⟨b, off, rfl, hb, hrs⟩
      · omega
      have hB := hI.b
      have hbX : b < X1.heap.size := Nat.lt_of_lt_of_le hb P1.out.b.size
      obtain ⟨hcell, hlen, hsm⟩ := (hrs.keep P1.out.b hb) k hlt
      have hrow := keepB hB hbX hcell
      have hsm2 : SmpsIs wr (rs k).a (rs k).len (rs k).zs := by
        rcases hsm with h | ⟨b', o', e1, e2, e3⟩
        · exact .inl h
        · exact .inr ⟨b', o', e1, Nat.lt_of_lt_of_le e2 hB.size, e3.keep hB e2⟩
      have hbr : b < wr.heap.size := Nat.lt_of_lt_of_le hbX hB.size
      have hl1 := HL.out k hlt
      have HEK0 : Hid (errTo c rs (k + 1) = samC (rs k).zs (rs k).len c) := Lib.hid (by rw [errTo, if_pos he])
      have HGK0 : Hid (rayG l kd c lv ph n0 n1 rs k = hearOf l kd c lv ph n0 n1 (rs k).len (rs k).zs) := Lib.hid rfl
      obtain ⟨R, hR⟩ : ∃ R, R = rs k := ⟨_, rfl⟩
      rw [← hR] at hrow hsm2 HEK0 HGK0 hlen hl1
      clear hR
      obtain ⟨ra, rl, rq, zs⟩ := R
      dsimp only at hrow hsm2 HEK0 HGK0 hlen hl1
      obtain ⟨E, hE⟩ : ∃ E, E = herE l kd f s c lv ph n0 n1 rl zs := ⟨_, rfl⟩
      obtain ⟨g, hg⟩ : ∃ g, g = herV l kd f s c lv ph n0 n1 rl zs := ⟨_, rfl⟩
      have HEK : Hid (errTo c rs (k + 1) = E) := Lib.hid (by rw [HEK0.out, hE]; unfold herE; rw [if_pos HCK.out])
      have HGK : Hid (E = 0 → rayG l kd c lv ph n0 n1 rs k = g) := Lib.hid fun h => by rw [HGK0.out, hg]; unfold herV; rw [if_pos (hE ▸ h)]
      have HSM := Lib.hid hsm2
      have HI := Lib.hid hI
      obtain ⟨c0, c1, c2, c3, c4, c5, c6, c7, c8, hz, _⟩ := P1.out
      have c0 := keepB hB (by omega) c0
      have c1 := keepB hB (by omega) c1
      have c2 := keepB hB (by omega) c2
      have c3 := keepB hB (by omega) c3
      have c4 := keepB hB (by omega) c4
      have c5 := keepB hB (by omega) c5
      have c6 := keepB hB (by omega) c6
      have c7 := keepB hB (by omega) c7
      have c8 := keepB hB (by omega) c8
      have HSR := Lib.hid (show (fun w' : World => w'.cell? ⟨w.heap.size, 0, none⟩ = some (.int .i64 l) ∧ w'.cell? ⟨w.heap.size, 1, none⟩ = some (.int .i64 kd) ∧ w'.cell? ⟨w.heap.size, 2, none⟩ = some (.int .i64 f) ∧ w'.cell? ⟨w.heap.size, 3, none⟩ = some (.int .i64 s) ∧ w'.cell? ⟨w.heap.size, 4, none⟩ = some (.int .i64 c) ∧ w'.cell? ⟨w.heap.size + 1, 0, none⟩ = some (.int .i64 lv) ∧ w'.cell? ⟨w.heap.size + 1, 1, none⟩ = some (.int .i64 ph) ∧ w'.cell? ⟨w.heap.size + 1, 2, none⟩ = some (.int .i64 n0) ∧ w'.cell? ⟨w.heap.size + 1, 3, none⟩ = some (.int .i64 n1) ∧ w'.cell? ⟨b, off + k, none⟩ = some (.slice ra rl rq) ∧ Below wr.drew.heap.size wr.drew w') wr.drew from ⟨c0, c1, c2, c3, c4, c5, c6, c7, c8, hrow, Below.refl _ _⟩)
      have HID := Lib.hid (HI.out.keep (Below.refl wr.heap.size wr).drew)
      have H28 : Hid (∀ W : World, Below wr.drew.heap.size wr.drew W → Calls Try.prog 28 #[.agg #[.int .i64 l, .int .i64 kd, .int .i64 f, .int .i64 s, .int .i64 c], .agg #[.int .i64 lv, .int .i64 ph, .int .i64 n0, .int .i64 n1], .slice ra rl rq] W fun e w' => e = .returned (.tuple #[.agg #[.int .i64 (g 0), .int .i64 (g 1), .int .i64 (g 2), .int .i64 (g 3), .int .i64 (g 4), .int .i64 (g 5), .int .i64 (g 6), .int .i64 (g 7), .int .i64 (g 8), .int .i64 (g 9), .int .i64 (g 10), .int .i64 (g 11), .int .i64 (g 12), .int .i64 (g 13)], .int .i64 E]) ∧ Below W.heap.size W w') := Lib.hid fun W hW => by rw [hE, hg]; exact refHear_any l kd f s c lv ph n0 n1 ra rl rq zs W hl1 (HSM.out.keep ((Below.refl wr.heap.size wr).drew.trans hW))
      have tD : w.heap.size + 2 ≤ wr.drew.heap.size := Nat.le_trans hz hB.size
      have bDD : b < wr.drew.heap.size := hbr
      clear hE hg hI hB hsm hsm2 hcell hrs he HEK0 HGK0 hlen hl1 HI
      go_wp2_with fail
      clear c0 c1 c2 c3 c4 c5 c6 c7 c8 hrow hz
      refine wp_region_held_tail (S := (fun w' : World => w'.cell? ⟨w.heap.size, 0, none⟩ = some (.int .i64 l) ∧ w'.cell? ⟨w.heap.size, 1, none⟩ = some (.int .i64 kd) ∧ w'.cell? ⟨w.heap.size, 2, none⟩ = some (.int .i64 f) ∧ w'.cell? ⟨w.heap.size, 3, none⟩ = some (.int .i64 s) ∧ w'.cell? ⟨w.heap.size, 4, none⟩ = some (.int .i64 c) ∧ w'.cell? ⟨w.heap.size + 1, 0, none⟩ = some (.int .i64 lv) ∧ w'.cell? ⟨w.heap.size + 1, 1, none⟩ = some (.int .i64 ph) ∧ w'.cell? ⟨w.heap.size + 1, 2, none⟩ = some (.int .i64 n0) ∧ w'.cell? ⟨w.heap.size + 1, 3, none⟩ = some (.int .i64 n1) ∧ w'.cell? ⟨b, off + k, none⟩ = some (.slice ra rl rq) ∧ Below wr.drew.heap.size wr.drew w')) 12 (by kernel_rfl) (by kernel_rfl) HSR.out (fun hHeld => ?_)
      clear HSR
      obtain ⟨D, hD⟩ : ∃ D, D = wr.drew := ⟨_, rfl⟩
      rw [← hD] at hHeld HID H28 tD bDD
      rw [← hD]
      clear hD
      refine wpAnyH_take (i := 0) (v := ?v0_1) rfl (by kernel_rfl) (by kernel_rfl) (by kernel_rfl) (fun _ _ _ h => h) (Or.inl ⟨by rfl, ?hy0_1⟩) (by assumption) ?rest0_1
      case hy0_1 => (intro w hSw; (try dsimp only at hSw); go_simp; (try with_reducible rfl))
      try simp only [Act.put, List.getElem_toArray, List.getElem_cons_zero, List.getElem_cons_succ, List.setIfInBounds_toArray, List.set_cons_zero, List.set_cons_succ]
      refine wpAnyH_take (i := 1) (v := ?v1_2) rfl (by kernel_rfl) (by kernel_rfl) (by kernel_rfl) (fun _ _ _ h => h) (Or.inl ⟨by rfl, ?hy1_2⟩) (by assumption) ?rest1_2
      case hy1_2 => (intro w hSw; (try dsimp only at hSw); go_simp; (try with_reducible rfl))
      try simp only [Act.put, List.getElem_toArray, List.getElem_cons_zero, List.getElem_cons_succ, List.setIfInBounds_toArray, List.set_cons_zero, List.set_cons_succ]
      refine wpAnyH_take (i := 2) (v := ?v2_3) rfl (by kernel_rfl) (by kernel_rfl) (by kernel_rfl) (fun _ _ _ h => h) (Or.inl ⟨by rfl, ?hy2_3⟩) (by assumption) ?rest2_3
      case hy2_3 => (intro w hSw; (try dsimp only at hSw); go_simp; (try with_reducible rfl))
      try simp only [Act.put, List.getElem_toArray, List.getElem_cons_zero, List.getElem_cons_succ, List.setIfInBounds_toArray, List.set_cons_zero, List.set_cons_succ]
      refine wpAnyH_take (i := 3) (v := ?v3_4) rfl (by kernel_rfl) (by kernel_rfl) (by kernel_rfl) (fun _ _ _ h => h) (Or.inl ⟨by rfl, ?hy3_4⟩) (by assumption) ?rest3_4
      case hy3_4 => (intro w hSw; (try dsimp only at hSw); go_simp; (try with_reducible rfl))
      try simp only [Act.put, List.getElem_toArray, List.getElem_cons_zero, List.getElem_cons_succ, List.setIfInBounds_toArray, List.set_cons_zero, List.set_cons_succ]
      refine wpAnyH_take (i := 4) (v := ?v4_5) rfl (by kernel_rfl) (by kernel_rfl) (by kernel_rfl) (fun _ _ _ h => h) (Or.inl ⟨by rfl, ?hy4_5⟩) (by assumption) ?rest4_5
      case hy4_5 => (intro w hSw; (try dsimp only at hSw); go_simp; (try with_reducible rfl))
      try simp only [Act.put, List.getElem_toArray, List.getElem_cons_zero, List.getElem_cons_succ, List.setIfInBounds_toArray, List.set_cons_zero, List.set_cons_succ]
      refine wpAnyH_take (i := 5) (v := ?v5_6) rfl (by kernel_rfl) (by kernel_rfl) (by kernel_rfl) (fun _ _ _ h => h) (Or.inl ⟨by rfl, ?hy5_6⟩) (by assumption) ?rest5_6
      case hy5_6 => (intro w hSw; (try dsimp only at hSw); go_simp; (try with_reducible rfl))
      try simp only [Act.put, List.getElem_toArray, List.getElem_cons_zero, List.getElem_cons_succ, List.setIfInBounds_toArray, List.set_cons_zero, List.set_cons_succ]
      refine wpAnyH_ready (rs := [6, 10]) (by kernel_rfl) (by simp) ?_
      refine AllReadyH.cons rfl (fun K hK => ?_) (AllReadyH.cons rfl (fun K hK => ?_) AllReadyH.nil)
      · skip
        go_simp
        refine (H28.out _ hHeld.2.2.2.2.2.2.2.2.2.2).mono ?_; rintro e' w2 ⟨rfl, hb_w2⟩
        refine hK.out _ _ (⟨keepW hb_w2 hHeld.1, keepW hb_w2 hHeld.2.1, keepW hb_w2 hHeld.2.2.1, keepW hb_w2 hHeld.2.2.2.1, keepW hb_w2 hHeld.2.2.2.2.1, keepW hb_w2 hHeld.2.2.2.2.2.1, keepW hb_w2 hHeld.2.2.2.2.2.2.1, keepW hb_w2 hHeld.2.2.2.2.2.2.2.1, keepW hb_w2 hHeld.2.2.2.2.2.2.2.2.1, keepW hb_w2 hHeld.2.2.2.2.2.2.2.2.2.1, hHeld.2.2.2.2.2.2.2.2.2.2.trans (hb_w2.mono hHeld.2.2.2.2.2.2.2.2.2.2.size)⟩) (fun hHeld => ?_)
        clear hK K
        try simp only [Act.put, List.getElem_toArray, List.getElem_cons_zero, List.getElem_cons_succ, List.setIfInBounds_toArray, List.set_cons_zero, List.set_cons_succ]
        refine wpAnyH_take (i := 7) (v := ?v7_7) rfl (by kernel_rfl) (by kernel_rfl) (by kernel_rfl) (fun _ _ _ h => h) (Or.inl ⟨by rfl, ?hy7_7⟩) (by assumption) ?rest7_7
        case hy7_7 => (intro w hSw; (try dsimp only at hSw); go_simp; (try with_reducible rfl))
        try simp only [Act.put, List.getElem_toArray, List.getElem_cons_zero, List.getElem_cons_succ, List.setIfInBounds_toArray, List.set_cons_zero, List.set_cons_succ]
        refine wpAnyH_take (i := 8) (v := ?v8_8) rfl (by kernel_rfl) (by kernel_rfl) (by kernel_rfl) (fun _ _ _ h => h) (Or.inl ⟨by rfl, ?hy8_8⟩) (by assumption) ?rest8_8
        case hy8_8 => (intro w hSw; (try dsimp only at hSw); go_simp; (try with_reducible rfl))
        try simp only [Act.put, List.getElem_toArray, List.getElem_cons_zero, List.getElem_cons_succ, List.setIfInBounds_toArray, List.set_cons_zero, List.set_cons_succ]
        refine wpAnyH_take (i := 9) (v := ?v9_9) rfl (by kernel_rfl) (by kernel_rfl) (by kernel_rfl) (fun _ _ _ h => h) (Or.inl ⟨by rfl, ?hy9_9⟩) (by assumption) ?rest9_9
        case hy9_9 => (intro w hSw; (try dsimp only at hSw); go_simp; (try with_reducible rfl))
        try simp only [Act.put, List.getElem_toArray, List.getElem_cons_zero, List.getElem_cons_succ, List.setIfInBounds_toArray, List.set_cons_zero, List.set_cons_succ]
        refine wpAnyH_ready (rs := [10]) (by kernel_rfl) (by simp) ?_
        refine AllReadyH.cons rfl (fun K hK => ?_) AllReadyH.nil
        go_simp
        have hb_E0 : Below w2.heap.size w2 (w2.alloc (.cells #[.int .i64 0, .int .i64 0, .int .i64 0, .int .i64 0, .int .i64 0, .int .i64 0, .int .i64 0, .int .i64 0, .int .i64 0, .int .i64 0, .int .i64 0, .int .i64 0, .int .i64 0, .int .i64 0] 30)) := below_alloc _ _
        have r : EchoG (w2.alloc (.cells #[.int .i64 0, .int .i64 0, .int .i64 0, .int .i64 0, .int .i64 0, .int .i64 0, .int .i64 0, .int .i64 0, .int .i64 0, .int .i64 0, .int .i64 0, .int .i64 0, .int .i64 0, .int .i64 0] 30)) w2.heap.size (fun _ => 0) := EchoG.new w2 (fun _ => 0) 30
        have z_E0 : w2.heap.size < (w2.alloc (.cells #[.int .i64 0, .int .i64 0, .int .i64 0, .int .i64 0, .int .i64 0, .int .i64 0, .int .i64 0, .int .i64 0, .int .i64 0, .int .i64 0, .int .i64 0, .int .i64 0, .int .i64 0, .int .i64 0] 30)).heap.size := by rw [World.size_alloc]; omega
        have q_E0 : D.heap.size ≤ w2.heap.size := hHeld.2.2.2.2.2.2.2.2.2.2.size
        obtain ⟨E0, hEE⟩ : ∃ E, E = w2.alloc (.cells #[.int .i64 0, .int .i64 0, .int .i64 0, .int .i64 0, .int .i64 0, .int .i64 0, .int .i64 0, .int .i64 0, .int .i64 0, .int .i64 0, .int .i64 0, .int .i64 0, .int .i64 0, .int .i64 0] 30) := ⟨_, rfl⟩
        rw [← hEE] at hb_E0 r z_E0 ⊢
        refine hK.out _ _ (⟨keepW hb_E0 hHeld.1, keepW hb_E0 hHeld.2.1, keepW hb_E0 hHeld.2.2.1, keepW hb_E0 hHeld.2.2.2.1, keepW hb_E0 hHeld.2.2.2.2.1, keepW hb_E0 hHeld.2.2.2.2.2.1, keepW hb_E0 hHeld.2.2.2.2.2.2.1, keepW hb_E0 hHeld.2.2.2.2.2.2.2.1, keepW hb_E0 hHeld.2.2.2.2.2.2.2.2.1, keepW hb_E0 hHeld.2.2.2.2.2.2.2.2.2.1, hHeld.2.2.2.2.2.2.2.2.2.2.trans (hb_E0.mono hHeld.2.2.2.2.2.2.2.2.2.2.size)⟩) (fun hHeld => ?_)
        clear hK K hEE
        try simp only [Act.put, List.getElem_toArray, List.getElem_cons_zero, List.getElem_cons_succ, List.setIfInBounds_toArray, List.set_cons_zero, List.set_cons_succ]
        have HO := Lib.hid r
        have oc0 := HO.out.c 0 (by decide)
        have of0 := HO.out.f 0 (by decide)
        have oc1 := HO.out.c 1 (by decide)
        have of1 := HO.out.f 1 (by decide)
        have oc2 := HO.out.c 2 (by decide)
        have of2 := HO.out.f 2 (by decide)
        have oc3 := HO.out.c 3 (by decide)
        have of3 := HO.out.f 3 (by decide)
        have oc4 := HO.out.c 4 (by decide)
        have of4 := HO.out.f 4 (by decide)
        have oc5 := HO.out.c 5 (by decide)
        have of5 := HO.out.f 5 (by decide)
        have oc6 := HO.out.c 6 (by decide)
        have of6 := HO.out.f 6 (by decide)
        have oc7 := HO.out.c 7 (by decide)
        have of7 := HO.out.f 7 (by decide)
        have oc8 := HO.out.c 8 (by decide)
        have of8 := HO.out.f 8 (by decide)
        have oc9 := HO.out.c 9 (by decide)
        have of9 := HO.out.f 9 (by decide)
        have oc10 := HO.out.c 10 (by decide)
        have of10 := HO.out.f 10 (by decide)
        have oc11 := HO.out.c 11 (by decide)
        have of11 := HO.out.f 11 (by decide)
        have oc12 := HO.out.c 12 (by decide)
        have of12 := HO.out.f 12 (by decide)
        have oc13 := HO.out.c 13 (by decide)
        have of13 := HO.out.f 13 (by decide)
        have hqD : D.heap.size ≤ w2.heap.size := q_E0
        have hqE : w2.heap.size < E0.heap.size := z_E0
        clear r q_E0 z_E0
        refine wpAnyH_ready (rs := [11]) (by kernel_rfl) (by simp) ?_
        refine AllReadyH.cons rfl (fun K hK => ?_) AllReadyH.nil
        go_simp
        have bS : Below w2.heap.size E0 ((((((((((((((E0.setCell ⟨w2.heap.size, 0, none⟩ (.int .i64 (g 0))).setCell ⟨w2.heap.size, 1, none⟩ (.int .i64 (g 1))).setCell ⟨w2.heap.size, 2, none⟩ (.int .i64 (g 2))).setCell ⟨w2.heap.size, 3, none⟩ (.int .i64 (g 3))).setCell ⟨w2.heap.size, 4, none⟩ (.int .i64 (g 4))).setCell ⟨w2.heap.size, 5, none⟩ (.int .i64 (g 5))).setCell ⟨w2.heap.size, 6, none⟩ (.int .i64 (g 6))).setCell ⟨w2.heap.size, 7, none⟩ (.int .i64 (g 7))).setCell ⟨w2.heap.size, 8, none⟩ (.int .i64 (g 8))).setCell ⟨w2.heap.size, 9, none⟩ (.int .i64 (g 9))).setCell ⟨w2.heap.size, 10, none⟩ (.int .i64 (g 10))).setCell ⟨w2.heap.size, 11, none⟩ (.int .i64 (g 11))).setCell ⟨w2.heap.size, 12, none⟩ (.int .i64 (g 12))).setCell ⟨w2.heap.size, 13, none⟩ (.int .i64 (g 13))) := (((((((((((((((Below.refl w2.heap.size E0).setCell (p := ⟨w2.heap.size, 0, none⟩) (by dsimp only; omega) _).setCell (p := ⟨w2.heap.size, 1, none⟩) (by dsimp only; omega) _).setCell (p := ⟨w2.heap.size, 2, none⟩) (by dsimp only; omega) _).setCell (p := ⟨w2.heap.size, 3, none⟩) (by dsimp only; omega) _).setCell (p := ⟨w2.heap.size, 4, none⟩) (by dsimp only; omega) _).setCell (p := ⟨w2.heap.size, 5, none⟩) (by dsimp only; omega) _).setCell (p := ⟨w2.heap.size, 6, none⟩) (by dsimp only; omega) _).setCell (p := ⟨w2.heap.size, 7, none⟩) (by dsimp only; omega) _).setCell (p := ⟨w2.heap.size, 8, none⟩) (by dsimp only; omega) _).setCell (p := ⟨w2.heap.size, 9, none⟩) (by dsimp only; omega) _).setCell (p := ⟨w2.heap.size, 10, none⟩) (by dsimp only; omega) _).setCell (p := ⟨w2.heap.size, 11, none⟩) (by dsimp only; omega) _).setCell (p := ⟨w2.heap.size, 12, none⟩) (by dsimp only; omega) _).setCell (p := ⟨w2.heap.size, 13, none⟩) (by dsimp only; omega) _)
        have bD : Below D.heap.size D ((((((((((((((E0.setCell ⟨w2.heap.size, 0, none⟩ (.int .i64 (g 0))).setCell ⟨w2.heap.size, 1, none⟩ (.int .i64 (g 1))).setCell ⟨w2.heap.size, 2, none⟩ (.int .i64 (g 2))).setCell ⟨w2.heap.size, 3, none⟩ (.int .i64 (g 3))).setCell ⟨w2.heap.size, 4, none⟩ (.int .i64 (g 4))).setCell ⟨w2.heap.size, 5, none⟩ (.int .i64 (g 5))).setCell ⟨w2.heap.size, 6, none⟩ (.int .i64 (g 6))).setCell ⟨w2.heap.size, 7, none⟩ (.int .i64 (g 7))).setCell ⟨w2.heap.size, 8, none⟩ (.int .i64 (g 8))).setCell ⟨w2.heap.size, 9, none⟩ (.int .i64 (g 9))).setCell ⟨w2.heap.size, 10, none⟩ (.int .i64 (g 10))).setCell ⟨w2.heap.size, 11, none⟩ (.int .i64 (g 11))).setCell ⟨w2.heap.size, 12, none⟩ (.int .i64 (g 12))).setCell ⟨w2.heap.size, 13, none⟩ (.int .i64 (g 13))) := ((((((((((((((hHeld.2.2.2.2.2.2.2.2.2.2.setCell (p := ⟨w2.heap.size, 0, none⟩) (by dsimp only; omega) _).setCell (p := ⟨w2.heap.size, 1, none⟩) (by dsimp only; omega) _).setCell (p := ⟨w2.heap.size, 2, none⟩) (by dsimp only; omega) _).setCell (p := ⟨w2.heap.size, 3, none⟩) (by dsimp only; omega) _).setCell (p := ⟨w2.heap.size, 4, none⟩) (by dsimp only; omega) _).setCell (p := ⟨w2.heap.size, 5, none⟩) (by dsimp only; omega) _).setCell (p := ⟨w2.heap.size, 6, none⟩) (by dsimp only; omega) _).setCell (p := ⟨w2.heap.size, 7, none⟩) (by dsimp only; omega) _).setCell (p := ⟨w2.heap.size, 8, none⟩) (by dsimp only; omega) _).setCell (p := ⟨w2.heap.size, 9, none⟩) (by dsimp only; omega) _).setCell (p := ⟨w2.heap.size, 10, none⟩) (by dsimp only; omega) _).setCell (p := ⟨w2.heap.size, 11, none⟩) (by dsimp only; omega) _).setCell (p := ⟨w2.heap.size, 12, none⟩) (by dsimp only; omega) _).setCell (p := ⟨w2.heap.size, 13, none⟩) (by dsimp only; omega) _)
        have EZ := ((((((((((((((HO.out.set (k := 0) (v := g 0)).set (k := 1) (v := g 1)).set (k := 2) (v := g 2)).set (k := 3) (v := g 3)).set (k := 4) (v := g 4)).set (k := 5) (v := g 5)).set (k := 6) (v := g 6)).set (k := 7) (v := g 7)).set (k := 8) (v := g 8)).set (k := 9) (v := g 9)).set (k := 10) (v := g 10)).set (k := 11) (v := g 11)).set (k := 12) (v := g 12)).set (k := 13) (v := g 13))
        have hH2 := Lib.hid (show (fun w' : World => w'.cell? ⟨w.heap.size, 0, none⟩ = some (.int .i64 l) ∧ w'.cell? ⟨w.heap.size, 1, none⟩ = some (.int .i64 kd) ∧ w'.cell? ⟨w.heap.size, 2, none⟩ = some (.int .i64 f) ∧ w'.cell? ⟨w.heap.size, 3, none⟩ = some (.int .i64 s) ∧ w'.cell? ⟨w.heap.size, 4, none⟩ = some (.int .i64 c) ∧ w'.cell? ⟨w.heap.size + 1, 0, none⟩ = some (.int .i64 lv) ∧ w'.cell? ⟨w.heap.size + 1, 1, none⟩ = some (.int .i64 ph) ∧ w'.cell? ⟨w.heap.size + 1, 2, none⟩ = some (.int .i64 n0) ∧ w'.cell? ⟨w.heap.size + 1, 3, none⟩ = some (.int .i64 n1) ∧ w'.cell? ⟨b, off + k, none⟩ = some (.slice ra rl rq) ∧ Below D.heap.size D w') ((((((((((((((E0.setCell ⟨w2.heap.size, 0, none⟩ (.int .i64 (g 0))).setCell ⟨w2.heap.size, 1, none⟩ (.int .i64 (g 1))).setCell ⟨w2.heap.size, 2, none⟩ (.int .i64 (g 2))).setCell ⟨w2.heap.size, 3, none⟩ (.int .i64 (g 3))).setCell ⟨w2.heap.size, 4, none⟩ (.int .i64 (g 4))).setCell ⟨w2.heap.size, 5, none⟩ (.int .i64 (g 5))).setCell ⟨w2.heap.size, 6, none⟩ (.int .i64 (g 6))).setCell ⟨w2.heap.size, 7, none⟩ (.int .i64 (g 7))).setCell ⟨w2.heap.size, 8, none⟩ (.int .i64 (g 8))).setCell ⟨w2.heap.size, 9, none⟩ (.int .i64 (g 9))).setCell ⟨w2.heap.size, 10, none⟩ (.int .i64 (g 10))).setCell ⟨w2.heap.size, 11, none⟩ (.int .i64 (g 11))).setCell ⟨w2.heap.size, 12, none⟩ (.int .i64 (g 12))).setCell ⟨w2.heap.size, 13, none⟩ (.int .i64 (g 13))) from ⟨keepB bS (by omega) hHeld.1, keepB bS (by omega) hHeld.2.1, keepB bS (by omega) hHeld.2.2.1, keepB bS (by omega) hHeld.2.2.2.1, keepB bS (by omega) hHeld.2.2.2.2.1, keepB bS (by omega) hHeld.2.2.2.2.2.1, keepB bS (by omega) hHeld.2.2.2.2.2.2.1, keepB bS (by omega) hHeld.2.2.2.2.2.2.2.1, keepB bS (by omega) hHeld.2.2.2.2.2.2.2.2.1, keepB bS (by omega) hHeld.2.2.2.2.2.2.2.2.2.1, bD⟩)
        obtain ⟨Z, hZ⟩ : ∃ Z, Z = ((((((((((((((E0.setCell ⟨w2.heap.size, 0, none⟩ (.int .i64 (g 0))).setCell ⟨w2.heap.size, 1, none⟩ (.int .i64 (g 1))).setCell ⟨w2.heap.size, 2, none⟩ (.int .i64 (g 2))).setCell ⟨w2.heap.size, 3, none⟩ (.int .i64 (g 3))).setCell ⟨w2.heap.size, 4, none⟩ (.int .i64 (g 4))).setCell ⟨w2.heap.size, 5, none⟩ (.int .i64 (g 5))).setCell ⟨w2.heap.size, 6, none⟩ (.int .i64 (g 6))).setCell ⟨w2.heap.size, 7, none⟩ (.int .i64 (g 7))).setCell ⟨w2.heap.size, 8, none⟩ (.int .i64 (g 8))).setCell ⟨w2.heap.size, 9, none⟩ (.int .i64 (g 9))).setCell ⟨w2.heap.size, 10, none⟩ (.int .i64 (g 10))).setCell ⟨w2.heap.size, 11, none⟩ (.int .i64 (g 11))).setCell ⟨w2.heap.size, 12, none⟩ (.int .i64 (g 12))).setCell ⟨w2.heap.size, 13, none⟩ (.int .i64 (g 13))) := ⟨_, rfl⟩
        rw [← hZ] at bD EZ hH2 ⊢
        have GN := Lib.hid (show EchB Z (w2.heap.size) g from ⟨EZ.c 0 (by decide), EZ.c 1 (by decide), EZ.c 2 (by decide), EZ.c 3 (by decide), EZ.c 4 (by decide), EZ.c 5 (by decide), EZ.c 6 (by decide), EZ.c 7 (by decide), EZ.c 8 (by decide), EZ.c 9 (by decide), EZ.c 10 (by decide), EZ.c 11 (by decide), EZ.c 12 (by decide), EZ.c 13 (by decide)⟩)
        have zqZ : w2.heap.size < Z.heap.size := World.block_lt_of_cell? Z ⟨w2.heap.size, 0, none⟩ (EZ.c 0 (by decide))
        clear oc0 of0 oc1 of1 oc2 of2 oc3 of3 oc4 of4 oc5 of5 oc6 of6 oc7 of7 oc8 of8 oc9 of9 oc10 of10 oc11 of11 oc12 of12 oc13 of13 hZ bS EZ hHeld
        refine hK.out _ _ hH2.out (fun hHeld => ?_)
        clear hK K
        try simp only [Act.put, List.getElem_toArray, List.getElem_cons_zero, List.getElem_cons_succ, List.setIfInBounds_toArray, List.set_cons_zero, List.set_cons_succ]
        refine wpAnyH_done (by kernel_rfl) ?_ _
        change wpList _ _ _ _ _ _
        simp only [List.drop_succ_cons, List.drop_zero]
        clear hHeld hH2
        have HIZ := Lib.hid (HID.out.keep bD)
        clear bD
        by_cases hE0 : E = 0
        · have h0 : errTo c rs (k + 1) = 0 := HEK.out.trans hE0
          have HE0 := Lib.hid h0
          have hg := HGK.out hE0
          have HGG := Lib.hid hg
          subst hE0
          clear h0 hg
          obtain ⟨h0, h1, h2, h3, h4, h5, h6, h7, h8, h9, h10, h11, h12, h13⟩ := GN.out
          have hbs := HIZ.out.b.size
          go_wp2_with (at_builtin; refine wpList_append_own_at _ rfl _ _ 47 rfl X1.heap.size 30 i0 (.agg #[.int .i64 0, .int .i64 0, .int .i64 0, .int .i64 0, .int .i64 0, .int .i64 0, .int .i64 0, .int .i64 0, .int .i64 0, .int .i64 0, .int .i64 0, .int .i64 0, .int .i64 0, .int .i64 0]) 14 112 Try.underlying47 hi hz0 hz1 hz2 rfl (by decide) _ _ _ rfl (HIZ.out.r.alloc _) ⟨Z.heap.size, 0, none⟩ 1 1 [.int .i64 (g 0), .int .i64 (g 1), .int .i64 (g 2), .int .i64 (g 3), .int .i64 (g 4), .int .i64 (g 5), .int .i64 (g 6), .int .i64 (g 7), .int .i64 (g 8), .int .i64 (g 9), .int .i64 (g 10), .int .i64 (g 11), .int .i64 (g 12), .int .i64 (g 13)] rfl rfl (cell_row_new _ _ _) (by simp [Value.oneCell']) (by omega) (by omega) (by rw [World.size_alloc]; omega) ?_; intro v' w9 hown hgrow _ _; have HX := Lib.hid (HIZ.out.grown hgrow (by rw [HGG.out]; exact hown)); clear hown hgrow)
          go_roundw
          case rel => exact ⟨k + 1, by omega, by go_num, HE0.out, HX.out⟩
          case measure => simp [intOf]; omega
        · have hne : (E != 0) = true := bne_iff_ne.2 hE0
          have hne2 : (E == 0) = false := beq_eq_false_iff_ne.2 hE0
          have HEN : Hid (errTo c rs n = E) := Lib.hid (by have h := errTo_stay (c := c) (rs := rs) (k := k + 1) (by rw [HEK.out]; exact hE0) (n - (k + 1)); rw [show k + 1 + (n - (k + 1)) = n by omega, HEK.out] at h; exact h)
          have HES := Lib.hid hE0
          have HBZ := Lib.hid (bwX.out.trans (HIZ.out.b.mono bwX.out.size))
          clear hE0
          go_wp2
          exact bodyPost_ret (v := .tuple #[.slice none 0 0, .int .i64 E]) (by simp [results, Try.results31, go_sem]) rfl ⟨_, by rw [HEN.out], .inl ⟨by rw [HEN.out]; exact HES.out, rfl⟩, HBZ.out⟩
      · skip
        go_simp
        have hb_E0 : Below D.heap.size D (D.alloc (.cells #[.int .i64 0, .int .i64 0, .int .i64 0, .int .i64 0, .int .i64 0, .int .i64 0, .int .i64 0, .int .i64 0, .int .i64 0, .int .i64 0, .int .i64 0, .int .i64 0, .int .i64 0, .int .i64 0] 30)) := below_alloc _ _
        have r : EchoG (D.alloc (.cells #[.int .i64 0, .int .i64 0, .int .i64 0, .int .i64 0, .int .i64 0, .int .i64 0, .int .i64 0, .int .i64 0, .int .i64 0, .int .i64 0, .int .i64 0, .int .i64 0, .int .i64 0, .int .i64 0] 30)) D.heap.size (fun _ => 0) := EchoG.new D (fun _ => 0) 30
        have z_E0 : D.heap.size < (D.alloc (.cells #[.int .i64 0, .int .i64 0, .int .i64 0, .int .i64 0, .int .i64 0, .int .i64 0, .int .i64 0, .int .i64 0, .int .i64 0, .int .i64 0, .int .i64 0, .int .i64 0, .int .i64 0, .int .i64 0] 30)).heap.size := by rw [World.size_alloc]; omega
        have q_E0 : D.heap.size ≤ D.heap.size := hHeld.2.2.2.2.2.2.2.2.2.2.size
        obtain ⟨E0, hEE⟩ : ∃ E, E = D.alloc (.cells #[.int .i64 0, .int .i64 0, .int .i64 0, .int .i64 0, .int .i64 0, .int .i64 0, .int .i64 0, .int .i64 0, .int .i64 0, .int .i64 0, .int .i64 0, .int .i64 0, .int .i64 0, .int .i64 0] 30) := ⟨_, rfl⟩
        rw [← hEE] at hb_E0 r z_E0 ⊢
        refine hK.out _ _ (⟨keepW hb_E0 hHeld.1, keepW hb_E0 hHeld.2.1, keepW hb_E0 hHeld.2.2.1, keepW hb_E0 hHeld.2.2.2.1, keepW hb_E0 hHeld.2.2.2.2.1, keepW hb_E0 hHeld.2.2.2.2.2.1, keepW hb_E0 hHeld.2.2.2.2.2.2.1, keepW hb_E0 hHeld.2.2.2.2.2.2.2.1, keepW hb_E0 hHeld.2.2.2.2.2.2.2.2.1, keepW hb_E0 hHeld.2.2.2.2.2.2.2.2.2.1, hHeld.2.2.2.2.2.2.2.2.2.2.trans (hb_E0.mono hHeld.2.2.2.2.2.2.2.2.2.2.size)⟩) (fun hHeld => ?_)
        clear hK K hEE
        try simp only [Act.put, List.getElem_toArray, List.getElem_cons_zero, List.getElem_cons_succ, List.setIfInBounds_toArray, List.set_cons_zero, List.set_cons_succ]
        refine wpAnyH_ready (rs := [6]) (by kernel_rfl) (by simp) ?_
        refine AllReadyH.cons rfl (fun K hK => ?_) AllReadyH.nil
        go_simp
        refine (H28.out _ hHeld.2.2.2.2.2.2.2.2.2.2).mono ?_; rintro e' w2 ⟨rfl, hb_w2⟩
        refine hK.out _ _ (⟨keepW hb_w2 hHeld.1, keepW hb_w2 hHeld.2.1, keepW hb_w2 hHeld.2.2.1, keepW hb_w2 hHeld.2.2.2.1, keepW hb_w2 hHeld.2.2.2.2.1, keepW hb_w2 hHeld.2.2.2.2.2.1, keepW hb_w2 hHeld.2.2.2.2.2.2.1, keepW hb_w2 hHeld.2.2.2.2.2.2.2.1, keepW hb_w2 hHeld.2.2.2.2.2.2.2.2.1, keepW hb_w2 hHeld.2.2.2.2.2.2.2.2.2.1, hHeld.2.2.2.2.2.2.2.2.2.2.trans (hb_w2.mono hHeld.2.2.2.2.2.2.2.2.2.2.size)⟩) (fun hHeld => ?_)
        clear hK K
        try simp only [Act.put, List.getElem_toArray, List.getElem_cons_zero, List.getElem_cons_succ, List.setIfInBounds_toArray, List.set_cons_zero, List.set_cons_succ]
        have r := r.keep hb_w2 z_E0
        have z_E0 := Nat.lt_of_lt_of_le z_E0 hb_w2.size
        refine wpAnyH_take (i := 7) (v := ?v7_10) rfl (by kernel_rfl) (by kernel_rfl) (by kernel_rfl) (fun _ _ _ h => h) (Or.inl ⟨by rfl, ?hy7_10⟩) (by assumption) ?rest7_10
        case hy7_10 => (intro w hSw; (try dsimp only at hSw); go_simp; (try with_reducible rfl))
        try simp only [Act.put, List.getElem_toArray, List.getElem_cons_zero, List.getElem_cons_succ, List.setIfInBounds_toArray, List.set_cons_zero, List.set_cons_succ]
        refine wpAnyH_take (i := 8) (v := ?v8_11) rfl (by kernel_rfl) (by kernel_rfl) (by kernel_rfl) (fun _ _ _ h => h) (Or.inl ⟨by rfl, ?hy8_11⟩) (by assumption) ?rest8_11
        case hy8_11 => (intro w hSw; (try dsimp only at hSw); go_simp; (try with_reducible rfl))
        try simp only [Act.put, List.getElem_toArray, List.getElem_cons_zero, List.getElem_cons_succ, List.setIfInBounds_toArray, List.set_cons_zero, List.set_cons_succ]
        refine wpAnyH_take (i := 9) (v := ?v9_12) rfl (by kernel_rfl) (by kernel_rfl) (by kernel_rfl) (fun _ _ _ h => h) (Or.inl ⟨by rfl, ?hy9_12⟩) (by assumption) ?rest9_12
        case hy9_12 => (intro w hSw; (try dsimp only at hSw); go_simp; (try with_reducible rfl))
        try simp only [Act.put, List.getElem_toArray, List.getElem_cons_zero, List.getElem_cons_succ, List.setIfInBounds_toArray, List.set_cons_zero, List.set_cons_succ]
        have HO := Lib.hid r
        have oc0 := HO.out.c 0 (by decide)
        have of0 := HO.out.f 0 (by decide)
        have oc1 := HO.out.c 1 (by decide)
        have of1 := HO.out.f 1 (by decide)
        have oc2 := HO.out.c 2 (by decide)
        have of2 := HO.out.f 2 (by decide)
        have oc3 := HO.out.c 3 (by decide)
        have of3 := HO.out.f 3 (by decide)
        have oc4 := HO.out.c 4 (by decide)
        have of4 := HO.out.f 4 (by decide)
        have oc5 := HO.out.c 5 (by decide)
        have of5 := HO.out.f 5 (by decide)
        have oc6 := HO.out.c 6 (by decide)
        have of6 := HO.out.f 6 (by decide)
        have oc7 := HO.out.c 7 (by decide)
        have of7 := HO.out.f 7 (by decide)
        have oc8 := HO.out.c 8 (by decide)
        have of8 := HO.out.f 8 (by decide)
        have oc9 := HO.out.c 9 (by decide)
        have of9 := HO.out.f 9 (by decide)
        have oc10 := HO.out.c 10 (by decide)
        have of10 := HO.out.f 10 (by decide)
        have oc11 := HO.out.c 11 (by decide)
        have of11 := HO.out.f 11 (by decide)
        have oc12 := HO.out.c 12 (by decide)
        have of12 := HO.out.f 12 (by decide)
        have oc13 := HO.out.c 13 (by decide)
        have of13 := HO.out.f 13 (by decide)
        have hqD : D.heap.size ≤ D.heap.size := q_E0
        have hqE : D.heap.size < w2.heap.size := z_E0
        clear r q_E0 z_E0
        refine wpAnyH_ready (rs := [11]) (by kernel_rfl) (by simp) ?_
        refine AllReadyH.cons rfl (fun K hK => ?_) AllReadyH.nil
        go_simp
        have bS : Below D.heap.size w2 ((((((((((((((w2.setCell ⟨D.heap.size, 0, none⟩ (.int .i64 (g 0))).setCell ⟨D.heap.size, 1, none⟩ (.int .i64 (g 1))).setCell ⟨D.heap.size, 2, none⟩ (.int .i64 (g 2))).setCell ⟨D.heap.size, 3, none⟩ (.int .i64 (g 3))).setCell ⟨D.heap.size, 4, none⟩ (.int .i64 (g 4))).setCell ⟨D.heap.size, 5, none⟩ (.int .i64 (g 5))).setCell ⟨D.heap.size, 6, none⟩ (.int .i64 (g 6))).setCell ⟨D.heap.size, 7, none⟩ (.int .i64 (g 7))).setCell ⟨D.heap.size, 8, none⟩ (.int .i64 (g 8))).setCell ⟨D.heap.size, 9, none⟩ (.int .i64 (g 9))).setCell ⟨D.heap.size, 10, none⟩ (.int .i64 (g 10))).setCell ⟨D.heap.size, 11, none⟩ (.int .i64 (g 11))).setCell ⟨D.heap.size, 12, none⟩ (.int .i64 (g 12))).setCell ⟨D.heap.size, 13, none⟩ (.int .i64 (g 13))) := (((((((((((((((Below.refl D.heap.size w2).setCell (p := ⟨D.heap.size, 0, none⟩) (by dsimp only; omega) _).setCell (p := ⟨D.heap.size, 1, none⟩) (by dsimp only; omega) _).setCell (p := ⟨D.heap.size, 2, none⟩) (by dsimp only; omega) _).setCell (p := ⟨D.heap.size, 3, none⟩) (by dsimp only; omega) _).setCell (p := ⟨D.heap.size, 4, none⟩) (by dsimp only; omega) _).setCell (p := ⟨D.heap.size, 5, none⟩) (by dsimp only; omega) _).setCell (p := ⟨D.heap.size, 6, none⟩) (by dsimp only; omega) _).setCell (p := ⟨D.heap.size, 7, none⟩) (by dsimp only; omega) _).setCell (p := ⟨D.heap.size, 8, none⟩) (by dsimp only; omega) _).setCell (p := ⟨D.heap.size, 9, none⟩) (by dsimp only; omega) _).setCell (p := ⟨D.heap.size, 10, none⟩) (by dsimp only; omega) _).setCell (p := ⟨D.heap.size, 11, none⟩) (by dsimp only; omega) _).setCell (p := ⟨D.heap.size, 12, none⟩) (by dsimp only; omega) _).setCell (p := ⟨D.heap.size, 13, none⟩) (by dsimp only; omega) _)
        have bD : Below D.heap.size D ((((((((((((((w2.setCell ⟨D.heap.size, 0, none⟩ (.int .i64 (g 0))).setCell ⟨D.heap.size, 1, none⟩ (.int .i64 (g 1))).setCell ⟨D.heap.size, 2, none⟩ (.int .i64 (g 2))).setCell ⟨D.heap.size, 3, none⟩ (.int .i64 (g 3))).setCell ⟨D.heap.size, 4, none⟩ (.int .i64 (g 4))).setCell ⟨D.heap.size, 5, none⟩ (.int .i64 (g 5))).setCell ⟨D.heap.size, 6, none⟩ (.int .i64 (g 6))).setCell ⟨D.heap.size, 7, none⟩ (.int .i64 (g 7))).setCell ⟨D.heap.size, 8, none⟩ (.int .i64 (g 8))).setCell ⟨D.heap.size, 9, none⟩ (.int .i64 (g 9))).setCell ⟨D.heap.size, 10, none⟩ (.int .i64 (g 10))).setCell ⟨D.heap.size, 11, none⟩ (.int .i64 (g 11))).setCell ⟨D.heap.size, 12, none⟩ (.int .i64 (g 12))).setCell ⟨D.heap.size, 13, none⟩ (.int .i64 (g 13))) := ((((((((((((((hHeld.2.2.2.2.2.2.2.2.2.2.setCell (p := ⟨D.heap.size, 0, none⟩) (by dsimp only; omega) _).setCell (p := ⟨D.heap.size, 1, none⟩) (by dsimp only; omega) _).setCell (p := ⟨D.heap.size, 2, none⟩) (by dsimp only; omega) _).setCell (p := ⟨D.heap.size, 3, none⟩) (by dsimp only; omega) _).setCell (p := ⟨D.heap.size, 4, none⟩) (by dsimp only; omega) _).setCell (p := ⟨D.heap.size, 5, none⟩) (by dsimp only; omega) _).setCell (p := ⟨D.heap.size, 6, none⟩) (by dsimp only; omega) _).setCell (p := ⟨D.heap.size, 7, none⟩) (by dsimp only; omega) _).setCell (p := ⟨D.heap.size, 8, none⟩) (by dsimp only; omega) _).setCell (p := ⟨D.heap.size, 9, none⟩) (by dsimp only; omega) _).setCell (p := ⟨D.heap.size, 10, none⟩) (by dsimp only; omega) _).setCell (p := ⟨D.heap.size, 11, none⟩) (by dsimp only; omega) _).setCell (p := ⟨D.heap.size, 12, none⟩) (by dsimp only; omega) _).setCell (p := ⟨D.heap.size, 13, none⟩) (by dsimp only; omega) _)
        have EZ := ((((((((((((((HO.out.set (k := 0) (v := g 0)).set (k := 1) (v := g 1)).set (k := 2) (v := g 2)).set (k := 3) (v := g 3)).set (k := 4) (v := g 4)).set (k := 5) (v := g 5)).set (k := 6) (v := g 6)).set (k := 7) (v := g 7)).set (k := 8) (v := g 8)).set (k := 9) (v := g 9)).set (k := 10) (v := g 10)).set (k := 11) (v := g 11)).set (k := 12) (v := g 12)).set (k := 13) (v := g 13))
        have hH2 := Lib.hid (show (fun w' : World => w'.cell? ⟨w.heap.size, 0, none⟩ = some (.int .i64 l) ∧ w'.cell? ⟨w.heap.size, 1, none⟩ = some (.int .i64 kd) ∧ w'.cell? ⟨w.heap.size, 2, none⟩ = some (.int .i64 f) ∧ w'.cell? ⟨w.heap.size, 3, none⟩ = some (.int .i64 s) ∧ w'.cell? ⟨w.heap.size, 4, none⟩ = some (.int .i64 c) ∧ w'.cell? ⟨w.heap.size + 1, 0, none⟩ = some (.int .i64 lv) ∧ w'.cell? ⟨w.heap.size + 1, 1, none⟩ = some (.int .i64 ph) ∧ w'.cell? ⟨w.heap.size + 1, 2, none⟩ = some (.int .i64 n0) ∧ w'.cell? ⟨w.heap.size + 1, 3, none⟩ = some (.int .i64 n1) ∧ w'.cell? ⟨b, off + k, none⟩ = some (.slice ra rl rq) ∧ Below D.heap.size D w') ((((((((((((((w2.setCell ⟨D.heap.size, 0, none⟩ (.int .i64 (g 0))).setCell ⟨D.heap.size, 1, none⟩ (.int .i64 (g 1))).setCell ⟨D.heap.size, 2, none⟩ (.int .i64 (g 2))).setCell ⟨D.heap.size, 3, none⟩ (.int .i64 (g 3))).setCell ⟨D.heap.size, 4, none⟩ (.int .i64 (g 4))).setCell ⟨D.heap.size, 5, none⟩ (.int .i64 (g 5))).setCell ⟨D.heap.size, 6, none⟩ (.int .i64 (g 6))).setCell ⟨D.heap.size, 7, none⟩ (.int .i64 (g 7))).setCell ⟨D.heap.size, 8, none⟩ (.int .i64 (g 8))).setCell ⟨D.heap.size, 9, none⟩ (.int .i64 (g 9))).setCell ⟨D.heap.size, 10, none⟩ (.int .i64 (g 10))).setCell ⟨D.heap.size, 11, none⟩ (.int .i64 (g 11))).setCell ⟨D.heap.size, 12, none⟩ (.int .i64 (g 12))).setCell ⟨D.heap.size, 13, none⟩ (.int .i64 (g 13))) from ⟨keepB bS (by omega) hHeld.1, keepB bS (by omega) hHeld.2.1, keepB bS (by omega) hHeld.2.2.1, keepB bS (by omega) hHeld.2.2.2.1, keepB bS (by omega) hHeld.2.2.2.2.1, keepB bS (by omega) hHeld.2.2.2.2.2.1, keepB bS (by omega) hHeld.2.2.2.2.2.2.1, keepB bS (by omega) hHeld.2.2.2.2.2.2.2.1, keepB bS (by omega) hHeld.2.2.2.2.2.2.2.2.1, keepB bS (by omega) hHeld.2.2.2.2.2.2.2.2.2.1, bD⟩)
        obtain ⟨Z, hZ⟩ : ∃ Z, Z = ((((((((((((((w2.setCell ⟨D.heap.size, 0, none⟩ (.int .i64 (g 0))).setCell ⟨D.heap.size, 1, none⟩ (.int .i64 (g 1))).setCell ⟨D.heap.size, 2, none⟩ (.int .i64 (g 2))).setCell ⟨D.heap.size, 3, none⟩ (.int .i64 (g 3))).setCell ⟨D.heap.size, 4, none⟩ (.int .i64 (g 4))).setCell ⟨D.heap.size, 5, none⟩ (.int .i64 (g 5))).setCell ⟨D.heap.size, 6, none⟩ (.int .i64 (g 6))).setCell ⟨D.heap.size, 7, none⟩ (.int .i64 (g 7))).setCell ⟨D.heap.size, 8, none⟩ (.int .i64 (g 8))).setCell ⟨D.heap.size, 9, none⟩ (.int .i64 (g 9))).setCell ⟨D.heap.size, 10, none⟩ (.int .i64 (g 10))).setCell ⟨D.heap.size, 11, none⟩ (.int .i64 (g 11))).setCell ⟨D.heap.size, 12, none⟩ (.int .i64 (g 12))).setCell ⟨D.heap.size, 13, none⟩ (.int .i64 (g 13))) := ⟨_, rfl⟩
        rw [← hZ] at bD EZ hH2 ⊢
        have GN := Lib.hid (show EchB Z (D.heap.size) g from ⟨EZ.c 0 (by decide), EZ.c 1 (by decide), EZ.c 2 (by decide), EZ.c 3 (by decide), EZ.c 4 (by decide), EZ.c 5 (by decide), EZ.c 6 (by decide), EZ.c 7 (by decide), EZ.c 8 (by decide), EZ.c 9 (by decide), EZ.c 10 (by decide), EZ.c 11 (by decide), EZ.c 12 (by decide), EZ.c 13 (by decide)⟩)
        have zqZ : D.heap.size < Z.heap.size := World.block_lt_of_cell? Z ⟨D.heap.size, 0, none⟩ (EZ.c 0 (by decide))
        clear oc0 of0 oc1 of1 oc2 of2 oc3 of3 oc4 of4 oc5 of5 oc6 of6 oc7 of7 oc8 of8 oc9 of9 oc10 of10 oc11 of11 oc12 of12 oc13 of13 hZ bS EZ hHeld
        refine hK.out _ _ hH2.out (fun hHeld => ?_)
        clear hK K
        try simp only [Act.put, List.getElem_toArray, List.getElem_cons_zero, List.getElem_cons_succ, List.setIfInBounds_toArray, List.set_cons_zero, List.set_cons_succ]
        refine wpAnyH_done (by kernel_rfl) ?_ _
        change wpList _ _ _ _ _ _
        simp only [List.drop_succ_cons, List.drop_zero]
        clear hHeld hH2
        have HIZ := Lib.hid (HID.out.keep bD)
        clear bD
        by_cases hE0 : E = 0
        · have h0 : errTo c rs (k + 1) = 0 := HEK.out.trans hE0
          have HE0 := Lib.hid h0
          have hg := HGK.out hE0
          have HGG := Lib.hid hg
          subst hE0
          clear h0 hg
          obtain ⟨h0, h1, h2, h3, h4, h5, h6, h7, h8, h9, h10, h11, h12, h13⟩ := GN.out
          have hbs := HIZ.out.b.size
          go_wp2_with (at_builtin; refine wpList_append_own_at _ rfl _ _ 47 rfl X1.heap.size 30 i0 (.agg #[.int .i64 0, .int .i64 0, .int .i64 0, .int .i64 0, .int .i64 0, .int .i64 0, .int .i64 0, .int .i64 0, .int .i64 0, .int .i64 0, .int .i64 0, .int .i64 0, .int .i64 0, .int .i64 0]) 14 112 Try.underlying47 hi hz0 hz1 hz2 rfl (by decide) _ _ _ rfl (HIZ.out.r.alloc _) ⟨Z.heap.size, 0, none⟩ 1 1 [.int .i64 (g 0), .int .i64 (g 1), .int .i64 (g 2), .int .i64 (g 3), .int .i64 (g 4), .int .i64 (g 5), .int .i64 (g 6), .int .i64 (g 7), .int .i64 (g 8), .int .i64 (g 9), .int .i64 (g 10), .int .i64 (g 11), .int .i64 (g 12), .int .i64 (g 13)] rfl rfl (cell_row_new _ _ _) (by simp [Value.oneCell']) (by omega) (by omega) (by rw [World.size_alloc]; omega) ?_; intro v' w9 hown hgrow _ _; have HX := Lib.hid (HIZ.out.grown hgrow (by rw [HGG.out]; exact hown)); clear hown hgrow)
          go_roundw
          case rel => exact ⟨k + 1, by omega, by go_num, HE0.out, HX.out⟩
          case measure => simp [intOf]; omega
        · have hne : (E != 0) = true := bne_iff_ne.2 hE0
          have hne2 : (E == 0) = false := beq_eq_false_iff_ne.2 hE0
          have HEN : Hid (errTo c rs n = E) := Lib.hid (by have h := errTo_stay (c := c) (rs := rs) (k := k + 1) (by rw [HEK.out]; exact hE0) (n - (k + 1)); rw [show k + 1 + (n - (k + 1)) = n by omega, HEK.out] at h; exact h)
          have HES := Lib.hid hE0
          have HBZ := Lib.hid (bwX.out.trans (HIZ.out.b.mono bwX.out.size))
          clear hE0
          go_wp2
          exact bodyPost_ret (v := .tuple #[.slice none 0 0, .int .i64 E]) (by simp [results, Try.results31, go_sem]) rfl ⟨_, by rw [HEN.out], .inl ⟨by rw [HEN.out]; exact HES.out, rfl⟩, HBZ.out⟩
    · obtain rfl : n = k := by omega
      have HE := Lib.hid he
      have HBW := Lib.hid (bwX.out.trans (hI.b.mono bwX.out.size))
      obtain ⟨av, cv, rfl, hes⟩ := hI.open
      have HES := Lib.hid hes
      clear he hI hes
      go_wp2
      exact bodyPost_ret (v := .tuple #[.slice av n cv, .int .i64 0]) (by simp [results, Try.results31, go_sem]) rfl ⟨_, by rw [HE.out], .inr ⟨HE.out, _, _, rfl, HES.out⟩, HBW.out⟩

end Go.Proofs.Ytmojnopgpgnfeaa

namespace Go.Proofs.Ytmojnopgpgnfeaa
open Go.RowKit
set_option linter.unusedVariables false
set_option linter.unusedSimpArgs false

theorem info58 : (Try.prog.info? 58).map (fun i => (i.zero, i.size, i.bytes)) = some (some (.slice none 0 0), 1, 24) := by kernel_rfl
/-- the cells of rows -/
def rowV (qs : Nat → SmpR) : Nat → List Value
  | 0 => []
  | k + 1 => rowV qs k ++ [.slice (qs k).a (qs k).len (qs k).cap]
theorem rowV_len (qs : Nat → SmpR) : ∀ k, (rowV qs k).length = k
  | 0 => rfl
  | k + 1 => by rw [rowV, List.length_append, rowV_len qs k]; rfl
theorem rowV_at (qs : Nat → SmpR) : ∀ {k i : Nat}, i < k → (rowV qs k)[i]? = some (.slice (qs i).a (qs i).len (qs i).cap)
  | k + 1, i, h => by
    rw [rowV]
    by_cases c : i = k
    · subst c
      rw [List.getElem?_append_right (by rw [rowV_len]; omega), rowV_len, Nat.sub_self]; rfl
    · rw [List.getElem?_append_left (by rw [rowV_len]; omega)]
      exact rowV_at qs (by omega)
theorem rowV_congr {qs qs' : Nat → SmpR} : ∀ k, (∀ i, i < k → qs i = qs' i) → rowV qs k = rowV qs' k
  | 0, _ => rfl
  | k + 1, h => by rw [rowV, rowV, rowV_congr k fun i hi => h i (by omega), h k (by omega)]
/-- samples that lie apart from a slice -/
def Spt (W : World) (v : Value) (r : SmpR) : Prop := r.len = 0 ∨ ∃ b off, r.a = some ⟨b, off, none⟩ ∧ b < W.heap.size ∧ some b ≠ v.ownBlock ∧ SmpsAt W b off r.len r.zs
theorem Spt.keep {W W' : World} {v : Value} {r : SmpR} (h : Spt W v r) (hb : Below W.heap.size W W') : Spt W' v r := by
  rcases h with h | ⟨b, off, h1, h2, h3, h4⟩
  · exact .inl h
  · exact .inr ⟨b, off, h1, Nat.lt_of_lt_of_le h2 hb.size, h3, h4.keep hb h2⟩
theorem Spt.grow {W w1 : World} {v v' : Value} {r : SmpR} {tmp : Obj} (h : Spt W v r) (hg : (W.alloc tmp).grownBy w1 v.ownBlock) (hat : v'.ownBlock = v.ownBlock ∨ v'.ownBlock = some (W.alloc tmp).heap.size) : Spt w1 v' r := by
  rcases h with h | ⟨b, off, h1, h2, h3, h4⟩
  · exact .inl h
  · have key : ∀ t x, W.cell? ⟨b, t, none⟩ = some x → w1.cell? ⟨b, t, none⟩ = some x := fun t x hx => hg.cell (keepW (below_alloc W tmp) hx) h3
    have hs := hg.size
    rw [World.size_alloc] at hs
    refine .inr ⟨b, off, h1, by omega, own_new h3 (by rw [World.size_alloc]; omega) hat, fun i hi => key _ _ (h4.c0 i hi), fun i hi => key _ _ (h4.c1 i hi), fun i hi => key _ _ (h4.c2 i hi), fun i hi => key _ _ (h4.c3 i hi)⟩
theorem Spt.is {W : World} {v : Value} {r : SmpR} (h : Spt W v r) : SmpsIs W r.a r.len r.zs := by
  rcases h with h | ⟨b, off, h1, h2, h3, h4⟩
  · exact .inl h
  · exact .inr ⟨b, off, h1, h2, h4⟩
/-- rows that grow behind a world, copies of others -/
structure RwI (V W : World) (v : Value) (k : Nat) (rs qs : Nat → SmpR) : Prop where
  r : W.ownsRow V.heap.size 58 1 v k (rowV qs k)
  s : ∀ i, i < k → (qs i).len = (rs i).len ∧ (qs i).zs = (rs i).zs ∧ Spt W v (qs i)
  b : Below V.heap.size V W
theorem RwI.new (V : World) (rs qs : Nat → SmpR) : RwI V V (.slice none 0 0) 0 rs qs := ⟨World.ownsRow_nil _ _ _ _, fun i hi => absurd hi (by omega), Below.refl _ _⟩
theorem RwI.keep {V W W' : World} {v : Value} {k : Nat} {rs qs : Nat → SmpR} (h : RwI V W v k rs qs) (hb : Below W.heap.size W W') : RwI V W' v k rs qs :=
  ⟨row_below h.r hb, fun i hi => ⟨(h.s i hi).1, (h.s i hi).2.1, (h.s i hi).2.2.keep hb⟩, h.b.trans (hb.mono h.b.size)⟩
theorem RwI.grown {V W w1 : World} {v v' : Value} {k : Nat} {rs qs : Nat → SmpR} {q : SmpR} {tmp : Obj} (h : RwI V W v k rs qs) (h1 : q.len = (rs k).len) (h2 : q.zs = (rs k).zs) (h3 : Spt W v q) (hg : (W.alloc tmp).grownBy w1 v.ownBlock) (ho : w1.ownsRow V.heap.size 58 1 v' (k + 1) (rowV qs k ++ [.slice q.a q.len q.cap])) (hat : v'.ownBlock = v.ownBlock ∨ v'.ownBlock = some (W.alloc tmp).heap.size) :
    RwI V w1 v' (k + 1) rs (fun i => if i = k then q else qs i) := by
  have hb : Below V.heap.size W w1 := ((Below.refl _ W).alloc h.b.size tmp).grown hg (by have := h.b.size; simp; omega) fun j ej => (h.r.lt j ej).1
  refine ⟨?_, fun i hi => ?_, h.b.trans hb⟩
  · have e : rowV (fun i => if i = k then q else qs i) (k + 1) = rowV qs k ++ [.slice q.a q.len q.cap] := by
      rw [rowV, rowV_congr (qs' := qs) k fun i hi => if_neg (by omega), if_pos rfl]
    rw [e]; exact ho
  · by_cases hik : i = k
    · rw [if_pos hik, hik]; exact ⟨h1, h2, h3.grow hg hat⟩
    · rw [if_neg hik]
      obtain ⟨a1, a2, a3⟩ := h.s i (by omega)
      exact ⟨a1, a2, a3.grow hg hat⟩
theorem RwI.open {V W : World} {v : Value} {n : Nat} {rs qs : Nat → SmpR} (h : RwI V W v n rs qs) (hm : ∀ i, i < n → (rs i).len ≤ maxLen) : ∃ a cap, v = .slice a n cap ∧ RwsIs W a n qs := by
  rcases h.r.2 with ⟨rfl, hm⟩ | ⟨g, cap, cur, rfl, hng, hgb, _, _, _, _⟩
  · exact ⟨none, 0, by rw [hm], .inl hm⟩
  · refine ⟨some ⟨g, 0, none⟩, cap, rfl, .inr ⟨g, 0, rfl, (Array.getElem?_eq_some_iff.1 hgb).1, fun i hi => ⟨?_, ?_, (h.s i hi).2.2.is⟩⟩⟩
    · have h2 := h.r.cells (g := g) rfl i _ (rowV_at qs hi)
      rw [add_at rfl] at h2
      exact h2
    · rw [(h.s i hi).1]; exact hm i hi
theorem smret_spt {w w' : World} {n : Nat} {zs : Nat → Smp} {v u : Value} (hu : ∀ j, u.ownBlock = some j → j < w.heap.size) (h : (n = 0 ∧ v = .slice none 0 0) ∨ (1 ≤ n ∧ ∃ g c, v = .slice (some ⟨g, 0, none⟩) n c ∧ w.heap.size ≤ g ∧ g < w'.heap.size ∧ SmpsAt w' g 0 n zs)) : ∃ q : SmpR, v = .slice q.a n q.cap ∧ q.len = n ∧ q.zs = zs ∧ Spt w' u q := by
  rcases h with ⟨rfl, rfl⟩ | ⟨_, g, c, rfl, h1, h2, h3⟩
  · exact ⟨⟨none, 0, 0, zs⟩, rfl, rfl, rfl, .inl rfl⟩
  · refine ⟨⟨some ⟨g, 0, none⟩, n, c, zs⟩, rfl, rfl, rfl, .inr ⟨g, 0, rfl, h2, fun e => ?_, h3⟩⟩
    have := hu g e.symm
    omega
theorem errTo_same {c : Int} {rs qs : Nat → SmpR} : ∀ n, (∀ i, i < n → (qs i).len = (rs i).len ∧ (qs i).zs = (rs i).zs) → errTo c qs n = errTo c rs n
  | 0, _ => rfl
  | n + 1, h => by
    obtain ⟨h1, h2⟩ := h n (by omega)
    rw [errTo, errTo, errTo_same n fun i hi => h i (by omega), h1, h2]
/-- Ray, whatever it is given -/
theorem Ray_any (l kd f s c lv ph n0 n1 : Int) (a : Option Addr) (n cap : Nat) (rs : Nat → SmpR) (w : World) (hR : RwsIs w a n rs) :
    Calls Try.prog 30 #[.agg #[.int .i64 l, .int .i64 kd, .int .i64 f, .int .i64 s, .int .i64 c], .agg #[.int .i64 lv, .int .i64 ph, .int .i64 n0, .int .i64 n1], .slice a n cap] w (fun e w' => ∃ m, RayRet w (rayE l kd f s c lv ph n0 n1 n rs) m (rayG l kd c lv ph n0 n1 rs) e w' ∧ (rayE l kd f s c lv ph n0 n1 n rs = 0 → m = n)) := by
  unfold rayE
  by_cases h : ckC l kd f s c lv ph n0 n1 = 0
  · rw [if_pos h]
    obtain ⟨k1, k2⟩ := ckC_0 h
    by_cases hn : 200 < n
    · rw [if_pos hn]
      refine (Ray_many l kd f s c lv ph n0 n1 a n cap w h hn).mono ?_
      rintro e w' ⟨rfl, hb⟩
      exact ⟨n, ⟨_, rfl, .inl ⟨by decide, rfl⟩, hb⟩, fun _ => rfl⟩
    · rw [if_neg hn]
      exact (Ray_ok l kd f s c lv ph n0 n1 a n cap rs w k1 k2 (by omega) hR).mono fun e w' h => ⟨n, h, fun _ => rfl⟩
  · rw [if_neg h]
    refine (Ray_err l kd f s c lv ph n0 n1 a n cap w h).mono ?_
    rintro e w' ⟨rfl, hb⟩
    exact ⟨n, ⟨_, rfl, .inl ⟨h, rfl⟩, hb⟩, fun _ => rfl⟩
theorem refRay_any (l kd f s c lv ph n0 n1 : Int) (a : Option Addr) (n cap : Nat) (rs qs : Nat → SmpR) (w : World) (hR : RwsIs w a n qs) (hq : ∀ i, i < n → (qs i).len = (rs i).len ∧ (qs i).zs = (rs i).zs) (h100 : ∀ i, i < n → (rs i).len ≤ 100) :
    Calls Try.prog 31 #[.agg #[.int .i64 l, .int .i64 kd, .int .i64 f, .int .i64 s, .int .i64 c], .agg #[.int .i64 lv, .int .i64 ph, .int .i64 n0, .int .i64 n1], .slice a n cap] w (fun e w' => ∃ m, RayRet w (rayE l kd f s c lv ph n0 n1 n rs) m (rayG l kd c lv ph n0 n1 qs) e w' ∧ (rayE l kd f s c lv ph n0 n1 n rs = 0 → m = n)) := by
  unfold rayE
  by_cases h : ckC l kd f s c lv ph n0 n1 = 0
  · rw [if_pos h]
    obtain ⟨k1, k2⟩ := ckC_0 h
    by_cases hn : 200 < n
    · rw [if_pos hn]
      refine (refRay_many l kd f s c lv ph n0 n1 a n cap w h hn).mono ?_
      rintro e w' ⟨rfl, hb⟩
      exact ⟨n, ⟨_, rfl, .inl ⟨by decide, rfl⟩, hb⟩, fun _ => rfl⟩
    · rw [if_neg hn, ← errTo_same n hq]
      exact (refRay_ok l kd f s c lv ph n0 n1 a n cap qs w k1 k2 (by omega) hR (fun i hi => by rw [(hq i hi).1]; exact h100 i hi)).mono fun e w' h => ⟨n, h, fun _ => rfl⟩
  · rw [if_neg h]
    refine (refRay_err l kd f s c lv ph n0 n1 a n cap w h).mono ?_
    rintro e w' ⟨rfl, hb⟩
    exact ⟨n, ⟨_, rfl, .inl ⟨h, rfl⟩, hb⟩, fun _ => rfl⟩
set_option maxRecDepth 100000 in
set_option maxHeartbeats 4000000 in
theorem PulseRays_skip (l kd f s c lv ph n0 n1 : Int) (a : Option Addr) (n cap : Nat) (w : World) (h : (20 < n ∧ n ≤ 200) ∨ 300 < n) :
    Calls Try.prog 7 #[.agg #[.int .i64 l, .int .i64 kd, .int .i64 f, .int .i64 s, .int .i64 c], .agg #[.int .i64 lv, .int .i64 ph, .int .i64 n0, .int .i64 n1], .slice a n cap] w fun e w' => e = .returned (.bool true) ∧ Below w.heap.size w w' := by
  have P0 := Lib.hid (TrB.new w l kd f s c lv ph n0 n1)
  obtain ⟨U, hU⟩ : ∃ U, U = ((w.alloc (.cells #[.int .i64 l, .int .i64 kd, .int .i64 f, .int .i64 s, .int .i64 c] 23)).alloc (.cells #[.int .i64 lv, .int .i64 ph, .int .i64 n0, .int .i64 n1] 27)) := ⟨_, rfl⟩
  rw [← hU] at P0
  have d1 : decide (20 < (n : Int)) = true := decide_eq_true (by omega)
  rcases Nat.lt_or_ge 200 n with h2 | h2
  · have d2 : decide ((n : Int) ≤ 200) = false := decide_eq_false (by omega)
    have d3 : decide (300 < (n : Int)) = true := decide_eq_true (by omega)
    clear h h2
    go_enter Try.func7, Try.ntmps7
    go_wp2_with fail
    rw [← hU]
    clear hU
    refine (works_any _).mono ?_; rintro e' X ⟨rfl, hb⟩
    go_wp2
    go_ret
    exact ⟨rfl, P0.out.b.trans (hb.mono P0.out.b.size)⟩
  · have d2 : decide ((n : Int) ≤ 200) = true := decide_eq_true (by omega)
    clear h h2
    go_enter Try.func7, Try.ntmps7
    go_wp2_with fail
    rw [← hU]
    clear hU
    refine (works_any _).mono ?_; rintro e' X ⟨rfl, hb⟩
    go_wp2
    go_ret
    exact ⟨rfl, P0.out.b.trans (hb.mono P0.out.b.size)⟩
set_option maxRecDepth 100000 in
set_option maxHeartbeats 16000000 in
theorem PulseRays_go (l kd f s c lv ph n0 n1 : Int) (a : Option Addr) (n cap : Nat) (rs : Nat → SmpR) (w : World) (hd : decide (20 < (n : Int)) = false ∨ (decide (20 < (n : Int)) = true ∧ decide ((n : Int) ≤ 200) = false)) (h300 : n ≤ 300) (hR : RwsIs w a n rs) :
    Calls Try.prog 7 #[.agg #[.int .i64 l, .int .i64 kd, .int .i64 f, .int .i64 s, .int .i64 c], .agg #[.int .i64 lv, .int .i64 ph, .int .i64 n0, .int .i64 n1], .slice a n cap] w fun e w' => e = .returned (.bool true) ∧ Below w.heap.size w w' := by
  have hmaxl : maxLen = 9223372036854775807 := rfl
  have P0 := Lib.hid (TrB.new w l kd f s c lv ph n0 n1)
  obtain ⟨U, hU⟩ : ∃ U, U = ((w.alloc (.cells #[.int .i64 l, .int .i64 kd, .int .i64 f, .int .i64 s, .int .i64 c] 23)).alloc (.cells #[.int .i64 lv, .int .i64 ph, .int .i64 n0, .int .i64 n1] 27)) := ⟨_, rfl⟩
  rw [← hU] at P0
  have d3 : decide (300 < (n : Int)) = false := decide_eq_false (by omega)
  have HR := Lib.hid hR
  have HRU := Lib.hid (show RwsIs U a n rs by
    rcases hR with h | ⟨b, off, h1, h2, h3⟩
    · exact .inl h
    · refine .inr ⟨b, off, h1, Nat.lt_of_lt_of_le h2 P0.out.b.size, h3.keep P0.out.b h2⟩)
  obtain ⟨i0, hi, hz0, hz1, hz2⟩ := info_parts4 info58
  clear hR
  rcases hd with d1 | ⟨d1, d2⟩
  · go_enter Try.func7, Try.ntmps7
    go_wp2_with fail
    rw [← hU]
    clear hU
    go_loopw [7, 8] (fun v7 v8 wr => ∃ k : Nat, k ≤ n ∧ v8 = .int .i64 k ∧ (∀ i, i < k → (rs i).len ≤ 70) ∧ ∃ qs, RwI U wr v7 k rs qs) (fun _ v8 _ => n - (intOf v8).toNat)
    case atStart => exact ⟨0, Nat.zero_le _, rfl, fun i hi => absurd hi (by omega), rs, RwI.new U rs rs⟩
    case round =>
      obtain ⟨k, hk, rfl, h70, qs, hI⟩ := hrel
      by_cases hlt : k < n
      · rcases HRU.out with h0 | ⟨b, off, rfl, hb, hrs⟩
        · omega
        have hB := hI.b
        obtain ⟨hcell, hlen, hsm⟩ := hrs k hlt
        have hrow := keepB hB hb hcell
        have hbr : b < wr.heap.size := Nat.lt_of_lt_of_le hb hB.size
        have HI := Lib.hid hI
        have H70 := Lib.hid h70
        have HBW := Lib.hid (show Below w.heap.size w wr from P0.out.b.trans (hB.mono P0.out.b.size))
        have hsm2 : SmpsIs wr (rs k).a (rs k).len (rs k).zs := by
          rcases hsm with h | ⟨b', o', e1, e2, e3⟩
          · exact .inl h
          · exact .inr ⟨b', o', e1, Nat.lt_of_lt_of_le e2 hB.size, e3.keep hB e2⟩
        obtain ⟨R, hR⟩ : ∃ R, R = rs k := ⟨_, rfl⟩
        rw [← hR] at hrow hsm2 hlen
        have HRK := Lib.hid hR
        clear hR
        obtain ⟨ra, rl, rq, zs⟩ := R
        dsimp only at hrow hsm2 hlen
        have HSM := Lib.hid hsm2
        clear hI h70 hB hcell hrs hsm hsm2
        by_cases hl7 : 70 < rl
        · have d7 : decide (70 < (rl : Int)) = true := decide_eq_true (by omega)
          clear hl7
          go_wp2_with fail
          refine (works_any _).mono ?_; rintro e' X ⟨rfl, hb'⟩
          go_wp2
          go_ret
          exact ⟨rfl, HBW.out.trans (hb'.mono HBW.out.size)⟩
        · have d7 : decide (70 < (rl : Int)) = false := decide_eq_false (by omega)
          go_wp2_with fail
          refine (samples_any ra rl rq zs wr (by omega) HSM.out).mono ?_; rintro e' Y ⟨v, rfl, hv, hbY⟩
          obtain ⟨q, rfl, hq1, hq2, hq3⟩ := smret_spt (fun j ej => (HI.out.r.lt j ej).2) hv
          have HIY := Lib.hid (HI.out.keep hbY)
          have HQ := Lib.hid (And.intro hq1 (And.intro hq2 hq3))
          have hbs := HIY.out.b.size
          clear hv hq1 hq2 hq3 hbY
          go_wp2_with (at_builtin; refine wpList_append_own_at _ rfl _ _ 62 rfl U.heap.size 58 i0 (.slice none 0 0) 1 24 Try.underlying62 hi hz0 hz1 hz2 rfl (by decide) _ _ _ rfl (HIY.out.r.alloc _) ⟨Y.heap.size, 0, none⟩ 1 1 [.slice q.a rl q.cap] rfl rfl (cell_one_new _ _ _) (by simp [Value.oneCell']) (by omega) (by omega) (by rw [World.size_alloc]; omega) ?_; intro v' w9 hown hgrow _ hat; have HX := Lib.hid (HIY.out.grown (q := q) (by rw [HQ.out.1, ← HRK.out]) (by rw [HQ.out.2.1, ← HRK.out]) HQ.out.2.2 hgrow (by rw [HQ.out.1]; exact hown) hat); clear hown hgrow hat)
          go_roundw
          case rel =>
            refine ⟨k + 1, by omega, by go_num, fun i hi2 => ?_, _, HX.out⟩
            by_cases hik : i = k
            · rw [hik, ← HRK.out]; show rl ≤ 70; omega
            · exact H70.out i (by omega)
          case measure => simp [intOf]; omega
      · obtain rfl : n = k := by omega
        obtain ⟨av, cv, rfl, hrw⟩ := hI.open (fun i hi2 => by have := h70 i hi2; omega)
        have HQ := Lib.hid hrw
        have HS := Lib.hid (fun i (hi2 : i < n) => (show (qs i).len = (rs i).len ∧ (qs i).zs = (rs i).zs from ⟨(hI.s i hi2).1, (hI.s i hi2).2.1⟩))
        have H70 := Lib.hid h70
        have PR := Lib.hid (P0.out.keep (show Below U.heap.size U wr from hI.b))
        have HRW := Lib.hid (HRU.out.keep hI.b)
        clear hI hrw h70 hk hlt
        obtain ⟨E, hE⟩ : ∃ E, E = rayE l kd f s c lv ph n0 n1 n rs := ⟨_, rfl⟩
        have HRY : Hid (∀ W : World, Below wr.heap.size wr W → Calls Try.prog 30 #[.agg #[.int .i64 l, .int .i64 kd, .int .i64 f, .int .i64 s, .int .i64 c], .agg #[.int .i64 lv, .int .i64 ph, .int .i64 n0, .int .i64 n1], .slice a n cap] W (fun e w' => ∃ m, RayRet W E m (rayG l kd c lv ph n0 n1 rs) e w' ∧ (E = 0 → m = n))) := Lib.hid fun W hW => by rw [hE]; exact Ray_any l kd f s c lv ph n0 n1 a n cap rs W (HRW.out.keep hW)
        have HRF : Hid (∀ W : World, Below wr.heap.size wr W → Calls Try.prog 31 #[.agg #[.int .i64 l, .int .i64 kd, .int .i64 f, .int .i64 s, .int .i64 c], .agg #[.int .i64 lv, .int .i64 ph, .int .i64 n0, .int .i64 n1], .slice av n cv] W (fun e w' => ∃ m, RayRet W E m (rayG l kd c lv ph n0 n1 qs) e w' ∧ (E = 0 → m = n))) := Lib.hid fun W hW => by rw [hE]; exact refRay_any l kd f s c lv ph n0 n1 av n cv rs qs W (HQ.out.keep hW) HS.out (fun i hi2 => by have := H70.out i hi2; omega)
        clear hE
        obtain ⟨c0, c1, c2, c3, c4, c5, c6, c7, c8, hz, hbw⟩ := PR.out
        go_wp2_with fail
        refine (HRY.out _ (Below.refl _ _)).mono ?_; rintro e' X ⟨m, ⟨v, rfl, hv, hbX⟩, hm⟩
        clear c0 c1 c2 c3 c4 c5 c6 c7 c8 hz hbw
        have PX := Lib.hid (PR.out.keep hbX)
        obtain ⟨c0, c1, c2, c3, c4, c5, c6, c7, c8, hz, hbw⟩ := PX.out
        go_wp2_with fail
        refine (HRF.out _ hbX).mono ?_; rintro e' Y ⟨m2, ⟨v2, rfl, hv2, hbY⟩, hm2⟩
        have bY := Lib.hid (PX.out.b.trans (hbY.mono PX.out.b.size))
        clear c0 c1 c2 c3 c4 c5 c6 c7 c8 hz hbw PX PR HRY HRF
        have hE1 : (E != E) = false := by simp
        rcases hv with ⟨hE0, rfl⟩ | ⟨hE0, xa, xc, rfl, hx⟩
        · rcases hv2 with ⟨_, rfl⟩ | ⟨hE2, _⟩
          · clear hE0 hm hm2
            go_wp2_with fail
            go_loopw [13] (fun v13 wr => v13 = .int .i64 0 ∧ wr = Y) (fun _ _ => 0)
            case atStart => exact ⟨rfl, rfl⟩
            case round =>
              obtain ⟨rfl, rfl⟩ := hrel
              go_wp2_with fail
              refine (works_any _).mono ?_; rintro e' Z ⟨rfl, hbZ⟩
              go_wp2
              go_ret
              exact ⟨rfl, bY.out.trans (hbZ.mono bY.out.size)⟩
          · exact absurd hE2 hE0
        · rcases hv2 with ⟨hE2, _⟩ | ⟨_, ya, yc, rfl, hy⟩
          · exact absurd hE0 hE2
          · have em := hm hE0
            have em2 := hm2 hE0
            subst em
            subst em2
            have HXY := Lib.hid (hx.keep hbY)
            have HYY := Lib.hid hy
            clear hm hm2 hx hy
            subst hE0
            go_wp2_with fail
            go_loopw [13] (fun v13 wr => ∃ k : Nat, k ≤ m2 ∧ v13 = .int .i64 k ∧ Below Y.heap.size Y wr) (fun v13 _ => m2 - (intOf v13).toNat)
            case atStart => exact ⟨0, Nat.zero_le _, rfl, Below.refl _ _⟩
            case round =>
              obtain ⟨k, hk, rfl, hB⟩ := hrel
              by_cases hlt : k < m2
              · rcases HXY.out with h0 | ⟨bx, ox, rfl, hbx, hxs⟩
                · omega
                rcases HYY.out with h0 | ⟨by', oy, rfl, hby, hys⟩
                · omega
                obtain ⟨g, hg⟩ : ∃ g, g = rayG l kd c lv ph n0 n1 rs k := ⟨_, rfl⟩
                have hg2 : rayG l kd c lv ph n0 n1 qs k = g := by rw [hg]; unfold rayG; rw [(HS.out k hlt).1, (HS.out k hlt).2]
                have X := hxs.keep hB hbx
                have Y' := hys.keep hB hby
                have lbx : bx < wr.heap.size := Nat.lt_of_lt_of_le hbx hB.size
                have lby : by' < wr.heap.size := Nat.lt_of_lt_of_le hby hB.size
                have X2 : ∀ j, j < 14 → wr.cell? ⟨bx, ox + k * 14 + j, none⟩ = some (.int .i64 (g j)) := fun j hj => by rw [hg]; exact X k hlt j hj
                have Y2 : ∀ j, j < 14 → wr.cell? ⟨by', oy + k * 14 + j, none⟩ = some (.int .i64 (g j)) := fun j hj => by rw [← hg2]; exact Y' k hlt j hj
                have x0 : wr.cell? ⟨bx, ox + k * 14, none⟩ = some (.int .i64 (g 0)) := X2 0 (by decide)
                have y0 : wr.cell? ⟨by', oy + k * 14, none⟩ = some (.int .i64 (g 0)) := Y2 0 (by decide)
                have x1 : wr.cell? ⟨bx, ox + k * 14 + 1, none⟩ = some (.int .i64 (g 1)) := X2 1 (by decide)
                have y1 : wr.cell? ⟨by', oy + k * 14 + 1, none⟩ = some (.int .i64 (g 1)) := Y2 1 (by decide)
                have x2 : wr.cell? ⟨bx, ox + k * 14 + 2, none⟩ = some (.int .i64 (g 2)) := X2 2 (by decide)
                have y2 : wr.cell? ⟨by', oy + k * 14 + 2, none⟩ = some (.int .i64 (g 2)) := Y2 2 (by decide)
                have x3 : wr.cell? ⟨bx, ox + k * 14 + 3, none⟩ = some (.int .i64 (g 3)) := X2 3 (by decide)
                have y3 : wr.cell? ⟨by', oy + k * 14 + 3, none⟩ = some (.int .i64 (g 3)) := Y2 3 (by decide)
                have x4 : wr.cell? ⟨bx, ox + k * 14 + 4, none⟩ = some (.int .i64 (g 4)) := X2 4 (by decide)
                have y4 : wr.cell? ⟨by', oy + k * 14 + 4, none⟩ = some (.int .i64 (g 4)) := Y2 4 (by decide)
                have x5 : wr.cell? ⟨bx, ox + k * 14 + 5, none⟩ = some (.int .i64 (g 5)) := X2 5 (by decide)
                have y5 : wr.cell? ⟨by', oy + k * 14 + 5, none⟩ = some (.int .i64 (g 5)) := Y2 5 (by decide)
                have x6 : wr.cell? ⟨bx, ox + k * 14 + 6, none⟩ = some (.int .i64 (g 6)) := X2 6 (by decide)
                have y6 : wr.cell? ⟨by', oy + k * 14 + 6, none⟩ = some (.int .i64 (g 6)) := Y2 6 (by decide)
                have x7 : wr.cell? ⟨bx, ox + k * 14 + 7, none⟩ = some (.int .i64 (g 7)) := X2 7 (by decide)
                have y7 : wr.cell? ⟨by', oy + k * 14 + 7, none⟩ = some (.int .i64 (g 7)) := Y2 7 (by decide)
                have x8 : wr.cell? ⟨bx, ox + k * 14 + 8, none⟩ = some (.int .i64 (g 8)) := X2 8 (by decide)
                have y8 : wr.cell? ⟨by', oy + k * 14 + 8, none⟩ = some (.int .i64 (g 8)) := Y2 8 (by decide)
                have x9 : wr.cell? ⟨bx, ox + k * 14 + 9, none⟩ = some (.int .i64 (g 9)) := X2 9 (by decide)
                have y9 : wr.cell? ⟨by', oy + k * 14 + 9, none⟩ = some (.int .i64 (g 9)) := Y2 9 (by decide)
                have x10 : wr.cell? ⟨bx, ox + k * 14 + 10, none⟩ = some (.int .i64 (g 10)) := X2 10 (by decide)
                have y10 : wr.cell? ⟨by', oy + k * 14 + 10, none⟩ = some (.int .i64 (g 10)) := Y2 10 (by decide)
                have x11 : wr.cell? ⟨bx, ox + k * 14 + 11, none⟩ = some (.int .i64 (g 11)) := X2 11 (by decide)
                have y11 : wr.cell? ⟨by', oy + k * 14 + 11, none⟩ = some (.int .i64 (g 11)) := Y2 11 (by decide)
                have x12 : wr.cell? ⟨bx, ox + k * 14 + 12, none⟩ = some (.int .i64 (g 12)) := X2 12 (by decide)
                have y12 : wr.cell? ⟨by', oy + k * 14 + 12, none⟩ = some (.int .i64 (g 12)) := Y2 12 (by decide)
                have x13 : wr.cell? ⟨bx, ox + k * 14 + 13, none⟩ = some (.int .i64 (g 13)) := X2 13 (by decide)
                have y13 : wr.cell? ⟨by', oy + k * 14 + 13, none⟩ = some (.int .i64 (g 13)) := Y2 13 (by decide)
                have e28 : ∀ w : World, (Op.equalIn 9999 28 (.agg #[.int .i64 (g 3), .int .i64 (g 4), .int .i64 (g 5), .int .i64 (g 6)]) (.agg #[.int .i64 (g 3), .int .i64 (g 4), .int .i64 (g 5), .int .i64 (g 6)])).run Try.prog w = .ok true w := fun w => by rw [eq28]; simp
                have HB := Lib.hid hB
                clear X2 Y2 X Y' hg hg2 hxs hys hB hbx hby
                go_wp2
                go_quiet (fail)
                go_wp2
                go_roundw
                case rel => exact ⟨k + 1, by omega, by go_num, drewN_below HB.out _⟩
                case measure => simp [intOf]; omega
              · obtain rfl : m2 = k := by omega
                have HB := Lib.hid (bY.out.trans (hB.mono bY.out.size))
                clear hB
                go_wp2_with fail
                refine (works_any _).mono ?_; rintro e' Z ⟨rfl, hbZ⟩
                go_wp2
                go_ret
                exact ⟨rfl, HB.out.trans (hbZ.mono HB.out.size)⟩
  · go_enter Try.func7, Try.ntmps7
    go_wp2_with fail
    rw [← hU]
    clear hU
    go_loopw [7, 8] (fun v7 v8 wr => ∃ k : Nat, k ≤ n ∧ v8 = .int .i64 k ∧ (∀ i, i < k → (rs i).len ≤ 70) ∧ ∃ qs, RwI U wr v7 k rs qs) (fun _ v8 _ => n - (intOf v8).toNat)
    case atStart => exact ⟨0, Nat.zero_le _, rfl, fun i hi => absurd hi (by omega), rs, RwI.new U rs rs⟩
    case round =>
      obtain ⟨k, hk, rfl, h70, qs, hI⟩ := hrel
      by_cases hlt : k < n
      · rcases HRU.out with h0 | ⟨b, off, rfl, hb, hrs⟩
        · omega
        have hB := hI.b
        obtain ⟨hcell, hlen, hsm⟩ := hrs k hlt
        have hrow := keepB hB hb hcell
        have hbr : b < wr.heap.size := Nat.lt_of_lt_of_le hb hB.size
        have HI := Lib.hid hI
        have H70 := Lib.hid h70
        have HBW := Lib.hid (show Below w.heap.size w wr from P0.out.b.trans (hB.mono P0.out.b.size))
        have hsm2 : SmpsIs wr (rs k).a (rs k).len (rs k).zs := by
          rcases hsm with h | ⟨b', o', e1, e2, e3⟩
          · exact .inl h
          · exact .inr ⟨b', o', e1, Nat.lt_of_lt_of_le e2 hB.size, e3.keep hB e2⟩
        obtain ⟨R, hR⟩ : ∃ R, R = rs k := ⟨_, rfl⟩
        rw [← hR] at hrow hsm2 hlen
        have HRK := Lib.hid hR
        clear hR
        obtain ⟨ra, rl, rq, zs⟩ := R
        dsimp only at hrow hsm2 hlen
        have HSM := Lib.hid hsm2
        clear hI h70 hB hcell hrs hsm hsm2
        by_cases hl7 : 70 < rl
        · have d7 : decide (70 < (rl : Int)) = true := decide_eq_true (by omega)
          clear hl7
          go_wp2_with fail
          refine (works_any _).mono ?_; rintro e' X ⟨rfl, hb'⟩
          go_wp2
          go_ret
          exact ⟨rfl, HBW.out.trans (hb'.mono HBW.out.size)⟩
        · have d7 : decide (70 < (rl : Int)) = false := decide_eq_false (by omega)
          go_wp2_with fail
          refine (samples_any ra rl rq zs wr (by omega) HSM.out).mono ?_; rintro e' Y ⟨v, rfl, hv, hbY⟩
          obtain ⟨q, rfl, hq1, hq2, hq3⟩ := smret_spt (fun j ej => (HI.out.r.lt j ej).2) hv
          have HIY := Lib.hid (HI.out.keep hbY)
          have HQ := Lib.hid (And.intro hq1 (And.intro hq2 hq3))
          have hbs := HIY.out.b.size
          clear hv hq1 hq2 hq3 hbY
          go_wp2_with (at_builtin; refine wpList_append_own_at _ rfl _ _ 62 rfl U.heap.size 58 i0 (.slice none 0 0) 1 24 Try.underlying62 hi hz0 hz1 hz2 rfl (by decide) _ _ _ rfl (HIY.out.r.alloc _) ⟨Y.heap.size, 0, none⟩ 1 1 [.slice q.a rl q.cap] rfl rfl (cell_one_new _ _ _) (by simp [Value.oneCell']) (by omega) (by omega) (by rw [World.size_alloc]; omega) ?_; intro v' w9 hown hgrow _ hat; have HX := Lib.hid (HIY.out.grown (q := q) (by rw [HQ.out.1, ← HRK.out]) (by rw [HQ.out.2.1, ← HRK.out]) HQ.out.2.2 hgrow (by rw [HQ.out.1]; exact hown) hat); clear hown hgrow hat)
          go_roundw
          case rel =>
            refine ⟨k + 1, by omega, by go_num, fun i hi2 => ?_, _, HX.out⟩
            by_cases hik : i = k
            · rw [hik, ← HRK.out]; show rl ≤ 70; omega
            · exact H70.out i (by omega)
          case measure => simp [intOf]; omega
      · obtain rfl : n = k := by omega
        obtain ⟨av, cv, rfl, hrw⟩ := hI.open (fun i hi2 => by have := h70 i hi2; omega)
        have HQ := Lib.hid hrw
        have HS := Lib.hid (fun i (hi2 : i < n) => (show (qs i).len = (rs i).len ∧ (qs i).zs = (rs i).zs from ⟨(hI.s i hi2).1, (hI.s i hi2).2.1⟩))
        have H70 := Lib.hid h70
        have PR := Lib.hid (P0.out.keep (show Below U.heap.size U wr from hI.b))
        have HRW := Lib.hid (HRU.out.keep hI.b)
        clear hI hrw h70 hk hlt
        obtain ⟨E, hE⟩ : ∃ E, E = rayE l kd f s c lv ph n0 n1 n rs := ⟨_, rfl⟩
        have HRY : Hid (∀ W : World, Below wr.heap.size wr W → Calls Try.prog 30 #[.agg #[.int .i64 l, .int .i64 kd, .int .i64 f, .int .i64 s, .int .i64 c], .agg #[.int .i64 lv, .int .i64 ph, .int .i64 n0, .int .i64 n1], .slice a n cap] W (fun e w' => ∃ m, RayRet W E m (rayG l kd c lv ph n0 n1 rs) e w' ∧ (E = 0 → m = n))) := Lib.hid fun W hW => by rw [hE]; exact Ray_any l kd f s c lv ph n0 n1 a n cap rs W (HRW.out.keep hW)
        have HRF : Hid (∀ W : World, Below wr.heap.size wr W → Calls Try.prog 31 #[.agg #[.int .i64 l, .int .i64 kd, .int .i64 f, .int .i64 s, .int .i64 c], .agg #[.int .i64 lv, .int .i64 ph, .int .i64 n0, .int .i64 n1], .slice av n cv] W (fun e w' => ∃ m, RayRet W E m (rayG l kd c lv ph n0 n1 qs) e w' ∧ (E = 0 → m = n))) := Lib.hid fun W hW => by rw [hE]; exact refRay_any l kd f s c lv ph n0 n1 av n cv rs qs W (HQ.out.keep hW) HS.out (fun i hi2 => by have := H70.out i hi2; omega)
        clear hE
        obtain ⟨c0, c1, c2, c3, c4, c5, c6, c7, c8, hz, hbw⟩ := PR.out
        go_wp2_with fail
        refine (HRY.out _ (Below.refl _ _)).mono ?_; rintro e' X ⟨m, ⟨v, rfl, hv, hbX⟩, hm⟩
        clear c0 c1 c2 c3 c4 c5 c6 c7 c8 hz hbw
        have PX := Lib.hid (PR.out.keep hbX)
        obtain ⟨c0, c1, c2, c3, c4, c5, c6, c7, c8, hz, hbw⟩ := PX.out
        go_wp2_with fail
        refine (HRF.out _ hbX).mono ?_; rintro e' Y ⟨m2, ⟨v2, rfl, hv2, hbY⟩, hm2⟩
        have bY := Lib.hid (PX.out.b.trans (hbY.mono PX.out.b.size))
        clear c0 c1 c2 c3 c4 c5 c6 c7 c8 hz hbw PX PR HRY HRF
        have hE1 : (E != E) = false := by simp
        rcases hv with ⟨hE0, rfl⟩ | ⟨hE0, xa, xc, rfl, hx⟩
        · rcases hv2 with ⟨_, rfl⟩ | ⟨hE2, _⟩
          · clear hE0 hm hm2
            go_wp2_with fail
            go_loopw [13] (fun v13 wr => v13 = .int .i64 0 ∧ wr = Y) (fun _ _ => 0)
            case atStart => exact ⟨rfl, rfl⟩
            case round =>
              obtain ⟨rfl, rfl⟩ := hrel
              go_wp2_with fail
              refine (works_any _).mono ?_; rintro e' Z ⟨rfl, hbZ⟩
              go_wp2
              go_ret
              exact ⟨rfl, bY.out.trans (hbZ.mono bY.out.size)⟩
          · exact absurd hE2 hE0
        · rcases hv2 with ⟨hE2, _⟩ | ⟨_, ya, yc, rfl, hy⟩
          · exact absurd hE0 hE2
          · have em := hm hE0
            have em2 := hm2 hE0
            subst em
            subst em2
            have HXY := Lib.hid (hx.keep hbY)
            have HYY := Lib.hid hy
            clear hm hm2 hx hy
            subst hE0
            go_wp2_with fail
            go_loopw [13] (fun v13 wr => ∃ k : Nat, k ≤ m2 ∧ v13 = .int .i64 k ∧ Below Y.heap.size Y wr) (fun v13 _ => m2 - (intOf v13).toNat)
            case atStart => exact ⟨0, Nat.zero_le _, rfl, Below.refl _ _⟩
            case round =>
              obtain ⟨k, hk, rfl, hB⟩ := hrel
              by_cases hlt : k < m2
              · rcases HXY.out with h0 | ⟨bx, ox, rfl, hbx, hxs⟩
                · omega
                rcases HYY.out with h0 | ⟨by', oy, rfl, hby, hys⟩
                · omega
                obtain ⟨g, hg⟩ : ∃ g, g = rayG l kd c lv ph n0 n1 rs k := ⟨_, rfl⟩
                have hg2 : rayG l kd c lv ph n0 n1 qs k = g := by rw [hg]; unfold rayG; rw [(HS.out k hlt).1, (HS.out k hlt).2]
                have X := hxs.keep hB hbx
                have Y' := hys.keep hB hby
                have lbx : bx < wr.heap.size := Nat.lt_of_lt_of_le hbx hB.size
                have lby : by' < wr.heap.size := Nat.lt_of_lt_of_le hby hB.size
                have X2 : ∀ j, j < 14 → wr.cell? ⟨bx, ox + k * 14 + j, none⟩ = some (.int .i64 (g j)) := fun j hj => by rw [hg]; exact X k hlt j hj
                have Y2 : ∀ j, j < 14 → wr.cell? ⟨by', oy + k * 14 + j, none⟩ = some (.int .i64 (g j)) := fun j hj => by rw [← hg2]; exact Y' k hlt j hj
                have x0 : wr.cell? ⟨bx, ox + k * 14, none⟩ = some (.int .i64 (g 0)) := X2 0 (by decide)
                have y0 : wr.cell? ⟨by', oy + k * 14, none⟩ = some (.int .i64 (g 0)) := Y2 0 (by decide)
                have x1 : wr.cell? ⟨bx, ox + k * 14 + 1, none⟩ = some (.int .i64 (g 1)) := X2 1 (by decide)
                have y1 : wr.cell? ⟨by', oy + k * 14 + 1, none⟩ = some (.int .i64 (g 1)) := Y2 1 (by decide)
                have x2 : wr.cell? ⟨bx, ox + k * 14 + 2, none⟩ = some (.int .i64 (g 2)) := X2 2 (by decide)
                have y2 : wr.cell? ⟨by', oy + k * 14 + 2, none⟩ = some (.int .i64 (g 2)) := Y2 2 (by decide)
                have x3 : wr.cell? ⟨bx, ox + k * 14 + 3, none⟩ = some (.int .i64 (g 3)) := X2 3 (by decide)
                have y3 : wr.cell? ⟨by', oy + k * 14 + 3, none⟩ = some (.int .i64 (g 3)) := Y2 3 (by decide)
                have x4 : wr.cell? ⟨bx, ox + k * 14 + 4, none⟩ = some (.int .i64 (g 4)) := X2 4 (by decide)
                have y4 : wr.cell? ⟨by', oy + k * 14 + 4, none⟩ = some (.int .i64 (g 4)) := Y2 4 (by decide)
                have x5 : wr.cell? ⟨bx, ox + k * 14 + 5, none⟩ = some (.int .i64 (g 5)) := X2 5 (by decide)
                have y5 : wr.cell? ⟨by', oy + k * 14 + 5, none⟩ = some (.int .i64 (g 5)) := Y2 5 (by decide)
                have x6 : wr.cell? ⟨bx, ox + k * 14 + 6, none⟩ = some (.int .i64 (g 6)) := X2 6 (by decide)
                have y6 : wr.cell? ⟨by', oy + k * 14 + 6, none⟩ = some (.int .i64 (g 6)) := Y2 6 (by decide)
                have x7 : wr.cell? ⟨bx, ox + k * 14 + 7, none⟩ = some (.int .i64 (g 7)) := X2 7 (by decide)
                have y7 : wr.cell? ⟨by', oy + k * 14 + 7, none⟩ = some (.int .i64 (g 7)) := Y2 7 (by decide)
                have x8 : wr.cell? ⟨bx, ox + k * 14 + 8, none⟩ = some (.int .i64 (g 8)) := X2 8 (by decide)
                have y8 : wr.cell? ⟨by', oy + k * 14 + 8, none⟩ = some (.int .i64 (g 8)) := Y2 8 (by decide)
                have x9 : wr.cell? ⟨bx, ox + k * 14 + 9, none⟩ = some (.int .i64 (g 9)) := X2 9 (by decide)
                have y9 : wr.cell? ⟨by', oy + k * 14 + 9, none⟩ = some (.int .i64 (g 9)) := Y2 9 (by decide)
                have x10 : wr.cell? ⟨bx, ox + k * 14 + 10, none⟩ = some (.int .i64 (g 10)) := X2 10 (by decide)
                have y10 : wr.cell? ⟨by', oy + k * 14 + 10, none⟩ = some (.int .i64 (g 10)) := Y2 10 (by decide)
                have x11 : wr.cell? ⟨bx, ox + k * 14 + 11, none⟩ = some (.int .i64 (g 11)) := X2 11 (by decide)
                have y11 : wr.cell? ⟨by', oy + k * 14 + 11, none⟩ = some (.int .i64 (g 11)) := Y2 11 (by decide)
                have x12 : wr.cell? ⟨bx, ox + k * 14 + 12, none⟩ = some (.int .i64 (g 12)) := X2 12 (by decide)
                have y12 : wr.cell? ⟨by', oy + k * 14 + 12, none⟩ = some (.int .i64 (g 12)) := Y2 12 (by decide)
                have x13 : wr.cell? ⟨bx, ox + k * 14 + 13, none⟩ = some (.int .i64 (g 13)) := X2 13 (by decide)
                have y13 : wr.cell? ⟨by', oy + k * 14 + 13, none⟩ = some (.int .i64 (g 13)) := Y2 13 (by decide)
                have e28 : ∀ w : World, (Op.equalIn 9999 28 (.agg #[.int .i64 (g 3), .int .i64 (g 4), .int .i64 (g 5), .int .i64 (g 6)]) (.agg #[.int .i64 (g 3), .int .i64 (g 4), .int .i64 (g 5), .int .i64 (g 6)])).run Try.prog w = .ok true w := fun w => by rw [eq28]; simp
                have HB := Lib.hid hB
                clear X2 Y2 X Y' hg hg2 hxs hys hB hbx hby
                go_wp2
                go_quiet (fail)
                go_wp2
                go_roundw
                case rel => exact ⟨k + 1, by omega, by go_num, drewN_below HB.out _⟩
                case measure => simp [intOf]; omega
              · obtain rfl : m2 = k := by omega
                have HB := Lib.hid (bY.out.trans (hB.mono bY.out.size))
                clear hB
                go_wp2_with fail
                refine (works_any _).mono ?_; rintro e' Z ⟨rfl, hbZ⟩
                go_wp2
                go_ret
                exact ⟨rfl, HB.out.trans (hbZ.mono HB.out.size)⟩
theorem PulseRays_walk (l kd f s c lv ph n0 n1 : Int) (a : Option Addr) (n cap : Nat) (rs : Nat → SmpR) (w : World) (hn : n ≤ maxLen) (hR : RwsIs w a n rs) :
    Calls Try.prog 7 #[.agg #[.int .i64 l, .int .i64 kd, .int .i64 f, .int .i64 s, .int .i64 c], .agg #[.int .i64 lv, .int .i64 ph, .int .i64 n0, .int .i64 n1], .slice a n cap] w fun e w' => e = .returned (.bool true) ∧ Below w.heap.size w w' := by
  by_cases h : (20 < n ∧ n ≤ 200) ∨ 300 < n
  · exact PulseRays_skip l kd f s c lv ph n0 n1 a n cap w h
  · refine PulseRays_go l kd f s c lv ph n0 n1 a n cap rs w ?_ (by omega) hR
    by_cases h1 : 20 < n
    · exact .inr ⟨decide_eq_true (by omega), decide_eq_false (by omega)⟩
    · exact .inl (decide_eq_false (by omega))

end Go.Proofs.Ytmojnopgpgnfeaa
