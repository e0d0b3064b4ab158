/-
  Two pairs that contradict each other.
-/
import Derived.Test.YtdmbkhmhaininaaGQ
import Derived.Test.YtdmbkhmhaininaaY0
import Derived.Deep.Cut
import Derived.Deep.CutRange
import Derived.WalkMore
namespace Go.Proofs.Ytdmbkhmhaininaa
open Go.RowKit
set_option linter.unusedVariables false
set_option linter.unusedSimpArgs false

theorem two_prs (w : World) (p q : Pr) : PrsAt (w.alloc (.cells #[.int .i64 p.s1, .int .i64 p.s2, .int .i64 p.ti, .int .i64 p.sz, .int .i64 q.s1, .int .i64 q.s2, .int .i64 q.ti, .int .i64 q.sz] 70)) w.heap.size 0 2 (twoP p q) := fun i hi => by
  match i, hi with
  | 0, _ => exact ⟨alloc_new rfl rfl, alloc_new rfl rfl, alloc_new rfl rfl, alloc_new rfl rfl⟩
  | 1, _ => exact ⟨alloc_new rfl rfl, alloc_new rfl rfl, alloc_new rfl rfl, alloc_new rfl rfl⟩
theorem two_ok {p q : Pr} (hp : PrOk p) (hq : PrOk q) : ∀ j, j < 2 → PrOk (twoP p q j) := fun j hj => by
  unfold twoP; split
  · exact hp
  · exact hq
theorem cm_two (p q : Pr) : cmS (twoP p q) 2 = !badP p q := by
  rw [bad_two]
  have e : cF (twoP p q) 2 = (max (max 1 (cLo p)) (cLo q), min (min 100000 (rHi p)) (rHi q)) := rfl
  unfold cmS
  rw [e]
  by_cases h : max (max 1 (cLo p)) (cLo q) ≤ min (min 100000 (rHi p)) (rHi q)
  · rw [decide_eq_true h, decide_eq_false (by omega)]; rfl
  · rw [decide_eq_false h, decide_eq_true (by omega)]; rfl
/-- the result's box while pairs are tried -/
structure CtR (w wr : World) : Prop where
  r0 : wr.cell? ⟨w.heap.size, 0, none⟩ = some (.int .i64 0)
  r1 : wr.cell? ⟨w.heap.size, 1, none⟩ = some (.int .i64 0)
  g0 : wr.frozen? ⟨w.heap.size, 0, none⟩ = false
  g1 : wr.frozen? ⟨w.heap.size, 1, none⟩ = false
  z : w.heap.size < wr.heap.size
  b : Below w.heap.size w wr
theorem CtR.keep {w W w1 : World} (R : CtR w W) (hb : Below W.heap.size W w1) : CtR w w1 :=
  ⟨keepB hb R.z R.r0, keepB hb R.z R.r1, keepF hb R.z R.g0, keepF hb R.z R.g1, Nat.lt_of_lt_of_le R.z hb.size, R.b.trans (hb.mono R.b.size)⟩
theorem CtR.new (w : World) : CtR w (w.alloc (.cells #[.int .i64 0, .int .i64 0] 76)) := ⟨alloc_new rfl rfl, alloc_new rfl rfl, alloc_newF rfl, alloc_newF rfl, by rw [World.size_alloc]; omega, below_alloc _ _⟩

set_option maxRecDepth 100000 in
set_option maxHeartbeats 12800000 in
theorem contr_some (b off n cap : Nat) (ps : Nat → Pr) (w : World) (hn : n ≤ 100) (hok : ∀ j, j < n → PrOk (ps j)) (hs : PrsAt w b off n ps) (hb : b < w.heap.size) (hbad : ∃ i j, i ≤ j ∧ j < n ∧ badP (ps i) (ps j) = true) :
    Calls Try.prog 76 #[.slice (some ⟨b, off, none⟩) n cap] w fun e w' => ∃ i j : Nat, FirstBad n ps i j ∧ e = .returned (.agg #[.int .i64 (i : Int), .int .i64 (j : Int)]) ∧ Below w.heap.size w w' := by
  have HS := Lib.hid hs
  have HO := Lib.hid hok
  have HB := Lib.hid hbad
  clear hs hok hbad
  have HN := Lib.hid (CtR.new w)
  obtain ⟨A, hA⟩ : ∃ A, A = w.alloc (.cells #[.int .i64 0, .int .i64 0] 76) := ⟨_, rfl⟩
  rw [← hA] at HN
  go_enter Try.func76, Try.ntmps76
  go_wp2_with fail
  rw [← hA]
  clear hA
  go_step3
  go_wp2
  go_step3
  go_wp2
  go_loopw [9] (fun s9 wr => ∃ i : Nat, i ≤ n ∧ s9 = .int .i64 i ∧ CtR w wr ∧ ∀ a b, a < i → a ≤ b → b < n → badP (ps a) (ps b) = false) (fun s9 _ => n - (intOf s9).toNat)
  case atStart => exact ⟨0, Nat.zero_le _, rfl, HN.out, fun a b h => by omega⟩
  case round =>
    clear HN A
    obtain ⟨i, hi, rfl, hR, hrows⟩ := hrel
    have HR := Lib.hid hR
    have HRows := Lib.hid hrows
    clear hR hrows
    by_cases hil : i < n
    · have qi0 : (0 : Int) ≤ (i : Int) := by omega
      have qi1 : (i : Int) < (n : Int) := by omega
      go_wp2
      go_loopw [4] (fun s4 wr => ∃ j : Nat, i ≤ j ∧ j ≤ n ∧ s4 = .int .i64 j ∧ CtR w wr ∧ ∀ b, i ≤ b → b < j → badP (ps i) (ps b) = false) (fun s4 _ => n - (intOf s4).toNat)
      case atStart => exact ⟨i, Nat.le_refl _, hi, rfl, HR.out, fun b h1 h2 => by omega⟩
      case round =>
      clear HR
      obtain ⟨j, hij, hj, rfl, hR, hrow⟩ := hrel
      have HR := Lib.hid hR
      have HRow := Lib.hid hrow
      have hbw := hR.b
      clear hrow hR
      by_cases hjl : j < n
      · have c0 := keepB hbw hb (HS.out i hil).1
        have c1 := keepB hbw hb (HS.out i hil).2.1
        have c2 := keepB hbw hb (HS.out i hil).2.2.1
        have c3 := keepB hbw hb (HS.out i hil).2.2.2
        have d0 := keepB hbw hb (HS.out j hjl).1
        have d1 := keepB hbw hb (HS.out j hjl).2.1
        have d2 := keepB hbw hb (HS.out j hjl).2.2.1
        have d3 := keepB hbw hb (HS.out j hjl).2.2.2
        have lbr : b < wr.heap.size := Nat.lt_of_lt_of_le hb hbw.size
        have qj0 : (0 : Int) ≤ (j : Int) := by omega
        have qj1 : (j : Int) < (n : Int) := by omega
        obtain ⟨cl, hcl⟩ : ∃ x, x = cmL (twoP (ps i) (ps j)) 2 := ⟨_, rfl⟩
        obtain ⟨ch, hch⟩ : ∃ x, x = cmH (twoP (ps i) (ps j)) 2 := ⟨_, rfl⟩
        clear hbw
        rcases Bool.eq_false_or_eq_true (badP (ps i) (ps j)) with hc | hc
        · skip
          have HC : Hid (∀ (W : World) (sq : Nat), PrsAt W sq 0 2 (twoP (ps i) (ps j)) → sq < W.heap.size → Calls Try.prog 74 #[.slice (some ⟨sq, 0, none⟩) 2 2, .func (Fn.func 75) #[] #[]] W fun e w' => e = .returned (.tuple #[.agg #[.int .i64 cl, .int .i64 ch], .bool false]) ∧ Below W.heap.size W w') := Lib.hid fun W sq h1 h2 => by
            have := common_some sq 0 2 2 (twoP (ps i) (ps j)) W (by decide) (two_ok (HO.out i hil) (HO.out j hjl)) h1 h2
            rw [cm_two, hc, ← hcl, ← hch] at this
            exact this
          clear hcl hch
          go_upto_region 7 with fail
          have HS7 := Lib.hid (show (fun w' : World => w'.cell? ⟨b, off + i * 4, none⟩ = some (.int .i64 (ps i).s1) ∧ w'.cell? ⟨b, off + i * 4 + 1, none⟩ = some (.int .i64 (ps i).s2) ∧ w'.cell? ⟨b, off + i * 4 + 2, none⟩ = some (.int .i64 (ps i).ti) ∧ w'.cell? ⟨b, off + i * 4 + 3, none⟩ = some (.int .i64 (ps i).sz) ∧ w'.cell? ⟨b, off + j * 4, none⟩ = some (.int .i64 (ps j).s1) ∧ w'.cell? ⟨b, off + j * 4 + 1, none⟩ = some (.int .i64 (ps j).s2) ∧ w'.cell? ⟨b, off + j * 4 + 2, none⟩ = some (.int .i64 (ps j).ti) ∧ w'.cell? ⟨b, off + j * 4 + 3, none⟩ = some (.int .i64 (ps j).sz) ∧ Below wr.heap.size wr w') wr.drew from ⟨c0, c1, c2, c3, d0, d1, d2, d3, (Below.refl _ _).drew⟩)
          clear c0 c1 c2 c3 d0 d1 d2 d3
          go_cut [5, 6] from 13 to 36 (fun a b wx => ∃ q : Nat, a = .pointer (some ⟨q, 0, none⟩) ∧ b = .bool false ∧ Below wr.heap.size wr wx)
          case first =>
            refine wp_region_held_tail (S := (fun w' : World => w'.cell? ⟨b, off + i * 4, none⟩ = some (.int .i64 (ps i).s1) ∧ w'.cell? ⟨b, off + i * 4 + 1, none⟩ = some (.int .i64 (ps i).s2) ∧ w'.cell? ⟨b, off + i * 4 + 2, none⟩ = some (.int .i64 (ps i).ti) ∧ w'.cell? ⟨b, off + i * 4 + 3, none⟩ = some (.int .i64 (ps i).sz) ∧ w'.cell? ⟨b, off + j * 4, none⟩ = some (.int .i64 (ps j).s1) ∧ w'.cell? ⟨b, off + j * 4 + 1, none⟩ = some (.int .i64 (ps j).s2) ∧ w'.cell? ⟨b, off + j * 4 + 2, none⟩ = some (.int .i64 (ps j).ti) ∧ w'.cell? ⟨b, off + j * 4 + 3, none⟩ = some (.int .i64 (ps j).sz) ∧ Below wr.heap.size wr w')) 15 (by kernel_rfl) (by kernel_rfl) HS7.out (fun hHeld => ?_)
            obtain ⟨D, hD⟩ : ∃ D, D = wr.drew := ⟨_, rfl⟩
            rw [← hD] at hHeld ⊢
            clear hD
            refine wpAnyH_take (i := 0) (v := ?v0_18) rfl (by kernel_rfl) (by kernel_rfl) (by kernel_rfl) (fun _ _ _ h => h) (Or.inl ⟨by rfl, ?hy0_18⟩) (by assumption) ?rest0_18
            case hy0_18 => (intro w hSw; (try dsimp only at hSw); go_simp; (try with_reducible rfl))
            try simp only [Act.put, List.getElem_toArray, List.getElem_cons_zero, List.getElem_cons_succ, List.setIfInBounds_toArray, List.set_cons_zero, List.set_cons_succ]
            refine wpAnyH_take (i := 1) (v := ?v1_19) rfl (by kernel_rfl) (by kernel_rfl) (by kernel_rfl) (fun _ _ _ h => h) (Or.inl ⟨by rfl, ?hy1_19⟩) (by assumption) ?rest1_19
            case hy1_19 => (intro w hSw; (try dsimp only at hSw); go_simp; (try with_reducible rfl))
            try simp only [Act.put, List.getElem_toArray, List.getElem_cons_zero, List.getElem_cons_succ, List.setIfInBounds_toArray, List.set_cons_zero, List.set_cons_succ]
            refine wpAnyH_take (i := 2) (v := ?v2_20) rfl (by kernel_rfl) (by kernel_rfl) (by kernel_rfl) (fun _ _ _ h => h) (Or.inl ⟨by rfl, ?hy2_20⟩) (by assumption) ?rest2_20
            case hy2_20 => (intro w hSw; (try dsimp only at hSw); go_simp; (try with_reducible rfl))
            try simp only [Act.put, List.getElem_toArray, List.getElem_cons_zero, List.getElem_cons_succ, List.setIfInBounds_toArray, List.set_cons_zero, List.set_cons_succ]
            refine wpAnyH_take (i := 3) (v := ?v3_21) rfl (by kernel_rfl) (by kernel_rfl) (by kernel_rfl) (fun _ _ _ h => h) (Or.inl ⟨by rfl, ?hy3_21⟩) (by assumption) ?rest3_21
            case hy3_21 => (intro w hSw; (try dsimp only at hSw); go_simp; (try with_reducible rfl))
            try simp only [Act.put, List.getElem_toArray, List.getElem_cons_zero, List.getElem_cons_succ, List.setIfInBounds_toArray, List.set_cons_zero, List.set_cons_succ]
            refine wpAnyH_take (i := 4) (v := ?v4_22) rfl (by kernel_rfl) (by kernel_rfl) (by kernel_rfl) (fun _ _ _ h => h) (Or.inl ⟨by rfl, ?hy4_22⟩) (by assumption) ?rest4_22
            case hy4_22 => (intro w hSw; (try dsimp only at hSw); go_simp; (try with_reducible rfl))
            try simp only [Act.put, List.getElem_toArray, List.getElem_cons_zero, List.getElem_cons_succ, List.setIfInBounds_toArray, List.set_cons_zero, List.set_cons_succ]
            refine wpAnyH_take (i := 5) (v := ?v5_23) rfl (by kernel_rfl) (by kernel_rfl) (by kernel_rfl) (fun _ _ _ h => h) (Or.inl ⟨by rfl, ?hy5_23⟩) (by assumption) ?rest5_23
            case hy5_23 => (intro w hSw; (try dsimp only at hSw); go_simp; (try with_reducible rfl))
            try simp only [Act.put, List.getElem_toArray, List.getElem_cons_zero, List.getElem_cons_succ, List.setIfInBounds_toArray, List.set_cons_zero, List.set_cons_succ]
            refine wpAnyH_take (i := 6) (v := ?v6_24) rfl (by kernel_rfl) (by kernel_rfl) (by kernel_rfl) (fun _ _ _ h => h) (Or.inl ⟨by rfl, ?hy6_24⟩) (by assumption) ?rest6_24
            case hy6_24 => (intro w hSw; (try dsimp only at hSw); go_simp; (try with_reducible rfl))
            try simp only [Act.put, List.getElem_toArray, List.getElem_cons_zero, List.getElem_cons_succ, List.setIfInBounds_toArray, List.set_cons_zero, List.set_cons_succ]
            refine wpAnyH_take (i := 7) (v := ?v7_25) rfl (by kernel_rfl) (by kernel_rfl) (by kernel_rfl) (fun _ _ _ h => h) (Or.inl ⟨by rfl, ?hy7_25⟩) (by assumption) ?rest7_25
            case hy7_25 => (intro w hSw; (try dsimp only at hSw); go_simp; (try with_reducible rfl))
            try simp only [Act.put, List.getElem_toArray, List.getElem_cons_zero, List.getElem_cons_succ, List.setIfInBounds_toArray, List.set_cons_zero, List.set_cons_succ]
            refine wpAnyH_ready (rs := [8, 13]) (by kernel_rfl) (by simp) ?_
            refine AllReadyH.cons rfl (fun K hK => ?_) (AllReadyH.cons rfl (fun K hK => ?_) AllReadyH.nil)
            · skip
              go_simp
              have tp := two_prs D (ps i) (ps j)
              have ztp : D.heap.size < (D.alloc (.cells #[.int .i64 (ps i).s1, .int .i64 (ps i).s2, .int .i64 (ps i).ti, .int .i64 (ps i).sz, .int .i64 (ps j).s1, .int .i64 (ps j).s2, .int .i64 (ps j).ti, .int .i64 (ps j).sz] 70)).heap.size := by rw [World.size_alloc]; omega
              have hb' : Below D.heap.size D (D.alloc (.cells #[.int .i64 (ps i).s1, .int .i64 (ps i).s2, .int .i64 (ps i).ti, .int .i64 (ps i).sz, .int .i64 (ps j).s1, .int .i64 (ps j).s2, .int .i64 (ps j).ti, .int .i64 (ps j).sz] 70)) := below_alloc _ _
              obtain ⟨btp, hq⟩ : ∃ q, q = D.heap.size := ⟨_, rfl⟩
              obtain ⟨W1, hF⟩ : ∃ F, F = D.alloc (.cells #[.int .i64 (ps i).s1, .int .i64 (ps i).s2, .int .i64 (ps i).ti, .int .i64 (ps i).sz, .int .i64 (ps j).s1, .int .i64 (ps j).s2, .int .i64 (ps j).ti, .int .i64 (ps j).sz] 70) := ⟨_, rfl⟩
              rw [← hF, ← hq] at tp ztp
              rw [← hF] at hb' ⊢
              rw [← hq]
              refine hK.out _ _ (⟨keepW hb' hHeld.1, keepW hb' hHeld.2.1, keepW hb' hHeld.2.2.1, keepW hb' hHeld.2.2.2.1, keepW hb' hHeld.2.2.2.2.1, keepW hb' hHeld.2.2.2.2.2.1, keepW hb' hHeld.2.2.2.2.2.2.1, keepW hb' hHeld.2.2.2.2.2.2.2.1, hHeld.2.2.2.2.2.2.2.2.trans (hb'.mono hHeld.2.2.2.2.2.2.2.2.size)⟩) (fun hHeld2 => ?_)
              clear hK K hHeld hb' hF hq
              have hHeld := hHeld2
              clear hHeld2
              try simp only [Act.put, List.getElem_toArray, List.getElem_cons_zero, List.getElem_cons_succ, List.setIfInBounds_toArray, List.set_cons_zero, List.set_cons_succ]
              refine wpAnyH_ready (rs := [9, 13]) (by kernel_rfl) (by simp) ?_
              refine AllReadyH.cons rfl (fun K hK => ?_) (AllReadyH.cons rfl (fun K hK => ?_) AllReadyH.nil)
              · skip
                go_simp
                go_at_call 74; refine (HC.out _ _ tp ztp).mono ?_; rintro e' W2 ⟨rfl, hb'⟩
                have tp := tp.keep hb' ztp
                have ztp := Nat.lt_of_lt_of_le ztp hb'.size
                refine hK.out _ _ (⟨keepW hb' hHeld.1, keepW hb' hHeld.2.1, keepW hb' hHeld.2.2.1, keepW hb' hHeld.2.2.2.1, keepW hb' hHeld.2.2.2.2.1, keepW hb' hHeld.2.2.2.2.2.1, keepW hb' hHeld.2.2.2.2.2.2.1, keepW hb' hHeld.2.2.2.2.2.2.2.1, hHeld.2.2.2.2.2.2.2.2.trans (hb'.mono hHeld.2.2.2.2.2.2.2.2.size)⟩) (fun hHeld2 => ?_)
                clear hK K hHeld hb'
                have hHeld := hHeld2
                clear hHeld2
                try simp only [Act.put, List.getElem_toArray, List.getElem_cons_zero, List.getElem_cons_succ, List.setIfInBounds_toArray, List.set_cons_zero, List.set_cons_succ]
                refine wpAnyH_take (i := 10) (v := ?v10_26) rfl (by kernel_rfl) (by kernel_rfl) (by kernel_rfl) (fun _ _ _ h => h) (Or.inl ⟨by rfl, ?hy10_26⟩) (by assumption) ?rest10_26
                case hy10_26 => (intro w hSw; (try dsimp only at hSw); go_simp; (try with_reducible rfl))
                try simp only [Act.put, List.getElem_toArray, List.getElem_cons_zero, List.getElem_cons_succ, List.setIfInBounds_toArray, List.set_cons_zero, List.set_cons_succ]
                refine wpAnyH_take (i := 11) (v := ?v11_27) rfl (by kernel_rfl) (by kernel_rfl) (by kernel_rfl) (fun _ _ _ h => h) (Or.inl ⟨by rfl, ?hy11_27⟩) (by assumption) ?rest11_27
                case hy11_27 => (intro w hSw; (try dsimp only at hSw); go_simp; (try with_reducible rfl))
                try simp only [Act.put, List.getElem_toArray, List.getElem_cons_zero, List.getElem_cons_succ, List.setIfInBounds_toArray, List.set_cons_zero, List.set_cons_succ]
                refine wpAnyH_take (i := 12) (v := ?v12_28) rfl (by kernel_rfl) (by kernel_rfl) (by kernel_rfl) (fun _ _ _ h => h) (Or.inl ⟨by rfl, ?hy12_28⟩) (by assumption) ?rest12_28
                case hy12_28 => (intro w hSw; (try dsimp only at hSw); go_simp; (try with_reducible rfl))
                try simp only [Act.put, List.getElem_toArray, List.getElem_cons_zero, List.getElem_cons_succ, List.setIfInBounds_toArray, List.set_cons_zero, List.set_cons_succ]
                refine wpAnyH_ready (rs := [13]) (by kernel_rfl) (by simp) ?_
                refine AllReadyH.cons rfl (fun K hK => ?_) AllReadyH.nil
                go_simp
                have pq := SpB.new W2
                have zq : W2.heap.size < (W2.alloc (.cells #[.int .i64 0, .int .i64 0] 24)).heap.size := by rw [World.size_alloc]; omega
                have lq : wr.heap.size ≤ W2.heap.size := hHeld.2.2.2.2.2.2.2.2.size
                have hb' : Below W2.heap.size W2 (W2.alloc (.cells #[.int .i64 0, .int .i64 0] 24)) := below_alloc _ _
                obtain ⟨q, hq⟩ : ∃ q, q = W2.heap.size := ⟨_, rfl⟩
                obtain ⟨W3, hF⟩ : ∃ F, F = W2.alloc (.cells #[.int .i64 0, .int .i64 0] 24) := ⟨_, rfl⟩
                rw [← hF, ← hq] at pq zq
                rw [← hq] at lq
                rw [← hF] at hb' ⊢
                rw [← hq]
                have tp := tp.keep hb' ztp
                have ztp := Nat.lt_of_lt_of_le ztp hb'.size
                refine hK.out _ _ (⟨keepW hb' hHeld.1, keepW hb' hHeld.2.1, keepW hb' hHeld.2.2.1, keepW hb' hHeld.2.2.2.1, keepW hb' hHeld.2.2.2.2.1, keepW hb' hHeld.2.2.2.2.2.1, keepW hb' hHeld.2.2.2.2.2.2.1, keepW hb' hHeld.2.2.2.2.2.2.2.1, hHeld.2.2.2.2.2.2.2.2.trans (hb'.mono hHeld.2.2.2.2.2.2.2.2.size)⟩) (fun hHeld2 => ?_)
                clear hK K hHeld hb' hF hq
                have hHeld := hHeld2
                clear hHeld2
                try simp only [Act.put, List.getElem_toArray, List.getElem_cons_zero, List.getElem_cons_succ, List.setIfInBounds_toArray, List.set_cons_zero, List.set_cons_succ]
                refine wpAnyH_ready (rs := [14]) (by kernel_rfl) (by simp) ?_
                refine AllReadyH.cons rfl (fun K hK => ?_) AllReadyH.nil
                obtain ⟨oc0, oc1, of0, of1⟩ := pq
                go_simp
                have bZ : Below wr.heap.size wr ((W3.setCell ⟨q, 0, none⟩ (.int .i64 cl)).setCell ⟨q, 1, none⟩ (.int .i64 ch)) := ((hHeld.2.2.2.2.2.2.2.2.setCell (p := ⟨q, 0, none⟩) (by dsimp only; omega) _).setCell (p := ⟨q, 1, none⟩) (by dsimp only; omega) _)
                have bS : Below q W3 ((W3.setCell ⟨q, 0, none⟩ (.int .i64 cl)).setCell ⟨q, 1, none⟩ (.int .i64 ch)) := (((Below.refl q W3).setCell (p := ⟨q, 0, none⟩) (Nat.le_refl _) _).setCell (p := ⟨q, 1, none⟩) (Nat.le_refl _) _)
                have pq := SpB.put (u := cl) (v := ch) (⟨oc0, oc1, of0, of1⟩)
                have zz : q < ((W3.setCell ⟨q, 0, none⟩ (.int .i64 cl)).setCell ⟨q, 1, none⟩ (.int .i64 ch)).heap.size := by simp; exact zq
                obtain ⟨W4, hG⟩ : ∃ G, G = ((W3.setCell ⟨q, 0, none⟩ (.int .i64 cl)).setCell ⟨q, 1, none⟩ (.int .i64 ch)) := ⟨_, rfl⟩
                rw [← hG] at bZ bS pq zz ⊢
                refine hK.out _ _ (⟨keepB bS (by omega) hHeld.1, keepB bS (by omega) hHeld.2.1, keepB bS (by omega) hHeld.2.2.1, keepB bS (by omega) hHeld.2.2.2.1, keepB bS (by omega) hHeld.2.2.2.2.1, keepB bS (by omega) hHeld.2.2.2.2.2.1, keepB bS (by omega) hHeld.2.2.2.2.2.2.1, keepB bS (by omega) hHeld.2.2.2.2.2.2.2.1, bZ⟩) (fun hHeld2 => ?_)
                clear hK K hHeld hG bS zq oc0 of0 oc1 of1
                have hHeld := hHeld2
                clear hHeld2
                try simp only [Act.put, List.getElem_toArray, List.getElem_cons_zero, List.getElem_cons_succ, List.setIfInBounds_toArray, List.set_cons_zero, List.set_cons_succ]
                refine wpAnyH_done (by kernel_rfl) ?_ _
                change wpList _ _ _ _ _ _
                simp only [List.drop_succ_cons, List.drop_zero]
                go_wp2_with fail
                go_meet
                exact ⟨q, rfl, rfl, bZ⟩
              · skip
                go_simp
                have pq := SpB.new W1
                have zq : W1.heap.size < (W1.alloc (.cells #[.int .i64 0, .int .i64 0] 24)).heap.size := by rw [World.size_alloc]; omega
                have lq : wr.heap.size ≤ W1.heap.size := hHeld.2.2.2.2.2.2.2.2.size
                have hb' : Below W1.heap.size W1 (W1.alloc (.cells #[.int .i64 0, .int .i64 0] 24)) := below_alloc _ _
                obtain ⟨q, hq⟩ : ∃ q, q = W1.heap.size := ⟨_, rfl⟩
                obtain ⟨W5, hF⟩ : ∃ F, F = W1.alloc (.cells #[.int .i64 0, .int .i64 0] 24) := ⟨_, rfl⟩
                rw [← hF, ← hq] at pq zq
                rw [← hq] at lq
                rw [← hF] at hb' ⊢
                rw [← hq]
                have tp := tp.keep hb' ztp
                have ztp := Nat.lt_of_lt_of_le ztp hb'.size
                refine hK.out _ _ (⟨keepW hb' hHeld.1, keepW hb' hHeld.2.1, keepW hb' hHeld.2.2.1, keepW hb' hHeld.2.2.2.1, keepW hb' hHeld.2.2.2.2.1, keepW hb' hHeld.2.2.2.2.2.1, keepW hb' hHeld.2.2.2.2.2.2.1, keepW hb' hHeld.2.2.2.2.2.2.2.1, hHeld.2.2.2.2.2.2.2.2.trans (hb'.mono hHeld.2.2.2.2.2.2.2.2.size)⟩) (fun hHeld2 => ?_)
                clear hK K hHeld hb' hF hq
                have hHeld := hHeld2
                clear hHeld2
                try simp only [Act.put, List.getElem_toArray, List.getElem_cons_zero, List.getElem_cons_succ, List.setIfInBounds_toArray, List.set_cons_zero, List.set_cons_succ]
                refine wpAnyH_ready (rs := [9]) (by kernel_rfl) (by simp) ?_
                refine AllReadyH.cons rfl (fun K hK => ?_) AllReadyH.nil
                go_simp
                go_at_call 74; refine (HC.out _ _ tp ztp).mono ?_; rintro e' W6 ⟨rfl, hb'⟩
                have pq := pq.keep hb' zq
                have zq := Nat.lt_of_lt_of_le zq hb'.size
                have tp := tp.keep hb' ztp
                have ztp := Nat.lt_of_lt_of_le ztp hb'.size
                refine hK.out _ _ (⟨keepW hb' hHeld.1, keepW hb' hHeld.2.1, keepW hb' hHeld.2.2.1, keepW hb' hHeld.2.2.2.1, keepW hb' hHeld.2.2.2.2.1, keepW hb' hHeld.2.2.2.2.2.1, keepW hb' hHeld.2.2.2.2.2.2.1, keepW hb' hHeld.2.2.2.2.2.2.2.1, hHeld.2.2.2.2.2.2.2.2.trans (hb'.mono hHeld.2.2.2.2.2.2.2.2.size)⟩) (fun hHeld2 => ?_)
                clear hK K hHeld hb'
                have hHeld := hHeld2
                clear hHeld2
                try simp only [Act.put, List.getElem_toArray, List.getElem_cons_zero, List.getElem_cons_succ, List.setIfInBounds_toArray, List.set_cons_zero, List.set_cons_succ]
                refine wpAnyH_take (i := 10) (v := ?v10_29) rfl (by kernel_rfl) (by kernel_rfl) (by kernel_rfl) (fun _ _ _ h => h) (Or.inl ⟨by rfl, ?hy10_29⟩) (by assumption) ?rest10_29
                case hy10_29 => (intro w hSw; (try dsimp only at hSw); go_simp; (try with_reducible rfl))
                try simp only [Act.put, List.getElem_toArray, List.getElem_cons_zero, List.getElem_cons_succ, List.setIfInBounds_toArray, List.set_cons_zero, List.set_cons_succ]
                refine wpAnyH_take (i := 11) (v := ?v11_30) rfl (by kernel_rfl) (by kernel_rfl) (by kernel_rfl) (fun _ _ _ h => h) (Or.inl ⟨by rfl, ?hy11_30⟩) (by assumption) ?rest11_30
                case hy11_30 => (intro w hSw; (try dsimp only at hSw); go_simp; (try with_reducible rfl))
                try simp only [Act.put, List.getElem_toArray, List.getElem_cons_zero, List.getElem_cons_succ, List.setIfInBounds_toArray, List.set_cons_zero, List.set_cons_succ]
                refine wpAnyH_take (i := 12) (v := ?v12_31) rfl (by kernel_rfl) (by kernel_rfl) (by kernel_rfl) (fun _ _ _ h => h) (Or.inl ⟨by rfl, ?hy12_31⟩) (by assumption) ?rest12_31
                case hy12_31 => (intro w hSw; (try dsimp only at hSw); go_simp; (try with_reducible rfl))
                try simp only [Act.put, List.getElem_toArray, List.getElem_cons_zero, List.getElem_cons_succ, List.setIfInBounds_toArray, List.set_cons_zero, List.set_cons_succ]
                refine wpAnyH_ready (rs := [14]) (by kernel_rfl) (by simp) ?_
                refine AllReadyH.cons rfl (fun K hK => ?_) AllReadyH.nil
                obtain ⟨oc0, oc1, of0, of1⟩ := pq
                go_simp
                have bZ : Below wr.heap.size wr ((W6.setCell ⟨q, 0, none⟩ (.int .i64 cl)).setCell ⟨q, 1, none⟩ (.int .i64 ch)) := ((hHeld.2.2.2.2.2.2.2.2.setCell (p := ⟨q, 0, none⟩) (by dsimp only; omega) _).setCell (p := ⟨q, 1, none⟩) (by dsimp only; omega) _)
                have bS : Below q W6 ((W6.setCell ⟨q, 0, none⟩ (.int .i64 cl)).setCell ⟨q, 1, none⟩ (.int .i64 ch)) := (((Below.refl q W6).setCell (p := ⟨q, 0, none⟩) (Nat.le_refl _) _).setCell (p := ⟨q, 1, none⟩) (Nat.le_refl _) _)
                have pq := SpB.put (u := cl) (v := ch) (⟨oc0, oc1, of0, of1⟩)
                have zz : q < ((W6.setCell ⟨q, 0, none⟩ (.int .i64 cl)).setCell ⟨q, 1, none⟩ (.int .i64 ch)).heap.size := by simp; exact zq
                obtain ⟨W7, hG⟩ : ∃ G, G = ((W6.setCell ⟨q, 0, none⟩ (.int .i64 cl)).setCell ⟨q, 1, none⟩ (.int .i64 ch)) := ⟨_, rfl⟩
                rw [← hG] at bZ bS pq zz ⊢
                refine hK.out _ _ (⟨keepB bS (by omega) hHeld.1, keepB bS (by omega) hHeld.2.1, keepB bS (by omega) hHeld.2.2.1, keepB bS (by omega) hHeld.2.2.2.1, keepB bS (by omega) hHeld.2.2.2.2.1, keepB bS (by omega) hHeld.2.2.2.2.2.1, keepB bS (by omega) hHeld.2.2.2.2.2.2.1, keepB bS (by omega) hHeld.2.2.2.2.2.2.2.1, bZ⟩) (fun hHeld2 => ?_)
                clear hK K hHeld hG bS zq oc0 of0 oc1 of1
                have hHeld := hHeld2
                clear hHeld2
                try simp only [Act.put, List.getElem_toArray, List.getElem_cons_zero, List.getElem_cons_succ, List.setIfInBounds_toArray, List.set_cons_zero, List.set_cons_succ]
                refine wpAnyH_done (by kernel_rfl) ?_ _
                change wpList _ _ _ _ _ _
                simp only [List.drop_succ_cons, List.drop_zero]
                go_wp2_with fail
                go_meet
                exact ⟨q, rfl, rfl, bZ⟩
            · skip
              go_simp
              have pq := SpB.new D
              have zq : D.heap.size < (D.alloc (.cells #[.int .i64 0, .int .i64 0] 24)).heap.size := by rw [World.size_alloc]; omega
              have lq : wr.heap.size ≤ D.heap.size := hHeld.2.2.2.2.2.2.2.2.size
              have hb' : Below D.heap.size D (D.alloc (.cells #[.int .i64 0, .int .i64 0] 24)) := below_alloc _ _
              obtain ⟨q, hq⟩ : ∃ q, q = D.heap.size := ⟨_, rfl⟩
              obtain ⟨W8, hF⟩ : ∃ F, F = D.alloc (.cells #[.int .i64 0, .int .i64 0] 24) := ⟨_, rfl⟩
              rw [← hF, ← hq] at pq zq
              rw [← hq] at lq
              rw [← hF] at hb' ⊢
              rw [← hq]
              refine hK.out _ _ (⟨keepW hb' hHeld.1, keepW hb' hHeld.2.1, keepW hb' hHeld.2.2.1, keepW hb' hHeld.2.2.2.1, keepW hb' hHeld.2.2.2.2.1, keepW hb' hHeld.2.2.2.2.2.1, keepW hb' hHeld.2.2.2.2.2.2.1, keepW hb' hHeld.2.2.2.2.2.2.2.1, hHeld.2.2.2.2.2.2.2.2.trans (hb'.mono hHeld.2.2.2.2.2.2.2.2.size)⟩) (fun hHeld2 => ?_)
              clear hK K hHeld hb' hF hq
              have hHeld := hHeld2
              clear hHeld2
              try simp only [Act.put, List.getElem_toArray, List.getElem_cons_zero, List.getElem_cons_succ, List.setIfInBounds_toArray, List.set_cons_zero, List.set_cons_succ]
              refine wpAnyH_ready (rs := [8]) (by kernel_rfl) (by simp) ?_
              refine AllReadyH.cons rfl (fun K hK => ?_) AllReadyH.nil
              go_simp
              have tp := two_prs W8 (ps i) (ps j)
              have ztp : W8.heap.size < (W8.alloc (.cells #[.int .i64 (ps i).s1, .int .i64 (ps i).s2, .int .i64 (ps i).ti, .int .i64 (ps i).sz, .int .i64 (ps j).s1, .int .i64 (ps j).s2, .int .i64 (ps j).ti, .int .i64 (ps j).sz] 70)).heap.size := by rw [World.size_alloc]; omega
              have hb' : Below W8.heap.size W8 (W8.alloc (.cells #[.int .i64 (ps i).s1, .int .i64 (ps i).s2, .int .i64 (ps i).ti, .int .i64 (ps i).sz, .int .i64 (ps j).s1, .int .i64 (ps j).s2, .int .i64 (ps j).ti, .int .i64 (ps j).sz] 70)) := below_alloc _ _
              have pq := pq.keep hb' zq
              have zq := Nat.lt_of_lt_of_le zq hb'.size
              obtain ⟨btp, hq⟩ : ∃ q, q = W8.heap.size := ⟨_, rfl⟩
              obtain ⟨W9, hF⟩ : ∃ F, F = W8.alloc (.cells #[.int .i64 (ps i).s1, .int .i64 (ps i).s2, .int .i64 (ps i).ti, .int .i64 (ps i).sz, .int .i64 (ps j).s1, .int .i64 (ps j).s2, .int .i64 (ps j).ti, .int .i64 (ps j).sz] 70) := ⟨_, rfl⟩
              rw [← hF, ← hq] at tp ztp
              rw [← hF] at hb' ⊢
              rw [← hF] at pq zq
              rw [← hq]
              refine hK.out _ _ (⟨keepW hb' hHeld.1, keepW hb' hHeld.2.1, keepW hb' hHeld.2.2.1, keepW hb' hHeld.2.2.2.1, keepW hb' hHeld.2.2.2.2.1, keepW hb' hHeld.2.2.2.2.2.1, keepW hb' hHeld.2.2.2.2.2.2.1, keepW hb' hHeld.2.2.2.2.2.2.2.1, hHeld.2.2.2.2.2.2.2.2.trans (hb'.mono hHeld.2.2.2.2.2.2.2.2.size)⟩) (fun hHeld2 => ?_)
              clear hK K hHeld hb' hF hq
              have hHeld := hHeld2
              clear hHeld2
              try simp only [Act.put, List.getElem_toArray, List.getElem_cons_zero, List.getElem_cons_succ, List.setIfInBounds_toArray, List.set_cons_zero, List.set_cons_succ]
              refine wpAnyH_ready (rs := [9]) (by kernel_rfl) (by simp) ?_
              refine AllReadyH.cons rfl (fun K hK => ?_) AllReadyH.nil
              go_simp
              go_at_call 74; refine (HC.out _ _ tp ztp).mono ?_; rintro e' W10 ⟨rfl, hb'⟩
              have pq := pq.keep hb' zq
              have zq := Nat.lt_of_lt_of_le zq hb'.size
              have tp := tp.keep hb' ztp
              have ztp := Nat.lt_of_lt_of_le ztp hb'.size
              refine hK.out _ _ (⟨keepW hb' hHeld.1, keepW hb' hHeld.2.1, keepW hb' hHeld.2.2.1, keepW hb' hHeld.2.2.2.1, keepW hb' hHeld.2.2.2.2.1, keepW hb' hHeld.2.2.2.2.2.1, keepW hb' hHeld.2.2.2.2.2.2.1, keepW hb' hHeld.2.2.2.2.2.2.2.1, hHeld.2.2.2.2.2.2.2.2.trans (hb'.mono hHeld.2.2.2.2.2.2.2.2.size)⟩) (fun hHeld2 => ?_)
              clear hK K hHeld hb'
              have hHeld := hHeld2
              clear hHeld2
              try simp only [Act.put, List.getElem_toArray, List.getElem_cons_zero, List.getElem_cons_succ, List.setIfInBounds_toArray, List.set_cons_zero, List.set_cons_succ]
              refine wpAnyH_take (i := 10) (v := ?v10_32) rfl (by kernel_rfl) (by kernel_rfl) (by kernel_rfl) (fun _ _ _ h => h) (Or.inl ⟨by rfl, ?hy10_32⟩) (by assumption) ?rest10_32
              case hy10_32 => (intro w hSw; (try dsimp only at hSw); go_simp; (try with_reducible rfl))
              try simp only [Act.put, List.getElem_toArray, List.getElem_cons_zero, List.getElem_cons_succ, List.setIfInBounds_toArray, List.set_cons_zero, List.set_cons_succ]
              refine wpAnyH_take (i := 11) (v := ?v11_33) rfl (by kernel_rfl) (by kernel_rfl) (by kernel_rfl) (fun _ _ _ h => h) (Or.inl ⟨by rfl, ?hy11_33⟩) (by assumption) ?rest11_33
              case hy11_33 => (intro w hSw; (try dsimp only at hSw); go_simp; (try with_reducible rfl))
              try simp only [Act.put, List.getElem_toArray, List.getElem_cons_zero, List.getElem_cons_succ, List.setIfInBounds_toArray, List.set_cons_zero, List.set_cons_succ]
              refine wpAnyH_take (i := 12) (v := ?v12_34) rfl (by kernel_rfl) (by kernel_rfl) (by kernel_rfl) (fun _ _ _ h => h) (Or.inl ⟨by rfl, ?hy12_34⟩) (by assumption) ?rest12_34
              case hy12_34 => (intro w hSw; (try dsimp only at hSw); go_simp; (try with_reducible rfl))
              try simp only [Act.put, List.getElem_toArray, List.getElem_cons_zero, List.getElem_cons_succ, List.setIfInBounds_toArray, List.set_cons_zero, List.set_cons_succ]
              refine wpAnyH_ready (rs := [14]) (by kernel_rfl) (by simp) ?_
              refine AllReadyH.cons rfl (fun K hK => ?_) AllReadyH.nil
              obtain ⟨oc0, oc1, of0, of1⟩ := pq
              go_simp
              have bZ : Below wr.heap.size wr ((W10.setCell ⟨q, 0, none⟩ (.int .i64 cl)).setCell ⟨q, 1, none⟩ (.int .i64 ch)) := ((hHeld.2.2.2.2.2.2.2.2.setCell (p := ⟨q, 0, none⟩) (by dsimp only; omega) _).setCell (p := ⟨q, 1, none⟩) (by dsimp only; omega) _)
              have bS : Below q W10 ((W10.setCell ⟨q, 0, none⟩ (.int .i64 cl)).setCell ⟨q, 1, none⟩ (.int .i64 ch)) := (((Below.refl q W10).setCell (p := ⟨q, 0, none⟩) (Nat.le_refl _) _).setCell (p := ⟨q, 1, none⟩) (Nat.le_refl _) _)
              have pq := SpB.put (u := cl) (v := ch) (⟨oc0, oc1, of0, of1⟩)
              have zz : q < ((W10.setCell ⟨q, 0, none⟩ (.int .i64 cl)).setCell ⟨q, 1, none⟩ (.int .i64 ch)).heap.size := by simp; exact zq
              obtain ⟨W11, hG⟩ : ∃ G, G = ((W10.setCell ⟨q, 0, none⟩ (.int .i64 cl)).setCell ⟨q, 1, none⟩ (.int .i64 ch)) := ⟨_, rfl⟩
              rw [← hG] at bZ bS pq zz ⊢
              refine hK.out _ _ (⟨keepB bS (by omega) hHeld.1, keepB bS (by omega) hHeld.2.1, keepB bS (by omega) hHeld.2.2.1, keepB bS (by omega) hHeld.2.2.2.1, keepB bS (by omega) hHeld.2.2.2.2.1, keepB bS (by omega) hHeld.2.2.2.2.2.1, keepB bS (by omega) hHeld.2.2.2.2.2.2.1, keepB bS (by omega) hHeld.2.2.2.2.2.2.2.1, bZ⟩) (fun hHeld2 => ?_)
              clear hK K hHeld hG bS zq oc0 of0 oc1 of1
              have hHeld := hHeld2
              clear hHeld2
              try simp only [Act.put, List.getElem_toArray, List.getElem_cons_zero, List.getElem_cons_succ, List.setIfInBounds_toArray, List.set_cons_zero, List.set_cons_succ]
              refine wpAnyH_done (by kernel_rfl) ?_ _
              change wpList _ _ _ _ _ _
              simp only [List.drop_succ_cons, List.drop_zero]
              go_wp2_with fail
              go_meet
              exact ⟨q, rfl, rfl, bZ⟩
          case rest =>
          clear HS7 HC
          obtain ⟨q, rfl, rfl, hbx⟩ := hcut
          obtain ⟨wx, hwx⟩ : ∃ x, x = wc := ⟨_, rfl⟩
          rw [← hwx] at hbx ⊢
          clear hwx wc
          have RX := HR.out.keep hbx
          clear HR hbx
          have HF := Lib.hid (show FirstBad n ps i j from ⟨hij, hjl, hc, HRow.out, HRows.out⟩)
          obtain ⟨r0, r1, g0, g1, hz, hbw⟩ := RX
          clear HRow HRows HB HO HS hc
          have v0 : ((wx.setCell ⟨w.heap.size, 0, none⟩ (.int .i64 (i : Int))).setCell ⟨w.heap.size, 1, none⟩ (.int .i64 (j : Int))).cell? ⟨w.heap.size, 0, none⟩ = some (.int .i64 (i : Int)) := set_other (by decide) (set_same r0)
          have v1 : ((wx.setCell ⟨w.heap.size, 0, none⟩ (.int .i64 (i : Int))).setCell ⟨w.heap.size, 1, none⟩ (.int .i64 (j : Int))).cell? ⟨w.heap.size, 1, none⟩ = some (.int .i64 (j : Int)) := set_same (set_other (by decide) r1)
          have v2 : ((wx.setCell ⟨w.heap.size, 0, none⟩ (.int .i64 (i : Int))).setCell ⟨w.heap.size, 1, none⟩ (.int .i64 (j : Int))).frozen? ⟨w.heap.size, 0, none⟩ = false := by simp; exact g0
          have v3 : ((wx.setCell ⟨w.heap.size, 0, none⟩ (.int .i64 (i : Int))).setCell ⟨w.heap.size, 1, none⟩ (.int .i64 (j : Int))).frozen? ⟨w.heap.size, 1, none⟩ = false := by simp; exact g1
          have bV : Below w.heap.size w ((wx.setCell ⟨w.heap.size, 0, none⟩ (.int .i64 (i : Int))).setCell ⟨w.heap.size, 1, none⟩ (.int .i64 (j : Int))) := (hbw.setCell (p := ⟨w.heap.size, 0, none⟩) (by dsimp only; omega) _).setCell (p := ⟨w.heap.size, 1, none⟩) (by dsimp only; omega) _
          obtain ⟨V, hV⟩ : ∃ V, V = (wx.setCell ⟨w.heap.size, 0, none⟩ (.int .i64 (i : Int))).setCell ⟨w.heap.size, 1, none⟩ (.int .i64 (j : Int)) := ⟨_, rfl⟩
          rw [← hV] at v0 v1 v2 v3 bV
          go_upto_region 11 with fail
          rw [← hV]
          clear hV r0 r1 g0 g1 hbw hz
          go_wp2
          rw [Exit.noGoto_ret]
          have z0 : ((V.setCell ⟨w.heap.size, 0, none⟩ (.int .i64 (i : Int))).setCell ⟨w.heap.size, 1, none⟩ (.int .i64 (j : Int))).cell? ⟨w.heap.size, 0, none⟩ = some (.int .i64 (i : Int)) := set_other (by decide) (set_same v0)
          have z1 : ((V.setCell ⟨w.heap.size, 0, none⟩ (.int .i64 (i : Int))).setCell ⟨w.heap.size, 1, none⟩ (.int .i64 (j : Int))).cell? ⟨w.heap.size, 1, none⟩ = some (.int .i64 (j : Int)) := set_same (set_other (by decide) v1)
          exact bodyPost_ret (v := .agg #[.int .i64 (i : Int), .int .i64 (j : Int)]) (by simp [results, Try.results76, go_sem, z0, z1]) rfl ⟨i, j, HF.out, rfl, (bV.setCell (p := ⟨w.heap.size, 0, none⟩) (by dsimp only; omega) _).setCell (p := ⟨w.heap.size, 1, none⟩) (by dsimp only; omega) _⟩
        · skip
          have HC : Hid (∀ (W : World) (sq : Nat), PrsAt W sq 0 2 (twoP (ps i) (ps j)) → sq < W.heap.size → Calls Try.prog 74 #[.slice (some ⟨sq, 0, none⟩) 2 2, .func (Fn.func 75) #[] #[]] W fun e w' => e = .returned (.tuple #[.agg #[.int .i64 cl, .int .i64 ch], .bool true]) ∧ Below W.heap.size W w') := Lib.hid fun W sq h1 h2 => by
            have := common_some sq 0 2 2 (twoP (ps i) (ps j)) W (by decide) (two_ok (HO.out i hil) (HO.out j hjl)) h1 h2
            rw [cm_two, hc, ← hcl, ← hch] at this
            exact this
          clear hcl hch
          go_upto_region 7 with fail
          have HS7 := Lib.hid (show (fun w' : World => w'.cell? ⟨b, off + i * 4, none⟩ = some (.int .i64 (ps i).s1) ∧ w'.cell? ⟨b, off + i * 4 + 1, none⟩ = some (.int .i64 (ps i).s2) ∧ w'.cell? ⟨b, off + i * 4 + 2, none⟩ = some (.int .i64 (ps i).ti) ∧ w'.cell? ⟨b, off + i * 4 + 3, none⟩ = some (.int .i64 (ps i).sz) ∧ w'.cell? ⟨b, off + j * 4, none⟩ = some (.int .i64 (ps j).s1) ∧ w'.cell? ⟨b, off + j * 4 + 1, none⟩ = some (.int .i64 (ps j).s2) ∧ w'.cell? ⟨b, off + j * 4 + 2, none⟩ = some (.int .i64 (ps j).ti) ∧ w'.cell? ⟨b, off + j * 4 + 3, none⟩ = some (.int .i64 (ps j).sz) ∧ Below wr.heap.size wr w') wr.drew from ⟨c0, c1, c2, c3, d0, d1, d2, d3, (Below.refl _ _).drew⟩)
          clear c0 c1 c2 c3 d0 d1 d2 d3
          go_cut [5, 6] from 13 to 36 (fun a b wx => ∃ q : Nat, a = .pointer (some ⟨q, 0, none⟩) ∧ b = .bool true ∧ Below wr.heap.size wr wx)
          case first =>
            refine wp_region_held_tail (S := (fun w' : World => w'.cell? ⟨b, off + i * 4, none⟩ = some (.int .i64 (ps i).s1) ∧ w'.cell? ⟨b, off + i * 4 + 1, none⟩ = some (.int .i64 (ps i).s2) ∧ w'.cell? ⟨b, off + i * 4 + 2, none⟩ = some (.int .i64 (ps i).ti) ∧ w'.cell? ⟨b, off + i * 4 + 3, none⟩ = some (.int .i64 (ps i).sz) ∧ w'.cell? ⟨b, off + j * 4, none⟩ = some (.int .i64 (ps j).s1) ∧ w'.cell? ⟨b, off + j * 4 + 1, none⟩ = some (.int .i64 (ps j).s2) ∧ w'.cell? ⟨b, off + j * 4 + 2, none⟩ = some (.int .i64 (ps j).ti) ∧ w'.cell? ⟨b, off + j * 4 + 3, none⟩ = some (.int .i64 (ps j).sz) ∧ Below wr.heap.size wr w')) 15 (by kernel_rfl) (by kernel_rfl) HS7.out (fun hHeld => ?_)
            obtain ⟨D, hD⟩ : ∃ D, D = wr.drew := ⟨_, rfl⟩
            rw [← hD] at hHeld ⊢
            clear hD
            refine wpAnyH_take (i := 0) (v := ?v0_35) rfl (by kernel_rfl) (by kernel_rfl) (by kernel_rfl) (fun _ _ _ h => h) (Or.inl ⟨by rfl, ?hy0_35⟩) (by assumption) ?rest0_35
            case hy0_35 => (intro w hSw; (try dsimp only at hSw); go_simp; (try with_reducible rfl))
            try simp only [Act.put, List.getElem_toArray, List.getElem_cons_zero, List.getElem_cons_succ, List.setIfInBounds_toArray, List.set_cons_zero, List.set_cons_succ]
            refine wpAnyH_take (i := 1) (v := ?v1_36) rfl (by kernel_rfl) (by kernel_rfl) (by kernel_rfl) (fun _ _ _ h => h) (Or.inl ⟨by rfl, ?hy1_36⟩) (by assumption) ?rest1_36
            case hy1_36 => (intro w hSw; (try dsimp only at hSw); go_simp; (try with_reducible rfl))
            try simp only [Act.put, List.getElem_toArray, List.getElem_cons_zero, List.getElem_cons_succ, List.setIfInBounds_toArray, List.set_cons_zero, List.set_cons_succ]
            refine wpAnyH_take (i := 2) (v := ?v2_37) rfl (by kernel_rfl) (by kernel_rfl) (by kernel_rfl) (fun _ _ _ h => h) (Or.inl ⟨by rfl, ?hy2_37⟩) (by assumption) ?rest2_37
            case hy2_37 => (intro w hSw; (try dsimp only at hSw); go_simp; (try with_reducible rfl))
            try simp only [Act.put, List.getElem_toArray, List.getElem_cons_zero, List.getElem_cons_succ, List.setIfInBounds_toArray, List.set_cons_zero, List.set_cons_succ]
            refine wpAnyH_take (i := 3) (v := ?v3_38) rfl (by kernel_rfl) (by kernel_rfl) (by kernel_rfl) (fun _ _ _ h => h) (Or.inl ⟨by rfl, ?hy3_38⟩) (by assumption) ?rest3_38
            case hy3_38 => (intro w hSw; (try dsimp only at hSw); go_simp; (try with_reducible rfl))
            try simp only [Act.put, List.getElem_toArray, List.getElem_cons_zero, List.getElem_cons_succ, List.setIfInBounds_toArray, List.set_cons_zero, List.set_cons_succ]
            refine wpAnyH_take (i := 4) (v := ?v4_39) rfl (by kernel_rfl) (by kernel_rfl) (by kernel_rfl) (fun _ _ _ h => h) (Or.inl ⟨by rfl, ?hy4_39⟩) (by assumption) ?rest4_39
            case hy4_39 => (intro w hSw; (try dsimp only at hSw); go_simp; (try with_reducible rfl))
            try simp only [Act.put, List.getElem_toArray, List.getElem_cons_zero, List.getElem_cons_succ, List.setIfInBounds_toArray, List.set_cons_zero, List.set_cons_succ]
            refine wpAnyH_take (i := 5) (v := ?v5_40) rfl (by kernel_rfl) (by kernel_rfl) (by kernel_rfl) (fun _ _ _ h => h) (Or.inl ⟨by rfl, ?hy5_40⟩) (by assumption) ?rest5_40
            case hy5_40 => (intro w hSw; (try dsimp only at hSw); go_simp; (try with_reducible rfl))
            try simp only [Act.put, List.getElem_toArray, List.getElem_cons_zero, List.getElem_cons_succ, List.setIfInBounds_toArray, List.set_cons_zero, List.set_cons_succ]
            refine wpAnyH_take (i := 6) (v := ?v6_41) rfl (by kernel_rfl) (by kernel_rfl) (by kernel_rfl) (fun _ _ _ h => h) (Or.inl ⟨by rfl, ?hy6_41⟩) (by assumption) ?rest6_41
            case hy6_41 => (intro w hSw; (try dsimp only at hSw); go_simp; (try with_reducible rfl))
            try simp only [Act.put, List.getElem_toArray, List.getElem_cons_zero, List.getElem_cons_succ, List.setIfInBounds_toArray, List.set_cons_zero, List.set_cons_succ]
            refine wpAnyH_take (i := 7) (v := ?v7_42) rfl (by kernel_rfl) (by kernel_rfl) (by kernel_rfl) (fun _ _ _ h => h) (Or.inl ⟨by rfl, ?hy7_42⟩) (by assumption) ?rest7_42
            case hy7_42 => (intro w hSw; (try dsimp only at hSw); go_simp; (try with_reducible rfl))
            try simp only [Act.put, List.getElem_toArray, List.getElem_cons_zero, List.getElem_cons_succ, List.setIfInBounds_toArray, List.set_cons_zero, List.set_cons_succ]
            refine wpAnyH_ready (rs := [8, 13]) (by kernel_rfl) (by simp) ?_
            refine AllReadyH.cons rfl (fun K hK => ?_) (AllReadyH.cons rfl (fun K hK => ?_) AllReadyH.nil)
            · skip
              go_simp
              have tp := two_prs D (ps i) (ps j)
              have ztp : D.heap.size < (D.alloc (.cells #[.int .i64 (ps i).s1, .int .i64 (ps i).s2, .int .i64 (ps i).ti, .int .i64 (ps i).sz, .int .i64 (ps j).s1, .int .i64 (ps j).s2, .int .i64 (ps j).ti, .int .i64 (ps j).sz] 70)).heap.size := by rw [World.size_alloc]; omega
              have hb' : Below D.heap.size D (D.alloc (.cells #[.int .i64 (ps i).s1, .int .i64 (ps i).s2, .int .i64 (ps i).ti, .int .i64 (ps i).sz, .int .i64 (ps j).s1, .int .i64 (ps j).s2, .int .i64 (ps j).ti, .int .i64 (ps j).sz] 70)) := below_alloc _ _
              obtain ⟨btp, hq⟩ : ∃ q, q = D.heap.size := ⟨_, rfl⟩
              obtain ⟨W1, hF⟩ : ∃ F, F = D.alloc (.cells #[.int .i64 (ps i).s1, .int .i64 (ps i).s2, .int .i64 (ps i).ti, .int .i64 (ps i).sz, .int .i64 (ps j).s1, .int .i64 (ps j).s2, .int .i64 (ps j).ti, .int .i64 (ps j).sz] 70) := ⟨_, rfl⟩
              rw [← hF, ← hq] at tp ztp
              rw [← hF] at hb' ⊢
              rw [← hq]
              refine hK.out _ _ (⟨keepW hb' hHeld.1, keepW hb' hHeld.2.1, keepW hb' hHeld.2.2.1, keepW hb' hHeld.2.2.2.1, keepW hb' hHeld.2.2.2.2.1, keepW hb' hHeld.2.2.2.2.2.1, keepW hb' hHeld.2.2.2.2.2.2.1, keepW hb' hHeld.2.2.2.2.2.2.2.1, hHeld.2.2.2.2.2.2.2.2.trans (hb'.mono hHeld.2.2.2.2.2.2.2.2.size)⟩) (fun hHeld2 => ?_)
              clear hK K hHeld hb' hF hq
              have hHeld := hHeld2
              clear hHeld2
              try simp only [Act.put, List.getElem_toArray, List.getElem_cons_zero, List.getElem_cons_succ, List.setIfInBounds_toArray, List.set_cons_zero, List.set_cons_succ]
              refine wpAnyH_ready (rs := [9, 13]) (by kernel_rfl) (by simp) ?_
              refine AllReadyH.cons rfl (fun K hK => ?_) (AllReadyH.cons rfl (fun K hK => ?_) AllReadyH.nil)
              · skip
                go_simp
                go_at_call 74; refine (HC.out _ _ tp ztp).mono ?_; rintro e' W2 ⟨rfl, hb'⟩
                have tp := tp.keep hb' ztp
                have ztp := Nat.lt_of_lt_of_le ztp hb'.size
                refine hK.out _ _ (⟨keepW hb' hHeld.1, keepW hb' hHeld.2.1, keepW hb' hHeld.2.2.1, keepW hb' hHeld.2.2.2.1, keepW hb' hHeld.2.2.2.2.1, keepW hb' hHeld.2.2.2.2.2.1, keepW hb' hHeld.2.2.2.2.2.2.1, keepW hb' hHeld.2.2.2.2.2.2.2.1, hHeld.2.2.2.2.2.2.2.2.trans (hb'.mono hHeld.2.2.2.2.2.2.2.2.size)⟩) (fun hHeld2 => ?_)
                clear hK K hHeld hb'
                have hHeld := hHeld2
                clear hHeld2
                try simp only [Act.put, List.getElem_toArray, List.getElem_cons_zero, List.getElem_cons_succ, List.setIfInBounds_toArray, List.set_cons_zero, List.set_cons_succ]
                refine wpAnyH_take (i := 10) (v := ?v10_43) rfl (by kernel_rfl) (by kernel_rfl) (by kernel_rfl) (fun _ _ _ h => h) (Or.inl ⟨by rfl, ?hy10_43⟩) (by assumption) ?rest10_43
                case hy10_43 => (intro w hSw; (try dsimp only at hSw); go_simp; (try with_reducible rfl))
                try simp only [Act.put, List.getElem_toArray, List.getElem_cons_zero, List.getElem_cons_succ, List.setIfInBounds_toArray, List.set_cons_zero, List.set_cons_succ]
                refine wpAnyH_take (i := 11) (v := ?v11_44) rfl (by kernel_rfl) (by kernel_rfl) (by kernel_rfl) (fun _ _ _ h => h) (Or.inl ⟨by rfl, ?hy11_44⟩) (by assumption) ?rest11_44
                case hy11_44 => (intro w hSw; (try dsimp only at hSw); go_simp; (try with_reducible rfl))
                try simp only [Act.put, List.getElem_toArray, List.getElem_cons_zero, List.getElem_cons_succ, List.setIfInBounds_toArray, List.set_cons_zero, List.set_cons_succ]
                refine wpAnyH_take (i := 12) (v := ?v12_45) rfl (by kernel_rfl) (by kernel_rfl) (by kernel_rfl) (fun _ _ _ h => h) (Or.inl ⟨by rfl, ?hy12_45⟩) (by assumption) ?rest12_45
                case hy12_45 => (intro w hSw; (try dsimp only at hSw); go_simp; (try with_reducible rfl))
                try simp only [Act.put, List.getElem_toArray, List.getElem_cons_zero, List.getElem_cons_succ, List.setIfInBounds_toArray, List.set_cons_zero, List.set_cons_succ]
                refine wpAnyH_ready (rs := [13]) (by kernel_rfl) (by simp) ?_
                refine AllReadyH.cons rfl (fun K hK => ?_) AllReadyH.nil
                go_simp
                have pq := SpB.new W2
                have zq : W2.heap.size < (W2.alloc (.cells #[.int .i64 0, .int .i64 0] 24)).heap.size := by rw [World.size_alloc]; omega
                have lq : wr.heap.size ≤ W2.heap.size := hHeld.2.2.2.2.2.2.2.2.size
                have hb' : Below W2.heap.size W2 (W2.alloc (.cells #[.int .i64 0, .int .i64 0] 24)) := below_alloc _ _
                obtain ⟨q, hq⟩ : ∃ q, q = W2.heap.size := ⟨_, rfl⟩
                obtain ⟨W3, hF⟩ : ∃ F, F = W2.alloc (.cells #[.int .i64 0, .int .i64 0] 24) := ⟨_, rfl⟩
                rw [← hF, ← hq] at pq zq
                rw [← hq] at lq
                rw [← hF] at hb' ⊢
                rw [← hq]
                have tp := tp.keep hb' ztp
                have ztp := Nat.lt_of_lt_of_le ztp hb'.size
                refine hK.out _ _ (⟨keepW hb' hHeld.1, keepW hb' hHeld.2.1, keepW hb' hHeld.2.2.1, keepW hb' hHeld.2.2.2.1, keepW hb' hHeld.2.2.2.2.1, keepW hb' hHeld.2.2.2.2.2.1, keepW hb' hHeld.2.2.2.2.2.2.1, keepW hb' hHeld.2.2.2.2.2.2.2.1, hHeld.2.2.2.2.2.2.2.2.trans (hb'.mono hHeld.2.2.2.2.2.2.2.2.size)⟩) (fun hHeld2 => ?_)
                clear hK K hHeld hb' hF hq
                have hHeld := hHeld2
                clear hHeld2
                try simp only [Act.put, List.getElem_toArray, List.getElem_cons_zero, List.getElem_cons_succ, List.setIfInBounds_toArray, List.set_cons_zero, List.set_cons_succ]
                refine wpAnyH_ready (rs := [14]) (by kernel_rfl) (by simp) ?_
                refine AllReadyH.cons rfl (fun K hK => ?_) AllReadyH.nil
                obtain ⟨oc0, oc1, of0, of1⟩ := pq
                go_simp
                have bZ : Below wr.heap.size wr ((W3.setCell ⟨q, 0, none⟩ (.int .i64 cl)).setCell ⟨q, 1, none⟩ (.int .i64 ch)) := ((hHeld.2.2.2.2.2.2.2.2.setCell (p := ⟨q, 0, none⟩) (by dsimp only; omega) _).setCell (p := ⟨q, 1, none⟩) (by dsimp only; omega) _)
                have bS : Below q W3 ((W3.setCell ⟨q, 0, none⟩ (.int .i64 cl)).setCell ⟨q, 1, none⟩ (.int .i64 ch)) := (((Below.refl q W3).setCell (p := ⟨q, 0, none⟩) (Nat.le_refl _) _).setCell (p := ⟨q, 1, none⟩) (Nat.le_refl _) _)
                have pq := SpB.put (u := cl) (v := ch) (⟨oc0, oc1, of0, of1⟩)
                have zz : q < ((W3.setCell ⟨q, 0, none⟩ (.int .i64 cl)).setCell ⟨q, 1, none⟩ (.int .i64 ch)).heap.size := by simp; exact zq
                obtain ⟨W4, hG⟩ : ∃ G, G = ((W3.setCell ⟨q, 0, none⟩ (.int .i64 cl)).setCell ⟨q, 1, none⟩ (.int .i64 ch)) := ⟨_, rfl⟩
                rw [← hG] at bZ bS pq zz ⊢
                refine hK.out _ _ (⟨keepB bS (by omega) hHeld.1, keepB bS (by omega) hHeld.2.1, keepB bS (by omega) hHeld.2.2.1, keepB bS (by omega) hHeld.2.2.2.1, keepB bS (by omega) hHeld.2.2.2.2.1, keepB bS (by omega) hHeld.2.2.2.2.2.1, keepB bS (by omega) hHeld.2.2.2.2.2.2.1, keepB bS (by omega) hHeld.2.2.2.2.2.2.2.1, bZ⟩) (fun hHeld2 => ?_)
                clear hK K hHeld hG bS zq oc0 of0 oc1 of1
                have hHeld := hHeld2
                clear hHeld2
                try simp only [Act.put, List.getElem_toArray, List.getElem_cons_zero, List.getElem_cons_succ, List.setIfInBounds_toArray, List.set_cons_zero, List.set_cons_succ]
                refine wpAnyH_done (by kernel_rfl) ?_ _
                change wpList _ _ _ _ _ _
                simp only [List.drop_succ_cons, List.drop_zero]
                go_wp2_with fail
                go_meet
                exact ⟨q, rfl, rfl, bZ⟩
              · skip
                go_simp
                have pq := SpB.new W1
                have zq : W1.heap.size < (W1.alloc (.cells #[.int .i64 0, .int .i64 0] 24)).heap.size := by rw [World.size_alloc]; omega
                have lq : wr.heap.size ≤ W1.heap.size := hHeld.2.2.2.2.2.2.2.2.size
                have hb' : Below W1.heap.size W1 (W1.alloc (.cells #[.int .i64 0, .int .i64 0] 24)) := below_alloc _ _
                obtain ⟨q, hq⟩ : ∃ q, q = W1.heap.size := ⟨_, rfl⟩
                obtain ⟨W5, hF⟩ : ∃ F, F = W1.alloc (.cells #[.int .i64 0, .int .i64 0] 24) := ⟨_, rfl⟩
                rw [← hF, ← hq] at pq zq
                rw [← hq] at lq
                rw [← hF] at hb' ⊢
                rw [← hq]
                have tp := tp.keep hb' ztp
                have ztp := Nat.lt_of_lt_of_le ztp hb'.size
                refine hK.out _ _ (⟨keepW hb' hHeld.1, keepW hb' hHeld.2.1, keepW hb' hHeld.2.2.1, keepW hb' hHeld.2.2.2.1, keepW hb' hHeld.2.2.2.2.1, keepW hb' hHeld.2.2.2.2.2.1, keepW hb' hHeld.2.2.2.2.2.2.1, keepW hb' hHeld.2.2.2.2.2.2.2.1, hHeld.2.2.2.2.2.2.2.2.trans (hb'.mono hHeld.2.2.2.2.2.2.2.2.size)⟩) (fun hHeld2 => ?_)
                clear hK K hHeld hb' hF hq
                have hHeld := hHeld2
                clear hHeld2
                try simp only [Act.put, List.getElem_toArray, List.getElem_cons_zero, List.getElem_cons_succ, List.setIfInBounds_toArray, List.set_cons_zero, List.set_cons_succ]
                refine wpAnyH_ready (rs := [9]) (by kernel_rfl) (by simp) ?_
                refine AllReadyH.cons rfl (fun K hK => ?_) AllReadyH.nil
                go_simp
                go_at_call 74; refine (HC.out _ _ tp ztp).mono ?_; rintro e' W6 ⟨rfl, hb'⟩
                have pq := pq.keep hb' zq
                have zq := Nat.lt_of_lt_of_le zq hb'.size
                have tp := tp.keep hb' ztp
                have ztp := Nat.lt_of_lt_of_le ztp hb'.size
                refine hK.out _ _ (⟨keepW hb' hHeld.1, keepW hb' hHeld.2.1, keepW hb' hHeld.2.2.1, keepW hb' hHeld.2.2.2.1, keepW hb' hHeld.2.2.2.2.1, keepW hb' hHeld.2.2.2.2.2.1, keepW hb' hHeld.2.2.2.2.2.2.1, keepW hb' hHeld.2.2.2.2.2.2.2.1, hHeld.2.2.2.2.2.2.2.2.trans (hb'.mono hHeld.2.2.2.2.2.2.2.2.size)⟩) (fun hHeld2 => ?_)
                clear hK K hHeld hb'
                have hHeld := hHeld2
                clear hHeld2
                try simp only [Act.put, List.getElem_toArray, List.getElem_cons_zero, List.getElem_cons_succ, List.setIfInBounds_toArray, List.set_cons_zero, List.set_cons_succ]
                refine wpAnyH_take (i := 10) (v := ?v10_46) rfl (by kernel_rfl) (by kernel_rfl) (by kernel_rfl) (fun _ _ _ h => h) (Or.inl ⟨by rfl, ?hy10_46⟩) (by assumption) ?rest10_46
                case hy10_46 => (intro w hSw; (try dsimp only at hSw); go_simp; (try with_reducible rfl))
                try simp only [Act.put, List.getElem_toArray, List.getElem_cons_zero, List.getElem_cons_succ, List.setIfInBounds_toArray, List.set_cons_zero, List.set_cons_succ]
                refine wpAnyH_take (i := 11) (v := ?v11_47) rfl (by kernel_rfl) (by kernel_rfl) (by kernel_rfl) (fun _ _ _ h => h) (Or.inl ⟨by rfl, ?hy11_47⟩) (by assumption) ?rest11_47
                case hy11_47 => (intro w hSw; (try dsimp only at hSw); go_simp; (try with_reducible rfl))
                try simp only [Act.put, List.getElem_toArray, List.getElem_cons_zero, List.getElem_cons_succ, List.setIfInBounds_toArray, List.set_cons_zero, List.set_cons_succ]
                refine wpAnyH_take (i := 12) (v := ?v12_48) rfl (by kernel_rfl) (by kernel_rfl) (by kernel_rfl) (fun _ _ _ h => h) (Or.inl ⟨by rfl, ?hy12_48⟩) (by assumption) ?rest12_48
                case hy12_48 => (intro w hSw; (try dsimp only at hSw); go_simp; (try with_reducible rfl))
                try simp only [Act.put, List.getElem_toArray, List.getElem_cons_zero, List.getElem_cons_succ, List.setIfInBounds_toArray, List.set_cons_zero, List.set_cons_succ]
                refine wpAnyH_ready (rs := [14]) (by kernel_rfl) (by simp) ?_
                refine AllReadyH.cons rfl (fun K hK => ?_) AllReadyH.nil
                obtain ⟨oc0, oc1, of0, of1⟩ := pq
                go_simp
                have bZ : Below wr.heap.size wr ((W6.setCell ⟨q, 0, none⟩ (.int .i64 cl)).setCell ⟨q, 1, none⟩ (.int .i64 ch)) := ((hHeld.2.2.2.2.2.2.2.2.setCell (p := ⟨q, 0, none⟩) (by dsimp only; omega) _).setCell (p := ⟨q, 1, none⟩) (by dsimp only; omega) _)
                have bS : Below q W6 ((W6.setCell ⟨q, 0, none⟩ (.int .i64 cl)).setCell ⟨q, 1, none⟩ (.int .i64 ch)) := (((Below.refl q W6).setCell (p := ⟨q, 0, none⟩) (Nat.le_refl _) _).setCell (p := ⟨q, 1, none⟩) (Nat.le_refl _) _)
                have pq := SpB.put (u := cl) (v := ch) (⟨oc0, oc1, of0, of1⟩)
                have zz : q < ((W6.setCell ⟨q, 0, none⟩ (.int .i64 cl)).setCell ⟨q, 1, none⟩ (.int .i64 ch)).heap.size := by simp; exact zq
                obtain ⟨W7, hG⟩ : ∃ G, G = ((W6.setCell ⟨q, 0, none⟩ (.int .i64 cl)).setCell ⟨q, 1, none⟩ (.int .i64 ch)) := ⟨_, rfl⟩
                rw [← hG] at bZ bS pq zz ⊢
                refine hK.out _ _ (⟨keepB bS (by omega) hHeld.1, keepB bS (by omega) hHeld.2.1, keepB bS (by omega) hHeld.2.2.1, keepB bS (by omega) hHeld.2.2.2.1, keepB bS (by omega) hHeld.2.2.2.2.1, keepB bS (by omega) hHeld.2.2.2.2.2.1, keepB bS (by omega) hHeld.2.2.2.2.2.2.1, keepB bS (by omega) hHeld.2.2.2.2.2.2.2.1, bZ⟩) (fun hHeld2 => ?_)
                clear hK K hHeld hG bS zq oc0 of0 oc1 of1
                have hHeld := hHeld2
                clear hHeld2
                try simp only [Act.put, List.getElem_toArray, List.getElem_cons_zero, List.getElem_cons_succ, List.setIfInBounds_toArray, List.set_cons_zero, List.set_cons_succ]
                refine wpAnyH_done (by kernel_rfl) ?_ _
                change wpList _ _ _ _ _ _
                simp only [List.drop_succ_cons, List.drop_zero]
                go_wp2_with fail
                go_meet
                exact ⟨q, rfl, rfl, bZ⟩
            · skip
              go_simp
              have pq := SpB.new D
              have zq : D.heap.size < (D.alloc (.cells #[.int .i64 0, .int .i64 0] 24)).heap.size := by rw [World.size_alloc]; omega
              have lq : wr.heap.size ≤ D.heap.size := hHeld.2.2.2.2.2.2.2.2.size
              have hb' : Below D.heap.size D (D.alloc (.cells #[.int .i64 0, .int .i64 0] 24)) := below_alloc _ _
              obtain ⟨q, hq⟩ : ∃ q, q = D.heap.size := ⟨_, rfl⟩
              obtain ⟨W8, hF⟩ : ∃ F, F = D.alloc (.cells #[.int .i64 0, .int .i64 0] 24) := ⟨_, rfl⟩
              rw [← hF, ← hq] at pq zq
              rw [← hq] at lq
              rw [← hF] at hb' ⊢
              rw [← hq]
              refine hK.out _ _ (⟨keepW hb' hHeld.1, keepW hb' hHeld.2.1, keepW hb' hHeld.2.2.1, keepW hb' hHeld.2.2.2.1, keepW hb' hHeld.2.2.2.2.1, keepW hb' hHeld.2.2.2.2.2.1, keepW hb' hHeld.2.2.2.2.2.2.1, keepW hb' hHeld.2.2.2.2.2.2.2.1, hHeld.2.2.2.2.2.2.2.2.trans (hb'.mono hHeld.2.2.2.2.2.2.2.2.size)⟩) (fun hHeld2 => ?_)
              clear hK K hHeld hb' hF hq
              have hHeld := hHeld2
              clear hHeld2
              try simp only [Act.put, List.getElem_toArray, List.getElem_cons_zero, List.getElem_cons_succ, List.setIfInBounds_toArray, List.set_cons_zero, List.set_cons_succ]
              refine wpAnyH_ready (rs := [8]) (by kernel_rfl) (by simp) ?_
              refine AllReadyH.cons rfl (fun K hK => ?_) AllReadyH.nil
              go_simp
              have tp := two_prs W8 (ps i) (ps j)
              have ztp : W8.heap.size < (W8.alloc (.cells #[.int .i64 (ps i).s1, .int .i64 (ps i).s2, .int .i64 (ps i).ti, .int .i64 (ps i).sz, .int .i64 (ps j).s1, .int .i64 (ps j).s2, .int .i64 (ps j).ti, .int .i64 (ps j).sz] 70)).heap.size := by rw [World.size_alloc]; omega
              have hb' : Below W8.heap.size W8 (W8.alloc (.cells #[.int .i64 (ps i).s1, .int .i64 (ps i).s2, .int .i64 (ps i).ti, .int .i64 (ps i).sz, .int .i64 (ps j).s1, .int .i64 (ps j).s2, .int .i64 (ps j).ti, .int .i64 (ps j).sz] 70)) := below_alloc _ _
              have pq := pq.keep hb' zq
              have zq := Nat.lt_of_lt_of_le zq hb'.size
              obtain ⟨btp, hq⟩ : ∃ q, q = W8.heap.size := ⟨_, rfl⟩
              obtain ⟨W9, hF⟩ : ∃ F, F = W8.alloc (.cells #[.int .i64 (ps i).s1, .int .i64 (ps i).s2, .int .i64 (ps i).ti, .int .i64 (ps i).sz, .int .i64 (ps j).s1, .int .i64 (ps j).s2, .int .i64 (ps j).ti, .int .i64 (ps j).sz] 70) := ⟨_, rfl⟩
              rw [← hF, ← hq] at tp ztp
              rw [← hF] at hb' ⊢
              rw [← hF] at pq zq
              rw [← hq]
              refine hK.out _ _ (⟨keepW hb' hHeld.1, keepW hb' hHeld.2.1, keepW hb' hHeld.2.2.1, keepW hb' hHeld.2.2.2.1, keepW hb' hHeld.2.2.2.2.1, keepW hb' hHeld.2.2.2.2.2.1, keepW hb' hHeld.2.2.2.2.2.2.1, keepW hb' hHeld.2.2.2.2.2.2.2.1, hHeld.2.2.2.2.2.2.2.2.trans (hb'.mono hHeld.2.2.2.2.2.2.2.2.size)⟩) (fun hHeld2 => ?_)
              clear hK K hHeld hb' hF hq
              have hHeld := hHeld2
              clear hHeld2
              try simp only [Act.put, List.getElem_toArray, List.getElem_cons_zero, List.getElem_cons_succ, List.setIfInBounds_toArray, List.set_cons_zero, List.set_cons_succ]
              refine wpAnyH_ready (rs := [9]) (by kernel_rfl) (by simp) ?_
              refine AllReadyH.cons rfl (fun K hK => ?_) AllReadyH.nil
              go_simp
              go_at_call 74; refine (HC.out _ _ tp ztp).mono ?_; rintro e' W10 ⟨rfl, hb'⟩
              have pq := pq.keep hb' zq
              have zq := Nat.lt_of_lt_of_le zq hb'.size
              have tp := tp.keep hb' ztp
              have ztp := Nat.lt_of_lt_of_le ztp hb'.size
              refine hK.out _ _ (⟨keepW hb' hHeld.1, keepW hb' hHeld.2.1, keepW hb' hHeld.2.2.1, keepW hb' hHeld.2.2.2.1, keepW hb' hHeld.2.2.2.2.1, keepW hb' hHeld.2.2.2.2.2.1, keepW hb' hHeld.2.2.2.2.2.2.1, keepW hb' hHeld.2.2.2.2.2.2.2.1, hHeld.2.2.2.2.2.2.2.2.trans (hb'.mono hHeld.2.2.2.2.2.2.2.2.size)⟩) (fun hHeld2 => ?_)
              clear hK K hHeld hb'
              have hHeld := hHeld2
              clear hHeld2
              try simp only [Act.put, List.getElem_toArray, List.getElem_cons_zero, List.getElem_cons_succ, List.setIfInBounds_toArray, List.set_cons_zero, List.set_cons_succ]
              refine wpAnyH_take (i := 10) (v := ?v10_49) rfl (by kernel_rfl) (by kernel_rfl) (by kernel_rfl) (fun _ _ _ h => h) (Or.inl ⟨by rfl, ?hy10_49⟩) (by assumption) ?rest10_49
              case hy10_49 => (intro w hSw; (try dsimp only at hSw); go_simp; (try with_reducible rfl))
              try simp only [Act.put, List.getElem_toArray, List.getElem_cons_zero, List.getElem_cons_succ, List.setIfInBounds_toArray, List.set_cons_zero, List.set_cons_succ]
              refine wpAnyH_take (i := 11) (v := ?v11_50) rfl (by kernel_rfl) (by kernel_rfl) (by kernel_rfl) (fun _ _ _ h => h) (Or.inl ⟨by rfl, ?hy11_50⟩) (by assumption) ?rest11_50
              case hy11_50 => (intro w hSw; (try dsimp only at hSw); go_simp; (try with_reducible rfl))
              try simp only [Act.put, List.getElem_toArray, List.getElem_cons_zero, List.getElem_cons_succ, List.setIfInBounds_toArray, List.set_cons_zero, List.set_cons_succ]
              refine wpAnyH_take (i := 12) (v := ?v12_51) rfl (by kernel_rfl) (by kernel_rfl) (by kernel_rfl) (fun _ _ _ h => h) (Or.inl ⟨by rfl, ?hy12_51⟩) (by assumption) ?rest12_51
              case hy12_51 => (intro w hSw; (try dsimp only at hSw); go_simp; (try with_reducible rfl))
              try simp only [Act.put, List.getElem_toArray, List.getElem_cons_zero, List.getElem_cons_succ, List.setIfInBounds_toArray, List.set_cons_zero, List.set_cons_succ]
              refine wpAnyH_ready (rs := [14]) (by kernel_rfl) (by simp) ?_
              refine AllReadyH.cons rfl (fun K hK => ?_) AllReadyH.nil
              obtain ⟨oc0, oc1, of0, of1⟩ := pq
              go_simp
              have bZ : Below wr.heap.size wr ((W10.setCell ⟨q, 0, none⟩ (.int .i64 cl)).setCell ⟨q, 1, none⟩ (.int .i64 ch)) := ((hHeld.2.2.2.2.2.2.2.2.setCell (p := ⟨q, 0, none⟩) (by dsimp only; omega) _).setCell (p := ⟨q, 1, none⟩) (by dsimp only; omega) _)
              have bS : Below q W10 ((W10.setCell ⟨q, 0, none⟩ (.int .i64 cl)).setCell ⟨q, 1, none⟩ (.int .i64 ch)) := (((Below.refl q W10).setCell (p := ⟨q, 0, none⟩) (Nat.le_refl _) _).setCell (p := ⟨q, 1, none⟩) (Nat.le_refl _) _)
              have pq := SpB.put (u := cl) (v := ch) (⟨oc0, oc1, of0, of1⟩)
              have zz : q < ((W10.setCell ⟨q, 0, none⟩ (.int .i64 cl)).setCell ⟨q, 1, none⟩ (.int .i64 ch)).heap.size := by simp; exact zq
              obtain ⟨W11, hG⟩ : ∃ G, G = ((W10.setCell ⟨q, 0, none⟩ (.int .i64 cl)).setCell ⟨q, 1, none⟩ (.int .i64 ch)) := ⟨_, rfl⟩
              rw [← hG] at bZ bS pq zz ⊢
              refine hK.out _ _ (⟨keepB bS (by omega) hHeld.1, keepB bS (by omega) hHeld.2.1, keepB bS (by omega) hHeld.2.2.1, keepB bS (by omega) hHeld.2.2.2.1, keepB bS (by omega) hHeld.2.2.2.2.1, keepB bS (by omega) hHeld.2.2.2.2.2.1, keepB bS (by omega) hHeld.2.2.2.2.2.2.1, keepB bS (by omega) hHeld.2.2.2.2.2.2.2.1, bZ⟩) (fun hHeld2 => ?_)
              clear hK K hHeld hG bS zq oc0 of0 oc1 of1
              have hHeld := hHeld2
              clear hHeld2
              try simp only [Act.put, List.getElem_toArray, List.getElem_cons_zero, List.getElem_cons_succ, List.setIfInBounds_toArray, List.set_cons_zero, List.set_cons_succ]
              refine wpAnyH_done (by kernel_rfl) ?_ _
              change wpList _ _ _ _ _ _
              simp only [List.drop_succ_cons, List.drop_zero]
              go_wp2_with fail
              go_meet
              exact ⟨q, rfl, rfl, bZ⟩
          case rest =>
          clear HS7 HC
          obtain ⟨q, rfl, rfl, hbx⟩ := hcut
          obtain ⟨wx, hwx⟩ : ∃ x, x = wc := ⟨_, rfl⟩
          rw [← hwx] at hbx ⊢
          clear hwx wc
          have RX := HR.out.keep hbx
          clear HR hbx
          have HRX := Lib.hid RX
          have HRow2 := Lib.hid (show ∀ b, i ≤ b → b < j + 1 → badP (ps i) (ps b) = false from fun b h1 h2 => by
            by_cases e : b = j
            · subst e; exact hc
            · exact HRow.out b h1 (by omega))
          clear RX HRow hc
          go_wp2
          go_roundw
          case rel => exact ⟨j + 1, by omega, by omega, by go_num, HRX.out, HRow2.out⟩
          case measure => simp [intOf]; omega
      · obtain rfl : n = j := by omega
        have HRows2 := Lib.hid (show ∀ a b, a < i + 1 → a ≤ b → b < n → badP (ps a) (ps b) = false from fun a b h1 h2 h3 => by
          by_cases e : a = i
          · subst e; exact HRow.out b h2 h3
          · exact HRows.out a b (by omega) h2 h3)
        clear HRow HRows hjl hbw
        go_wp2
        go_roundw
        case rel => exact ⟨i + 1, by omega, by go_num, HR.out, HRows2.out⟩
        case measure => simp [intOf]; omega
    · obtain rfl : n = i := by omega
      obtain ⟨a, b2, h1, h2, h3⟩ := HB.out
      have := HRows.out a b2 (by omega) h1 h2
      rw [h3] at this
      cases this

end Go.Proofs.Ytdmbkhmhaininaa
