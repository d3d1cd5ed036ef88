/- Drawn lists of commands: some row of them, not too long, in memory of its own. -/
import Derived.Test.YtnbpncjbfnhkjaaVo
import Derived.Laws.AppendOwnNone
import Derived.Laws.Rows
namespace Go.Proofs.Ytnbpncjbfnhkjaa
open Go.ChangeShapes Go.WideShapes Go.ChangeAt Go.RowKit
set_option linter.unusedVariables false
theorem CR.arg {B : Nat} {w : World} {v : Value} {L : List TupC} (h : CR B w v L) : ∃ ad c, v = .slice ad L.length c ∧ L.length ≤ c ∧ ArgC w ad L.length (atC0 L) (atC1 L) (atC2 L) (atC3 L) (atC4 L) := by
  rcases h.1.2 with ⟨h1, h2⟩ | ⟨g, cap, cur, h1, _, _, h4, _⟩
  · exact ⟨none, 0, by rw [h1, h2], by omega, Or.inl h2⟩
  · refine ⟨some ⟨g, 0, none⟩, cap, h1, h4, ?_⟩
    rcases h.rowv with ⟨h2, h3⟩ | ⟨o, c, h2, R⟩
    · rw [h1] at h3; injection h3 with h3; cases h3
    · rw [h1] at h2
      injection h2 with h2
      injection h2 with h2
      injection h2 with h2
      subst h2
      exact R.arg
theorem CR.lits (w : World) : CR w.heap.size (w.alloc (.cells #[.int .i64 2, .int .i64 0, .int .i64 0, .int .i64 0, .int .i64 0, .int .i64 3, .int .i64 1, .int .i64 0, .int .i64 0, .int .i64 0, .int .i64 2, .int .i64 2, .int .i64 0, .int .i64 0, .int .i64 0] 35)) (.slice (some ⟨w.heap.size, 0, none⟩) 3 3) [(2, 0, 0, 0, 0), (3, 1, 0, 0, 0), (2, 2, 0, 0, 0)] :=
  ⟨⟨rfl, Or.inr ⟨w.heap.size, 3, #[.int .i64 2, .int .i64 0, .int .i64 0, .int .i64 0, .int .i64 0, .int .i64 3, .int .i64 1, .int .i64 0, .int .i64 0, .int .i64 0, .int .i64 2, .int .i64 2, .int .i64 0, .int .i64 0, .int .i64 0], rfl, Nat.le_refl _, heap_alloc_new _ _, by decide, by decide, by simp, by rfl⟩⟩, by simp⟩
theorem wpList_append_rows {ops : Array Oper} {rest : List Oper} {o : Oper} {a : Act} {Q : Exit → Act → World → Prop} {w : World} (hgd : o.guard = none) (s x : Operand) (ho : o.op = .call { callee := .builtin .append, args := #[s, x], argTypes := #[23, 23] })
    {B C : Nat} {v u : Value} {L M : List TupC} (hs : a.eval s = v) (hx : a.eval x = u) (R : CR B w v L) (Y : CR C w u M) (hl : L.length + M.length < 1000000)
    (h : ∀ v' w', CR B w' v' (L ++ M) → w.grownBy w' v.ownBlock → wpList Try.prog ops Q rest (a.put o.dst v') w') : wpList Try.prog ops Q (o :: rest) a w := by
  obtain ⟨i0, hi, hz0, hz1, hz2⟩ := info_parts infoCm
  rcases Y.form with ⟨rfl, rfl⟩ | ⟨g, c, rfl⟩
  · refine wpList_append_own_none hgd s x 23 ho B 35 i0 5 Try.underlying23 hi v L.length (cellsC L) hs R.1 hx ?_
    exact h v w (by rw [List.append_nil]; exact R) (grown_below (Below.refl _ _) _)
  · obtain ⟨v', w', h1, h2, h3, -, -⟩ := run_append_own_at (P := Try.prog) w B 23 o.type 35 i0 (.agg #[.int .i64 0, .int .i64 0, .int .i64 0, .int .i64 0, .int .i64 0]) 5 40 Try.underlying23 hi hz0 hz1 hz2 rfl (by decide) v L.length (cellsC L) R.1 ⟨g, 0, none⟩ M.length c (cellsC M) Y.1.1
      (fun j q hj => by
        have hlt : j < M.length * 5 := by rw [← Y.1.1]; exact (List.getElem?_eq_some_iff.1 hj).1
        have e := Y.1.cellAt j hlt
        rw [show (⟨g, 0, none⟩ : Addr).add j = ⟨g, j, none⟩ from by (unfold Addr.add; split <;> simp_all), e, hj])
      (fun q hq => by
        have hall : ∀ (l : List TupC) q, q ∈ cellsC l → q.oneCell' = true := by
          intro l
          induction l with
          | nil => intro q hq; cases hq
          | cons t r ih =>
            intro q hq
            simp only [cellsC, List.mem_cons] at hq
            rcases hq with rfl | rfl | rfl | rfl | rfl | hq
            · rfl
            · rfl
            · rfl
            · rfl
            · rfl
            · exact ih q hq
        exact hall M q hq) (by unfold maxLen; omega) (by omega) R.2
    refine wpList_plain hgd fun K hK => ?_
    unfold Oper.wp execOp
    simp only [ho, resolve, invoke, builtin, Sem.run_bind, Sem.run_pure, Result.andThen_ok, List.map_toArray, List.map_cons, List.map_nil, hs, hx, h1]
    exact hK _ _ (h v' w' ⟨by rw [List.length_append, cellsC_app]; exact h2, Nat.le_trans R.2 h3.size⟩ h3)
set_option maxRecDepth 100000 in
set_option maxHeartbeats 8000000 in
theorem mlist (b : Nat) (k : Int) (w : World) (hc : Cur b k w) (hk : k ≤ 1000) : Calls Try.prog 47 #[.pointer (some ⟨b, 0, none⟩)] w fun e w' => (∃ v L, e = .returned v ∧ CR (b + 1) w' v L ∧ L.length ≤ 64) ∧ Below b w w' := by
  have CU := hc
  have hbl := hc.lt
  clear hc
  go_enter Try.func47, Try.ntmps47
  go_upto_region 5 with (first | (go_at_call 56; (with_reducible show Calls Try.prog 56 #[_, .int .i64 12] w _); refine (pick32 b (k) 12 w (by omega) CU (by decide) (by decide)).mono ?_; rintro e u1 ⟨x1, x10, x11, rfl, C1, O1⟩) | (go_at_call 57; (with_reducible show Calls Try.prog 57 #[_, .int .i64 30] u1 _); refine (one30 b (k + 2) 30 u1 (by omega) C1 (by decide) (by decide)).mono ?_; rintro e u2 ⟨tt, rfl, C2, O2⟩) | (go_at_call 56; (with_reducible show Calls Try.prog 56 #[_, .int .i64 3] u2 _); refine (pick32 b (k + 2 + 2) 3 u2 (by omega) C2 (by decide) (by decide)).mono ?_; rintro e u3 ⟨x3, x30, x31, rfl, C3, O3⟩))
  all_goals subst_vars
  all_goals first
    | ((obtain ⟨j, hj, hj2⟩ : ∃ j : Nat, 59 + x3 = (j : Int) ∧ j ≤ 61 := ⟨(59 + x3).toNat, by omega, by omega⟩); rw [hj]; (have CW : Cur b (k + 6) u3 := C3.mono (by omega)); (have BW : Below b w u3 := ((O1.trans O2).trans O3).below (Nat.le_refl _) (Nat.le_of_lt hbl)); generalize u3 = W0 at CW BW ⊢)
    | ((obtain ⟨j, hj, hj2⟩ : ∃ j : Nat, x1 = (j : Int) ∧ j ≤ 61 := ⟨x1.toNat, by omega, by omega⟩); rw [hj]; (have CW : Cur b (k + 6) u2 := C2.mono (by omega)); (have BW : Below b w u2 := (O1.trans O2).below (Nat.le_refl _) (Nat.le_of_lt hbl)); generalize u2 = W0 at CW BW ⊢)
  all_goals
    have HBL : Hid (b < w.heap.size) := hbl
    have CN : CR (b + 1) W0 (.slice none 0 0) [] := CR.nil _ _ CW.lt
    go_loopw [3, 4] (fun lv nv wr => ∃ (j : Nat) (v : Value) (L : List TupC), v = lv ∧ nv = .int .i64 (j : Int) ∧ L.length + j ≤ 61 ∧ Hid (CR (b + 1) wr v L) ∧ Hid (Cur b (k + 6 + 20 * (L.length : Int)) wr) ∧ Hid (Below b w wr)) (fun _ nv _ => (intOf nv).toNat)
    case atStart => exact ⟨j, _, [], rfl, rfl, by simp; omega, CN, CW.mono (by simp), BW⟩
    case round =>
      clear CN CW BW CU
      obtain ⟨j, v, L, rfl, rfl, hjl, HR, HCu, HB⟩ := hrel
      obtain ⟨KK, hK⟩ : ∃ KK : Int, k + 6 + 20 * (L.length : Int) = KK := ⟨_, rfl⟩
      have HKK : Hid (k + 6 + 20 * (L.length : Int) = KK) := hK
      have hK2 : KK ≤ 3000 := by omega
      rw [hK] at HCu
      clear hK
      have hll : L.length ≤ 61 := by omega
      cases j with
      | succ i =>
        have i1 : (0 : Int) < ((i + 1 : Nat) : Int) := by omega
        go_wp2_with (first | (go_at_call 58; refine (mcmd b KK wr HCu.out (by omega)).mono ?_; rintro e w2 ⟨⟨y0, y1, y2, y3, y4, rfl⟩, C2, O2⟩; (have R2 := HR.out.far O2 (Nat.lt_succ_self _)); (have B2 : Below b w w2 := HB.out.trans (O2.below (Nat.le_refl _) (Nat.le_trans (Nat.le_of_lt HBL.out) HB.out.size)))) | (at_builtin; refine wpList_append_cmd rfl _ _ rfl rfl rfl (R2.alloc _) (C5.new w2 35 (.int .i64 y0) (.int .i64 y1) (.int .i64 y2) (.int .i64 y3) (.int .i64 y4)) (by omega) ?_))
        intro g4 cap4 w4 R4 G4
        have C4 := (C2.next (alloc_b (o := .cells #[.int .i64 y0, .int .i64 y1, .int .i64 y2, .int .i64 y3, .int .i64 y4] 35))).grown G4 (fun q e => by have := (R2.lt q e).1; omega)
        have B4 : Below b w w4 := below_grown (B2.alloc (Nat.le_trans (Nat.le_of_lt HBL.out) B2.size) (.cells #[.int .i64 y0, .int .i64 y1, .int .i64 y2, .int .i64 y3, .int .i64 y4] 35)) (Nat.le_of_lt (C2.next (alloc_b (o := .cells #[.int .i64 y0, .int .i64 y1, .int .i64 y2, .int .i64 y3, .int .i64 y4] 35))).lt) G4 (fun g hg => by have := (R2.lt g hg).1; omega)
        clear G4 R2 C2 O2 B2
        go_wp2
        go_roundw
        case rel => first | exact ⟨i, _, _, rfl, by first | go_num | (congr 1; omega) | (simp; omega), by rw [List.length_append, List.length_singleton]; omega, R4, C4.mono (by have := HKK.out; rw [List.length_append, List.length_singleton]; omega), B4⟩ | ((repeat apply Exists.intro); exact ⟨⟨i, _, _, rfl, by first | go_num | (congr 1; omega) | (simp; omega), by rw [List.length_append, List.length_singleton]; omega, R4, C4.mono (by have := HKK.out; rw [List.length_append, List.length_singleton]; omega), B4⟩, rfl⟩)
        case measure => simp [intOf]
      | zero =>
        have hz : ¬ (0 : Int) < ((0 : Nat) : Int) := by omega
        go_upto_region 10 with (first | (go_at_call 57; (with_reducible show Calls Try.prog 57 #[_, .int .i64 4] wr _); refine (one30 b (KK) 4 wr (by omega) HCu.out (by decide) (by decide)).mono ?_; rintro e u5 ⟨t5, rfl, C5, O5⟩))
        all_goals (have R5 := HR.out.far O5 (Nat.lt_succ_self _)); (have B5 : Below b w u5 := HB.out.trans (O5.below (Nat.le_refl _) (Nat.le_trans (Nat.le_of_lt HBL.out) HB.out.size))); clear HR HCu HB O5
        all_goals try (go_ret; exact ⟨⟨_, L, rfl, R5, by omega⟩, B5⟩)
        go_upto_region 12 with (first | (go_at_call 57; (with_reducible show Calls Try.prog 57 #[_, .int .i64 2] u5 _); refine (one30 b (KK + 2) 2 u5 (by omega) C5 (by decide) (by decide)).mono ?_; rintro e u6 ⟨t6, rfl, C6, O6⟩) | (at_builtin; (have R6 := R5.far O6 (Nat.lt_succ_self _)); refine wpList_append_rows rfl _ _ rfl rfl rfl (CR.lits u6) (R6.alloc _) (by simp; omega) ?_))
        all_goals first
          | (intro v7 w7 R7 G7; (have B6 : Below b w u6 := B5.trans (O6.below (Nat.le_refl _) (Nat.le_trans (Nat.le_of_lt HBL.out) B5.size))); (have B7 : Below b w w7 := below_grown (B6.alloc (Nat.le_trans (Nat.le_of_lt HBL.out) B6.size) (.cells #[.int .i64 2, .int .i64 0, .int .i64 0, .int .i64 0, .int .i64 0, .int .i64 3, .int .i64 1, .int .i64 0, .int .i64 0, .int .i64 0, .int .i64 2, .int .i64 2, .int .i64 0, .int .i64 0, .int .i64 0] 35)) (Nat.le_trans (Nat.le_of_lt C6.lt) (alloc_b (v := u6) (o := .cells #[.int .i64 2, .int .i64 0, .int .i64 0, .int .i64 0, .int .i64 0, .int .i64 3, .int .i64 1, .int .i64 0, .int .i64 0, .int .i64 0, .int .i64 2, .int .i64 2, .int .i64 0, .int .i64 0, .int .i64 0] 35)).size) G7 (fun g hg => by have h1 := (CR.lits u6).lt g hg; have h2 := C6.lt; omega)); (have R8 : CR (b + 1) w7 v7 ([(2, 0, 0, 0, 0), (3, 1, 0, 0, 0), (2, 2, 0, 0, 0)] ++ L) := R7.low C6.lt); (have h8 : ([(2, 0, 0, 0, 0), (3, 1, 0, 0, 0), (2, 2, 0, 0, 0)] ++ L).length ≤ 64 := by simp; omega); generalize [(2, 0, 0, 0, 0), (3, 1, 0, 0, 0), (2, 2, 0, 0, 0)] ++ L = L7 at R8 h8; clear R7 G7 B6 C6 O6 R5 B5 C5; go_upto_region 12 with fail)
          | ((have R8 := R5.far O6 (Nat.lt_succ_self _)); (have B7 : Below b w u6 := B5.trans (O6.below (Nat.le_refl _) (Nat.le_trans (Nat.le_of_lt HBL.out) B5.size))); (have h8 : L.length ≤ 64 := by omega); clear C6 O6 R5 B5 C5; generalize u6 = w7 at R8 B7 ⊢; generalize L = L7 at R8 h8; generalize v = v7 at R8 ⊢)
        all_goals
          obtain ⟨ad7, c7, rfl, hlc, A7⟩ := R8.arg
          have HM := Hid.mk (mlt ad7 L7.length c7 (atC0 L7) (atC1 L7) (atC2 L7) (atC3 L7) (atC4 L7) w7 A7 (by omega))
          have h9 : (ltR (atC0 L7) (atC1 L7) (atC2 L7) (atC3 L7) (atC4 L7) L7.length).length ≤ 64 := by
            unfold ltR
            cases h : ltB (atC0 L7) (atC1 L7) (atC2 L7) (atC3 L7) (atC4 L7) L7.length
            · simp
            · have h2 : (ltL (atC0 L7) (atC1 L7) (atC2 L7) (atC3 L7) (atC4 L7) L7.length).length ≤ 60 := by unfold ltB at h; simp at h; exact h.2.2
              simp only [if_true]
              omega
          generalize ltR (atC0 L7) (atC1 L7) (atC2 L7) (atC3 L7) (atC4 L7) L7.length = LR at HM h9
          generalize ltB (atC0 L7) (atC1 L7) (atC2 L7) (atC3 L7) (atC4 L7) L7.length = LB at HM
          have h7 : b + 1 ≤ w7.heap.size := R8.2
          cases LB
          all_goals
            go_wp2_with (first | (go_at_call 10; refine HM.out.mono ?_; rintro e w9 ⟨⟨x9, rfl, R9⟩, B9⟩; (have RL := R8.next B9); (have B10 : Below b w w9 := B7.trans (B9.mono (by omega)))))
            go_ret
            first | exact ⟨⟨_, LR, rfl, R9.low h7, h9⟩, B10⟩ | exact ⟨⟨_, L7, rfl, RL, h8⟩, B10⟩
end Go.Proofs.Ytnbpncjbfnhkjaa
