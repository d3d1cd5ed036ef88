/- LeastTurns of the model. -/
import Derived.Test.YtnbpncjbfnhkjaaVl
import Derived.Lib.AppendZeros
namespace Go.Proofs.Ytnbpncjbfnhkjaa
open Go.ChangeShapes Go.WideShapes Go.ChangeAt Go.RowKit
set_option linter.unusedVariables false
theorem step_val {P : Program} {ops : Array Oper} {o : Oper} {a : Act} {w : World} {K : Act → World → Prop} {Q : Exit → Act → World → Prop} {E : Prop} (v : Value) (w' : World) (hgd : o.guard = none) (hrun : (execOp a.eval o).run P w = .ok (.value v) w') (hK : K (a.put o.dst v) w') : if Region.wanted o (yielded ops a.tmps) = true then Oper.wp P o a w K Q else E := by
  have hw : Region.wanted o (yielded ops a.tmps) = true := by simp [Region.wanted, hgd]
  rw [if_pos hw]
  unfold Oper.wp
  rw [hrun, Oper.upon_value]
  exact hK
theorem step_app {P : Program} {ops : Array Oper} {o : Oper} {a : Act} {w : World} {K : Act → World → Prop} {Q : Exit → Act → World → Prop} {E : Prop} (s x : Operand) (t : TypeId) (vs vx v' : Value) (w' : World) (hgd : o.guard = none) (ho : o.op = .call { callee := .builtin .append, args := #[s, x], argTypes := #[t, t] }) (hs : a.eval s = vs) (hx : a.eval x = vx) (hr : (Builtin.append_ #[t, t] o.type #[vs, vx]).run P w = .ok v' w') (hK : K (a.put o.dst v') w') : if Region.wanted o (yielded ops a.tmps) = true then Oper.wp P o a w K Q else E := by
  have hw : Region.wanted o (yielded ops a.tmps) = true := by simp [Region.wanted, hgd]
  rw [if_pos hw]
  exact Lib.wp_append_run w s x t t ho vs vx hs hx v' w' hr hK
theorem Own.grown {w w' : World} {o n : Nat} {f : Nat → Value} {row : Option Nat} (h : Own w o n f) (k : w.grownBy w' row) (hne : some o ≠ row) : Own w' o n f :=
  ⟨fun i hi => (World.cell?_of_block (w := w) (a := ⟨o, i, none⟩) (k.block o h.hi hne)).trans (h.cell i hi), fun i => (World.frozen?_of_block (w := w) (a := ⟨o, i, none⟩) (k.block o h.hi hne)).trans (h.free i), Nat.lt_of_lt_of_le h.hi k.size⟩
theorem ag_no {K T F O M : Nat → Int} {n k : Nat} (hk : k < n) (h : gcB (K k) (T k) (F k) (O k) (M k) = false) : agB K T F O M n = false := by
  cases e : agB K T F O M n
  · rfl
  · rw [ag_iff.1 e k hk] at h; exact absurd h (by decide)
set_option maxRecDepth 100000 in
set_option maxHeartbeats 8000000 in
theorem mlt (ad : Option Addr) (n c : Nat) (K T F O M : Nat → Int) (w : World) (A : ArgC w ad n K T F O M) (hn : n ≤ 9223372036854775807) : Calls Try.prog 10 #[.slice ad n c] w fun e w' => (∃ v, e = .returned (.tuple #[v, .bool (ltB K T F O M n)]) ∧ CR w.heap.size w' v (ltR K T F O M n)) ∧ Below w.heap.size w w' := by
  have HX := A.hid
  have HNO : Hid ((decide (n ≤ 60) && agB K T F O M n) = false → ltB K T F O M n = false ∧ ltR K T F O M n = []) := fun h => by
    have e : ltB K T F O M n = false := by unfold ltB; rw [← Bool.and_assoc, h]; rfl
    exact ⟨e, by unfold ltR; rw [e]; rfl⟩
  have HYE : Hid ((decide (n ≤ 60) && agB K T F O M n) = true → ((ltL K T F O M n).length ≤ 60 → ltB K T F O M n = true ∧ ltR K T F O M n = ltL K T F O M n) ∧ (¬ (ltL K T F O M n).length ≤ 60 → ltB K T F O M n = false ∧ ltR K T F O M n = [])) := fun h => by
    constructor
    · intro h2
      have e : ltB K T F O M n = true := by unfold ltB; rw [← Bool.and_assoc, h, decide_eq_true h2]; rfl
      exact ⟨e, by unfold ltR; rw [if_pos e]⟩
    · intro h2
      have e : ltB K T F O M n = false := by unfold ltB; rw [← Bool.and_assoc, h, decide_eq_false h2]; rfl
      exact ⟨e, by unfold ltR; rw [e]; rfl⟩
  clear A
  by_cases hn60 : n ≤ 60
  case neg =>
    obtain ⟨e1, e2⟩ := HNO.out (by rw [decide_eq_false hn60]; rfl)
    rw [e1, e2]
    have h1 : (60 : Int) < (n : Int) := by omega
    clear HNO HYE HX e1 e2
    go_enter Try.func10, Try.ntmps10
    go_wp2
    go_ret2
    exact ⟨⟨_, rfl, CR.nil _ _ (Nat.le_refl _)⟩, Below.refl _ _⟩
  have h1 : ¬ (60 : Int) < (n : Int) := by omega
  have HBAD : Hid (∀ k, k < n → gcB (K k) (T k) (F k) (O k) (M k) = false → ltB K T F O M n = false ∧ ltR K T F O M n = []) := fun k hk h => HNO.out (by rw [ag_no hk h, Bool.and_false])
  have HEND : Hid ((∀ i, i < n → gcB (K i) (T i) (F i) (O i) (M i) = true) → ((ltL K T F O M n).length ≤ 60 → ltB K T F O M n = true ∧ ltR K T F O M n = ltL K T F O M n) ∧ (¬ (ltL K T F O M n).length ≤ 60 → ltB K T F O M n = false ∧ ltR K T F O M n = [])) := fun h => HYE.out (by rw [decide_eq_true hn60, ag_iff.2 h]; rfl)
  clear HNO HYE
  generalize ltB K T F O M n = LB at HBAD HEND ⊢
  generalize ltR K T F O M n = LR at HBAD HEND ⊢
  obtain ⟨i3, hi3, hz30, hz31, hz32⟩ := info_parts info3
  go_enter Try.func10, Try.ntmps10
  go_wp2_with (at_make; (with_reducible refine wpList_make_full _ rfl _ _ 44 rfl w.heap.size 3 i3 (.int .i64 0) 1 Try.underlying44 hi3 hz30 hz31 .i64 .i64 _ _ 8 rfl rfl rfl rfl ?b2 ?b3 ?b4 ?_))
  all_goals first | (rw [hz32]; decide) | decide | exact Nat.le_refl _ | skip
  intro w1 hown1 hgrow1
  have RA : Own w1 w.heap.size 8 (fun _ => .int .i64 0) := own_made hown1
  have B1 : Below w.heap.size w w1 := (Below.refl _ _).grown hgrow1 (Nat.le_refl _) (by simp)
  have CX := CR.nil (w.heap.size + 1) w1 (Nat.succ_le_of_lt RA.hi)
  clear hown1 hgrow1 hi3 hz30 hz31 hz32
  obtain ⟨ga, hga⟩ : ∃ z, w.heap.size = z := ⟨_, rfl⟩
  have HGA : Hid (w.heap.size = ga) := hga
  rw [hga] at RA CX
  go_wp2
  rw [hga]
  clear hga
  go_loopw [5, 14] (fun tv i wr => ∃ (k : Nat) (v : Value), k ≤ n ∧ v = tv ∧ i = .int .i64 k ∧ Hid (CR (ga + 1) wr v (ltL K T F O M k) ∧ Own wr ga 8 (fun x => .int .i64 (ltS K T k x)) ∧ ∀ j, j < k → gcB (K j) (T j) (F j) (O j) (M j) = true) ∧ Below w.heap.size w wr) (fun _ i _ => n - (intOf i).toNat)
  case atStart => exact ⟨0, _, Nat.zero_le _, rfl, rfl, ⟨CX, RA, fun j hj => absurd hj (Nat.not_lt_zero _)⟩, B1⟩
  case round =>
    clear RA B1 CX
    obtain ⟨k, v5, hk, rfl, rfl, HR, B⟩ := hrel
    by_cases hkn : k < n
    case neg =>
      obtain rfl : n = k := by omega
      have i1 : ¬ ((n : Nat) : Int) < (n : Int) := by omega
      have HCR : Hid (CR (ga + 1) wr v5 (ltL K T F O M n)) := HR.out.1
      have hform := HCR.out.form
      replace HEND := Hid.mk (HEND.out HR.out.2.2)
      by_cases hl : (ltL K T F O M n).length ≤ 60
      · obtain ⟨rfl, rfl⟩ := HEND.out.1 hl
        have HF : Hid (CR w.heap.size wr v5 (ltL K T F O M n)) := HCR.out.low (by have := HGA.out; omega)
        clear HX HR HEND HBAD HCR
        rcases hform with ⟨h1, rfl⟩ | ⟨g, cc, rfl⟩
        · clear h1
          go_wp2
          go_ret2
          exact ⟨⟨_, rfl, HF.out⟩, B⟩
        · have h3 : ¬ (60 : Int) < ((ltL K T F O M n).length : Int) := by omega
          go_wp2
          go_ret2
          exact ⟨⟨_, rfl, HF.out⟩, B⟩
      · obtain ⟨rfl, rfl⟩ := HEND.out.2 hl
        clear HX HR HEND HBAD HCR
        rcases hform with ⟨h1, rfl⟩ | ⟨g, cc, rfl⟩
        · rw [h1] at hl; exact absurd (Nat.zero_le 60) hl
        · have h3 : (60 : Int) < ((ltL K T F O M n).length : Int) := by omega
          go_wp2
          go_ret2
          exact ⟨⟨_, rfl, CR.nil _ _ B.size⟩, B⟩
    obtain ⟨g, off, rfl, hg, d0, d1, d2, d3, d4⟩ := HX.out k hkn
    replace d0 := (B.cell (p := ⟨g, off + k * 5, none⟩) hg).trans d0
    replace d1 := (B.cell (p := ⟨g, off + k * 5 + 1, none⟩) hg).trans d1
    replace d2 := (B.cell (p := ⟨g, off + k * 5 + 2, none⟩) hg).trans d2
    replace d3 := (B.cell (p := ⟨g, off + k * 5 + 3, none⟩) hg).trans d3
    replace d4 := (B.cell (p := ⟨g, off + k * 5 + 4, none⟩) hg).trans d4
    have i1 : (k : Int) < (n : Int) := by omega
    have i0 : (0 : Int) ≤ (k : Int) := by omega
    cases hgk : gcB (K k) (T k) (F k) (O k) (M k)
    case false =>
      obtain ⟨rfl, rfl⟩ := HBAD.out k hkn hgk
      have HGC : Hid (∀ v, Calls Try.prog 14 #[.agg #[.int .i64 (K k), .int .i64 (T k), .int .i64 (F k), .int .i64 (O k), .int .i64 (M k)]] v fun e w'' => e = .returned (.bool false) ∧ Below v.heap.size v w'') := fun v => by have h := mgc (K k) (T k) (F k) (O k) (M k) v; rwa [hgk] at h
      have BW : Below w.heap.size w (wr.alloc (.cells #[.int .i64 (K k), .int .i64 (T k), .int .i64 (F k), .int .i64 (O k), .int .i64 (M k)] 35)) := B.alloc B.size _
      clear HX HR HEND HBAD hgk
      generalize K k = xk at HGC BW d0
      generalize T k = xt at HGC BW d1
      generalize F k = xf at HGC BW d2
      generalize O k = xo at HGC BW d3
      generalize M k = xm at HGC BW d4
      go_wp2_with (first | (go_at_call 14; refine (HGC.out _).mono ?_; rintro e w2 ⟨rfl, B2⟩))
      go_ret2
      exact ⟨⟨_, rfl, CR.nil _ _ (Nat.le_trans BW.size B2.size)⟩, BW.trans (B2.mono BW.size)⟩
    obtain ⟨q, hTq, hq⟩ := gc_thing hgk
    have q0 : (0 : Int) ≤ (q : Int) := by omega
    have q1 : (q : Int) < 8 := by omega
    have HGC : Hid (∀ v, Calls Try.prog 14 #[.agg #[.int .i64 (K k), .int .i64 (T k), .int .i64 (F k), .int .i64 (O k), .int .i64 (M k)]] v fun e w'' => e = .returned (.bool true) ∧ Below v.heap.size v w'') := fun v => by have h := mgc (K k) (T k) (F k) (O k) (M k) v; rwa [hgk] at h
    rw [hTq] at d1 HGC
    have CK := HR.out.1
    have OK := HR.out.2.1
    have H4 : Hid (K k = 4 → ltL K T F O M (k + 1) = ltL K T F O M k ∧ ltS K T (k + 1) = ltS K T k) := lt_four
    have HT1 : Hid (tfB (K k) (ltS K T k q) = true → ltL K T F O M (k + 1) = (ltL K T F O M k ++ [(4, (q : Int), ltS K T k q, K k, 0)]) ++ [(K k, (q : Int), F k, O k, M k)] ∧ ltS K T (k + 1) = upd (ltS K T k) q (K k)) := lt_turn hTq
    have HN1 : Hid (¬ K k = 4 → tfB (K k) (ltS K T k q) = false → ltL K T F O M (k + 1) = ltL K T F O M k ++ [(K k, (q : Int), F k, O k, M k)] ∧ ltS K T (k + 1) = ltS K T k) := lt_none hTq
    have HGN : Hid (∀ j, j < k + 1 → gcB (K j) (T j) (F j) (O j) (M j) = true) := fun j hj => if e : j = k then e ▸ hgk else HR.out.2.2 j (by omega)
    have hlen : (ltL K T F O M k).length < 1000 := by have := ltL_len K T F O M k; omega
    have HLT : Hid (∀ g, v5.ownBlock = some g → ga + 1 ≤ g ∧ g < wr.heap.size) := CK.lt
    have hgw : ga < wr.heap.size := OK.hi
    clear HR HX HEND HBAD hTq hgk
    generalize ltL K T F O M k = L at H4 HT1 HN1 CK hlen
    generalize hS : ltS K T k = S at H4 HT1 HN1 OK
    clear hS
    generalize K k = xk at H4 HT1 HN1 HGC d0
    generalize F k = xf at HT1 HN1 HGC d2
    generalize O k = xo at HT1 HN1 HGC d3
    generalize M k = xm at HT1 HN1 HGC d4
    have PW := C5.new wr 35 (.int .i64 xk) (.int .i64 (q : Int)) (.int .i64 xf) (.int .i64 xo) (.int .i64 xm)
    have OW := OK.next (alloc_b (o := .cells #[.int .i64 xk, .int .i64 (q : Int), .int .i64 xf, .int .i64 xo, .int .i64 xm] 35))
    have CW := CK.alloc (.cells #[.int .i64 xk, .int .i64 (q : Int), .int .i64 xf, .int .i64 xo, .int .i64 xm] 35)
    have BW : Below w.heap.size w (wr.alloc (.cells #[.int .i64 xk, .int .i64 (q : Int), .int .i64 xf, .int .i64 xo, .int .i64 xm] 35)) := B.alloc B.size _
    have hs1 := OK.cell q hq
    generalize hsv : S q = s at HT1 HN1 hs1
    have HSQ : Hid (S q = s) := hsv
    clear hsv CK OK hs1
    by_cases k4 : xk = 4
    · subst k4
      obtain ⟨e1, e2⟩ := H4.out rfl
      have HFL := Hid.mk e1
      have HFS := Hid.mk e2
      clear e1 e2 H4 HT1 HN1 HSQ
      go_wp2_with (first | (go_at_call 14; refine (HGC.out _).mono ?_; rintro e w2 ⟨rfl, B2⟩; (have P2 := PW.next B2); (have OA := OW.next B2); (have C2 := CW.next B2); (have D2 := BW.trans (B2.mono BW.size)); (have q0 := P2.c0); (have q1 := P2.c1); (have q2 := P2.c2); (have q3 := P2.c3); (have q4 := P2.c4);  clear B2 PW OW CW BW))
      have HF : Hid (CR (ga + 1) w2 v5 (ltL K T F O M (k + 1)) ∧ Own w2 ga 8 (fun x => .int .i64 (ltS K T (k + 1) x)) ∧ ∀ j, j < k + 1 → gcB (K j) (T j) (F j) (O j) (M j) = true) := by rw [HFL.out, HFS.out]; exact ⟨C2, OA, HGN.out⟩
      go_roundw
      case rel => exact ⟨k + 1, _, by omega, rfl, by go_num, HF, D2⟩
      case measure => simp [intOf]; omega
    have k4b : (xk == 4) = false := by simpa using k4
    have HU0 : Hid (∀ v, Calls Try.prog 34 #[.int .i64 xk] v fun e w' => e = .returned (.bool (decide (1 ≤ xk ∧ xk ≤ 3))) ∧ w' = v) := fun v => muses xk v
    obtain ⟨pw, hpw⟩ : ∃ z, wr.heap.size = z := ⟨_, rfl⟩
    rw [hpw] at PW hgw HLT
    clear H4
    cases htf : tfB xk s
    case false =>
      obtain ⟨e1, e2⟩ := HN1.out k4 htf
      have HFL := Hid.mk e1
      have HFS := Hid.mk e2
      by_cases hu : 1 ≤ xk ∧ xk ≤ 3
      · have HU : Hid (∀ v, Calls Try.prog 34 #[.int .i64 xk] v fun e w' => e = .returned (.bool true) ∧ w' = v) := fun v => by have h := HU0.out v; rwa [decide_eq_true hu] at h
        have hks : xk = s := by have h := of_decide_eq_false htf; omega
        clear e1 e2 HT1 HN1 HU0 htf
        subst hks
        go_wp2_with (first | (go_at_call 14; refine (HGC.out _).mono ?_; rintro e w2 ⟨rfl, B2⟩; (have P2 := PW.next B2); (have OA := OW.next B2); (have C2 := CW.next B2); (have D2 := BW.trans (B2.mono BW.size)); (have q0 := P2.c0); (have q1 := P2.c1); (have q2 := P2.c2); (have q3 := P2.c3); (have q4 := P2.c4); (have hs := OA.cell q hq); clear B2 PW OW CW BW))
        clear hpw q2 q3 q4
        replace hs : w2.cell? ⟨ga, q, none⟩ = some (.int .i64 xk) := by rw [hs, HSQ.out]
        replace P2 := P2.next (below_drew (Below.refl _ _))
        replace hs := cell_nx hs (below_drew (Below.refl _ _))
        replace OA := OA.next (below_drew (Below.refl _ _))
        replace C2 := C2.next (below_drew (Below.refl _ _))
        replace D2 := below_drew D2
        generalize hXA : World.drew w2 = XA at P2 hs OA C2 D2
        refine wp_region_held_drew (S := fun v => Below XA.heap.size XA v) (by kernel_rfl) (by rw [hXA]; exact Below.refl _ _) (fun hH => ?_)
        rw [hXA] at hH ⊢
        clear hXA
        have q0 := P2.c0
        have q1 := P2.c1
        have q2 := P2.c2
        have q3 := P2.c3
        have q4 := P2.c4
        refine wpAnyH_take (i := 0) (oi := { dst := some 24, op := Op.fieldAddr 35 (Operand.tmp 7) 0, type := 0, pos := "l19_commands.go:259", after := #[], guard := none }) (v := .pointer (some ⟨pw, 0, none⟩)) rfl (by kernel_rfl) (by kernel_rfl) (by kernel_rfl) (fun _ _ _ h => h) (Or.inl ⟨by rfl, fun w0 hSw => by (go_simp)⟩) hH ?_
        simp only [Act.put, List.setIfInBounds_toArray, List.set_cons_zero, List.set_cons_succ]
        refine wpAnyH_take (i := 1) (oi := { dst := some 25, op := Op.load 3 (Operand.tmp 24), type := 3, pos := "l19_commands.go:259", after := #[{ on := 0, ground := Ground.data }], guard := none }) (v := .int .i64 xk) rfl (by kernel_rfl) (by kernel_rfl) (by kernel_rfl) (fun _ _ _ h => h) (Or.inl ⟨by rfl, fun w0 hSw => by ((have e9 := cell_nx P2.c0 hSw); go_simp)⟩) hH ?_
        simp only [Act.put, List.setIfInBounds_toArray, List.set_cons_zero, List.set_cons_succ]
        refine wpAnyH_ready (rs := [2]) (by kernel_rfl) (by simp) ?_
        refine (AllReadyH.cons (o := { dst := some 26, op := Op.call { callee := Callee.value (Operand.func 34), args := #[Operand.tmp 25], argTypes := #[3] }, type := 4, pos := "l19_commands.go:259", after := #[{ on := 1, ground := Ground.data }], guard := none }) rfl (fun K hK => ?_) AllReadyH.nil)
        refine step_callW 34 #[.int .i64 xk] (fun z v w9 => z = .bool true ∧ w9 = v) (by rfl) (by go_simp) ((HU.out _).mono fun e w9 ⟨h1, h2⟩ => ⟨_, h1, rfl, h2⟩) ?_
        rintro z9 w9 ⟨rfl, hw9⟩
        subst w9
        simp only [Act.put, List.setIfInBounds_toArray, List.set_cons_zero, List.set_cons_succ]
        refine hK.out _ _ hH (fun hH' => ?_)
        clear hK K
        replace hH := hH'
        clear hH'
        refine wpAnyH_take (i := 3) (oi := { dst := some 27, op := Op.move (Operand.tmp 26), type := 4, pos := "l19_commands.go:259", after := #[{ on := 2, ground := Ground.data }, { on := 2, ground := Ground.chain }], guard := none }) (v := .bool true) rfl (by kernel_rfl) (by kernel_rfl) (by kernel_rfl) (fun _ _ _ h => h) (Or.inl ⟨by rfl, fun w0 hSw => by (go_simp)⟩) hH ?_
        simp only [Act.put, List.setIfInBounds_toArray, List.set_cons_zero, List.set_cons_succ]
        refine wpAnyH_take (i := 4) (oi := { dst := some 28, op := Op.move (Operand.tmp 4), type := 44, pos := "l19_commands.go:259", after := #[{ on := 3, ground := Ground.guard }], guard := some (3, true) }) (v := .slice (some ⟨ga, 0, none⟩) 8 8) rfl (by kernel_rfl) (by kernel_rfl) (by kernel_rfl) (fun _ _ _ h => h) (Or.inl ⟨by rfl, fun w0 hSw => by (go_simp)⟩) hH ?_
        simp only [Act.put, List.setIfInBounds_toArray, List.set_cons_zero, List.set_cons_succ]
        refine wpAnyH_take (i := 5) (oi := { dst := some 29, op := Op.fieldAddr 35 (Operand.tmp 7) 1, type := 0, pos := "l19_commands.go:259", after := #[{ on := 3, ground := Ground.guard }], guard := some (3, true) }) (v := .pointer (some ⟨pw, 1, none⟩)) rfl (by kernel_rfl) (by kernel_rfl) (by kernel_rfl) (fun _ _ _ h => h) (Or.inl ⟨by rfl, fun w0 hSw => by (go_simp)⟩) hH ?_
        simp only [Act.put, List.setIfInBounds_toArray, List.set_cons_zero, List.set_cons_succ]
        refine wpAnyH_take (i := 6) (oi := { dst := some 30, op := Op.load 3 (Operand.tmp 29), type := 3, pos := "l19_commands.go:259", after := #[{ on := 5, ground := Ground.data }, { on := 3, ground := Ground.guard }], guard := some (3, true) }) (v := .int .i64 (q : Int)) rfl (by kernel_rfl) (by kernel_rfl) (by kernel_rfl) (fun _ _ _ h => h) (Or.inl ⟨by rfl, fun w0 hSw => by ((have e9 := cell_nx P2.c1 hSw); go_simp)⟩) hH ?_
        simp only [Act.put, List.setIfInBounds_toArray, List.set_cons_zero, List.set_cons_succ]
        refine wpAnyH_take (i := 7) (oi := { dst := some 31, op := Op.indexAddr 44 (Operand.tmp 28) (Operand.tmp 30), type := 0, pos := "l19_commands.go:259", after := #[{ on := 4, ground := Ground.data }, { on := 6, ground := Ground.data }, { on := 3, ground := Ground.guard }], guard := some (3, true) }) (v := .pointer (some ⟨ga, q, none⟩)) rfl (by kernel_rfl) (by kernel_rfl) (by kernel_rfl) (fun _ _ _ h => h) (Or.inl ⟨by rfl, fun w0 hSw => by (go_simp)⟩) hH ?_
        simp only [Act.put, List.setIfInBounds_toArray, List.set_cons_zero, List.set_cons_succ]
        refine wpAnyH_take (i := 8) (oi := { dst := some 32, op := Op.load 3 (Operand.tmp 31), type := 3, pos := "l19_commands.go:259", after := #[{ on := 7, ground := Ground.data }, { on := 3, ground := Ground.guard }], guard := some (3, true) }) (v := .int .i64 xk) rfl (by kernel_rfl) (by kernel_rfl) (by kernel_rfl) (fun _ _ _ h => h) (Or.inl ⟨by rfl, fun w0 hSw => by ((have e9 := cell_nx hs hSw); go_simp)⟩) hH ?_
        simp only [Act.put, List.setIfInBounds_toArray, List.set_cons_zero, List.set_cons_succ]
        refine wpAnyH_take (i := 9) (oi := { dst := some 33, op := Op.fieldAddr 35 (Operand.tmp 7) 0, type := 0, pos := "l19_commands.go:259", after := #[{ on := 3, ground := Ground.guard }], guard := some (3, true) }) (v := .pointer (some ⟨pw, 0, none⟩)) rfl (by kernel_rfl) (by kernel_rfl) (by kernel_rfl) (fun _ _ _ h => h) (Or.inl ⟨by rfl, fun w0 hSw => by (go_simp)⟩) hH ?_
        simp only [Act.put, List.setIfInBounds_toArray, List.set_cons_zero, List.set_cons_succ]
        refine wpAnyH_take (i := 10) (oi := { dst := some 34, op := Op.load 3 (Operand.tmp 33), type := 3, pos := "l19_commands.go:259", after := #[{ on := 9, ground := Ground.data }, { on := 3, ground := Ground.guard }], guard := some (3, true) }) (v := .int .i64 xk) rfl (by kernel_rfl) (by kernel_rfl) (by kernel_rfl) (fun _ _ _ h => h) (Or.inl ⟨by rfl, fun w0 hSw => by ((have e9 := cell_nx P2.c0 hSw); go_simp)⟩) hH ?_
        simp only [Act.put, List.setIfInBounds_toArray, List.set_cons_zero, List.set_cons_succ]
        refine wpAnyH_take (i := 11) (oi := { dst := some 35, op := Op.binOp BinOp.neq 3 (Operand.tmp 32) (Operand.tmp 34) 3, type := 4, pos := "l19_commands.go:259", after := #[{ on := 8, ground := Ground.data }, { on := 10, ground := Ground.data }, { on := 3, ground := Ground.guard }], guard := some (3, true) }) (v := .bool false) rfl (by kernel_rfl) (by kernel_rfl) (by kernel_rfl) (fun _ _ _ h => h) (Or.inl ⟨by rfl, fun w0 hSw => by (go_simp)⟩) hH ?_
        simp only [Act.put, List.setIfInBounds_toArray, List.set_cons_zero, List.set_cons_succ]
        refine wpAnyH_take (i := 12) (oi := { dst := some 36, op := Op.pick (Operand.tmp 27) (Operand.tmp 35) (Operand.const (Value.bool false)), type := 4, pos := "l19_commands.go:259", after := #[{ on := 3, ground := Ground.data }, { on := 11, ground := Ground.data }], guard := none }) (v := .bool false) rfl (by kernel_rfl) (by kernel_rfl) (by kernel_rfl) (fun _ _ _ h => h) (Or.inl ⟨by rfl, fun w0 hSw => by (go_simp)⟩) hH ?_
        simp only [Act.put, List.setIfInBounds_toArray, List.set_cons_zero, List.set_cons_succ]
        refine wpAnyH_done (by kernel_rfl) ?_ _
        go_wp2_with (first | (at_builtin; refine wpList_append_cmd rfl _ _ rfl rfl (v := v5) (by first | rfl | (simp; rfl)) (C2.alloc _) (C5.new _ 35 (.int .i64 xk) (.int .i64 (q : Int)) (.int .i64 xf) (.int .i64 xo) (.int .i64 xm)) (by omega) ?_))
        intro g4 cap4 w4 C4x G4
        have O4 := (OA.next (alloc_b (o := .cells #[.int .i64 xk, .int .i64 (q : Int), .int .i64 xf, .int .i64 xo, .int .i64 xm] 35))).grown G4 (fun e => by have := HLT.out _ e.symm; omega)
        have D4 := below_grown (D2.alloc D2.size (.cells #[.int .i64 xk, .int .i64 (q : Int), .int .i64 xf, .int .i64 xo, .int .i64 xm] 35)) (Nat.le_trans D2.size (alloc_b (v := XA) (o := .cells #[.int .i64 xk, .int .i64 (q : Int), .int .i64 xf, .int .i64 xo, .int .i64 xm] 35)).size) G4 (fun g hg => by have := HLT.out _ hg; have := HGA.out; omega)
        have HF : Hid (CR (ga + 1) w4 (.slice (some ⟨g4, 0, none⟩) (L.length + 1) cap4) (ltL K T F O M (k + 1)) ∧ Own w4 ga 8 (fun x => .int .i64 (ltS K T (k + 1) x)) ∧ ∀ j, j < k + 1 → gcB (K j) (T j) (F j) (O j) (M j) = true) := by rw [HFL.out, HFS.out]; exact ⟨C4x, O4, HGN.out⟩
        clear C2 D2 P2 G4 C4x O4 OA hs
        go_wp2
        go_roundw
        case rel => exact ⟨k + 1, _, by omega, rfl, by go_num, HF, D4⟩
        case measure => simp [intOf]; omega
      · have HU : Hid (∀ v, Calls Try.prog 34 #[.int .i64 xk] v fun e w' => e = .returned (.bool false) ∧ w' = v) := fun v => by have h := HU0.out v; rwa [decide_eq_false hu] at h
        clear e1 e2 HT1 HN1 HU0 htf
        go_wp2_with (first | (go_at_call 14; refine (HGC.out _).mono ?_; rintro e w2 ⟨rfl, B2⟩; (have P2 := PW.next B2); (have OA := OW.next B2); (have C2 := CW.next B2); (have D2 := BW.trans (B2.mono BW.size)); (have q0 := P2.c0); (have q1 := P2.c1); (have q2 := P2.c2); (have q3 := P2.c3); (have q4 := P2.c4); (have hs := OA.cell q hq); clear B2 PW OW CW BW))
        clear hpw q2 q3 q4
        replace hs : w2.cell? ⟨ga, q, none⟩ = some (.int .i64 s) := by rw [hs, HSQ.out]
        replace P2 := P2.next (below_drew (Below.refl _ _))
        replace hs := cell_nx hs (below_drew (Below.refl _ _))
        replace OA := OA.next (below_drew (Below.refl _ _))
        replace C2 := C2.next (below_drew (Below.refl _ _))
        replace D2 := below_drew D2
        generalize hXA : World.drew w2 = XA at P2 hs OA C2 D2
        refine wp_region_held_drew (S := fun v => Below XA.heap.size XA v) (by kernel_rfl) (by rw [hXA]; exact Below.refl _ _) (fun hH => ?_)
        rw [hXA] at hH ⊢
        clear hXA
        have q0 := P2.c0
        have q1 := P2.c1
        have q2 := P2.c2
        have q3 := P2.c3
        have q4 := P2.c4
        refine wpAnyH_take (i := 0) (oi := { dst := some 24, op := Op.fieldAddr 35 (Operand.tmp 7) 0, type := 0, pos := "l19_commands.go:259", after := #[], guard := none }) (v := .pointer (some ⟨pw, 0, none⟩)) rfl (by kernel_rfl) (by kernel_rfl) (by kernel_rfl) (fun _ _ _ h => h) (Or.inl ⟨by rfl, fun w0 hSw => by (go_simp)⟩) hH ?_
        simp only [Act.put, List.setIfInBounds_toArray, List.set_cons_zero, List.set_cons_succ]
        refine wpAnyH_take (i := 1) (oi := { dst := some 25, op := Op.load 3 (Operand.tmp 24), type := 3, pos := "l19_commands.go:259", after := #[{ on := 0, ground := Ground.data }], guard := none }) (v := .int .i64 xk) rfl (by kernel_rfl) (by kernel_rfl) (by kernel_rfl) (fun _ _ _ h => h) (Or.inl ⟨by rfl, fun w0 hSw => by ((have e9 := cell_nx P2.c0 hSw); go_simp)⟩) hH ?_
        simp only [Act.put, List.setIfInBounds_toArray, List.set_cons_zero, List.set_cons_succ]
        refine wpAnyH_ready (rs := [2]) (by kernel_rfl) (by simp) ?_
        refine (AllReadyH.cons (o := { dst := some 26, op := Op.call { callee := Callee.value (Operand.func 34), args := #[Operand.tmp 25], argTypes := #[3] }, type := 4, pos := "l19_commands.go:259", after := #[{ on := 1, ground := Ground.data }], guard := none }) rfl (fun K hK => ?_) AllReadyH.nil)
        refine step_callW 34 #[.int .i64 xk] (fun z v w9 => z = .bool false ∧ w9 = v) (by rfl) (by go_simp) ((HU.out _).mono fun e w9 ⟨h1, h2⟩ => ⟨_, h1, rfl, h2⟩) ?_
        rintro z9 w9 ⟨rfl, hw9⟩
        subst w9
        simp only [Act.put, List.setIfInBounds_toArray, List.set_cons_zero, List.set_cons_succ]
        refine hK.out _ _ hH (fun hH' => ?_)
        clear hK K
        replace hH := hH'
        clear hH'
        refine wpAnyH_take (i := 3) (oi := { dst := some 27, op := Op.move (Operand.tmp 26), type := 4, pos := "l19_commands.go:259", after := #[{ on := 2, ground := Ground.data }, { on := 2, ground := Ground.chain }], guard := none }) (v := .bool false) rfl (by kernel_rfl) (by kernel_rfl) (by kernel_rfl) (fun _ _ _ h => h) (Or.inl ⟨by rfl, fun w0 hSw => by (go_simp)⟩) hH ?_
        simp only [Act.put, List.setIfInBounds_toArray, List.set_cons_zero, List.set_cons_succ]
        refine wpAnyH_take (i := 4) (oi := { dst := some 28, op := Op.move (Operand.tmp 4), type := 44, pos := "l19_commands.go:259", after := #[{ on := 3, ground := Ground.guard }], guard := some (3, true) }) (v := undef) rfl (by kernel_rfl) (by kernel_rfl) (by kernel_rfl) (fun _ _ _ h => h) (Or.inr ⟨by rfl, rfl⟩) hH ?_
        simp only [Act.put, List.setIfInBounds_toArray, List.set_cons_zero, List.set_cons_succ]
        refine wpAnyH_take (i := 5) (oi := { dst := some 29, op := Op.fieldAddr 35 (Operand.tmp 7) 1, type := 0, pos := "l19_commands.go:259", after := #[{ on := 3, ground := Ground.guard }], guard := some (3, true) }) (v := undef) rfl (by kernel_rfl) (by kernel_rfl) (by kernel_rfl) (fun _ _ _ h => h) (Or.inr ⟨by rfl, rfl⟩) hH ?_
        simp only [Act.put, List.setIfInBounds_toArray, List.set_cons_zero, List.set_cons_succ]
        refine wpAnyH_take (i := 6) (oi := { dst := some 30, op := Op.load 3 (Operand.tmp 29), type := 3, pos := "l19_commands.go:259", after := #[{ on := 5, ground := Ground.data }, { on := 3, ground := Ground.guard }], guard := some (3, true) }) (v := undef) rfl (by kernel_rfl) (by kernel_rfl) (by kernel_rfl) (fun _ _ _ h => h) (Or.inr ⟨by rfl, rfl⟩) hH ?_
        simp only [Act.put, List.setIfInBounds_toArray, List.set_cons_zero, List.set_cons_succ]
        refine wpAnyH_take (i := 7) (oi := { dst := some 31, op := Op.indexAddr 44 (Operand.tmp 28) (Operand.tmp 30), type := 0, pos := "l19_commands.go:259", after := #[{ on := 4, ground := Ground.data }, { on := 6, ground := Ground.data }, { on := 3, ground := Ground.guard }], guard := some (3, true) }) (v := undef) rfl (by kernel_rfl) (by kernel_rfl) (by kernel_rfl) (fun _ _ _ h => h) (Or.inr ⟨by rfl, rfl⟩) hH ?_
        simp only [Act.put, List.setIfInBounds_toArray, List.set_cons_zero, List.set_cons_succ]
        refine wpAnyH_take (i := 8) (oi := { dst := some 32, op := Op.load 3 (Operand.tmp 31), type := 3, pos := "l19_commands.go:259", after := #[{ on := 7, ground := Ground.data }, { on := 3, ground := Ground.guard }], guard := some (3, true) }) (v := undef) rfl (by kernel_rfl) (by kernel_rfl) (by kernel_rfl) (fun _ _ _ h => h) (Or.inr ⟨by rfl, rfl⟩) hH ?_
        simp only [Act.put, List.setIfInBounds_toArray, List.set_cons_zero, List.set_cons_succ]
        refine wpAnyH_take (i := 9) (oi := { dst := some 33, op := Op.fieldAddr 35 (Operand.tmp 7) 0, type := 0, pos := "l19_commands.go:259", after := #[{ on := 3, ground := Ground.guard }], guard := some (3, true) }) (v := undef) rfl (by kernel_rfl) (by kernel_rfl) (by kernel_rfl) (fun _ _ _ h => h) (Or.inr ⟨by rfl, rfl⟩) hH ?_
        simp only [Act.put, List.setIfInBounds_toArray, List.set_cons_zero, List.set_cons_succ]
        refine wpAnyH_take (i := 10) (oi := { dst := some 34, op := Op.load 3 (Operand.tmp 33), type := 3, pos := "l19_commands.go:259", after := #[{ on := 9, ground := Ground.data }, { on := 3, ground := Ground.guard }], guard := some (3, true) }) (v := undef) rfl (by kernel_rfl) (by kernel_rfl) (by kernel_rfl) (fun _ _ _ h => h) (Or.inr ⟨by rfl, rfl⟩) hH ?_
        simp only [Act.put, List.setIfInBounds_toArray, List.set_cons_zero, List.set_cons_succ]
        refine wpAnyH_take (i := 11) (oi := { dst := some 35, op := Op.binOp BinOp.neq 3 (Operand.tmp 32) (Operand.tmp 34) 3, type := 4, pos := "l19_commands.go:259", after := #[{ on := 8, ground := Ground.data }, { on := 10, ground := Ground.data }, { on := 3, ground := Ground.guard }], guard := some (3, true) }) (v := undef) rfl (by kernel_rfl) (by kernel_rfl) (by kernel_rfl) (fun _ _ _ h => h) (Or.inr ⟨by rfl, rfl⟩) hH ?_
        simp only [Act.put, List.setIfInBounds_toArray, List.set_cons_zero, List.set_cons_succ]
        refine wpAnyH_take (i := 12) (oi := { dst := some 36, op := Op.pick (Operand.tmp 27) (Operand.tmp 35) (Operand.const (Value.bool false)), type := 4, pos := "l19_commands.go:259", after := #[{ on := 3, ground := Ground.data }, { on := 11, ground := Ground.data }], guard := none }) (v := .bool false) rfl (by kernel_rfl) (by kernel_rfl) (by kernel_rfl) (fun _ _ _ h => h) (Or.inl ⟨by rfl, fun w0 hSw => by (go_simp)⟩) hH ?_
        simp only [Act.put, List.setIfInBounds_toArray, List.set_cons_zero, List.set_cons_succ]
        refine wpAnyH_done (by kernel_rfl) ?_ _
        go_wp2_with (first | (at_builtin; refine wpList_append_cmd rfl _ _ rfl rfl (v := v5) (by first | rfl | (simp; rfl)) (C2.alloc _) (C5.new _ 35 (.int .i64 xk) (.int .i64 (q : Int)) (.int .i64 xf) (.int .i64 xo) (.int .i64 xm)) (by omega) ?_))
        intro g4 cap4 w4 C4x G4
        have O4 := (OA.next (alloc_b (o := .cells #[.int .i64 xk, .int .i64 (q : Int), .int .i64 xf, .int .i64 xo, .int .i64 xm] 35))).grown G4 (fun e => by have := HLT.out _ e.symm; omega)
        have D4 := below_grown (D2.alloc D2.size (.cells #[.int .i64 xk, .int .i64 (q : Int), .int .i64 xf, .int .i64 xo, .int .i64 xm] 35)) (Nat.le_trans D2.size (alloc_b (v := XA) (o := .cells #[.int .i64 xk, .int .i64 (q : Int), .int .i64 xf, .int .i64 xo, .int .i64 xm] 35)).size) G4 (fun g hg => by have := HLT.out _ hg; have := HGA.out; omega)
        have HF : Hid (CR (ga + 1) w4 (.slice (some ⟨g4, 0, none⟩) (L.length + 1) cap4) (ltL K T F O M (k + 1)) ∧ Own w4 ga 8 (fun x => .int .i64 (ltS K T (k + 1) x)) ∧ ∀ j, j < k + 1 → gcB (K j) (T j) (F j) (O j) (M j) = true) := by rw [HFL.out, HFS.out]; exact ⟨C4x, O4, HGN.out⟩
        clear C2 D2 P2 G4 C4x O4 OA hs
        go_wp2
        go_roundw
        case rel => exact ⟨k + 1, _, by omega, rfl, by go_num, HF, D4⟩
        case measure => simp [intOf]; omega
    obtain ⟨e1, e2⟩ := HT1.out htf
    have HFL := Hid.mk e1
    have HFS := Hid.mk e2
    have hkk := of_decide_eq_true htf
    have HU : Hid (∀ v, Calls Try.prog 34 #[.int .i64 xk] v fun e w' => e = .returned (.bool true) ∧ w' = v) := fun v => by have h := HU0.out v; rwa [decide_eq_true hkk.1] at h
    have hsb : (s != xk) = true := by simpa using Ne.symm hkk.2
    clear e1 e2 HT1 HN1 HU0 htf
    go_wp2_with (first | (go_at_call 14; refine (HGC.out _).mono ?_; rintro e w2 ⟨rfl, B2⟩; (have P2 := PW.next B2); (have OA := OW.next B2); (have C2 := CW.next B2); (have D2 := BW.trans (B2.mono BW.size)); (have q0 := P2.c0); (have q1 := P2.c1); (have q2 := P2.c2); (have q3 := P2.c3); (have q4 := P2.c4); (have hs := OA.cell q hq); clear B2 PW OW CW BW))
    clear hpw q2 q3 q4
    replace hs : w2.cell? ⟨ga, q, none⟩ = some (.int .i64 s) := by rw [hs, HSQ.out]
    replace P2 := P2.next (below_drew (Below.refl _ _))
    replace hs := cell_nx hs (below_drew (Below.refl _ _))
    replace OA := OA.next (below_drew (Below.refl _ _))
    replace C2 := C2.next (below_drew (Below.refl _ _))
    replace D2 := below_drew D2
    generalize hXA : World.drew w2 = XA at P2 hs OA C2 D2
    refine wp_region_held_drew (S := fun v => Below XA.heap.size XA v) (by kernel_rfl) (by rw [hXA]; exact Below.refl _ _) (fun hH => ?_)
    rw [hXA] at hH ⊢
    clear hXA
    have q0 := P2.c0
    have q1 := P2.c1
    have q2 := P2.c2
    have q3 := P2.c3
    have q4 := P2.c4
    refine wpAnyH_take (i := 0) (oi := { dst := some 24, op := Op.fieldAddr 35 (Operand.tmp 7) 0, type := 0, pos := "l19_commands.go:259", after := #[], guard := none }) (v := .pointer (some ⟨pw, 0, none⟩)) rfl (by kernel_rfl) (by kernel_rfl) (by kernel_rfl) (fun _ _ _ h => h) (Or.inl ⟨by rfl, fun w0 hSw => by (go_simp)⟩) hH ?_
    simp only [Act.put, List.setIfInBounds_toArray, List.set_cons_zero, List.set_cons_succ]
    refine wpAnyH_take (i := 1) (oi := { dst := some 25, op := Op.load 3 (Operand.tmp 24), type := 3, pos := "l19_commands.go:259", after := #[{ on := 0, ground := Ground.data }], guard := none }) (v := .int .i64 xk) rfl (by kernel_rfl) (by kernel_rfl) (by kernel_rfl) (fun _ _ _ h => h) (Or.inl ⟨by rfl, fun w0 hSw => by ((have e9 := cell_nx P2.c0 hSw); go_simp)⟩) hH ?_
    simp only [Act.put, List.setIfInBounds_toArray, List.set_cons_zero, List.set_cons_succ]
    refine wpAnyH_ready (rs := [2]) (by kernel_rfl) (by simp) ?_
    refine (AllReadyH.cons (o := { dst := some 26, op := Op.call { callee := Callee.value (Operand.func 34), args := #[Operand.tmp 25], argTypes := #[3] }, type := 4, pos := "l19_commands.go:259", after := #[{ on := 1, ground := Ground.data }], guard := none }) rfl (fun K hK => ?_) AllReadyH.nil)
    refine step_callW 34 #[.int .i64 xk] (fun z v w9 => z = .bool true ∧ w9 = v) (by rfl) (by go_simp) ((HU.out _).mono fun e w9 ⟨h1, h2⟩ => ⟨_, h1, rfl, h2⟩) ?_
    rintro z9 w9 ⟨rfl, hw9⟩
    subst w9
    simp only [Act.put, List.setIfInBounds_toArray, List.set_cons_zero, List.set_cons_succ]
    refine hK.out _ _ hH (fun hH' => ?_)
    clear hK K
    replace hH := hH'
    clear hH'
    refine wpAnyH_take (i := 3) (oi := { dst := some 27, op := Op.move (Operand.tmp 26), type := 4, pos := "l19_commands.go:259", after := #[{ on := 2, ground := Ground.data }, { on := 2, ground := Ground.chain }], guard := none }) (v := .bool true) rfl (by kernel_rfl) (by kernel_rfl) (by kernel_rfl) (fun _ _ _ h => h) (Or.inl ⟨by rfl, fun w0 hSw => by (go_simp)⟩) hH ?_
    simp only [Act.put, List.setIfInBounds_toArray, List.set_cons_zero, List.set_cons_succ]
    refine wpAnyH_take (i := 4) (oi := { dst := some 28, op := Op.move (Operand.tmp 4), type := 44, pos := "l19_commands.go:259", after := #[{ on := 3, ground := Ground.guard }], guard := some (3, true) }) (v := .slice (some ⟨ga, 0, none⟩) 8 8) rfl (by kernel_rfl) (by kernel_rfl) (by kernel_rfl) (fun _ _ _ h => h) (Or.inl ⟨by rfl, fun w0 hSw => by (go_simp)⟩) hH ?_
    simp only [Act.put, List.setIfInBounds_toArray, List.set_cons_zero, List.set_cons_succ]
    refine wpAnyH_take (i := 5) (oi := { dst := some 29, op := Op.fieldAddr 35 (Operand.tmp 7) 1, type := 0, pos := "l19_commands.go:259", after := #[{ on := 3, ground := Ground.guard }], guard := some (3, true) }) (v := .pointer (some ⟨pw, 1, none⟩)) rfl (by kernel_rfl) (by kernel_rfl) (by kernel_rfl) (fun _ _ _ h => h) (Or.inl ⟨by rfl, fun w0 hSw => by (go_simp)⟩) hH ?_
    simp only [Act.put, List.setIfInBounds_toArray, List.set_cons_zero, List.set_cons_succ]
    refine wpAnyH_take (i := 6) (oi := { dst := some 30, op := Op.load 3 (Operand.tmp 29), type := 3, pos := "l19_commands.go:259", after := #[{ on := 5, ground := Ground.data }, { on := 3, ground := Ground.guard }], guard := some (3, true) }) (v := .int .i64 (q : Int)) rfl (by kernel_rfl) (by kernel_rfl) (by kernel_rfl) (fun _ _ _ h => h) (Or.inl ⟨by rfl, fun w0 hSw => by ((have e9 := cell_nx P2.c1 hSw); go_simp)⟩) hH ?_
    simp only [Act.put, List.setIfInBounds_toArray, List.set_cons_zero, List.set_cons_succ]
    refine wpAnyH_take (i := 7) (oi := { dst := some 31, op := Op.indexAddr 44 (Operand.tmp 28) (Operand.tmp 30), type := 0, pos := "l19_commands.go:259", after := #[{ on := 4, ground := Ground.data }, { on := 6, ground := Ground.data }, { on := 3, ground := Ground.guard }], guard := some (3, true) }) (v := .pointer (some ⟨ga, q, none⟩)) rfl (by kernel_rfl) (by kernel_rfl) (by kernel_rfl) (fun _ _ _ h => h) (Or.inl ⟨by rfl, fun w0 hSw => by (go_simp)⟩) hH ?_
    simp only [Act.put, List.setIfInBounds_toArray, List.set_cons_zero, List.set_cons_succ]
    refine wpAnyH_take (i := 8) (oi := { dst := some 32, op := Op.load 3 (Operand.tmp 31), type := 3, pos := "l19_commands.go:259", after := #[{ on := 7, ground := Ground.data }, { on := 3, ground := Ground.guard }], guard := some (3, true) }) (v := .int .i64 s) rfl (by kernel_rfl) (by kernel_rfl) (by kernel_rfl) (fun _ _ _ h => h) (Or.inl ⟨by rfl, fun w0 hSw => by ((have e9 := cell_nx hs hSw); go_simp)⟩) hH ?_
    simp only [Act.put, List.setIfInBounds_toArray, List.set_cons_zero, List.set_cons_succ]
    refine wpAnyH_take (i := 9) (oi := { dst := some 33, op := Op.fieldAddr 35 (Operand.tmp 7) 0, type := 0, pos := "l19_commands.go:259", after := #[{ on := 3, ground := Ground.guard }], guard := some (3, true) }) (v := .pointer (some ⟨pw, 0, none⟩)) rfl (by kernel_rfl) (by kernel_rfl) (by kernel_rfl) (fun _ _ _ h => h) (Or.inl ⟨by rfl, fun w0 hSw => by (go_simp)⟩) hH ?_
    simp only [Act.put, List.setIfInBounds_toArray, List.set_cons_zero, List.set_cons_succ]
    refine wpAnyH_take (i := 10) (oi := { dst := some 34, op := Op.load 3 (Operand.tmp 33), type := 3, pos := "l19_commands.go:259", after := #[{ on := 9, ground := Ground.data }, { on := 3, ground := Ground.guard }], guard := some (3, true) }) (v := .int .i64 xk) rfl (by kernel_rfl) (by kernel_rfl) (by kernel_rfl) (fun _ _ _ h => h) (Or.inl ⟨by rfl, fun w0 hSw => by ((have e9 := cell_nx P2.c0 hSw); go_simp)⟩) hH ?_
    simp only [Act.put, List.setIfInBounds_toArray, List.set_cons_zero, List.set_cons_succ]
    refine wpAnyH_take (i := 11) (oi := { dst := some 35, op := Op.binOp BinOp.neq 3 (Operand.tmp 32) (Operand.tmp 34) 3, type := 4, pos := "l19_commands.go:259", after := #[{ on := 8, ground := Ground.data }, { on := 10, ground := Ground.data }, { on := 3, ground := Ground.guard }], guard := some (3, true) }) (v := .bool true) rfl (by kernel_rfl) (by kernel_rfl) (by kernel_rfl) (fun _ _ _ h => h) (Or.inl ⟨by rfl, fun w0 hSw => by (go_simp)⟩) hH ?_
    simp only [Act.put, List.setIfInBounds_toArray, List.set_cons_zero, List.set_cons_succ]
    refine wpAnyH_take (i := 12) (oi := { dst := some 36, op := Op.pick (Operand.tmp 27) (Operand.tmp 35) (Operand.const (Value.bool false)), type := 4, pos := "l19_commands.go:259", after := #[{ on := 3, ground := Ground.data }, { on := 11, ground := Ground.data }], guard := none }) (v := .bool true) rfl (by kernel_rfl) (by kernel_rfl) (by kernel_rfl) (fun _ _ _ h => h) (Or.inl ⟨by rfl, fun w0 hSw => by (go_simp)⟩) hH ?_
    simp only [Act.put, List.setIfInBounds_toArray, List.set_cons_zero, List.set_cons_succ]
    refine wpAnyH_done (by kernel_rfl) ?_ _
    go_wp2
    replace P2 := P2.next (below_drew (Below.refl _ _))
    replace hs := cell_nx hs (below_drew (Below.refl _ _))
    replace OA := OA.next (below_drew (Below.refl _ _))
    replace C2 := C2.next (below_drew (Below.refl _ _))
    replace D2 := below_drew D2
    generalize hXB : World.drew XA = XB at P2 hs OA C2 D2
    refine wp_region_held_drew (S := fun v => C5 v pw (.int .i64 xk) (.int .i64 (q : Int)) (.int .i64 xf) (.int .i64 xo) (.int .i64 xm) ∧ v.cell? ⟨ga, q, none⟩ = some (.int .i64 s)) (by kernel_rfl) (by rw [hXB]; exact ⟨P2, hs⟩) (fun hH => ?_)
    rw [hXB] at hH ⊢
    clear hXB
    refine wpAnyH_take (i := 0) (oi := { dst := some 37, op := Op.move (Operand.tmp 5), type := 23, pos := "l19_commands.go:260", after := #[], guard := none }) (v := v5) rfl (by kernel_rfl) (by kernel_rfl) (by kernel_rfl) (fun _ _ _ h => h) (Or.inl ⟨by rfl, fun w0 hSw => by (go_simp)⟩) hH ?_
    simp only [Act.put, List.setIfInBounds_toArray, List.set_cons_zero, List.set_cons_succ]
    refine wpAnyH_take (i := 1) (oi := { dst := some 38, op := Op.fieldAddr 35 (Operand.tmp 7) 1, type := 0, pos := "l19_commands.go:260", after := #[], guard := none }) (v := .pointer (some ⟨pw, 1, none⟩)) rfl (by kernel_rfl) (by kernel_rfl) (by kernel_rfl) (fun _ _ _ h => h) (Or.inl ⟨by rfl, fun w0 hSw => by (go_simp)⟩) hH ?_
    simp only [Act.put, List.setIfInBounds_toArray, List.set_cons_zero, List.set_cons_succ]
    refine wpAnyH_take (i := 2) (oi := { dst := some 39, op := Op.load 3 (Operand.tmp 38), type := 3, pos := "l19_commands.go:260", after := #[{ on := 1, ground := Ground.data }], guard := none }) (v := .int .i64 (q : Int)) rfl (by kernel_rfl) (by kernel_rfl) (by kernel_rfl) (fun _ _ _ h => h) (Or.inl ⟨by rfl, fun w0 hSw => by ((have e9 := hSw.1.c1); go_simp)⟩) hH ?_
    simp only [Act.put, List.setIfInBounds_toArray, List.set_cons_zero, List.set_cons_succ]
    refine wpAnyH_take (i := 3) (oi := { dst := some 40, op := Op.move (Operand.tmp 4), type := 44, pos := "l19_commands.go:260", after := #[], guard := none }) (v := .slice (some ⟨ga, 0, none⟩) 8 8) rfl (by kernel_rfl) (by kernel_rfl) (by kernel_rfl) (fun _ _ _ h => h) (Or.inl ⟨by rfl, fun w0 hSw => by (go_simp)⟩) hH ?_
    simp only [Act.put, List.setIfInBounds_toArray, List.set_cons_zero, List.set_cons_succ]
    refine wpAnyH_take (i := 4) (oi := { dst := some 41, op := Op.fieldAddr 35 (Operand.tmp 7) 1, type := 0, pos := "l19_commands.go:260", after := #[], guard := none }) (v := .pointer (some ⟨pw, 1, none⟩)) rfl (by kernel_rfl) (by kernel_rfl) (by kernel_rfl) (fun _ _ _ h => h) (Or.inl ⟨by rfl, fun w0 hSw => by (go_simp)⟩) hH ?_
    simp only [Act.put, List.setIfInBounds_toArray, List.set_cons_zero, List.set_cons_succ]
    refine wpAnyH_take (i := 5) (oi := { dst := some 42, op := Op.load 3 (Operand.tmp 41), type := 3, pos := "l19_commands.go:260", after := #[{ on := 4, ground := Ground.data }], guard := none }) (v := .int .i64 (q : Int)) rfl (by kernel_rfl) (by kernel_rfl) (by kernel_rfl) (fun _ _ _ h => h) (Or.inl ⟨by rfl, fun w0 hSw => by ((have e9 := hSw.1.c1); go_simp)⟩) hH ?_
    simp only [Act.put, List.setIfInBounds_toArray, List.set_cons_zero, List.set_cons_succ]
    refine wpAnyH_take (i := 6) (oi := { dst := some 43, op := Op.indexAddr 44 (Operand.tmp 40) (Operand.tmp 42), type := 0, pos := "l19_commands.go:260", after := #[{ on := 3, ground := Ground.data }, { on := 5, ground := Ground.data }], guard := none }) (v := .pointer (some ⟨ga, q, none⟩)) rfl (by kernel_rfl) (by kernel_rfl) (by kernel_rfl) (fun _ _ _ h => h) (Or.inl ⟨by rfl, fun w0 hSw => by (go_simp)⟩) hH ?_
    simp only [Act.put, List.setIfInBounds_toArray, List.set_cons_zero, List.set_cons_succ]
    refine wpAnyH_take (i := 7) (oi := { dst := some 44, op := Op.load 3 (Operand.tmp 43), type := 3, pos := "l19_commands.go:260", after := #[{ on := 6, ground := Ground.data }], guard := none }) (v := .int .i64 s) rfl (by kernel_rfl) (by kernel_rfl) (by kernel_rfl) (fun _ _ _ h => h) (Or.inl ⟨by rfl, fun w0 hSw => by ((have e9 := hSw.2); go_simp)⟩) hH ?_
    simp only [Act.put, List.setIfInBounds_toArray, List.set_cons_zero, List.set_cons_succ]
    refine wpAnyH_take (i := 8) (oi := { dst := some 45, op := Op.fieldAddr 35 (Operand.tmp 7) 0, type := 0, pos := "l19_commands.go:260", after := #[], guard := none }) (v := .pointer (some ⟨pw, 0, none⟩)) rfl (by kernel_rfl) (by kernel_rfl) (by kernel_rfl) (fun _ _ _ h => h) (Or.inl ⟨by rfl, fun w0 hSw => by (go_simp)⟩) hH ?_
    simp only [Act.put, List.setIfInBounds_toArray, List.set_cons_zero, List.set_cons_succ]
    refine wpAnyH_take (i := 9) (oi := { dst := some 46, op := Op.load 3 (Operand.tmp 45), type := 3, pos := "l19_commands.go:260", after := #[{ on := 8, ground := Ground.data }], guard := none }) (v := .int .i64 xk) rfl (by kernel_rfl) (by kernel_rfl) (by kernel_rfl) (fun _ _ _ h => h) (Or.inl ⟨by rfl, fun w0 hSw => by ((have e9 := hSw.1.c0); go_simp)⟩) hH ?_
    simp only [Act.put, List.setIfInBounds_toArray, List.set_cons_zero, List.set_cons_succ]
    refine wpAnyH_take (i := 10) (oi := { dst := some 47, op := Op.build 35 #[(0, Operand.const (Value.int IntKind.i64 4)), (1, Operand.tmp 39), (2, Operand.tmp 44), (3, Operand.tmp 46)], type := 35, pos := "l19_commands.go:260", after := #[{ on := 2, ground := Ground.data }, { on := 7, ground := Ground.data }, { on := 9, ground := Ground.data }], guard := none }) (v := .agg #[.int .i64 4, .int .i64 (q : Int), .int .i64 s, .int .i64 xk, .int .i64 0]) rfl (by kernel_rfl) (by kernel_rfl) (by kernel_rfl) (fun _ _ _ h => h) (Or.inl ⟨by rfl, fun w0 hSw => by (go_simp)⟩) hH ?_
    simp only [Act.put, List.setIfInBounds_toArray, List.set_cons_zero, List.set_cons_succ]
    refine wpAnyH_ready (rs := [11]) (by kernel_rfl) (by simp) ?_
    refine (AllReadyH.cons (o := { dst := some 48, op := Op.buildSlice 23 1 #[(0, Operand.tmp 47)], type := 23, pos := "l19_commands.go:260", after := #[{ on := 10, ground := Ground.data }], guard := none }) rfl (fun K hK => ?_) AllReadyH.nil)
    refine step_val (.slice (some ⟨XB.heap.size, 0, none⟩) 1 1) (XB.alloc (.cells #[.int .i64 4, .int .i64 (q : Int), .int .i64 s, .int .i64 xk, .int .i64 0] 35)) (by rfl) (by go_simp) ?_
    simp only [Act.put, List.setIfInBounds_toArray, List.set_cons_zero, List.set_cons_succ]
    refine hK.out _ _ ⟨hH.1.next alloc_b, cell_nx hH.2 alloc_b⟩ (fun hH' => ?_)
    clear hK K
    replace hH := hH'
    clear hH' 
    refine wpAnyH_ready (rs := [12]) (by kernel_rfl) (by simp) ?_
    refine (AllReadyH.cons (o := { dst := some 49, op := Op.call { callee := Callee.builtin Builtin.append, args := #[Operand.tmp 37, Operand.tmp 48], argTypes := #[23, 23] }, type := 23, pos := "l19_commands.go:260", after := #[{ on := 0, ground := Ground.data }, { on := 11, ground := Ground.data }], guard := none }) rfl (fun K hK => ?_) AllReadyH.nil)
    obtain ⟨g4, cap4, w4, hr4, C4x, G4⟩ := run_append_cmd (ty := 23) (c := 1) (C2.alloc (.cells #[.int .i64 4, .int .i64 (q : Int), .int .i64 s, .int .i64 xk, .int .i64 0] 35)) (C5.new XB 35 (.int .i64 4) (.int .i64 (q : Int)) (.int .i64 s) (.int .i64 xk) (.int .i64 0)) (by omega)
    refine step_app (.tmp 37) (.tmp 48) 23 _ _ (.slice (some ⟨g4, 0, none⟩) (L.length + 1) cap4) w4 (by rfl) (by rfl) (by rfl) (by rfl) hr4 ?_
    simp only [Act.put, List.setIfInBounds_toArray, List.set_cons_zero, List.set_cons_succ]
    have P4 := hH.1.grown G4 (fun e => by have := HLT.out _ e.symm; omega)
    have hs4 := (OA.next (alloc_b (o := .cells #[.int .i64 4, .int .i64 (q : Int), .int .i64 s, .int .i64 xk, .int .i64 0] 35))).grown G4 (fun e => by have := HLT.out _ e.symm; omega)
    refine hK.out _ _ ⟨P4, by rw [hs4.cell q hq, HSQ.out]⟩ (fun hH' => ?_)
    clear hK K
    replace hH := hH'
    clear hH' 
    refine wpAnyH_take (i := 13) (oi := { dst := some 5, op := Op.assign (Operand.tmp 49), type := 23, pos := "l19_commands.go:260", after := #[{ on := 12, ground := Ground.data }, { on := 12, ground := Ground.chain }, { on := 0, ground := Ground.phase }, { on := 1, ground := Ground.phase }, { on := 2, ground := Ground.phase }, { on := 3, ground := Ground.phase }, { on := 4, ground := Ground.phase }, { on := 5, ground := Ground.phase }, { on := 6, ground := Ground.phase }, { on := 7, ground := Ground.phase }, { on := 8, ground := Ground.phase }, { on := 9, ground := Ground.phase }, { on := 10, ground := Ground.phase }, { on := 11, ground := Ground.phase }, { on := 12, ground := Ground.phase }], guard := none }) (v := .slice (some ⟨g4, 0, none⟩) (L.length + 1) cap4) rfl (by kernel_rfl) (by kernel_rfl) (by kernel_rfl) (fun _ _ _ h => h) (Or.inl ⟨by rfl, fun w0 hSw => by (go_simp)⟩) hH ?_
    simp only [Act.put, List.setIfInBounds_toArray, List.set_cons_zero, List.set_cons_succ]
    refine wpAnyH_done (by kernel_rfl) ?_ _
    have L4 := C4x.lt g4 rfl
    have D4 := below_grown (D2.alloc D2.size (.cells #[.int .i64 4, .int .i64 (q : Int), .int .i64 s, .int .i64 xk, .int .i64 0] 35)) (Nat.le_trans D2.size (alloc_b (v := XB) (o := .cells #[.int .i64 4, .int .i64 (q : Int), .int .i64 s, .int .i64 xk, .int .i64 0] 35)).size) G4 (fun g hg => by have := HLT.out _ hg; have := HGA.out; omega)
    have p0 := P4.c0
    have p1 := P4.c1
    have p2 := P4.c2
    have p3 := P4.c3
    have p4 := P4.c4
    have a4 := hs4.free q
    have a5 := hs4.cell q hq
    have hnp : pw ≠ ga := by omega
    have O5 := own_upd hs4 hq xk
    have C5y := C4x.far (((Only.refl ga w4).setCell q (.int .i64 xk))) (Nat.lt_succ_self _)
    have D5 : Below w.heap.size w (w4.setCell ⟨ga, q, none⟩ (.int .i64 xk)) := D4.setCell (by have := HGA.out; simp; omega) _
    go_wp2_with (first | (at_builtin; refine wpList_append_cmd rfl _ _ rfl rfl (v := .slice (some ⟨g4, 0, none⟩) (L.length + 1) cap4) (by first | rfl | (simp; rfl)) (C5y.alloc _) (C5.new _ 35 (.int .i64 xk) (.int .i64 (q : Int)) (.int .i64 xf) (.int .i64 xo) (.int .i64 xm)) (by rw [List.length_append, List.length_singleton]; omega) ?_))
    intro g5 cap5 w5 C6x G5
    have O6 := (O5.next (alloc_b (o := .cells #[.int .i64 xk, .int .i64 (q : Int), .int .i64 xf, .int .i64 xo, .int .i64 xm] 35))).grown G5 (fun e => by have e2 : ga = g4 := Option.some.inj e; omega)
    have D6 := below_grown (D5.alloc D5.size (.cells #[.int .i64 xk, .int .i64 (q : Int), .int .i64 xf, .int .i64 xo, .int .i64 xm] 35)) (Nat.le_trans D5.size (alloc_b (v := (w4.setCell ⟨ga, q, none⟩ (.int .i64 xk))) (o := .cells #[.int .i64 xk, .int .i64 (q : Int), .int .i64 xf, .int .i64 xo, .int .i64 xm] 35)).size) G5 (fun g hg => by have e2 : g4 = g := Option.some.inj hg; have := HGA.out; omega)
    have HF : Hid (CR (ga + 1) w5 (.slice (some ⟨g5, 0, none⟩) (L.length + 1 + 1) cap5) (ltL K T F O M (k + 1)) ∧ Own w5 ga 8 (fun x => .int .i64 (ltS K T (k + 1) x)) ∧ ∀ j, j < k + 1 → gcB (K j) (T j) (F j) (O j) (M j) = true) := by rw [HFL.out, HFS.out, List.append_assoc]; exact ⟨C6x, O6, HGN.out⟩
    clear C2 D2 P2 G4 C4x OA hs P4 hs4 p0 p1 p2 p3 p4 a4 a5 O5 C5y D5 D4 C6x O6 G5 hH
    go_wp2
    go_roundw
    case rel => exact ⟨k + 1, _, by omega, rfl, by go_num, HF, D6⟩
    case measure => simp [intOf]; omega
end Go.Proofs.Ytnbpncjbfnhkjaa
