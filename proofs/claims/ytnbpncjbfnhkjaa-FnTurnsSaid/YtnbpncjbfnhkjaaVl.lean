/- LeastTurns of the program. -/
import Derived.Test.YtnbpncjbfnhkjaaVk
namespace Go.Proofs.Ytnbpncjbfnhkjaa
open Go.ChangeShapes Go.WideShapes Go.ChangeAt Go.RowKit
set_option linter.unusedVariables false
theorem lt_four {K T F O M : Nat → Int} {k : Nat} (h : K k = 4) : ltL K T F O M (k + 1) = ltL K T F O M k ∧ ltS K T (k + 1) = ltS K T k := by
  constructor
  · rw [ltL, if_pos h, List.append_nil]
  · have e : tfB (K k) (ltS K T k (T k).toNat) = false := decide_eq_false (by omega)
    rw [ltS, e]; rfl
theorem lt_turn {K T F O M : Nat → Int} {k q : Nat} (hq : T k = (q : Int)) (h : tfB (K k) (ltS K T k q) = true) : ltL K T F O M (k + 1) = (ltL K T F O M k ++ [(4, (q : Int), ltS K T k q, K k, 0)]) ++ [(K k, (q : Int), F k, O k, M k)] ∧ ltS K T (k + 1) = upd (ltS K T k) q (K k) := by
  have h4 : ¬ K k = 4 := by have := of_decide_eq_true h; omega
  constructor
  · rw [ltL, if_neg h4, hq, Int.toNat_natCast, if_pos h, List.append_assoc]
  · rw [ltS, hq, Int.toNat_natCast, if_pos h]
theorem lt_none {K T F O M : Nat → Int} {k q : Nat} (hq : T k = (q : Int)) (h4 : ¬ K k = 4) (h : tfB (K k) (ltS K T k q) = false) : ltL K T F O M (k + 1) = ltL K T F O M k ++ [(K k, (q : Int), F k, O k, M k)] ∧ ltS K T (k + 1) = ltS K T k := by
  constructor
  · rw [ltL, if_neg h4, hq, Int.toNat_natCast, h]; rfl
  · rw [ltS, hq, Int.toNat_natCast, h]; rfl
set_option maxRecDepth 100000 in
set_option maxHeartbeats 8000000 in
theorem plt (ad : Option Addr) (n c : Nat) (K T F O M : Nat → Int) (w : World) (A : ArgC w ad n K T F O M) (hn : n ≤ 9223372036854775807) : Calls Try.prog 9 #[.slice ad n c] w fun e w' => (∃ v, e = .returned (.tuple #[v, .bool (ltB K T F O M n)]) ∧ CR w.heap.size w' v (ltR K T F O M n)) ∧ Below w.heap.size w w' := by
  have HARE := Hid.mk (pare ad n c K T F O M w A hn)
  have HX := A.hid
  have HNO : Hid ((decide (n ≤ 60) && agB K T F O M n) = false → ltB K T F O M n = false ∧ ltR K T F O M n = []) := fun h => by
    have e : ltB K T F O M n = false := by unfold ltB; rw [← Bool.and_assoc, h]; rfl
    exact ⟨e, by unfold ltR; rw [e]; rfl⟩
  have HYE : Hid ((decide (n ≤ 60) && agB K T F O M n) = true → ((ltL K T F O M n).length ≤ 60 → ltB K T F O M n = true ∧ ltR K T F O M n = ltL K T F O M n) ∧ (¬ (ltL K T F O M n).length ≤ 60 → ltB K T F O M n = false ∧ ltR K T F O M n = [])) := fun h => by
    constructor
    · intro h2
      have e : ltB K T F O M n = true := by unfold ltB; rw [← Bool.and_assoc, h, decide_eq_true h2]; rfl
      exact ⟨e, by unfold ltR; rw [if_pos e]⟩
    · intro h2
      have e : ltB K T F O M n = false := by unfold ltB; rw [← Bool.and_assoc, h, decide_eq_false h2]; rfl
      exact ⟨e, by unfold ltR; rw [e]; rfl⟩
  have HGD : Hid ((decide (n ≤ 60) && agB K T F O M n) = true → n ≤ 60 ∧ ∀ i, i < n → gcB (K i) (T i) (F i) (O i) (M i) = true) := fun h => by
    rw [Bool.and_eq_true, decide_eq_true_eq] at h
    exact ⟨h.1, ag_iff.1 h.2⟩
  generalize ltB K T F O M n = LB at HNO HYE ⊢
  generalize ltR K T F O M n = LR at HNO HYE ⊢
  generalize (decide (n ≤ 60) && agB K T F O M n) = ar at HARE HNO HYE HGD
  clear A
  cases ar
  case false =>
    obtain ⟨rfl, rfl⟩ := HNO.out rfl
    clear HNO HYE HGD HX
    go_enter Try.func9, Try.ntmps9
    go_wp2_with (first | (go_at_call 31; refine HARE.out.mono ?_; rintro e w1 ⟨rfl, B1⟩))
    go_ret2
    exact ⟨⟨_, rfl, CR.nil _ _ B1.size⟩, B1⟩
  obtain ⟨hn60, hgd⟩ := HGD.out rfl
  replace HGD := Hid.mk hgd
  replace HYE := Hid.mk (HYE.out rfl)
  clear hgd HNO
  go_enter Try.func9, Try.ntmps9
  go_wp2_with (first | (go_at_call 31; refine HARE.out.mono ?_; rintro e w1 ⟨rfl, B1⟩; (have RX := rowt_new w1); (have BX : Below w.heap.size w (w1.alloc (.cells #[.int .i64 0, .bool false, .int .i64 0, .bool false, .int .i64 0, .bool false, .int .i64 0, .bool false, .int .i64 0, .bool false, .int .i64 0, .bool false, .int .i64 0, .bool false, .int .i64 0, .bool false] 58)) := B1.alloc B1.size _); (have CX := CR.nil (w1.heap.size + 1) (w1.alloc (.cells #[.int .i64 0, .bool false, .int .i64 0, .bool false, .int .i64 0, .bool false, .int .i64 0, .bool false, .int .i64 0, .bool false, .int .i64 0, .bool false, .int .i64 0, .bool false, .int .i64 0, .bool false] 58)) (by simp))))
  obtain ⟨tb, htb⟩ : ∃ z, w1.heap.size = z := ⟨_, rfl⟩
  have HTB : Hid (w.heap.size ≤ tb) := by rw [← htb]; exact B1.size
  obtain ⟨X0, hX0⟩ : ∃ z, (w1.alloc (.cells #[.int .i64 0, .bool false, .int .i64 0, .bool false, .int .i64 0, .bool false, .int .i64 0, .bool false, .int .i64 0, .bool false, .int .i64 0, .bool false, .int .i64 0, .bool false, .int .i64 0, .bool false] 58)) = z := ⟨_, rfl⟩
  rw [hX0] at RX BX CX ⊢
  rw [htb] at RX CX ⊢
  clear hX0 htb B1 HARE
  go_loopw [5, 15] (fun tv i wr => ∃ (k : Nat) (v : Value), k ≤ n ∧ v = tv ∧ i = .int .i64 k ∧ Hid (CR (tb + 1) wr v (ltL K T F O M k) ∧ ∃ U, RowT wr tb 8 (ltS K T k) U) ∧ Below w.heap.size w wr) (fun _ i _ => n - (intOf i).toNat)
  case atStart => exact ⟨0, _, Nat.zero_le _, rfl, rfl, ⟨CX, _, RX⟩, BX⟩
  case round =>
    clear RX BX CX
    obtain ⟨k, i5, hk, rfl, rfl, HR, B⟩ := hrel
    by_cases hkn : k < n
    case neg =>
      obtain rfl : n = k := by omega
      have i1 : ¬ ((n : Nat) : Int) < (n : Int) := by omega
      have HCR : Hid (CR (tb + 1) wr i5 (ltL K T F O M n)) := HR.out.1
      have hform := HCR.out.form
      by_cases hl : (ltL K T F O M n).length ≤ 60
      · obtain ⟨rfl, rfl⟩ := HYE.out.1 hl
        have HF : Hid (CR w.heap.size wr i5 (ltL K T F O M n)) := HCR.out.low (by have := HTB.out; omega)
        clear HX HR HYE HGD HCR
        rcases hform with ⟨h1, rfl⟩ | ⟨g, cc, rfl⟩
        · clear h1
          go_wp2
          go_ret2
          exact ⟨⟨_, rfl, HF.out⟩, B⟩
        · have h3 : ¬ (60 : Int) < ((ltL K T F O M n).length : Int) := by omega
          go_wp2
          go_ret2
          exact ⟨⟨_, rfl, HF.out⟩, B⟩
      · obtain ⟨rfl, rfl⟩ := HYE.out.2 hl
        clear HX HR HYE HGD HCR
        rcases hform with ⟨h1, rfl⟩ | ⟨g, cc, rfl⟩
        · rw [h1] at hl; exact absurd (Nat.zero_le 60) hl
        · have h3 : (60 : Int) < ((ltL K T F O M n).length : Int) := by omega
          go_wp2
          go_ret2
          exact ⟨⟨_, rfl, CR.nil _ _ B.size⟩, B⟩
    obtain ⟨g, off, rfl, hg, d0, d1, d2, d3, d4⟩ := HX.out k hkn
    replace d0 := (B.cell (p := ⟨g, off + k * 5, none⟩) hg).trans d0
    replace d1 := (B.cell (p := ⟨g, off + k * 5 + 1, none⟩) hg).trans d1
    replace d2 := (B.cell (p := ⟨g, off + k * 5 + 2, none⟩) hg).trans d2
    replace d3 := (B.cell (p := ⟨g, off + k * 5 + 3, none⟩) hg).trans d3
    replace d4 := (B.cell (p := ⟨g, off + k * 5 + 4, none⟩) hg).trans d4
    have i1 : (k : Int) < (n : Int) := by omega
    have i0 : (0 : Int) ≤ (k : Int) := by omega
    obtain ⟨q, hTq, hq⟩ := gc_thing (HGD.out k hkn)
    rw [hTq] at d1
    have CK := HR.out.1
    obtain ⟨U, RK⟩ := HR.out.2
    have H4 : Hid (K k = 4 → ltL K T F O M (k + 1) = ltL K T F O M k ∧ ltS K T (k + 1) = ltS K T k) := lt_four
    have HT1 : Hid (tfB (K k) (ltS K T k q) = true → ltL K T F O M (k + 1) = (ltL K T F O M k ++ [(4, (q : Int), ltS K T k q, K k, 0)]) ++ [(K k, (q : Int), F k, O k, M k)] ∧ ltS K T (k + 1) = upd (ltS K T k) q (K k)) := lt_turn hTq
    have HN1 : Hid (¬ K k = 4 → tfB (K k) (ltS K T k q) = false → ltL K T F O M (k + 1) = ltL K T F O M k ++ [(K k, (q : Int), F k, O k, M k)] ∧ ltS K T (k + 1) = ltS K T k) := lt_none hTq
    have hlen : (ltL K T F O M k).length < 1000 := by have := ltL_len K T F O M k; omega
    have HLT : Hid (∀ g, i5.ownBlock = some g → tb + 1 ≤ g ∧ g < wr.heap.size) := CK.lt
    have htw : tb < wr.heap.size := RK.hi
    clear HR HX HGD HYE hTq
    generalize ltL K T F O M k = L at H4 HT1 HN1 CK hlen
    generalize hS : ltS K T k = S at H4 HT1 HN1 RK
    clear hS
    generalize hs : S q = s at HT1 HN1
    generalize K k = xk at H4 HT1 HN1 d0
    generalize F k = xf at HT1 HN1 d2
    generalize O k = xo at HT1 HN1 d3
    generalize M k = xm at HT1 HN1 d4
    have hcs : wr.cell? ⟨tb, q * 2, none⟩ = some (.int .i64 s) := by rw [← hs]; exact RK.c0 q hq
    clear hs
    by_cases k4 : xk = 4
    · subst k4
      obtain ⟨e1, e2⟩ := H4.out rfl
      have HF : Hid (CR (tb + 1) (wr.alloc (.cells #[.int .i64 4, .int .i64 (q : Int), .int .i64 xf, .int .i64 xo, .int .i64 xm] 35)) i5 (ltL K T F O M (k + 1)) ∧ ∃ U, RowT (wr.alloc (.cells #[.int .i64 4, .int .i64 (q : Int), .int .i64 xf, .int .i64 xo, .int .i64 xm] 35)) tb 8 (ltS K T (k + 1)) U) := by rw [e1, e2]; exact ⟨CK.alloc _, U, RK.next alloc_b⟩
      clear e1 e2 H4 HT1 HN1 CK RK
      go_wp2
      go_roundw
      case rel => exact ⟨k + 1, _, by omega, rfl, by go_num, HF, B.alloc B.size _⟩
      case measure => simp [intOf]; omega
    have k4b : (xk == 4) = false := by simpa using k4
    have PW := C5.new wr 35 (.int .i64 xk) (.int .i64 (q : Int)) (.int .i64 xf) (.int .i64 xo) (.int .i64 xm)
    have RW := RK.next (alloc_b (o := .cells #[.int .i64 xk, .int .i64 (q : Int), .int .i64 xf, .int .i64 xo, .int .i64 xm] 35))
    have CW := CK.alloc (.cells #[.int .i64 xk, .int .i64 (q : Int), .int .i64 xf, .int .i64 xo, .int .i64 xm] 35)
    have BW : Below w.heap.size w (wr.alloc (.cells #[.int .i64 xk, .int .i64 (q : Int), .int .i64 xf, .int .i64 xo, .int .i64 xm] 35)) := B.alloc B.size _
    have HTF : Hid (Calls Try.prog 32 #[.pointer (some ⟨tb, 0, none⟩), .agg #[.int .i64 xk, .int .i64 (q : Int), .int .i64 xf, .int .i64 xo, .int .i64 xm]] (wr.alloc (.cells #[.int .i64 xk, .int .i64 (q : Int), .int .i64 xf, .int .i64 xo, .int .i64 xm] 35)) fun e w' => e = .returned (.tuple #[tfV xk q s, .bool (tfB xk s)]) ∧ Below (wr.alloc (.cells #[.int .i64 xk, .int .i64 (q : Int), .int .i64 xf, .int .i64 xo, .int .i64 xm] 35)).heap.size (wr.alloc (.cells #[.int .i64 xk, .int .i64 (q : Int), .int .i64 xf, .int .i64 xo, .int .i64 xm] 35)) w') := pturnfor tb q xk xf xo xm s _ hq (by simp; omega) (cell_nx hcs alloc_b)
    unfold tfV at HTF
    clear H4 CK RK
    cases htf : tfB xk s
    case true =>
      obtain ⟨e1, e2⟩ := HT1.out htf
      rw [htf, if_pos rfl] at HTF
      have HFL := Hid.mk e1
      have HFS := Hid.mk e2
      have HDO : Hid (∀ v U, RowT v tb 8 S U → Calls Try.prog 33 #[.pointer (some ⟨tb, 0, none⟩), .agg #[.int .i64 4, .int .i64 (q : Int), .int .i64 s, .int .i64 xk, .int .i64 0]] v fun e w' => e = .returned (.tuple #[]) ∧ RowT w' tb 8 (upd S q xk) (doW 4 s q U) ∧ Only tb v w') := fun v U R => by
        have h := pdo tb q 4 s xk 0 S U v hq R
        unfold doS at h
        rw [if_pos rfl] at h
        exact h
      clear e1 e2 HT1 HN1 htf
      go_wp2_with (first | (go_at_call 32; refine HTF.out.mono ?_; rintro e w2 ⟨rfl, B2⟩; (have B2a := B2.trans ((alloc_b (v := w2) (o := .cells #[.int .i64 4, .int .i64 (q : Int), .int .i64 s, .int .i64 xk, .int .i64 0] 35)).mono B2.size)); (have P2 := PW.next B2a); (have R2 := RW.next B2a); (have C2 := CW.next B2a); (have D2 := BW.trans (B2a.mono BW.size)); (have Q2 := C5.new w2 35 (.int .i64 4) (.int .i64 (q : Int)) (.int .i64 s) (.int .i64 xk) (.int .i64 0)); (have q0 := Q2.c0); (have q1 := Q2.c1); (have q2 := Q2.c2); (have q3 := Q2.c3); (have q4 := Q2.c4); (have z2 : wr.heap.size < w2.heap.size := by (have h := B2.size; simp at h; omega)); clear B2 B2a PW RW CW BW; skip))
      obtain ⟨W2, hW2⟩ : ∃ z, (w2.alloc (.cells #[.int .i64 4, .int .i64 (q : Int), .int .i64 s, .int .i64 xk, .int .i64 0] 35)) = z := ⟨_, rfl⟩
      obtain ⟨p2, hp2⟩ : ∃ z, w2.heap.size = z := ⟨_, rfl⟩
      rw [hW2] at P2 R2 C2 D2 Q2 q0 q1 q2 q3 q4 ⊢
      rw [hp2] at Q2 q0 q1 q2 q3 q4 z2 ⊢
      clear hW2 hp2 HTF
      go_wp2_with (first | (go_at_call 33; refine (HDO.out W2 U R2).mono ?_; rintro e w3 ⟨rfl, R3, O3⟩; (have P3 := P2.block (O3.block _ P2.hi (by omega)) O3.size); (have Q3 := Q2.block (O3.block _ Q2.hi (by omega)) O3.size); (have C3 := C2.far O3 (Nat.lt_succ_self _)); (have D3 := D2.trans (O3.below HTB.out D2.size)); (have q0 := Q3.c0); (have q1 := Q3.c1); (have q2 := Q3.c2); (have q3 := Q3.c3); (have q4 := Q3.c4); clear R2 O3 P2 Q2 C2 D2) | (at_builtin; refine wpList_append_cmd rfl _ _ rfl rfl rfl (C3.alloc _) (C5.new w3 35 (.int .i64 4) (.int .i64 (q : Int)) (.int .i64 s) (.int .i64 xk) (.int .i64 0)) (by omega) ?_))
      intro g4 cap4 w4 C4x G4
      have P4 := (P3.next (alloc_b (o := .cells #[.int .i64 4, .int .i64 (q : Int), .int .i64 s, .int .i64 xk, .int .i64 0] 35))).grown G4 (fun e => by have := HLT.out _ e.symm; omega)
      have R4 := (R3.next (alloc_b (o := .cells #[.int .i64 4, .int .i64 (q : Int), .int .i64 s, .int .i64 xk, .int .i64 0] 35))).grown G4 (fun e => by have := HLT.out _ e.symm; omega)
      have D4 := below_grown (D3.alloc D3.size (.cells #[.int .i64 4, .int .i64 (q : Int), .int .i64 s, .int .i64 xk, .int .i64 0] 35)) (Nat.le_trans D3.size (alloc_b (v := w3) (o := .cells #[.int .i64 4, .int .i64 (q : Int), .int .i64 s, .int .i64 xk, .int .i64 0] 35)).size) G4 (fun g hg => by have := HLT.out _ hg; have := HTB.out; omega)
      clear P3 Q3 R3 C3 D3 G4 q0 q1 q2 q3 q4
      have L4 := C4x.lt g4 rfl
      have p0 := P4.c0
      have p1 := P4.c1
      have p3 := P4.c2
      have p4 := P4.c3
      have p5 := P4.c4
      go_wp2_with (first | (at_builtin; refine wpList_append_cmd rfl _ _ rfl rfl (v := .slice (some ⟨g4, 0, none⟩) (L.length + 1) cap4) (by first | rfl | (simp; rfl)) (C4x.alloc _) (C5.new w4 35 (.int .i64 xk) (.int .i64 (q : Int)) (.int .i64 xf) (.int .i64 xo) (.int .i64 xm)) (by rw [List.length_append, List.length_singleton]; omega) ?_))
      intro g5 cap5 w5 C5x G5
      have R5 := (R4.next (alloc_b (o := .cells #[.int .i64 xk, .int .i64 (q : Int), .int .i64 xf, .int .i64 xo, .int .i64 xm] 35))).grown G5 (fun e => by have e2 : tb = g4 := Option.some.inj e; omega)
      have D5 := below_grown (D4.alloc D4.size (.cells #[.int .i64 xk, .int .i64 (q : Int), .int .i64 xf, .int .i64 xo, .int .i64 xm] 35)) (Nat.le_trans D4.size (alloc_b (v := w4) (o := .cells #[.int .i64 xk, .int .i64 (q : Int), .int .i64 xf, .int .i64 xo, .int .i64 xm] 35)).size) G5 (fun g hg => by have e2 : g4 = g := Option.some.inj hg; have := HTB.out; omega)
      have HF : Hid (CR (tb + 1) w5 (.slice (some ⟨g5, 0, none⟩) (L.length + 1 + 1) cap5) (ltL K T F O M (k + 1)) ∧ ∃ U, RowT w5 tb 8 (ltS K T (k + 1)) U) := by rw [HFL.out, HFS.out, List.append_assoc]; exact ⟨C5x, _, R5⟩
      clear R4 R5 C4x C5x D4 G5 P4 p0 p1 p3 p4 p5
      go_wp2
      go_roundw
      case rel => exact ⟨k + 1, _, by omega, rfl, by go_num, HF, D5⟩
      case measure => simp [intOf]; omega
    obtain ⟨e1, e2⟩ := HN1.out k4 htf
    rw [htf, if_neg (by decide)] at HTF
    have HFL := Hid.mk e1
    have HFS := Hid.mk e2
    clear e1 e2 HT1 HN1 htf
    go_wp2_with (first | (go_at_call 32; refine HTF.out.mono ?_; rintro e w2 ⟨rfl, B2⟩; (have B2a := B2.trans ((alloc_b (v := w2) (o := .cells #[.int .i64 0, .int .i64 0, .int .i64 0, .int .i64 0, .int .i64 0] 35)).mono B2.size)); (have P2 := PW.next B2a); (have R2 := RW.next B2a); (have C2 := CW.next B2a); (have D2 := BW.trans (B2a.mono BW.size)); (have q0 := P2.c0); (have q1 := P2.c1); (have q2 := P2.c2); (have q3 := P2.c3); (have q4 := P2.c4); clear B2 B2a PW RW CW BW; (have Y2 : C5 ((w2.alloc (.cells #[.int .i64 0, .int .i64 0, .int .i64 0, .int .i64 0, .int .i64 0] 35)).alloc (.cells #[.int .i64 xk, .int .i64 (q : Int), .int .i64 xf, .int .i64 xo, .int .i64 xm] 35)) (w2.heap.size + 1) (.int .i64 xk) (.int .i64 (q : Int)) (.int .i64 xf) (.int .i64 xo) (.int .i64 xm) := by (have h := C5.new (w2.alloc (.cells #[.int .i64 0, .int .i64 0, .int .i64 0, .int .i64 0, .int .i64 0] 35)) 35 (.int .i64 xk) (.int .i64 (q : Int)) (.int .i64 xf) (.int .i64 xo) (.int .i64 xm); rwa [show (w2.alloc (.cells #[.int .i64 0, .int .i64 0, .int .i64 0, .int .i64 0, .int .i64 0] 35)).heap.size = w2.heap.size + 1 from by simp] at h))) | (at_builtin; refine wpList_append_cmd rfl _ _ rfl rfl rfl (C2.alloc _) Y2 (by omega) ?_))
    intro g4 cap4 w4 C4x G4
    have R4 := (R2.next (alloc_b (o := .cells #[.int .i64 xk, .int .i64 (q : Int), .int .i64 xf, .int .i64 xo, .int .i64 xm] 35))).grown G4 (fun e => by have := HLT.out _ e.symm; omega)
    have D4 := below_grown (D2.alloc D2.size (.cells #[.int .i64 xk, .int .i64 (q : Int), .int .i64 xf, .int .i64 xo, .int .i64 xm] 35)) (Nat.le_trans D2.size (alloc_b (v := (w2.alloc (.cells #[.int .i64 0, .int .i64 0, .int .i64 0, .int .i64 0, .int .i64 0] 35))) (o := .cells #[.int .i64 xk, .int .i64 (q : Int), .int .i64 xf, .int .i64 xo, .int .i64 xm] 35)).size) G4 (fun g hg => by have := HLT.out _ hg; have := HTB.out; omega)
    have HF : Hid (CR (tb + 1) w4 (.slice (some ⟨g4, 0, none⟩) (L.length + 1) cap4) (ltL K T F O M (k + 1)) ∧ ∃ U, RowT w4 tb 8 (ltS K T (k + 1)) U) := by rw [HFL.out, HFS.out]; exact ⟨C4x, _, R4⟩
    clear R2 C2 D2 P2 G4 C4x R4 Y2 q0 q1 q2 q3 q4
    go_wp2
    go_roundw
    case rel => exact ⟨k + 1, _, by omega, rfl, by go_num, HF, D4⟩
    case measure => simp [intOf]; omega
end Go.Proofs.Ytnbpncjbfnhkjaa
