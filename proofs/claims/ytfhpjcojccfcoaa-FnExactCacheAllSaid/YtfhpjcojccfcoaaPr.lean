/- The program's level.read by each policy. -/
import Derived.Test.YtfhpjcojccfcoaaPl
namespace Go.Proofs.Ytfhpjcojccfcoaa
open Go.ChangeShapes Go.WideShapes Go.ChangeAt Go.RowKit
set_option linter.unusedVariables false
theorem upL_at (L : Nat → List Int) (s : Nat) (l : List Int) : upL L s l s = l := by unfold upL; rw [if_pos rfl]
theorem upL_two (L : Nat → List Int) (s : Nat) (a b : List Int) : upL (upL L s a) s b = upL L s b := by
  funext x
  unfold upL
  by_cases e : x = s
  · rw [if_pos e, if_pos e]
  · rw [if_neg e, if_neg e, if_neg e]
theorem upL_self (L : Nat → List Int) (s : Nat) : upL L s (L s) = L := by
  funext x
  unfold upL
  by_cases e : x = s
  · subst e; rw [if_pos rfl]
  · rw [if_neg e]
set_option maxRecDepth 100000 in
theorem moves1 (w : World) : Calls Try.prog 128 #[.agg #[]] w fun e w' => e = .returned (.bool true) ∧ Below w.heap.size w w' := by
  go_enter Try.func128, Try.ntmps128
  go_wp2
  go_ret
  exact ⟨rfl, alloc_b⟩
set_option maxRecDepth 100000 in
theorem moves2 (w : World) : Calls Try.prog 125 #[.agg #[]] w fun e w' => e = .returned (.bool false) ∧ Below w.heap.size w w' := by
  go_enter Try.func125, Try.ntmps125
  go_wp2
  go_ret
  exact ⟨rfl, alloc_b⟩
theorem moves3 (w : World) : Calls Try.prog 125 #[.agg #[]] w fun e w' => e = .returned (.bool false) ∧ Below w.heap.size w w' := moves2 w
set_option maxRecDepth 100000 in
theorem leave124 (v : Value) (c : Int) (w : World) : Calls Try.prog 124 #[.agg #[], v, .int .i64 c] w fun e w' => e = .returned (.tuple #[.int .i64 ((0 : Nat) : Int), .int .i64 c]) ∧ Below w.heap.size w w' := by
  go_enter Try.func124, Try.ntmps124
  go_wp2
  go_ret2
  exact ⟨rfl, alloc_b⟩
set_option maxRecDepth 100000 in
theorem leave129 (y : Nat) (ad : Option Addr) (cr : Nat) (coin : Int) (w : World) (hco : 0 ≤ coin ∧ coin < 65536) (y1 : 1 ≤ y) (y8 : y ≤ 8) : Calls Try.prog 129 #[.agg #[], .slice ad y cr, .int .i64 coin] w fun e w' => e = .returned (.tuple #[.int .i64 ((goP y 3 coin : Nat) : Int), .int .i64 (coinP 3 coin)]) ∧ Below w.heap.size w w' := by
  have hg : ((goP y 3 coin : Nat) : Int) = (coinP 3 coin) % (y : Int) := by
    unfold goP coinP
    rw [if_pos rfl, if_pos rfl]
    have := Int.emod_nonneg ((coin * 25173 + 13849) % 65536) (b := (y : Int)) (by omega)
    omega
  have hcc : coinP 3 coin = (coin * 25173 + 13849) % 65536 := by unfold coinP; rw [if_pos rfl]
  have hct : (coin * 25173 + 13849).tmod 65536 = coinP 3 coin := by rw [hcc]; exact Int.tmod_eq_emod_of_nonneg (by omega)
  have c0 : 0 ≤ coinP 3 coin := by rw [hcc]; omega
  have c1 : coinP 3 coin < 65536 := by rw [hcc]; omega
  have hkt : (coinP 3 coin).tmod (y : Int) = ((goP y 3 coin : Nat) : Int) := by rw [hg]; exact Int.tmod_eq_emod_of_nonneg c0
  have hg8 := goP_lt (ways := y) 3 coin (by omega)
  generalize coinP 3 coin = c2 at hct hkt c0 c1 ⊢
  generalize goP y 3 coin = k at hkt hg8 ⊢
  have y0 : ¬ (y : Int) = 0 := by omega
  clear hg hcc
  go_enter Try.func129, Try.ntmps129
  go_wp2
  go_ret2
  exact ⟨rfl, alloc_b⟩
set_option maxRecDepth 100000 in
set_option maxHeartbeats 1000000 in
theorem pread1 (B lb gm m cp y l s : Nat) (U : Nat → Value) (L : Nat → List Int) (coin pl nn : Int) (w : World) (C : C5 w lb (.slice (some ⟨gm, 0, none⟩) m cp) (.int .i64 (y : Int)) (.int .i64 (l : Int)) (.iface 114 (.agg #[])) (.int .i64 coin)) (K : Kx B w lb gm m U L) (hs : s < m) (m2 : m ≤ 64) (cpm : m ≤ cp) (hd : pl.tdiv (l : Int) = nn) (l1 : 1 ≤ l) (hm : nn.tmod (m : Int) = (s : Int)) (n0 : 0 ≤ nn) (n1 : nn ≤ 1000000) (hl8 : (L s).length ≤ 8) (y1 : 1 ≤ y) (y8 : y ≤ 8) (a0 : 0 ≤ pl) (a1 : pl ≤ 1000000) (hco : 0 ≤ coin ∧ coin < 65536) : Calls Try.prog 67 #[.pointer (some ⟨lb, 0, none⟩), .int .i64 pl] w fun e w' => e = .returned (.tuple #[.bool (step1 y 1 coin (L s) nn).2.2.1, .int .i64 (step1 y 1 coin (L s) nn).2.2.2]) ∧ (C5 w' lb (.slice (some ⟨gm, 0, none⟩) m cp) (.int .i64 (y : Int)) (.int .i64 (l : Int)) (.iface 114 (.agg #[])) (.int .i64 (step1 y 1 coin (L s) nn).2.1)) ∧ ∃ U', Kx B w' lb gm m U' (upL L s (step1 y 1 coin (L s) nn).1) ∧ Fr lb gm m U U' w w' := by
  have h80 := pfind B lb gm m cp y l s U L (.iface 114 (.agg #[])) coin nn w C K hs m2 cpm hm n0 n1 hl8
  have h83 := pfull B lb gm m cp y l s U L (.iface 114 (.agg #[])) coin w C K hs m2 cpm
  have q2 := C.c2
  have q3 := C.c3
  have l0 : ¬ (l : Int) = 0 := by omega
  have hmet1 : ∀ w : World, (method 251 114 (Value.agg #[]) "loop.example/g00053/impl.movesHit").run Try.prog w = .ok (128, .agg #[]) w := fun w => by kernel_rfl
  have hmet2 : ∀ w : World, (method 251 114 (Value.agg #[]) "loop.example/g00053/impl.leaving").run Try.prog w = .ok (124, .agg #[]) w := fun w => by kernel_rfl
  have KH := Hid.mk K
  have CH := Hid.mk C
  have HR : Hid (step1 y 1 coin (L s) nn = stepG y (decide ((1 : Int) = 1)) (goP y 1 coin) (coinP 1 coin) coin (L s) nn) := step1_G y 1 coin (L s) nn
  generalize step1 y 1 coin (L s) nn = R1 at HR ⊢
  clear C K
  by_cases hin : nn ∈ L s
  case pos =>
    obtain ⟨hix, hk, hgk⟩ := idx_hit hin
    rw [hix] at h80
    have HRR : Hid (R1 = (cut (L s) ((L s).idxOf nn) ++ [nn], coin, true, -1)) := by show _ = _; rw [HR.out]; unfold stepG; rw [if_pos hin]; rfl
    generalize (L s).idxOf nn = k at h80 hk hgk HRR
    have k0 : (0 : Int) ≤ (k : Int) := by omega
    clear hix hin HR h83
    · go_enter Try.func67, Try.ntmps67
      go_wp2_with (first | (go_at_call 80; refine h80.mono ?_; rintro e w2 ⟨rfl, hw⟩; subst w2) | (go_at_call 128; refine (moves1 w).mono ?_; rintro e w3 ⟨rfl, B3⟩))
      generalize hWW : w3.drew = WX
      have BX : Below w3.heap.size w3 WX := by rw [← hWW]; exact below_drew (Below.refl _ _)
      have F0 : Fr lb gm m U U w WX := Fr.ofBelow (B3.trans (BX.mono B3.size))
      have h82 := ptake B lb gm m cp y l s U L (.iface 114 (.agg #[])) coin k WX ((CH.out.next B3).next BX) ((KH.out.next B3).next BX) hs m2 cpm hl8 hk
      rw [hgk] at h82
      clear BX B3
      refine wp_region_held_drew (S := fun _ => True) (by kernel_rfl) trivial (fun hH => ?_)
      rw [hWW]
      clear hWW
      refine wpAnyH_take (i := 0) (oi := { dst := some 31, op := Op.move (Operand.tmp 0), type := 83, pos := "l15_memory.go:320", after := #[], guard := none }) (v := .pointer (some ⟨lb, 0, none⟩)) rfl (by kernel_rfl) (by kernel_rfl) (by kernel_rfl) (fun _ _ _ h => h) (Or.inl ⟨by rfl, fun w0 hSw => by (go_simp)⟩) hH ?_
      simp only [Act.put, List.setIfInBounds_toArray, List.set_cons_zero, List.set_cons_succ]
      refine wpAnyH_take (i := 1) (oi := { dst := some 32, op := Op.nilCheck (Operand.tmp 31), type := 0, pos := "l15_memory.go:320", after := #[{ on := 0, ground := Ground.data }], guard := none }) (v := .pointer (some ⟨lb, 0, none⟩)) rfl (by kernel_rfl) (by kernel_rfl) (by kernel_rfl) (fun _ _ _ h => h) (Or.inl ⟨by rfl, fun w0 hSw => by (go_simp)⟩) hH ?_
      simp only [Act.put, List.setIfInBounds_toArray, List.set_cons_zero, List.set_cons_succ]
      refine wpAnyH_take (i := 2) (oi := { dst := some 33, op := Op.fieldAddr 92 (Operand.tmp 32) 0, type := 0, pos := "l15_memory.go:320", after := #[{ on := 1, ground := Ground.data }], guard := none }) (v := .pointer (some ⟨lb, 0, none⟩)) rfl (by kernel_rfl) (by kernel_rfl) (by kernel_rfl) (fun _ _ _ h => h) (Or.inl ⟨by rfl, fun w0 hSw => by (go_simp)⟩) hH ?_
      simp only [Act.put, List.setIfInBounds_toArray, List.set_cons_zero, List.set_cons_succ]
      refine wpAnyH_take (i := 3) (oi := { dst := some 34, op := Op.move (Operand.tmp 7), type := 3, pos := "l15_memory.go:320", after := #[], guard := none }) (v := .int .i64 (s : Int)) rfl (by kernel_rfl) (by kernel_rfl) (by kernel_rfl) (fun _ _ _ h => h) (Or.inl ⟨by rfl, fun w0 hSw => by (go_simp)⟩) hH ?_
      simp only [Act.put, List.setIfInBounds_toArray, List.set_cons_zero, List.set_cons_succ]
      refine wpAnyH_take (i := 4) (oi := { dst := some 35, op := Op.move (Operand.tmp 0), type := 83, pos := "l15_memory.go:320", after := #[], guard := none }) (v := .pointer (some ⟨lb, 0, none⟩)) rfl (by kernel_rfl) (by kernel_rfl) (by kernel_rfl) (fun _ _ _ h => h) (Or.inl ⟨by rfl, fun w0 hSw => by (go_simp)⟩) hH ?_
      simp only [Act.put, List.setIfInBounds_toArray, List.set_cons_zero, List.set_cons_succ]
      refine wpAnyH_take (i := 5) (oi := { dst := some 36, op := Op.nilCheck (Operand.tmp 35), type := 0, pos := "l15_memory.go:320", after := #[{ on := 4, ground := Ground.data }], guard := none }) (v := .pointer (some ⟨lb, 0, none⟩)) rfl (by kernel_rfl) (by kernel_rfl) (by kernel_rfl) (fun _ _ _ h => h) (Or.inl ⟨by rfl, fun w0 hSw => by (go_simp)⟩) hH ?_
      simp only [Act.put, List.setIfInBounds_toArray, List.set_cons_zero, List.set_cons_succ]
      refine wpAnyH_take (i := 6) (oi := { dst := some 37, op := Op.fieldAddr 92 (Operand.tmp 36) 0, type := 0, pos := "l15_memory.go:320", after := #[{ on := 5, ground := Ground.data }], guard := none }) (v := .pointer (some ⟨lb, 0, none⟩)) rfl (by kernel_rfl) (by kernel_rfl) (by kernel_rfl) (fun _ _ _ h => h) (Or.inl ⟨by rfl, fun w0 hSw => by (go_simp)⟩) hH ?_
      simp only [Act.put, List.setIfInBounds_toArray, List.set_cons_zero, List.set_cons_succ]
      refine wpAnyH_take (i := 7) (oi := { dst := some 38, op := Op.move (Operand.tmp 7), type := 3, pos := "l15_memory.go:320", after := #[], guard := none }) (v := .int .i64 (s : Int)) rfl (by kernel_rfl) (by kernel_rfl) (by kernel_rfl) (fun _ _ _ h => h) (Or.inl ⟨by rfl, fun w0 hSw => by (go_simp)⟩) hH ?_
      simp only [Act.put, List.setIfInBounds_toArray, List.set_cons_zero, List.set_cons_succ]
      refine wpAnyH_take (i := 8) (oi := { dst := some 39, op := Op.move (Operand.tmp 8), type := 3, pos := "l15_memory.go:320", after := #[], guard := none }) (v := .int .i64 (k : Int)) rfl (by kernel_rfl) (by kernel_rfl) (by kernel_rfl) (fun _ _ _ h => h) (Or.inl ⟨by rfl, fun w0 hSw => by (go_simp)⟩) hH ?_
      simp only [Act.put, List.setIfInBounds_toArray, List.set_cons_zero, List.set_cons_succ]
      refine wpAnyH_ready (rs := [9]) (by kernel_rfl) (by simp) ?_
      refine (AllReadyH.cons (o := { dst := some 40, op := Op.call { callee := Callee.value (Operand.func 82), args := #[Operand.tmp 37, Operand.tmp 38, Operand.tmp 39], argTypes := #[88, 3, 3] }, type := 3, pos := "l15_memory.go:320", after := #[{ on := 6, ground := Ground.data }, { on := 7, ground := Ground.data }, { on := 8, ground := Ground.data }], guard := none }) rfl (fun K hK => ?_) AllReadyH.nil)
      refine step_callC 82 #[.pointer (some ⟨lb, 0, none⟩), .int .i64 (s : Int), .int .i64 (k : Int)] (fun z v w' => z = .int .i64 nn ∧ (C5 w' lb (.slice (some ⟨gm, 0, none⟩) m cp) (.int .i64 (y : Int)) (.int .i64 (l : Int)) (.iface 114 (.agg #[])) (.int .i64 coin)) ∧ ∃ U', Kx B w' lb gm m U' (upL L s (cut (L s) k)) ∧ Fr lb gm m U U' v w') (by rfl) (by go_simp) (h82.mono fun e w' ⟨h1, h2, h3⟩ => ⟨_, h1, rfl, h2, h3⟩) ?_
      rintro z4 w4 ⟨rfl, C4, U4, K4, F4⟩
      have h81 := play B lb gm m cp y l s U4 (upL L s (cut (L s) k)) (.iface 114 (.agg #[])) coin nn w4 C4 K4 hs m2 cpm (by rw [upL_at, cut_len _ _ hk]; omega)
      rw [upL_at, upL_two] at h81
      simp only [Act.put, List.setIfInBounds_toArray, List.set_cons_zero, List.set_cons_succ]
      refine hK.out _ _ trivial (fun hH' => ?_)
      clear hK K
      replace hH := hH'
      clear hH'
      refine wpAnyH_ready (rs := [10]) (by kernel_rfl) (by simp) ?_
      refine (AllReadyH.cons (o := { dst := some 41, op := Op.call { callee := Callee.value (Operand.func 81), args := #[Operand.tmp 33, Operand.tmp 34, Operand.tmp 40], argTypes := #[88, 3, 3] }, type := 0, pos := "l15_memory.go:320", after := #[{ on := 2, ground := Ground.data }, { on := 3, ground := Ground.data }, { on := 9, ground := Ground.data }, { on := 9, ground := Ground.chain }], guard := none }) rfl (fun K hK => ?_) AllReadyH.nil)
      refine step_callC 81 #[.pointer (some ⟨lb, 0, none⟩), .int .i64 (s : Int), .int .i64 nn] (fun z v w' => z = .tuple #[] ∧ (C5 w' lb (.slice (some ⟨gm, 0, none⟩) m cp) (.int .i64 (y : Int)) (.int .i64 (l : Int)) (.iface 114 (.agg #[])) (.int .i64 coin)) ∧ ∃ U', Kx B w' lb gm m U' (upL L s (cut (L s) k ++ [nn])) ∧ Fr lb gm m U4 U' v w') (by rfl) (by go_simp) (h81.mono fun e w' ⟨h1, h2, h3⟩ => ⟨_, h1, rfl, h2, h3⟩) ?_
      rintro z5 w5 ⟨rfl, CN, U5, KN, F5⟩
      have FN := F0.trans (F4.trans F5)
      simp only [Act.put, List.setIfInBounds_toArray, List.set_cons_zero, List.set_cons_succ]
      refine hK.out _ _ trivial (fun hH' => ?_)
      clear hK K hH' hH
      refine wpAnyH_done (by kernel_rfl) ?_ _
      go_wp2
      go_ret2
      exact ⟨by rw [HRR.out]; rfl, by rw [HRR.out]; exact CN, U5, by rw [HRR.out]; exact KN, FN⟩
  case neg =>
    rw [idx_miss hin] at h80
    by_cases hfull : (L s).length = y
    case neg =>
      have hfB : (((L s).length : Int) == (y : Int)) = false := by
        have : ¬ ((L s).length : Int) = (y : Int) := by omega
        exact beq_false_of_ne this
      rw [hfB] at h83
      have HRR : Hid (R1 = (L s ++ [nn], coin, false, -1)) := by show _ = _; rw [HR.out]; unfold stepG; rw [if_neg hin, if_neg hfull]
      have h81 : Hid (∀ w', Below w.heap.size w w' → Calls Try.prog 81 #[.pointer (some ⟨lb, 0, none⟩), .int .i64 (s : Int), .int .i64 nn] w' fun e w'' => e = .returned (.tuple #[]) ∧ (C5 w'' lb (.slice (some ⟨gm, 0, none⟩) m cp) (.int .i64 (y : Int)) (.int .i64 (l : Int)) (.iface 114 (.agg #[])) (.int .i64 coin)) ∧ ∃ U', Kx B w'' lb gm m U' (upL L s (L s ++ [nn])) ∧ Fr lb gm m U U' w' w'') := fun w' b => play B lb gm m cp y l s U L (.iface 114 (.agg #[])) coin nn w' (CH.out.next b) (KH.out.next b) hs m2 cpm hl8
      clear HR hfB hin
      go_enter Try.func67, Try.ntmps67
      go_wp2_with (first | (go_at_call 80; refine h80.mono ?_; rintro e w2 ⟨rfl, hw⟩; subst w2) | (go_at_call 83; refine h83.mono ?_; rintro e w3 ⟨rfl, B3⟩) | (go_at_call 81; refine (h81.out w3 B3).mono ?_; rintro e w4 ⟨rfl, CN, U4, KN, F4⟩))
      go_ret2
      exact ⟨by rw [HRR.out]; rfl, by rw [HRR.out]; exact CN, U4, by rw [HRR.out]; exact KN, (Fr.ofBelow B3).trans F4⟩
    have hfB : (((L s).length : Int) == (y : Int)) = true := by
      have : ((L s).length : Int) = (y : Int) := by omega
      exact beq_iff_eq.2 this
    rw [hfB] at h83
    obtain ⟨k, c2, hk, HRR, HLV⟩ : ∃ (k : Nat) (c2 : Int), k < y ∧ Hid (R1 = (cut (L s) k ++ [nn], c2, false, (L s).getD k 0)) ∧ Hid (∀ v w', (∃ ad cr, v = Value.slice ad y cr) → Calls Try.prog 124 #[.agg #[], v, .int .i64 coin] w' fun e w'' => e = .returned (.tuple #[.int .i64 (k : Int), .int .i64 c2]) ∧ Below w'.heap.size w' w'') := by
      refine ⟨goP y 1 coin, coinP 1 coin, goP_lt _ _ (by omega), ?_, ?_⟩
      · show _ = _
        rw [HR.out]
        unfold stepG
        rw [if_neg hin, if_pos hfull]
      · exact fun v w' _ => leave124 v coin w'
    obtain ⟨ad, cr, hU, hcr0, hga⟩ := row_form KH.out hs
    obtain ⟨g, rfl⟩ := hga (by omega)
    have HU0 : Hid (U s = .slice (some ⟨g, 0, none⟩) (L s).length cr) := hU
    obtain ⟨ln, hln⟩ : ∃ ln, (L s).length = ln := ⟨_, rfl⟩
    have HLN : Hid ((L s).length = ln) := hln
    have HU : Hid (U s = .slice (some ⟨g, 0, none⟩) ln cr) := by show _ = _; rw [hU, hln]
    have hk : k < ln := by omega
    have s0 : (0 : Int) ≤ (s : Int) := by omega
    have s1 : (s : Int) < (m : Int) := by omega
    have hly : ln = y := by omega
    have HLY := Hid.mk hly
    clear HR hfB hin hU hln hfull hly hga
    go_enter Try.func67, Try.ntmps67
    go_wp2_with (first | (go_at_call 80; refine h80.mono ?_; rintro e w2 ⟨rfl, hw⟩; subst w2) | (go_at_call 83; refine h83.mono ?_; rintro e w3 ⟨rfl, B3⟩))
    generalize hWW : w3.drew = WX
    have BX : Below w3.heap.size w3 WX := by rw [← hWW]; exact below_drew (Below.refl _ _)
    have F0 : Fr lb gm m U U w WX := Fr.ofBelow (B3.trans (BX.mono B3.size))
    have CX := (CH.out.next B3).next BX
    have KX := (KH.out.next B3).next BX
    have hcg : WX.cell? ⟨gm, s, none⟩ = some (.slice (some ⟨g, 0, none⟩) ln cr) := by have h := KX.c s hs; rw [HU.out] at h; exact h
    have hlv := HLV.out (.slice (some ⟨g, 0, none⟩) ln cr) WX ⟨_, _, by rw [HLY.out]⟩
    clear BX B3 h80 h83 q2 q3
    refine wp_region_held_drew (S := (fun u => u.cell? ⟨lb, 0, none⟩ = some (.slice (some ⟨gm, 0, none⟩) m cp) ∧ u.cell? ⟨lb, 3, none⟩ = some (.iface 114 (.agg #[])) ∧ u.cell? ⟨gm, s, none⟩ = some (.slice (some ⟨g, 0, none⟩) ln cr))) (by kernel_rfl) (by rw [hWW]; exact ⟨CX.c0, CX.c3, hcg⟩) (fun hH => ?_)
    rw [hWW] at hH ⊢
    clear hWW
    refine wpAnyH_take (i := 0) (oi := { dst := some 48, op := Op.move (Operand.tmp 0), type := 83, pos := "l15_memory.go:326", after := #[{ on := 23, ground := Ground.gcOnly Departure.lateStores }], guard := none }) (v := .pointer (some ⟨lb, 0, none⟩)) rfl (by kernel_rfl) (by kernel_rfl) (by kernel_rfl) (fun _ _ _ h => h) (Or.inl ⟨by rfl, fun w0 hSw => by (go_simp)⟩) hH ?_
    simp only [Act.put, List.setIfInBounds_toArray, List.set_cons_zero, List.set_cons_succ]
    refine wpAnyH_take (i := 1) (oi := { dst := some 49, op := Op.move (Operand.tmp 0), type := 83, pos := "l15_memory.go:326", after := #[], guard := none }) (v := .pointer (some ⟨lb, 0, none⟩)) rfl (by kernel_rfl) (by kernel_rfl) (by kernel_rfl) (fun _ _ _ h => h) (Or.inl ⟨by rfl, fun w0 hSw => by (go_simp)⟩) hH ?_
    simp only [Act.put, List.setIfInBounds_toArray, List.set_cons_zero, List.set_cons_succ]
    refine wpAnyH_take (i := 2) (oi := { dst := some 50, op := Op.nilCheck (Operand.tmp 49), type := 0, pos := "l15_memory.go:326", after := #[{ on := 1, ground := Ground.data }], guard := none }) (v := .pointer (some ⟨lb, 0, none⟩)) rfl (by kernel_rfl) (by kernel_rfl) (by kernel_rfl) (fun _ _ _ h => h) (Or.inl ⟨by rfl, fun w0 hSw => by (go_simp)⟩) hH ?_
    simp only [Act.put, List.setIfInBounds_toArray, List.set_cons_zero, List.set_cons_succ]
    refine wpAnyH_take (i := 3) (oi := { dst := some 51, op := Op.fieldAddr 92 (Operand.tmp 50) 2, type := 0, pos := "l15_memory.go:326", after := #[{ on := 2, ground := Ground.data }], guard := none }) (v := .pointer (some ⟨lb, 3, none⟩)) rfl (by kernel_rfl) (by kernel_rfl) (by kernel_rfl) (fun _ _ _ h => h) (Or.inl ⟨by rfl, fun w0 hSw => by (go_simp)⟩) hH ?_
    simp only [Act.put, List.setIfInBounds_toArray, List.set_cons_zero, List.set_cons_succ]
    refine wpAnyH_take (i := 4) (oi := { dst := some 52, op := Op.load 90 (Operand.tmp 51), type := 90, pos := "l15_memory.go:326", after := #[{ on := 3, ground := Ground.data }], guard := none }) (v := (.iface 114 (.agg #[]))) rfl (by kernel_rfl) (by kernel_rfl) (by kernel_rfl) (fun _ _ _ h => h) (Or.inl ⟨by rfl, fun w0 hSw => by ((have e4 := hSw.2.1); go_simp)⟩) hH ?_
    simp only [Act.put, List.setIfInBounds_toArray, List.set_cons_zero, List.set_cons_succ]
    refine wpAnyH_take (i := 5) (oi := { dst := some 53, op := Op.move (Operand.tmp 0), type := 83, pos := "l15_memory.go:326", after := #[], guard := none }) (v := .pointer (some ⟨lb, 0, none⟩)) rfl (by kernel_rfl) (by kernel_rfl) (by kernel_rfl) (fun _ _ _ h => h) (Or.inl ⟨by rfl, fun w0 hSw => by (go_simp)⟩) hH ?_
    simp only [Act.put, List.setIfInBounds_toArray, List.set_cons_zero, List.set_cons_succ]
    refine wpAnyH_take (i := 6) (oi := { dst := some 54, op := Op.nilCheck (Operand.tmp 53), type := 0, pos := "l15_memory.go:326", after := #[{ on := 5, ground := Ground.data }], guard := none }) (v := .pointer (some ⟨lb, 0, none⟩)) rfl (by kernel_rfl) (by kernel_rfl) (by kernel_rfl) (fun _ _ _ h => h) (Or.inl ⟨by rfl, fun w0 hSw => by (go_simp)⟩) hH ?_
    simp only [Act.put, List.setIfInBounds_toArray, List.set_cons_zero, List.set_cons_succ]
    refine wpAnyH_take (i := 7) (oi := { dst := some 55, op := Op.fieldAddr 92 (Operand.tmp 54) 0, type := 0, pos := "l15_memory.go:326", after := #[{ on := 6, ground := Ground.data }], guard := none }) (v := .pointer (some ⟨lb, 0, none⟩)) rfl (by kernel_rfl) (by kernel_rfl) (by kernel_rfl) (fun _ _ _ h => h) (Or.inl ⟨by rfl, fun w0 hSw => by (go_simp)⟩) hH ?_
    simp only [Act.put, List.setIfInBounds_toArray, List.set_cons_zero, List.set_cons_succ]
    refine wpAnyH_take (i := 8) (oi := { dst := some 56, op := Op.fieldAddr 88 (Operand.tmp 55) 0, type := 0, pos := "l15_memory.go:326", after := #[{ on := 7, ground := Ground.data }], guard := none }) (v := .pointer (some ⟨lb, 0, none⟩)) rfl (by kernel_rfl) (by kernel_rfl) (by kernel_rfl) (fun _ _ _ h => h) (Or.inl ⟨by rfl, fun w0 hSw => by (go_simp)⟩) hH ?_
    simp only [Act.put, List.setIfInBounds_toArray, List.set_cons_zero, List.set_cons_succ]
    refine wpAnyH_take (i := 9) (oi := { dst := some 57, op := Op.load 40 (Operand.tmp 56), type := 40, pos := "l15_memory.go:326", after := #[{ on := 8, ground := Ground.data }], guard := none }) (v := .slice (some ⟨gm, 0, none⟩) m cp) rfl (by kernel_rfl) (by kernel_rfl) (by kernel_rfl) (fun _ _ _ h => h) (Or.inl ⟨by rfl, fun w0 hSw => by ((have e4 := hSw.1); go_simp)⟩) hH ?_
    simp only [Act.put, List.setIfInBounds_toArray, List.set_cons_zero, List.set_cons_succ]
    refine wpAnyH_take (i := 10) (oi := { dst := some 58, op := Op.move (Operand.tmp 7), type := 3, pos := "l15_memory.go:326", after := #[], guard := none }) (v := .int .i64 (s : Int)) rfl (by kernel_rfl) (by kernel_rfl) (by kernel_rfl) (fun _ _ _ h => h) (Or.inl ⟨by rfl, fun w0 hSw => by (go_simp)⟩) hH ?_
    simp only [Act.put, List.setIfInBounds_toArray, List.set_cons_zero, List.set_cons_succ]
    refine wpAnyH_take (i := 11) (oi := { dst := some 59, op := Op.indexAddr 40 (Operand.tmp 57) (Operand.tmp 58), type := 0, pos := "l15_memory.go:326", after := #[{ on := 9, ground := Ground.data }, { on := 10, ground := Ground.data }], guard := none }) (v := .pointer (some ⟨gm, s, none⟩)) rfl (by kernel_rfl) (by kernel_rfl) (by kernel_rfl) (fun _ _ _ h => h) (Or.inl ⟨by rfl, fun w0 hSw => by (go_simp <;> first | (intro h; exfalso; omega) | exact (IntKind.wrap_i64 _).trans (by omega) | omega)⟩) hH ?_
    simp only [Act.put, List.setIfInBounds_toArray, List.set_cons_zero, List.set_cons_succ]
    refine wpAnyH_take (i := 12) (oi := { dst := some 60, op := Op.load 23 (Operand.tmp 59), type := 23, pos := "l15_memory.go:326", after := #[{ on := 11, ground := Ground.data }], guard := none }) (v := .slice (some ⟨g, 0, none⟩) ln cr) rfl (by kernel_rfl) (by kernel_rfl) (by kernel_rfl) (fun _ _ _ h => h) (Or.inl ⟨by rfl, fun w0 hSw => by ((have e4 := hSw.2.2); go_simp)⟩) hH ?_
    simp only [Act.put, List.setIfInBounds_toArray, List.set_cons_zero, List.set_cons_succ]
    refine wpAnyH_take (i := 13) (oi := { dst := some 61, op := Op.move (Operand.tmp 0), type := 83, pos := "l15_memory.go:326", after := #[], guard := none }) (v := .pointer (some ⟨lb, 0, none⟩)) rfl (by kernel_rfl) (by kernel_rfl) (by kernel_rfl) (fun _ _ _ h => h) (Or.inl ⟨by rfl, fun w0 hSw => by (go_simp)⟩) hH ?_
    simp only [Act.put, List.setIfInBounds_toArray, List.set_cons_zero, List.set_cons_succ]
    refine wpAnyH_take (i := 14) (oi := { dst := some 62, op := Op.nilCheck (Operand.tmp 61), type := 0, pos := "l15_memory.go:326", after := #[{ on := 13, ground := Ground.data }], guard := none }) (v := .pointer (some ⟨lb, 0, none⟩)) rfl (by kernel_rfl) (by kernel_rfl) (by kernel_rfl) (fun _ _ _ h => h) (Or.inl ⟨by rfl, fun w0 hSw => by (go_simp)⟩) hH ?_
    simp only [Act.put, List.setIfInBounds_toArray, List.set_cons_zero, List.set_cons_succ]
    refine wpAnyH_take (i := 15) (oi := { dst := some 63, op := Op.fieldAddr 92 (Operand.tmp 62) 3, type := 0, pos := "l15_memory.go:326", after := #[{ on := 14, ground := Ground.data }], guard := none }) (v := .pointer (some ⟨lb, 4, none⟩)) rfl (by kernel_rfl) (by kernel_rfl) (by kernel_rfl) (fun _ _ _ h => h) (Or.inl ⟨by rfl, fun w0 hSw => by (go_simp)⟩) hH ?_
    simp only [Act.put, List.setIfInBounds_toArray, List.set_cons_zero, List.set_cons_succ]
    refine wpAnyH_take (i := 17) (oi := { dst := some 65, op := Op.nilCheck (Operand.tmp 52), type := 90, pos := "l15_memory.go:326", after := #[{ on := 4, ground := Ground.data }], guard := none }) (v := (.iface 114 (.agg #[]))) rfl (by kernel_rfl) (by kernel_rfl) (by kernel_rfl) (fun _ _ _ h => h) (Or.inl ⟨by rfl, fun w0 hSw => by (go_simp)⟩) hH ?_
    simp only [Act.put, List.setIfInBounds_toArray, List.set_cons_zero, List.set_cons_succ]
    refine wpAnyH_take (i := 18) (oi := { dst := some 66, op := Op.move (Operand.tmp 52), type := 90, pos := "l15_memory.go:326", after := #[{ on := 4, ground := Ground.data }, { on := 17, ground := Ground.data }], guard := none }) (v := (.iface 114 (.agg #[]))) rfl (by kernel_rfl) (by kernel_rfl) (by kernel_rfl) (fun _ _ _ h => h) (Or.inl ⟨by rfl, fun w0 hSw => by (go_simp)⟩) hH ?_
    simp only [Act.put, List.setIfInBounds_toArray, List.set_cons_zero, List.set_cons_succ]
    refine wpAnyH_ready (rs := [16]) (by kernel_rfl) (by simp) ?_
    refine (AllReadyH.cons (o := { dst := some 64, op := Op.load 3 (Operand.tmp 63), type := 3, pos := "l15_memory.go:326", after := #[{ on := 15, ground := Ground.data }], guard := none }) rfl (fun K hK => ?_) AllReadyH.nil)
    refine step_val (.int .i64 coin) WX (by rfl) (by have h1 := CX.c4; go_simp) ?_
    simp only [Act.put, List.setIfInBounds_toArray, List.set_cons_zero, List.set_cons_succ]
    refine hK.out _ _ ⟨CX.c0, CX.c3, hcg⟩ (fun hH' => ?_)
    clear hK K
    replace hH := hH'
    clear hH'
    refine wpAnyH_ready (rs := [19]) (by kernel_rfl) (by simp) ?_
    refine (AllReadyH.cons (o := { dst := some 67, op := Op.call { callee := Callee.invoke (Operand.tmp 66) "loop.example/g00053/impl.leaving", args := #[Operand.tmp 60, Operand.tmp 64], argTypes := #[23, 3] }, type := 102, pos := "l15_memory.go:326", after := #[{ on := 18, ground := Ground.data }, { on := 12, ground := Ground.data }, { on := 16, ground := Ground.data }], guard := none }) rfl (fun K hK => ?_) AllReadyH.nil)
    refine step_callC 124 #[.agg #[], .slice (some ⟨g, 0, none⟩) ln cr, .int .i64 coin] (fun z v w' => z = .tuple #[.int .i64 (k : Int), .int .i64 c2] ∧ Below v.heap.size v w') (by rfl) (by go_simp) (hlv.mono fun e w' ⟨h1, h2⟩ => ⟨_, h1, rfl, h2⟩) ?_
    rintro z6 w6 ⟨rfl, B6⟩
    have C6 := CX.next B6
    have K6 := KX.next B6
    have O7 : Only lb w6 (w6.setCell ⟨lb, 4, none⟩ (.int .i64 c2)) := (Only.refl _ _).setCell _ _
    have C7 := C6.s4 (.int .i64 c2)
    have K7 := (K6.head O7).1
    have F7 := (F0.trans (Fr.ofBelow B6)).trans (K6.head O7).2
    have q4 := C6.c4
    have f4 := C6.f 4
    simp only [Act.put, List.setIfInBounds_toArray, List.set_cons_zero, List.set_cons_succ]
    refine hK.out _ _ ⟨C6.c0, C6.c3, cell_nx hcg B6⟩ (fun hH' => ?_)
    clear hK K
    replace hH := hH'
    clear hH'
    refine wpAnyH_take (i := 20) (oi := { dst := some 47, op := Op.move (Operand.tmp 67), type := 102, pos := "l15_memory.go:326", after := #[{ on := 19, ground := Ground.data }], guard := none }) (v := .tuple #[.int .i64 (k : Int), .int .i64 c2]) rfl (by kernel_rfl) (by kernel_rfl) (by kernel_rfl) (fun _ _ _ h => h) (Or.inl ⟨by rfl, fun w0 hSw => by (go_simp)⟩) hH ?_
    simp only [Act.put, List.setIfInBounds_toArray, List.set_cons_zero, List.set_cons_succ]
    refine wpAnyH_take (i := 21) (oi := { dst := some 68, op := Op.extract (Operand.tmp 47) 0, type := 3, pos := "l15_memory.go:326", after := #[{ on := 20, ground := Ground.data }], guard := none }) (v := .int .i64 (k : Int)) rfl (by kernel_rfl) (by kernel_rfl) (by kernel_rfl) (fun _ _ _ h => h) (Or.inl ⟨by rfl, fun w0 hSw => by (go_simp)⟩) hH ?_
    simp only [Act.put, List.setIfInBounds_toArray, List.set_cons_zero, List.set_cons_succ]
    refine wpAnyH_take (i := 22) (oi := { dst := some 69, op := Op.extract (Operand.tmp 47) 1, type := 3, pos := "l15_memory.go:326", after := #[{ on := 20, ground := Ground.data }, { on := 23, ground := Ground.gcOnly Departure.lateStores }], guard := none }) (v := .int .i64 c2) rfl (by kernel_rfl) (by kernel_rfl) (by kernel_rfl) (fun _ _ _ h => h) (Or.inl ⟨by rfl, fun w0 hSw => by (go_simp)⟩) hH ?_
    simp only [Act.put, List.setIfInBounds_toArray, List.set_cons_zero, List.set_cons_succ]
    refine wpAnyH_take (i := 23) (oi := { dst := some 8, op := Op.assign (Operand.tmp 68), type := 3, pos := "l15_memory.go:326", after := #[{ on := 21, ground := Ground.data }, { on := 19, ground := Ground.chain }, { on := 0, ground := Ground.textOnly Departure.lateStores }, { on := 1, ground := Ground.phase }, { on := 2, ground := Ground.phase }, { on := 3, ground := Ground.phase }, { on := 4, ground := Ground.phase }, { on := 5, ground := Ground.phase }, { on := 6, ground := Ground.phase }, { on := 7, ground := Ground.phase }, { on := 8, ground := Ground.phase }, { on := 9, ground := Ground.phase }, { on := 10, ground := Ground.phase }, { on := 11, ground := Ground.phase }, { on := 12, ground := Ground.phase }, { on := 13, ground := Ground.phase }, { on := 14, ground := Ground.phase }, { on := 15, ground := Ground.phase }, { on := 16, ground := Ground.phase }, { on := 17, ground := Ground.phase }, { on := 18, ground := Ground.phase }, { on := 19, ground := Ground.phase }, { on := 20, ground := Ground.phase }, { on := 21, ground := Ground.phase }, { on := 22, ground := Ground.textOnly Departure.lateStores }], guard := none }) (v := .int .i64 (k : Int)) rfl (by kernel_rfl) (by kernel_rfl) (by kernel_rfl) (fun _ _ _ h => h) (Or.inl ⟨by rfl, fun w0 hSw => by (go_simp)⟩) hH ?_
    simp only [Act.put, List.setIfInBounds_toArray, List.set_cons_zero, List.set_cons_succ]
    refine wpAnyH_take (i := 24) (oi := { dst := some 70, op := Op.nilCheck (Operand.tmp 48), type := 0, pos := "l15_memory.go:326", after := #[{ on := 0, ground := Ground.data }, { on := 0, ground := Ground.phase }, { on := 1, ground := Ground.phase }, { on := 2, ground := Ground.phase }, { on := 3, ground := Ground.phase }, { on := 4, ground := Ground.phase }, { on := 5, ground := Ground.phase }, { on := 6, ground := Ground.phase }, { on := 7, ground := Ground.phase }, { on := 8, ground := Ground.phase }, { on := 9, ground := Ground.phase }, { on := 10, ground := Ground.phase }, { on := 11, ground := Ground.phase }, { on := 12, ground := Ground.phase }, { on := 13, ground := Ground.phase }, { on := 14, ground := Ground.phase }, { on := 15, ground := Ground.phase }, { on := 16, ground := Ground.phase }, { on := 17, ground := Ground.phase }, { on := 18, ground := Ground.phase }, { on := 19, ground := Ground.phase }, { on := 20, ground := Ground.phase }, { on := 21, ground := Ground.phase }, { on := 22, ground := Ground.phase }, { on := 23, ground := Ground.phase }], guard := none }) (v := .pointer (some ⟨lb, 0, none⟩)) rfl (by kernel_rfl) (by kernel_rfl) (by kernel_rfl) (fun _ _ _ h => h) (Or.inl ⟨by rfl, fun w0 hSw => by (go_simp)⟩) hH ?_
    simp only [Act.put, List.setIfInBounds_toArray, List.set_cons_zero, List.set_cons_succ]
    refine wpAnyH_take (i := 25) (oi := { dst := some 71, op := Op.fieldAddr 92 (Operand.tmp 70) 3, type := 0, pos := "l15_memory.go:326", after := #[{ on := 24, ground := Ground.data }, { on := 0, ground := Ground.phase }, { on := 1, ground := Ground.phase }, { on := 2, ground := Ground.phase }, { on := 3, ground := Ground.phase }, { on := 4, ground := Ground.phase }, { on := 5, ground := Ground.phase }, { on := 6, ground := Ground.phase }, { on := 7, ground := Ground.phase }, { on := 8, ground := Ground.phase }, { on := 9, ground := Ground.phase }, { on := 10, ground := Ground.phase }, { on := 11, ground := Ground.phase }, { on := 12, ground := Ground.phase }, { on := 13, ground := Ground.phase }, { on := 14, ground := Ground.phase }, { on := 15, ground := Ground.phase }, { on := 16, ground := Ground.phase }, { on := 17, ground := Ground.phase }, { on := 18, ground := Ground.phase }, { on := 19, ground := Ground.phase }, { on := 20, ground := Ground.phase }, { on := 21, ground := Ground.phase }, { on := 22, ground := Ground.phase }, { on := 23, ground := Ground.phase }], guard := none }) (v := .pointer (some ⟨lb, 4, none⟩)) rfl (by kernel_rfl) (by kernel_rfl) (by kernel_rfl) (fun _ _ _ h => h) (Or.inl ⟨by rfl, fun w0 hSw => by (go_simp)⟩) hH ?_
    simp only [Act.put, List.setIfInBounds_toArray, List.set_cons_zero, List.set_cons_succ]
    refine wpAnyH_ready (rs := [26]) (by kernel_rfl) (by simp) ?_
    refine (AllReadyH.cons (o := { dst := none, op := Op.store 3 (Operand.tmp 71) (Operand.tmp 69), type := 0, pos := "l15_memory.go:326", after := #[{ on := 25, ground := Ground.data }, { on := 22, ground := Ground.data }, { on := 23, ground := Ground.chain }, { on := 0, ground := Ground.phase }, { on := 1, ground := Ground.phase }, { on := 2, ground := Ground.phase }, { on := 3, ground := Ground.phase }, { on := 4, ground := Ground.phase }, { on := 5, ground := Ground.phase }, { on := 6, ground := Ground.phase }, { on := 7, ground := Ground.phase }, { on := 8, ground := Ground.phase }, { on := 9, ground := Ground.phase }, { on := 10, ground := Ground.phase }, { on := 11, ground := Ground.phase }, { on := 12, ground := Ground.phase }, { on := 13, ground := Ground.phase }, { on := 14, ground := Ground.phase }, { on := 15, ground := Ground.phase }, { on := 16, ground := Ground.phase }, { on := 17, ground := Ground.phase }, { on := 18, ground := Ground.phase }, { on := 19, ground := Ground.phase }, { on := 20, ground := Ground.phase }, { on := 21, ground := Ground.phase }, { on := 22, ground := Ground.phase }, { on := 23, ground := Ground.phase }], guard := none }) rfl (fun K hK => ?_) AllReadyH.nil)
    refine step_skip (w6.setCell ⟨lb, 4, none⟩ (.int .i64 c2)) (by rfl) (by go_simp) ?_
    refine hK.out _ _ ⟨C7.c0, C7.c3, by have h := K7.c s hs; rw [HU.out] at h; exact h⟩ (fun hH' => ?_)
    clear hK K hH' hH
    refine wpAnyH_done (by kernel_rfl) ?_ _
    clear q4 f4 C6 K6 O7 B6 CX KX hcg
    have h82 := ptake B lb gm m cp y l s U L (.iface 114 (.agg #[])) c2 k _ C7 K7 hs m2 cpm hl8 (by rw [HLN.out]; exact hk)
    generalize w6.setCell ⟨lb, 4, none⟩ (.int .i64 c2) = W7 at C7 K7 F7 h82 ⊢
    go_wp2_with (first | (go_at_call 82; refine h82.mono ?_; rintro e w8 ⟨rfl, C8, U8, K8, F8⟩; (have h81 := play B lb gm m cp y l s U8 (upL L s (cut (L s) k)) (.iface 114 (.agg #[])) c2 nn w8 C8 K8 hs m2 cpm (by rw [upL_at, cut_len _ _ (by rw [HLN.out]; exact hk)]; omega)); rw [upL_at, upL_two] at h81) | (go_at_call 81; refine h81.mono ?_; rintro e w9 ⟨rfl, CN, U9, KN, F9⟩))
    go_ret2
    exact ⟨by rw [HRR.out]; rfl, by rw [HRR.out]; exact CN, U9, by rw [HRR.out]; exact KN, F7.trans (F8.trans F9)⟩
set_option maxRecDepth 100000 in
set_option maxHeartbeats 1000000 in
theorem pread2 (B lb gm m cp y l s : Nat) (U : Nat → Value) (L : Nat → List Int) (coin pl nn : Int) (w : World) (C : C5 w lb (.slice (some ⟨gm, 0, none⟩) m cp) (.int .i64 (y : Int)) (.int .i64 (l : Int)) (.iface 94 (.agg #[])) (.int .i64 coin)) (K : Kx B w lb gm m U L) (hs : s < m) (m2 : m ≤ 64) (cpm : m ≤ cp) (hd : pl.tdiv (l : Int) = nn) (l1 : 1 ≤ l) (hm : nn.tmod (m : Int) = (s : Int)) (n0 : 0 ≤ nn) (n1 : nn ≤ 1000000) (hl8 : (L s).length ≤ 8) (y1 : 1 ≤ y) (y8 : y ≤ 8) (a0 : 0 ≤ pl) (a1 : pl ≤ 1000000) (hco : 0 ≤ coin ∧ coin < 65536) : Calls Try.prog 67 #[.pointer (some ⟨lb, 0, none⟩), .int .i64 pl] w fun e w' => e = .returned (.tuple #[.bool (step1 y 2 coin (L s) nn).2.2.1, .int .i64 (step1 y 2 coin (L s) nn).2.2.2]) ∧ (C5 w' lb (.slice (some ⟨gm, 0, none⟩) m cp) (.int .i64 (y : Int)) (.int .i64 (l : Int)) (.iface 94 (.agg #[])) (.int .i64 (step1 y 2 coin (L s) nn).2.1)) ∧ ∃ U', Kx B w' lb gm m U' (upL L s (step1 y 2 coin (L s) nn).1) ∧ Fr lb gm m U U' w w' := by
  have h80 := pfind B lb gm m cp y l s U L (.iface 94 (.agg #[])) coin nn w C K hs m2 cpm hm n0 n1 hl8
  have h83 := pfull B lb gm m cp y l s U L (.iface 94 (.agg #[])) coin w C K hs m2 cpm
  have q2 := C.c2
  have q3 := C.c3
  have l0 : ¬ (l : Int) = 0 := by omega
  have hmet1 : ∀ w : World, (method 251 94 (Value.agg #[]) "loop.example/g00053/impl.movesHit").run Try.prog w = .ok (125, .agg #[]) w := fun w => by kernel_rfl
  have hmet2 : ∀ w : World, (method 251 94 (Value.agg #[]) "loop.example/g00053/impl.leaving").run Try.prog w = .ok (124, .agg #[]) w := fun w => by kernel_rfl
  have KH := Hid.mk K
  have CH := Hid.mk C
  have HR : Hid (step1 y 2 coin (L s) nn = stepG y (decide ((2 : Int) = 1)) (goP y 2 coin) (coinP 2 coin) coin (L s) nn) := step1_G y 2 coin (L s) nn
  generalize step1 y 2 coin (L s) nn = R1 at HR ⊢
  clear C K
  by_cases hin : nn ∈ L s
  case pos =>
    obtain ⟨hix, hk, hgk⟩ := idx_hit hin
    rw [hix] at h80
    have HRR : Hid (R1 = (L s, coin, true, -1)) := by show _ = _; rw [HR.out]; unfold stepG; rw [if_pos hin]; rfl
    generalize (L s).idxOf nn = k at h80 hk hgk HRR
    have k0 : (0 : Int) ≤ (k : Int) := by omega
    clear hix hin HR h83
    · go_enter Try.func67, Try.ntmps67
      go_wp2_with (first | (go_at_call 80; refine h80.mono ?_; rintro e w2 ⟨rfl, hw⟩; subst w2) | (go_at_call 125; refine (moves2 w).mono ?_; rintro e w3 ⟨rfl, B3⟩))
      go_ret2
      exact ⟨by rw [HRR.out]; rfl, by rw [HRR.out]; exact CH.out.next B3, U, by rw [HRR.out]; show Kx _ _ _ _ _ _ (upL L s (L s)); rw [upL_self]; exact KH.out.next B3, Fr.ofBelow B3⟩
  case neg =>
    rw [idx_miss hin] at h80
    by_cases hfull : (L s).length = y
    case neg =>
      have hfB : (((L s).length : Int) == (y : Int)) = false := by
        have : ¬ ((L s).length : Int) = (y : Int) := by omega
        exact beq_false_of_ne this
      rw [hfB] at h83
      have HRR : Hid (R1 = (L s ++ [nn], coin, false, -1)) := by show _ = _; rw [HR.out]; unfold stepG; rw [if_neg hin, if_neg hfull]
      have h81 : Hid (∀ w', Below w.heap.size w w' → Calls Try.prog 81 #[.pointer (some ⟨lb, 0, none⟩), .int .i64 (s : Int), .int .i64 nn] w' fun e w'' => e = .returned (.tuple #[]) ∧ (C5 w'' lb (.slice (some ⟨gm, 0, none⟩) m cp) (.int .i64 (y : Int)) (.int .i64 (l : Int)) (.iface 94 (.agg #[])) (.int .i64 coin)) ∧ ∃ U', Kx B w'' lb gm m U' (upL L s (L s ++ [nn])) ∧ Fr lb gm m U U' w' w'') := fun w' b => play B lb gm m cp y l s U L (.iface 94 (.agg #[])) coin nn w' (CH.out.next b) (KH.out.next b) hs m2 cpm hl8
      clear HR hfB hin
      go_enter Try.func67, Try.ntmps67
      go_wp2_with (first | (go_at_call 80; refine h80.mono ?_; rintro e w2 ⟨rfl, hw⟩; subst w2) | (go_at_call 83; refine h83.mono ?_; rintro e w3 ⟨rfl, B3⟩) | (go_at_call 81; refine (h81.out w3 B3).mono ?_; rintro e w4 ⟨rfl, CN, U4, KN, F4⟩))
      go_ret2
      exact ⟨by rw [HRR.out]; rfl, by rw [HRR.out]; exact CN, U4, by rw [HRR.out]; exact KN, (Fr.ofBelow B3).trans F4⟩
    have hfB : (((L s).length : Int) == (y : Int)) = true := by
      have : ((L s).length : Int) = (y : Int) := by omega
      exact beq_iff_eq.2 this
    rw [hfB] at h83
    obtain ⟨k, c2, hk, HRR, HLV⟩ : ∃ (k : Nat) (c2 : Int), k < y ∧ Hid (R1 = (cut (L s) k ++ [nn], c2, false, (L s).getD k 0)) ∧ Hid (∀ v w', (∃ ad cr, v = Value.slice ad y cr) → Calls Try.prog 124 #[.agg #[], v, .int .i64 coin] w' fun e w'' => e = .returned (.tuple #[.int .i64 (k : Int), .int .i64 c2]) ∧ Below w'.heap.size w' w'') := by
      refine ⟨goP y 2 coin, coinP 2 coin, goP_lt _ _ (by omega), ?_, ?_⟩
      · show _ = _
        rw [HR.out]
        unfold stepG
        rw [if_neg hin, if_pos hfull]
      · exact fun v w' _ => leave124 v coin w'
    obtain ⟨ad, cr, hU, hcr0, hga⟩ := row_form KH.out hs
    obtain ⟨g, rfl⟩ := hga (by omega)
    have HU0 : Hid (U s = .slice (some ⟨g, 0, none⟩) (L s).length cr) := hU
    obtain ⟨ln, hln⟩ : ∃ ln, (L s).length = ln := ⟨_, rfl⟩
    have HLN : Hid ((L s).length = ln) := hln
    have HU : Hid (U s = .slice (some ⟨g, 0, none⟩) ln cr) := by show _ = _; rw [hU, hln]
    have hk : k < ln := by omega
    have s0 : (0 : Int) ≤ (s : Int) := by omega
    have s1 : (s : Int) < (m : Int) := by omega
    have hly : ln = y := by omega
    have HLY := Hid.mk hly
    clear HR hfB hin hU hln hfull hly hga
    go_enter Try.func67, Try.ntmps67
    go_wp2_with (first | (go_at_call 80; refine h80.mono ?_; rintro e w2 ⟨rfl, hw⟩; subst w2) | (go_at_call 83; refine h83.mono ?_; rintro e w3 ⟨rfl, B3⟩))
    generalize hWW : w3.drew = WX
    have BX : Below w3.heap.size w3 WX := by rw [← hWW]; exact below_drew (Below.refl _ _)
    have F0 : Fr lb gm m U U w WX := Fr.ofBelow (B3.trans (BX.mono B3.size))
    have CX := (CH.out.next B3).next BX
    have KX := (KH.out.next B3).next BX
    have hcg : WX.cell? ⟨gm, s, none⟩ = some (.slice (some ⟨g, 0, none⟩) ln cr) := by have h := KX.c s hs; rw [HU.out] at h; exact h
    have hlv := HLV.out (.slice (some ⟨g, 0, none⟩) ln cr) WX ⟨_, _, by rw [HLY.out]⟩
    clear BX B3 h80 h83 q2 q3
    refine wp_region_held_drew (S := (fun u => u.cell? ⟨lb, 0, none⟩ = some (.slice (some ⟨gm, 0, none⟩) m cp) ∧ u.cell? ⟨lb, 3, none⟩ = some (.iface 94 (.agg #[])) ∧ u.cell? ⟨gm, s, none⟩ = some (.slice (some ⟨g, 0, none⟩) ln cr))) (by kernel_rfl) (by rw [hWW]; exact ⟨CX.c0, CX.c3, hcg⟩) (fun hH => ?_)
    rw [hWW] at hH ⊢
    clear hWW
    refine wpAnyH_take (i := 0) (oi := { dst := some 48, op := Op.move (Operand.tmp 0), type := 83, pos := "l15_memory.go:326", after := #[{ on := 23, ground := Ground.gcOnly Departure.lateStores }], guard := none }) (v := .pointer (some ⟨lb, 0, none⟩)) rfl (by kernel_rfl) (by kernel_rfl) (by kernel_rfl) (fun _ _ _ h => h) (Or.inl ⟨by rfl, fun w0 hSw => by (go_simp)⟩) hH ?_
    simp only [Act.put, List.setIfInBounds_toArray, List.set_cons_zero, List.set_cons_succ]
    refine wpAnyH_take (i := 1) (oi := { dst := some 49, op := Op.move (Operand.tmp 0), type := 83, pos := "l15_memory.go:326", after := #[], guard := none }) (v := .pointer (some ⟨lb, 0, none⟩)) rfl (by kernel_rfl) (by kernel_rfl) (by kernel_rfl) (fun _ _ _ h => h) (Or.inl ⟨by rfl, fun w0 hSw => by (go_simp)⟩) hH ?_
    simp only [Act.put, List.setIfInBounds_toArray, List.set_cons_zero, List.set_cons_succ]
    refine wpAnyH_take (i := 2) (oi := { dst := some 50, op := Op.nilCheck (Operand.tmp 49), type := 0, pos := "l15_memory.go:326", after := #[{ on := 1, ground := Ground.data }], guard := none }) (v := .pointer (some ⟨lb, 0, none⟩)) rfl (by kernel_rfl) (by kernel_rfl) (by kernel_rfl) (fun _ _ _ h => h) (Or.inl ⟨by rfl, fun w0 hSw => by (go_simp)⟩) hH ?_
    simp only [Act.put, List.setIfInBounds_toArray, List.set_cons_zero, List.set_cons_succ]
    refine wpAnyH_take (i := 3) (oi := { dst := some 51, op := Op.fieldAddr 92 (Operand.tmp 50) 2, type := 0, pos := "l15_memory.go:326", after := #[{ on := 2, ground := Ground.data }], guard := none }) (v := .pointer (some ⟨lb, 3, none⟩)) rfl (by kernel_rfl) (by kernel_rfl) (by kernel_rfl) (fun _ _ _ h => h) (Or.inl ⟨by rfl, fun w0 hSw => by (go_simp)⟩) hH ?_
    simp only [Act.put, List.setIfInBounds_toArray, List.set_cons_zero, List.set_cons_succ]
    refine wpAnyH_take (i := 4) (oi := { dst := some 52, op := Op.load 90 (Operand.tmp 51), type := 90, pos := "l15_memory.go:326", after := #[{ on := 3, ground := Ground.data }], guard := none }) (v := (.iface 94 (.agg #[]))) rfl (by kernel_rfl) (by kernel_rfl) (by kernel_rfl) (fun _ _ _ h => h) (Or.inl ⟨by rfl, fun w0 hSw => by ((have e4 := hSw.2.1); go_simp)⟩) hH ?_
    simp only [Act.put, List.setIfInBounds_toArray, List.set_cons_zero, List.set_cons_succ]
    refine wpAnyH_take (i := 5) (oi := { dst := some 53, op := Op.move (Operand.tmp 0), type := 83, pos := "l15_memory.go:326", after := #[], guard := none }) (v := .pointer (some ⟨lb, 0, none⟩)) rfl (by kernel_rfl) (by kernel_rfl) (by kernel_rfl) (fun _ _ _ h => h) (Or.inl ⟨by rfl, fun w0 hSw => by (go_simp)⟩) hH ?_
    simp only [Act.put, List.setIfInBounds_toArray, List.set_cons_zero, List.set_cons_succ]
    refine wpAnyH_take (i := 6) (oi := { dst := some 54, op := Op.nilCheck (Operand.tmp 53), type := 0, pos := "l15_memory.go:326", after := #[{ on := 5, ground := Ground.data }], guard := none }) (v := .pointer (some ⟨lb, 0, none⟩)) rfl (by kernel_rfl) (by kernel_rfl) (by kernel_rfl) (fun _ _ _ h => h) (Or.inl ⟨by rfl, fun w0 hSw => by (go_simp)⟩) hH ?_
    simp only [Act.put, List.setIfInBounds_toArray, List.set_cons_zero, List.set_cons_succ]
    refine wpAnyH_take (i := 7) (oi := { dst := some 55, op := Op.fieldAddr 92 (Operand.tmp 54) 0, type := 0, pos := "l15_memory.go:326", after := #[{ on := 6, ground := Ground.data }], guard := none }) (v := .pointer (some ⟨lb, 0, none⟩)) rfl (by kernel_rfl) (by kernel_rfl) (by kernel_rfl) (fun _ _ _ h => h) (Or.inl ⟨by rfl, fun w0 hSw => by (go_simp)⟩) hH ?_
    simp only [Act.put, List.setIfInBounds_toArray, List.set_cons_zero, List.set_cons_succ]
    refine wpAnyH_take (i := 8) (oi := { dst := some 56, op := Op.fieldAddr 88 (Operand.tmp 55) 0, type := 0, pos := "l15_memory.go:326", after := #[{ on := 7, ground := Ground.data }], guard := none }) (v := .pointer (some ⟨lb, 0, none⟩)) rfl (by kernel_rfl) (by kernel_rfl) (by kernel_rfl) (fun _ _ _ h => h) (Or.inl ⟨by rfl, fun w0 hSw => by (go_simp)⟩) hH ?_
    simp only [Act.put, List.setIfInBounds_toArray, List.set_cons_zero, List.set_cons_succ]
    refine wpAnyH_take (i := 9) (oi := { dst := some 57, op := Op.load 40 (Operand.tmp 56), type := 40, pos := "l15_memory.go:326", after := #[{ on := 8, ground := Ground.data }], guard := none }) (v := .slice (some ⟨gm, 0, none⟩) m cp) rfl (by kernel_rfl) (by kernel_rfl) (by kernel_rfl) (fun _ _ _ h => h) (Or.inl ⟨by rfl, fun w0 hSw => by ((have e4 := hSw.1); go_simp)⟩) hH ?_
    simp only [Act.put, List.setIfInBounds_toArray, List.set_cons_zero, List.set_cons_succ]
    refine wpAnyH_take (i := 10) (oi := { dst := some 58, op := Op.move (Operand.tmp 7), type := 3, pos := "l15_memory.go:326", after := #[], guard := none }) (v := .int .i64 (s : Int)) rfl (by kernel_rfl) (by kernel_rfl) (by kernel_rfl) (fun _ _ _ h => h) (Or.inl ⟨by rfl, fun w0 hSw => by (go_simp)⟩) hH ?_
    simp only [Act.put, List.setIfInBounds_toArray, List.set_cons_zero, List.set_cons_succ]
    refine wpAnyH_take (i := 11) (oi := { dst := some 59, op := Op.indexAddr 40 (Operand.tmp 57) (Operand.tmp 58), type := 0, pos := "l15_memory.go:326", after := #[{ on := 9, ground := Ground.data }, { on := 10, ground := Ground.data }], guard := none }) (v := .pointer (some ⟨gm, s, none⟩)) rfl (by kernel_rfl) (by kernel_rfl) (by kernel_rfl) (fun _ _ _ h => h) (Or.inl ⟨by rfl, fun w0 hSw => by (go_simp <;> first | (intro h; exfalso; omega) | exact (IntKind.wrap_i64 _).trans (by omega) | omega)⟩) hH ?_
    simp only [Act.put, List.setIfInBounds_toArray, List.set_cons_zero, List.set_cons_succ]
    refine wpAnyH_take (i := 12) (oi := { dst := some 60, op := Op.load 23 (Operand.tmp 59), type := 23, pos := "l15_memory.go:326", after := #[{ on := 11, ground := Ground.data }], guard := none }) (v := .slice (some ⟨g, 0, none⟩) ln cr) rfl (by kernel_rfl) (by kernel_rfl) (by kernel_rfl) (fun _ _ _ h => h) (Or.inl ⟨by rfl, fun w0 hSw => by ((have e4 := hSw.2.2); go_simp)⟩) hH ?_
    simp only [Act.put, List.setIfInBounds_toArray, List.set_cons_zero, List.set_cons_succ]
    refine wpAnyH_take (i := 13) (oi := { dst := some 61, op := Op.move (Operand.tmp 0), type := 83, pos := "l15_memory.go:326", after := #[], guard := none }) (v := .pointer (some ⟨lb, 0, none⟩)) rfl (by kernel_rfl) (by kernel_rfl) (by kernel_rfl) (fun _ _ _ h => h) (Or.inl ⟨by rfl, fun w0 hSw => by (go_simp)⟩) hH ?_
    simp only [Act.put, List.setIfInBounds_toArray, List.set_cons_zero, List.set_cons_succ]
    refine wpAnyH_take (i := 14) (oi := { dst := some 62, op := Op.nilCheck (Operand.tmp 61), type := 0, pos := "l15_memory.go:326", after := #[{ on := 13, ground := Ground.data }], guard := none }) (v := .pointer (some ⟨lb, 0, none⟩)) rfl (by kernel_rfl) (by kernel_rfl) (by kernel_rfl) (fun _ _ _ h => h) (Or.inl ⟨by rfl, fun w0 hSw => by (go_simp)⟩) hH ?_
    simp only [Act.put, List.setIfInBounds_toArray, List.set_cons_zero, List.set_cons_succ]
    refine wpAnyH_take (i := 15) (oi := { dst := some 63, op := Op.fieldAddr 92 (Operand.tmp 62) 3, type := 0, pos := "l15_memory.go:326", after := #[{ on := 14, ground := Ground.data }], guard := none }) (v := .pointer (some ⟨lb, 4, none⟩)) rfl (by kernel_rfl) (by kernel_rfl) (by kernel_rfl) (fun _ _ _ h => h) (Or.inl ⟨by rfl, fun w0 hSw => by (go_simp)⟩) hH ?_
    simp only [Act.put, List.setIfInBounds_toArray, List.set_cons_zero, List.set_cons_succ]
    refine wpAnyH_take (i := 17) (oi := { dst := some 65, op := Op.nilCheck (Operand.tmp 52), type := 90, pos := "l15_memory.go:326", after := #[{ on := 4, ground := Ground.data }], guard := none }) (v := (.iface 94 (.agg #[]))) rfl (by kernel_rfl) (by kernel_rfl) (by kernel_rfl) (fun _ _ _ h => h) (Or.inl ⟨by rfl, fun w0 hSw => by (go_simp)⟩) hH ?_
    simp only [Act.put, List.setIfInBounds_toArray, List.set_cons_zero, List.set_cons_succ]
    refine wpAnyH_take (i := 18) (oi := { dst := some 66, op := Op.move (Operand.tmp 52), type := 90, pos := "l15_memory.go:326", after := #[{ on := 4, ground := Ground.data }, { on := 17, ground := Ground.data }], guard := none }) (v := (.iface 94 (.agg #[]))) rfl (by kernel_rfl) (by kernel_rfl) (by kernel_rfl) (fun _ _ _ h => h) (Or.inl ⟨by rfl, fun w0 hSw => by (go_simp)⟩) hH ?_
    simp only [Act.put, List.setIfInBounds_toArray, List.set_cons_zero, List.set_cons_succ]
    refine wpAnyH_ready (rs := [16]) (by kernel_rfl) (by simp) ?_
    refine (AllReadyH.cons (o := { dst := some 64, op := Op.load 3 (Operand.tmp 63), type := 3, pos := "l15_memory.go:326", after := #[{ on := 15, ground := Ground.data }], guard := none }) rfl (fun K hK => ?_) AllReadyH.nil)
    refine step_val (.int .i64 coin) WX (by rfl) (by have h1 := CX.c4; go_simp) ?_
    simp only [Act.put, List.setIfInBounds_toArray, List.set_cons_zero, List.set_cons_succ]
    refine hK.out _ _ ⟨CX.c0, CX.c3, hcg⟩ (fun hH' => ?_)
    clear hK K
    replace hH := hH'
    clear hH'
    refine wpAnyH_ready (rs := [19]) (by kernel_rfl) (by simp) ?_
    refine (AllReadyH.cons (o := { dst := some 67, op := Op.call { callee := Callee.invoke (Operand.tmp 66) "loop.example/g00053/impl.leaving", args := #[Operand.tmp 60, Operand.tmp 64], argTypes := #[23, 3] }, type := 102, pos := "l15_memory.go:326", after := #[{ on := 18, ground := Ground.data }, { on := 12, ground := Ground.data }, { on := 16, ground := Ground.data }], guard := none }) rfl (fun K hK => ?_) AllReadyH.nil)
    refine step_callC 124 #[.agg #[], .slice (some ⟨g, 0, none⟩) ln cr, .int .i64 coin] (fun z v w' => z = .tuple #[.int .i64 (k : Int), .int .i64 c2] ∧ Below v.heap.size v w') (by rfl) (by go_simp) (hlv.mono fun e w' ⟨h1, h2⟩ => ⟨_, h1, rfl, h2⟩) ?_
    rintro z6 w6 ⟨rfl, B6⟩
    have C6 := CX.next B6
    have K6 := KX.next B6
    have O7 : Only lb w6 (w6.setCell ⟨lb, 4, none⟩ (.int .i64 c2)) := (Only.refl _ _).setCell _ _
    have C7 := C6.s4 (.int .i64 c2)
    have K7 := (K6.head O7).1
    have F7 := (F0.trans (Fr.ofBelow B6)).trans (K6.head O7).2
    have q4 := C6.c4
    have f4 := C6.f 4
    simp only [Act.put, List.setIfInBounds_toArray, List.set_cons_zero, List.set_cons_succ]
    refine hK.out _ _ ⟨C6.c0, C6.c3, cell_nx hcg B6⟩ (fun hH' => ?_)
    clear hK K
    replace hH := hH'
    clear hH'
    refine wpAnyH_take (i := 20) (oi := { dst := some 47, op := Op.move (Operand.tmp 67), type := 102, pos := "l15_memory.go:326", after := #[{ on := 19, ground := Ground.data }], guard := none }) (v := .tuple #[.int .i64 (k : Int), .int .i64 c2]) rfl (by kernel_rfl) (by kernel_rfl) (by kernel_rfl) (fun _ _ _ h => h) (Or.inl ⟨by rfl, fun w0 hSw => by (go_simp)⟩) hH ?_
    simp only [Act.put, List.setIfInBounds_toArray, List.set_cons_zero, List.set_cons_succ]
    refine wpAnyH_take (i := 21) (oi := { dst := some 68, op := Op.extract (Operand.tmp 47) 0, type := 3, pos := "l15_memory.go:326", after := #[{ on := 20, ground := Ground.data }], guard := none }) (v := .int .i64 (k : Int)) rfl (by kernel_rfl) (by kernel_rfl) (by kernel_rfl) (fun _ _ _ h => h) (Or.inl ⟨by rfl, fun w0 hSw => by (go_simp)⟩) hH ?_
    simp only [Act.put, List.setIfInBounds_toArray, List.set_cons_zero, List.set_cons_succ]
    refine wpAnyH_take (i := 22) (oi := { dst := some 69, op := Op.extract (Operand.tmp 47) 1, type := 3, pos := "l15_memory.go:326", after := #[{ on := 20, ground := Ground.data }, { on := 23, ground := Ground.gcOnly Departure.lateStores }], guard := none }) (v := .int .i64 c2) rfl (by kernel_rfl) (by kernel_rfl) (by kernel_rfl) (fun _ _ _ h => h) (Or.inl ⟨by rfl, fun w0 hSw => by (go_simp)⟩) hH ?_
    simp only [Act.put, List.setIfInBounds_toArray, List.set_cons_zero, List.set_cons_succ]
    refine wpAnyH_take (i := 23) (oi := { dst := some 8, op := Op.assign (Operand.tmp 68), type := 3, pos := "l15_memory.go:326", after := #[{ on := 21, ground := Ground.data }, { on := 19, ground := Ground.chain }, { on := 0, ground := Ground.textOnly Departure.lateStores }, { on := 1, ground := Ground.phase }, { on := 2, ground := Ground.phase }, { on := 3, ground := Ground.phase }, { on := 4, ground := Ground.phase }, { on := 5, ground := Ground.phase }, { on := 6, ground := Ground.phase }, { on := 7, ground := Ground.phase }, { on := 8, ground := Ground.phase }, { on := 9, ground := Ground.phase }, { on := 10, ground := Ground.phase }, { on := 11, ground := Ground.phase }, { on := 12, ground := Ground.phase }, { on := 13, ground := Ground.phase }, { on := 14, ground := Ground.phase }, { on := 15, ground := Ground.phase }, { on := 16, ground := Ground.phase }, { on := 17, ground := Ground.phase }, { on := 18, ground := Ground.phase }, { on := 19, ground := Ground.phase }, { on := 20, ground := Ground.phase }, { on := 21, ground := Ground.phase }, { on := 22, ground := Ground.textOnly Departure.lateStores }], guard := none }) (v := .int .i64 (k : Int)) rfl (by kernel_rfl) (by kernel_rfl) (by kernel_rfl) (fun _ _ _ h => h) (Or.inl ⟨by rfl, fun w0 hSw => by (go_simp)⟩) hH ?_
    simp only [Act.put, List.setIfInBounds_toArray, List.set_cons_zero, List.set_cons_succ]
    refine wpAnyH_take (i := 24) (oi := { dst := some 70, op := Op.nilCheck (Operand.tmp 48), type := 0, pos := "l15_memory.go:326", after := #[{ on := 0, ground := Ground.data }, { on := 0, ground := Ground.phase }, { on := 1, ground := Ground.phase }, { on := 2, ground := Ground.phase }, { on := 3, ground := Ground.phase }, { on := 4, ground := Ground.phase }, { on := 5, ground := Ground.phase }, { on := 6, ground := Ground.phase }, { on := 7, ground := Ground.phase }, { on := 8, ground := Ground.phase }, { on := 9, ground := Ground.phase }, { on := 10, ground := Ground.phase }, { on := 11, ground := Ground.phase }, { on := 12, ground := Ground.phase }, { on := 13, ground := Ground.phase }, { on := 14, ground := Ground.phase }, { on := 15, ground := Ground.phase }, { on := 16, ground := Ground.phase }, { on := 17, ground := Ground.phase }, { on := 18, ground := Ground.phase }, { on := 19, ground := Ground.phase }, { on := 20, ground := Ground.phase }, { on := 21, ground := Ground.phase }, { on := 22, ground := Ground.phase }, { on := 23, ground := Ground.phase }], guard := none }) (v := .pointer (some ⟨lb, 0, none⟩)) rfl (by kernel_rfl) (by kernel_rfl) (by kernel_rfl) (fun _ _ _ h => h) (Or.inl ⟨by rfl, fun w0 hSw => by (go_simp)⟩) hH ?_
    simp only [Act.put, List.setIfInBounds_toArray, List.set_cons_zero, List.set_cons_succ]
    refine wpAnyH_take (i := 25) (oi := { dst := some 71, op := Op.fieldAddr 92 (Operand.tmp 70) 3, type := 0, pos := "l15_memory.go:326", after := #[{ on := 24, ground := Ground.data }, { on := 0, ground := Ground.phase }, { on := 1, ground := Ground.phase }, { on := 2, ground := Ground.phase }, { on := 3, ground := Ground.phase }, { on := 4, ground := Ground.phase }, { on := 5, ground := Ground.phase }, { on := 6, ground := Ground.phase }, { on := 7, ground := Ground.phase }, { on := 8, ground := Ground.phase }, { on := 9, ground := Ground.phase }, { on := 10, ground := Ground.phase }, { on := 11, ground := Ground.phase }, { on := 12, ground := Ground.phase }, { on := 13, ground := Ground.phase }, { on := 14, ground := Ground.phase }, { on := 15, ground := Ground.phase }, { on := 16, ground := Ground.phase }, { on := 17, ground := Ground.phase }, { on := 18, ground := Ground.phase }, { on := 19, ground := Ground.phase }, { on := 20, ground := Ground.phase }, { on := 21, ground := Ground.phase }, { on := 22, ground := Ground.phase }, { on := 23, ground := Ground.phase }], guard := none }) (v := .pointer (some ⟨lb, 4, none⟩)) rfl (by kernel_rfl) (by kernel_rfl) (by kernel_rfl) (fun _ _ _ h => h) (Or.inl ⟨by rfl, fun w0 hSw => by (go_simp)⟩) hH ?_
    simp only [Act.put, List.setIfInBounds_toArray, List.set_cons_zero, List.set_cons_succ]
    refine wpAnyH_ready (rs := [26]) (by kernel_rfl) (by simp) ?_
    refine (AllReadyH.cons (o := { dst := none, op := Op.store 3 (Operand.tmp 71) (Operand.tmp 69), type := 0, pos := "l15_memory.go:326", after := #[{ on := 25, ground := Ground.data }, { on := 22, ground := Ground.data }, { on := 23, ground := Ground.chain }, { on := 0, ground := Ground.phase }, { on := 1, ground := Ground.phase }, { on := 2, ground := Ground.phase }, { on := 3, ground := Ground.phase }, { on := 4, ground := Ground.phase }, { on := 5, ground := Ground.phase }, { on := 6, ground := Ground.phase }, { on := 7, ground := Ground.phase }, { on := 8, ground := Ground.phase }, { on := 9, ground := Ground.phase }, { on := 10, ground := Ground.phase }, { on := 11, ground := Ground.phase }, { on := 12, ground := Ground.phase }, { on := 13, ground := Ground.phase }, { on := 14, ground := Ground.phase }, { on := 15, ground := Ground.phase }, { on := 16, ground := Ground.phase }, { on := 17, ground := Ground.phase }, { on := 18, ground := Ground.phase }, { on := 19, ground := Ground.phase }, { on := 20, ground := Ground.phase }, { on := 21, ground := Ground.phase }, { on := 22, ground := Ground.phase }, { on := 23, ground := Ground.phase }], guard := none }) rfl (fun K hK => ?_) AllReadyH.nil)
    refine step_skip (w6.setCell ⟨lb, 4, none⟩ (.int .i64 c2)) (by rfl) (by go_simp) ?_
    refine hK.out _ _ ⟨C7.c0, C7.c3, by have h := K7.c s hs; rw [HU.out] at h; exact h⟩ (fun hH' => ?_)
    clear hK K hH' hH
    refine wpAnyH_done (by kernel_rfl) ?_ _
    clear q4 f4 C6 K6 O7 B6 CX KX hcg
    have h82 := ptake B lb gm m cp y l s U L (.iface 94 (.agg #[])) c2 k _ C7 K7 hs m2 cpm hl8 (by rw [HLN.out]; exact hk)
    generalize w6.setCell ⟨lb, 4, none⟩ (.int .i64 c2) = W7 at C7 K7 F7 h82 ⊢
    go_wp2_with (first | (go_at_call 82; refine h82.mono ?_; rintro e w8 ⟨rfl, C8, U8, K8, F8⟩; (have h81 := play B lb gm m cp y l s U8 (upL L s (cut (L s) k)) (.iface 94 (.agg #[])) c2 nn w8 C8 K8 hs m2 cpm (by rw [upL_at, cut_len _ _ (by rw [HLN.out]; exact hk)]; omega)); rw [upL_at, upL_two] at h81) | (go_at_call 81; refine h81.mono ?_; rintro e w9 ⟨rfl, CN, U9, KN, F9⟩))
    go_ret2
    exact ⟨by rw [HRR.out]; rfl, by rw [HRR.out]; exact CN, U9, by rw [HRR.out]; exact KN, F7.trans (F8.trans F9)⟩
set_option maxRecDepth 100000 in
set_option maxHeartbeats 1000000 in
theorem pread3 (B lb gm m cp y l s : Nat) (U : Nat → Value) (L : Nat → List Int) (coin pl nn : Int) (w : World) (C : C5 w lb (.slice (some ⟨gm, 0, none⟩) m cp) (.int .i64 (y : Int)) (.int .i64 (l : Int)) (.iface 115 (.agg #[])) (.int .i64 coin)) (K : Kx B w lb gm m U L) (hs : s < m) (m2 : m ≤ 64) (cpm : m ≤ cp) (hd : pl.tdiv (l : Int) = nn) (l1 : 1 ≤ l) (hm : nn.tmod (m : Int) = (s : Int)) (n0 : 0 ≤ nn) (n1 : nn ≤ 1000000) (hl8 : (L s).length ≤ 8) (y1 : 1 ≤ y) (y8 : y ≤ 8) (a0 : 0 ≤ pl) (a1 : pl ≤ 1000000) (hco : 0 ≤ coin ∧ coin < 65536) : Calls Try.prog 67 #[.pointer (some ⟨lb, 0, none⟩), .int .i64 pl] w fun e w' => e = .returned (.tuple #[.bool (step1 y 3 coin (L s) nn).2.2.1, .int .i64 (step1 y 3 coin (L s) nn).2.2.2]) ∧ (C5 w' lb (.slice (some ⟨gm, 0, none⟩) m cp) (.int .i64 (y : Int)) (.int .i64 (l : Int)) (.iface 115 (.agg #[])) (.int .i64 (step1 y 3 coin (L s) nn).2.1)) ∧ ∃ U', Kx B w' lb gm m U' (upL L s (step1 y 3 coin (L s) nn).1) ∧ Fr lb gm m U U' w w' := by
  have h80 := pfind B lb gm m cp y l s U L (.iface 115 (.agg #[])) coin nn w C K hs m2 cpm hm n0 n1 hl8
  have h83 := pfull B lb gm m cp y l s U L (.iface 115 (.agg #[])) coin w C K hs m2 cpm
  have q2 := C.c2
  have q3 := C.c3
  have l0 : ¬ (l : Int) = 0 := by omega
  have hmet1 : ∀ w : World, (method 251 115 (Value.agg #[]) "loop.example/g00053/impl.movesHit").run Try.prog w = .ok (125, .agg #[]) w := fun w => by kernel_rfl
  have hmet2 : ∀ w : World, (method 251 115 (Value.agg #[]) "loop.example/g00053/impl.leaving").run Try.prog w = .ok (129, .agg #[]) w := fun w => by kernel_rfl
  have KH := Hid.mk K
  have CH := Hid.mk C
  have HR : Hid (step1 y 3 coin (L s) nn = stepG y (decide ((3 : Int) = 1)) (goP y 3 coin) (coinP 3 coin) coin (L s) nn) := step1_G y 3 coin (L s) nn
  generalize step1 y 3 coin (L s) nn = R1 at HR ⊢
  clear C K
  by_cases hin : nn ∈ L s
  case pos =>
    obtain ⟨hix, hk, hgk⟩ := idx_hit hin
    rw [hix] at h80
    have HRR : Hid (R1 = (L s, coin, true, -1)) := by show _ = _; rw [HR.out]; unfold stepG; rw [if_pos hin]; rfl
    generalize (L s).idxOf nn = k at h80 hk hgk HRR
    have k0 : (0 : Int) ≤ (k : Int) := by omega
    clear hix hin HR h83
    · go_enter Try.func67, Try.ntmps67
      go_wp2_with (first | (go_at_call 80; refine h80.mono ?_; rintro e w2 ⟨rfl, hw⟩; subst w2) | (go_at_call 125; refine (moves3 w).mono ?_; rintro e w3 ⟨rfl, B3⟩))
      go_ret2
      exact ⟨by rw [HRR.out]; rfl, by rw [HRR.out]; exact CH.out.next B3, U, by rw [HRR.out]; show Kx _ _ _ _ _ _ (upL L s (L s)); rw [upL_self]; exact KH.out.next B3, Fr.ofBelow B3⟩
  case neg =>
    rw [idx_miss hin] at h80
    by_cases hfull : (L s).length = y
    case neg =>
      have hfB : (((L s).length : Int) == (y : Int)) = false := by
        have : ¬ ((L s).length : Int) = (y : Int) := by omega
        exact beq_false_of_ne this
      rw [hfB] at h83
      have HRR : Hid (R1 = (L s ++ [nn], coin, false, -1)) := by show _ = _; rw [HR.out]; unfold stepG; rw [if_neg hin, if_neg hfull]
      have h81 : Hid (∀ w', Below w.heap.size w w' → Calls Try.prog 81 #[.pointer (some ⟨lb, 0, none⟩), .int .i64 (s : Int), .int .i64 nn] w' fun e w'' => e = .returned (.tuple #[]) ∧ (C5 w'' lb (.slice (some ⟨gm, 0, none⟩) m cp) (.int .i64 (y : Int)) (.int .i64 (l : Int)) (.iface 115 (.agg #[])) (.int .i64 coin)) ∧ ∃ U', Kx B w'' lb gm m U' (upL L s (L s ++ [nn])) ∧ Fr lb gm m U U' w' w'') := fun w' b => play B lb gm m cp y l s U L (.iface 115 (.agg #[])) coin nn w' (CH.out.next b) (KH.out.next b) hs m2 cpm hl8
      clear HR hfB hin
      go_enter Try.func67, Try.ntmps67
      go_wp2_with (first | (go_at_call 80; refine h80.mono ?_; rintro e w2 ⟨rfl, hw⟩; subst w2) | (go_at_call 83; refine h83.mono ?_; rintro e w3 ⟨rfl, B3⟩) | (go_at_call 81; refine (h81.out w3 B3).mono ?_; rintro e w4 ⟨rfl, CN, U4, KN, F4⟩))
      go_ret2
      exact ⟨by rw [HRR.out]; rfl, by rw [HRR.out]; exact CN, U4, by rw [HRR.out]; exact KN, (Fr.ofBelow B3).trans F4⟩
    have hfB : (((L s).length : Int) == (y : Int)) = true := by
      have : ((L s).length : Int) = (y : Int) := by omega
      exact beq_iff_eq.2 this
    rw [hfB] at h83
    obtain ⟨k, c2, hk, HRR, HLV⟩ : ∃ (k : Nat) (c2 : Int), k < y ∧ Hid (R1 = (cut (L s) k ++ [nn], c2, false, (L s).getD k 0)) ∧ Hid (∀ v w', (∃ ad cr, v = Value.slice ad y cr) → Calls Try.prog 129 #[.agg #[], v, .int .i64 coin] w' fun e w'' => e = .returned (.tuple #[.int .i64 (k : Int), .int .i64 c2]) ∧ Below w'.heap.size w' w'') := by
      refine ⟨goP y 3 coin, coinP 3 coin, goP_lt _ _ (by omega), ?_, ?_⟩
      · show _ = _
        rw [HR.out]
        unfold stepG
        rw [if_neg hin, if_pos hfull]
      · rintro v w' ⟨ad, cr, rfl⟩; exact leave129 y ad cr coin w' hco (by omega) y8
    obtain ⟨ad, cr, hU, hcr0, hga⟩ := row_form KH.out hs
    obtain ⟨g, rfl⟩ := hga (by omega)
    have HU0 : Hid (U s = .slice (some ⟨g, 0, none⟩) (L s).length cr) := hU
    obtain ⟨ln, hln⟩ : ∃ ln, (L s).length = ln := ⟨_, rfl⟩
    have HLN : Hid ((L s).length = ln) := hln
    have HU : Hid (U s = .slice (some ⟨g, 0, none⟩) ln cr) := by show _ = _; rw [hU, hln]
    have hk : k < ln := by omega
    have s0 : (0 : Int) ≤ (s : Int) := by omega
    have s1 : (s : Int) < (m : Int) := by omega
    have hly : ln = y := by omega
    have HLY := Hid.mk hly
    clear HR hfB hin hU hln hfull hly hga
    go_enter Try.func67, Try.ntmps67
    go_wp2_with (first | (go_at_call 80; refine h80.mono ?_; rintro e w2 ⟨rfl, hw⟩; subst w2) | (go_at_call 83; refine h83.mono ?_; rintro e w3 ⟨rfl, B3⟩))
    generalize hWW : w3.drew = WX
    have BX : Below w3.heap.size w3 WX := by rw [← hWW]; exact below_drew (Below.refl _ _)
    have F0 : Fr lb gm m U U w WX := Fr.ofBelow (B3.trans (BX.mono B3.size))
    have CX := (CH.out.next B3).next BX
    have KX := (KH.out.next B3).next BX
    have hcg : WX.cell? ⟨gm, s, none⟩ = some (.slice (some ⟨g, 0, none⟩) ln cr) := by have h := KX.c s hs; rw [HU.out] at h; exact h
    have hlv := HLV.out (.slice (some ⟨g, 0, none⟩) ln cr) WX ⟨_, _, by rw [HLY.out]⟩
    clear BX B3 h80 h83 q2 q3
    refine wp_region_held_drew (S := (fun u => u.cell? ⟨lb, 0, none⟩ = some (.slice (some ⟨gm, 0, none⟩) m cp) ∧ u.cell? ⟨lb, 3, none⟩ = some (.iface 115 (.agg #[])) ∧ u.cell? ⟨gm, s, none⟩ = some (.slice (some ⟨g, 0, none⟩) ln cr))) (by kernel_rfl) (by rw [hWW]; exact ⟨CX.c0, CX.c3, hcg⟩) (fun hH => ?_)
    rw [hWW] at hH ⊢
    clear hWW
    refine wpAnyH_take (i := 0) (oi := { dst := some 48, op := Op.move (Operand.tmp 0), type := 83, pos := "l15_memory.go:326", after := #[{ on := 23, ground := Ground.gcOnly Departure.lateStores }], guard := none }) (v := .pointer (some ⟨lb, 0, none⟩)) rfl (by kernel_rfl) (by kernel_rfl) (by kernel_rfl) (fun _ _ _ h => h) (Or.inl ⟨by rfl, fun w0 hSw => by (go_simp)⟩) hH ?_
    simp only [Act.put, List.setIfInBounds_toArray, List.set_cons_zero, List.set_cons_succ]
    refine wpAnyH_take (i := 1) (oi := { dst := some 49, op := Op.move (Operand.tmp 0), type := 83, pos := "l15_memory.go:326", after := #[], guard := none }) (v := .pointer (some ⟨lb, 0, none⟩)) rfl (by kernel_rfl) (by kernel_rfl) (by kernel_rfl) (fun _ _ _ h => h) (Or.inl ⟨by rfl, fun w0 hSw => by (go_simp)⟩) hH ?_
    simp only [Act.put, List.setIfInBounds_toArray, List.set_cons_zero, List.set_cons_succ]
    refine wpAnyH_take (i := 2) (oi := { dst := some 50, op := Op.nilCheck (Operand.tmp 49), type := 0, pos := "l15_memory.go:326", after := #[{ on := 1, ground := Ground.data }], guard := none }) (v := .pointer (some ⟨lb, 0, none⟩)) rfl (by kernel_rfl) (by kernel_rfl) (by kernel_rfl) (fun _ _ _ h => h) (Or.inl ⟨by rfl, fun w0 hSw => by (go_simp)⟩) hH ?_
    simp only [Act.put, List.setIfInBounds_toArray, List.set_cons_zero, List.set_cons_succ]
    refine wpAnyH_take (i := 3) (oi := { dst := some 51, op := Op.fieldAddr 92 (Operand.tmp 50) 2, type := 0, pos := "l15_memory.go:326", after := #[{ on := 2, ground := Ground.data }], guard := none }) (v := .pointer (some ⟨lb, 3, none⟩)) rfl (by kernel_rfl) (by kernel_rfl) (by kernel_rfl) (fun _ _ _ h => h) (Or.inl ⟨by rfl, fun w0 hSw => by (go_simp)⟩) hH ?_
    simp only [Act.put, List.setIfInBounds_toArray, List.set_cons_zero, List.set_cons_succ]
    refine wpAnyH_take (i := 4) (oi := { dst := some 52, op := Op.load 90 (Operand.tmp 51), type := 90, pos := "l15_memory.go:326", after := #[{ on := 3, ground := Ground.data }], guard := none }) (v := (.iface 115 (.agg #[]))) rfl (by kernel_rfl) (by kernel_rfl) (by kernel_rfl) (fun _ _ _ h => h) (Or.inl ⟨by rfl, fun w0 hSw => by ((have e4 := hSw.2.1); go_simp)⟩) hH ?_
    simp only [Act.put, List.setIfInBounds_toArray, List.set_cons_zero, List.set_cons_succ]
    refine wpAnyH_take (i := 5) (oi := { dst := some 53, op := Op.move (Operand.tmp 0), type := 83, pos := "l15_memory.go:326", after := #[], guard := none }) (v := .pointer (some ⟨lb, 0, none⟩)) rfl (by kernel_rfl) (by kernel_rfl) (by kernel_rfl) (fun _ _ _ h => h) (Or.inl ⟨by rfl, fun w0 hSw => by (go_simp)⟩) hH ?_
    simp only [Act.put, List.setIfInBounds_toArray, List.set_cons_zero, List.set_cons_succ]
    refine wpAnyH_take (i := 6) (oi := { dst := some 54, op := Op.nilCheck (Operand.tmp 53), type := 0, pos := "l15_memory.go:326", after := #[{ on := 5, ground := Ground.data }], guard := none }) (v := .pointer (some ⟨lb, 0, none⟩)) rfl (by kernel_rfl) (by kernel_rfl) (by kernel_rfl) (fun _ _ _ h => h) (Or.inl ⟨by rfl, fun w0 hSw => by (go_simp)⟩) hH ?_
    simp only [Act.put, List.setIfInBounds_toArray, List.set_cons_zero, List.set_cons_succ]
    refine wpAnyH_take (i := 7) (oi := { dst := some 55, op := Op.fieldAddr 92 (Operand.tmp 54) 0, type := 0, pos := "l15_memory.go:326", after := #[{ on := 6, ground := Ground.data }], guard := none }) (v := .pointer (some ⟨lb, 0, none⟩)) rfl (by kernel_rfl) (by kernel_rfl) (by kernel_rfl) (fun _ _ _ h => h) (Or.inl ⟨by rfl, fun w0 hSw => by (go_simp)⟩) hH ?_
    simp only [Act.put, List.setIfInBounds_toArray, List.set_cons_zero, List.set_cons_succ]
    refine wpAnyH_take (i := 8) (oi := { dst := some 56, op := Op.fieldAddr 88 (Operand.tmp 55) 0, type := 0, pos := "l15_memory.go:326", after := #[{ on := 7, ground := Ground.data }], guard := none }) (v := .pointer (some ⟨lb, 0, none⟩)) rfl (by kernel_rfl) (by kernel_rfl) (by kernel_rfl) (fun _ _ _ h => h) (Or.inl ⟨by rfl, fun w0 hSw => by (go_simp)⟩) hH ?_
    simp only [Act.put, List.setIfInBounds_toArray, List.set_cons_zero, List.set_cons_succ]
    refine wpAnyH_take (i := 9) (oi := { dst := some 57, op := Op.load 40 (Operand.tmp 56), type := 40, pos := "l15_memory.go:326", after := #[{ on := 8, ground := Ground.data }], guard := none }) (v := .slice (some ⟨gm, 0, none⟩) m cp) rfl (by kernel_rfl) (by kernel_rfl) (by kernel_rfl) (fun _ _ _ h => h) (Or.inl ⟨by rfl, fun w0 hSw => by ((have e4 := hSw.1); go_simp)⟩) hH ?_
    simp only [Act.put, List.setIfInBounds_toArray, List.set_cons_zero, List.set_cons_succ]
    refine wpAnyH_take (i := 10) (oi := { dst := some 58, op := Op.move (Operand.tmp 7), type := 3, pos := "l15_memory.go:326", after := #[], guard := none }) (v := .int .i64 (s : Int)) rfl (by kernel_rfl) (by kernel_rfl) (by kernel_rfl) (fun _ _ _ h => h) (Or.inl ⟨by rfl, fun w0 hSw => by (go_simp)⟩) hH ?_
    simp only [Act.put, List.setIfInBounds_toArray, List.set_cons_zero, List.set_cons_succ]
    refine wpAnyH_take (i := 11) (oi := { dst := some 59, op := Op.indexAddr 40 (Operand.tmp 57) (Operand.tmp 58), type := 0, pos := "l15_memory.go:326", after := #[{ on := 9, ground := Ground.data }, { on := 10, ground := Ground.data }], guard := none }) (v := .pointer (some ⟨gm, s, none⟩)) rfl (by kernel_rfl) (by kernel_rfl) (by kernel_rfl) (fun _ _ _ h => h) (Or.inl ⟨by rfl, fun w0 hSw => by (go_simp <;> first | (intro h; exfalso; omega) | exact (IntKind.wrap_i64 _).trans (by omega) | omega)⟩) hH ?_
    simp only [Act.put, List.setIfInBounds_toArray, List.set_cons_zero, List.set_cons_succ]
    refine wpAnyH_take (i := 12) (oi := { dst := some 60, op := Op.load 23 (Operand.tmp 59), type := 23, pos := "l15_memory.go:326", after := #[{ on := 11, ground := Ground.data }], guard := none }) (v := .slice (some ⟨g, 0, none⟩) ln cr) rfl (by kernel_rfl) (by kernel_rfl) (by kernel_rfl) (fun _ _ _ h => h) (Or.inl ⟨by rfl, fun w0 hSw => by ((have e4 := hSw.2.2); go_simp)⟩) hH ?_
    simp only [Act.put, List.setIfInBounds_toArray, List.set_cons_zero, List.set_cons_succ]
    refine wpAnyH_take (i := 13) (oi := { dst := some 61, op := Op.move (Operand.tmp 0), type := 83, pos := "l15_memory.go:326", after := #[], guard := none }) (v := .pointer (some ⟨lb, 0, none⟩)) rfl (by kernel_rfl) (by kernel_rfl) (by kernel_rfl) (fun _ _ _ h => h) (Or.inl ⟨by rfl, fun w0 hSw => by (go_simp)⟩) hH ?_
    simp only [Act.put, List.setIfInBounds_toArray, List.set_cons_zero, List.set_cons_succ]
    refine wpAnyH_take (i := 14) (oi := { dst := some 62, op := Op.nilCheck (Operand.tmp 61), type := 0, pos := "l15_memory.go:326", after := #[{ on := 13, ground := Ground.data }], guard := none }) (v := .pointer (some ⟨lb, 0, none⟩)) rfl (by kernel_rfl) (by kernel_rfl) (by kernel_rfl) (fun _ _ _ h => h) (Or.inl ⟨by rfl, fun w0 hSw => by (go_simp)⟩) hH ?_
    simp only [Act.put, List.setIfInBounds_toArray, List.set_cons_zero, List.set_cons_succ]
    refine wpAnyH_take (i := 15) (oi := { dst := some 63, op := Op.fieldAddr 92 (Operand.tmp 62) 3, type := 0, pos := "l15_memory.go:326", after := #[{ on := 14, ground := Ground.data }], guard := none }) (v := .pointer (some ⟨lb, 4, none⟩)) rfl (by kernel_rfl) (by kernel_rfl) (by kernel_rfl) (fun _ _ _ h => h) (Or.inl ⟨by rfl, fun w0 hSw => by (go_simp)⟩) hH ?_
    simp only [Act.put, List.setIfInBounds_toArray, List.set_cons_zero, List.set_cons_succ]
    refine wpAnyH_take (i := 17) (oi := { dst := some 65, op := Op.nilCheck (Operand.tmp 52), type := 90, pos := "l15_memory.go:326", after := #[{ on := 4, ground := Ground.data }], guard := none }) (v := (.iface 115 (.agg #[]))) rfl (by kernel_rfl) (by kernel_rfl) (by kernel_rfl) (fun _ _ _ h => h) (Or.inl ⟨by rfl, fun w0 hSw => by (go_simp)⟩) hH ?_
    simp only [Act.put, List.setIfInBounds_toArray, List.set_cons_zero, List.set_cons_succ]
    refine wpAnyH_take (i := 18) (oi := { dst := some 66, op := Op.move (Operand.tmp 52), type := 90, pos := "l15_memory.go:326", after := #[{ on := 4, ground := Ground.data }, { on := 17, ground := Ground.data }], guard := none }) (v := (.iface 115 (.agg #[]))) rfl (by kernel_rfl) (by kernel_rfl) (by kernel_rfl) (fun _ _ _ h => h) (Or.inl ⟨by rfl, fun w0 hSw => by (go_simp)⟩) hH ?_
    simp only [Act.put, List.setIfInBounds_toArray, List.set_cons_zero, List.set_cons_succ]
    refine wpAnyH_ready (rs := [16]) (by kernel_rfl) (by simp) ?_
    refine (AllReadyH.cons (o := { dst := some 64, op := Op.load 3 (Operand.tmp 63), type := 3, pos := "l15_memory.go:326", after := #[{ on := 15, ground := Ground.data }], guard := none }) rfl (fun K hK => ?_) AllReadyH.nil)
    refine step_val (.int .i64 coin) WX (by rfl) (by have h1 := CX.c4; go_simp) ?_
    simp only [Act.put, List.setIfInBounds_toArray, List.set_cons_zero, List.set_cons_succ]
    refine hK.out _ _ ⟨CX.c0, CX.c3, hcg⟩ (fun hH' => ?_)
    clear hK K
    replace hH := hH'
    clear hH'
    refine wpAnyH_ready (rs := [19]) (by kernel_rfl) (by simp) ?_
    refine (AllReadyH.cons (o := { dst := some 67, op := Op.call { callee := Callee.invoke (Operand.tmp 66) "loop.example/g00053/impl.leaving", args := #[Operand.tmp 60, Operand.tmp 64], argTypes := #[23, 3] }, type := 102, pos := "l15_memory.go:326", after := #[{ on := 18, ground := Ground.data }, { on := 12, ground := Ground.data }, { on := 16, ground := Ground.data }], guard := none }) rfl (fun K hK => ?_) AllReadyH.nil)
    refine step_callC 129 #[.agg #[], .slice (some ⟨g, 0, none⟩) ln cr, .int .i64 coin] (fun z v w' => z = .tuple #[.int .i64 (k : Int), .int .i64 c2] ∧ Below v.heap.size v w') (by rfl) (by go_simp) (hlv.mono fun e w' ⟨h1, h2⟩ => ⟨_, h1, rfl, h2⟩) ?_
    rintro z6 w6 ⟨rfl, B6⟩
    have C6 := CX.next B6
    have K6 := KX.next B6
    have O7 : Only lb w6 (w6.setCell ⟨lb, 4, none⟩ (.int .i64 c2)) := (Only.refl _ _).setCell _ _
    have C7 := C6.s4 (.int .i64 c2)
    have K7 := (K6.head O7).1
    have F7 := (F0.trans (Fr.ofBelow B6)).trans (K6.head O7).2
    have q4 := C6.c4
    have f4 := C6.f 4
    simp only [Act.put, List.setIfInBounds_toArray, List.set_cons_zero, List.set_cons_succ]
    refine hK.out _ _ ⟨C6.c0, C6.c3, cell_nx hcg B6⟩ (fun hH' => ?_)
    clear hK K
    replace hH := hH'
    clear hH'
    refine wpAnyH_take (i := 20) (oi := { dst := some 47, op := Op.move (Operand.tmp 67), type := 102, pos := "l15_memory.go:326", after := #[{ on := 19, ground := Ground.data }], guard := none }) (v := .tuple #[.int .i64 (k : Int), .int .i64 c2]) rfl (by kernel_rfl) (by kernel_rfl) (by kernel_rfl) (fun _ _ _ h => h) (Or.inl ⟨by rfl, fun w0 hSw => by (go_simp)⟩) hH ?_
    simp only [Act.put, List.setIfInBounds_toArray, List.set_cons_zero, List.set_cons_succ]
    refine wpAnyH_take (i := 21) (oi := { dst := some 68, op := Op.extract (Operand.tmp 47) 0, type := 3, pos := "l15_memory.go:326", after := #[{ on := 20, ground := Ground.data }], guard := none }) (v := .int .i64 (k : Int)) rfl (by kernel_rfl) (by kernel_rfl) (by kernel_rfl) (fun _ _ _ h => h) (Or.inl ⟨by rfl, fun w0 hSw => by (go_simp)⟩) hH ?_
    simp only [Act.put, List.setIfInBounds_toArray, List.set_cons_zero, List.set_cons_succ]
    refine wpAnyH_take (i := 22) (oi := { dst := some 69, op := Op.extract (Operand.tmp 47) 1, type := 3, pos := "l15_memory.go:326", after := #[{ on := 20, ground := Ground.data }, { on := 23, ground := Ground.gcOnly Departure.lateStores }], guard := none }) (v := .int .i64 c2) rfl (by kernel_rfl) (by kernel_rfl) (by kernel_rfl) (fun _ _ _ h => h) (Or.inl ⟨by rfl, fun w0 hSw => by (go_simp)⟩) hH ?_
    simp only [Act.put, List.setIfInBounds_toArray, List.set_cons_zero, List.set_cons_succ]
    refine wpAnyH_take (i := 23) (oi := { dst := some 8, op := Op.assign (Operand.tmp 68), type := 3, pos := "l15_memory.go:326", after := #[{ on := 21, ground := Ground.data }, { on := 19, ground := Ground.chain }, { on := 0, ground := Ground.textOnly Departure.lateStores }, { on := 1, ground := Ground.phase }, { on := 2, ground := Ground.phase }, { on := 3, ground := Ground.phase }, { on := 4, ground := Ground.phase }, { on := 5, ground := Ground.phase }, { on := 6, ground := Ground.phase }, { on := 7, ground := Ground.phase }, { on := 8, ground := Ground.phase }, { on := 9, ground := Ground.phase }, { on := 10, ground := Ground.phase }, { on := 11, ground := Ground.phase }, { on := 12, ground := Ground.phase }, { on := 13, ground := Ground.phase }, { on := 14, ground := Ground.phase }, { on := 15, ground := Ground.phase }, { on := 16, ground := Ground.phase }, { on := 17, ground := Ground.phase }, { on := 18, ground := Ground.phase }, { on := 19, ground := Ground.phase }, { on := 20, ground := Ground.phase }, { on := 21, ground := Ground.phase }, { on := 22, ground := Ground.textOnly Departure.lateStores }], guard := none }) (v := .int .i64 (k : Int)) rfl (by kernel_rfl) (by kernel_rfl) (by kernel_rfl) (fun _ _ _ h => h) (Or.inl ⟨by rfl, fun w0 hSw => by (go_simp)⟩) hH ?_
    simp only [Act.put, List.setIfInBounds_toArray, List.set_cons_zero, List.set_cons_succ]
    refine wpAnyH_take (i := 24) (oi := { dst := some 70, op := Op.nilCheck (Operand.tmp 48), type := 0, pos := "l15_memory.go:326", after := #[{ on := 0, ground := Ground.data }, { on := 0, ground := Ground.phase }, { on := 1, ground := Ground.phase }, { on := 2, ground := Ground.phase }, { on := 3, ground := Ground.phase }, { on := 4, ground := Ground.phase }, { on := 5, ground := Ground.phase }, { on := 6, ground := Ground.phase }, { on := 7, ground := Ground.phase }, { on := 8, ground := Ground.phase }, { on := 9, ground := Ground.phase }, { on := 10, ground := Ground.phase }, { on := 11, ground := Ground.phase }, { on := 12, ground := Ground.phase }, { on := 13, ground := Ground.phase }, { on := 14, ground := Ground.phase }, { on := 15, ground := Ground.phase }, { on := 16, ground := Ground.phase }, { on := 17, ground := Ground.phase }, { on := 18, ground := Ground.phase }, { on := 19, ground := Ground.phase }, { on := 20, ground := Ground.phase }, { on := 21, ground := Ground.phase }, { on := 22, ground := Ground.phase }, { on := 23, ground := Ground.phase }], guard := none }) (v := .pointer (some ⟨lb, 0, none⟩)) rfl (by kernel_rfl) (by kernel_rfl) (by kernel_rfl) (fun _ _ _ h => h) (Or.inl ⟨by rfl, fun w0 hSw => by (go_simp)⟩) hH ?_
    simp only [Act.put, List.setIfInBounds_toArray, List.set_cons_zero, List.set_cons_succ]
    refine wpAnyH_take (i := 25) (oi := { dst := some 71, op := Op.fieldAddr 92 (Operand.tmp 70) 3, type := 0, pos := "l15_memory.go:326", after := #[{ on := 24, ground := Ground.data }, { on := 0, ground := Ground.phase }, { on := 1, ground := Ground.phase }, { on := 2, ground := Ground.phase }, { on := 3, ground := Ground.phase }, { on := 4, ground := Ground.phase }, { on := 5, ground := Ground.phase }, { on := 6, ground := Ground.phase }, { on := 7, ground := Ground.phase }, { on := 8, ground := Ground.phase }, { on := 9, ground := Ground.phase }, { on := 10, ground := Ground.phase }, { on := 11, ground := Ground.phase }, { on := 12, ground := Ground.phase }, { on := 13, ground := Ground.phase }, { on := 14, ground := Ground.phase }, { on := 15, ground := Ground.phase }, { on := 16, ground := Ground.phase }, { on := 17, ground := Ground.phase }, { on := 18, ground := Ground.phase }, { on := 19, ground := Ground.phase }, { on := 20, ground := Ground.phase }, { on := 21, ground := Ground.phase }, { on := 22, ground := Ground.phase }, { on := 23, ground := Ground.phase }], guard := none }) (v := .pointer (some ⟨lb, 4, none⟩)) rfl (by kernel_rfl) (by kernel_rfl) (by kernel_rfl) (fun _ _ _ h => h) (Or.inl ⟨by rfl, fun w0 hSw => by (go_simp)⟩) hH ?_
    simp only [Act.put, List.setIfInBounds_toArray, List.set_cons_zero, List.set_cons_succ]
    refine wpAnyH_ready (rs := [26]) (by kernel_rfl) (by simp) ?_
    refine (AllReadyH.cons (o := { dst := none, op := Op.store 3 (Operand.tmp 71) (Operand.tmp 69), type := 0, pos := "l15_memory.go:326", after := #[{ on := 25, ground := Ground.data }, { on := 22, ground := Ground.data }, { on := 23, ground := Ground.chain }, { on := 0, ground := Ground.phase }, { on := 1, ground := Ground.phase }, { on := 2, ground := Ground.phase }, { on := 3, ground := Ground.phase }, { on := 4, ground := Ground.phase }, { on := 5, ground := Ground.phase }, { on := 6, ground := Ground.phase }, { on := 7, ground := Ground.phase }, { on := 8, ground := Ground.phase }, { on := 9, ground := Ground.phase }, { on := 10, ground := Ground.phase }, { on := 11, ground := Ground.phase }, { on := 12, ground := Ground.phase }, { on := 13, ground := Ground.phase }, { on := 14, ground := Ground.phase }, { on := 15, ground := Ground.phase }, { on := 16, ground := Ground.phase }, { on := 17, ground := Ground.phase }, { on := 18, ground := Ground.phase }, { on := 19, ground := Ground.phase }, { on := 20, ground := Ground.phase }, { on := 21, ground := Ground.phase }, { on := 22, ground := Ground.phase }, { on := 23, ground := Ground.phase }], guard := none }) rfl (fun K hK => ?_) AllReadyH.nil)
    refine step_skip (w6.setCell ⟨lb, 4, none⟩ (.int .i64 c2)) (by rfl) (by go_simp) ?_
    refine hK.out _ _ ⟨C7.c0, C7.c3, by have h := K7.c s hs; rw [HU.out] at h; exact h⟩ (fun hH' => ?_)
    clear hK K hH' hH
    refine wpAnyH_done (by kernel_rfl) ?_ _
    clear q4 f4 C6 K6 O7 B6 CX KX hcg
    have h82 := ptake B lb gm m cp y l s U L (.iface 115 (.agg #[])) c2 k _ C7 K7 hs m2 cpm hl8 (by rw [HLN.out]; exact hk)
    generalize w6.setCell ⟨lb, 4, none⟩ (.int .i64 c2) = W7 at C7 K7 F7 h82 ⊢
    go_wp2_with (first | (go_at_call 82; refine h82.mono ?_; rintro e w8 ⟨rfl, C8, U8, K8, F8⟩; (have h81 := play B lb gm m cp y l s U8 (upL L s (cut (L s) k)) (.iface 115 (.agg #[])) c2 nn w8 C8 K8 hs m2 cpm (by rw [upL_at, cut_len _ _ (by rw [HLN.out]; exact hk)]; omega)); rw [upL_at, upL_two] at h81) | (go_at_call 81; refine h81.mono ?_; rintro e w9 ⟨rfl, CN, U9, KN, F9⟩))
    go_ret2
    exact ⟨by rw [HRR.out]; rfl, by rw [HRR.out]; exact CN, U9, by rw [HRR.out]; exact KN, F7.trans (F8.trans F9)⟩
end Go.Proofs.Ytfhpjcojccfcoaa
