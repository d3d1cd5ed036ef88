/- level.read by the policy that knows what comes; Hits.count. -/
import Derived.Test.YtfhpjcojccfcoaaPq
namespace Go.Proofs.Ytfhpjcojccfcoaa
open Go.ChangeShapes Go.WideShapes Go.ChangeAt Go.RowKit
set_option linter.unusedVariables false
set_option maxRecDepth 100000 in
set_option maxHeartbeats 1000000 in
theorem pread4 (B lb gm m cp y l s : Nat) (U : Nat → Value) (L : Nat → List Int) (coin pl nn : Int) (ca : Option Addr) (cc : Nat) (cl : List Int) (w : World) (C : C5 w lb (.slice (some ⟨gm, 0, none⟩) m cp) (.int .i64 (y : Int)) (.int .i64 (l : Int)) (.iface 96 (.agg #[.slice ca cl.length cc])) (.int .i64 coin)) (K : Kx B w lb gm m U L) (hs : s < m) (m2 : m ≤ 64) (cpm : m ≤ cp) (hd : pl.tdiv (l : Int) = nn) (l1 : 1 ≤ l) (hm : nn.tmod (m : Int) = (s : Int)) (n0 : 0 ≤ nn) (n1 : nn ≤ 1000000) (hl8 : (L s).length ≤ 8) (y1 : 1 ≤ y) (y8 : y ≤ 8) (a0 : 0 ≤ pl) (a1 : pl ≤ 1000000) (QC : ARow w (.slice ca cl.length cc) cl) (h200 : cl.length ≤ 200) : Calls Try.prog 67 #[.pointer (some ⟨lb, 0, none⟩), .int .i64 pl] w fun e w' => e = .returned (.tuple #[.bool (stepG y false (pk (fun j => cl.idxOf ((L s).getD j 0)) y) coin coin (L s) nn).2.2.1, .int .i64 (stepG y false (pk (fun j => cl.idxOf ((L s).getD j 0)) y) coin coin (L s) nn).2.2.2]) ∧ (C5 w' lb (.slice (some ⟨gm, 0, none⟩) m cp) (.int .i64 (y : Int)) (.int .i64 (l : Int)) (.iface 96 (.agg #[.slice ca cl.length cc])) (.int .i64 (stepG y false (pk (fun j => cl.idxOf ((L s).getD j 0)) y) coin coin (L s) nn).2.1)) ∧ ∃ U', Kx B w' lb gm m U' (upL L s (stepG y false (pk (fun j => cl.idxOf ((L s).getD j 0)) y) coin coin (L s) nn).1) ∧ Fr lb gm m U U' w w' := by
  have h80 := pfind B lb gm m cp y l s U L (.iface 96 (.agg #[.slice ca cl.length cc])) coin nn w C K hs m2 cpm hm n0 n1 hl8
  have h83 := pfull B lb gm m cp y l s U L (.iface 96 (.agg #[.slice ca cl.length cc])) coin w C K hs m2 cpm
  have q2 := C.c2
  have q3 := C.c3
  have l0 : ¬ (l : Int) = 0 := by omega
  have hmet1 : ∀ w : World, (method 251 96 (.agg #[.slice ca cl.length cc]) "loop.example/g00053/impl.movesHit").run Try.prog w = .ok (125, .agg #[]) w := fun w => by kernel_rfl
  have hmet2 : ∀ w : World, (method 251 96 (.agg #[.slice ca cl.length cc]) "loop.example/g00053/impl.leaving").run Try.prog w = .ok (126, .agg #[.slice ca cl.length cc]) w := fun w => by kernel_rfl
  have KH := Hid.mk K
  have CH := Hid.mk C
  obtain ⟨R1, hR1⟩ : ∃ R1, R1 = stepG y false (pk (fun j => cl.idxOf ((L s).getD j 0)) y) coin coin (L s) nn := ⟨_, rfl⟩
  rw [← hR1]
  have HR : Hid (R1 = stepG y false (pk (fun j => cl.idxOf ((L s).getD j 0)) y) coin coin (L s) nn) := hR1
  clear hR1
  clear C K
  by_cases hin : nn ∈ L s
  case pos =>
    obtain ⟨hix, hk, hgk⟩ := idx_hit hin
    rw [hix] at h80
    have HRR : Hid (R1 = (L s, coin, true, -1)) := by show _ = _; rw [HR.out]; unfold stepG; rw [if_pos hin]; rfl
    generalize (L s).idxOf nn = k at h80 hk hgk HRR
    have k0 : (0 : Int) ≤ (k : Int) := by omega
    clear hix hin HR h83
    · go_enter Try.func67, Try.ntmps67
      go_wp2_with (first | (go_at_call 80; refine h80.mono ?_; rintro e w2 ⟨rfl, hw⟩; subst w2) | (go_at_call 125; refine (moves2 w).mono ?_; rintro e w3 ⟨rfl, B3⟩))
      go_ret2
      exact ⟨by rw [HRR.out]; rfl, by rw [HRR.out]; exact CH.out.next B3, U, by rw [HRR.out]; show Kx _ _ _ _ _ _ (upL L s (L s)); rw [upL_self]; exact KH.out.next B3, Fr.ofBelow B3⟩
  case neg =>
    rw [idx_miss hin] at h80
    by_cases hfull : (L s).length = y
    case neg =>
      have hfB : (((L s).length : Int) == (y : Int)) = false := by
        have : ¬ ((L s).length : Int) = (y : Int) := by omega
        exact beq_false_of_ne this
      rw [hfB] at h83
      have HRR : Hid (R1 = (L s ++ [nn], coin, false, -1)) := by show _ = _; rw [HR.out]; unfold stepG; rw [if_neg hin, if_neg hfull]
      have h81 : Hid (∀ w', Below w.heap.size w w' → Calls Try.prog 81 #[.pointer (some ⟨lb, 0, none⟩), .int .i64 (s : Int), .int .i64 nn] w' fun e w'' => e = .returned (.tuple #[]) ∧ (C5 w'' lb (.slice (some ⟨gm, 0, none⟩) m cp) (.int .i64 (y : Int)) (.int .i64 (l : Int)) (.iface 96 (.agg #[.slice ca cl.length cc])) (.int .i64 coin)) ∧ ∃ U', Kx B w'' lb gm m U' (upL L s (L s ++ [nn])) ∧ Fr lb gm m U U' w' w'') := fun w' b => play B lb gm m cp y l s U L (.iface 96 (.agg #[.slice ca cl.length cc])) coin nn w' (CH.out.next b) (KH.out.next b) hs m2 cpm hl8
      clear HR hfB hin
      go_enter Try.func67, Try.ntmps67
      go_wp2_with (first | (go_at_call 80; refine h80.mono ?_; rintro e w2 ⟨rfl, hw⟩; subst w2) | (go_at_call 83; refine h83.mono ?_; rintro e w3 ⟨rfl, B3⟩) | (go_at_call 81; refine (h81.out w3 B3).mono ?_; rintro e w4 ⟨rfl, CN, U4, KN, F4⟩))
      go_ret2
      exact ⟨by rw [HRR.out]; rfl, by rw [HRR.out]; exact CN, U4, by rw [HRR.out]; exact KN, (Fr.ofBelow B3).trans F4⟩
    have hfB : (((L s).length : Int) == (y : Int)) = true := by
      have : ((L s).length : Int) = (y : Int) := by omega
      exact beq_iff_eq.2 this
    rw [hfB] at h83
    obtain ⟨k, c2, hk, HRR, HLV⟩ : ∃ (k : Nat) (c2 : Int), k < y ∧ Hid (R1 = (cut (L s) k ++ [nn], c2, false, (L s).getD k 0)) ∧ Hid (∀ v w', ARow w' v (L s) → ARow w' (.slice ca cl.length cc) cl → Calls Try.prog 126 #[.agg #[.slice ca cl.length cc], v, .int .i64 coin] w' fun e w'' => e = .returned (.tuple #[.int .i64 (k : Int), .int .i64 c2]) ∧ Below w'.heap.size w' w'') := by
      refine ⟨(pk (fun j => cl.idxOf ((L s).getD j 0)) y), coin, pk_lt _ _ (by omega), ?_, ?_⟩
      · show _ = _
        rw [HR.out]
        unfold stepG
        rw [if_neg hin, if_pos hfull]
      · exact fun v w' q1 q2 => by have h := leave126 cl (L s) _ v coin w' q2 q1 h200 hl8; rw [hfull] at h; exact h
    obtain ⟨ad, cr, hU, hcr0, hga⟩ := row_form KH.out hs
    obtain ⟨g, rfl⟩ := hga (by omega)
    have HU0 : Hid (U s = .slice (some ⟨g, 0, none⟩) (L s).length cr) := hU
    obtain ⟨ln, hln⟩ : ∃ ln, (L s).length = ln := ⟨_, rfl⟩
    have HLN : Hid ((L s).length = ln) := hln
    have HU : Hid (U s = .slice (some ⟨g, 0, none⟩) ln cr) := by show _ = _; rw [hU, hln]
    have hk : k < ln := by omega
    have s0 : (0 : Int) ≤ (s : Int) := by omega
    have s1 : (s : Int) < (m : Int) := by omega
    have hly : ln = y := by omega
    have HLY := Hid.mk hly
    clear HR hfB hin hU hln hfull hly hga
    go_enter Try.func67, Try.ntmps67
    go_wp2_with (first | (go_at_call 80; refine h80.mono ?_; rintro e w2 ⟨rfl, hw⟩; subst w2) | (go_at_call 83; refine h83.mono ?_; rintro e w3 ⟨rfl, B3⟩))
    generalize hWW : w3.drew = WX
    have BX : Below w3.heap.size w3 WX := by rw [← hWW]; exact below_drew (Below.refl _ _)
    have F0 : Fr lb gm m U U w WX := Fr.ofBelow (B3.trans (BX.mono B3.size))
    have CX := (CH.out.next B3).next BX
    have KX := (KH.out.next B3).next BX
    have hcg : WX.cell? ⟨gm, s, none⟩ = some (.slice (some ⟨g, 0, none⟩) ln cr) := by have h := KX.c s hs; rw [HU.out] at h; exact h
    have hlv := HLV.out (.slice (some ⟨g, 0, none⟩) ln cr) WX (by have h := (KX.r s hs).arow; rw [HU.out] at h; exact h) ((QC.next B3).next BX)
    clear BX B3 h80 h83 q2 q3
    refine wp_region_held_drew (S := (fun u => u.cell? ⟨lb, 0, none⟩ = some (.slice (some ⟨gm, 0, none⟩) m cp) ∧ u.cell? ⟨lb, 3, none⟩ = some (.iface 96 (.agg #[.slice ca cl.length cc])) ∧ u.cell? ⟨gm, s, none⟩ = some (.slice (some ⟨g, 0, none⟩) ln cr))) (by kernel_rfl) (by rw [hWW]; exact ⟨CX.c0, CX.c3, hcg⟩) (fun hH => ?_)
    rw [hWW] at hH ⊢
    clear hWW
    refine wpAnyH_take (i := 0) (oi := { dst := some 48, op := Op.move (Operand.tmp 0), type := 83, pos := "l15_memory.go:326", after := #[{ on := 23, ground := Ground.gcOnly Departure.lateStores }], guard := none }) (v := .pointer (some ⟨lb, 0, none⟩)) rfl (by kernel_rfl) (by kernel_rfl) (by kernel_rfl) (fun _ _ _ h => h) (Or.inl ⟨by rfl, fun w0 hSw => by (go_simp)⟩) hH ?_
    simp only [Act.put, List.setIfInBounds_toArray, List.set_cons_zero, List.set_cons_succ]
    refine wpAnyH_take (i := 1) (oi := { dst := some 49, op := Op.move (Operand.tmp 0), type := 83, pos := "l15_memory.go:326", after := #[], guard := none }) (v := .pointer (some ⟨lb, 0, none⟩)) rfl (by kernel_rfl) (by kernel_rfl) (by kernel_rfl) (fun _ _ _ h => h) (Or.inl ⟨by rfl, fun w0 hSw => by (go_simp)⟩) hH ?_
    simp only [Act.put, List.setIfInBounds_toArray, List.set_cons_zero, List.set_cons_succ]
    refine wpAnyH_take (i := 2) (oi := { dst := some 50, op := Op.nilCheck (Operand.tmp 49), type := 0, pos := "l15_memory.go:326", after := #[{ on := 1, ground := Ground.data }], guard := none }) (v := .pointer (some ⟨lb, 0, none⟩)) rfl (by kernel_rfl) (by kernel_rfl) (by kernel_rfl) (fun _ _ _ h => h) (Or.inl ⟨by rfl, fun w0 hSw => by (go_simp)⟩) hH ?_
    simp only [Act.put, List.setIfInBounds_toArray, List.set_cons_zero, List.set_cons_succ]
    refine wpAnyH_take (i := 3) (oi := { dst := some 51, op := Op.fieldAddr 92 (Operand.tmp 50) 2, type := 0, pos := "l15_memory.go:326", after := #[{ on := 2, ground := Ground.data }], guard := none }) (v := .pointer (some ⟨lb, 3, none⟩)) rfl (by kernel_rfl) (by kernel_rfl) (by kernel_rfl) (fun _ _ _ h => h) (Or.inl ⟨by rfl, fun w0 hSw => by (go_simp)⟩) hH ?_
    simp only [Act.put, List.setIfInBounds_toArray, List.set_cons_zero, List.set_cons_succ]
    refine wpAnyH_take (i := 4) (oi := { dst := some 52, op := Op.load 90 (Operand.tmp 51), type := 90, pos := "l15_memory.go:326", after := #[{ on := 3, ground := Ground.data }], guard := none }) (v := (.iface 96 (.agg #[.slice ca cl.length cc]))) rfl (by kernel_rfl) (by kernel_rfl) (by kernel_rfl) (fun _ _ _ h => h) (Or.inl ⟨by rfl, fun w0 hSw => by ((have e4 := hSw.2.1); go_simp)⟩) hH ?_
    simp only [Act.put, List.setIfInBounds_toArray, List.set_cons_zero, List.set_cons_succ]
    refine wpAnyH_take (i := 5) (oi := { dst := some 53, op := Op.move (Operand.tmp 0), type := 83, pos := "l15_memory.go:326", after := #[], guard := none }) (v := .pointer (some ⟨lb, 0, none⟩)) rfl (by kernel_rfl) (by kernel_rfl) (by kernel_rfl) (fun _ _ _ h => h) (Or.inl ⟨by rfl, fun w0 hSw => by (go_simp)⟩) hH ?_
    simp only [Act.put, List.setIfInBounds_toArray, List.set_cons_zero, List.set_cons_succ]
    refine wpAnyH_take (i := 6) (oi := { dst := some 54, op := Op.nilCheck (Operand.tmp 53), type := 0, pos := "l15_memory.go:326", after := #[{ on := 5, ground := Ground.data }], guard := none }) (v := .pointer (some ⟨lb, 0, none⟩)) rfl (by kernel_rfl) (by kernel_rfl) (by kernel_rfl) (fun _ _ _ h => h) (Or.inl ⟨by rfl, fun w0 hSw => by (go_simp)⟩) hH ?_
    simp only [Act.put, List.setIfInBounds_toArray, List.set_cons_zero, List.set_cons_succ]
    refine wpAnyH_take (i := 7) (oi := { dst := some 55, op := Op.fieldAddr 92 (Operand.tmp 54) 0, type := 0, pos := "l15_memory.go:326", after := #[{ on := 6, ground := Ground.data }], guard := none }) (v := .pointer (some ⟨lb, 0, none⟩)) rfl (by kernel_rfl) (by kernel_rfl) (by kernel_rfl) (fun _ _ _ h => h) (Or.inl ⟨by rfl, fun w0 hSw => by (go_simp)⟩) hH ?_
    simp only [Act.put, List.setIfInBounds_toArray, List.set_cons_zero, List.set_cons_succ]
    refine wpAnyH_take (i := 8) (oi := { dst := some 56, op := Op.fieldAddr 88 (Operand.tmp 55) 0, type := 0, pos := "l15_memory.go:326", after := #[{ on := 7, ground := Ground.data }], guard := none }) (v := .pointer (some ⟨lb, 0, none⟩)) rfl (by kernel_rfl) (by kernel_rfl) (by kernel_rfl) (fun _ _ _ h => h) (Or.inl ⟨by rfl, fun w0 hSw => by (go_simp)⟩) hH ?_
    simp only [Act.put, List.setIfInBounds_toArray, List.set_cons_zero, List.set_cons_succ]
    refine wpAnyH_take (i := 9) (oi := { dst := some 57, op := Op.load 40 (Operand.tmp 56), type := 40, pos := "l15_memory.go:326", after := #[{ on := 8, ground := Ground.data }], guard := none }) (v := .slice (some ⟨gm, 0, none⟩) m cp) rfl (by kernel_rfl) (by kernel_rfl) (by kernel_rfl) (fun _ _ _ h => h) (Or.inl ⟨by rfl, fun w0 hSw => by ((have e4 := hSw.1); go_simp)⟩) hH ?_
    simp only [Act.put, List.setIfInBounds_toArray, List.set_cons_zero, List.set_cons_succ]
    refine wpAnyH_take (i := 10) (oi := { dst := some 58, op := Op.move (Operand.tmp 7), type := 3, pos := "l15_memory.go:326", after := #[], guard := none }) (v := .int .i64 (s : Int)) rfl (by kernel_rfl) (by kernel_rfl) (by kernel_rfl) (fun _ _ _ h => h) (Or.inl ⟨by rfl, fun w0 hSw => by (go_simp)⟩) hH ?_
    simp only [Act.put, List.setIfInBounds_toArray, List.set_cons_zero, List.set_cons_succ]
    refine wpAnyH_take (i := 11) (oi := { dst := some 59, op := Op.indexAddr 40 (Operand.tmp 57) (Operand.tmp 58), type := 0, pos := "l15_memory.go:326", after := #[{ on := 9, ground := Ground.data }, { on := 10, ground := Ground.data }], guard := none }) (v := .pointer (some ⟨gm, s, none⟩)) rfl (by kernel_rfl) (by kernel_rfl) (by kernel_rfl) (fun _ _ _ h => h) (Or.inl ⟨by rfl, fun w0 hSw => by (go_simp <;> first | (intro h; exfalso; omega) | exact (IntKind.wrap_i64 _).trans (by omega) | omega)⟩) hH ?_
    simp only [Act.put, List.setIfInBounds_toArray, List.set_cons_zero, List.set_cons_succ]
    refine wpAnyH_take (i := 12) (oi := { dst := some 60, op := Op.load 23 (Operand.tmp 59), type := 23, pos := "l15_memory.go:326", after := #[{ on := 11, ground := Ground.data }], guard := none }) (v := .slice (some ⟨g, 0, none⟩) ln cr) rfl (by kernel_rfl) (by kernel_rfl) (by kernel_rfl) (fun _ _ _ h => h) (Or.inl ⟨by rfl, fun w0 hSw => by ((have e4 := hSw.2.2); go_simp)⟩) hH ?_
    simp only [Act.put, List.setIfInBounds_toArray, List.set_cons_zero, List.set_cons_succ]
    refine wpAnyH_take (i := 13) (oi := { dst := some 61, op := Op.move (Operand.tmp 0), type := 83, pos := "l15_memory.go:326", after := #[], guard := none }) (v := .pointer (some ⟨lb, 0, none⟩)) rfl (by kernel_rfl) (by kernel_rfl) (by kernel_rfl) (fun _ _ _ h => h) (Or.inl ⟨by rfl, fun w0 hSw => by (go_simp)⟩) hH ?_
    simp only [Act.put, List.setIfInBounds_toArray, List.set_cons_zero, List.set_cons_succ]
    refine wpAnyH_take (i := 14) (oi := { dst := some 62, op := Op.nilCheck (Operand.tmp 61), type := 0, pos := "l15_memory.go:326", after := #[{ on := 13, ground := Ground.data }], guard := none }) (v := .pointer (some ⟨lb, 0, none⟩)) rfl (by kernel_rfl) (by kernel_rfl) (by kernel_rfl) (fun _ _ _ h => h) (Or.inl ⟨by rfl, fun w0 hSw => by (go_simp)⟩) hH ?_
    simp only [Act.put, List.setIfInBounds_toArray, List.set_cons_zero, List.set_cons_succ]
    refine wpAnyH_take (i := 15) (oi := { dst := some 63, op := Op.fieldAddr 92 (Operand.tmp 62) 3, type := 0, pos := "l15_memory.go:326", after := #[{ on := 14, ground := Ground.data }], guard := none }) (v := .pointer (some ⟨lb, 4, none⟩)) rfl (by kernel_rfl) (by kernel_rfl) (by kernel_rfl) (fun _ _ _ h => h) (Or.inl ⟨by rfl, fun w0 hSw => by (go_simp)⟩) hH ?_
    simp only [Act.put, List.setIfInBounds_toArray, List.set_cons_zero, List.set_cons_succ]
    refine wpAnyH_take (i := 17) (oi := { dst := some 65, op := Op.nilCheck (Operand.tmp 52), type := 90, pos := "l15_memory.go:326", after := #[{ on := 4, ground := Ground.data }], guard := none }) (v := (.iface 96 (.agg #[.slice ca cl.length cc]))) rfl (by kernel_rfl) (by kernel_rfl) (by kernel_rfl) (fun _ _ _ h => h) (Or.inl ⟨by rfl, fun w0 hSw => by (go_simp)⟩) hH ?_
    simp only [Act.put, List.setIfInBounds_toArray, List.set_cons_zero, List.set_cons_succ]
    refine wpAnyH_take (i := 18) (oi := { dst := some 66, op := Op.move (Operand.tmp 52), type := 90, pos := "l15_memory.go:326", after := #[{ on := 4, ground := Ground.data }, { on := 17, ground := Ground.data }], guard := none }) (v := (.iface 96 (.agg #[.slice ca cl.length cc]))) rfl (by kernel_rfl) (by kernel_rfl) (by kernel_rfl) (fun _ _ _ h => h) (Or.inl ⟨by rfl, fun w0 hSw => by (go_simp)⟩) hH ?_
    simp only [Act.put, List.setIfInBounds_toArray, List.set_cons_zero, List.set_cons_succ]
    refine wpAnyH_ready (rs := [16]) (by kernel_rfl) (by simp) ?_
    refine (AllReadyH.cons (o := { dst := some 64, op := Op.load 3 (Operand.tmp 63), type := 3, pos := "l15_memory.go:326", after := #[{ on := 15, ground := Ground.data }], guard := none }) rfl (fun K hK => ?_) AllReadyH.nil)
    refine step_val (.int .i64 coin) WX (by rfl) (by have h1 := CX.c4; go_simp) ?_
    simp only [Act.put, List.setIfInBounds_toArray, List.set_cons_zero, List.set_cons_succ]
    refine hK.out _ _ ⟨CX.c0, CX.c3, hcg⟩ (fun hH' => ?_)
    clear hK K
    replace hH := hH'
    clear hH'
    refine wpAnyH_ready (rs := [19]) (by kernel_rfl) (by simp) ?_
    refine (AllReadyH.cons (o := { dst := some 67, op := Op.call { callee := Callee.invoke (Operand.tmp 66) "loop.example/g00053/impl.leaving", args := #[Operand.tmp 60, Operand.tmp 64], argTypes := #[23, 3] }, type := 102, pos := "l15_memory.go:326", after := #[{ on := 18, ground := Ground.data }, { on := 12, ground := Ground.data }, { on := 16, ground := Ground.data }], guard := none }) rfl (fun K hK => ?_) AllReadyH.nil)
    refine step_callC 126 #[.agg #[.slice ca cl.length cc], .slice (some ⟨g, 0, none⟩) ln cr, .int .i64 coin] (fun z v w' => z = .tuple #[.int .i64 (k : Int), .int .i64 c2] ∧ Below v.heap.size v w') (by rfl) (by go_simp) (hlv.mono fun e w' ⟨h1, h2⟩ => ⟨_, h1, rfl, h2⟩) ?_
    rintro z6 w6 ⟨rfl, B6⟩
    have C6 := CX.next B6
    have K6 := KX.next B6
    have O7 : Only lb w6 (w6.setCell ⟨lb, 4, none⟩ (.int .i64 c2)) := (Only.refl _ _).setCell _ _
    have C7 := C6.s4 (.int .i64 c2)
    have K7 := (K6.head O7).1
    have F7 := (F0.trans (Fr.ofBelow B6)).trans (K6.head O7).2
    have q4 := C6.c4
    have f4 := C6.f 4
    simp only [Act.put, List.setIfInBounds_toArray, List.set_cons_zero, List.set_cons_succ]
    refine hK.out _ _ ⟨C6.c0, C6.c3, cell_nx hcg B6⟩ (fun hH' => ?_)
    clear hK K
    replace hH := hH'
    clear hH'
    refine wpAnyH_take (i := 20) (oi := { dst := some 47, op := Op.move (Operand.tmp 67), type := 102, pos := "l15_memory.go:326", after := #[{ on := 19, ground := Ground.data }], guard := none }) (v := .tuple #[.int .i64 (k : Int), .int .i64 c2]) rfl (by kernel_rfl) (by kernel_rfl) (by kernel_rfl) (fun _ _ _ h => h) (Or.inl ⟨by rfl, fun w0 hSw => by (go_simp)⟩) hH ?_
    simp only [Act.put, List.setIfInBounds_toArray, List.set_cons_zero, List.set_cons_succ]
    refine wpAnyH_take (i := 21) (oi := { dst := some 68, op := Op.extract (Operand.tmp 47) 0, type := 3, pos := "l15_memory.go:326", after := #[{ on := 20, ground := Ground.data }], guard := none }) (v := .int .i64 (k : Int)) rfl (by kernel_rfl) (by kernel_rfl) (by kernel_rfl) (fun _ _ _ h => h) (Or.inl ⟨by rfl, fun w0 hSw => by (go_simp)⟩) hH ?_
    simp only [Act.put, List.setIfInBounds_toArray, List.set_cons_zero, List.set_cons_succ]
    refine wpAnyH_take (i := 22) (oi := { dst := some 69, op := Op.extract (Operand.tmp 47) 1, type := 3, pos := "l15_memory.go:326", after := #[{ on := 20, ground := Ground.data }, { on := 23, ground := Ground.gcOnly Departure.lateStores }], guard := none }) (v := .int .i64 c2) rfl (by kernel_rfl) (by kernel_rfl) (by kernel_rfl) (fun _ _ _ h => h) (Or.inl ⟨by rfl, fun w0 hSw => by (go_simp)⟩) hH ?_
    simp only [Act.put, List.setIfInBounds_toArray, List.set_cons_zero, List.set_cons_succ]
    refine wpAnyH_take (i := 23) (oi := { dst := some 8, op := Op.assign (Operand.tmp 68), type := 3, pos := "l15_memory.go:326", after := #[{ on := 21, ground := Ground.data }, { on := 19, ground := Ground.chain }, { on := 0, ground := Ground.textOnly Departure.lateStores }, { on := 1, ground := Ground.phase }, { on := 2, ground := Ground.phase }, { on := 3, ground := Ground.phase }, { on := 4, ground := Ground.phase }, { on := 5, ground := Ground.phase }, { on := 6, ground := Ground.phase }, { on := 7, ground := Ground.phase }, { on := 8, ground := Ground.phase }, { on := 9, ground := Ground.phase }, { on := 10, ground := Ground.phase }, { on := 11, ground := Ground.phase }, { on := 12, ground := Ground.phase }, { on := 13, ground := Ground.phase }, { on := 14, ground := Ground.phase }, { on := 15, ground := Ground.phase }, { on := 16, ground := Ground.phase }, { on := 17, ground := Ground.phase }, { on := 18, ground := Ground.phase }, { on := 19, ground := Ground.phase }, { on := 20, ground := Ground.phase }, { on := 21, ground := Ground.phase }, { on := 22, ground := Ground.textOnly Departure.lateStores }], guard := none }) (v := .int .i64 (k : Int)) rfl (by kernel_rfl) (by kernel_rfl) (by kernel_rfl) (fun _ _ _ h => h) (Or.inl ⟨by rfl, fun w0 hSw => by (go_simp)⟩) hH ?_
    simp only [Act.put, List.setIfInBounds_toArray, List.set_cons_zero, List.set_cons_succ]
    refine wpAnyH_take (i := 24) (oi := { dst := some 70, op := Op.nilCheck (Operand.tmp 48), type := 0, pos := "l15_memory.go:326", after := #[{ on := 0, ground := Ground.data }, { on := 0, ground := Ground.phase }, { on := 1, ground := Ground.phase }, { on := 2, ground := Ground.phase }, { on := 3, ground := Ground.phase }, { on := 4, ground := Ground.phase }, { on := 5, ground := Ground.phase }, { on := 6, ground := Ground.phase }, { on := 7, ground := Ground.phase }, { on := 8, ground := Ground.phase }, { on := 9, ground := Ground.phase }, { on := 10, ground := Ground.phase }, { on := 11, ground := Ground.phase }, { on := 12, ground := Ground.phase }, { on := 13, ground := Ground.phase }, { on := 14, ground := Ground.phase }, { on := 15, ground := Ground.phase }, { on := 16, ground := Ground.phase }, { on := 17, ground := Ground.phase }, { on := 18, ground := Ground.phase }, { on := 19, ground := Ground.phase }, { on := 20, ground := Ground.phase }, { on := 21, ground := Ground.phase }, { on := 22, ground := Ground.phase }, { on := 23, ground := Ground.phase }], guard := none }) (v := .pointer (some ⟨lb, 0, none⟩)) rfl (by kernel_rfl) (by kernel_rfl) (by kernel_rfl) (fun _ _ _ h => h) (Or.inl ⟨by rfl, fun w0 hSw => by (go_simp)⟩) hH ?_
    simp only [Act.put, List.setIfInBounds_toArray, List.set_cons_zero, List.set_cons_succ]
    refine wpAnyH_take (i := 25) (oi := { dst := some 71, op := Op.fieldAddr 92 (Operand.tmp 70) 3, type := 0, pos := "l15_memory.go:326", after := #[{ on := 24, ground := Ground.data }, { on := 0, ground := Ground.phase }, { on := 1, ground := Ground.phase }, { on := 2, ground := Ground.phase }, { on := 3, ground := Ground.phase }, { on := 4, ground := Ground.phase }, { on := 5, ground := Ground.phase }, { on := 6, ground := Ground.phase }, { on := 7, ground := Ground.phase }, { on := 8, ground := Ground.phase }, { on := 9, ground := Ground.phase }, { on := 10, ground := Ground.phase }, { on := 11, ground := Ground.phase }, { on := 12, ground := Ground.phase }, { on := 13, ground := Ground.phase }, { on := 14, ground := Ground.phase }, { on := 15, ground := Ground.phase }, { on := 16, ground := Ground.phase }, { on := 17, ground := Ground.phase }, { on := 18, ground := Ground.phase }, { on := 19, ground := Ground.phase }, { on := 20, ground := Ground.phase }, { on := 21, ground := Ground.phase }, { on := 22, ground := Ground.phase }, { on := 23, ground := Ground.phase }], guard := none }) (v := .pointer (some ⟨lb, 4, none⟩)) rfl (by kernel_rfl) (by kernel_rfl) (by kernel_rfl) (fun _ _ _ h => h) (Or.inl ⟨by rfl, fun w0 hSw => by (go_simp)⟩) hH ?_
    simp only [Act.put, List.setIfInBounds_toArray, List.set_cons_zero, List.set_cons_succ]
    refine wpAnyH_ready (rs := [26]) (by kernel_rfl) (by simp) ?_
    refine (AllReadyH.cons (o := { dst := none, op := Op.store 3 (Operand.tmp 71) (Operand.tmp 69), type := 0, pos := "l15_memory.go:326", after := #[{ on := 25, ground := Ground.data }, { on := 22, ground := Ground.data }, { on := 23, ground := Ground.chain }, { on := 0, ground := Ground.phase }, { on := 1, ground := Ground.phase }, { on := 2, ground := Ground.phase }, { on := 3, ground := Ground.phase }, { on := 4, ground := Ground.phase }, { on := 5, ground := Ground.phase }, { on := 6, ground := Ground.phase }, { on := 7, ground := Ground.phase }, { on := 8, ground := Ground.phase }, { on := 9, ground := Ground.phase }, { on := 10, ground := Ground.phase }, { on := 11, ground := Ground.phase }, { on := 12, ground := Ground.phase }, { on := 13, ground := Ground.phase }, { on := 14, ground := Ground.phase }, { on := 15, ground := Ground.phase }, { on := 16, ground := Ground.phase }, { on := 17, ground := Ground.phase }, { on := 18, ground := Ground.phase }, { on := 19, ground := Ground.phase }, { on := 20, ground := Ground.phase }, { on := 21, ground := Ground.phase }, { on := 22, ground := Ground.phase }, { on := 23, ground := Ground.phase }], guard := none }) rfl (fun K hK => ?_) AllReadyH.nil)
    refine step_skip (w6.setCell ⟨lb, 4, none⟩ (.int .i64 c2)) (by rfl) (by go_simp) ?_
    refine hK.out _ _ ⟨C7.c0, C7.c3, by have h := K7.c s hs; rw [HU.out] at h; exact h⟩ (fun hH' => ?_)
    clear hK K hH' hH
    refine wpAnyH_done (by kernel_rfl) ?_ _
    clear q4 f4 C6 K6 O7 B6 CX KX hcg
    have h82 := ptake B lb gm m cp y l s U L (.iface 96 (.agg #[.slice ca cl.length cc])) c2 k _ C7 K7 hs m2 cpm hl8 (by rw [HLN.out]; exact hk)
    generalize w6.setCell ⟨lb, 4, none⟩ (.int .i64 c2) = W7 at C7 K7 F7 h82 ⊢
    go_wp2_with (first | (go_at_call 82; refine h82.mono ?_; rintro e w8 ⟨rfl, C8, U8, K8, F8⟩; (have h81 := play B lb gm m cp y l s U8 (upL L s (cut (L s) k)) (.iface 96 (.agg #[.slice ca cl.length cc])) c2 nn w8 C8 K8 hs m2 cpm (by rw [upL_at, cut_len _ _ (by rw [HLN.out]; exact hk)]; omega)); rw [upL_at, upL_two] at h81) | (go_at_call 81; refine h81.mono ?_; rintro e w9 ⟨rfl, CN, U9, KN, F9⟩))
    go_ret2
    exact ⟨by rw [HRR.out]; rfl, by rw [HRR.out]; exact CN, U9, by rw [HRR.out]; exact KN, F7.trans (F8.trans F9)⟩
end Go.Proofs.Ytfhpjcojccfcoaa
