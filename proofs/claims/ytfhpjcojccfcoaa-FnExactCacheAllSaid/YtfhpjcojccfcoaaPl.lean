/- The program's lines, set by set: found, laid, taken out. -/
import Derived.Test.YtfhpjcojccfcoaaMr
namespace Go.Proofs.Ytfhpjcojccfcoaa
open Go.ChangeShapes Go.WideShapes Go.ChangeAt Go.RowKit
set_option linter.unusedVariables false
theorem index88 (l : List Int) (v : Value) (x : Int) (w : World) (Q : ARow w v l) (hl : l.length ≤ 1048576) : Calls Try.prog 88 #[v, .int .i64 x] w fun e w' => e = .returned (.int .i64 (Lib.idxOf l x)) ∧ w' = w := by
  obtain ⟨ad, c, rfl, hc⟩ := Q
  by_cases e : l = []
  · subst e
    exact Try.slices_Index_int_empty ad c x w
  · obtain ⟨g, o, rfl, _⟩ := hc 0 (List.length_pos_iff.2 e)
    have h := Try.slices_Index_int g o l.length c l x w (Nat.le_refl _) (by omega) (fun j hj => by
      obtain ⟨g', o', e1, e2⟩ := hc j hj
      injection e1 with e1
      injection e1 with e1 e3
      subst e1; subst e3
      exact e2)
    rwa [List.take_length] at h
theorem pdel (B g cr k : Nat) (lL : List Int) (w : World) (R : Ri B w (.slice (some ⟨g, 0, none⟩) lL.length cr) lL) (hk : k < lL.length) (hcr : lL.length ≤ cr) : Calls Try.prog 89 #[.slice (some ⟨g, 0, none⟩) lL.length cr, .int .i64 (k : Int), .int .i64 ((k : Int) + 1)] w fun e w' => e = .returned (.slice (some ⟨g, 0, none⟩) (lL.length - 1) cr) ∧ Ri B w' (.slice (some ⟨g, 0, none⟩) (lL.length - 1) cr) (cut lL k) ∧ w.grownBy w' (some g) := by
  have hcm : cr ≤ 9223372036854775807 := by
    rcases R.1.2 with ⟨e, _⟩ | ⟨g', cap', cur, e, _, _, _, h4, _, _⟩
    · cases e
    · injection e with _ _ e3; subst e3; unfold maxLen at h4; omega
  have hc := Try.slices_Delete_int_cells g 0 lL.length cr k (k + 1) lL w (Nat.le_refl _) hcr hcm (by omega) (by omega) (fun j hj => by rw [Nat.zero_add, World.ownsRow.cellAt R.1 j (by omega)]; simp [il, List.getD, hj]) (fun j hj => by rw [Nat.zero_add]; exact R.1.frozenAt j)
  rw [show ((k + 1 : Nat) : Int) = (k : Int) + 1 by omega] at hc
  refine hc.mono ?_
  rintro e w' ⟨rfl, q, rfl⟩
  rw [List.take_length, show k + 1 - k = 1 by omega]
  have R1 : Ri B (w.drewN q) (.slice (some ⟨g, 0, none⟩) lL.length cr) lL := R.next (below_drewN (Below.refl _ _) q)
  have hlen : (lL.take k ++ lL.drop (k + 1) ++ List.replicate 1 0).length = lL.length := by simp; omega
  have R2 := ri_set (lL.take k ++ lL.drop (k + 1) ++ List.replicate 1 0) 0 (w.drewN q) lL (by rw [hlen]; omega) R1
  rw [List.take_zero, List.nil_append, Nat.zero_add, hlen, List.drop_length, List.append_nil] at R2
  have R3 := Ri.pre R2 (lL.length - 1) (by rw [hlen]; omega) hlen.symm
  have e1 : (lL.take k ++ lL.drop (k + 1) ++ List.replicate 1 0).take (lL.length - 1) = cut lL k := by
    have h := cut_len lL k hk
    rw [show lL.take k ++ lL.drop (k + 1) = cut lL k from rfl, ← h, List.take_left]
  rw [e1] at R3
  refine ⟨rfl, R3, ?_⟩
  have On : Only g w ((w.drewN q).setCells g 0 ((lL.take k ++ lL.drop (k + 1) ++ List.replicate 1 0).map (Value.int .i64))) := only_setCells g _ 0 w _ ((Only.refl g w).drewN q)
  exact ⟨On.os, On.tape, On.output, On.size, fun i hi hne => On.block i hi (fun e => hne (by rw [e]))⟩
theorem row_form {B lb gm m s : Nat} {U : Nat → Value} {L : Nat → List Int} {w : World} (K : Kx B w lb gm m U L) (hs : s < m) : ∃ ad cr, U s = .slice ad (L s).length cr ∧ (L s).length ≤ cr ∧ (0 < (L s).length → ∃ g, ad = some ⟨g, 0, none⟩) := by
  rcases ri_cases (K.r s hs) with ⟨h1, h2⟩ | ⟨g, c, h1, h2, _, _⟩
  · exact ⟨none, 0, by rw [h1, h2]; rfl, by rw [h1]; exact Nat.le_refl _, fun h => by rw [h1] at h; exact absurd h (Nat.lt_irrefl _)⟩
  · exact ⟨_, c, h1, h2, fun _ => ⟨g, rfl⟩⟩
set_option maxRecDepth 100000 in
theorem pfind (B lb gm m cp y l s : Nat) (U : Nat → Value) (L : Nat → List Int) (pv : Value) (coin : Int) (nn : Int) (w : World) (C : C5 w lb (.slice (some ⟨gm, 0, none⟩) m cp) (.int .i64 (y : Int)) (.int .i64 (l : Int)) pv (.int .i64 coin)) (K : Kx B w lb gm m U L) (hs : s < m) (m2 : m ≤ 64) (cpm : m ≤ cp) (hm : nn.tmod (m : Int) = (s : Int)) (n0 : 0 ≤ nn) (n1 : nn ≤ 1000000) (hl : (L s).length ≤ 8) : Calls Try.prog 80 #[.pointer (some ⟨lb, 0, none⟩), .int .i64 nn] w fun e w' => e = .returned (.tuple #[.int .i64 (s : Int), .int .i64 (Lib.idxOf (L s) nn)]) ∧ w' = w := by
  have h88 := index88 (L s) (U s) nn w (K.r s hs).arow (by omega)
  have q0 := C.c0
  have qs := K.c s hs
  have s0 : (0 : Int) ≤ (s : Int) := by omega
  have s1 : (s : Int) < (m : Int) := by omega
  have m0 : ¬ (m : Int) = 0 := by omega
  generalize Lib.idxOf (L s) nn = ix at h88 ⊢
  generalize U s = u at h88 qs
  clear C K
  go_enter Try.func80, Try.ntmps80
  go_wp2_with (go_at_call 88; refine h88.mono ?_; rintro e w2 ⟨rfl, hw⟩; subst w2)
  go_ret2
  exact ⟨rfl, rfl⟩
set_option maxRecDepth 100000 in
theorem pfull (B lb gm m cp y l s : Nat) (U : Nat → Value) (L : Nat → List Int) (pv : Value) (coin : Int) (w : World) (C : C5 w lb (.slice (some ⟨gm, 0, none⟩) m cp) (.int .i64 (y : Int)) (.int .i64 (l : Int)) pv (.int .i64 coin)) (K : Kx B w lb gm m U L) (hs : s < m) (m2 : m ≤ 64) (cpm : m ≤ cp) : Calls Try.prog 83 #[.pointer (some ⟨lb, 0, none⟩), .int .i64 (s : Int)] w fun e w' => e = .returned (.bool (((L s).length : Int) == (y : Int))) ∧ Below w.heap.size w w' := by
  obtain ⟨ad, cr, hU, _, _⟩ := row_form K hs
  have q0 := C.c0
  have q1 := C.c1
  have qs := K.c s hs
  rw [hU] at qs
  have s0 : (0 : Int) ≤ (s : Int) := by omega
  have s1 : (s : Int) < (m : Int) := by omega
  generalize (L s).length = ln at qs ⊢
  clear C K hU
  go_enter Try.func83, Try.ntmps83
  go_wp2
  go_quiet (fail)
  go_wp2
  go_ret
  exact ⟨rfl, below_drewN (Below.refl _ _) _⟩
set_option maxRecDepth 100000 in
set_option maxHeartbeats 1000000 in
theorem ptake (B lb gm m cp y l s : Nat) (U : Nat → Value) (L : Nat → List Int) (pv : Value) (coin : Int) (k : Nat) (w : World) (C : C5 w lb (.slice (some ⟨gm, 0, none⟩) m cp) (.int .i64 (y : Int)) (.int .i64 (l : Int)) pv (.int .i64 coin)) (K : Kx B w lb gm m U L) (hs : s < m) (m2 : m ≤ 64) (cpm : m ≤ cp) (hl : (L s).length ≤ 8) (hk : k < (L s).length) : Calls Try.prog 82 #[.pointer (some ⟨lb, 0, none⟩), .int .i64 (s : Int), .int .i64 (k : Int)] w fun e w' => e = .returned (.int .i64 ((L s).getD k 0)) ∧ C5 w' lb (.slice (some ⟨gm, 0, none⟩) m cp) (.int .i64 (y : Int)) (.int .i64 (l : Int)) pv (.int .i64 coin) ∧ ∃ U', Kx B w' lb gm m U' (upL L s (cut (L s) k)) ∧ Fr lb gm m U U' w w' := by
  obtain ⟨ad, cr, hU, hcr0, hga⟩ := row_form K hs
  obtain ⟨g, rfl⟩ := hga (by omega)
  have q0 := C.c0
  have qs := K.c s hs
  have HU : Hid (U s = .slice (some ⟨g, 0, none⟩) (L s).length cr) := hU
  have HR0 : Hid (Ri B w (.slice (some ⟨g, 0, none⟩) (L s).length cr) (L s)) := by have := K.r s hs; rw [hU] at this; exact this
  rw [hU] at qs
  have s0 : (0 : Int) ≤ (s : Int) := by omega
  have s1 : (s : Int) < (m : Int) := by omega
  generalize L s = lL at qs HU HR0 hcr0 hl hk ⊢
  have hck := (by rw [World.ownsRow.cellAt HR0.out.1 k (by omega)]; simp [il, List.getD, hk] : w.cell? ⟨g, k, none⟩ = some (.int .i64 (lL.getD k 0)))
  obtain ⟨ln, hln⟩ : ∃ ln, lL.length = ln := ⟨_, rfl⟩
  have HLN : Hid (lL.length = ln) := hln
  rw [hln] at qs HR0 hcr0 hl hk
  have HU : Hid (U s = .slice (some ⟨g, 0, none⟩) ln cr) := by show _ = _; rw [HU.out, hln]
  have k0 : (0 : Int) ≤ (k : Int) := by omega
  have k1 : (k : Int) < (ln : Int) := by omega
  have KH := Hid.mk K
  have CH := Hid.mk C
  clear C K hU hln
  go_enter Try.func82, Try.ntmps82
  go_wp2
  generalize hWW : w.drew = WX
  have BX : Below w.heap.size w WX := by rw [← hWW]; exact below_drew (Below.refl _ _)
  have KX := KH.out.next BX
  have CX := CH.out.next BX
  have RX := HR0.out.next BX
  have F0 : Hid (Fr lb gm m U U w WX) := Fr.ofBelow BX
  have hcg := cell_nx qs BX
  have h89 : Calls Try.prog 89 #[.slice (some ⟨g, 0, none⟩) ln cr, .int .i64 (k : Int), .int .i64 ((k : Int) + 1)] WX fun e w' => e = .returned (.slice (some ⟨g, 0, none⟩) (ln - 1) cr) ∧ Ri B w' (.slice (some ⟨g, 0, none⟩) (ln - 1) cr) (cut lL k) ∧ WX.grownBy w' (some g) := by
    have h := pdel B g cr k lL WX (by rw [HLN.out]; exact RX) (by rw [HLN.out]; exact hk) (by rw [HLN.out]; exact hcr0)
    rw [HLN.out] at h
    exact h
  clear q0 qs hck BX
  refine wp_region_held_drew (S := (fun u => u.cell? ⟨lb, 0, none⟩ = some (.slice (some ⟨gm, 0, none⟩) m cp))) (by kernel_rfl) (by rw [hWW]; exact CX.c0) (fun hH => ?_)
  rw [hWW] at hH ⊢
  clear hWW
  refine wpAnyH_take (i := 0) (oi := { dst := some 18, op := Op.move (Operand.tmp 0), type := 116, pos := "l15_memory.go:294", after := #[], guard := none }) (v := .pointer (some ⟨lb, 0, none⟩)) rfl (by kernel_rfl) (by kernel_rfl) (by kernel_rfl) (fun _ _ _ h => h) (Or.inl ⟨by rfl, fun w0 hSw => by (go_simp)⟩) hH ?_
  simp only [Act.put, List.setIfInBounds_toArray, List.set_cons_zero, List.set_cons_succ]
  refine wpAnyH_take (i := 1) (oi := { dst := some 19, op := Op.nilCheck (Operand.tmp 18), type := 0, pos := "l15_memory.go:294", after := #[{ on := 0, ground := Ground.data }], guard := none }) (v := .pointer (some ⟨lb, 0, none⟩)) rfl (by kernel_rfl) (by kernel_rfl) (by kernel_rfl) (fun _ _ _ h => h) (Or.inl ⟨by rfl, fun w0 hSw => by (go_simp)⟩) hH ?_
  simp only [Act.put, List.setIfInBounds_toArray, List.set_cons_zero, List.set_cons_succ]
  refine wpAnyH_take (i := 2) (oi := { dst := some 20, op := Op.fieldAddr 88 (Operand.tmp 19) 0, type := 0, pos := "l15_memory.go:294", after := #[{ on := 1, ground := Ground.data }], guard := none }) (v := .pointer (some ⟨lb, 0, none⟩)) rfl (by kernel_rfl) (by kernel_rfl) (by kernel_rfl) (fun _ _ _ h => h) (Or.inl ⟨by rfl, fun w0 hSw => by (go_simp)⟩) hH ?_
  simp only [Act.put, List.setIfInBounds_toArray, List.set_cons_zero, List.set_cons_succ]
  refine wpAnyH_take (i := 3) (oi := { dst := some 21, op := Op.load 40 (Operand.tmp 20), type := 40, pos := "l15_memory.go:294", after := #[{ on := 2, ground := Ground.data }], guard := none }) (v := .slice (some ⟨gm, 0, none⟩) m cp) rfl (by kernel_rfl) (by kernel_rfl) (by kernel_rfl) (fun _ _ _ h => h) (Or.inl ⟨by rfl, fun w0 hSw => by ((have e4 := hSw); go_simp)⟩) hH ?_
  simp only [Act.put, List.setIfInBounds_toArray, List.set_cons_zero, List.set_cons_succ]
  refine wpAnyH_take (i := 4) (oi := { dst := some 22, op := Op.move (Operand.tmp 1), type := 3, pos := "l15_memory.go:294", after := #[], guard := none }) (v := .int .i64 (s : Int)) rfl (by kernel_rfl) (by kernel_rfl) (by kernel_rfl) (fun _ _ _ h => h) (Or.inl ⟨by rfl, fun w0 hSw => by (go_simp)⟩) hH ?_
  simp only [Act.put, List.setIfInBounds_toArray, List.set_cons_zero, List.set_cons_succ]
  refine wpAnyH_take (i := 5) (oi := { dst := some 23, op := Op.move (Operand.tmp 0), type := 116, pos := "l15_memory.go:294", after := #[], guard := none }) (v := .pointer (some ⟨lb, 0, none⟩)) rfl (by kernel_rfl) (by kernel_rfl) (by kernel_rfl) (fun _ _ _ h => h) (Or.inl ⟨by rfl, fun w0 hSw => by (go_simp)⟩) hH ?_
  simp only [Act.put, List.setIfInBounds_toArray, List.set_cons_zero, List.set_cons_succ]
  refine wpAnyH_take (i := 6) (oi := { dst := some 24, op := Op.nilCheck (Operand.tmp 23), type := 0, pos := "l15_memory.go:294", after := #[{ on := 5, ground := Ground.data }], guard := none }) (v := .pointer (some ⟨lb, 0, none⟩)) rfl (by kernel_rfl) (by kernel_rfl) (by kernel_rfl) (fun _ _ _ h => h) (Or.inl ⟨by rfl, fun w0 hSw => by (go_simp)⟩) hH ?_
  simp only [Act.put, List.setIfInBounds_toArray, List.set_cons_zero, List.set_cons_succ]
  refine wpAnyH_take (i := 7) (oi := { dst := some 25, op := Op.fieldAddr 88 (Operand.tmp 24) 0, type := 0, pos := "l15_memory.go:294", after := #[{ on := 6, ground := Ground.data }], guard := none }) (v := .pointer (some ⟨lb, 0, none⟩)) rfl (by kernel_rfl) (by kernel_rfl) (by kernel_rfl) (fun _ _ _ h => h) (Or.inl ⟨by rfl, fun w0 hSw => by (go_simp)⟩) hH ?_
  simp only [Act.put, List.setIfInBounds_toArray, List.set_cons_zero, List.set_cons_succ]
  refine wpAnyH_take (i := 8) (oi := { dst := some 26, op := Op.load 40 (Operand.tmp 25), type := 40, pos := "l15_memory.go:294", after := #[{ on := 7, ground := Ground.data }], guard := none }) (v := .slice (some ⟨gm, 0, none⟩) m cp) rfl (by kernel_rfl) (by kernel_rfl) (by kernel_rfl) (fun _ _ _ h => h) (Or.inl ⟨by rfl, fun w0 hSw => by ((have e4 := hSw); go_simp)⟩) hH ?_
  simp only [Act.put, List.setIfInBounds_toArray, List.set_cons_zero, List.set_cons_succ]
  refine wpAnyH_take (i := 9) (oi := { dst := some 27, op := Op.move (Operand.tmp 1), type := 3, pos := "l15_memory.go:294", after := #[], guard := none }) (v := .int .i64 (s : Int)) rfl (by kernel_rfl) (by kernel_rfl) (by kernel_rfl) (fun _ _ _ h => h) (Or.inl ⟨by rfl, fun w0 hSw => by (go_simp)⟩) hH ?_
  simp only [Act.put, List.setIfInBounds_toArray, List.set_cons_zero, List.set_cons_succ]
  refine wpAnyH_take (i := 10) (oi := { dst := some 28, op := Op.indexAddr 40 (Operand.tmp 26) (Operand.tmp 27), type := 0, pos := "l15_memory.go:294", after := #[{ on := 8, ground := Ground.data }, { on := 9, ground := Ground.data }], guard := none }) (v := .pointer (some ⟨gm, s, none⟩)) rfl (by kernel_rfl) (by kernel_rfl) (by kernel_rfl) (fun _ _ _ h => h) (Or.inl ⟨by rfl, fun w0 hSw => by (go_simp <;> first | (intro h; exfalso; omega) | exact (IntKind.wrap_i64 _).trans (by omega) | omega)⟩) hH ?_
  simp only [Act.put, List.setIfInBounds_toArray, List.set_cons_zero, List.set_cons_succ]
  refine wpAnyH_take (i := 12) (oi := { dst := some 30, op := Op.move (Operand.tmp 2), type := 3, pos := "l15_memory.go:294", after := #[], guard := none }) (v := .int .i64 (k : Int)) rfl (by kernel_rfl) (by kernel_rfl) (by kernel_rfl) (fun _ _ _ h => h) (Or.inl ⟨by rfl, fun w0 hSw => by (go_simp)⟩) hH ?_
  simp only [Act.put, List.setIfInBounds_toArray, List.set_cons_zero, List.set_cons_succ]
  refine wpAnyH_take (i := 13) (oi := { dst := some 31, op := Op.move (Operand.tmp 2), type := 3, pos := "l15_memory.go:294", after := #[], guard := none }) (v := .int .i64 (k : Int)) rfl (by kernel_rfl) (by kernel_rfl) (by kernel_rfl) (fun _ _ _ h => h) (Or.inl ⟨by rfl, fun w0 hSw => by (go_simp)⟩) hH ?_
  simp only [Act.put, List.setIfInBounds_toArray, List.set_cons_zero, List.set_cons_succ]
  refine wpAnyH_take (i := 14) (oi := { dst := some 32, op := Op.binOp BinOp.add 3 (Operand.tmp 31) (Operand.const (Value.int IntKind.i64 1)) 3, type := 3, pos := "l15_memory.go:294", after := #[{ on := 13, ground := Ground.data }], guard := none }) (v := .int .i64 ((k : Int) + 1)) rfl (by kernel_rfl) (by kernel_rfl) (by kernel_rfl) (fun _ _ _ h => h) (Or.inl ⟨by rfl, fun w0 hSw => by (go_simp <;> first | (intro h; exfalso; omega) | exact (IntKind.wrap_i64 _).trans (by omega) | omega)⟩) hH ?_
  simp only [Act.put, List.setIfInBounds_toArray, List.set_cons_zero, List.set_cons_succ]
  refine wpAnyH_ready (rs := [11]) (by kernel_rfl) (by simp) ?_
  refine (AllReadyH.cons (o := { dst := some 29, op := Op.load 23 (Operand.tmp 28), type := 23, pos := "l15_memory.go:294", after := #[{ on := 10, ground := Ground.data }], guard := none }) rfl (fun K hK => ?_) AllReadyH.nil)
  refine step_val (.slice (some ⟨g, 0, none⟩) ln cr) WX (by rfl) (by have h1 := hcg; go_simp) ?_
  simp only [Act.put, List.setIfInBounds_toArray, List.set_cons_zero, List.set_cons_succ]
  refine hK.out _ _ CX.c0 (fun hH' => ?_)
  clear hK K
  replace hH := hH'
  clear hH'
  refine wpAnyH_ready (rs := [15]) (by kernel_rfl) (by simp) ?_
  refine (AllReadyH.cons (o := { dst := some 33, op := Op.call { callee := Callee.value (Operand.func 89), args := #[Operand.tmp 29, Operand.tmp 30, Operand.tmp 32], argTypes := #[23, 3, 3] }, type := 23, pos := "l15_memory.go:294", after := #[{ on := 11, ground := Ground.data }, { on := 12, ground := Ground.data }, { on := 14, ground := Ground.data }], guard := none }) rfl (fun K hK => ?_) AllReadyH.nil)
  refine step_callC 89 #[.slice (some ⟨g, 0, none⟩) ln cr, .int .i64 (k : Int), .int .i64 ((k : Int) + 1)] (fun z v w' => z = .slice (some ⟨g, 0, none⟩) (ln - 1) cr ∧ Ri B w' (.slice (some ⟨g, 0, none⟩) (ln - 1) cr) (cut lL k) ∧ v.grownBy w' (some g)) (by rfl) (by go_simp) (h89.mono fun e w' ⟨h1, h2, h3⟩ => ⟨_, h1, rfl, h2, h3⟩) ?_
  rintro z4 w4 ⟨rfl, R4, G4⟩
  have ngm : some gm ≠ some g := fun e => KX.ng s hs (by rw [HU.out]; exact e.symm)
  have nhb : some lb ≠ some g := fun e => KX.nh s hs (by rw [HU.out]; exact e.symm)
  have b1 := G4.block gm KX.hg ngm
  have C4 := CX.block (G4.block lb KX.hh nhb) G4.size
  have cg4 : w4.cell? ⟨gm, s, none⟩ = some (U s) := (World.cell?_of_block (w := WX) (a := ⟨gm, s, none⟩) b1).trans (KX.c s hs)
  have fg4 : w4.frozen? ⟨gm, s, none⟩ = false := (World.frozen?_of_block (w := WX) (a := ⟨gm, s, none⟩) b1).trans (KX.f s)
  have own : ∀ q, some g = some q → (U s).ownBlock = some q ∨ ((∀ x, x < m → (U x).ownBlock ≠ some q) ∧ q ≠ gm ∧ q ≠ lb) := fun q hq => Or.inl (by rw [HU.out]; exact hq)
  have KN := KX.put hs G4 own R4 own
  have FN := F0.out.trans (KX.fr (v := .slice (some ⟨g, 0, none⟩) (ln - 1) cr) hs G4 (fun q hq => Or.inl (by rw [HU.out]; exact hq)) (fun q hq => Or.inl (by rw [HU.out]; exact hq)))
  have CN := C4.block (show (w4.setCell ⟨gm, s, none⟩ (.slice (some ⟨g, 0, none⟩) (ln - 1) cr)).heap[lb]? = w4.heap[lb]? from Below.heap_setCell _ _ _ _ (fun e => KX.gh e.symm)) (by simp)
  simp only [Act.put, List.setIfInBounds_toArray, List.set_cons_zero, List.set_cons_succ]
  refine hK.out _ _ C4.c0 (fun hH' => ?_)
  clear hK K
  replace hH := hH'
  clear hH'
  clear G4 R4
  refine wpAnyH_take (i := 16) (oi := { dst := some 34, op := Op.indexAddr 40 (Operand.tmp 21) (Operand.tmp 22), type := 0, pos := "l15_memory.go:294", after := #[{ on := 3, ground := Ground.data }, { on := 4, ground := Ground.data }, { on := 0, ground := Ground.phase }, { on := 1, ground := Ground.phase }, { on := 2, ground := Ground.phase }, { on := 3, ground := Ground.phase }, { on := 4, ground := Ground.phase }, { on := 5, ground := Ground.phase }, { on := 6, ground := Ground.phase }, { on := 7, ground := Ground.phase }, { on := 8, ground := Ground.phase }, { on := 9, ground := Ground.phase }, { on := 10, ground := Ground.phase }, { on := 11, ground := Ground.phase }, { on := 12, ground := Ground.phase }, { on := 13, ground := Ground.phase }, { on := 14, ground := Ground.phase }, { on := 15, ground := Ground.phase }], guard := none }) (v := .pointer (some ⟨gm, s, none⟩)) rfl (by kernel_rfl) (by kernel_rfl) (by kernel_rfl) (fun _ _ _ h => h) (Or.inl ⟨by rfl, fun w0 hSw => by (go_simp <;> first | (intro h; exfalso; omega) | exact (IntKind.wrap_i64 _).trans (by omega) | omega)⟩) hH ?_
  simp only [Act.put, List.setIfInBounds_toArray, List.set_cons_zero, List.set_cons_succ]
  refine wpAnyH_ready (rs := [17]) (by kernel_rfl) (by simp) ?_
  refine (AllReadyH.cons (o := { dst := none, op := Op.store 23 (Operand.tmp 34) (Operand.tmp 33), type := 0, pos := "l15_memory.go:294", after := #[{ on := 16, ground := Ground.data }, { on := 15, ground := Ground.data }, { on := 15, ground := Ground.chain }, { on := 0, ground := Ground.phase }, { on := 1, ground := Ground.phase }, { on := 2, ground := Ground.phase }, { on := 3, ground := Ground.phase }, { on := 4, ground := Ground.phase }, { on := 5, ground := Ground.phase }, { on := 6, ground := Ground.phase }, { on := 7, ground := Ground.phase }, { on := 8, ground := Ground.phase }, { on := 9, ground := Ground.phase }, { on := 10, ground := Ground.phase }, { on := 11, ground := Ground.phase }, { on := 12, ground := Ground.phase }, { on := 13, ground := Ground.phase }, { on := 14, ground := Ground.phase }, { on := 15, ground := Ground.phase }], guard := none }) rfl (fun K hK => ?_) AllReadyH.nil)
  refine step_skip (w4.setCell ⟨gm, s, none⟩ (.slice (some ⟨g, 0, none⟩) (ln - 1) cr)) (by rfl) (by go_simp) ?_
  refine hK.out _ _ CN.c0 (fun hH' => ?_)
  clear hK K hH' hH
  refine wpAnyH_done (by kernel_rfl) ?_ _
  go_wp2
  go_ret
  exact ⟨rfl, CN, _, KN, FN⟩
set_option maxRecDepth 100000 in
set_option maxHeartbeats 1000000 in
theorem play (B lb gm m cp y l s : Nat) (U : Nat → Value) (L : Nat → List Int) (pv : Value) (coin : Int) (nn : Int) (w : World) (C : C5 w lb (.slice (some ⟨gm, 0, none⟩) m cp) (.int .i64 (y : Int)) (.int .i64 (l : Int)) pv (.int .i64 coin)) (K : Kx B w lb gm m U L) (hs : s < m) (m2 : m ≤ 64) (cpm : m ≤ cp) (hl : (L s).length ≤ 8) : Calls Try.prog 81 #[.pointer (some ⟨lb, 0, none⟩), .int .i64 (s : Int), .int .i64 nn] w fun e w' => e = .returned (.tuple #[]) ∧ C5 w' lb (.slice (some ⟨gm, 0, none⟩) m cp) (.int .i64 (y : Int)) (.int .i64 (l : Int)) pv (.int .i64 coin) ∧ ∃ U', Kx B w' lb gm m U' (upL L s (L s ++ [nn])) ∧ Fr lb gm m U U' w w' := by
  obtain ⟨i3, hi3, hz30, hz31, hz32⟩ := info_parts info3
  obtain ⟨ad, cr, hU, hcr0, hga⟩ := row_form K hs
  have HU : Hid (U s = .slice ad (L s).length cr) := hU
  have HR0 : Hid (Ri B w (.slice ad (L s).length cr) (L s)) := by have := K.r s hs; rw [hU] at this; exact this
  have qs := K.c s hs
  rw [hU] at qs
  have s0 : (0 : Int) ≤ (s : Int) := by omega
  have s1 : (s : Int) < (m : Int) := by omega
  generalize L s = lL at qs HU HR0 hcr0 hl hga ⊢
  obtain ⟨ln, hln⟩ : ∃ ln, lL.length = ln := ⟨_, rfl⟩
  have HLN : Hid (lL.length = ln) := hln
  rw [hln] at qs HR0 hcr0 hl HU hga
  have HVW : Hid (∀ q, (Value.slice ad ln cr).ownBlock = some q → (U s).ownBlock = some q ∨ w.heap.size ≤ q) := fun q hq => Or.inl (by rw [HU.out]; exact hq)
  have KH := Hid.mk K
  have CH := Hid.mk C
  clear C K hU hln hga
  go_enter Try.func81, Try.ntmps81
  go_wp2
  generalize hWW : w.drew = WX
  have BX : Below w.heap.size w WX := by rw [← hWW]; exact below_drew (Below.refl _ _)
  have KX := KH.out.next BX
  have CX := CH.out.next BX
  have RX := HR0.out.next BX
  have F0 : Hid (Fr lb gm m U U w WX) := Fr.ofBelow BX
  have hcg := cell_nx qs BX
  clear qs BX
  refine wp_region_held_drew (S := (fun u => u.cell? ⟨lb, 0, none⟩ = some (.slice (some ⟨gm, 0, none⟩) m cp))) (by kernel_rfl) (by rw [hWW]; exact CX.c0) (fun hH => ?_)
  rw [hWW] at hH ⊢
  clear hWW
  refine wpAnyH_take (i := 0) (oi := { dst := some 6, op := Op.move (Operand.tmp 0), type := 116, pos := "l15_memory.go:289", after := #[], guard := none }) (v := .pointer (some ⟨lb, 0, none⟩)) rfl (by kernel_rfl) (by kernel_rfl) (by kernel_rfl) (fun _ _ _ h => h) (Or.inl ⟨by rfl, fun w0 hSw => by (go_simp)⟩) hH ?_
  simp only [Act.put, List.setIfInBounds_toArray, List.set_cons_zero, List.set_cons_succ]
  refine wpAnyH_take (i := 1) (oi := { dst := some 7, op := Op.nilCheck (Operand.tmp 6), type := 0, pos := "l15_memory.go:289", after := #[{ on := 0, ground := Ground.data }], guard := none }) (v := .pointer (some ⟨lb, 0, none⟩)) rfl (by kernel_rfl) (by kernel_rfl) (by kernel_rfl) (fun _ _ _ h => h) (Or.inl ⟨by rfl, fun w0 hSw => by (go_simp)⟩) hH ?_
  simp only [Act.put, List.setIfInBounds_toArray, List.set_cons_zero, List.set_cons_succ]
  refine wpAnyH_take (i := 2) (oi := { dst := some 8, op := Op.fieldAddr 88 (Operand.tmp 7) 0, type := 0, pos := "l15_memory.go:289", after := #[{ on := 1, ground := Ground.data }], guard := none }) (v := .pointer (some ⟨lb, 0, none⟩)) rfl (by kernel_rfl) (by kernel_rfl) (by kernel_rfl) (fun _ _ _ h => h) (Or.inl ⟨by rfl, fun w0 hSw => by (go_simp)⟩) hH ?_
  simp only [Act.put, List.setIfInBounds_toArray, List.set_cons_zero, List.set_cons_succ]
  refine wpAnyH_take (i := 3) (oi := { dst := some 9, op := Op.load 40 (Operand.tmp 8), type := 40, pos := "l15_memory.go:289", after := #[{ on := 2, ground := Ground.data }], guard := none }) (v := .slice (some ⟨gm, 0, none⟩) m cp) rfl (by kernel_rfl) (by kernel_rfl) (by kernel_rfl) (fun _ _ _ h => h) (Or.inl ⟨by rfl, fun w0 hSw => by ((have e4 := hSw); go_simp)⟩) hH ?_
  simp only [Act.put, List.setIfInBounds_toArray, List.set_cons_zero, List.set_cons_succ]
  refine wpAnyH_take (i := 4) (oi := { dst := some 10, op := Op.move (Operand.tmp 1), type := 3, pos := "l15_memory.go:289", after := #[], guard := none }) (v := .int .i64 (s : Int)) rfl (by kernel_rfl) (by kernel_rfl) (by kernel_rfl) (fun _ _ _ h => h) (Or.inl ⟨by rfl, fun w0 hSw => by (go_simp)⟩) hH ?_
  simp only [Act.put, List.setIfInBounds_toArray, List.set_cons_zero, List.set_cons_succ]
  refine wpAnyH_take (i := 5) (oi := { dst := some 11, op := Op.move (Operand.tmp 0), type := 116, pos := "l15_memory.go:289", after := #[], guard := none }) (v := .pointer (some ⟨lb, 0, none⟩)) rfl (by kernel_rfl) (by kernel_rfl) (by kernel_rfl) (fun _ _ _ h => h) (Or.inl ⟨by rfl, fun w0 hSw => by (go_simp)⟩) hH ?_
  simp only [Act.put, List.setIfInBounds_toArray, List.set_cons_zero, List.set_cons_succ]
  refine wpAnyH_take (i := 6) (oi := { dst := some 12, op := Op.nilCheck (Operand.tmp 11), type := 0, pos := "l15_memory.go:289", after := #[{ on := 5, ground := Ground.data }], guard := none }) (v := .pointer (some ⟨lb, 0, none⟩)) rfl (by kernel_rfl) (by kernel_rfl) (by kernel_rfl) (fun _ _ _ h => h) (Or.inl ⟨by rfl, fun w0 hSw => by (go_simp)⟩) hH ?_
  simp only [Act.put, List.setIfInBounds_toArray, List.set_cons_zero, List.set_cons_succ]
  refine wpAnyH_take (i := 7) (oi := { dst := some 13, op := Op.fieldAddr 88 (Operand.tmp 12) 0, type := 0, pos := "l15_memory.go:289", after := #[{ on := 6, ground := Ground.data }], guard := none }) (v := .pointer (some ⟨lb, 0, none⟩)) rfl (by kernel_rfl) (by kernel_rfl) (by kernel_rfl) (fun _ _ _ h => h) (Or.inl ⟨by rfl, fun w0 hSw => by (go_simp)⟩) hH ?_
  simp only [Act.put, List.setIfInBounds_toArray, List.set_cons_zero, List.set_cons_succ]
  refine wpAnyH_take (i := 8) (oi := { dst := some 14, op := Op.load 40 (Operand.tmp 13), type := 40, pos := "l15_memory.go:289", after := #[{ on := 7, ground := Ground.data }], guard := none }) (v := .slice (some ⟨gm, 0, none⟩) m cp) rfl (by kernel_rfl) (by kernel_rfl) (by kernel_rfl) (fun _ _ _ h => h) (Or.inl ⟨by rfl, fun w0 hSw => by ((have e4 := hSw); go_simp)⟩) hH ?_
  simp only [Act.put, List.setIfInBounds_toArray, List.set_cons_zero, List.set_cons_succ]
  refine wpAnyH_take (i := 9) (oi := { dst := some 15, op := Op.move (Operand.tmp 1), type := 3, pos := "l15_memory.go:289", after := #[], guard := none }) (v := .int .i64 (s : Int)) rfl (by kernel_rfl) (by kernel_rfl) (by kernel_rfl) (fun _ _ _ h => h) (Or.inl ⟨by rfl, fun w0 hSw => by (go_simp)⟩) hH ?_
  simp only [Act.put, List.setIfInBounds_toArray, List.set_cons_zero, List.set_cons_succ]
  refine wpAnyH_take (i := 10) (oi := { dst := some 16, op := Op.indexAddr 40 (Operand.tmp 14) (Operand.tmp 15), type := 0, pos := "l15_memory.go:289", after := #[{ on := 8, ground := Ground.data }, { on := 9, ground := Ground.data }], guard := none }) (v := .pointer (some ⟨gm, s, none⟩)) rfl (by kernel_rfl) (by kernel_rfl) (by kernel_rfl) (fun _ _ _ h => h) (Or.inl ⟨by rfl, fun w0 hSw => by (go_simp <;> first | (intro h; exfalso; omega) | exact (IntKind.wrap_i64 _).trans (by omega) | omega)⟩) hH ?_
  simp only [Act.put, List.setIfInBounds_toArray, List.set_cons_zero, List.set_cons_succ]
  refine wpAnyH_take (i := 12) (oi := { dst := some 18, op := Op.move (Operand.tmp 2), type := 3, pos := "l15_memory.go:289", after := #[], guard := none }) (v := .int .i64 nn) rfl (by kernel_rfl) (by kernel_rfl) (by kernel_rfl) (fun _ _ _ h => h) (Or.inl ⟨by rfl, fun w0 hSw => by (go_simp)⟩) hH ?_
  simp only [Act.put, List.setIfInBounds_toArray, List.set_cons_zero, List.set_cons_succ]
  refine wpAnyH_ready (rs := [11, 13]) (by kernel_rfl) (by simp) ?_
  refine (AllReadyH.cons (o := { dst := some 17, op := Op.load 23 (Operand.tmp 16), type := 23, pos := "l15_memory.go:289", after := #[{ on := 10, ground := Ground.data }], guard := none }) rfl (fun K hK => ?_) (AllReadyH.cons (o := { dst := some 19, op := Op.buildSlice 23 1 #[(0, Operand.tmp 18)], type := 23, pos := "l15_memory.go:289", after := #[{ on := 12, ground := Ground.data }], guard := none }) rfl (fun K hK => ?_) AllReadyH.nil))
  · refine step_val (.slice ad ln cr) WX (by rfl) (by have h1 := hcg; go_simp) ?_
    simp only [Act.put, List.setIfInBounds_toArray, List.set_cons_zero, List.set_cons_succ]
    refine hK.out _ _ CX.c0 (fun hH' => ?_)
    clear hK K
    replace hH := hH'
    clear hH'
    refine wpAnyH_ready (rs := [13]) (by kernel_rfl) (by simp) ?_
    refine (AllReadyH.cons (o := { dst := some 19, op := Op.buildSlice 23 1 #[(0, Operand.tmp 18)], type := 23, pos := "l15_memory.go:289", after := #[{ on := 12, ground := Ground.data }], guard := none }) rfl (fun K hK => ?_) AllReadyH.nil)
    refine step_val (.slice (some ⟨WX.heap.size, 0, none⟩) 1 1) (WX.alloc (.cells #[.int .i64 nn] 3)) (by rfl) (by go_simp) ?_
    simp only [Act.put, List.setIfInBounds_toArray, List.set_cons_zero, List.set_cons_succ]
    refine hK.out _ _ (cell_nx CX.c0 (alloc_b (o := .cells #[.int .i64 nn] 3))) (fun hH' => ?_)
    clear hK K
    replace hH := hH'
    clear hH'
    refine wpAnyH_ready (rs := [14]) (by kernel_rfl) (by simp) ?_
    refine (AllReadyH.cons (o := { dst := some 20, op := Op.call { callee := Callee.builtin Builtin.append, args := #[Operand.tmp 17, Operand.tmp 19], argTypes := #[23, 23] }, type := 23, pos := "l15_memory.go:289", after := #[{ on := 11, ground := Ground.data }, { on := 13, ground := Ground.data }], guard := none }) rfl (fun K hK => ?_) AllReadyH.nil)
    obtain ⟨v4, w4, hr4, R4, G4, A4⟩ := run_append_ri (P := Try.prog) 23 Try.underlying23 hi3 hz30 hz31 hz32 (RX.next (alloc_b (o := .cells #[.int .i64 nn] 3))) (ARow.one WX nn) (by have h9 := HLN.out; simp; omega)
    obtain ⟨cg4, fg4, hb4, sz4, hb5, KN, FN⟩ := Kx.laid KH.out F0.out KX hs HVW.out (fun q hq => (RX.lt q hq).2) G4 A4 R4
    have C4 := CX.block hb4 sz4
    have CN := CX.block hb5 (by simpa using sz4)
    refine step_app (.tmp 17) (.tmp 19) 23 _ _ v4 w4 (by rfl) (by rfl) (by rfl) (by rfl) hr4 ?_
    simp only [Act.put, List.setIfInBounds_toArray, List.set_cons_zero, List.set_cons_succ]
    refine hK.out _ _ C4.c0 (fun hH' => ?_)
    clear hK K
    replace hH := hH'
    clear hH'
    clear hr4 G4 A4
    refine wpAnyH_take (i := 15) (oi := { dst := some 21, op := Op.indexAddr 40 (Operand.tmp 9) (Operand.tmp 10), type := 0, pos := "l15_memory.go:289", after := #[{ on := 3, ground := Ground.data }, { on := 4, ground := Ground.data }, { on := 0, ground := Ground.phase }, { on := 1, ground := Ground.phase }, { on := 2, ground := Ground.phase }, { on := 3, ground := Ground.phase }, { on := 4, ground := Ground.phase }, { on := 5, ground := Ground.phase }, { on := 6, ground := Ground.phase }, { on := 7, ground := Ground.phase }, { on := 8, ground := Ground.phase }, { on := 9, ground := Ground.phase }, { on := 10, ground := Ground.phase }, { on := 11, ground := Ground.phase }, { on := 12, ground := Ground.phase }, { on := 13, ground := Ground.phase }, { on := 14, ground := Ground.phase }], guard := none }) (v := .pointer (some ⟨gm, s, none⟩)) rfl (by kernel_rfl) (by kernel_rfl) (by kernel_rfl) (fun _ _ _ h => h) (Or.inl ⟨by rfl, fun w0 hSw => by (go_simp <;> first | (intro h; exfalso; omega) | exact (IntKind.wrap_i64 _).trans (by omega) | omega)⟩) hH ?_
    simp only [Act.put, List.setIfInBounds_toArray, List.set_cons_zero, List.set_cons_succ]
    refine wpAnyH_ready (rs := [16]) (by kernel_rfl) (by simp) ?_
    refine (AllReadyH.cons (o := { dst := none, op := Op.store 23 (Operand.tmp 21) (Operand.tmp 20), type := 0, pos := "l15_memory.go:289", after := #[{ on := 15, ground := Ground.data }, { on := 14, ground := Ground.data }, { on := 14, ground := Ground.chain }, { on := 0, ground := Ground.phase }, { on := 1, ground := Ground.phase }, { on := 2, ground := Ground.phase }, { on := 3, ground := Ground.phase }, { on := 4, ground := Ground.phase }, { on := 5, ground := Ground.phase }, { on := 6, ground := Ground.phase }, { on := 7, ground := Ground.phase }, { on := 8, ground := Ground.phase }, { on := 9, ground := Ground.phase }, { on := 10, ground := Ground.phase }, { on := 11, ground := Ground.phase }, { on := 12, ground := Ground.phase }, { on := 13, ground := Ground.phase }, { on := 14, ground := Ground.phase }], guard := none }) rfl (fun K hK => ?_) AllReadyH.nil)
    refine step_skip (w4.setCell ⟨gm, s, none⟩ v4) (by rfl) (by obtain ⟨a4, k4, hv4, _⟩ := R4.arow; rw [hv4]; go_simp) ?_
    refine hK.out _ _ CN.c0 (fun hH' => ?_)
    clear hK K hH' hH
    refine wpAnyH_done (by kernel_rfl) ?_ _
    go_wp2
    go_end0
    exact ⟨rfl, CN, _, KN, FN⟩
  · refine step_val (.slice (some ⟨WX.heap.size, 0, none⟩) 1 1) (WX.alloc (.cells #[.int .i64 nn] 3)) (by rfl) (by go_simp) ?_
    simp only [Act.put, List.setIfInBounds_toArray, List.set_cons_zero, List.set_cons_succ]
    refine hK.out _ _ (cell_nx CX.c0 (alloc_b (o := .cells #[.int .i64 nn] 3))) (fun hH' => ?_)
    clear hK K
    replace hH := hH'
    clear hH'
    refine wpAnyH_ready (rs := [11]) (by kernel_rfl) (by simp) ?_
    refine (AllReadyH.cons (o := { dst := some 17, op := Op.load 23 (Operand.tmp 16), type := 23, pos := "l15_memory.go:289", after := #[{ on := 10, ground := Ground.data }], guard := none }) rfl (fun K hK => ?_) AllReadyH.nil)
    refine step_val (.slice ad ln cr) (WX.alloc (.cells #[.int .i64 nn] 3)) (by rfl) (by have h1 := (cell_nx hcg (alloc_b (o := .cells #[.int .i64 nn] 3))); go_simp) ?_
    simp only [Act.put, List.setIfInBounds_toArray, List.set_cons_zero, List.set_cons_succ]
    refine hK.out _ _ (cell_nx CX.c0 (alloc_b (o := .cells #[.int .i64 nn] 3))) (fun hH' => ?_)
    clear hK K
    replace hH := hH'
    clear hH'
    refine wpAnyH_ready (rs := [14]) (by kernel_rfl) (by simp) ?_
    refine (AllReadyH.cons (o := { dst := some 20, op := Op.call { callee := Callee.builtin Builtin.append, args := #[Operand.tmp 17, Operand.tmp 19], argTypes := #[23, 23] }, type := 23, pos := "l15_memory.go:289", after := #[{ on := 11, ground := Ground.data }, { on := 13, ground := Ground.data }], guard := none }) rfl (fun K hK => ?_) AllReadyH.nil)
    obtain ⟨v4, w4, hr4, R4, G4, A4⟩ := run_append_ri (P := Try.prog) 23 Try.underlying23 hi3 hz30 hz31 hz32 (RX.next (alloc_b (o := .cells #[.int .i64 nn] 3))) (ARow.one WX nn) (by have h9 := HLN.out; simp; omega)
    obtain ⟨cg4, fg4, hb4, sz4, hb5, KN, FN⟩ := Kx.laid KH.out F0.out KX hs HVW.out (fun q hq => (RX.lt q hq).2) G4 A4 R4
    have C4 := CX.block hb4 sz4
    have CN := CX.block hb5 (by simpa using sz4)
    refine step_app (.tmp 17) (.tmp 19) 23 _ _ v4 w4 (by rfl) (by rfl) (by rfl) (by rfl) hr4 ?_
    simp only [Act.put, List.setIfInBounds_toArray, List.set_cons_zero, List.set_cons_succ]
    refine hK.out _ _ C4.c0 (fun hH' => ?_)
    clear hK K
    replace hH := hH'
    clear hH'
    clear hr4 G4 A4
    refine wpAnyH_take (i := 15) (oi := { dst := some 21, op := Op.indexAddr 40 (Operand.tmp 9) (Operand.tmp 10), type := 0, pos := "l15_memory.go:289", after := #[{ on := 3, ground := Ground.data }, { on := 4, ground := Ground.data }, { on := 0, ground := Ground.phase }, { on := 1, ground := Ground.phase }, { on := 2, ground := Ground.phase }, { on := 3, ground := Ground.phase }, { on := 4, ground := Ground.phase }, { on := 5, ground := Ground.phase }, { on := 6, ground := Ground.phase }, { on := 7, ground := Ground.phase }, { on := 8, ground := Ground.phase }, { on := 9, ground := Ground.phase }, { on := 10, ground := Ground.phase }, { on := 11, ground := Ground.phase }, { on := 12, ground := Ground.phase }, { on := 13, ground := Ground.phase }, { on := 14, ground := Ground.phase }], guard := none }) (v := .pointer (some ⟨gm, s, none⟩)) rfl (by kernel_rfl) (by kernel_rfl) (by kernel_rfl) (fun _ _ _ h => h) (Or.inl ⟨by rfl, fun w0 hSw => by (go_simp <;> first | (intro h; exfalso; omega) | exact (IntKind.wrap_i64 _).trans (by omega) | omega)⟩) hH ?_
    simp only [Act.put, List.setIfInBounds_toArray, List.set_cons_zero, List.set_cons_succ]
    refine wpAnyH_ready (rs := [16]) (by kernel_rfl) (by simp) ?_
    refine (AllReadyH.cons (o := { dst := none, op := Op.store 23 (Operand.tmp 21) (Operand.tmp 20), type := 0, pos := "l15_memory.go:289", after := #[{ on := 15, ground := Ground.data }, { on := 14, ground := Ground.data }, { on := 14, ground := Ground.chain }, { on := 0, ground := Ground.phase }, { on := 1, ground := Ground.phase }, { on := 2, ground := Ground.phase }, { on := 3, ground := Ground.phase }, { on := 4, ground := Ground.phase }, { on := 5, ground := Ground.phase }, { on := 6, ground := Ground.phase }, { on := 7, ground := Ground.phase }, { on := 8, ground := Ground.phase }, { on := 9, ground := Ground.phase }, { on := 10, ground := Ground.phase }, { on := 11, ground := Ground.phase }, { on := 12, ground := Ground.phase }, { on := 13, ground := Ground.phase }, { on := 14, ground := Ground.phase }], guard := none }) rfl (fun K hK => ?_) AllReadyH.nil)
    refine step_skip (w4.setCell ⟨gm, s, none⟩ v4) (by rfl) (by obtain ⟨a4, k4, hv4, _⟩ := R4.arow; rw [hv4]; go_simp) ?_
    refine hK.out _ _ CN.c0 (fun hH' => ?_)
    clear hK K hH' hH
    refine wpAnyH_done (by kernel_rfl) ?_ _
    go_wp2
    go_end0
    exact ⟨rfl, CN, _, KN, FN⟩
end Go.Proofs.Ytfhpjcojccfcoaa
