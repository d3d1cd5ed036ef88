/- The program's add, joined, halved. -/
import Derived.Test.YthkngcdfnemhaaaBa
import Derived.Deep.Cut
namespace Go.Proofs.Ythkngcdfnemhaaa
open Go.ChangeShapes Go.WideShapes Go.ChangeAt Go.RowKit
set_option linter.unusedVariables false
set_option maxRecDepth 100000 in
set_option maxHeartbeats 4000000 in
theorem padd1 (A H : Int) (c : Col) (hc : c.ok) (pb B : Nat) (v : Value) (M : List Int) (w : World) (TP : C4 w pb (.int .i64 A) (.int .i64 H) (fmV 1) v) (YM : Y8 B w v M) (hpb : pb < B) (hM : M.length ≤ 90000) : Calls Try.prog 57 #[.pointer (some ⟨pb, 0, none⟩), colV c] w fun e w' => e = .returned (.tuple #[]) ∧ ∃ v', C4 w' pb (.int .i64 A) (.int .i64 H) (fmV 1) v' ∧ Y8 B w' v' (M ++ pkK 1 c) ∧ Below pb w w' := by
  have hm : ∀ w : World, (method 233 98 (Value.agg #[]) "loop.example/g00053/impl.pack").run Try.prog w = .ok (105, .agg #[]) w := fun w => by kernel_rfl
  have hgd : gdC c.r c.g c.b c.a = true := gdC_iff.2 hc
  have HPK : Hid (∀ w : World, Calls Try.prog 105 #[.agg #[], .agg #[.int .i64 c.r, .int .i64 c.g, .int .i64 c.b, .int .i64 c.a]] w (Pkd w (pkK 1 c))) := fun w => grey104 c.r c.g c.b c.a w hgd
  have HLP : Hid (M.length ≤ 90000 ∧ 1 ≤ (pkK 1 c).length ∧ (pkK 1 c).length ≤ 4) := ⟨hM, by rw [pk_len (by decide)]; decide, by rw [pk_len (by decide)]; decide⟩
  generalize pkK 1 c = LP at HPK HLP ⊢
  have hfm : fmV 1 = .iface 98 (.agg #[]) := rfl
  rw [hfm] at TP ⊢
  obtain ⟨a, cp, rfl⟩ := YM.is
  have TK := C4.new w 25 (.int .i64 c.r) (.int .i64 c.g) (.int .i64 c.b) (.int .i64 c.a)
  replace TP := TP.next (alloc_b (o := (.cells #[.int .i64 c.r, .int .i64 c.g, .int .i64 c.b, .int .i64 c.a] 25)))
  replace YM := YM.alloc (.cells #[.int .i64 c.r, .int .i64 c.g, .int .i64 c.b, .int .i64 c.a] 25)
  have BW : Below pb w (w.alloc (.cells #[.int .i64 c.r, .int .i64 c.g, .int .i64 c.b, .int .i64 c.a] 25)) := alloc_b.mono (by have := YM.2; have := TP.hi; simp at this; omega)
  obtain ⟨W0, hW0⟩ : ∃ z, w.alloc (.cells #[.int .i64 c.r, .int .i64 c.g, .int .i64 c.b, .int .i64 c.a] 25) = z := ⟨_, rfl⟩
  have HW0 := Hid.mk hW0
  rw [hW0] at TK TP YM BW
  clear hW0 hgd hM
  unfold colV
  go_enter Try.func57, Try.ntmps57
  go_upto_region 1 with fail
  rw [HW0.out]
  clear HW0
  replace TP := TP.next (below_drew (Below.refl _ _))
  replace TK := TK.next (below_drew (Below.refl _ _))
  replace YM := YM.next (below_drew (Below.refl _ _))
  replace BW := below_drew BW
  generalize hWW : W0.drew = WX at TP TK YM BW
  obtain ⟨cb, hcb⟩ : ∃ z, w.heap.size = z := ⟨_, rfl⟩
  rw [hcb] at TK ⊢
  clear hcb
  refine wp_region_held_drew (S := fun _ => True) (by kernel_rfl) trivial (fun hH => ?_)
  rw [hWW]
  clear hWW
  refine wpAnyH_take (i := 0) (oi := { dst := some 4, op := Op.move (Operand.tmp 0), type := 109, pos := "l16_texture.go:282", after := #[], guard := none }) (v := .pointer (some ⟨pb, 0, none⟩)) rfl (by kernel_rfl) (by kernel_rfl) (by kernel_rfl) (fun _ _ _ h => h) (Or.inl ⟨by rfl, fun w0 hSw => by (go_simp)⟩) hH ?_
  simp only [Act.put, List.setIfInBounds_toArray, List.set_cons_zero, List.set_cons_succ]
  refine wpAnyH_take (i := 1) (oi := { dst := some 5, op := Op.move (Operand.tmp 0), type := 109, pos := "l16_texture.go:282", after := #[], guard := none }) (v := .pointer (some ⟨pb, 0, none⟩)) rfl (by kernel_rfl) (by kernel_rfl) (by kernel_rfl) (fun _ _ _ h => h) (Or.inl ⟨by rfl, fun w0 hSw => by (go_simp)⟩) hH ?_
  simp only [Act.put, List.setIfInBounds_toArray, List.set_cons_zero, List.set_cons_succ]
  refine wpAnyH_take (i := 2) (oi := { dst := some 6, op := Op.nilCheck (Operand.tmp 5), type := 0, pos := "l16_texture.go:282", after := #[{ on := 1, ground := Ground.data }], guard := none }) (v := .pointer (some ⟨pb, 0, none⟩)) rfl (by kernel_rfl) (by kernel_rfl) (by kernel_rfl) (fun _ _ _ h => h) (Or.inl ⟨by rfl, fun w0 hSw => by (go_simp)⟩) hH ?_
  simp only [Act.put, List.setIfInBounds_toArray, List.set_cons_zero, List.set_cons_succ]
  refine wpAnyH_take (i := 3) (oi := { dst := some 7, op := Op.fieldAddr 81 (Operand.tmp 6) 3, type := 0, pos := "l16_texture.go:282", after := #[{ on := 2, ground := Ground.data }], guard := none }) (v := .pointer (some ⟨pb, 3, none⟩)) rfl (by kernel_rfl) (by kernel_rfl) (by kernel_rfl) (fun _ _ _ h => h) (Or.inl ⟨by rfl, fun w0 hSw => by (go_simp)⟩) hH ?_
  simp only [Act.put, List.setIfInBounds_toArray, List.set_cons_zero, List.set_cons_succ]
  refine wpAnyH_take (i := 5) (oi := { dst := some 9, op := Op.move (Operand.tmp 0), type := 109, pos := "l16_texture.go:282", after := #[], guard := none }) (v := .pointer (some ⟨pb, 0, none⟩)) rfl (by kernel_rfl) (by kernel_rfl) (by kernel_rfl) (fun _ _ _ h => h) (Or.inl ⟨by rfl, fun w0 hSw => by (go_simp)⟩) hH ?_
  simp only [Act.put, List.setIfInBounds_toArray, List.set_cons_zero, List.set_cons_succ]
  refine wpAnyH_take (i := 6) (oi := { dst := some 10, op := Op.nilCheck (Operand.tmp 9), type := 0, pos := "l16_texture.go:282", after := #[{ on := 5, ground := Ground.data }], guard := none }) (v := .pointer (some ⟨pb, 0, none⟩)) rfl (by kernel_rfl) (by kernel_rfl) (by kernel_rfl) (fun _ _ _ h => h) (Or.inl ⟨by rfl, fun w0 hSw => by (go_simp)⟩) hH ?_
  simp only [Act.put, List.setIfInBounds_toArray, List.set_cons_zero, List.set_cons_succ]
  refine wpAnyH_take (i := 7) (oi := { dst := some 11, op := Op.fieldAddr 81 (Operand.tmp 10) 2, type := 0, pos := "l16_texture.go:282", after := #[{ on := 6, ground := Ground.data }], guard := none }) (v := .pointer (some ⟨pb, 2, none⟩)) rfl (by kernel_rfl) (by kernel_rfl) (by kernel_rfl) (fun _ _ _ h => h) (Or.inl ⟨by rfl, fun w0 hSw => by (go_simp)⟩) hH ?_
  simp only [Act.put, List.setIfInBounds_toArray, List.set_cons_zero, List.set_cons_succ]
  refine wpAnyH_ready (rs := [4, 8, 9]) (by kernel_rfl) (by simp) ?_
  refine (AllReadyH.cons (o := { dst := some 8, op := Op.load 28 (Operand.tmp 7), type := 28, pos := "l16_texture.go:282", after := #[{ on := 3, ground := Ground.data }], guard := none }) rfl (fun K hK => ?_) (AllReadyH.cons (o := { dst := some 12, op := Op.load 62 (Operand.tmp 11), type := 62, pos := "l16_texture.go:282", after := #[{ on := 7, ground := Ground.data }], guard := none }) rfl (fun K hK => ?_) (AllReadyH.cons (o := { dst := some 13, op := Op.load 25 (Operand.tmp 3), type := 25, pos := "l16_texture.go:282", after := #[], guard := none }) rfl (fun K hK => ?_) AllReadyH.nil)))
  · refine step_val (.slice a M.length cp) WX (by rfl) (by (have e0 := TP.c3); go_simp) ?_
    simp only [Act.put, List.setIfInBounds_toArray, List.set_cons_zero, List.set_cons_succ]
    refine hK.out _ _ trivial (fun hH' => ?_)
    clear hK K
    replace hH := hH'
    clear hH' 
    refine wpAnyH_ready (rs := [8, 9]) (by kernel_rfl) (by simp) ?_
    refine (AllReadyH.cons (o := { dst := some 12, op := Op.load 62 (Operand.tmp 11), type := 62, pos := "l16_texture.go:282", after := #[{ on := 7, ground := Ground.data }], guard := none }) rfl (fun K hK => ?_) (AllReadyH.cons (o := { dst := some 13, op := Op.load 25 (Operand.tmp 3), type := 25, pos := "l16_texture.go:282", after := #[], guard := none }) rfl (fun K hK => ?_) AllReadyH.nil))
    · refine step_val (.iface 98 (.agg #[])) WX (by rfl) (by (have e0 := TP.c2); go_simp) ?_
      simp only [Act.put, List.setIfInBounds_toArray, List.set_cons_zero, List.set_cons_succ]
      refine hK.out _ _ trivial (fun hH' => ?_)
      clear hK K
      replace hH := hH'
      clear hH' 
      refine wpAnyH_ready (rs := [9]) (by kernel_rfl) (by simp) ?_
      refine (AllReadyH.cons (o := { dst := some 13, op := Op.load 25 (Operand.tmp 3), type := 25, pos := "l16_texture.go:282", after := #[], guard := none }) rfl (fun K hK => ?_) AllReadyH.nil)
      refine step_val (.agg #[.int .i64 c.r, .int .i64 c.g, .int .i64 c.b, .int .i64 c.a]) WX (by rfl) (by (have e0 := TK.c0); (have e1 := TK.c1); (have e2 := TK.c2); (have e3 := TK.c3); go_simp) ?_
      simp only [Act.put, List.setIfInBounds_toArray, List.set_cons_zero, List.set_cons_succ]
      refine hK.out _ _ trivial (fun hH' => ?_)
      clear hK K
      replace hH := hH'
      clear hH' 
      refine wpAnyH_ready (rs := [10]) (by kernel_rfl) (by simp) ?_
      refine (AllReadyH.cons (o := { dst := some 14, op := Op.call { callee := Callee.invoke (Operand.tmp 12) "loop.example/g00053/impl.pack", args := #[Operand.tmp 13], argTypes := #[25] }, type := 28, pos := "l16_texture.go:282", after := #[{ on := 8, ground := Ground.data }, { on := 9, ground := Ground.data }], guard := none }) rfl (fun K hK => ?_) AllReadyH.nil)
      refine step_callC 105 #[.agg #[], .agg #[.int .i64 c.r, .int .i64 c.g, .int .i64 c.b, .int .i64 c.a]] (fun z v w' => BOwn v.heap.size w' z LP ∧ Below v.heap.size v w') (by rfl) (by go_simp) ((HPK.out _).mono fun e w' ⟨u, h1, h2, h3⟩ => ⟨u, h1, h2, h3⟩) ?_
      rintro zc wc ⟨BO, Bc⟩
      replace BW := BW.trans (Bc.mono (Nat.le_of_lt TP.hi))
      replace TP := TP.next Bc
      replace TK := TK.next Bc
      replace YM := YM.next Bc
      clear Bc
      simp only [Act.put, List.setIfInBounds_toArray, List.set_cons_zero, List.set_cons_succ]
      refine hK.out _ _ trivial (fun hH' => ?_)
      clear hK K
      replace hH := hH'
      clear hH' 
      refine wpAnyH_ready (rs := [11]) (by kernel_rfl) (by simp) ?_
      refine (AllReadyH.cons (o := { dst := some 15, op := Op.call { callee := Callee.builtin Builtin.append, args := #[Operand.tmp 8, Operand.tmp 14], argTypes := #[28, 28] }, type := 28, pos := "l16_texture.go:282", after := #[{ on := 4, ground := Ground.data }, { on := 10, ground := Ground.data }, { on := 10, ground := Ground.chain }], guard := none }) rfl (fun K hK => ?_) AllReadyH.nil)
      obtain ⟨g, cap, wa, hra, YN, hga⟩ := run_append_y8 (ty := 28) YM BO (by have := HLP.out; omega) (by have := HLP.out; omega)
      obtain ⟨nl, hnl⟩ : ∃ z, (M ++ LP).length = z := ⟨_, rfl⟩
      rw [hnl] at hra YN
      clear hnl
      refine step_app (.tmp 8) (.tmp 14) 28 _ _ _ wa (by rfl) (by rfl) (by rfl) (by rfl) hra ?_
      have Ba : Below B wc wa := below_grown (Below.refl _ _) YM.2 hga (fun q hq => (YM.lt q hq).1)
      replace TP := TP.low Ba hpb
      replace BW := BW.trans (Ba.mono (by omega))
      clear YM hga hra Ba TK BO
      simp only [Act.put, List.setIfInBounds_toArray, List.set_cons_zero, List.set_cons_succ]
      refine hK.out _ _ trivial (fun hH' => ?_)
      clear hK K
      replace hH := hH'
      clear hH' 
      refine wpAnyH_take (i := 12) (oi := { dst := some 16, op := Op.nilCheck (Operand.tmp 4), type := 0, pos := "l16_texture.go:282", after := #[{ on := 0, ground := Ground.data }, { on := 0, ground := Ground.phase }, { on := 1, ground := Ground.phase }, { on := 2, ground := Ground.phase }, { on := 3, ground := Ground.phase }, { on := 4, ground := Ground.phase }, { on := 5, ground := Ground.phase }, { on := 6, ground := Ground.phase }, { on := 7, ground := Ground.phase }, { on := 8, ground := Ground.phase }, { on := 9, ground := Ground.phase }, { on := 10, ground := Ground.phase }, { on := 11, ground := Ground.phase }], guard := none }) (v := .pointer (some ⟨pb, 0, none⟩)) rfl (by kernel_rfl) (by kernel_rfl) (by kernel_rfl) (fun _ _ _ h => h) (Or.inl ⟨by rfl, fun w0 hSw => by (go_simp)⟩) hH ?_
      simp only [Act.put, List.setIfInBounds_toArray, List.set_cons_zero, List.set_cons_succ]
      refine wpAnyH_take (i := 13) (oi := { dst := some 17, op := Op.fieldAddr 81 (Operand.tmp 16) 3, type := 0, pos := "l16_texture.go:282", after := #[{ on := 12, ground := Ground.data }, { on := 0, ground := Ground.phase }, { on := 1, ground := Ground.phase }, { on := 2, ground := Ground.phase }, { on := 3, ground := Ground.phase }, { on := 4, ground := Ground.phase }, { on := 5, ground := Ground.phase }, { on := 6, ground := Ground.phase }, { on := 7, ground := Ground.phase }, { on := 8, ground := Ground.phase }, { on := 9, ground := Ground.phase }, { on := 10, ground := Ground.phase }, { on := 11, ground := Ground.phase }], guard := none }) (v := .pointer (some ⟨pb, 3, none⟩)) rfl (by kernel_rfl) (by kernel_rfl) (by kernel_rfl) (fun _ _ _ h => h) (Or.inl ⟨by rfl, fun w0 hSw => by (go_simp)⟩) hH ?_
      simp only [Act.put, List.setIfInBounds_toArray, List.set_cons_zero, List.set_cons_succ]
      refine wpAnyH_ready (rs := [14]) (by kernel_rfl) (by simp) ?_
      refine (AllReadyH.cons (o := { dst := none, op := Op.store 28 (Operand.tmp 17) (Operand.tmp 15), type := 0, pos := "l16_texture.go:282", after := #[{ on := 13, ground := Ground.data }, { on := 11, ground := Ground.data }, { on := 11, ground := Ground.chain }, { on := 0, ground := Ground.phase }, { on := 1, ground := Ground.phase }, { on := 2, ground := Ground.phase }, { on := 3, ground := Ground.phase }, { on := 4, ground := Ground.phase }, { on := 5, ground := Ground.phase }, { on := 6, ground := Ground.phase }, { on := 7, ground := Ground.phase }, { on := 8, ground := Ground.phase }, { on := 9, ground := Ground.phase }, { on := 10, ground := Ground.phase }, { on := 11, ground := Ground.phase }], guard := none }) rfl (fun K hK => ?_) AllReadyH.nil)
      refine step_skip (wa.setCell ⟨pb, 3, none⟩ (.slice (some ⟨g, 0, none⟩) nl cap)) (by rfl) (by (have e0 := TP.c3); (have ef := TP.f); go_simp) ?_
      have TS := TP.s3 (.slice (some ⟨g, 0, none⟩) nl cap)
      have OS := (Only.refl pb wa).setCell 3 (.slice (some ⟨g, 0, none⟩) nl cap)
      have YS := YN.grown (only_grown OS) (Or.inr (by have := (YN.lt g rfl).1; simp [Value.ownBlock]; omega))
      have BS := BW.trans (OS.below (Nat.le_refl _) (by have := TP.hi; omega))
      clear TP YN OS BW
      refine hK.out _ _ trivial (fun hH' => ?_)
      clear hK K
      replace hH := hH'
      clear hH' 
      refine wpAnyH_done (by kernel_rfl) ?_ _
      go_wp2
      go_end0
      exact ⟨rfl, _, TS, YS, BS⟩
    · refine step_val (.agg #[.int .i64 c.r, .int .i64 c.g, .int .i64 c.b, .int .i64 c.a]) WX (by rfl) (by (have e0 := TK.c0); (have e1 := TK.c1); (have e2 := TK.c2); (have e3 := TK.c3); go_simp) ?_
      simp only [Act.put, List.setIfInBounds_toArray, List.set_cons_zero, List.set_cons_succ]
      refine hK.out _ _ trivial (fun hH' => ?_)
      clear hK K
      replace hH := hH'
      clear hH' 
      refine wpAnyH_ready (rs := [8]) (by kernel_rfl) (by simp) ?_
      refine (AllReadyH.cons (o := { dst := some 12, op := Op.load 62 (Operand.tmp 11), type := 62, pos := "l16_texture.go:282", after := #[{ on := 7, ground := Ground.data }], guard := none }) rfl (fun K hK => ?_) AllReadyH.nil)
      refine step_val (.iface 98 (.agg #[])) WX (by rfl) (by (have e0 := TP.c2); go_simp) ?_
      simp only [Act.put, List.setIfInBounds_toArray, List.set_cons_zero, List.set_cons_succ]
      refine hK.out _ _ trivial (fun hH' => ?_)
      clear hK K
      replace hH := hH'
      clear hH' 
      refine wpAnyH_ready (rs := [10]) (by kernel_rfl) (by simp) ?_
      refine (AllReadyH.cons (o := { dst := some 14, op := Op.call { callee := Callee.invoke (Operand.tmp 12) "loop.example/g00053/impl.pack", args := #[Operand.tmp 13], argTypes := #[25] }, type := 28, pos := "l16_texture.go:282", after := #[{ on := 8, ground := Ground.data }, { on := 9, ground := Ground.data }], guard := none }) rfl (fun K hK => ?_) AllReadyH.nil)
      refine step_callC 105 #[.agg #[], .agg #[.int .i64 c.r, .int .i64 c.g, .int .i64 c.b, .int .i64 c.a]] (fun z v w' => BOwn v.heap.size w' z LP ∧ Below v.heap.size v w') (by rfl) (by go_simp) ((HPK.out _).mono fun e w' ⟨u, h1, h2, h3⟩ => ⟨u, h1, h2, h3⟩) ?_
      rintro zc wc ⟨BO, Bc⟩
      replace BW := BW.trans (Bc.mono (Nat.le_of_lt TP.hi))
      replace TP := TP.next Bc
      replace TK := TK.next Bc
      replace YM := YM.next Bc
      clear Bc
      simp only [Act.put, List.setIfInBounds_toArray, List.set_cons_zero, List.set_cons_succ]
      refine hK.out _ _ trivial (fun hH' => ?_)
      clear hK K
      replace hH := hH'
      clear hH' 
      refine wpAnyH_ready (rs := [11]) (by kernel_rfl) (by simp) ?_
      refine (AllReadyH.cons (o := { dst := some 15, op := Op.call { callee := Callee.builtin Builtin.append, args := #[Operand.tmp 8, Operand.tmp 14], argTypes := #[28, 28] }, type := 28, pos := "l16_texture.go:282", after := #[{ on := 4, ground := Ground.data }, { on := 10, ground := Ground.data }, { on := 10, ground := Ground.chain }], guard := none }) rfl (fun K hK => ?_) AllReadyH.nil)
      obtain ⟨g, cap, wa, hra, YN, hga⟩ := run_append_y8 (ty := 28) YM BO (by have := HLP.out; omega) (by have := HLP.out; omega)
      obtain ⟨nl, hnl⟩ : ∃ z, (M ++ LP).length = z := ⟨_, rfl⟩
      rw [hnl] at hra YN
      clear hnl
      refine step_app (.tmp 8) (.tmp 14) 28 _ _ _ wa (by rfl) (by rfl) (by rfl) (by rfl) hra ?_
      have Ba : Below B wc wa := below_grown (Below.refl _ _) YM.2 hga (fun q hq => (YM.lt q hq).1)
      replace TP := TP.low Ba hpb
      replace BW := BW.trans (Ba.mono (by omega))
      clear YM hga hra Ba TK BO
      simp only [Act.put, List.setIfInBounds_toArray, List.set_cons_zero, List.set_cons_succ]
      refine hK.out _ _ trivial (fun hH' => ?_)
      clear hK K
      replace hH := hH'
      clear hH' 
      refine wpAnyH_take (i := 12) (oi := { dst := some 16, op := Op.nilCheck (Operand.tmp 4), type := 0, pos := "l16_texture.go:282", after := #[{ on := 0, ground := Ground.data }, { on := 0, ground := Ground.phase }, { on := 1, ground := Ground.phase }, { on := 2, ground := Ground.phase }, { on := 3, ground := Ground.phase }, { on := 4, ground := Ground.phase }, { on := 5, ground := Ground.phase }, { on := 6, ground := Ground.phase }, { on := 7, ground := Ground.phase }, { on := 8, ground := Ground.phase }, { on := 9, ground := Ground.phase }, { on := 10, ground := Ground.phase }, { on := 11, ground := Ground.phase }], guard := none }) (v := .pointer (some ⟨pb, 0, none⟩)) rfl (by kernel_rfl) (by kernel_rfl) (by kernel_rfl) (fun _ _ _ h => h) (Or.inl ⟨by rfl, fun w0 hSw => by (go_simp)⟩) hH ?_
      simp only [Act.put, List.setIfInBounds_toArray, List.set_cons_zero, List.set_cons_succ]
      refine wpAnyH_take (i := 13) (oi := { dst := some 17, op := Op.fieldAddr 81 (Operand.tmp 16) 3, type := 0, pos := "l16_texture.go:282", after := #[{ on := 12, ground := Ground.data }, { on := 0, ground := Ground.phase }, { on := 1, ground := Ground.phase }, { on := 2, ground := Ground.phase }, { on := 3, ground := Ground.phase }, { on := 4, ground := Ground.phase }, { on := 5, ground := Ground.phase }, { on := 6, ground := Ground.phase }, { on := 7, ground := Ground.phase }, { on := 8, ground := Ground.phase }, { on := 9, ground := Ground.phase }, { on := 10, ground := Ground.phase }, { on := 11, ground := Ground.phase }], guard := none }) (v := .pointer (some ⟨pb, 3, none⟩)) rfl (by kernel_rfl) (by kernel_rfl) (by kernel_rfl) (fun _ _ _ h => h) (Or.inl ⟨by rfl, fun w0 hSw => by (go_simp)⟩) hH ?_
      simp only [Act.put, List.setIfInBounds_toArray, List.set_cons_zero, List.set_cons_succ]
      refine wpAnyH_ready (rs := [14]) (by kernel_rfl) (by simp) ?_
      refine (AllReadyH.cons (o := { dst := none, op := Op.store 28 (Operand.tmp 17) (Operand.tmp 15), type := 0, pos := "l16_texture.go:282", after := #[{ on := 13, ground := Ground.data }, { on := 11, ground := Ground.data }, { on := 11, ground := Ground.chain }, { on := 0, ground := Ground.phase }, { on := 1, ground := Ground.phase }, { on := 2, ground := Ground.phase }, { on := 3, ground := Ground.phase }, { on := 4, ground := Ground.phase }, { on := 5, ground := Ground.phase }, { on := 6, ground := Ground.phase }, { on := 7, ground := Ground.phase }, { on := 8, ground := Ground.phase }, { on := 9, ground := Ground.phase }, { on := 10, ground := Ground.phase }, { on := 11, ground := Ground.phase }], guard := none }) rfl (fun K hK => ?_) AllReadyH.nil)
      refine step_skip (wa.setCell ⟨pb, 3, none⟩ (.slice (some ⟨g, 0, none⟩) nl cap)) (by rfl) (by (have e0 := TP.c3); (have ef := TP.f); go_simp) ?_
      have TS := TP.s3 (.slice (some ⟨g, 0, none⟩) nl cap)
      have OS := (Only.refl pb wa).setCell 3 (.slice (some ⟨g, 0, none⟩) nl cap)
      have YS := YN.grown (only_grown OS) (Or.inr (by have := (YN.lt g rfl).1; simp [Value.ownBlock]; omega))
      have BS := BW.trans (OS.below (Nat.le_refl _) (by have := TP.hi; omega))
      clear TP YN OS BW
      refine hK.out _ _ trivial (fun hH' => ?_)
      clear hK K
      replace hH := hH'
      clear hH' 
      refine wpAnyH_done (by kernel_rfl) ?_ _
      go_wp2
      go_end0
      exact ⟨rfl, _, TS, YS, BS⟩
  · refine step_val (.iface 98 (.agg #[])) WX (by rfl) (by (have e0 := TP.c2); go_simp) ?_
    simp only [Act.put, List.setIfInBounds_toArray, List.set_cons_zero, List.set_cons_succ]
    refine hK.out _ _ trivial (fun hH' => ?_)
    clear hK K
    replace hH := hH'
    clear hH' 
    refine wpAnyH_ready (rs := [4, 9]) (by kernel_rfl) (by simp) ?_
    refine (AllReadyH.cons (o := { dst := some 8, op := Op.load 28 (Operand.tmp 7), type := 28, pos := "l16_texture.go:282", after := #[{ on := 3, ground := Ground.data }], guard := none }) rfl (fun K hK => ?_) (AllReadyH.cons (o := { dst := some 13, op := Op.load 25 (Operand.tmp 3), type := 25, pos := "l16_texture.go:282", after := #[], guard := none }) rfl (fun K hK => ?_) AllReadyH.nil))
    · refine step_val (.slice a M.length cp) WX (by rfl) (by (have e0 := TP.c3); go_simp) ?_
      simp only [Act.put, List.setIfInBounds_toArray, List.set_cons_zero, List.set_cons_succ]
      refine hK.out _ _ trivial (fun hH' => ?_)
      clear hK K
      replace hH := hH'
      clear hH' 
      refine wpAnyH_ready (rs := [9]) (by kernel_rfl) (by simp) ?_
      refine (AllReadyH.cons (o := { dst := some 13, op := Op.load 25 (Operand.tmp 3), type := 25, pos := "l16_texture.go:282", after := #[], guard := none }) rfl (fun K hK => ?_) AllReadyH.nil)
      refine step_val (.agg #[.int .i64 c.r, .int .i64 c.g, .int .i64 c.b, .int .i64 c.a]) WX (by rfl) (by (have e0 := TK.c0); (have e1 := TK.c1); (have e2 := TK.c2); (have e3 := TK.c3); go_simp) ?_
      simp only [Act.put, List.setIfInBounds_toArray, List.set_cons_zero, List.set_cons_succ]
      refine hK.out _ _ trivial (fun hH' => ?_)
      clear hK K
      replace hH := hH'
      clear hH' 
      refine wpAnyH_ready (rs := [10]) (by kernel_rfl) (by simp) ?_
      refine (AllReadyH.cons (o := { dst := some 14, op := Op.call { callee := Callee.invoke (Operand.tmp 12) "loop.example/g00053/impl.pack", args := #[Operand.tmp 13], argTypes := #[25] }, type := 28, pos := "l16_texture.go:282", after := #[{ on := 8, ground := Ground.data }, { on := 9, ground := Ground.data }], guard := none }) rfl (fun K hK => ?_) AllReadyH.nil)
      refine step_callC 105 #[.agg #[], .agg #[.int .i64 c.r, .int .i64 c.g, .int .i64 c.b, .int .i64 c.a]] (fun z v w' => BOwn v.heap.size w' z LP ∧ Below v.heap.size v w') (by rfl) (by go_simp) ((HPK.out _).mono fun e w' ⟨u, h1, h2, h3⟩ => ⟨u, h1, h2, h3⟩) ?_
      rintro zc wc ⟨BO, Bc⟩
      replace BW := BW.trans (Bc.mono (Nat.le_of_lt TP.hi))
      replace TP := TP.next Bc
      replace TK := TK.next Bc
      replace YM := YM.next Bc
      clear Bc
      simp only [Act.put, List.setIfInBounds_toArray, List.set_cons_zero, List.set_cons_succ]
      refine hK.out _ _ trivial (fun hH' => ?_)
      clear hK K
      replace hH := hH'
      clear hH' 
      refine wpAnyH_ready (rs := [11]) (by kernel_rfl) (by simp) ?_
      refine (AllReadyH.cons (o := { dst := some 15, op := Op.call { callee := Callee.builtin Builtin.append, args := #[Operand.tmp 8, Operand.tmp 14], argTypes := #[28, 28] }, type := 28, pos := "l16_texture.go:282", after := #[{ on := 4, ground := Ground.data }, { on := 10, ground := Ground.data }, { on := 10, ground := Ground.chain }], guard := none }) rfl (fun K hK => ?_) AllReadyH.nil)
      obtain ⟨g, cap, wa, hra, YN, hga⟩ := run_append_y8 (ty := 28) YM BO (by have := HLP.out; omega) (by have := HLP.out; omega)
      obtain ⟨nl, hnl⟩ : ∃ z, (M ++ LP).length = z := ⟨_, rfl⟩
      rw [hnl] at hra YN
      clear hnl
      refine step_app (.tmp 8) (.tmp 14) 28 _ _ _ wa (by rfl) (by rfl) (by rfl) (by rfl) hra ?_
      have Ba : Below B wc wa := below_grown (Below.refl _ _) YM.2 hga (fun q hq => (YM.lt q hq).1)
      replace TP := TP.low Ba hpb
      replace BW := BW.trans (Ba.mono (by omega))
      clear YM hga hra Ba TK BO
      simp only [Act.put, List.setIfInBounds_toArray, List.set_cons_zero, List.set_cons_succ]
      refine hK.out _ _ trivial (fun hH' => ?_)
      clear hK K
      replace hH := hH'
      clear hH' 
      refine wpAnyH_take (i := 12) (oi := { dst := some 16, op := Op.nilCheck (Operand.tmp 4), type := 0, pos := "l16_texture.go:282", after := #[{ on := 0, ground := Ground.data }, { on := 0, ground := Ground.phase }, { on := 1, ground := Ground.phase }, { on := 2, ground := Ground.phase }, { on := 3, ground := Ground.phase }, { on := 4, ground := Ground.phase }, { on := 5, ground := Ground.phase }, { on := 6, ground := Ground.phase }, { on := 7, ground := Ground.phase }, { on := 8, ground := Ground.phase }, { on := 9, ground := Ground.phase }, { on := 10, ground := Ground.phase }, { on := 11, ground := Ground.phase }], guard := none }) (v := .pointer (some ⟨pb, 0, none⟩)) rfl (by kernel_rfl) (by kernel_rfl) (by kernel_rfl) (fun _ _ _ h => h) (Or.inl ⟨by rfl, fun w0 hSw => by (go_simp)⟩) hH ?_
      simp only [Act.put, List.setIfInBounds_toArray, List.set_cons_zero, List.set_cons_succ]
      refine wpAnyH_take (i := 13) (oi := { dst := some 17, op := Op.fieldAddr 81 (Operand.tmp 16) 3, type := 0, pos := "l16_texture.go:282", after := #[{ on := 12, ground := Ground.data }, { on := 0, ground := Ground.phase }, { on := 1, ground := Ground.phase }, { on := 2, ground := Ground.phase }, { on := 3, ground := Ground.phase }, { on := 4, ground := Ground.phase }, { on := 5, ground := Ground.phase }, { on := 6, ground := Ground.phase }, { on := 7, ground := Ground.phase }, { on := 8, ground := Ground.phase }, { on := 9, ground := Ground.phase }, { on := 10, ground := Ground.phase }, { on := 11, ground := Ground.phase }], guard := none }) (v := .pointer (some ⟨pb, 3, none⟩)) rfl (by kernel_rfl) (by kernel_rfl) (by kernel_rfl) (fun _ _ _ h => h) (Or.inl ⟨by rfl, fun w0 hSw => by (go_simp)⟩) hH ?_
      simp only [Act.put, List.setIfInBounds_toArray, List.set_cons_zero, List.set_cons_succ]
      refine wpAnyH_ready (rs := [14]) (by kernel_rfl) (by simp) ?_
      refine (AllReadyH.cons (o := { dst := none, op := Op.store 28 (Operand.tmp 17) (Operand.tmp 15), type := 0, pos := "l16_texture.go:282", after := #[{ on := 13, ground := Ground.data }, { on := 11, ground := Ground.data }, { on := 11, ground := Ground.chain }, { on := 0, ground := Ground.phase }, { on := 1, ground := Ground.phase }, { on := 2, ground := Ground.phase }, { on := 3, ground := Ground.phase }, { on := 4, ground := Ground.phase }, { on := 5, ground := Ground.phase }, { on := 6, ground := Ground.phase }, { on := 7, ground := Ground.phase }, { on := 8, ground := Ground.phase }, { on := 9, ground := Ground.phase }, { on := 10, ground := Ground.phase }, { on := 11, ground := Ground.phase }], guard := none }) rfl (fun K hK => ?_) AllReadyH.nil)
      refine step_skip (wa.setCell ⟨pb, 3, none⟩ (.slice (some ⟨g, 0, none⟩) nl cap)) (by rfl) (by (have e0 := TP.c3); (have ef := TP.f); go_simp) ?_
      have TS := TP.s3 (.slice (some ⟨g, 0, none⟩) nl cap)
      have OS := (Only.refl pb wa).setCell 3 (.slice (some ⟨g, 0, none⟩) nl cap)
      have YS := YN.grown (only_grown OS) (Or.inr (by have := (YN.lt g rfl).1; simp [Value.ownBlock]; omega))
      have BS := BW.trans (OS.below (Nat.le_refl _) (by have := TP.hi; omega))
      clear TP YN OS BW
      refine hK.out _ _ trivial (fun hH' => ?_)
      clear hK K
      replace hH := hH'
      clear hH' 
      refine wpAnyH_done (by kernel_rfl) ?_ _
      go_wp2
      go_end0
      exact ⟨rfl, _, TS, YS, BS⟩
    · refine step_val (.agg #[.int .i64 c.r, .int .i64 c.g, .int .i64 c.b, .int .i64 c.a]) WX (by rfl) (by (have e0 := TK.c0); (have e1 := TK.c1); (have e2 := TK.c2); (have e3 := TK.c3); go_simp) ?_
      simp only [Act.put, List.setIfInBounds_toArray, List.set_cons_zero, List.set_cons_succ]
      refine hK.out _ _ trivial (fun hH' => ?_)
      clear hK K
      replace hH := hH'
      clear hH' 
      refine wpAnyH_ready (rs := [4, 10]) (by kernel_rfl) (by simp) ?_
      refine (AllReadyH.cons (o := { dst := some 8, op := Op.load 28 (Operand.tmp 7), type := 28, pos := "l16_texture.go:282", after := #[{ on := 3, ground := Ground.data }], guard := none }) rfl (fun K hK => ?_) (AllReadyH.cons (o := { dst := some 14, op := Op.call { callee := Callee.invoke (Operand.tmp 12) "loop.example/g00053/impl.pack", args := #[Operand.tmp 13], argTypes := #[25] }, type := 28, pos := "l16_texture.go:282", after := #[{ on := 8, ground := Ground.data }, { on := 9, ground := Ground.data }], guard := none }) rfl (fun K hK => ?_) AllReadyH.nil))
      · refine step_val (.slice a M.length cp) WX (by rfl) (by (have e0 := TP.c3); go_simp) ?_
        simp only [Act.put, List.setIfInBounds_toArray, List.set_cons_zero, List.set_cons_succ]
        refine hK.out _ _ trivial (fun hH' => ?_)
        clear hK K
        replace hH := hH'
        clear hH' 
        refine wpAnyH_ready (rs := [10]) (by kernel_rfl) (by simp) ?_
        refine (AllReadyH.cons (o := { dst := some 14, op := Op.call { callee := Callee.invoke (Operand.tmp 12) "loop.example/g00053/impl.pack", args := #[Operand.tmp 13], argTypes := #[25] }, type := 28, pos := "l16_texture.go:282", after := #[{ on := 8, ground := Ground.data }, { on := 9, ground := Ground.data }], guard := none }) rfl (fun K hK => ?_) AllReadyH.nil)
        refine step_callC 105 #[.agg #[], .agg #[.int .i64 c.r, .int .i64 c.g, .int .i64 c.b, .int .i64 c.a]] (fun z v w' => BOwn v.heap.size w' z LP ∧ Below v.heap.size v w') (by rfl) (by go_simp) ((HPK.out _).mono fun e w' ⟨u, h1, h2, h3⟩ => ⟨u, h1, h2, h3⟩) ?_
        rintro zc wc ⟨BO, Bc⟩
        replace BW := BW.trans (Bc.mono (Nat.le_of_lt TP.hi))
        replace TP := TP.next Bc
        replace TK := TK.next Bc
        replace YM := YM.next Bc
        clear Bc
        simp only [Act.put, List.setIfInBounds_toArray, List.set_cons_zero, List.set_cons_succ]
        refine hK.out _ _ trivial (fun hH' => ?_)
        clear hK K
        replace hH := hH'
        clear hH' 
        refine wpAnyH_ready (rs := [11]) (by kernel_rfl) (by simp) ?_
        refine (AllReadyH.cons (o := { dst := some 15, op := Op.call { callee := Callee.builtin Builtin.append, args := #[Operand.tmp 8, Operand.tmp 14], argTypes := #[28, 28] }, type := 28, pos := "l16_texture.go:282", after := #[{ on := 4, ground := Ground.data }, { on := 10, ground := Ground.data }, { on := 10, ground := Ground.chain }], guard := none }) rfl (fun K hK => ?_) AllReadyH.nil)
        obtain ⟨g, cap, wa, hra, YN, hga⟩ := run_append_y8 (ty := 28) YM BO (by have := HLP.out; omega) (by have := HLP.out; omega)
        obtain ⟨nl, hnl⟩ : ∃ z, (M ++ LP).length = z := ⟨_, rfl⟩
        rw [hnl] at hra YN
        clear hnl
        refine step_app (.tmp 8) (.tmp 14) 28 _ _ _ wa (by rfl) (by rfl) (by rfl) (by rfl) hra ?_
        have Ba : Below B wc wa := below_grown (Below.refl _ _) YM.2 hga (fun q hq => (YM.lt q hq).1)
        replace TP := TP.low Ba hpb
        replace BW := BW.trans (Ba.mono (by omega))
        clear YM hga hra Ba TK BO
        simp only [Act.put, List.setIfInBounds_toArray, List.set_cons_zero, List.set_cons_succ]
        refine hK.out _ _ trivial (fun hH' => ?_)
        clear hK K
        replace hH := hH'
        clear hH' 
        refine wpAnyH_take (i := 12) (oi := { dst := some 16, op := Op.nilCheck (Operand.tmp 4), type := 0, pos := "l16_texture.go:282", after := #[{ on := 0, ground := Ground.data }, { on := 0, ground := Ground.phase }, { on := 1, ground := Ground.phase }, { on := 2, ground := Ground.phase }, { on := 3, ground := Ground.phase }, { on := 4, ground := Ground.phase }, { on := 5, ground := Ground.phase }, { on := 6, ground := Ground.phase }, { on := 7, ground := Ground.phase }, { on := 8, ground := Ground.phase }, { on := 9, ground := Ground.phase }, { on := 10, ground := Ground.phase }, { on := 11, ground := Ground.phase }], guard := none }) (v := .pointer (some ⟨pb, 0, none⟩)) rfl (by kernel_rfl) (by kernel_rfl) (by kernel_rfl) (fun _ _ _ h => h) (Or.inl ⟨by rfl, fun w0 hSw => by (go_simp)⟩) hH ?_
        simp only [Act.put, List.setIfInBounds_toArray, List.set_cons_zero, List.set_cons_succ]
        refine wpAnyH_take (i := 13) (oi := { dst := some 17, op := Op.fieldAddr 81 (Operand.tmp 16) 3, type := 0, pos := "l16_texture.go:282", after := #[{ on := 12, ground := Ground.data }, { on := 0, ground := Ground.phase }, { on := 1, ground := Ground.phase }, { on := 2, ground := Ground.phase }, { on := 3, ground := Ground.phase }, { on := 4, ground := Ground.phase }, { on := 5, ground := Ground.phase }, { on := 6, ground := Ground.phase }, { on := 7, ground := Ground.phase }, { on := 8, ground := Ground.phase }, { on := 9, ground := Ground.phase }, { on := 10, ground := Ground.phase }, { on := 11, ground := Ground.phase }], guard := none }) (v := .pointer (some ⟨pb, 3, none⟩)) rfl (by kernel_rfl) (by kernel_rfl) (by kernel_rfl) (fun _ _ _ h => h) (Or.inl ⟨by rfl, fun w0 hSw => by (go_simp)⟩) hH ?_
        simp only [Act.put, List.setIfInBounds_toArray, List.set_cons_zero, List.set_cons_succ]
        refine wpAnyH_ready (rs := [14]) (by kernel_rfl) (by simp) ?_
        refine (AllReadyH.cons (o := { dst := none, op := Op.store 28 (Operand.tmp 17) (Operand.tmp 15), type := 0, pos := "l16_texture.go:282", after := #[{ on := 13, ground := Ground.data }, { on := 11, ground := Ground.data }, { on := 11, ground := Ground.chain }, { on := 0, ground := Ground.phase }, { on := 1, ground := Ground.phase }, { on := 2, ground := Ground.phase }, { on := 3, ground := Ground.phase }, { on := 4, ground := Ground.phase }, { on := 5, ground := Ground.phase }, { on := 6, ground := Ground.phase }, { on := 7, ground := Ground.phase }, { on := 8, ground := Ground.phase }, { on := 9, ground := Ground.phase }, { on := 10, ground := Ground.phase }, { on := 11, ground := Ground.phase }], guard := none }) rfl (fun K hK => ?_) AllReadyH.nil)
        refine step_skip (wa.setCell ⟨pb, 3, none⟩ (.slice (some ⟨g, 0, none⟩) nl cap)) (by rfl) (by (have e0 := TP.c3); (have ef := TP.f); go_simp) ?_
        have TS := TP.s3 (.slice (some ⟨g, 0, none⟩) nl cap)
        have OS := (Only.refl pb wa).setCell 3 (.slice (some ⟨g, 0, none⟩) nl cap)
        have YS := YN.grown (only_grown OS) (Or.inr (by have := (YN.lt g rfl).1; simp [Value.ownBlock]; omega))
        have BS := BW.trans (OS.below (Nat.le_refl _) (by have := TP.hi; omega))
        clear TP YN OS BW
        refine hK.out _ _ trivial (fun hH' => ?_)
        clear hK K
        replace hH := hH'
        clear hH' 
        refine wpAnyH_done (by kernel_rfl) ?_ _
        go_wp2
        go_end0
        exact ⟨rfl, _, TS, YS, BS⟩
      · refine step_callC 105 #[.agg #[], .agg #[.int .i64 c.r, .int .i64 c.g, .int .i64 c.b, .int .i64 c.a]] (fun z v w' => BOwn v.heap.size w' z LP ∧ Below v.heap.size v w') (by rfl) (by go_simp) ((HPK.out _).mono fun e w' ⟨u, h1, h2, h3⟩ => ⟨u, h1, h2, h3⟩) ?_
        rintro zc wc ⟨BO, Bc⟩
        replace BW := BW.trans (Bc.mono (Nat.le_of_lt TP.hi))
        replace TP := TP.next Bc
        replace TK := TK.next Bc
        replace YM := YM.next Bc
        clear Bc
        simp only [Act.put, List.setIfInBounds_toArray, List.set_cons_zero, List.set_cons_succ]
        refine hK.out _ _ trivial (fun hH' => ?_)
        clear hK K
        replace hH := hH'
        clear hH' 
        refine wpAnyH_ready (rs := [4]) (by kernel_rfl) (by simp) ?_
        refine (AllReadyH.cons (o := { dst := some 8, op := Op.load 28 (Operand.tmp 7), type := 28, pos := "l16_texture.go:282", after := #[{ on := 3, ground := Ground.data }], guard := none }) rfl (fun K hK => ?_) AllReadyH.nil)
        refine step_val (.slice a M.length cp) wc (by rfl) (by (have e0 := TP.c3); go_simp) ?_
        simp only [Act.put, List.setIfInBounds_toArray, List.set_cons_zero, List.set_cons_succ]
        refine hK.out _ _ trivial (fun hH' => ?_)
        clear hK K
        replace hH := hH'
        clear hH' 
        refine wpAnyH_ready (rs := [11]) (by kernel_rfl) (by simp) ?_
        refine (AllReadyH.cons (o := { dst := some 15, op := Op.call { callee := Callee.builtin Builtin.append, args := #[Operand.tmp 8, Operand.tmp 14], argTypes := #[28, 28] }, type := 28, pos := "l16_texture.go:282", after := #[{ on := 4, ground := Ground.data }, { on := 10, ground := Ground.data }, { on := 10, ground := Ground.chain }], guard := none }) rfl (fun K hK => ?_) AllReadyH.nil)
        obtain ⟨g, cap, wa, hra, YN, hga⟩ := run_append_y8 (ty := 28) YM BO (by have := HLP.out; omega) (by have := HLP.out; omega)
        obtain ⟨nl, hnl⟩ : ∃ z, (M ++ LP).length = z := ⟨_, rfl⟩
        rw [hnl] at hra YN
        clear hnl
        refine step_app (.tmp 8) (.tmp 14) 28 _ _ _ wa (by rfl) (by rfl) (by rfl) (by rfl) hra ?_
        have Ba : Below B wc wa := below_grown (Below.refl _ _) YM.2 hga (fun q hq => (YM.lt q hq).1)
        replace TP := TP.low Ba hpb
        replace BW := BW.trans (Ba.mono (by omega))
        clear YM hga hra Ba TK BO
        simp only [Act.put, List.setIfInBounds_toArray, List.set_cons_zero, List.set_cons_succ]
        refine hK.out _ _ trivial (fun hH' => ?_)
        clear hK K
        replace hH := hH'
        clear hH' 
        refine wpAnyH_take (i := 12) (oi := { dst := some 16, op := Op.nilCheck (Operand.tmp 4), type := 0, pos := "l16_texture.go:282", after := #[{ on := 0, ground := Ground.data }, { on := 0, ground := Ground.phase }, { on := 1, ground := Ground.phase }, { on := 2, ground := Ground.phase }, { on := 3, ground := Ground.phase }, { on := 4, ground := Ground.phase }, { on := 5, ground := Ground.phase }, { on := 6, ground := Ground.phase }, { on := 7, ground := Ground.phase }, { on := 8, ground := Ground.phase }, { on := 9, ground := Ground.phase }, { on := 10, ground := Ground.phase }, { on := 11, ground := Ground.phase }], guard := none }) (v := .pointer (some ⟨pb, 0, none⟩)) rfl (by kernel_rfl) (by kernel_rfl) (by kernel_rfl) (fun _ _ _ h => h) (Or.inl ⟨by rfl, fun w0 hSw => by (go_simp)⟩) hH ?_
        simp only [Act.put, List.setIfInBounds_toArray, List.set_cons_zero, List.set_cons_succ]
        refine wpAnyH_take (i := 13) (oi := { dst := some 17, op := Op.fieldAddr 81 (Operand.tmp 16) 3, type := 0, pos := "l16_texture.go:282", after := #[{ on := 12, ground := Ground.data }, { on := 0, ground := Ground.phase }, { on := 1, ground := Ground.phase }, { on := 2, ground := Ground.phase }, { on := 3, ground := Ground.phase }, { on := 4, ground := Ground.phase }, { on := 5, ground := Ground.phase }, { on := 6, ground := Ground.phase }, { on := 7, ground := Ground.phase }, { on := 8, ground := Ground.phase }, { on := 9, ground := Ground.phase }, { on := 10, ground := Ground.phase }, { on := 11, ground := Ground.phase }], guard := none }) (v := .pointer (some ⟨pb, 3, none⟩)) rfl (by kernel_rfl) (by kernel_rfl) (by kernel_rfl) (fun _ _ _ h => h) (Or.inl ⟨by rfl, fun w0 hSw => by (go_simp)⟩) hH ?_
        simp only [Act.put, List.setIfInBounds_toArray, List.set_cons_zero, List.set_cons_succ]
        refine wpAnyH_ready (rs := [14]) (by kernel_rfl) (by simp) ?_
        refine (AllReadyH.cons (o := { dst := none, op := Op.store 28 (Operand.tmp 17) (Operand.tmp 15), type := 0, pos := "l16_texture.go:282", after := #[{ on := 13, ground := Ground.data }, { on := 11, ground := Ground.data }, { on := 11, ground := Ground.chain }, { on := 0, ground := Ground.phase }, { on := 1, ground := Ground.phase }, { on := 2, ground := Ground.phase }, { on := 3, ground := Ground.phase }, { on := 4, ground := Ground.phase }, { on := 5, ground := Ground.phase }, { on := 6, ground := Ground.phase }, { on := 7, ground := Ground.phase }, { on := 8, ground := Ground.phase }, { on := 9, ground := Ground.phase }, { on := 10, ground := Ground.phase }, { on := 11, ground := Ground.phase }], guard := none }) rfl (fun K hK => ?_) AllReadyH.nil)
        refine step_skip (wa.setCell ⟨pb, 3, none⟩ (.slice (some ⟨g, 0, none⟩) nl cap)) (by rfl) (by (have e0 := TP.c3); (have ef := TP.f); go_simp) ?_
        have TS := TP.s3 (.slice (some ⟨g, 0, none⟩) nl cap)
        have OS := (Only.refl pb wa).setCell 3 (.slice (some ⟨g, 0, none⟩) nl cap)
        have YS := YN.grown (only_grown OS) (Or.inr (by have := (YN.lt g rfl).1; simp [Value.ownBlock]; omega))
        have BS := BW.trans (OS.below (Nat.le_refl _) (by have := TP.hi; omega))
        clear TP YN OS BW
        refine hK.out _ _ trivial (fun hH' => ?_)
        clear hK K
        replace hH := hH'
        clear hH' 
        refine wpAnyH_done (by kernel_rfl) ?_ _
        go_wp2
        go_end0
        exact ⟨rfl, _, TS, YS, BS⟩
  · refine step_val (.agg #[.int .i64 c.r, .int .i64 c.g, .int .i64 c.b, .int .i64 c.a]) WX (by rfl) (by (have e0 := TK.c0); (have e1 := TK.c1); (have e2 := TK.c2); (have e3 := TK.c3); go_simp) ?_
    simp only [Act.put, List.setIfInBounds_toArray, List.set_cons_zero, List.set_cons_succ]
    refine hK.out _ _ trivial (fun hH' => ?_)
    clear hK K
    replace hH := hH'
    clear hH' 
    refine wpAnyH_ready (rs := [4, 8]) (by kernel_rfl) (by simp) ?_
    refine (AllReadyH.cons (o := { dst := some 8, op := Op.load 28 (Operand.tmp 7), type := 28, pos := "l16_texture.go:282", after := #[{ on := 3, ground := Ground.data }], guard := none }) rfl (fun K hK => ?_) (AllReadyH.cons (o := { dst := some 12, op := Op.load 62 (Operand.tmp 11), type := 62, pos := "l16_texture.go:282", after := #[{ on := 7, ground := Ground.data }], guard := none }) rfl (fun K hK => ?_) AllReadyH.nil))
    · refine step_val (.slice a M.length cp) WX (by rfl) (by (have e0 := TP.c3); go_simp) ?_
      simp only [Act.put, List.setIfInBounds_toArray, List.set_cons_zero, List.set_cons_succ]
      refine hK.out _ _ trivial (fun hH' => ?_)
      clear hK K
      replace hH := hH'
      clear hH' 
      refine wpAnyH_ready (rs := [8]) (by kernel_rfl) (by simp) ?_
      refine (AllReadyH.cons (o := { dst := some 12, op := Op.load 62 (Operand.tmp 11), type := 62, pos := "l16_texture.go:282", after := #[{ on := 7, ground := Ground.data }], guard := none }) rfl (fun K hK => ?_) AllReadyH.nil)
      refine step_val (.iface 98 (.agg #[])) WX (by rfl) (by (have e0 := TP.c2); go_simp) ?_
      simp only [Act.put, List.setIfInBounds_toArray, List.set_cons_zero, List.set_cons_succ]
      refine hK.out _ _ trivial (fun hH' => ?_)
      clear hK K
      replace hH := hH'
      clear hH' 
      refine wpAnyH_ready (rs := [10]) (by kernel_rfl) (by simp) ?_
      refine (AllReadyH.cons (o := { dst := some 14, op := Op.call { callee := Callee.invoke (Operand.tmp 12) "loop.example/g00053/impl.pack", args := #[Operand.tmp 13], argTypes := #[25] }, type := 28, pos := "l16_texture.go:282", after := #[{ on := 8, ground := Ground.data }, { on := 9, ground := Ground.data }], guard := none }) rfl (fun K hK => ?_) AllReadyH.nil)
      refine step_callC 105 #[.agg #[], .agg #[.int .i64 c.r, .int .i64 c.g, .int .i64 c.b, .int .i64 c.a]] (fun z v w' => BOwn v.heap.size w' z LP ∧ Below v.heap.size v w') (by rfl) (by go_simp) ((HPK.out _).mono fun e w' ⟨u, h1, h2, h3⟩ => ⟨u, h1, h2, h3⟩) ?_
      rintro zc wc ⟨BO, Bc⟩
      replace BW := BW.trans (Bc.mono (Nat.le_of_lt TP.hi))
      replace TP := TP.next Bc
      replace TK := TK.next Bc
      replace YM := YM.next Bc
      clear Bc
      simp only [Act.put, List.setIfInBounds_toArray, List.set_cons_zero, List.set_cons_succ]
      refine hK.out _ _ trivial (fun hH' => ?_)
      clear hK K
      replace hH := hH'
      clear hH' 
      refine wpAnyH_ready (rs := [11]) (by kernel_rfl) (by simp) ?_
      refine (AllReadyH.cons (o := { dst := some 15, op := Op.call { callee := Callee.builtin Builtin.append, args := #[Operand.tmp 8, Operand.tmp 14], argTypes := #[28, 28] }, type := 28, pos := "l16_texture.go:282", after := #[{ on := 4, ground := Ground.data }, { on := 10, ground := Ground.data }, { on := 10, ground := Ground.chain }], guard := none }) rfl (fun K hK => ?_) AllReadyH.nil)
      obtain ⟨g, cap, wa, hra, YN, hga⟩ := run_append_y8 (ty := 28) YM BO (by have := HLP.out; omega) (by have := HLP.out; omega)
      obtain ⟨nl, hnl⟩ : ∃ z, (M ++ LP).length = z := ⟨_, rfl⟩
      rw [hnl] at hra YN
      clear hnl
      refine step_app (.tmp 8) (.tmp 14) 28 _ _ _ wa (by rfl) (by rfl) (by rfl) (by rfl) hra ?_
      have Ba : Below B wc wa := below_grown (Below.refl _ _) YM.2 hga (fun q hq => (YM.lt q hq).1)
      replace TP := TP.low Ba hpb
      replace BW := BW.trans (Ba.mono (by omega))
      clear YM hga hra Ba TK BO
      simp only [Act.put, List.setIfInBounds_toArray, List.set_cons_zero, List.set_cons_succ]
      refine hK.out _ _ trivial (fun hH' => ?_)
      clear hK K
      replace hH := hH'
      clear hH' 
      refine wpAnyH_take (i := 12) (oi := { dst := some 16, op := Op.nilCheck (Operand.tmp 4), type := 0, pos := "l16_texture.go:282", after := #[{ on := 0, ground := Ground.data }, { on := 0, ground := Ground.phase }, { on := 1, ground := Ground.phase }, { on := 2, ground := Ground.phase }, { on := 3, ground := Ground.phase }, { on := 4, ground := Ground.phase }, { on := 5, ground := Ground.phase }, { on := 6, ground := Ground.phase }, { on := 7, ground := Ground.phase }, { on := 8, ground := Ground.phase }, { on := 9, ground := Ground.phase }, { on := 10, ground := Ground.phase }, { on := 11, ground := Ground.phase }], guard := none }) (v := .pointer (some ⟨pb, 0, none⟩)) rfl (by kernel_rfl) (by kernel_rfl) (by kernel_rfl) (fun _ _ _ h => h) (Or.inl ⟨by rfl, fun w0 hSw => by (go_simp)⟩) hH ?_
      simp only [Act.put, List.setIfInBounds_toArray, List.set_cons_zero, List.set_cons_succ]
      refine wpAnyH_take (i := 13) (oi := { dst := some 17, op := Op.fieldAddr 81 (Operand.tmp 16) 3, type := 0, pos := "l16_texture.go:282", after := #[{ on := 12, ground := Ground.data }, { on := 0, ground := Ground.phase }, { on := 1, ground := Ground.phase }, { on := 2, ground := Ground.phase }, { on := 3, ground := Ground.phase }, { on := 4, ground := Ground.phase }, { on := 5, ground := Ground.phase }, { on := 6, ground := Ground.phase }, { on := 7, ground := Ground.phase }, { on := 8, ground := Ground.phase }, { on := 9, ground := Ground.phase }, { on := 10, ground := Ground.phase }, { on := 11, ground := Ground.phase }], guard := none }) (v := .pointer (some ⟨pb, 3, none⟩)) rfl (by kernel_rfl) (by kernel_rfl) (by kernel_rfl) (fun _ _ _ h => h) (Or.inl ⟨by rfl, fun w0 hSw => by (go_simp)⟩) hH ?_
      simp only [Act.put, List.setIfInBounds_toArray, List.set_cons_zero, List.set_cons_succ]
      refine wpAnyH_ready (rs := [14]) (by kernel_rfl) (by simp) ?_
      refine (AllReadyH.cons (o := { dst := none, op := Op.store 28 (Operand.tmp 17) (Operand.tmp 15), type := 0, pos := "l16_texture.go:282", after := #[{ on := 13, ground := Ground.data }, { on := 11, ground := Ground.data }, { on := 11, ground := Ground.chain }, { on := 0, ground := Ground.phase }, { on := 1, ground := Ground.phase }, { on := 2, ground := Ground.phase }, { on := 3, ground := Ground.phase }, { on := 4, ground := Ground.phase }, { on := 5, ground := Ground.phase }, { on := 6, ground := Ground.phase }, { on := 7, ground := Ground.phase }, { on := 8, ground := Ground.phase }, { on := 9, ground := Ground.phase }, { on := 10, ground := Ground.phase }, { on := 11, ground := Ground.phase }], guard := none }) rfl (fun K hK => ?_) AllReadyH.nil)
      refine step_skip (wa.setCell ⟨pb, 3, none⟩ (.slice (some ⟨g, 0, none⟩) nl cap)) (by rfl) (by (have e0 := TP.c3); (have ef := TP.f); go_simp) ?_
      have TS := TP.s3 (.slice (some ⟨g, 0, none⟩) nl cap)
      have OS := (Only.refl pb wa).setCell 3 (.slice (some ⟨g, 0, none⟩) nl cap)
      have YS := YN.grown (only_grown OS) (Or.inr (by have := (YN.lt g rfl).1; simp [Value.ownBlock]; omega))
      have BS := BW.trans (OS.below (Nat.le_refl _) (by have := TP.hi; omega))
      clear TP YN OS BW
      refine hK.out _ _ trivial (fun hH' => ?_)
      clear hK K
      replace hH := hH'
      clear hH' 
      refine wpAnyH_done (by kernel_rfl) ?_ _
      go_wp2
      go_end0
      exact ⟨rfl, _, TS, YS, BS⟩
    · refine step_val (.iface 98 (.agg #[])) WX (by rfl) (by (have e0 := TP.c2); go_simp) ?_
      simp only [Act.put, List.setIfInBounds_toArray, List.set_cons_zero, List.set_cons_succ]
      refine hK.out _ _ trivial (fun hH' => ?_)
      clear hK K
      replace hH := hH'
      clear hH' 
      refine wpAnyH_ready (rs := [4, 10]) (by kernel_rfl) (by simp) ?_
      refine (AllReadyH.cons (o := { dst := some 8, op := Op.load 28 (Operand.tmp 7), type := 28, pos := "l16_texture.go:282", after := #[{ on := 3, ground := Ground.data }], guard := none }) rfl (fun K hK => ?_) (AllReadyH.cons (o := { dst := some 14, op := Op.call { callee := Callee.invoke (Operand.tmp 12) "loop.example/g00053/impl.pack", args := #[Operand.tmp 13], argTypes := #[25] }, type := 28, pos := "l16_texture.go:282", after := #[{ on := 8, ground := Ground.data }, { on := 9, ground := Ground.data }], guard := none }) rfl (fun K hK => ?_) AllReadyH.nil))
      · refine step_val (.slice a M.length cp) WX (by rfl) (by (have e0 := TP.c3); go_simp) ?_
        simp only [Act.put, List.setIfInBounds_toArray, List.set_cons_zero, List.set_cons_succ]
        refine hK.out _ _ trivial (fun hH' => ?_)
        clear hK K
        replace hH := hH'
        clear hH' 
        refine wpAnyH_ready (rs := [10]) (by kernel_rfl) (by simp) ?_
        refine (AllReadyH.cons (o := { dst := some 14, op := Op.call { callee := Callee.invoke (Operand.tmp 12) "loop.example/g00053/impl.pack", args := #[Operand.tmp 13], argTypes := #[25] }, type := 28, pos := "l16_texture.go:282", after := #[{ on := 8, ground := Ground.data }, { on := 9, ground := Ground.data }], guard := none }) rfl (fun K hK => ?_) AllReadyH.nil)
        refine step_callC 105 #[.agg #[], .agg #[.int .i64 c.r, .int .i64 c.g, .int .i64 c.b, .int .i64 c.a]] (fun z v w' => BOwn v.heap.size w' z LP ∧ Below v.heap.size v w') (by rfl) (by go_simp) ((HPK.out _).mono fun e w' ⟨u, h1, h2, h3⟩ => ⟨u, h1, h2, h3⟩) ?_
        rintro zc wc ⟨BO, Bc⟩
        replace BW := BW.trans (Bc.mono (Nat.le_of_lt TP.hi))
        replace TP := TP.next Bc
        replace TK := TK.next Bc
        replace YM := YM.next Bc
        clear Bc
        simp only [Act.put, List.setIfInBounds_toArray, List.set_cons_zero, List.set_cons_succ]
        refine hK.out _ _ trivial (fun hH' => ?_)
        clear hK K
        replace hH := hH'
        clear hH' 
        refine wpAnyH_ready (rs := [11]) (by kernel_rfl) (by simp) ?_
        refine (AllReadyH.cons (o := { dst := some 15, op := Op.call { callee := Callee.builtin Builtin.append, args := #[Operand.tmp 8, Operand.tmp 14], argTypes := #[28, 28] }, type := 28, pos := "l16_texture.go:282", after := #[{ on := 4, ground := Ground.data }, { on := 10, ground := Ground.data }, { on := 10, ground := Ground.chain }], guard := none }) rfl (fun K hK => ?_) AllReadyH.nil)
        obtain ⟨g, cap, wa, hra, YN, hga⟩ := run_append_y8 (ty := 28) YM BO (by have := HLP.out; omega) (by have := HLP.out; omega)
        obtain ⟨nl, hnl⟩ : ∃ z, (M ++ LP).length = z := ⟨_, rfl⟩
        rw [hnl] at hra YN
        clear hnl
        refine step_app (.tmp 8) (.tmp 14) 28 _ _ _ wa (by rfl) (by rfl) (by rfl) (by rfl) hra ?_
        have Ba : Below B wc wa := below_grown (Below.refl _ _) YM.2 hga (fun q hq => (YM.lt q hq).1)
        replace TP := TP.low Ba hpb
        replace BW := BW.trans (Ba.mono (by omega))
        clear YM hga hra Ba TK BO
        simp only [Act.put, List.setIfInBounds_toArray, List.set_cons_zero, List.set_cons_succ]
        refine hK.out _ _ trivial (fun hH' => ?_)
        clear hK K
        replace hH := hH'
        clear hH' 
        refine wpAnyH_take (i := 12) (oi := { dst := some 16, op := Op.nilCheck (Operand.tmp 4), type := 0, pos := "l16_texture.go:282", after := #[{ on := 0, ground := Ground.data }, { on := 0, ground := Ground.phase }, { on := 1, ground := Ground.phase }, { on := 2, ground := Ground.phase }, { on := 3, ground := Ground.phase }, { on := 4, ground := Ground.phase }, { on := 5, ground := Ground.phase }, { on := 6, ground := Ground.phase }, { on := 7, ground := Ground.phase }, { on := 8, ground := Ground.phase }, { on := 9, ground := Ground.phase }, { on := 10, ground := Ground.phase }, { on := 11, ground := Ground.phase }], guard := none }) (v := .pointer (some ⟨pb, 0, none⟩)) rfl (by kernel_rfl) (by kernel_rfl) (by kernel_rfl) (fun _ _ _ h => h) (Or.inl ⟨by rfl, fun w0 hSw => by (go_simp)⟩) hH ?_
        simp only [Act.put, List.setIfInBounds_toArray, List.set_cons_zero, List.set_cons_succ]
        refine wpAnyH_take (i := 13) (oi := { dst := some 17, op := Op.fieldAddr 81 (Operand.tmp 16) 3, type := 0, pos := "l16_texture.go:282", after := #[{ on := 12, ground := Ground.data }, { on := 0, ground := Ground.phase }, { on := 1, ground := Ground.phase }, { on := 2, ground := Ground.phase }, { on := 3, ground := Ground.phase }, { on := 4, ground := Ground.phase }, { on := 5, ground := Ground.phase }, { on := 6, ground := Ground.phase }, { on := 7, ground := Ground.phase }, { on := 8, ground := Ground.phase }, { on := 9, ground := Ground.phase }, { on := 10, ground := Ground.phase }, { on := 11, ground := Ground.phase }], guard := none }) (v := .pointer (some ⟨pb, 3, none⟩)) rfl (by kernel_rfl) (by kernel_rfl) (by kernel_rfl) (fun _ _ _ h => h) (Or.inl ⟨by rfl, fun w0 hSw => by (go_simp)⟩) hH ?_
        simp only [Act.put, List.setIfInBounds_toArray, List.set_cons_zero, List.set_cons_succ]
        refine wpAnyH_ready (rs := [14]) (by kernel_rfl) (by simp) ?_
        refine (AllReadyH.cons (o := { dst := none, op := Op.store 28 (Operand.tmp 17) (Operand.tmp 15), type := 0, pos := "l16_texture.go:282", after := #[{ on := 13, ground := Ground.data }, { on := 11, ground := Ground.data }, { on := 11, ground := Ground.chain }, { on := 0, ground := Ground.phase }, { on := 1, ground := Ground.phase }, { on := 2, ground := Ground.phase }, { on := 3, ground := Ground.phase }, { on := 4, ground := Ground.phase }, { on := 5, ground := Ground.phase }, { on := 6, ground := Ground.phase }, { on := 7, ground := Ground.phase }, { on := 8, ground := Ground.phase }, { on := 9, ground := Ground.phase }, { on := 10, ground := Ground.phase }, { on := 11, ground := Ground.phase }], guard := none }) rfl (fun K hK => ?_) AllReadyH.nil)
        refine step_skip (wa.setCell ⟨pb, 3, none⟩ (.slice (some ⟨g, 0, none⟩) nl cap)) (by rfl) (by (have e0 := TP.c3); (have ef := TP.f); go_simp) ?_
        have TS := TP.s3 (.slice (some ⟨g, 0, none⟩) nl cap)
        have OS := (Only.refl pb wa).setCell 3 (.slice (some ⟨g, 0, none⟩) nl cap)
        have YS := YN.grown (only_grown OS) (Or.inr (by have := (YN.lt g rfl).1; simp [Value.ownBlock]; omega))
        have BS := BW.trans (OS.below (Nat.le_refl _) (by have := TP.hi; omega))
        clear TP YN OS BW
        refine hK.out _ _ trivial (fun hH' => ?_)
        clear hK K
        replace hH := hH'
        clear hH' 
        refine wpAnyH_done (by kernel_rfl) ?_ _
        go_wp2
        go_end0
        exact ⟨rfl, _, TS, YS, BS⟩
      · refine step_callC 105 #[.agg #[], .agg #[.int .i64 c.r, .int .i64 c.g, .int .i64 c.b, .int .i64 c.a]] (fun z v w' => BOwn v.heap.size w' z LP ∧ Below v.heap.size v w') (by rfl) (by go_simp) ((HPK.out _).mono fun e w' ⟨u, h1, h2, h3⟩ => ⟨u, h1, h2, h3⟩) ?_
        rintro zc wc ⟨BO, Bc⟩
        replace BW := BW.trans (Bc.mono (Nat.le_of_lt TP.hi))
        replace TP := TP.next Bc
        replace TK := TK.next Bc
        replace YM := YM.next Bc
        clear Bc
        simp only [Act.put, List.setIfInBounds_toArray, List.set_cons_zero, List.set_cons_succ]
        refine hK.out _ _ trivial (fun hH' => ?_)
        clear hK K
        replace hH := hH'
        clear hH' 
        refine wpAnyH_ready (rs := [4]) (by kernel_rfl) (by simp) ?_
        refine (AllReadyH.cons (o := { dst := some 8, op := Op.load 28 (Operand.tmp 7), type := 28, pos := "l16_texture.go:282", after := #[{ on := 3, ground := Ground.data }], guard := none }) rfl (fun K hK => ?_) AllReadyH.nil)
        refine step_val (.slice a M.length cp) wc (by rfl) (by (have e0 := TP.c3); go_simp) ?_
        simp only [Act.put, List.setIfInBounds_toArray, List.set_cons_zero, List.set_cons_succ]
        refine hK.out _ _ trivial (fun hH' => ?_)
        clear hK K
        replace hH := hH'
        clear hH' 
        refine wpAnyH_ready (rs := [11]) (by kernel_rfl) (by simp) ?_
        refine (AllReadyH.cons (o := { dst := some 15, op := Op.call { callee := Callee.builtin Builtin.append, args := #[Operand.tmp 8, Operand.tmp 14], argTypes := #[28, 28] }, type := 28, pos := "l16_texture.go:282", after := #[{ on := 4, ground := Ground.data }, { on := 10, ground := Ground.data }, { on := 10, ground := Ground.chain }], guard := none }) rfl (fun K hK => ?_) AllReadyH.nil)
        obtain ⟨g, cap, wa, hra, YN, hga⟩ := run_append_y8 (ty := 28) YM BO (by have := HLP.out; omega) (by have := HLP.out; omega)
        obtain ⟨nl, hnl⟩ : ∃ z, (M ++ LP).length = z := ⟨_, rfl⟩
        rw [hnl] at hra YN
        clear hnl
        refine step_app (.tmp 8) (.tmp 14) 28 _ _ _ wa (by rfl) (by rfl) (by rfl) (by rfl) hra ?_
        have Ba : Below B wc wa := below_grown (Below.refl _ _) YM.2 hga (fun q hq => (YM.lt q hq).1)
        replace TP := TP.low Ba hpb
        replace BW := BW.trans (Ba.mono (by omega))
        clear YM hga hra Ba TK BO
        simp only [Act.put, List.setIfInBounds_toArray, List.set_cons_zero, List.set_cons_succ]
        refine hK.out _ _ trivial (fun hH' => ?_)
        clear hK K
        replace hH := hH'
        clear hH' 
        refine wpAnyH_take (i := 12) (oi := { dst := some 16, op := Op.nilCheck (Operand.tmp 4), type := 0, pos := "l16_texture.go:282", after := #[{ on := 0, ground := Ground.data }, { on := 0, ground := Ground.phase }, { on := 1, ground := Ground.phase }, { on := 2, ground := Ground.phase }, { on := 3, ground := Ground.phase }, { on := 4, ground := Ground.phase }, { on := 5, ground := Ground.phase }, { on := 6, ground := Ground.phase }, { on := 7, ground := Ground.phase }, { on := 8, ground := Ground.phase }, { on := 9, ground := Ground.phase }, { on := 10, ground := Ground.phase }, { on := 11, ground := Ground.phase }], guard := none }) (v := .pointer (some ⟨pb, 0, none⟩)) rfl (by kernel_rfl) (by kernel_rfl) (by kernel_rfl) (fun _ _ _ h => h) (Or.inl ⟨by rfl, fun w0 hSw => by (go_simp)⟩) hH ?_
        simp only [Act.put, List.setIfInBounds_toArray, List.set_cons_zero, List.set_cons_succ]
        refine wpAnyH_take (i := 13) (oi := { dst := some 17, op := Op.fieldAddr 81 (Operand.tmp 16) 3, type := 0, pos := "l16_texture.go:282", after := #[{ on := 12, ground := Ground.data }, { on := 0, ground := Ground.phase }, { on := 1, ground := Ground.phase }, { on := 2, ground := Ground.phase }, { on := 3, ground := Ground.phase }, { on := 4, ground := Ground.phase }, { on := 5, ground := Ground.phase }, { on := 6, ground := Ground.phase }, { on := 7, ground := Ground.phase }, { on := 8, ground := Ground.phase }, { on := 9, ground := Ground.phase }, { on := 10, ground := Ground.phase }, { on := 11, ground := Ground.phase }], guard := none }) (v := .pointer (some ⟨pb, 3, none⟩)) rfl (by kernel_rfl) (by kernel_rfl) (by kernel_rfl) (fun _ _ _ h => h) (Or.inl ⟨by rfl, fun w0 hSw => by (go_simp)⟩) hH ?_
        simp only [Act.put, List.setIfInBounds_toArray, List.set_cons_zero, List.set_cons_succ]
        refine wpAnyH_ready (rs := [14]) (by kernel_rfl) (by simp) ?_
        refine (AllReadyH.cons (o := { dst := none, op := Op.store 28 (Operand.tmp 17) (Operand.tmp 15), type := 0, pos := "l16_texture.go:282", after := #[{ on := 13, ground := Ground.data }, { on := 11, ground := Ground.data }, { on := 11, ground := Ground.chain }, { on := 0, ground := Ground.phase }, { on := 1, ground := Ground.phase }, { on := 2, ground := Ground.phase }, { on := 3, ground := Ground.phase }, { on := 4, ground := Ground.phase }, { on := 5, ground := Ground.phase }, { on := 6, ground := Ground.phase }, { on := 7, ground := Ground.phase }, { on := 8, ground := Ground.phase }, { on := 9, ground := Ground.phase }, { on := 10, ground := Ground.phase }, { on := 11, ground := Ground.phase }], guard := none }) rfl (fun K hK => ?_) AllReadyH.nil)
        refine step_skip (wa.setCell ⟨pb, 3, none⟩ (.slice (some ⟨g, 0, none⟩) nl cap)) (by rfl) (by (have e0 := TP.c3); (have ef := TP.f); go_simp) ?_
        have TS := TP.s3 (.slice (some ⟨g, 0, none⟩) nl cap)
        have OS := (Only.refl pb wa).setCell 3 (.slice (some ⟨g, 0, none⟩) nl cap)
        have YS := YN.grown (only_grown OS) (Or.inr (by have := (YN.lt g rfl).1; simp [Value.ownBlock]; omega))
        have BS := BW.trans (OS.below (Nat.le_refl _) (by have := TP.hi; omega))
        clear TP YN OS BW
        refine hK.out _ _ trivial (fun hH' => ?_)
        clear hK K
        replace hH := hH'
        clear hH' 
        refine wpAnyH_done (by kernel_rfl) ?_ _
        go_wp2
        go_end0
        exact ⟨rfl, _, TS, YS, BS⟩
set_option maxRecDepth 100000 in
set_option maxHeartbeats 4000000 in
theorem padd2 (A H : Int) (c : Col) (hc : c.ok) (pb B : Nat) (v : Value) (M : List Int) (w : World) (TP : C4 w pb (.int .i64 A) (.int .i64 H) (fmV 2) v) (YM : Y8 B w v M) (hpb : pb < B) (hM : M.length ≤ 90000) : Calls Try.prog 57 #[.pointer (some ⟨pb, 0, none⟩), colV c] w fun e w' => e = .returned (.tuple #[]) ∧ ∃ v', C4 w' pb (.int .i64 A) (.int .i64 H) (fmV 2) v' ∧ Y8 B w' v' (M ++ pkK 2 c) ∧ Below pb w w' := by
  have hm : ∀ w : World, (method 233 99 (Value.agg #[]) "loop.example/g00053/impl.pack").run Try.prog w = .ok (109, .agg #[]) w := fun w => by kernel_rfl
  have hgd : gdC c.r c.g c.b c.a = true := gdC_iff.2 hc
  have HPK : Hid (∀ w : World, Calls Try.prog 109 #[.agg #[], .agg #[.int .i64 c.r, .int .i64 c.g, .int .i64 c.b, .int .i64 c.a]] w (Pkd w (pkK 2 c))) := fun w => full108 c.r c.g c.b c.a w hgd
  have HLP : Hid (M.length ≤ 90000 ∧ 1 ≤ (pkK 2 c).length ∧ (pkK 2 c).length ≤ 4) := ⟨hM, by rw [pk_len (by decide)]; decide, by rw [pk_len (by decide)]; decide⟩
  generalize pkK 2 c = LP at HPK HLP ⊢
  have hfm : fmV 2 = .iface 99 (.agg #[]) := rfl
  rw [hfm] at TP ⊢
  obtain ⟨a, cp, rfl⟩ := YM.is
  have TK := C4.new w 25 (.int .i64 c.r) (.int .i64 c.g) (.int .i64 c.b) (.int .i64 c.a)
  replace TP := TP.next (alloc_b (o := (.cells #[.int .i64 c.r, .int .i64 c.g, .int .i64 c.b, .int .i64 c.a] 25)))
  replace YM := YM.alloc (.cells #[.int .i64 c.r, .int .i64 c.g, .int .i64 c.b, .int .i64 c.a] 25)
  have BW : Below pb w (w.alloc (.cells #[.int .i64 c.r, .int .i64 c.g, .int .i64 c.b, .int .i64 c.a] 25)) := alloc_b.mono (by have := YM.2; have := TP.hi; simp at this; omega)
  obtain ⟨W0, hW0⟩ : ∃ z, w.alloc (.cells #[.int .i64 c.r, .int .i64 c.g, .int .i64 c.b, .int .i64 c.a] 25) = z := ⟨_, rfl⟩
  have HW0 := Hid.mk hW0
  rw [hW0] at TK TP YM BW
  clear hW0 hgd hM
  unfold colV
  go_enter Try.func57, Try.ntmps57
  go_upto_region 1 with fail
  rw [HW0.out]
  clear HW0
  replace TP := TP.next (below_drew (Below.refl _ _))
  replace TK := TK.next (below_drew (Below.refl _ _))
  replace YM := YM.next (below_drew (Below.refl _ _))
  replace BW := below_drew BW
  generalize hWW : W0.drew = WX at TP TK YM BW
  obtain ⟨cb, hcb⟩ : ∃ z, w.heap.size = z := ⟨_, rfl⟩
  rw [hcb] at TK ⊢
  clear hcb
  refine wp_region_held_drew (S := fun _ => True) (by kernel_rfl) trivial (fun hH => ?_)
  rw [hWW]
  clear hWW
  refine wpAnyH_take (i := 0) (oi := { dst := some 4, op := Op.move (Operand.tmp 0), type := 109, pos := "l16_texture.go:282", after := #[], guard := none }) (v := .pointer (some ⟨pb, 0, none⟩)) rfl (by kernel_rfl) (by kernel_rfl) (by kernel_rfl) (fun _ _ _ h => h) (Or.inl ⟨by rfl, fun w0 hSw => by (go_simp)⟩) hH ?_
  simp only [Act.put, List.setIfInBounds_toArray, List.set_cons_zero, List.set_cons_succ]
  refine wpAnyH_take (i := 1) (oi := { dst := some 5, op := Op.move (Operand.tmp 0), type := 109, pos := "l16_texture.go:282", after := #[], guard := none }) (v := .pointer (some ⟨pb, 0, none⟩)) rfl (by kernel_rfl) (by kernel_rfl) (by kernel_rfl) (fun _ _ _ h => h) (Or.inl ⟨by rfl, fun w0 hSw => by (go_simp)⟩) hH ?_
  simp only [Act.put, List.setIfInBounds_toArray, List.set_cons_zero, List.set_cons_succ]
  refine wpAnyH_take (i := 2) (oi := { dst := some 6, op := Op.nilCheck (Operand.tmp 5), type := 0, pos := "l16_texture.go:282", after := #[{ on := 1, ground := Ground.data }], guard := none }) (v := .pointer (some ⟨pb, 0, none⟩)) rfl (by kernel_rfl) (by kernel_rfl) (by kernel_rfl) (fun _ _ _ h => h) (Or.inl ⟨by rfl, fun w0 hSw => by (go_simp)⟩) hH ?_
  simp only [Act.put, List.setIfInBounds_toArray, List.set_cons_zero, List.set_cons_succ]
  refine wpAnyH_take (i := 3) (oi := { dst := some 7, op := Op.fieldAddr 81 (Operand.tmp 6) 3, type := 0, pos := "l16_texture.go:282", after := #[{ on := 2, ground := Ground.data }], guard := none }) (v := .pointer (some ⟨pb, 3, none⟩)) rfl (by kernel_rfl) (by kernel_rfl) (by kernel_rfl) (fun _ _ _ h => h) (Or.inl ⟨by rfl, fun w0 hSw => by (go_simp)⟩) hH ?_
  simp only [Act.put, List.setIfInBounds_toArray, List.set_cons_zero, List.set_cons_succ]
  refine wpAnyH_take (i := 5) (oi := { dst := some 9, op := Op.move (Operand.tmp 0), type := 109, pos := "l16_texture.go:282", after := #[], guard := none }) (v := .pointer (some ⟨pb, 0, none⟩)) rfl (by kernel_rfl) (by kernel_rfl) (by kernel_rfl) (fun _ _ _ h => h) (Or.inl ⟨by rfl, fun w0 hSw => by (go_simp)⟩) hH ?_
  simp only [Act.put, List.setIfInBounds_toArray, List.set_cons_zero, List.set_cons_succ]
  refine wpAnyH_take (i := 6) (oi := { dst := some 10, op := Op.nilCheck (Operand.tmp 9), type := 0, pos := "l16_texture.go:282", after := #[{ on := 5, ground := Ground.data }], guard := none }) (v := .pointer (some ⟨pb, 0, none⟩)) rfl (by kernel_rfl) (by kernel_rfl) (by kernel_rfl) (fun _ _ _ h => h) (Or.inl ⟨by rfl, fun w0 hSw => by (go_simp)⟩) hH ?_
  simp only [Act.put, List.setIfInBounds_toArray, List.set_cons_zero, List.set_cons_succ]
  refine wpAnyH_take (i := 7) (oi := { dst := some 11, op := Op.fieldAddr 81 (Operand.tmp 10) 2, type := 0, pos := "l16_texture.go:282", after := #[{ on := 6, ground := Ground.data }], guard := none }) (v := .pointer (some ⟨pb, 2, none⟩)) rfl (by kernel_rfl) (by kernel_rfl) (by kernel_rfl) (fun _ _ _ h => h) (Or.inl ⟨by rfl, fun w0 hSw => by (go_simp)⟩) hH ?_
  simp only [Act.put, List.setIfInBounds_toArray, List.set_cons_zero, List.set_cons_succ]
  refine wpAnyH_ready (rs := [4, 8, 9]) (by kernel_rfl) (by simp) ?_
  refine (AllReadyH.cons (o := { dst := some 8, op := Op.load 28 (Operand.tmp 7), type := 28, pos := "l16_texture.go:282", after := #[{ on := 3, ground := Ground.data }], guard := none }) rfl (fun K hK => ?_) (AllReadyH.cons (o := { dst := some 12, op := Op.load 62 (Operand.tmp 11), type := 62, pos := "l16_texture.go:282", after := #[{ on := 7, ground := Ground.data }], guard := none }) rfl (fun K hK => ?_) (AllReadyH.cons (o := { dst := some 13, op := Op.load 25 (Operand.tmp 3), type := 25, pos := "l16_texture.go:282", after := #[], guard := none }) rfl (fun K hK => ?_) AllReadyH.nil)))
  · refine step_val (.slice a M.length cp) WX (by rfl) (by (have e0 := TP.c3); go_simp) ?_
    simp only [Act.put, List.setIfInBounds_toArray, List.set_cons_zero, List.set_cons_succ]
    refine hK.out _ _ trivial (fun hH' => ?_)
    clear hK K
    replace hH := hH'
    clear hH' 
    refine wpAnyH_ready (rs := [8, 9]) (by kernel_rfl) (by simp) ?_
    refine (AllReadyH.cons (o := { dst := some 12, op := Op.load 62 (Operand.tmp 11), type := 62, pos := "l16_texture.go:282", after := #[{ on := 7, ground := Ground.data }], guard := none }) rfl (fun K hK => ?_) (AllReadyH.cons (o := { dst := some 13, op := Op.load 25 (Operand.tmp 3), type := 25, pos := "l16_texture.go:282", after := #[], guard := none }) rfl (fun K hK => ?_) AllReadyH.nil))
    · refine step_val (.iface 99 (.agg #[])) WX (by rfl) (by (have e0 := TP.c2); go_simp) ?_
      simp only [Act.put, List.setIfInBounds_toArray, List.set_cons_zero, List.set_cons_succ]
      refine hK.out _ _ trivial (fun hH' => ?_)
      clear hK K
      replace hH := hH'
      clear hH' 
      refine wpAnyH_ready (rs := [9]) (by kernel_rfl) (by simp) ?_
      refine (AllReadyH.cons (o := { dst := some 13, op := Op.load 25 (Operand.tmp 3), type := 25, pos := "l16_texture.go:282", after := #[], guard := none }) rfl (fun K hK => ?_) AllReadyH.nil)
      refine step_val (.agg #[.int .i64 c.r, .int .i64 c.g, .int .i64 c.b, .int .i64 c.a]) WX (by rfl) (by (have e0 := TK.c0); (have e1 := TK.c1); (have e2 := TK.c2); (have e3 := TK.c3); go_simp) ?_
      simp only [Act.put, List.setIfInBounds_toArray, List.set_cons_zero, List.set_cons_succ]
      refine hK.out _ _ trivial (fun hH' => ?_)
      clear hK K
      replace hH := hH'
      clear hH' 
      refine wpAnyH_ready (rs := [10]) (by kernel_rfl) (by simp) ?_
      refine (AllReadyH.cons (o := { dst := some 14, op := Op.call { callee := Callee.invoke (Operand.tmp 12) "loop.example/g00053/impl.pack", args := #[Operand.tmp 13], argTypes := #[25] }, type := 28, pos := "l16_texture.go:282", after := #[{ on := 8, ground := Ground.data }, { on := 9, ground := Ground.data }], guard := none }) rfl (fun K hK => ?_) AllReadyH.nil)
      refine step_callC 109 #[.agg #[], .agg #[.int .i64 c.r, .int .i64 c.g, .int .i64 c.b, .int .i64 c.a]] (fun z v w' => BOwn v.heap.size w' z LP ∧ Below v.heap.size v w') (by rfl) (by go_simp) ((HPK.out _).mono fun e w' ⟨u, h1, h2, h3⟩ => ⟨u, h1, h2, h3⟩) ?_
      rintro zc wc ⟨BO, Bc⟩
      replace BW := BW.trans (Bc.mono (Nat.le_of_lt TP.hi))
      replace TP := TP.next Bc
      replace TK := TK.next Bc
      replace YM := YM.next Bc
      clear Bc
      simp only [Act.put, List.setIfInBounds_toArray, List.set_cons_zero, List.set_cons_succ]
      refine hK.out _ _ trivial (fun hH' => ?_)
      clear hK K
      replace hH := hH'
      clear hH' 
      refine wpAnyH_ready (rs := [11]) (by kernel_rfl) (by simp) ?_
      refine (AllReadyH.cons (o := { dst := some 15, op := Op.call { callee := Callee.builtin Builtin.append, args := #[Operand.tmp 8, Operand.tmp 14], argTypes := #[28, 28] }, type := 28, pos := "l16_texture.go:282", after := #[{ on := 4, ground := Ground.data }, { on := 10, ground := Ground.data }, { on := 10, ground := Ground.chain }], guard := none }) rfl (fun K hK => ?_) AllReadyH.nil)
      obtain ⟨g, cap, wa, hra, YN, hga⟩ := run_append_y8 (ty := 28) YM BO (by have := HLP.out; omega) (by have := HLP.out; omega)
      obtain ⟨nl, hnl⟩ : ∃ z, (M ++ LP).length = z := ⟨_, rfl⟩
      rw [hnl] at hra YN
      clear hnl
      refine step_app (.tmp 8) (.tmp 14) 28 _ _ _ wa (by rfl) (by rfl) (by rfl) (by rfl) hra ?_
      have Ba : Below B wc wa := below_grown (Below.refl _ _) YM.2 hga (fun q hq => (YM.lt q hq).1)
      replace TP := TP.low Ba hpb
      replace BW := BW.trans (Ba.mono (by omega))
      clear YM hga hra Ba TK BO
      simp only [Act.put, List.setIfInBounds_toArray, List.set_cons_zero, List.set_cons_succ]
      refine hK.out _ _ trivial (fun hH' => ?_)
      clear hK K
      replace hH := hH'
      clear hH' 
      refine wpAnyH_take (i := 12) (oi := { dst := some 16, op := Op.nilCheck (Operand.tmp 4), type := 0, pos := "l16_texture.go:282", after := #[{ on := 0, ground := Ground.data }, { on := 0, ground := Ground.phase }, { on := 1, ground := Ground.phase }, { on := 2, ground := Ground.phase }, { on := 3, ground := Ground.phase }, { on := 4, ground := Ground.phase }, { on := 5, ground := Ground.phase }, { on := 6, ground := Ground.phase }, { on := 7, ground := Ground.phase }, { on := 8, ground := Ground.phase }, { on := 9, ground := Ground.phase }, { on := 10, ground := Ground.phase }, { on := 11, ground := Ground.phase }], guard := none }) (v := .pointer (some ⟨pb, 0, none⟩)) rfl (by kernel_rfl) (by kernel_rfl) (by kernel_rfl) (fun _ _ _ h => h) (Or.inl ⟨by rfl, fun w0 hSw => by (go_simp)⟩) hH ?_
      simp only [Act.put, List.setIfInBounds_toArray, List.set_cons_zero, List.set_cons_succ]
      refine wpAnyH_take (i := 13) (oi := { dst := some 17, op := Op.fieldAddr 81 (Operand.tmp 16) 3, type := 0, pos := "l16_texture.go:282", after := #[{ on := 12, ground := Ground.data }, { on := 0, ground := Ground.phase }, { on := 1, ground := Ground.phase }, { on := 2, ground := Ground.phase }, { on := 3, ground := Ground.phase }, { on := 4, ground := Ground.phase }, { on := 5, ground := Ground.phase }, { on := 6, ground := Ground.phase }, { on := 7, ground := Ground.phase }, { on := 8, ground := Ground.phase }, { on := 9, ground := Ground.phase }, { on := 10, ground := Ground.phase }, { on := 11, ground := Ground.phase }], guard := none }) (v := .pointer (some ⟨pb, 3, none⟩)) rfl (by kernel_rfl) (by kernel_rfl) (by kernel_rfl) (fun _ _ _ h => h) (Or.inl ⟨by rfl, fun w0 hSw => by (go_simp)⟩) hH ?_
      simp only [Act.put, List.setIfInBounds_toArray, List.set_cons_zero, List.set_cons_succ]
      refine wpAnyH_ready (rs := [14]) (by kernel_rfl) (by simp) ?_
      refine (AllReadyH.cons (o := { dst := none, op := Op.store 28 (Operand.tmp 17) (Operand.tmp 15), type := 0, pos := "l16_texture.go:282", after := #[{ on := 13, ground := Ground.data }, { on := 11, ground := Ground.data }, { on := 11, ground := Ground.chain }, { on := 0, ground := Ground.phase }, { on := 1, ground := Ground.phase }, { on := 2, ground := Ground.phase }, { on := 3, ground := Ground.phase }, { on := 4, ground := Ground.phase }, { on := 5, ground := Ground.phase }, { on := 6, ground := Ground.phase }, { on := 7, ground := Ground.phase }, { on := 8, ground := Ground.phase }, { on := 9, ground := Ground.phase }, { on := 10, ground := Ground.phase }, { on := 11, ground := Ground.phase }], guard := none }) rfl (fun K hK => ?_) AllReadyH.nil)
      refine step_skip (wa.setCell ⟨pb, 3, none⟩ (.slice (some ⟨g, 0, none⟩) nl cap)) (by rfl) (by (have e0 := TP.c3); (have ef := TP.f); go_simp) ?_
      have TS := TP.s3 (.slice (some ⟨g, 0, none⟩) nl cap)
      have OS := (Only.refl pb wa).setCell 3 (.slice (some ⟨g, 0, none⟩) nl cap)
      have YS := YN.grown (only_grown OS) (Or.inr (by have := (YN.lt g rfl).1; simp [Value.ownBlock]; omega))
      have BS := BW.trans (OS.below (Nat.le_refl _) (by have := TP.hi; omega))
      clear TP YN OS BW
      refine hK.out _ _ trivial (fun hH' => ?_)
      clear hK K
      replace hH := hH'
      clear hH' 
      refine wpAnyH_done (by kernel_rfl) ?_ _
      go_wp2
      go_end0
      exact ⟨rfl, _, TS, YS, BS⟩
    · refine step_val (.agg #[.int .i64 c.r, .int .i64 c.g, .int .i64 c.b, .int .i64 c.a]) WX (by rfl) (by (have e0 := TK.c0); (have e1 := TK.c1); (have e2 := TK.c2); (have e3 := TK.c3); go_simp) ?_
      simp only [Act.put, List.setIfInBounds_toArray, List.set_cons_zero, List.set_cons_succ]
      refine hK.out _ _ trivial (fun hH' => ?_)
      clear hK K
      replace hH := hH'
      clear hH' 
      refine wpAnyH_ready (rs := [8]) (by kernel_rfl) (by simp) ?_
      refine (AllReadyH.cons (o := { dst := some 12, op := Op.load 62 (Operand.tmp 11), type := 62, pos := "l16_texture.go:282", after := #[{ on := 7, ground := Ground.data }], guard := none }) rfl (fun K hK => ?_) AllReadyH.nil)
      refine step_val (.iface 99 (.agg #[])) WX (by rfl) (by (have e0 := TP.c2); go_simp) ?_
      simp only [Act.put, List.setIfInBounds_toArray, List.set_cons_zero, List.set_cons_succ]
      refine hK.out _ _ trivial (fun hH' => ?_)
      clear hK K
      replace hH := hH'
      clear hH' 
      refine wpAnyH_ready (rs := [10]) (by kernel_rfl) (by simp) ?_
      refine (AllReadyH.cons (o := { dst := some 14, op := Op.call { callee := Callee.invoke (Operand.tmp 12) "loop.example/g00053/impl.pack", args := #[Operand.tmp 13], argTypes := #[25] }, type := 28, pos := "l16_texture.go:282", after := #[{ on := 8, ground := Ground.data }, { on := 9, ground := Ground.data }], guard := none }) rfl (fun K hK => ?_) AllReadyH.nil)
      refine step_callC 109 #[.agg #[], .agg #[.int .i64 c.r, .int .i64 c.g, .int .i64 c.b, .int .i64 c.a]] (fun z v w' => BOwn v.heap.size w' z LP ∧ Below v.heap.size v w') (by rfl) (by go_simp) ((HPK.out _).mono fun e w' ⟨u, h1, h2, h3⟩ => ⟨u, h1, h2, h3⟩) ?_
      rintro zc wc ⟨BO, Bc⟩
      replace BW := BW.trans (Bc.mono (Nat.le_of_lt TP.hi))
      replace TP := TP.next Bc
      replace TK := TK.next Bc
      replace YM := YM.next Bc
      clear Bc
      simp only [Act.put, List.setIfInBounds_toArray, List.set_cons_zero, List.set_cons_succ]
      refine hK.out _ _ trivial (fun hH' => ?_)
      clear hK K
      replace hH := hH'
      clear hH' 
      refine wpAnyH_ready (rs := [11]) (by kernel_rfl) (by simp) ?_
      refine (AllReadyH.cons (o := { dst := some 15, op := Op.call { callee := Callee.builtin Builtin.append, args := #[Operand.tmp 8, Operand.tmp 14], argTypes := #[28, 28] }, type := 28, pos := "l16_texture.go:282", after := #[{ on := 4, ground := Ground.data }, { on := 10, ground := Ground.data }, { on := 10, ground := Ground.chain }], guard := none }) rfl (fun K hK => ?_) AllReadyH.nil)
      obtain ⟨g, cap, wa, hra, YN, hga⟩ := run_append_y8 (ty := 28) YM BO (by have := HLP.out; omega) (by have := HLP.out; omega)
      obtain ⟨nl, hnl⟩ : ∃ z, (M ++ LP).length = z := ⟨_, rfl⟩
      rw [hnl] at hra YN
      clear hnl
      refine step_app (.tmp 8) (.tmp 14) 28 _ _ _ wa (by rfl) (by rfl) (by rfl) (by rfl) hra ?_
      have Ba : Below B wc wa := below_grown (Below.refl _ _) YM.2 hga (fun q hq => (YM.lt q hq).1)
      replace TP := TP.low Ba hpb
      replace BW := BW.trans (Ba.mono (by omega))
      clear YM hga hra Ba TK BO
      simp only [Act.put, List.setIfInBounds_toArray, List.set_cons_zero, List.set_cons_succ]
      refine hK.out _ _ trivial (fun hH' => ?_)
      clear hK K
      replace hH := hH'
      clear hH' 
      refine wpAnyH_take (i := 12) (oi := { dst := some 16, op := Op.nilCheck (Operand.tmp 4), type := 0, pos := "l16_texture.go:282", after := #[{ on := 0, ground := Ground.data }, { on := 0, ground := Ground.phase }, { on := 1, ground := Ground.phase }, { on := 2, ground := Ground.phase }, { on := 3, ground := Ground.phase }, { on := 4, ground := Ground.phase }, { on := 5, ground := Ground.phase }, { on := 6, ground := Ground.phase }, { on := 7, ground := Ground.phase }, { on := 8, ground := Ground.phase }, { on := 9, ground := Ground.phase }, { on := 10, ground := Ground.phase }, { on := 11, ground := Ground.phase }], guard := none }) (v := .pointer (some ⟨pb, 0, none⟩)) rfl (by kernel_rfl) (by kernel_rfl) (by kernel_rfl) (fun _ _ _ h => h) (Or.inl ⟨by rfl, fun w0 hSw => by (go_simp)⟩) hH ?_
      simp only [Act.put, List.setIfInBounds_toArray, List.set_cons_zero, List.set_cons_succ]
      refine wpAnyH_take (i := 13) (oi := { dst := some 17, op := Op.fieldAddr 81 (Operand.tmp 16) 3, type := 0, pos := "l16_texture.go:282", after := #[{ on := 12, ground := Ground.data }, { on := 0, ground := Ground.phase }, { on := 1, ground := Ground.phase }, { on := 2, ground := Ground.phase }, { on := 3, ground := Ground.phase }, { on := 4, ground := Ground.phase }, { on := 5, ground := Ground.phase }, { on := 6, ground := Ground.phase }, { on := 7, ground := Ground.phase }, { on := 8, ground := Ground.phase }, { on := 9, ground := Ground.phase }, { on := 10, ground := Ground.phase }, { on := 11, ground := Ground.phase }], guard := none }) (v := .pointer (some ⟨pb, 3, none⟩)) rfl (by kernel_rfl) (by kernel_rfl) (by kernel_rfl) (fun _ _ _ h => h) (Or.inl ⟨by rfl, fun w0 hSw => by (go_simp)⟩) hH ?_
      simp only [Act.put, List.setIfInBounds_toArray, List.set_cons_zero, List.set_cons_succ]
      refine wpAnyH_ready (rs := [14]) (by kernel_rfl) (by simp) ?_
      refine (AllReadyH.cons (o := { dst := none, op := Op.store 28 (Operand.tmp 17) (Operand.tmp 15), type := 0, pos := "l16_texture.go:282", after := #[{ on := 13, ground := Ground.data }, { on := 11, ground := Ground.data }, { on := 11, ground := Ground.chain }, { on := 0, ground := Ground.phase }, { on := 1, ground := Ground.phase }, { on := 2, ground := Ground.phase }, { on := 3, ground := Ground.phase }, { on := 4, ground := Ground.phase }, { on := 5, ground := Ground.phase }, { on := 6, ground := Ground.phase }, { on := 7, ground := Ground.phase }, { on := 8, ground := Ground.phase }, { on := 9, ground := Ground.phase }, { on := 10, ground := Ground.phase }, { on := 11, ground := Ground.phase }], guard := none }) rfl (fun K hK => ?_) AllReadyH.nil)
      refine step_skip (wa.setCell ⟨pb, 3, none⟩ (.slice (some ⟨g, 0, none⟩) nl cap)) (by rfl) (by (have e0 := TP.c3); (have ef := TP.f); go_simp) ?_
      have TS := TP.s3 (.slice (some ⟨g, 0, none⟩) nl cap)
      have OS := (Only.refl pb wa).setCell 3 (.slice (some ⟨g, 0, none⟩) nl cap)
      have YS := YN.grown (only_grown OS) (Or.inr (by have := (YN.lt g rfl).1; simp [Value.ownBlock]; omega))
      have BS := BW.trans (OS.below (Nat.le_refl _) (by have := TP.hi; omega))
      clear TP YN OS BW
      refine hK.out _ _ trivial (fun hH' => ?_)
      clear hK K
      replace hH := hH'
      clear hH' 
      refine wpAnyH_done (by kernel_rfl) ?_ _
      go_wp2
      go_end0
      exact ⟨rfl, _, TS, YS, BS⟩
  · refine step_val (.iface 99 (.agg #[])) WX (by rfl) (by (have e0 := TP.c2); go_simp) ?_
    simp only [Act.put, List.setIfInBounds_toArray, List.set_cons_zero, List.set_cons_succ]
    refine hK.out _ _ trivial (fun hH' => ?_)
    clear hK K
    replace hH := hH'
    clear hH' 
    refine wpAnyH_ready (rs := [4, 9]) (by kernel_rfl) (by simp) ?_
    refine (AllReadyH.cons (o := { dst := some 8, op := Op.load 28 (Operand.tmp 7), type := 28, pos := "l16_texture.go:282", after := #[{ on := 3, ground := Ground.data }], guard := none }) rfl (fun K hK => ?_) (AllReadyH.cons (o := { dst := some 13, op := Op.load 25 (Operand.tmp 3), type := 25, pos := "l16_texture.go:282", after := #[], guard := none }) rfl (fun K hK => ?_) AllReadyH.nil))
    · refine step_val (.slice a M.length cp) WX (by rfl) (by (have e0 := TP.c3); go_simp) ?_
      simp only [Act.put, List.setIfInBounds_toArray, List.set_cons_zero, List.set_cons_succ]
      refine hK.out _ _ trivial (fun hH' => ?_)
      clear hK K
      replace hH := hH'
      clear hH' 
      refine wpAnyH_ready (rs := [9]) (by kernel_rfl) (by simp) ?_
      refine (AllReadyH.cons (o := { dst := some 13, op := Op.load 25 (Operand.tmp 3), type := 25, pos := "l16_texture.go:282", after := #[], guard := none }) rfl (fun K hK => ?_) AllReadyH.nil)
      refine step_val (.agg #[.int .i64 c.r, .int .i64 c.g, .int .i64 c.b, .int .i64 c.a]) WX (by rfl) (by (have e0 := TK.c0); (have e1 := TK.c1); (have e2 := TK.c2); (have e3 := TK.c3); go_simp) ?_
      simp only [Act.put, List.setIfInBounds_toArray, List.set_cons_zero, List.set_cons_succ]
      refine hK.out _ _ trivial (fun hH' => ?_)
      clear hK K
      replace hH := hH'
      clear hH' 
      refine wpAnyH_ready (rs := [10]) (by kernel_rfl) (by simp) ?_
      refine (AllReadyH.cons (o := { dst := some 14, op := Op.call { callee := Callee.invoke (Operand.tmp 12) "loop.example/g00053/impl.pack", args := #[Operand.tmp 13], argTypes := #[25] }, type := 28, pos := "l16_texture.go:282", after := #[{ on := 8, ground := Ground.data }, { on := 9, ground := Ground.data }], guard := none }) rfl (fun K hK => ?_) AllReadyH.nil)
      refine step_callC 109 #[.agg #[], .agg #[.int .i64 c.r, .int .i64 c.g, .int .i64 c.b, .int .i64 c.a]] (fun z v w' => BOwn v.heap.size w' z LP ∧ Below v.heap.size v w') (by rfl) (by go_simp) ((HPK.out _).mono fun e w' ⟨u, h1, h2, h3⟩ => ⟨u, h1, h2, h3⟩) ?_
      rintro zc wc ⟨BO, Bc⟩
      replace BW := BW.trans (Bc.mono (Nat.le_of_lt TP.hi))
      replace TP := TP.next Bc
      replace TK := TK.next Bc
      replace YM := YM.next Bc
      clear Bc
      simp only [Act.put, List.setIfInBounds_toArray, List.set_cons_zero, List.set_cons_succ]
      refine hK.out _ _ trivial (fun hH' => ?_)
      clear hK K
      replace hH := hH'
      clear hH' 
      refine wpAnyH_ready (rs := [11]) (by kernel_rfl) (by simp) ?_
      refine (AllReadyH.cons (o := { dst := some 15, op := Op.call { callee := Callee.builtin Builtin.append, args := #[Operand.tmp 8, Operand.tmp 14], argTypes := #[28, 28] }, type := 28, pos := "l16_texture.go:282", after := #[{ on := 4, ground := Ground.data }, { on := 10, ground := Ground.data }, { on := 10, ground := Ground.chain }], guard := none }) rfl (fun K hK => ?_) AllReadyH.nil)
      obtain ⟨g, cap, wa, hra, YN, hga⟩ := run_append_y8 (ty := 28) YM BO (by have := HLP.out; omega) (by have := HLP.out; omega)
      obtain ⟨nl, hnl⟩ : ∃ z, (M ++ LP).length = z := ⟨_, rfl⟩
      rw [hnl] at hra YN
      clear hnl
      refine step_app (.tmp 8) (.tmp 14) 28 _ _ _ wa (by rfl) (by rfl) (by rfl) (by rfl) hra ?_
      have Ba : Below B wc wa := below_grown (Below.refl _ _) YM.2 hga (fun q hq => (YM.lt q hq).1)
      replace TP := TP.low Ba hpb
      replace BW := BW.trans (Ba.mono (by omega))
      clear YM hga hra Ba TK BO
      simp only [Act.put, List.setIfInBounds_toArray, List.set_cons_zero, List.set_cons_succ]
      refine hK.out _ _ trivial (fun hH' => ?_)
      clear hK K
      replace hH := hH'
      clear hH' 
      refine wpAnyH_take (i := 12) (oi := { dst := some 16, op := Op.nilCheck (Operand.tmp 4), type := 0, pos := "l16_texture.go:282", after := #[{ on := 0, ground := Ground.data }, { on := 0, ground := Ground.phase }, { on := 1, ground := Ground.phase }, { on := 2, ground := Ground.phase }, { on := 3, ground := Ground.phase }, { on := 4, ground := Ground.phase }, { on := 5, ground := Ground.phase }, { on := 6, ground := Ground.phase }, { on := 7, ground := Ground.phase }, { on := 8, ground := Ground.phase }, { on := 9, ground := Ground.phase }, { on := 10, ground := Ground.phase }, { on := 11, ground := Ground.phase }], guard := none }) (v := .pointer (some ⟨pb, 0, none⟩)) rfl (by kernel_rfl) (by kernel_rfl) (by kernel_rfl) (fun _ _ _ h => h) (Or.inl ⟨by rfl, fun w0 hSw => by (go_simp)⟩) hH ?_
      simp only [Act.put, List.setIfInBounds_toArray, List.set_cons_zero, List.set_cons_succ]
      refine wpAnyH_take (i := 13) (oi := { dst := some 17, op := Op.fieldAddr 81 (Operand.tmp 16) 3, type := 0, pos := "l16_texture.go:282", after := #[{ on := 12, ground := Ground.data }, { on := 0, ground := Ground.phase }, { on := 1, ground := Ground.phase }, { on := 2, ground := Ground.phase }, { on := 3, ground := Ground.phase }, { on := 4, ground := Ground.phase }, { on := 5, ground := Ground.phase }, { on := 6, ground := Ground.phase }, { on := 7, ground := Ground.phase }, { on := 8, ground := Ground.phase }, { on := 9, ground := Ground.phase }, { on := 10, ground := Ground.phase }, { on := 11, ground := Ground.phase }], guard := none }) (v := .pointer (some ⟨pb, 3, none⟩)) rfl (by kernel_rfl) (by kernel_rfl) (by kernel_rfl) (fun _ _ _ h => h) (Or.inl ⟨by rfl, fun w0 hSw => by (go_simp)⟩) hH ?_
      simp only [Act.put, List.setIfInBounds_toArray, List.set_cons_zero, List.set_cons_succ]
      refine wpAnyH_ready (rs := [14]) (by kernel_rfl) (by simp) ?_
      refine (AllReadyH.cons (o := { dst := none, op := Op.store 28 (Operand.tmp 17) (Operand.tmp 15), type := 0, pos := "l16_texture.go:282", after := #[{ on := 13, ground := Ground.data }, { on := 11, ground := Ground.data }, { on := 11, ground := Ground.chain }, { on := 0, ground := Ground.phase }, { on := 1, ground := Ground.phase }, { on := 2, ground := Ground.phase }, { on := 3, ground := Ground.phase }, { on := 4, ground := Ground.phase }, { on := 5, ground := Ground.phase }, { on := 6, ground := Ground.phase }, { on := 7, ground := Ground.phase }, { on := 8, ground := Ground.phase }, { on := 9, ground := Ground.phase }, { on := 10, ground := Ground.phase }, { on := 11, ground := Ground.phase }], guard := none }) rfl (fun K hK => ?_) AllReadyH.nil)
      refine step_skip (wa.setCell ⟨pb, 3, none⟩ (.slice (some ⟨g, 0, none⟩) nl cap)) (by rfl) (by (have e0 := TP.c3); (have ef := TP.f); go_simp) ?_
      have TS := TP.s3 (.slice (some ⟨g, 0, none⟩) nl cap)
      have OS := (Only.refl pb wa).setCell 3 (.slice (some ⟨g, 0, none⟩) nl cap)
      have YS := YN.grown (only_grown OS) (Or.inr (by have := (YN.lt g rfl).1; simp [Value.ownBlock]; omega))
      have BS := BW.trans (OS.below (Nat.le_refl _) (by have := TP.hi; omega))
      clear TP YN OS BW
      refine hK.out _ _ trivial (fun hH' => ?_)
      clear hK K
      replace hH := hH'
      clear hH' 
      refine wpAnyH_done (by kernel_rfl) ?_ _
      go_wp2
      go_end0
      exact ⟨rfl, _, TS, YS, BS⟩
    · refine step_val (.agg #[.int .i64 c.r, .int .i64 c.g, .int .i64 c.b, .int .i64 c.a]) WX (by rfl) (by (have e0 := TK.c0); (have e1 := TK.c1); (have e2 := TK.c2); (have e3 := TK.c3); go_simp) ?_
      simp only [Act.put, List.setIfInBounds_toArray, List.set_cons_zero, List.set_cons_succ]
      refine hK.out _ _ trivial (fun hH' => ?_)
      clear hK K
      replace hH := hH'
      clear hH' 
      refine wpAnyH_ready (rs := [4, 10]) (by kernel_rfl) (by simp) ?_
      refine (AllReadyH.cons (o := { dst := some 8, op := Op.load 28 (Operand.tmp 7), type := 28, pos := "l16_texture.go:282", after := #[{ on := 3, ground := Ground.data }], guard := none }) rfl (fun K hK => ?_) (AllReadyH.cons (o := { dst := some 14, op := Op.call { callee := Callee.invoke (Operand.tmp 12) "loop.example/g00053/impl.pack", args := #[Operand.tmp 13], argTypes := #[25] }, type := 28, pos := "l16_texture.go:282", after := #[{ on := 8, ground := Ground.data }, { on := 9, ground := Ground.data }], guard := none }) rfl (fun K hK => ?_) AllReadyH.nil))
      · refine step_val (.slice a M.length cp) WX (by rfl) (by (have e0 := TP.c3); go_simp) ?_
        simp only [Act.put, List.setIfInBounds_toArray, List.set_cons_zero, List.set_cons_succ]
        refine hK.out _ _ trivial (fun hH' => ?_)
        clear hK K
        replace hH := hH'
        clear hH' 
        refine wpAnyH_ready (rs := [10]) (by kernel_rfl) (by simp) ?_
        refine (AllReadyH.cons (o := { dst := some 14, op := Op.call { callee := Callee.invoke (Operand.tmp 12) "loop.example/g00053/impl.pack", args := #[Operand.tmp 13], argTypes := #[25] }, type := 28, pos := "l16_texture.go:282", after := #[{ on := 8, ground := Ground.data }, { on := 9, ground := Ground.data }], guard := none }) rfl (fun K hK => ?_) AllReadyH.nil)
        refine step_callC 109 #[.agg #[], .agg #[.int .i64 c.r, .int .i64 c.g, .int .i64 c.b, .int .i64 c.a]] (fun z v w' => BOwn v.heap.size w' z LP ∧ Below v.heap.size v w') (by rfl) (by go_simp) ((HPK.out _).mono fun e w' ⟨u, h1, h2, h3⟩ => ⟨u, h1, h2, h3⟩) ?_
        rintro zc wc ⟨BO, Bc⟩
        replace BW := BW.trans (Bc.mono (Nat.le_of_lt TP.hi))
        replace TP := TP.next Bc
        replace TK := TK.next Bc
        replace YM := YM.next Bc
        clear Bc
        simp only [Act.put, List.setIfInBounds_toArray, List.set_cons_zero, List.set_cons_succ]
        refine hK.out _ _ trivial (fun hH' => ?_)
        clear hK K
        replace hH := hH'
        clear hH' 
        refine wpAnyH_ready (rs := [11]) (by kernel_rfl) (by simp) ?_
        refine (AllReadyH.cons (o := { dst := some 15, op := Op.call { callee := Callee.builtin Builtin.append, args := #[Operand.tmp 8, Operand.tmp 14], argTypes := #[28, 28] }, type := 28, pos := "l16_texture.go:282", after := #[{ on := 4, ground := Ground.data }, { on := 10, ground := Ground.data }, { on := 10, ground := Ground.chain }], guard := none }) rfl (fun K hK => ?_) AllReadyH.nil)
        obtain ⟨g, cap, wa, hra, YN, hga⟩ := run_append_y8 (ty := 28) YM BO (by have := HLP.out; omega) (by have := HLP.out; omega)
        obtain ⟨nl, hnl⟩ : ∃ z, (M ++ LP).length = z := ⟨_, rfl⟩
        rw [hnl] at hra YN
        clear hnl
        refine step_app (.tmp 8) (.tmp 14) 28 _ _ _ wa (by rfl) (by rfl) (by rfl) (by rfl) hra ?_
        have Ba : Below B wc wa := below_grown (Below.refl _ _) YM.2 hga (fun q hq => (YM.lt q hq).1)
        replace TP := TP.low Ba hpb
        replace BW := BW.trans (Ba.mono (by omega))
        clear YM hga hra Ba TK BO
        simp only [Act.put, List.setIfInBounds_toArray, List.set_cons_zero, List.set_cons_succ]
        refine hK.out _ _ trivial (fun hH' => ?_)
        clear hK K
        replace hH := hH'
        clear hH' 
        refine wpAnyH_take (i := 12) (oi := { dst := some 16, op := Op.nilCheck (Operand.tmp 4), type := 0, pos := "l16_texture.go:282", after := #[{ on := 0, ground := Ground.data }, { on := 0, ground := Ground.phase }, { on := 1, ground := Ground.phase }, { on := 2, ground := Ground.phase }, { on := 3, ground := Ground.phase }, { on := 4, ground := Ground.phase }, { on := 5, ground := Ground.phase }, { on := 6, ground := Ground.phase }, { on := 7, ground := Ground.phase }, { on := 8, ground := Ground.phase }, { on := 9, ground := Ground.phase }, { on := 10, ground := Ground.phase }, { on := 11, ground := Ground.phase }], guard := none }) (v := .pointer (some ⟨pb, 0, none⟩)) rfl (by kernel_rfl) (by kernel_rfl) (by kernel_rfl) (fun _ _ _ h => h) (Or.inl ⟨by rfl, fun w0 hSw => by (go_simp)⟩) hH ?_
        simp only [Act.put, List.setIfInBounds_toArray, List.set_cons_zero, List.set_cons_succ]
        refine wpAnyH_take (i := 13) (oi := { dst := some 17, op := Op.fieldAddr 81 (Operand.tmp 16) 3, type := 0, pos := "l16_texture.go:282", after := #[{ on := 12, ground := Ground.data }, { on := 0, ground := Ground.phase }, { on := 1, ground := Ground.phase }, { on := 2, ground := Ground.phase }, { on := 3, ground := Ground.phase }, { on := 4, ground := Ground.phase }, { on := 5, ground := Ground.phase }, { on := 6, ground := Ground.phase }, { on := 7, ground := Ground.phase }, { on := 8, ground := Ground.phase }, { on := 9, ground := Ground.phase }, { on := 10, ground := Ground.phase }, { on := 11, ground := Ground.phase }], guard := none }) (v := .pointer (some ⟨pb, 3, none⟩)) rfl (by kernel_rfl) (by kernel_rfl) (by kernel_rfl) (fun _ _ _ h => h) (Or.inl ⟨by rfl, fun w0 hSw => by (go_simp)⟩) hH ?_
        simp only [Act.put, List.setIfInBounds_toArray, List.set_cons_zero, List.set_cons_succ]
        refine wpAnyH_ready (rs := [14]) (by kernel_rfl) (by simp) ?_
        refine (AllReadyH.cons (o := { dst := none, op := Op.store 28 (Operand.tmp 17) (Operand.tmp 15), type := 0, pos := "l16_texture.go:282", after := #[{ on := 13, ground := Ground.data }, { on := 11, ground := Ground.data }, { on := 11, ground := Ground.chain }, { on := 0, ground := Ground.phase }, { on := 1, ground := Ground.phase }, { on := 2, ground := Ground.phase }, { on := 3, ground := Ground.phase }, { on := 4, ground := Ground.phase }, { on := 5, ground := Ground.phase }, { on := 6, ground := Ground.phase }, { on := 7, ground := Ground.phase }, { on := 8, ground := Ground.phase }, { on := 9, ground := Ground.phase }, { on := 10, ground := Ground.phase }, { on := 11, ground := Ground.phase }], guard := none }) rfl (fun K hK => ?_) AllReadyH.nil)
        refine step_skip (wa.setCell ⟨pb, 3, none⟩ (.slice (some ⟨g, 0, none⟩) nl cap)) (by rfl) (by (have e0 := TP.c3); (have ef := TP.f); go_simp) ?_
        have TS := TP.s3 (.slice (some ⟨g, 0, none⟩) nl cap)
        have OS := (Only.refl pb wa).setCell 3 (.slice (some ⟨g, 0, none⟩) nl cap)
        have YS := YN.grown (only_grown OS) (Or.inr (by have := (YN.lt g rfl).1; simp [Value.ownBlock]; omega))
        have BS := BW.trans (OS.below (Nat.le_refl _) (by have := TP.hi; omega))
        clear TP YN OS BW
        refine hK.out _ _ trivial (fun hH' => ?_)
        clear hK K
        replace hH := hH'
        clear hH' 
        refine wpAnyH_done (by kernel_rfl) ?_ _
        go_wp2
        go_end0
        exact ⟨rfl, _, TS, YS, BS⟩
      · refine step_callC 109 #[.agg #[], .agg #[.int .i64 c.r, .int .i64 c.g, .int .i64 c.b, .int .i64 c.a]] (fun z v w' => BOwn v.heap.size w' z LP ∧ Below v.heap.size v w') (by rfl) (by go_simp) ((HPK.out _).mono fun e w' ⟨u, h1, h2, h3⟩ => ⟨u, h1, h2, h3⟩) ?_
        rintro zc wc ⟨BO, Bc⟩
        replace BW := BW.trans (Bc.mono (Nat.le_of_lt TP.hi))
        replace TP := TP.next Bc
        replace TK := TK.next Bc
        replace YM := YM.next Bc
        clear Bc
        simp only [Act.put, List.setIfInBounds_toArray, List.set_cons_zero, List.set_cons_succ]
        refine hK.out _ _ trivial (fun hH' => ?_)
        clear hK K
        replace hH := hH'
        clear hH' 
        refine wpAnyH_ready (rs := [4]) (by kernel_rfl) (by simp) ?_
        refine (AllReadyH.cons (o := { dst := some 8, op := Op.load 28 (Operand.tmp 7), type := 28, pos := "l16_texture.go:282", after := #[{ on := 3, ground := Ground.data }], guard := none }) rfl (fun K hK => ?_) AllReadyH.nil)
        refine step_val (.slice a M.length cp) wc (by rfl) (by (have e0 := TP.c3); go_simp) ?_
        simp only [Act.put, List.setIfInBounds_toArray, List.set_cons_zero, List.set_cons_succ]
        refine hK.out _ _ trivial (fun hH' => ?_)
        clear hK K
        replace hH := hH'
        clear hH' 
        refine wpAnyH_ready (rs := [11]) (by kernel_rfl) (by simp) ?_
        refine (AllReadyH.cons (o := { dst := some 15, op := Op.call { callee := Callee.builtin Builtin.append, args := #[Operand.tmp 8, Operand.tmp 14], argTypes := #[28, 28] }, type := 28, pos := "l16_texture.go:282", after := #[{ on := 4, ground := Ground.data }, { on := 10, ground := Ground.data }, { on := 10, ground := Ground.chain }], guard := none }) rfl (fun K hK => ?_) AllReadyH.nil)
        obtain ⟨g, cap, wa, hra, YN, hga⟩ := run_append_y8 (ty := 28) YM BO (by have := HLP.out; omega) (by have := HLP.out; omega)
        obtain ⟨nl, hnl⟩ : ∃ z, (M ++ LP).length = z := ⟨_, rfl⟩
        rw [hnl] at hra YN
        clear hnl
        refine step_app (.tmp 8) (.tmp 14) 28 _ _ _ wa (by rfl) (by rfl) (by rfl) (by rfl) hra ?_
        have Ba : Below B wc wa := below_grown (Below.refl _ _) YM.2 hga (fun q hq => (YM.lt q hq).1)
        replace TP := TP.low Ba hpb
        replace BW := BW.trans (Ba.mono (by omega))
        clear YM hga hra Ba TK BO
        simp only [Act.put, List.setIfInBounds_toArray, List.set_cons_zero, List.set_cons_succ]
        refine hK.out _ _ trivial (fun hH' => ?_)
        clear hK K
        replace hH := hH'
        clear hH' 
        refine wpAnyH_take (i := 12) (oi := { dst := some 16, op := Op.nilCheck (Operand.tmp 4), type := 0, pos := "l16_texture.go:282", after := #[{ on := 0, ground := Ground.data }, { on := 0, ground := Ground.phase }, { on := 1, ground := Ground.phase }, { on := 2, ground := Ground.phase }, { on := 3, ground := Ground.phase }, { on := 4, ground := Ground.phase }, { on := 5, ground := Ground.phase }, { on := 6, ground := Ground.phase }, { on := 7, ground := Ground.phase }, { on := 8, ground := Ground.phase }, { on := 9, ground := Ground.phase }, { on := 10, ground := Ground.phase }, { on := 11, ground := Ground.phase }], guard := none }) (v := .pointer (some ⟨pb, 0, none⟩)) rfl (by kernel_rfl) (by kernel_rfl) (by kernel_rfl) (fun _ _ _ h => h) (Or.inl ⟨by rfl, fun w0 hSw => by (go_simp)⟩) hH ?_
        simp only [Act.put, List.setIfInBounds_toArray, List.set_cons_zero, List.set_cons_succ]
        refine wpAnyH_take (i := 13) (oi := { dst := some 17, op := Op.fieldAddr 81 (Operand.tmp 16) 3, type := 0, pos := "l16_texture.go:282", after := #[{ on := 12, ground := Ground.data }, { on := 0, ground := Ground.phase }, { on := 1, ground := Ground.phase }, { on := 2, ground := Ground.phase }, { on := 3, ground := Ground.phase }, { on := 4, ground := Ground.phase }, { on := 5, ground := Ground.phase }, { on := 6, ground := Ground.phase }, { on := 7, ground := Ground.phase }, { on := 8, ground := Ground.phase }, { on := 9, ground := Ground.phase }, { on := 10, ground := Ground.phase }, { on := 11, ground := Ground.phase }], guard := none }) (v := .pointer (some ⟨pb, 3, none⟩)) rfl (by kernel_rfl) (by kernel_rfl) (by kernel_rfl) (fun _ _ _ h => h) (Or.inl ⟨by rfl, fun w0 hSw => by (go_simp)⟩) hH ?_
        simp only [Act.put, List.setIfInBounds_toArray, List.set_cons_zero, List.set_cons_succ]
        refine wpAnyH_ready (rs := [14]) (by kernel_rfl) (by simp) ?_
        refine (AllReadyH.cons (o := { dst := none, op := Op.store 28 (Operand.tmp 17) (Operand.tmp 15), type := 0, pos := "l16_texture.go:282", after := #[{ on := 13, ground := Ground.data }, { on := 11, ground := Ground.data }, { on := 11, ground := Ground.chain }, { on := 0, ground := Ground.phase }, { on := 1, ground := Ground.phase }, { on := 2, ground := Ground.phase }, { on := 3, ground := Ground.phase }, { on := 4, ground := Ground.phase }, { on := 5, ground := Ground.phase }, { on := 6, ground := Ground.phase }, { on := 7, ground := Ground.phase }, { on := 8, ground := Ground.phase }, { on := 9, ground := Ground.phase }, { on := 10, ground := Ground.phase }, { on := 11, ground := Ground.phase }], guard := none }) rfl (fun K hK => ?_) AllReadyH.nil)
        refine step_skip (wa.setCell ⟨pb, 3, none⟩ (.slice (some ⟨g, 0, none⟩) nl cap)) (by rfl) (by (have e0 := TP.c3); (have ef := TP.f); go_simp) ?_
        have TS := TP.s3 (.slice (some ⟨g, 0, none⟩) nl cap)
        have OS := (Only.refl pb wa).setCell 3 (.slice (some ⟨g, 0, none⟩) nl cap)
        have YS := YN.grown (only_grown OS) (Or.inr (by have := (YN.lt g rfl).1; simp [Value.ownBlock]; omega))
        have BS := BW.trans (OS.below (Nat.le_refl _) (by have := TP.hi; omega))
        clear TP YN OS BW
        refine hK.out _ _ trivial (fun hH' => ?_)
        clear hK K
        replace hH := hH'
        clear hH' 
        refine wpAnyH_done (by kernel_rfl) ?_ _
        go_wp2
        go_end0
        exact ⟨rfl, _, TS, YS, BS⟩
  · refine step_val (.agg #[.int .i64 c.r, .int .i64 c.g, .int .i64 c.b, .int .i64 c.a]) WX (by rfl) (by (have e0 := TK.c0); (have e1 := TK.c1); (have e2 := TK.c2); (have e3 := TK.c3); go_simp) ?_
    simp only [Act.put, List.setIfInBounds_toArray, List.set_cons_zero, List.set_cons_succ]
    refine hK.out _ _ trivial (fun hH' => ?_)
    clear hK K
    replace hH := hH'
    clear hH' 
    refine wpAnyH_ready (rs := [4, 8]) (by kernel_rfl) (by simp) ?_
    refine (AllReadyH.cons (o := { dst := some 8, op := Op.load 28 (Operand.tmp 7), type := 28, pos := "l16_texture.go:282", after := #[{ on := 3, ground := Ground.data }], guard := none }) rfl (fun K hK => ?_) (AllReadyH.cons (o := { dst := some 12, op := Op.load 62 (Operand.tmp 11), type := 62, pos := "l16_texture.go:282", after := #[{ on := 7, ground := Ground.data }], guard := none }) rfl (fun K hK => ?_) AllReadyH.nil))
    · refine step_val (.slice a M.length cp) WX (by rfl) (by (have e0 := TP.c3); go_simp) ?_
      simp only [Act.put, List.setIfInBounds_toArray, List.set_cons_zero, List.set_cons_succ]
      refine hK.out _ _ trivial (fun hH' => ?_)
      clear hK K
      replace hH := hH'
      clear hH' 
      refine wpAnyH_ready (rs := [8]) (by kernel_rfl) (by simp) ?_
      refine (AllReadyH.cons (o := { dst := some 12, op := Op.load 62 (Operand.tmp 11), type := 62, pos := "l16_texture.go:282", after := #[{ on := 7, ground := Ground.data }], guard := none }) rfl (fun K hK => ?_) AllReadyH.nil)
      refine step_val (.iface 99 (.agg #[])) WX (by rfl) (by (have e0 := TP.c2); go_simp) ?_
      simp only [Act.put, List.setIfInBounds_toArray, List.set_cons_zero, List.set_cons_succ]
      refine hK.out _ _ trivial (fun hH' => ?_)
      clear hK K
      replace hH := hH'
      clear hH' 
      refine wpAnyH_ready (rs := [10]) (by kernel_rfl) (by simp) ?_
      refine (AllReadyH.cons (o := { dst := some 14, op := Op.call { callee := Callee.invoke (Operand.tmp 12) "loop.example/g00053/impl.pack", args := #[Operand.tmp 13], argTypes := #[25] }, type := 28, pos := "l16_texture.go:282", after := #[{ on := 8, ground := Ground.data }, { on := 9, ground := Ground.data }], guard := none }) rfl (fun K hK => ?_) AllReadyH.nil)
      refine step_callC 109 #[.agg #[], .agg #[.int .i64 c.r, .int .i64 c.g, .int .i64 c.b, .int .i64 c.a]] (fun z v w' => BOwn v.heap.size w' z LP ∧ Below v.heap.size v w') (by rfl) (by go_simp) ((HPK.out _).mono fun e w' ⟨u, h1, h2, h3⟩ => ⟨u, h1, h2, h3⟩) ?_
      rintro zc wc ⟨BO, Bc⟩
      replace BW := BW.trans (Bc.mono (Nat.le_of_lt TP.hi))
      replace TP := TP.next Bc
      replace TK := TK.next Bc
      replace YM := YM.next Bc
      clear Bc
      simp only [Act.put, List.setIfInBounds_toArray, List.set_cons_zero, List.set_cons_succ]
      refine hK.out _ _ trivial (fun hH' => ?_)
      clear hK K
      replace hH := hH'
      clear hH' 
      refine wpAnyH_ready (rs := [11]) (by kernel_rfl) (by simp) ?_
      refine (AllReadyH.cons (o := { dst := some 15, op := Op.call { callee := Callee.builtin Builtin.append, args := #[Operand.tmp 8, Operand.tmp 14], argTypes := #[28, 28] }, type := 28, pos := "l16_texture.go:282", after := #[{ on := 4, ground := Ground.data }, { on := 10, ground := Ground.data }, { on := 10, ground := Ground.chain }], guard := none }) rfl (fun K hK => ?_) AllReadyH.nil)
      obtain ⟨g, cap, wa, hra, YN, hga⟩ := run_append_y8 (ty := 28) YM BO (by have := HLP.out; omega) (by have := HLP.out; omega)
      obtain ⟨nl, hnl⟩ : ∃ z, (M ++ LP).length = z := ⟨_, rfl⟩
      rw [hnl] at hra YN
      clear hnl
      refine step_app (.tmp 8) (.tmp 14) 28 _ _ _ wa (by rfl) (by rfl) (by rfl) (by rfl) hra ?_
      have Ba : Below B wc wa := below_grown (Below.refl _ _) YM.2 hga (fun q hq => (YM.lt q hq).1)
      replace TP := TP.low Ba hpb
      replace BW := BW.trans (Ba.mono (by omega))
      clear YM hga hra Ba TK BO
      simp only [Act.put, List.setIfInBounds_toArray, List.set_cons_zero, List.set_cons_succ]
      refine hK.out _ _ trivial (fun hH' => ?_)
      clear hK K
      replace hH := hH'
      clear hH' 
      refine wpAnyH_take (i := 12) (oi := { dst := some 16, op := Op.nilCheck (Operand.tmp 4), type := 0, pos := "l16_texture.go:282", after := #[{ on := 0, ground := Ground.data }, { on := 0, ground := Ground.phase }, { on := 1, ground := Ground.phase }, { on := 2, ground := Ground.phase }, { on := 3, ground := Ground.phase }, { on := 4, ground := Ground.phase }, { on := 5, ground := Ground.phase }, { on := 6, ground := Ground.phase }, { on := 7, ground := Ground.phase }, { on := 8, ground := Ground.phase }, { on := 9, ground := Ground.phase }, { on := 10, ground := Ground.phase }, { on := 11, ground := Ground.phase }], guard := none }) (v := .pointer (some ⟨pb, 0, none⟩)) rfl (by kernel_rfl) (by kernel_rfl) (by kernel_rfl) (fun _ _ _ h => h) (Or.inl ⟨by rfl, fun w0 hSw => by (go_simp)⟩) hH ?_
      simp only [Act.put, List.setIfInBounds_toArray, List.set_cons_zero, List.set_cons_succ]
      refine wpAnyH_take (i := 13) (oi := { dst := some 17, op := Op.fieldAddr 81 (Operand.tmp 16) 3, type := 0, pos := "l16_texture.go:282", after := #[{ on := 12, ground := Ground.data }, { on := 0, ground := Ground.phase }, { on := 1, ground := Ground.phase }, { on := 2, ground := Ground.phase }, { on := 3, ground := Ground.phase }, { on := 4, ground := Ground.phase }, { on := 5, ground := Ground.phase }, { on := 6, ground := Ground.phase }, { on := 7, ground := Ground.phase }, { on := 8, ground := Ground.phase }, { on := 9, ground := Ground.phase }, { on := 10, ground := Ground.phase }, { on := 11, ground := Ground.phase }], guard := none }) (v := .pointer (some ⟨pb, 3, none⟩)) rfl (by kernel_rfl) (by kernel_rfl) (by kernel_rfl) (fun _ _ _ h => h) (Or.inl ⟨by rfl, fun w0 hSw => by (go_simp)⟩) hH ?_
      simp only [Act.put, List.setIfInBounds_toArray, List.set_cons_zero, List.set_cons_succ]
      refine wpAnyH_ready (rs := [14]) (by kernel_rfl) (by simp) ?_
      refine (AllReadyH.cons (o := { dst := none, op := Op.store 28 (Operand.tmp 17) (Operand.tmp 15), type := 0, pos := "l16_texture.go:282", after := #[{ on := 13, ground := Ground.data }, { on := 11, ground := Ground.data }, { on := 11, ground := Ground.chain }, { on := 0, ground := Ground.phase }, { on := 1, ground := Ground.phase }, { on := 2, ground := Ground.phase }, { on := 3, ground := Ground.phase }, { on := 4, ground := Ground.phase }, { on := 5, ground := Ground.phase }, { on := 6, ground := Ground.phase }, { on := 7, ground := Ground.phase }, { on := 8, ground := Ground.phase }, { on := 9, ground := Ground.phase }, { on := 10, ground := Ground.phase }, { on := 11, ground := Ground.phase }], guard := none }) rfl (fun K hK => ?_) AllReadyH.nil)
      refine step_skip (wa.setCell ⟨pb, 3, none⟩ (.slice (some ⟨g, 0, none⟩) nl cap)) (by rfl) (by (have e0 := TP.c3); (have ef := TP.f); go_simp) ?_
      have TS := TP.s3 (.slice (some ⟨g, 0, none⟩) nl cap)
      have OS := (Only.refl pb wa).setCell 3 (.slice (some ⟨g, 0, none⟩) nl cap)
      have YS := YN.grown (only_grown OS) (Or.inr (by have := (YN.lt g rfl).1; simp [Value.ownBlock]; omega))
      have BS := BW.trans (OS.below (Nat.le_refl _) (by have := TP.hi; omega))
      clear TP YN OS BW
      refine hK.out _ _ trivial (fun hH' => ?_)
      clear hK K
      replace hH := hH'
      clear hH' 
      refine wpAnyH_done (by kernel_rfl) ?_ _
      go_wp2
      go_end0
      exact ⟨rfl, _, TS, YS, BS⟩
    · refine step_val (.iface 99 (.agg #[])) WX (by rfl) (by (have e0 := TP.c2); go_simp) ?_
      simp only [Act.put, List.setIfInBounds_toArray, List.set_cons_zero, List.set_cons_succ]
      refine hK.out _ _ trivial (fun hH' => ?_)
      clear hK K
      replace hH := hH'
      clear hH' 
      refine wpAnyH_ready (rs := [4, 10]) (by kernel_rfl) (by simp) ?_
      refine (AllReadyH.cons (o := { dst := some 8, op := Op.load 28 (Operand.tmp 7), type := 28, pos := "l16_texture.go:282", after := #[{ on := 3, ground := Ground.data }], guard := none }) rfl (fun K hK => ?_) (AllReadyH.cons (o := { dst := some 14, op := Op.call { callee := Callee.invoke (Operand.tmp 12) "loop.example/g00053/impl.pack", args := #[Operand.tmp 13], argTypes := #[25] }, type := 28, pos := "l16_texture.go:282", after := #[{ on := 8, ground := Ground.data }, { on := 9, ground := Ground.data }], guard := none }) rfl (fun K hK => ?_) AllReadyH.nil))
      · refine step_val (.slice a M.length cp) WX (by rfl) (by (have e0 := TP.c3); go_simp) ?_
        simp only [Act.put, List.setIfInBounds_toArray, List.set_cons_zero, List.set_cons_succ]
        refine hK.out _ _ trivial (fun hH' => ?_)
        clear hK K
        replace hH := hH'
        clear hH' 
        refine wpAnyH_ready (rs := [10]) (by kernel_rfl) (by simp) ?_
        refine (AllReadyH.cons (o := { dst := some 14, op := Op.call { callee := Callee.invoke (Operand.tmp 12) "loop.example/g00053/impl.pack", args := #[Operand.tmp 13], argTypes := #[25] }, type := 28, pos := "l16_texture.go:282", after := #[{ on := 8, ground := Ground.data }, { on := 9, ground := Ground.data }], guard := none }) rfl (fun K hK => ?_) AllReadyH.nil)
        refine step_callC 109 #[.agg #[], .agg #[.int .i64 c.r, .int .i64 c.g, .int .i64 c.b, .int .i64 c.a]] (fun z v w' => BOwn v.heap.size w' z LP ∧ Below v.heap.size v w') (by rfl) (by go_simp) ((HPK.out _).mono fun e w' ⟨u, h1, h2, h3⟩ => ⟨u, h1, h2, h3⟩) ?_
        rintro zc wc ⟨BO, Bc⟩
        replace BW := BW.trans (Bc.mono (Nat.le_of_lt TP.hi))
        replace TP := TP.next Bc
        replace TK := TK.next Bc
        replace YM := YM.next Bc
        clear Bc
        simp only [Act.put, List.setIfInBounds_toArray, List.set_cons_zero, List.set_cons_succ]
        refine hK.out _ _ trivial (fun hH' => ?_)
        clear hK K
        replace hH := hH'
        clear hH' 
        refine wpAnyH_ready (rs := [11]) (by kernel_rfl) (by simp) ?_
        refine (AllReadyH.cons (o := { dst := some 15, op := Op.call { callee := Callee.builtin Builtin.append, args := #[Operand.tmp 8, Operand.tmp 14], argTypes := #[28, 28] }, type := 28, pos := "l16_texture.go:282", after := #[{ on := 4, ground := Ground.data }, { on := 10, ground := Ground.data }, { on := 10, ground := Ground.chain }], guard := none }) rfl (fun K hK => ?_) AllReadyH.nil)
        obtain ⟨g, cap, wa, hra, YN, hga⟩ := run_append_y8 (ty := 28) YM BO (by have := HLP.out; omega) (by have := HLP.out; omega)
        obtain ⟨nl, hnl⟩ : ∃ z, (M ++ LP).length = z := ⟨_, rfl⟩
        rw [hnl] at hra YN
        clear hnl
        refine step_app (.tmp 8) (.tmp 14) 28 _ _ _ wa (by rfl) (by rfl) (by rfl) (by rfl) hra ?_
        have Ba : Below B wc wa := below_grown (Below.refl _ _) YM.2 hga (fun q hq => (YM.lt q hq).1)
        replace TP := TP.low Ba hpb
        replace BW := BW.trans (Ba.mono (by omega))
        clear YM hga hra Ba TK BO
        simp only [Act.put, List.setIfInBounds_toArray, List.set_cons_zero, List.set_cons_succ]
        refine hK.out _ _ trivial (fun hH' => ?_)
        clear hK K
        replace hH := hH'
        clear hH' 
        refine wpAnyH_take (i := 12) (oi := { dst := some 16, op := Op.nilCheck (Operand.tmp 4), type := 0, pos := "l16_texture.go:282", after := #[{ on := 0, ground := Ground.data }, { on := 0, ground := Ground.phase }, { on := 1, ground := Ground.phase }, { on := 2, ground := Ground.phase }, { on := 3, ground := Ground.phase }, { on := 4, ground := Ground.phase }, { on := 5, ground := Ground.phase }, { on := 6, ground := Ground.phase }, { on := 7, ground := Ground.phase }, { on := 8, ground := Ground.phase }, { on := 9, ground := Ground.phase }, { on := 10, ground := Ground.phase }, { on := 11, ground := Ground.phase }], guard := none }) (v := .pointer (some ⟨pb, 0, none⟩)) rfl (by kernel_rfl) (by kernel_rfl) (by kernel_rfl) (fun _ _ _ h => h) (Or.inl ⟨by rfl, fun w0 hSw => by (go_simp)⟩) hH ?_
        simp only [Act.put, List.setIfInBounds_toArray, List.set_cons_zero, List.set_cons_succ]
        refine wpAnyH_take (i := 13) (oi := { dst := some 17, op := Op.fieldAddr 81 (Operand.tmp 16) 3, type := 0, pos := "l16_texture.go:282", after := #[{ on := 12, ground := Ground.data }, { on := 0, ground := Ground.phase }, { on := 1, ground := Ground.phase }, { on := 2, ground := Ground.phase }, { on := 3, ground := Ground.phase }, { on := 4, ground := Ground.phase }, { on := 5, ground := Ground.phase }, { on := 6, ground := Ground.phase }, { on := 7, ground := Ground.phase }, { on := 8, ground := Ground.phase }, { on := 9, ground := Ground.phase }, { on := 10, ground := Ground.phase }, { on := 11, ground := Ground.phase }], guard := none }) (v := .pointer (some ⟨pb, 3, none⟩)) rfl (by kernel_rfl) (by kernel_rfl) (by kernel_rfl) (fun _ _ _ h => h) (Or.inl ⟨by rfl, fun w0 hSw => by (go_simp)⟩) hH ?_
        simp only [Act.put, List.setIfInBounds_toArray, List.set_cons_zero, List.set_cons_succ]
        refine wpAnyH_ready (rs := [14]) (by kernel_rfl) (by simp) ?_
        refine (AllReadyH.cons (o := { dst := none, op := Op.store 28 (Operand.tmp 17) (Operand.tmp 15), type := 0, pos := "l16_texture.go:282", after := #[{ on := 13, ground := Ground.data }, { on := 11, ground := Ground.data }, { on := 11, ground := Ground.chain }, { on := 0, ground := Ground.phase }, { on := 1, ground := Ground.phase }, { on := 2, ground := Ground.phase }, { on := 3, ground := Ground.phase }, { on := 4, ground := Ground.phase }, { on := 5, ground := Ground.phase }, { on := 6, ground := Ground.phase }, { on := 7, ground := Ground.phase }, { on := 8, ground := Ground.phase }, { on := 9, ground := Ground.phase }, { on := 10, ground := Ground.phase }, { on := 11, ground := Ground.phase }], guard := none }) rfl (fun K hK => ?_) AllReadyH.nil)
        refine step_skip (wa.setCell ⟨pb, 3, none⟩ (.slice (some ⟨g, 0, none⟩) nl cap)) (by rfl) (by (have e0 := TP.c3); (have ef := TP.f); go_simp) ?_
        have TS := TP.s3 (.slice (some ⟨g, 0, none⟩) nl cap)
        have OS := (Only.refl pb wa).setCell 3 (.slice (some ⟨g, 0, none⟩) nl cap)
        have YS := YN.grown (only_grown OS) (Or.inr (by have := (YN.lt g rfl).1; simp [Value.ownBlock]; omega))
        have BS := BW.trans (OS.below (Nat.le_refl _) (by have := TP.hi; omega))
        clear TP YN OS BW
        refine hK.out _ _ trivial (fun hH' => ?_)
        clear hK K
        replace hH := hH'
        clear hH' 
        refine wpAnyH_done (by kernel_rfl) ?_ _
        go_wp2
        go_end0
        exact ⟨rfl, _, TS, YS, BS⟩
      · refine step_callC 109 #[.agg #[], .agg #[.int .i64 c.r, .int .i64 c.g, .int .i64 c.b, .int .i64 c.a]] (fun z v w' => BOwn v.heap.size w' z LP ∧ Below v.heap.size v w') (by rfl) (by go_simp) ((HPK.out _).mono fun e w' ⟨u, h1, h2, h3⟩ => ⟨u, h1, h2, h3⟩) ?_
        rintro zc wc ⟨BO, Bc⟩
        replace BW := BW.trans (Bc.mono (Nat.le_of_lt TP.hi))
        replace TP := TP.next Bc
        replace TK := TK.next Bc
        replace YM := YM.next Bc
        clear Bc
        simp only [Act.put, List.setIfInBounds_toArray, List.set_cons_zero, List.set_cons_succ]
        refine hK.out _ _ trivial (fun hH' => ?_)
        clear hK K
        replace hH := hH'
        clear hH' 
        refine wpAnyH_ready (rs := [4]) (by kernel_rfl) (by simp) ?_
        refine (AllReadyH.cons (o := { dst := some 8, op := Op.load 28 (Operand.tmp 7), type := 28, pos := "l16_texture.go:282", after := #[{ on := 3, ground := Ground.data }], guard := none }) rfl (fun K hK => ?_) AllReadyH.nil)
        refine step_val (.slice a M.length cp) wc (by rfl) (by (have e0 := TP.c3); go_simp) ?_
        simp only [Act.put, List.setIfInBounds_toArray, List.set_cons_zero, List.set_cons_succ]
        refine hK.out _ _ trivial (fun hH' => ?_)
        clear hK K
        replace hH := hH'
        clear hH' 
        refine wpAnyH_ready (rs := [11]) (by kernel_rfl) (by simp) ?_
        refine (AllReadyH.cons (o := { dst := some 15, op := Op.call { callee := Callee.builtin Builtin.append, args := #[Operand.tmp 8, Operand.tmp 14], argTypes := #[28, 28] }, type := 28, pos := "l16_texture.go:282", after := #[{ on := 4, ground := Ground.data }, { on := 10, ground := Ground.data }, { on := 10, ground := Ground.chain }], guard := none }) rfl (fun K hK => ?_) AllReadyH.nil)
        obtain ⟨g, cap, wa, hra, YN, hga⟩ := run_append_y8 (ty := 28) YM BO (by have := HLP.out; omega) (by have := HLP.out; omega)
        obtain ⟨nl, hnl⟩ : ∃ z, (M ++ LP).length = z := ⟨_, rfl⟩
        rw [hnl] at hra YN
        clear hnl
        refine step_app (.tmp 8) (.tmp 14) 28 _ _ _ wa (by rfl) (by rfl) (by rfl) (by rfl) hra ?_
        have Ba : Below B wc wa := below_grown (Below.refl _ _) YM.2 hga (fun q hq => (YM.lt q hq).1)
        replace TP := TP.low Ba hpb
        replace BW := BW.trans (Ba.mono (by omega))
        clear YM hga hra Ba TK BO
        simp only [Act.put, List.setIfInBounds_toArray, List.set_cons_zero, List.set_cons_succ]
        refine hK.out _ _ trivial (fun hH' => ?_)
        clear hK K
        replace hH := hH'
        clear hH' 
        refine wpAnyH_take (i := 12) (oi := { dst := some 16, op := Op.nilCheck (Operand.tmp 4), type := 0, pos := "l16_texture.go:282", after := #[{ on := 0, ground := Ground.data }, { on := 0, ground := Ground.phase }, { on := 1, ground := Ground.phase }, { on := 2, ground := Ground.phase }, { on := 3, ground := Ground.phase }, { on := 4, ground := Ground.phase }, { on := 5, ground := Ground.phase }, { on := 6, ground := Ground.phase }, { on := 7, ground := Ground.phase }, { on := 8, ground := Ground.phase }, { on := 9, ground := Ground.phase }, { on := 10, ground := Ground.phase }, { on := 11, ground := Ground.phase }], guard := none }) (v := .pointer (some ⟨pb, 0, none⟩)) rfl (by kernel_rfl) (by kernel_rfl) (by kernel_rfl) (fun _ _ _ h => h) (Or.inl ⟨by rfl, fun w0 hSw => by (go_simp)⟩) hH ?_
        simp only [Act.put, List.setIfInBounds_toArray, List.set_cons_zero, List.set_cons_succ]
        refine wpAnyH_take (i := 13) (oi := { dst := some 17, op := Op.fieldAddr 81 (Operand.tmp 16) 3, type := 0, pos := "l16_texture.go:282", after := #[{ on := 12, ground := Ground.data }, { on := 0, ground := Ground.phase }, { on := 1, ground := Ground.phase }, { on := 2, ground := Ground.phase }, { on := 3, ground := Ground.phase }, { on := 4, ground := Ground.phase }, { on := 5, ground := Ground.phase }, { on := 6, ground := Ground.phase }, { on := 7, ground := Ground.phase }, { on := 8, ground := Ground.phase }, { on := 9, ground := Ground.phase }, { on := 10, ground := Ground.phase }, { on := 11, ground := Ground.phase }], guard := none }) (v := .pointer (some ⟨pb, 3, none⟩)) rfl (by kernel_rfl) (by kernel_rfl) (by kernel_rfl) (fun _ _ _ h => h) (Or.inl ⟨by rfl, fun w0 hSw => by (go_simp)⟩) hH ?_
        simp only [Act.put, List.setIfInBounds_toArray, List.set_cons_zero, List.set_cons_succ]
        refine wpAnyH_ready (rs := [14]) (by kernel_rfl) (by simp) ?_
        refine (AllReadyH.cons (o := { dst := none, op := Op.store 28 (Operand.tmp 17) (Operand.tmp 15), type := 0, pos := "l16_texture.go:282", after := #[{ on := 13, ground := Ground.data }, { on := 11, ground := Ground.data }, { on := 11, ground := Ground.chain }, { on := 0, ground := Ground.phase }, { on := 1, ground := Ground.phase }, { on := 2, ground := Ground.phase }, { on := 3, ground := Ground.phase }, { on := 4, ground := Ground.phase }, { on := 5, ground := Ground.phase }, { on := 6, ground := Ground.phase }, { on := 7, ground := Ground.phase }, { on := 8, ground := Ground.phase }, { on := 9, ground := Ground.phase }, { on := 10, ground := Ground.phase }, { on := 11, ground := Ground.phase }], guard := none }) rfl (fun K hK => ?_) AllReadyH.nil)
        refine step_skip (wa.setCell ⟨pb, 3, none⟩ (.slice (some ⟨g, 0, none⟩) nl cap)) (by rfl) (by (have e0 := TP.c3); (have ef := TP.f); go_simp) ?_
        have TS := TP.s3 (.slice (some ⟨g, 0, none⟩) nl cap)
        have OS := (Only.refl pb wa).setCell 3 (.slice (some ⟨g, 0, none⟩) nl cap)
        have YS := YN.grown (only_grown OS) (Or.inr (by have := (YN.lt g rfl).1; simp [Value.ownBlock]; omega))
        have BS := BW.trans (OS.below (Nat.le_refl _) (by have := TP.hi; omega))
        clear TP YN OS BW
        refine hK.out _ _ trivial (fun hH' => ?_)
        clear hK K
        replace hH := hH'
        clear hH' 
        refine wpAnyH_done (by kernel_rfl) ?_ _
        go_wp2
        go_end0
        exact ⟨rfl, _, TS, YS, BS⟩
set_option maxRecDepth 100000 in
set_option maxHeartbeats 4000000 in
theorem padd3 (A H : Int) (c : Col) (hc : c.ok) (pb B : Nat) (v : Value) (M : List Int) (w : World) (TP : C4 w pb (.int .i64 A) (.int .i64 H) (fmV 3) v) (YM : Y8 B w v M) (hpb : pb < B) (hM : M.length ≤ 90000) : Calls Try.prog 57 #[.pointer (some ⟨pb, 0, none⟩), colV c] w fun e w' => e = .returned (.tuple #[]) ∧ ∃ v', C4 w' pb (.int .i64 A) (.int .i64 H) (fmV 3) v' ∧ Y8 B w' v' (M ++ pkK 3 c) ∧ Below pb w w' := by
  have hm : ∀ w : World, (method 233 100 (Value.agg #[]) "loop.example/g00053/impl.pack").run Try.prog w = .ok (112, .agg #[]) w := fun w => by kernel_rfl
  have hgd : gdC c.r c.g c.b c.a = true := gdC_iff.2 hc
  have HPK : Hid (∀ w : World, Calls Try.prog 112 #[.agg #[], .agg #[.int .i64 c.r, .int .i64 c.g, .int .i64 c.b, .int .i64 c.a]] w (Pkd w (pkK 3 c))) := fun w => short111 c.r c.g c.b c.a w hgd
  have HLP : Hid (M.length ≤ 90000 ∧ 1 ≤ (pkK 3 c).length ∧ (pkK 3 c).length ≤ 4) := ⟨hM, by rw [pk_len (by decide)]; decide, by rw [pk_len (by decide)]; decide⟩
  generalize pkK 3 c = LP at HPK HLP ⊢
  have hfm : fmV 3 = .iface 100 (.agg #[]) := rfl
  rw [hfm] at TP ⊢
  obtain ⟨a, cp, rfl⟩ := YM.is
  have TK := C4.new w 25 (.int .i64 c.r) (.int .i64 c.g) (.int .i64 c.b) (.int .i64 c.a)
  replace TP := TP.next (alloc_b (o := (.cells #[.int .i64 c.r, .int .i64 c.g, .int .i64 c.b, .int .i64 c.a] 25)))
  replace YM := YM.alloc (.cells #[.int .i64 c.r, .int .i64 c.g, .int .i64 c.b, .int .i64 c.a] 25)
  have BW : Below pb w (w.alloc (.cells #[.int .i64 c.r, .int .i64 c.g, .int .i64 c.b, .int .i64 c.a] 25)) := alloc_b.mono (by have := YM.2; have := TP.hi; simp at this; omega)
  obtain ⟨W0, hW0⟩ : ∃ z, w.alloc (.cells #[.int .i64 c.r, .int .i64 c.g, .int .i64 c.b, .int .i64 c.a] 25) = z := ⟨_, rfl⟩
  have HW0 := Hid.mk hW0
  rw [hW0] at TK TP YM BW
  clear hW0 hgd hM
  unfold colV
  go_enter Try.func57, Try.ntmps57
  go_upto_region 1 with fail
  rw [HW0.out]
  clear HW0
  replace TP := TP.next (below_drew (Below.refl _ _))
  replace TK := TK.next (below_drew (Below.refl _ _))
  replace YM := YM.next (below_drew (Below.refl _ _))
  replace BW := below_drew BW
  generalize hWW : W0.drew = WX at TP TK YM BW
  obtain ⟨cb, hcb⟩ : ∃ z, w.heap.size = z := ⟨_, rfl⟩
  rw [hcb] at TK ⊢
  clear hcb
  refine wp_region_held_drew (S := fun _ => True) (by kernel_rfl) trivial (fun hH => ?_)
  rw [hWW]
  clear hWW
  refine wpAnyH_take (i := 0) (oi := { dst := some 4, op := Op.move (Operand.tmp 0), type := 109, pos := "l16_texture.go:282", after := #[], guard := none }) (v := .pointer (some ⟨pb, 0, none⟩)) rfl (by kernel_rfl) (by kernel_rfl) (by kernel_rfl) (fun _ _ _ h => h) (Or.inl ⟨by rfl, fun w0 hSw => by (go_simp)⟩) hH ?_
  simp only [Act.put, List.setIfInBounds_toArray, List.set_cons_zero, List.set_cons_succ]
  refine wpAnyH_take (i := 1) (oi := { dst := some 5, op := Op.move (Operand.tmp 0), type := 109, pos := "l16_texture.go:282", after := #[], guard := none }) (v := .pointer (some ⟨pb, 0, none⟩)) rfl (by kernel_rfl) (by kernel_rfl) (by kernel_rfl) (fun _ _ _ h => h) (Or.inl ⟨by rfl, fun w0 hSw => by (go_simp)⟩) hH ?_
  simp only [Act.put, List.setIfInBounds_toArray, List.set_cons_zero, List.set_cons_succ]
  refine wpAnyH_take (i := 2) (oi := { dst := some 6, op := Op.nilCheck (Operand.tmp 5), type := 0, pos := "l16_texture.go:282", after := #[{ on := 1, ground := Ground.data }], guard := none }) (v := .pointer (some ⟨pb, 0, none⟩)) rfl (by kernel_rfl) (by kernel_rfl) (by kernel_rfl) (fun _ _ _ h => h) (Or.inl ⟨by rfl, fun w0 hSw => by (go_simp)⟩) hH ?_
  simp only [Act.put, List.setIfInBounds_toArray, List.set_cons_zero, List.set_cons_succ]
  refine wpAnyH_take (i := 3) (oi := { dst := some 7, op := Op.fieldAddr 81 (Operand.tmp 6) 3, type := 0, pos := "l16_texture.go:282", after := #[{ on := 2, ground := Ground.data }], guard := none }) (v := .pointer (some ⟨pb, 3, none⟩)) rfl (by kernel_rfl) (by kernel_rfl) (by kernel_rfl) (fun _ _ _ h => h) (Or.inl ⟨by rfl, fun w0 hSw => by (go_simp)⟩) hH ?_
  simp only [Act.put, List.setIfInBounds_toArray, List.set_cons_zero, List.set_cons_succ]
  refine wpAnyH_take (i := 5) (oi := { dst := some 9, op := Op.move (Operand.tmp 0), type := 109, pos := "l16_texture.go:282", after := #[], guard := none }) (v := .pointer (some ⟨pb, 0, none⟩)) rfl (by kernel_rfl) (by kernel_rfl) (by kernel_rfl) (fun _ _ _ h => h) (Or.inl ⟨by rfl, fun w0 hSw => by (go_simp)⟩) hH ?_
  simp only [Act.put, List.setIfInBounds_toArray, List.set_cons_zero, List.set_cons_succ]
  refine wpAnyH_take (i := 6) (oi := { dst := some 10, op := Op.nilCheck (Operand.tmp 9), type := 0, pos := "l16_texture.go:282", after := #[{ on := 5, ground := Ground.data }], guard := none }) (v := .pointer (some ⟨pb, 0, none⟩)) rfl (by kernel_rfl) (by kernel_rfl) (by kernel_rfl) (fun _ _ _ h => h) (Or.inl ⟨by rfl, fun w0 hSw => by (go_simp)⟩) hH ?_
  simp only [Act.put, List.setIfInBounds_toArray, List.set_cons_zero, List.set_cons_succ]
  refine wpAnyH_take (i := 7) (oi := { dst := some 11, op := Op.fieldAddr 81 (Operand.tmp 10) 2, type := 0, pos := "l16_texture.go:282", after := #[{ on := 6, ground := Ground.data }], guard := none }) (v := .pointer (some ⟨pb, 2, none⟩)) rfl (by kernel_rfl) (by kernel_rfl) (by kernel_rfl) (fun _ _ _ h => h) (Or.inl ⟨by rfl, fun w0 hSw => by (go_simp)⟩) hH ?_
  simp only [Act.put, List.setIfInBounds_toArray, List.set_cons_zero, List.set_cons_succ]
  refine wpAnyH_ready (rs := [4, 8, 9]) (by kernel_rfl) (by simp) ?_
  refine (AllReadyH.cons (o := { dst := some 8, op := Op.load 28 (Operand.tmp 7), type := 28, pos := "l16_texture.go:282", after := #[{ on := 3, ground := Ground.data }], guard := none }) rfl (fun K hK => ?_) (AllReadyH.cons (o := { dst := some 12, op := Op.load 62 (Operand.tmp 11), type := 62, pos := "l16_texture.go:282", after := #[{ on := 7, ground := Ground.data }], guard := none }) rfl (fun K hK => ?_) (AllReadyH.cons (o := { dst := some 13, op := Op.load 25 (Operand.tmp 3), type := 25, pos := "l16_texture.go:282", after := #[], guard := none }) rfl (fun K hK => ?_) AllReadyH.nil)))
  · refine step_val (.slice a M.length cp) WX (by rfl) (by (have e0 := TP.c3); go_simp) ?_
    simp only [Act.put, List.setIfInBounds_toArray, List.set_cons_zero, List.set_cons_succ]
    refine hK.out _ _ trivial (fun hH' => ?_)
    clear hK K
    replace hH := hH'
    clear hH' 
    refine wpAnyH_ready (rs := [8, 9]) (by kernel_rfl) (by simp) ?_
    refine (AllReadyH.cons (o := { dst := some 12, op := Op.load 62 (Operand.tmp 11), type := 62, pos := "l16_texture.go:282", after := #[{ on := 7, ground := Ground.data }], guard := none }) rfl (fun K hK => ?_) (AllReadyH.cons (o := { dst := some 13, op := Op.load 25 (Operand.tmp 3), type := 25, pos := "l16_texture.go:282", after := #[], guard := none }) rfl (fun K hK => ?_) AllReadyH.nil))
    · refine step_val (.iface 100 (.agg #[])) WX (by rfl) (by (have e0 := TP.c2); go_simp) ?_
      simp only [Act.put, List.setIfInBounds_toArray, List.set_cons_zero, List.set_cons_succ]
      refine hK.out _ _ trivial (fun hH' => ?_)
      clear hK K
      replace hH := hH'
      clear hH' 
      refine wpAnyH_ready (rs := [9]) (by kernel_rfl) (by simp) ?_
      refine (AllReadyH.cons (o := { dst := some 13, op := Op.load 25 (Operand.tmp 3), type := 25, pos := "l16_texture.go:282", after := #[], guard := none }) rfl (fun K hK => ?_) AllReadyH.nil)
      refine step_val (.agg #[.int .i64 c.r, .int .i64 c.g, .int .i64 c.b, .int .i64 c.a]) WX (by rfl) (by (have e0 := TK.c0); (have e1 := TK.c1); (have e2 := TK.c2); (have e3 := TK.c3); go_simp) ?_
      simp only [Act.put, List.setIfInBounds_toArray, List.set_cons_zero, List.set_cons_succ]
      refine hK.out _ _ trivial (fun hH' => ?_)
      clear hK K
      replace hH := hH'
      clear hH' 
      refine wpAnyH_ready (rs := [10]) (by kernel_rfl) (by simp) ?_
      refine (AllReadyH.cons (o := { dst := some 14, op := Op.call { callee := Callee.invoke (Operand.tmp 12) "loop.example/g00053/impl.pack", args := #[Operand.tmp 13], argTypes := #[25] }, type := 28, pos := "l16_texture.go:282", after := #[{ on := 8, ground := Ground.data }, { on := 9, ground := Ground.data }], guard := none }) rfl (fun K hK => ?_) AllReadyH.nil)
      refine step_callC 112 #[.agg #[], .agg #[.int .i64 c.r, .int .i64 c.g, .int .i64 c.b, .int .i64 c.a]] (fun z v w' => BOwn v.heap.size w' z LP ∧ Below v.heap.size v w') (by rfl) (by go_simp) ((HPK.out _).mono fun e w' ⟨u, h1, h2, h3⟩ => ⟨u, h1, h2, h3⟩) ?_
      rintro zc wc ⟨BO, Bc⟩
      replace BW := BW.trans (Bc.mono (Nat.le_of_lt TP.hi))
      replace TP := TP.next Bc
      replace TK := TK.next Bc
      replace YM := YM.next Bc
      clear Bc
      simp only [Act.put, List.setIfInBounds_toArray, List.set_cons_zero, List.set_cons_succ]
      refine hK.out _ _ trivial (fun hH' => ?_)
      clear hK K
      replace hH := hH'
      clear hH' 
      refine wpAnyH_ready (rs := [11]) (by kernel_rfl) (by simp) ?_
      refine (AllReadyH.cons (o := { dst := some 15, op := Op.call { callee := Callee.builtin Builtin.append, args := #[Operand.tmp 8, Operand.tmp 14], argTypes := #[28, 28] }, type := 28, pos := "l16_texture.go:282", after := #[{ on := 4, ground := Ground.data }, { on := 10, ground := Ground.data }, { on := 10, ground := Ground.chain }], guard := none }) rfl (fun K hK => ?_) AllReadyH.nil)
      obtain ⟨g, cap, wa, hra, YN, hga⟩ := run_append_y8 (ty := 28) YM BO (by have := HLP.out; omega) (by have := HLP.out; omega)
      obtain ⟨nl, hnl⟩ : ∃ z, (M ++ LP).length = z := ⟨_, rfl⟩
      rw [hnl] at hra YN
      clear hnl
      refine step_app (.tmp 8) (.tmp 14) 28 _ _ _ wa (by rfl) (by rfl) (by rfl) (by rfl) hra ?_
      have Ba : Below B wc wa := below_grown (Below.refl _ _) YM.2 hga (fun q hq => (YM.lt q hq).1)
      replace TP := TP.low Ba hpb
      replace BW := BW.trans (Ba.mono (by omega))
      clear YM hga hra Ba TK BO
      simp only [Act.put, List.setIfInBounds_toArray, List.set_cons_zero, List.set_cons_succ]
      refine hK.out _ _ trivial (fun hH' => ?_)
      clear hK K
      replace hH := hH'
      clear hH' 
      refine wpAnyH_take (i := 12) (oi := { dst := some 16, op := Op.nilCheck (Operand.tmp 4), type := 0, pos := "l16_texture.go:282", after := #[{ on := 0, ground := Ground.data }, { on := 0, ground := Ground.phase }, { on := 1, ground := Ground.phase }, { on := 2, ground := Ground.phase }, { on := 3, ground := Ground.phase }, { on := 4, ground := Ground.phase }, { on := 5, ground := Ground.phase }, { on := 6, ground := Ground.phase }, { on := 7, ground := Ground.phase }, { on := 8, ground := Ground.phase }, { on := 9, ground := Ground.phase }, { on := 10, ground := Ground.phase }, { on := 11, ground := Ground.phase }], guard := none }) (v := .pointer (some ⟨pb, 0, none⟩)) rfl (by kernel_rfl) (by kernel_rfl) (by kernel_rfl) (fun _ _ _ h => h) (Or.inl ⟨by rfl, fun w0 hSw => by (go_simp)⟩) hH ?_
      simp only [Act.put, List.setIfInBounds_toArray, List.set_cons_zero, List.set_cons_succ]
      refine wpAnyH_take (i := 13) (oi := { dst := some 17, op := Op.fieldAddr 81 (Operand.tmp 16) 3, type := 0, pos := "l16_texture.go:282", after := #[{ on := 12, ground := Ground.data }, { on := 0, ground := Ground.phase }, { on := 1, ground := Ground.phase }, { on := 2, ground := Ground.phase }, { on := 3, ground := Ground.phase }, { on := 4, ground := Ground.phase }, { on := 5, ground := Ground.phase }, { on := 6, ground := Ground.phase }, { on := 7, ground := Ground.phase }, { on := 8, ground := Ground.phase }, { on := 9, ground := Ground.phase }, { on := 10, ground := Ground.phase }, { on := 11, ground := Ground.phase }], guard := none }) (v := .pointer (some ⟨pb, 3, none⟩)) rfl (by kernel_rfl) (by kernel_rfl) (by kernel_rfl) (fun _ _ _ h => h) (Or.inl ⟨by rfl, fun w0 hSw => by (go_simp)⟩) hH ?_
      simp only [Act.put, List.setIfInBounds_toArray, List.set_cons_zero, List.set_cons_succ]
      refine wpAnyH_ready (rs := [14]) (by kernel_rfl) (by simp) ?_
      refine (AllReadyH.cons (o := { dst := none, op := Op.store 28 (Operand.tmp 17) (Operand.tmp 15), type := 0, pos := "l16_texture.go:282", after := #[{ on := 13, ground := Ground.data }, { on := 11, ground := Ground.data }, { on := 11, ground := Ground.chain }, { on := 0, ground := Ground.phase }, { on := 1, ground := Ground.phase }, { on := 2, ground := Ground.phase }, { on := 3, ground := Ground.phase }, { on := 4, ground := Ground.phase }, { on := 5, ground := Ground.phase }, { on := 6, ground := Ground.phase }, { on := 7, ground := Ground.phase }, { on := 8, ground := Ground.phase }, { on := 9, ground := Ground.phase }, { on := 10, ground := Ground.phase }, { on := 11, ground := Ground.phase }], guard := none }) rfl (fun K hK => ?_) AllReadyH.nil)
      refine step_skip (wa.setCell ⟨pb, 3, none⟩ (.slice (some ⟨g, 0, none⟩) nl cap)) (by rfl) (by (have e0 := TP.c3); (have ef := TP.f); go_simp) ?_
      have TS := TP.s3 (.slice (some ⟨g, 0, none⟩) nl cap)
      have OS := (Only.refl pb wa).setCell 3 (.slice (some ⟨g, 0, none⟩) nl cap)
      have YS := YN.grown (only_grown OS) (Or.inr (by have := (YN.lt g rfl).1; simp [Value.ownBlock]; omega))
      have BS := BW.trans (OS.below (Nat.le_refl _) (by have := TP.hi; omega))
      clear TP YN OS BW
      refine hK.out _ _ trivial (fun hH' => ?_)
      clear hK K
      replace hH := hH'
      clear hH' 
      refine wpAnyH_done (by kernel_rfl) ?_ _
      go_wp2
      go_end0
      exact ⟨rfl, _, TS, YS, BS⟩
    · refine step_val (.agg #[.int .i64 c.r, .int .i64 c.g, .int .i64 c.b, .int .i64 c.a]) WX (by rfl) (by (have e0 := TK.c0); (have e1 := TK.c1); (have e2 := TK.c2); (have e3 := TK.c3); go_simp) ?_
      simp only [Act.put, List.setIfInBounds_toArray, List.set_cons_zero, List.set_cons_succ]
      refine hK.out _ _ trivial (fun hH' => ?_)
      clear hK K
      replace hH := hH'
      clear hH' 
      refine wpAnyH_ready (rs := [8]) (by kernel_rfl) (by simp) ?_
      refine (AllReadyH.cons (o := { dst := some 12, op := Op.load 62 (Operand.tmp 11), type := 62, pos := "l16_texture.go:282", after := #[{ on := 7, ground := Ground.data }], guard := none }) rfl (fun K hK => ?_) AllReadyH.nil)
      refine step_val (.iface 100 (.agg #[])) WX (by rfl) (by (have e0 := TP.c2); go_simp) ?_
      simp only [Act.put, List.setIfInBounds_toArray, List.set_cons_zero, List.set_cons_succ]
      refine hK.out _ _ trivial (fun hH' => ?_)
      clear hK K
      replace hH := hH'
      clear hH' 
      refine wpAnyH_ready (rs := [10]) (by kernel_rfl) (by simp) ?_
      refine (AllReadyH.cons (o := { dst := some 14, op := Op.call { callee := Callee.invoke (Operand.tmp 12) "loop.example/g00053/impl.pack", args := #[Operand.tmp 13], argTypes := #[25] }, type := 28, pos := "l16_texture.go:282", after := #[{ on := 8, ground := Ground.data }, { on := 9, ground := Ground.data }], guard := none }) rfl (fun K hK => ?_) AllReadyH.nil)
      refine step_callC 112 #[.agg #[], .agg #[.int .i64 c.r, .int .i64 c.g, .int .i64 c.b, .int .i64 c.a]] (fun z v w' => BOwn v.heap.size w' z LP ∧ Below v.heap.size v w') (by rfl) (by go_simp) ((HPK.out _).mono fun e w' ⟨u, h1, h2, h3⟩ => ⟨u, h1, h2, h3⟩) ?_
      rintro zc wc ⟨BO, Bc⟩
      replace BW := BW.trans (Bc.mono (Nat.le_of_lt TP.hi))
      replace TP := TP.next Bc
      replace TK := TK.next Bc
      replace YM := YM.next Bc
      clear Bc
      simp only [Act.put, List.setIfInBounds_toArray, List.set_cons_zero, List.set_cons_succ]
      refine hK.out _ _ trivial (fun hH' => ?_)
      clear hK K
      replace hH := hH'
      clear hH' 
      refine wpAnyH_ready (rs := [11]) (by kernel_rfl) (by simp) ?_
      refine (AllReadyH.cons (o := { dst := some 15, op := Op.call { callee := Callee.builtin Builtin.append, args := #[Operand.tmp 8, Operand.tmp 14], argTypes := #[28, 28] }, type := 28, pos := "l16_texture.go:282", after := #[{ on := 4, ground := Ground.data }, { on := 10, ground := Ground.data }, { on := 10, ground := Ground.chain }], guard := none }) rfl (fun K hK => ?_) AllReadyH.nil)
      obtain ⟨g, cap, wa, hra, YN, hga⟩ := run_append_y8 (ty := 28) YM BO (by have := HLP.out; omega) (by have := HLP.out; omega)
      obtain ⟨nl, hnl⟩ : ∃ z, (M ++ LP).length = z := ⟨_, rfl⟩
      rw [hnl] at hra YN
      clear hnl
      refine step_app (.tmp 8) (.tmp 14) 28 _ _ _ wa (by rfl) (by rfl) (by rfl) (by rfl) hra ?_
      have Ba : Below B wc wa := below_grown (Below.refl _ _) YM.2 hga (fun q hq => (YM.lt q hq).1)
      replace TP := TP.low Ba hpb
      replace BW := BW.trans (Ba.mono (by omega))
      clear YM hga hra Ba TK BO
      simp only [Act.put, List.setIfInBounds_toArray, List.set_cons_zero, List.set_cons_succ]
      refine hK.out _ _ trivial (fun hH' => ?_)
      clear hK K
      replace hH := hH'
      clear hH' 
      refine wpAnyH_take (i := 12) (oi := { dst := some 16, op := Op.nilCheck (Operand.tmp 4), type := 0, pos := "l16_texture.go:282", after := #[{ on := 0, ground := Ground.data }, { on := 0, ground := Ground.phase }, { on := 1, ground := Ground.phase }, { on := 2, ground := Ground.phase }, { on := 3, ground := Ground.phase }, { on := 4, ground := Ground.phase }, { on := 5, ground := Ground.phase }, { on := 6, ground := Ground.phase }, { on := 7, ground := Ground.phase }, { on := 8, ground := Ground.phase }, { on := 9, ground := Ground.phase }, { on := 10, ground := Ground.phase }, { on := 11, ground := Ground.phase }], guard := none }) (v := .pointer (some ⟨pb, 0, none⟩)) rfl (by kernel_rfl) (by kernel_rfl) (by kernel_rfl) (fun _ _ _ h => h) (Or.inl ⟨by rfl, fun w0 hSw => by (go_simp)⟩) hH ?_
      simp only [Act.put, List.setIfInBounds_toArray, List.set_cons_zero, List.set_cons_succ]
      refine wpAnyH_take (i := 13) (oi := { dst := some 17, op := Op.fieldAddr 81 (Operand.tmp 16) 3, type := 0, pos := "l16_texture.go:282", after := #[{ on := 12, ground := Ground.data }, { on := 0, ground := Ground.phase }, { on := 1, ground := Ground.phase }, { on := 2, ground := Ground.phase }, { on := 3, ground := Ground.phase }, { on := 4, ground := Ground.phase }, { on := 5, ground := Ground.phase }, { on := 6, ground := Ground.phase }, { on := 7, ground := Ground.phase }, { on := 8, ground := Ground.phase }, { on := 9, ground := Ground.phase }, { on := 10, ground := Ground.phase }, { on := 11, ground := Ground.phase }], guard := none }) (v := .pointer (some ⟨pb, 3, none⟩)) rfl (by kernel_rfl) (by kernel_rfl) (by kernel_rfl) (fun _ _ _ h => h) (Or.inl ⟨by rfl, fun w0 hSw => by (go_simp)⟩) hH ?_
      simp only [Act.put, List.setIfInBounds_toArray, List.set_cons_zero, List.set_cons_succ]
      refine wpAnyH_ready (rs := [14]) (by kernel_rfl) (by simp) ?_
      refine (AllReadyH.cons (o := { dst := none, op := Op.store 28 (Operand.tmp 17) (Operand.tmp 15), type := 0, pos := "l16_texture.go:282", after := #[{ on := 13, ground := Ground.data }, { on := 11, ground := Ground.data }, { on := 11, ground := Ground.chain }, { on := 0, ground := Ground.phase }, { on := 1, ground := Ground.phase }, { on := 2, ground := Ground.phase }, { on := 3, ground := Ground.phase }, { on := 4, ground := Ground.phase }, { on := 5, ground := Ground.phase }, { on := 6, ground := Ground.phase }, { on := 7, ground := Ground.phase }, { on := 8, ground := Ground.phase }, { on := 9, ground := Ground.phase }, { on := 10, ground := Ground.phase }, { on := 11, ground := Ground.phase }], guard := none }) rfl (fun K hK => ?_) AllReadyH.nil)
      refine step_skip (wa.setCell ⟨pb, 3, none⟩ (.slice (some ⟨g, 0, none⟩) nl cap)) (by rfl) (by (have e0 := TP.c3); (have ef := TP.f); go_simp) ?_
      have TS := TP.s3 (.slice (some ⟨g, 0, none⟩) nl cap)
      have OS := (Only.refl pb wa).setCell 3 (.slice (some ⟨g, 0, none⟩) nl cap)
      have YS := YN.grown (only_grown OS) (Or.inr (by have := (YN.lt g rfl).1; simp [Value.ownBlock]; omega))
      have BS := BW.trans (OS.below (Nat.le_refl _) (by have := TP.hi; omega))
      clear TP YN OS BW
      refine hK.out _ _ trivial (fun hH' => ?_)
      clear hK K
      replace hH := hH'
      clear hH' 
      refine wpAnyH_done (by kernel_rfl) ?_ _
      go_wp2
      go_end0
      exact ⟨rfl, _, TS, YS, BS⟩
  · refine step_val (.iface 100 (.agg #[])) WX (by rfl) (by (have e0 := TP.c2); go_simp) ?_
    simp only [Act.put, List.setIfInBounds_toArray, List.set_cons_zero, List.set_cons_succ]
    refine hK.out _ _ trivial (fun hH' => ?_)
    clear hK K
    replace hH := hH'
    clear hH' 
    refine wpAnyH_ready (rs := [4, 9]) (by kernel_rfl) (by simp) ?_
    refine (AllReadyH.cons (o := { dst := some 8, op := Op.load 28 (Operand.tmp 7), type := 28, pos := "l16_texture.go:282", after := #[{ on := 3, ground := Ground.data }], guard := none }) rfl (fun K hK => ?_) (AllReadyH.cons (o := { dst := some 13, op := Op.load 25 (Operand.tmp 3), type := 25, pos := "l16_texture.go:282", after := #[], guard := none }) rfl (fun K hK => ?_) AllReadyH.nil))
    · refine step_val (.slice a M.length cp) WX (by rfl) (by (have e0 := TP.c3); go_simp) ?_
      simp only [Act.put, List.setIfInBounds_toArray, List.set_cons_zero, List.set_cons_succ]
      refine hK.out _ _ trivial (fun hH' => ?_)
      clear hK K
      replace hH := hH'
      clear hH' 
      refine wpAnyH_ready (rs := [9]) (by kernel_rfl) (by simp) ?_
      refine (AllReadyH.cons (o := { dst := some 13, op := Op.load 25 (Operand.tmp 3), type := 25, pos := "l16_texture.go:282", after := #[], guard := none }) rfl (fun K hK => ?_) AllReadyH.nil)
      refine step_val (.agg #[.int .i64 c.r, .int .i64 c.g, .int .i64 c.b, .int .i64 c.a]) WX (by rfl) (by (have e0 := TK.c0); (have e1 := TK.c1); (have e2 := TK.c2); (have e3 := TK.c3); go_simp) ?_
      simp only [Act.put, List.setIfInBounds_toArray, List.set_cons_zero, List.set_cons_succ]
      refine hK.out _ _ trivial (fun hH' => ?_)
      clear hK K
      replace hH := hH'
      clear hH' 
      refine wpAnyH_ready (rs := [10]) (by kernel_rfl) (by simp) ?_
      refine (AllReadyH.cons (o := { dst := some 14, op := Op.call { callee := Callee.invoke (Operand.tmp 12) "loop.example/g00053/impl.pack", args := #[Operand.tmp 13], argTypes := #[25] }, type := 28, pos := "l16_texture.go:282", after := #[{ on := 8, ground := Ground.data }, { on := 9, ground := Ground.data }], guard := none }) rfl (fun K hK => ?_) AllReadyH.nil)
      refine step_callC 112 #[.agg #[], .agg #[.int .i64 c.r, .int .i64 c.g, .int .i64 c.b, .int .i64 c.a]] (fun z v w' => BOwn v.heap.size w' z LP ∧ Below v.heap.size v w') (by rfl) (by go_simp) ((HPK.out _).mono fun e w' ⟨u, h1, h2, h3⟩ => ⟨u, h1, h2, h3⟩) ?_
      rintro zc wc ⟨BO, Bc⟩
      replace BW := BW.trans (Bc.mono (Nat.le_of_lt TP.hi))
      replace TP := TP.next Bc
      replace TK := TK.next Bc
      replace YM := YM.next Bc
      clear Bc
      simp only [Act.put, List.setIfInBounds_toArray, List.set_cons_zero, List.set_cons_succ]
      refine hK.out _ _ trivial (fun hH' => ?_)
      clear hK K
      replace hH := hH'
      clear hH' 
      refine wpAnyH_ready (rs := [11]) (by kernel_rfl) (by simp) ?_
      refine (AllReadyH.cons (o := { dst := some 15, op := Op.call { callee := Callee.builtin Builtin.append, args := #[Operand.tmp 8, Operand.tmp 14], argTypes := #[28, 28] }, type := 28, pos := "l16_texture.go:282", after := #[{ on := 4, ground := Ground.data }, { on := 10, ground := Ground.data }, { on := 10, ground := Ground.chain }], guard := none }) rfl (fun K hK => ?_) AllReadyH.nil)
      obtain ⟨g, cap, wa, hra, YN, hga⟩ := run_append_y8 (ty := 28) YM BO (by have := HLP.out; omega) (by have := HLP.out; omega)
      obtain ⟨nl, hnl⟩ : ∃ z, (M ++ LP).length = z := ⟨_, rfl⟩
      rw [hnl] at hra YN
      clear hnl
      refine step_app (.tmp 8) (.tmp 14) 28 _ _ _ wa (by rfl) (by rfl) (by rfl) (by rfl) hra ?_
      have Ba : Below B wc wa := below_grown (Below.refl _ _) YM.2 hga (fun q hq => (YM.lt q hq).1)
      replace TP := TP.low Ba hpb
      replace BW := BW.trans (Ba.mono (by omega))
      clear YM hga hra Ba TK BO
      simp only [Act.put, List.setIfInBounds_toArray, List.set_cons_zero, List.set_cons_succ]
      refine hK.out _ _ trivial (fun hH' => ?_)
      clear hK K
      replace hH := hH'
      clear hH' 
      refine wpAnyH_take (i := 12) (oi := { dst := some 16, op := Op.nilCheck (Operand.tmp 4), type := 0, pos := "l16_texture.go:282", after := #[{ on := 0, ground := Ground.data }, { on := 0, ground := Ground.phase }, { on := 1, ground := Ground.phase }, { on := 2, ground := Ground.phase }, { on := 3, ground := Ground.phase }, { on := 4, ground := Ground.phase }, { on := 5, ground := Ground.phase }, { on := 6, ground := Ground.phase }, { on := 7, ground := Ground.phase }, { on := 8, ground := Ground.phase }, { on := 9, ground := Ground.phase }, { on := 10, ground := Ground.phase }, { on := 11, ground := Ground.phase }], guard := none }) (v := .pointer (some ⟨pb, 0, none⟩)) rfl (by kernel_rfl) (by kernel_rfl) (by kernel_rfl) (fun _ _ _ h => h) (Or.inl ⟨by rfl, fun w0 hSw => by (go_simp)⟩) hH ?_
      simp only [Act.put, List.setIfInBounds_toArray, List.set_cons_zero, List.set_cons_succ]
      refine wpAnyH_take (i := 13) (oi := { dst := some 17, op := Op.fieldAddr 81 (Operand.tmp 16) 3, type := 0, pos := "l16_texture.go:282", after := #[{ on := 12, ground := Ground.data }, { on := 0, ground := Ground.phase }, { on := 1, ground := Ground.phase }, { on := 2, ground := Ground.phase }, { on := 3, ground := Ground.phase }, { on := 4, ground := Ground.phase }, { on := 5, ground := Ground.phase }, { on := 6, ground := Ground.phase }, { on := 7, ground := Ground.phase }, { on := 8, ground := Ground.phase }, { on := 9, ground := Ground.phase }, { on := 10, ground := Ground.phase }, { on := 11, ground := Ground.phase }], guard := none }) (v := .pointer (some ⟨pb, 3, none⟩)) rfl (by kernel_rfl) (by kernel_rfl) (by kernel_rfl) (fun _ _ _ h => h) (Or.inl ⟨by rfl, fun w0 hSw => by (go_simp)⟩) hH ?_
      simp only [Act.put, List.setIfInBounds_toArray, List.set_cons_zero, List.set_cons_succ]
      refine wpAnyH_ready (rs := [14]) (by kernel_rfl) (by simp) ?_
      refine (AllReadyH.cons (o := { dst := none, op := Op.store 28 (Operand.tmp 17) (Operand.tmp 15), type := 0, pos := "l16_texture.go:282", after := #[{ on := 13, ground := Ground.data }, { on := 11, ground := Ground.data }, { on := 11, ground := Ground.chain }, { on := 0, ground := Ground.phase }, { on := 1, ground := Ground.phase }, { on := 2, ground := Ground.phase }, { on := 3, ground := Ground.phase }, { on := 4, ground := Ground.phase }, { on := 5, ground := Ground.phase }, { on := 6, ground := Ground.phase }, { on := 7, ground := Ground.phase }, { on := 8, ground := Ground.phase }, { on := 9, ground := Ground.phase }, { on := 10, ground := Ground.phase }, { on := 11, ground := Ground.phase }], guard := none }) rfl (fun K hK => ?_) AllReadyH.nil)
      refine step_skip (wa.setCell ⟨pb, 3, none⟩ (.slice (some ⟨g, 0, none⟩) nl cap)) (by rfl) (by (have e0 := TP.c3); (have ef := TP.f); go_simp) ?_
      have TS := TP.s3 (.slice (some ⟨g, 0, none⟩) nl cap)
      have OS := (Only.refl pb wa).setCell 3 (.slice (some ⟨g, 0, none⟩) nl cap)
      have YS := YN.grown (only_grown OS) (Or.inr (by have := (YN.lt g rfl).1; simp [Value.ownBlock]; omega))
      have BS := BW.trans (OS.below (Nat.le_refl _) (by have := TP.hi; omega))
      clear TP YN OS BW
      refine hK.out _ _ trivial (fun hH' => ?_)
      clear hK K
      replace hH := hH'
      clear hH' 
      refine wpAnyH_done (by kernel_rfl) ?_ _
      go_wp2
      go_end0
      exact ⟨rfl, _, TS, YS, BS⟩
    · refine step_val (.agg #[.int .i64 c.r, .int .i64 c.g, .int .i64 c.b, .int .i64 c.a]) WX (by rfl) (by (have e0 := TK.c0); (have e1 := TK.c1); (have e2 := TK.c2); (have e3 := TK.c3); go_simp) ?_
      simp only [Act.put, List.setIfInBounds_toArray, List.set_cons_zero, List.set_cons_succ]
      refine hK.out _ _ trivial (fun hH' => ?_)
      clear hK K
      replace hH := hH'
      clear hH' 
      refine wpAnyH_ready (rs := [4, 10]) (by kernel_rfl) (by simp) ?_
      refine (AllReadyH.cons (o := { dst := some 8, op := Op.load 28 (Operand.tmp 7), type := 28, pos := "l16_texture.go:282", after := #[{ on := 3, ground := Ground.data }], guard := none }) rfl (fun K hK => ?_) (AllReadyH.cons (o := { dst := some 14, op := Op.call { callee := Callee.invoke (Operand.tmp 12) "loop.example/g00053/impl.pack", args := #[Operand.tmp 13], argTypes := #[25] }, type := 28, pos := "l16_texture.go:282", after := #[{ on := 8, ground := Ground.data }, { on := 9, ground := Ground.data }], guard := none }) rfl (fun K hK => ?_) AllReadyH.nil))
      · refine step_val (.slice a M.length cp) WX (by rfl) (by (have e0 := TP.c3); go_simp) ?_
        simp only [Act.put, List.setIfInBounds_toArray, List.set_cons_zero, List.set_cons_succ]
        refine hK.out _ _ trivial (fun hH' => ?_)
        clear hK K
        replace hH := hH'
        clear hH' 
        refine wpAnyH_ready (rs := [10]) (by kernel_rfl) (by simp) ?_
        refine (AllReadyH.cons (o := { dst := some 14, op := Op.call { callee := Callee.invoke (Operand.tmp 12) "loop.example/g00053/impl.pack", args := #[Operand.tmp 13], argTypes := #[25] }, type := 28, pos := "l16_texture.go:282", after := #[{ on := 8, ground := Ground.data }, { on := 9, ground := Ground.data }], guard := none }) rfl (fun K hK => ?_) AllReadyH.nil)
        refine step_callC 112 #[.agg #[], .agg #[.int .i64 c.r, .int .i64 c.g, .int .i64 c.b, .int .i64 c.a]] (fun z v w' => BOwn v.heap.size w' z LP ∧ Below v.heap.size v w') (by rfl) (by go_simp) ((HPK.out _).mono fun e w' ⟨u, h1, h2, h3⟩ => ⟨u, h1, h2, h3⟩) ?_
        rintro zc wc ⟨BO, Bc⟩
        replace BW := BW.trans (Bc.mono (Nat.le_of_lt TP.hi))
        replace TP := TP.next Bc
        replace TK := TK.next Bc
        replace YM := YM.next Bc
        clear Bc
        simp only [Act.put, List.setIfInBounds_toArray, List.set_cons_zero, List.set_cons_succ]
        refine hK.out _ _ trivial (fun hH' => ?_)
        clear hK K
        replace hH := hH'
        clear hH' 
        refine wpAnyH_ready (rs := [11]) (by kernel_rfl) (by simp) ?_
        refine (AllReadyH.cons (o := { dst := some 15, op := Op.call { callee := Callee.builtin Builtin.append, args := #[Operand.tmp 8, Operand.tmp 14], argTypes := #[28, 28] }, type := 28, pos := "l16_texture.go:282", after := #[{ on := 4, ground := Ground.data }, { on := 10, ground := Ground.data }, { on := 10, ground := Ground.chain }], guard := none }) rfl (fun K hK => ?_) AllReadyH.nil)
        obtain ⟨g, cap, wa, hra, YN, hga⟩ := run_append_y8 (ty := 28) YM BO (by have := HLP.out; omega) (by have := HLP.out; omega)
        obtain ⟨nl, hnl⟩ : ∃ z, (M ++ LP).length = z := ⟨_, rfl⟩
        rw [hnl] at hra YN
        clear hnl
        refine step_app (.tmp 8) (.tmp 14) 28 _ _ _ wa (by rfl) (by rfl) (by rfl) (by rfl) hra ?_
        have Ba : Below B wc wa := below_grown (Below.refl _ _) YM.2 hga (fun q hq => (YM.lt q hq).1)
        replace TP := TP.low Ba hpb
        replace BW := BW.trans (Ba.mono (by omega))
        clear YM hga hra Ba TK BO
        simp only [Act.put, List.setIfInBounds_toArray, List.set_cons_zero, List.set_cons_succ]
        refine hK.out _ _ trivial (fun hH' => ?_)
        clear hK K
        replace hH := hH'
        clear hH' 
        refine wpAnyH_take (i := 12) (oi := { dst := some 16, op := Op.nilCheck (Operand.tmp 4), type := 0, pos := "l16_texture.go:282", after := #[{ on := 0, ground := Ground.data }, { on := 0, ground := Ground.phase }, { on := 1, ground := Ground.phase }, { on := 2, ground := Ground.phase }, { on := 3, ground := Ground.phase }, { on := 4, ground := Ground.phase }, { on := 5, ground := Ground.phase }, { on := 6, ground := Ground.phase }, { on := 7, ground := Ground.phase }, { on := 8, ground := Ground.phase }, { on := 9, ground := Ground.phase }, { on := 10, ground := Ground.phase }, { on := 11, ground := Ground.phase }], guard := none }) (v := .pointer (some ⟨pb, 0, none⟩)) rfl (by kernel_rfl) (by kernel_rfl) (by kernel_rfl) (fun _ _ _ h => h) (Or.inl ⟨by rfl, fun w0 hSw => by (go_simp)⟩) hH ?_
        simp only [Act.put, List.setIfInBounds_toArray, List.set_cons_zero, List.set_cons_succ]
        refine wpAnyH_take (i := 13) (oi := { dst := some 17, op := Op.fieldAddr 81 (Operand.tmp 16) 3, type := 0, pos := "l16_texture.go:282", after := #[{ on := 12, ground := Ground.data }, { on := 0, ground := Ground.phase }, { on := 1, ground := Ground.phase }, { on := 2, ground := Ground.phase }, { on := 3, ground := Ground.phase }, { on := 4, ground := Ground.phase }, { on := 5, ground := Ground.phase }, { on := 6, ground := Ground.phase }, { on := 7, ground := Ground.phase }, { on := 8, ground := Ground.phase }, { on := 9, ground := Ground.phase }, { on := 10, ground := Ground.phase }, { on := 11, ground := Ground.phase }], guard := none }) (v := .pointer (some ⟨pb, 3, none⟩)) rfl (by kernel_rfl) (by kernel_rfl) (by kernel_rfl) (fun _ _ _ h => h) (Or.inl ⟨by rfl, fun w0 hSw => by (go_simp)⟩) hH ?_
        simp only [Act.put, List.setIfInBounds_toArray, List.set_cons_zero, List.set_cons_succ]
        refine wpAnyH_ready (rs := [14]) (by kernel_rfl) (by simp) ?_
        refine (AllReadyH.cons (o := { dst := none, op := Op.store 28 (Operand.tmp 17) (Operand.tmp 15), type := 0, pos := "l16_texture.go:282", after := #[{ on := 13, ground := Ground.data }, { on := 11, ground := Ground.data }, { on := 11, ground := Ground.chain }, { on := 0, ground := Ground.phase }, { on := 1, ground := Ground.phase }, { on := 2, ground := Ground.phase }, { on := 3, ground := Ground.phase }, { on := 4, ground := Ground.phase }, { on := 5, ground := Ground.phase }, { on := 6, ground := Ground.phase }, { on := 7, ground := Ground.phase }, { on := 8, ground := Ground.phase }, { on := 9, ground := Ground.phase }, { on := 10, ground := Ground.phase }, { on := 11, ground := Ground.phase }], guard := none }) rfl (fun K hK => ?_) AllReadyH.nil)
        refine step_skip (wa.setCell ⟨pb, 3, none⟩ (.slice (some ⟨g, 0, none⟩) nl cap)) (by rfl) (by (have e0 := TP.c3); (have ef := TP.f); go_simp) ?_
        have TS := TP.s3 (.slice (some ⟨g, 0, none⟩) nl cap)
        have OS := (Only.refl pb wa).setCell 3 (.slice (some ⟨g, 0, none⟩) nl cap)
        have YS := YN.grown (only_grown OS) (Or.inr (by have := (YN.lt g rfl).1; simp [Value.ownBlock]; omega))
        have BS := BW.trans (OS.below (Nat.le_refl _) (by have := TP.hi; omega))
        clear TP YN OS BW
        refine hK.out _ _ trivial (fun hH' => ?_)
        clear hK K
        replace hH := hH'
        clear hH' 
        refine wpAnyH_done (by kernel_rfl) ?_ _
        go_wp2
        go_end0
        exact ⟨rfl, _, TS, YS, BS⟩
      · refine step_callC 112 #[.agg #[], .agg #[.int .i64 c.r, .int .i64 c.g, .int .i64 c.b, .int .i64 c.a]] (fun z v w' => BOwn v.heap.size w' z LP ∧ Below v.heap.size v w') (by rfl) (by go_simp) ((HPK.out _).mono fun e w' ⟨u, h1, h2, h3⟩ => ⟨u, h1, h2, h3⟩) ?_
        rintro zc wc ⟨BO, Bc⟩
        replace BW := BW.trans (Bc.mono (Nat.le_of_lt TP.hi))
        replace TP := TP.next Bc
        replace TK := TK.next Bc
        replace YM := YM.next Bc
        clear Bc
        simp only [Act.put, List.setIfInBounds_toArray, List.set_cons_zero, List.set_cons_succ]
        refine hK.out _ _ trivial (fun hH' => ?_)
        clear hK K
        replace hH := hH'
        clear hH' 
        refine wpAnyH_ready (rs := [4]) (by kernel_rfl) (by simp) ?_
        refine (AllReadyH.cons (o := { dst := some 8, op := Op.load 28 (Operand.tmp 7), type := 28, pos := "l16_texture.go:282", after := #[{ on := 3, ground := Ground.data }], guard := none }) rfl (fun K hK => ?_) AllReadyH.nil)
        refine step_val (.slice a M.length cp) wc (by rfl) (by (have e0 := TP.c3); go_simp) ?_
        simp only [Act.put, List.setIfInBounds_toArray, List.set_cons_zero, List.set_cons_succ]
        refine hK.out _ _ trivial (fun hH' => ?_)
        clear hK K
        replace hH := hH'
        clear hH' 
        refine wpAnyH_ready (rs := [11]) (by kernel_rfl) (by simp) ?_
        refine (AllReadyH.cons (o := { dst := some 15, op := Op.call { callee := Callee.builtin Builtin.append, args := #[Operand.tmp 8, Operand.tmp 14], argTypes := #[28, 28] }, type := 28, pos := "l16_texture.go:282", after := #[{ on := 4, ground := Ground.data }, { on := 10, ground := Ground.data }, { on := 10, ground := Ground.chain }], guard := none }) rfl (fun K hK => ?_) AllReadyH.nil)
        obtain ⟨g, cap, wa, hra, YN, hga⟩ := run_append_y8 (ty := 28) YM BO (by have := HLP.out; omega) (by have := HLP.out; omega)
        obtain ⟨nl, hnl⟩ : ∃ z, (M ++ LP).length = z := ⟨_, rfl⟩
        rw [hnl] at hra YN
        clear hnl
        refine step_app (.tmp 8) (.tmp 14) 28 _ _ _ wa (by rfl) (by rfl) (by rfl) (by rfl) hra ?_
        have Ba : Below B wc wa := below_grown (Below.refl _ _) YM.2 hga (fun q hq => (YM.lt q hq).1)
        replace TP := TP.low Ba hpb
        replace BW := BW.trans (Ba.mono (by omega))
        clear YM hga hra Ba TK BO
        simp only [Act.put, List.setIfInBounds_toArray, List.set_cons_zero, List.set_cons_succ]
        refine hK.out _ _ trivial (fun hH' => ?_)
        clear hK K
        replace hH := hH'
        clear hH' 
        refine wpAnyH_take (i := 12) (oi := { dst := some 16, op := Op.nilCheck (Operand.tmp 4), type := 0, pos := "l16_texture.go:282", after := #[{ on := 0, ground := Ground.data }, { on := 0, ground := Ground.phase }, { on := 1, ground := Ground.phase }, { on := 2, ground := Ground.phase }, { on := 3, ground := Ground.phase }, { on := 4, ground := Ground.phase }, { on := 5, ground := Ground.phase }, { on := 6, ground := Ground.phase }, { on := 7, ground := Ground.phase }, { on := 8, ground := Ground.phase }, { on := 9, ground := Ground.phase }, { on := 10, ground := Ground.phase }, { on := 11, ground := Ground.phase }], guard := none }) (v := .pointer (some ⟨pb, 0, none⟩)) rfl (by kernel_rfl) (by kernel_rfl) (by kernel_rfl) (fun _ _ _ h => h) (Or.inl ⟨by rfl, fun w0 hSw => by (go_simp)⟩) hH ?_
        simp only [Act.put, List.setIfInBounds_toArray, List.set_cons_zero, List.set_cons_succ]
        refine wpAnyH_take (i := 13) (oi := { dst := some 17, op := Op.fieldAddr 81 (Operand.tmp 16) 3, type := 0, pos := "l16_texture.go:282", after := #[{ on := 12, ground := Ground.data }, { on := 0, ground := Ground.phase }, { on := 1, ground := Ground.phase }, { on := 2, ground := Ground.phase }, { on := 3, ground := Ground.phase }, { on := 4, ground := Ground.phase }, { on := 5, ground := Ground.phase }, { on := 6, ground := Ground.phase }, { on := 7, ground := Ground.phase }, { on := 8, ground := Ground.phase }, { on := 9, ground := Ground.phase }, { on := 10, ground := Ground.phase }, { on := 11, ground := Ground.phase }], guard := none }) (v := .pointer (some ⟨pb, 3, none⟩)) rfl (by kernel_rfl) (by kernel_rfl) (by kernel_rfl) (fun _ _ _ h => h) (Or.inl ⟨by rfl, fun w0 hSw => by (go_simp)⟩) hH ?_
        simp only [Act.put, List.setIfInBounds_toArray, List.set_cons_zero, List.set_cons_succ]
        refine wpAnyH_ready (rs := [14]) (by kernel_rfl) (by simp) ?_
        refine (AllReadyH.cons (o := { dst := none, op := Op.store 28 (Operand.tmp 17) (Operand.tmp 15), type := 0, pos := "l16_texture.go:282", after := #[{ on := 13, ground := Ground.data }, { on := 11, ground := Ground.data }, { on := 11, ground := Ground.chain }, { on := 0, ground := Ground.phase }, { on := 1, ground := Ground.phase }, { on := 2, ground := Ground.phase }, { on := 3, ground := Ground.phase }, { on := 4, ground := Ground.phase }, { on := 5, ground := Ground.phase }, { on := 6, ground := Ground.phase }, { on := 7, ground := Ground.phase }, { on := 8, ground := Ground.phase }, { on := 9, ground := Ground.phase }, { on := 10, ground := Ground.phase }, { on := 11, ground := Ground.phase }], guard := none }) rfl (fun K hK => ?_) AllReadyH.nil)
        refine step_skip (wa.setCell ⟨pb, 3, none⟩ (.slice (some ⟨g, 0, none⟩) nl cap)) (by rfl) (by (have e0 := TP.c3); (have ef := TP.f); go_simp) ?_
        have TS := TP.s3 (.slice (some ⟨g, 0, none⟩) nl cap)
        have OS := (Only.refl pb wa).setCell 3 (.slice (some ⟨g, 0, none⟩) nl cap)
        have YS := YN.grown (only_grown OS) (Or.inr (by have := (YN.lt g rfl).1; simp [Value.ownBlock]; omega))
        have BS := BW.trans (OS.below (Nat.le_refl _) (by have := TP.hi; omega))
        clear TP YN OS BW
        refine hK.out _ _ trivial (fun hH' => ?_)
        clear hK K
        replace hH := hH'
        clear hH' 
        refine wpAnyH_done (by kernel_rfl) ?_ _
        go_wp2
        go_end0
        exact ⟨rfl, _, TS, YS, BS⟩
  · refine step_val (.agg #[.int .i64 c.r, .int .i64 c.g, .int .i64 c.b, .int .i64 c.a]) WX (by rfl) (by (have e0 := TK.c0); (have e1 := TK.c1); (have e2 := TK.c2); (have e3 := TK.c3); go_simp) ?_
    simp only [Act.put, List.setIfInBounds_toArray, List.set_cons_zero, List.set_cons_succ]
    refine hK.out _ _ trivial (fun hH' => ?_)
    clear hK K
    replace hH := hH'
    clear hH' 
    refine wpAnyH_ready (rs := [4, 8]) (by kernel_rfl) (by simp) ?_
    refine (AllReadyH.cons (o := { dst := some 8, op := Op.load 28 (Operand.tmp 7), type := 28, pos := "l16_texture.go:282", after := #[{ on := 3, ground := Ground.data }], guard := none }) rfl (fun K hK => ?_) (AllReadyH.cons (o := { dst := some 12, op := Op.load 62 (Operand.tmp 11), type := 62, pos := "l16_texture.go:282", after := #[{ on := 7, ground := Ground.data }], guard := none }) rfl (fun K hK => ?_) AllReadyH.nil))
    · refine step_val (.slice a M.length cp) WX (by rfl) (by (have e0 := TP.c3); go_simp) ?_
      simp only [Act.put, List.setIfInBounds_toArray, List.set_cons_zero, List.set_cons_succ]
      refine hK.out _ _ trivial (fun hH' => ?_)
      clear hK K
      replace hH := hH'
      clear hH' 
      refine wpAnyH_ready (rs := [8]) (by kernel_rfl) (by simp) ?_
      refine (AllReadyH.cons (o := { dst := some 12, op := Op.load 62 (Operand.tmp 11), type := 62, pos := "l16_texture.go:282", after := #[{ on := 7, ground := Ground.data }], guard := none }) rfl (fun K hK => ?_) AllReadyH.nil)
      refine step_val (.iface 100 (.agg #[])) WX (by rfl) (by (have e0 := TP.c2); go_simp) ?_
      simp only [Act.put, List.setIfInBounds_toArray, List.set_cons_zero, List.set_cons_succ]
      refine hK.out _ _ trivial (fun hH' => ?_)
      clear hK K
      replace hH := hH'
      clear hH' 
      refine wpAnyH_ready (rs := [10]) (by kernel_rfl) (by simp) ?_
      refine (AllReadyH.cons (o := { dst := some 14, op := Op.call { callee := Callee.invoke (Operand.tmp 12) "loop.example/g00053/impl.pack", args := #[Operand.tmp 13], argTypes := #[25] }, type := 28, pos := "l16_texture.go:282", after := #[{ on := 8, ground := Ground.data }, { on := 9, ground := Ground.data }], guard := none }) rfl (fun K hK => ?_) AllReadyH.nil)
      refine step_callC 112 #[.agg #[], .agg #[.int .i64 c.r, .int .i64 c.g, .int .i64 c.b, .int .i64 c.a]] (fun z v w' => BOwn v.heap.size w' z LP ∧ Below v.heap.size v w') (by rfl) (by go_simp) ((HPK.out _).mono fun e w' ⟨u, h1, h2, h3⟩ => ⟨u, h1, h2, h3⟩) ?_
      rintro zc wc ⟨BO, Bc⟩
      replace BW := BW.trans (Bc.mono (Nat.le_of_lt TP.hi))
      replace TP := TP.next Bc
      replace TK := TK.next Bc
      replace YM := YM.next Bc
      clear Bc
      simp only [Act.put, List.setIfInBounds_toArray, List.set_cons_zero, List.set_cons_succ]
      refine hK.out _ _ trivial (fun hH' => ?_)
      clear hK K
      replace hH := hH'
      clear hH' 
      refine wpAnyH_ready (rs := [11]) (by kernel_rfl) (by simp) ?_
      refine (AllReadyH.cons (o := { dst := some 15, op := Op.call { callee := Callee.builtin Builtin.append, args := #[Operand.tmp 8, Operand.tmp 14], argTypes := #[28, 28] }, type := 28, pos := "l16_texture.go:282", after := #[{ on := 4, ground := Ground.data }, { on := 10, ground := Ground.data }, { on := 10, ground := Ground.chain }], guard := none }) rfl (fun K hK => ?_) AllReadyH.nil)
      obtain ⟨g, cap, wa, hra, YN, hga⟩ := run_append_y8 (ty := 28) YM BO (by have := HLP.out; omega) (by have := HLP.out; omega)
      obtain ⟨nl, hnl⟩ : ∃ z, (M ++ LP).length = z := ⟨_, rfl⟩
      rw [hnl] at hra YN
      clear hnl
      refine step_app (.tmp 8) (.tmp 14) 28 _ _ _ wa (by rfl) (by rfl) (by rfl) (by rfl) hra ?_
      have Ba : Below B wc wa := below_grown (Below.refl _ _) YM.2 hga (fun q hq => (YM.lt q hq).1)
      replace TP := TP.low Ba hpb
      replace BW := BW.trans (Ba.mono (by omega))
      clear YM hga hra Ba TK BO
      simp only [Act.put, List.setIfInBounds_toArray, List.set_cons_zero, List.set_cons_succ]
      refine hK.out _ _ trivial (fun hH' => ?_)
      clear hK K
      replace hH := hH'
      clear hH' 
      refine wpAnyH_take (i := 12) (oi := { dst := some 16, op := Op.nilCheck (Operand.tmp 4), type := 0, pos := "l16_texture.go:282", after := #[{ on := 0, ground := Ground.data }, { on := 0, ground := Ground.phase }, { on := 1, ground := Ground.phase }, { on := 2, ground := Ground.phase }, { on := 3, ground := Ground.phase }, { on := 4, ground := Ground.phase }, { on := 5, ground := Ground.phase }, { on := 6, ground := Ground.phase }, { on := 7, ground := Ground.phase }, { on := 8, ground := Ground.phase }, { on := 9, ground := Ground.phase }, { on := 10, ground := Ground.phase }, { on := 11, ground := Ground.phase }], guard := none }) (v := .pointer (some ⟨pb, 0, none⟩)) rfl (by kernel_rfl) (by kernel_rfl) (by kernel_rfl) (fun _ _ _ h => h) (Or.inl ⟨by rfl, fun w0 hSw => by (go_simp)⟩) hH ?_
      simp only [Act.put, List.setIfInBounds_toArray, List.set_cons_zero, List.set_cons_succ]
      refine wpAnyH_take (i := 13) (oi := { dst := some 17, op := Op.fieldAddr 81 (Operand.tmp 16) 3, type := 0, pos := "l16_texture.go:282", after := #[{ on := 12, ground := Ground.data }, { on := 0, ground := Ground.phase }, { on := 1, ground := Ground.phase }, { on := 2, ground := Ground.phase }, { on := 3, ground := Ground.phase }, { on := 4, ground := Ground.phase }, { on := 5, ground := Ground.phase }, { on := 6, ground := Ground.phase }, { on := 7, ground := Ground.phase }, { on := 8, ground := Ground.phase }, { on := 9, ground := Ground.phase }, { on := 10, ground := Ground.phase }, { on := 11, ground := Ground.phase }], guard := none }) (v := .pointer (some ⟨pb, 3, none⟩)) rfl (by kernel_rfl) (by kernel_rfl) (by kernel_rfl) (fun _ _ _ h => h) (Or.inl ⟨by rfl, fun w0 hSw => by (go_simp)⟩) hH ?_
      simp only [Act.put, List.setIfInBounds_toArray, List.set_cons_zero, List.set_cons_succ]
      refine wpAnyH_ready (rs := [14]) (by kernel_rfl) (by simp) ?_
      refine (AllReadyH.cons (o := { dst := none, op := Op.store 28 (Operand.tmp 17) (Operand.tmp 15), type := 0, pos := "l16_texture.go:282", after := #[{ on := 13, ground := Ground.data }, { on := 11, ground := Ground.data }, { on := 11, ground := Ground.chain }, { on := 0, ground := Ground.phase }, { on := 1, ground := Ground.phase }, { on := 2, ground := Ground.phase }, { on := 3, ground := Ground.phase }, { on := 4, ground := Ground.phase }, { on := 5, ground := Ground.phase }, { on := 6, ground := Ground.phase }, { on := 7, ground := Ground.phase }, { on := 8, ground := Ground.phase }, { on := 9, ground := Ground.phase }, { on := 10, ground := Ground.phase }, { on := 11, ground := Ground.phase }], guard := none }) rfl (fun K hK => ?_) AllReadyH.nil)
      refine step_skip (wa.setCell ⟨pb, 3, none⟩ (.slice (some ⟨g, 0, none⟩) nl cap)) (by rfl) (by (have e0 := TP.c3); (have ef := TP.f); go_simp) ?_
      have TS := TP.s3 (.slice (some ⟨g, 0, none⟩) nl cap)
      have OS := (Only.refl pb wa).setCell 3 (.slice (some ⟨g, 0, none⟩) nl cap)
      have YS := YN.grown (only_grown OS) (Or.inr (by have := (YN.lt g rfl).1; simp [Value.ownBlock]; omega))
      have BS := BW.trans (OS.below (Nat.le_refl _) (by have := TP.hi; omega))
      clear TP YN OS BW
      refine hK.out _ _ trivial (fun hH' => ?_)
      clear hK K
      replace hH := hH'
      clear hH' 
      refine wpAnyH_done (by kernel_rfl) ?_ _
      go_wp2
      go_end0
      exact ⟨rfl, _, TS, YS, BS⟩
    · refine step_val (.iface 100 (.agg #[])) WX (by rfl) (by (have e0 := TP.c2); go_simp) ?_
      simp only [Act.put, List.setIfInBounds_toArray, List.set_cons_zero, List.set_cons_succ]
      refine hK.out _ _ trivial (fun hH' => ?_)
      clear hK K
      replace hH := hH'
      clear hH' 
      refine wpAnyH_ready (rs := [4, 10]) (by kernel_rfl) (by simp) ?_
      refine (AllReadyH.cons (o := { dst := some 8, op := Op.load 28 (Operand.tmp 7), type := 28, pos := "l16_texture.go:282", after := #[{ on := 3, ground := Ground.data }], guard := none }) rfl (fun K hK => ?_) (AllReadyH.cons (o := { dst := some 14, op := Op.call { callee := Callee.invoke (Operand.tmp 12) "loop.example/g00053/impl.pack", args := #[Operand.tmp 13], argTypes := #[25] }, type := 28, pos := "l16_texture.go:282", after := #[{ on := 8, ground := Ground.data }, { on := 9, ground := Ground.data }], guard := none }) rfl (fun K hK => ?_) AllReadyH.nil))
      · refine step_val (.slice a M.length cp) WX (by rfl) (by (have e0 := TP.c3); go_simp) ?_
        simp only [Act.put, List.setIfInBounds_toArray, List.set_cons_zero, List.set_cons_succ]
        refine hK.out _ _ trivial (fun hH' => ?_)
        clear hK K
        replace hH := hH'
        clear hH' 
        refine wpAnyH_ready (rs := [10]) (by kernel_rfl) (by simp) ?_
        refine (AllReadyH.cons (o := { dst := some 14, op := Op.call { callee := Callee.invoke (Operand.tmp 12) "loop.example/g00053/impl.pack", args := #[Operand.tmp 13], argTypes := #[25] }, type := 28, pos := "l16_texture.go:282", after := #[{ on := 8, ground := Ground.data }, { on := 9, ground := Ground.data }], guard := none }) rfl (fun K hK => ?_) AllReadyH.nil)
        refine step_callC 112 #[.agg #[], .agg #[.int .i64 c.r, .int .i64 c.g, .int .i64 c.b, .int .i64 c.a]] (fun z v w' => BOwn v.heap.size w' z LP ∧ Below v.heap.size v w') (by rfl) (by go_simp) ((HPK.out _).mono fun e w' ⟨u, h1, h2, h3⟩ => ⟨u, h1, h2, h3⟩) ?_
        rintro zc wc ⟨BO, Bc⟩
        replace BW := BW.trans (Bc.mono (Nat.le_of_lt TP.hi))
        replace TP := TP.next Bc
        replace TK := TK.next Bc
        replace YM := YM.next Bc
        clear Bc
        simp only [Act.put, List.setIfInBounds_toArray, List.set_cons_zero, List.set_cons_succ]
        refine hK.out _ _ trivial (fun hH' => ?_)
        clear hK K
        replace hH := hH'
        clear hH' 
        refine wpAnyH_ready (rs := [11]) (by kernel_rfl) (by simp) ?_
        refine (AllReadyH.cons (o := { dst := some 15, op := Op.call { callee := Callee.builtin Builtin.append, args := #[Operand.tmp 8, Operand.tmp 14], argTypes := #[28, 28] }, type := 28, pos := "l16_texture.go:282", after := #[{ on := 4, ground := Ground.data }, { on := 10, ground := Ground.data }, { on := 10, ground := Ground.chain }], guard := none }) rfl (fun K hK => ?_) AllReadyH.nil)
        obtain ⟨g, cap, wa, hra, YN, hga⟩ := run_append_y8 (ty := 28) YM BO (by have := HLP.out; omega) (by have := HLP.out; omega)
        obtain ⟨nl, hnl⟩ : ∃ z, (M ++ LP).length = z := ⟨_, rfl⟩
        rw [hnl] at hra YN
        clear hnl
        refine step_app (.tmp 8) (.tmp 14) 28 _ _ _ wa (by rfl) (by rfl) (by rfl) (by rfl) hra ?_
        have Ba : Below B wc wa := below_grown (Below.refl _ _) YM.2 hga (fun q hq => (YM.lt q hq).1)
        replace TP := TP.low Ba hpb
        replace BW := BW.trans (Ba.mono (by omega))
        clear YM hga hra Ba TK BO
        simp only [Act.put, List.setIfInBounds_toArray, List.set_cons_zero, List.set_cons_succ]
        refine hK.out _ _ trivial (fun hH' => ?_)
        clear hK K
        replace hH := hH'
        clear hH' 
        refine wpAnyH_take (i := 12) (oi := { dst := some 16, op := Op.nilCheck (Operand.tmp 4), type := 0, pos := "l16_texture.go:282", after := #[{ on := 0, ground := Ground.data }, { on := 0, ground := Ground.phase }, { on := 1, ground := Ground.phase }, { on := 2, ground := Ground.phase }, { on := 3, ground := Ground.phase }, { on := 4, ground := Ground.phase }, { on := 5, ground := Ground.phase }, { on := 6, ground := Ground.phase }, { on := 7, ground := Ground.phase }, { on := 8, ground := Ground.phase }, { on := 9, ground := Ground.phase }, { on := 10, ground := Ground.phase }, { on := 11, ground := Ground.phase }], guard := none }) (v := .pointer (some ⟨pb, 0, none⟩)) rfl (by kernel_rfl) (by kernel_rfl) (by kernel_rfl) (fun _ _ _ h => h) (Or.inl ⟨by rfl, fun w0 hSw => by (go_simp)⟩) hH ?_
        simp only [Act.put, List.setIfInBounds_toArray, List.set_cons_zero, List.set_cons_succ]
        refine wpAnyH_take (i := 13) (oi := { dst := some 17, op := Op.fieldAddr 81 (Operand.tmp 16) 3, type := 0, pos := "l16_texture.go:282", after := #[{ on := 12, ground := Ground.data }, { on := 0, ground := Ground.phase }, { on := 1, ground := Ground.phase }, { on := 2, ground := Ground.phase }, { on := 3, ground := Ground.phase }, { on := 4, ground := Ground.phase }, { on := 5, ground := Ground.phase }, { on := 6, ground := Ground.phase }, { on := 7, ground := Ground.phase }, { on := 8, ground := Ground.phase }, { on := 9, ground := Ground.phase }, { on := 10, ground := Ground.phase }, { on := 11, ground := Ground.phase }], guard := none }) (v := .pointer (some ⟨pb, 3, none⟩)) rfl (by kernel_rfl) (by kernel_rfl) (by kernel_rfl) (fun _ _ _ h => h) (Or.inl ⟨by rfl, fun w0 hSw => by (go_simp)⟩) hH ?_
        simp only [Act.put, List.setIfInBounds_toArray, List.set_cons_zero, List.set_cons_succ]
        refine wpAnyH_ready (rs := [14]) (by kernel_rfl) (by simp) ?_
        refine (AllReadyH.cons (o := { dst := none, op := Op.store 28 (Operand.tmp 17) (Operand.tmp 15), type := 0, pos := "l16_texture.go:282", after := #[{ on := 13, ground := Ground.data }, { on := 11, ground := Ground.data }, { on := 11, ground := Ground.chain }, { on := 0, ground := Ground.phase }, { on := 1, ground := Ground.phase }, { on := 2, ground := Ground.phase }, { on := 3, ground := Ground.phase }, { on := 4, ground := Ground.phase }, { on := 5, ground := Ground.phase }, { on := 6, ground := Ground.phase }, { on := 7, ground := Ground.phase }, { on := 8, ground := Ground.phase }, { on := 9, ground := Ground.phase }, { on := 10, ground := Ground.phase }, { on := 11, ground := Ground.phase }], guard := none }) rfl (fun K hK => ?_) AllReadyH.nil)
        refine step_skip (wa.setCell ⟨pb, 3, none⟩ (.slice (some ⟨g, 0, none⟩) nl cap)) (by rfl) (by (have e0 := TP.c3); (have ef := TP.f); go_simp) ?_
        have TS := TP.s3 (.slice (some ⟨g, 0, none⟩) nl cap)
        have OS := (Only.refl pb wa).setCell 3 (.slice (some ⟨g, 0, none⟩) nl cap)
        have YS := YN.grown (only_grown OS) (Or.inr (by have := (YN.lt g rfl).1; simp [Value.ownBlock]; omega))
        have BS := BW.trans (OS.below (Nat.le_refl _) (by have := TP.hi; omega))
        clear TP YN OS BW
        refine hK.out _ _ trivial (fun hH' => ?_)
        clear hK K
        replace hH := hH'
        clear hH' 
        refine wpAnyH_done (by kernel_rfl) ?_ _
        go_wp2
        go_end0
        exact ⟨rfl, _, TS, YS, BS⟩
      · refine step_callC 112 #[.agg #[], .agg #[.int .i64 c.r, .int .i64 c.g, .int .i64 c.b, .int .i64 c.a]] (fun z v w' => BOwn v.heap.size w' z LP ∧ Below v.heap.size v w') (by rfl) (by go_simp) ((HPK.out _).mono fun e w' ⟨u, h1, h2, h3⟩ => ⟨u, h1, h2, h3⟩) ?_
        rintro zc wc ⟨BO, Bc⟩
        replace BW := BW.trans (Bc.mono (Nat.le_of_lt TP.hi))
        replace TP := TP.next Bc
        replace TK := TK.next Bc
        replace YM := YM.next Bc
        clear Bc
        simp only [Act.put, List.setIfInBounds_toArray, List.set_cons_zero, List.set_cons_succ]
        refine hK.out _ _ trivial (fun hH' => ?_)
        clear hK K
        replace hH := hH'
        clear hH' 
        refine wpAnyH_ready (rs := [4]) (by kernel_rfl) (by simp) ?_
        refine (AllReadyH.cons (o := { dst := some 8, op := Op.load 28 (Operand.tmp 7), type := 28, pos := "l16_texture.go:282", after := #[{ on := 3, ground := Ground.data }], guard := none }) rfl (fun K hK => ?_) AllReadyH.nil)
        refine step_val (.slice a M.length cp) wc (by rfl) (by (have e0 := TP.c3); go_simp) ?_
        simp only [Act.put, List.setIfInBounds_toArray, List.set_cons_zero, List.set_cons_succ]
        refine hK.out _ _ trivial (fun hH' => ?_)
        clear hK K
        replace hH := hH'
        clear hH' 
        refine wpAnyH_ready (rs := [11]) (by kernel_rfl) (by simp) ?_
        refine (AllReadyH.cons (o := { dst := some 15, op := Op.call { callee := Callee.builtin Builtin.append, args := #[Operand.tmp 8, Operand.tmp 14], argTypes := #[28, 28] }, type := 28, pos := "l16_texture.go:282", after := #[{ on := 4, ground := Ground.data }, { on := 10, ground := Ground.data }, { on := 10, ground := Ground.chain }], guard := none }) rfl (fun K hK => ?_) AllReadyH.nil)
        obtain ⟨g, cap, wa, hra, YN, hga⟩ := run_append_y8 (ty := 28) YM BO (by have := HLP.out; omega) (by have := HLP.out; omega)
        obtain ⟨nl, hnl⟩ : ∃ z, (M ++ LP).length = z := ⟨_, rfl⟩
        rw [hnl] at hra YN
        clear hnl
        refine step_app (.tmp 8) (.tmp 14) 28 _ _ _ wa (by rfl) (by rfl) (by rfl) (by rfl) hra ?_
        have Ba : Below B wc wa := below_grown (Below.refl _ _) YM.2 hga (fun q hq => (YM.lt q hq).1)
        replace TP := TP.low Ba hpb
        replace BW := BW.trans (Ba.mono (by omega))
        clear YM hga hra Ba TK BO
        simp only [Act.put, List.setIfInBounds_toArray, List.set_cons_zero, List.set_cons_succ]
        refine hK.out _ _ trivial (fun hH' => ?_)
        clear hK K
        replace hH := hH'
        clear hH' 
        refine wpAnyH_take (i := 12) (oi := { dst := some 16, op := Op.nilCheck (Operand.tmp 4), type := 0, pos := "l16_texture.go:282", after := #[{ on := 0, ground := Ground.data }, { on := 0, ground := Ground.phase }, { on := 1, ground := Ground.phase }, { on := 2, ground := Ground.phase }, { on := 3, ground := Ground.phase }, { on := 4, ground := Ground.phase }, { on := 5, ground := Ground.phase }, { on := 6, ground := Ground.phase }, { on := 7, ground := Ground.phase }, { on := 8, ground := Ground.phase }, { on := 9, ground := Ground.phase }, { on := 10, ground := Ground.phase }, { on := 11, ground := Ground.phase }], guard := none }) (v := .pointer (some ⟨pb, 0, none⟩)) rfl (by kernel_rfl) (by kernel_rfl) (by kernel_rfl) (fun _ _ _ h => h) (Or.inl ⟨by rfl, fun w0 hSw => by (go_simp)⟩) hH ?_
        simp only [Act.put, List.setIfInBounds_toArray, List.set_cons_zero, List.set_cons_succ]
        refine wpAnyH_take (i := 13) (oi := { dst := some 17, op := Op.fieldAddr 81 (Operand.tmp 16) 3, type := 0, pos := "l16_texture.go:282", after := #[{ on := 12, ground := Ground.data }, { on := 0, ground := Ground.phase }, { on := 1, ground := Ground.phase }, { on := 2, ground := Ground.phase }, { on := 3, ground := Ground.phase }, { on := 4, ground := Ground.phase }, { on := 5, ground := Ground.phase }, { on := 6, ground := Ground.phase }, { on := 7, ground := Ground.phase }, { on := 8, ground := Ground.phase }, { on := 9, ground := Ground.phase }, { on := 10, ground := Ground.phase }, { on := 11, ground := Ground.phase }], guard := none }) (v := .pointer (some ⟨pb, 3, none⟩)) rfl (by kernel_rfl) (by kernel_rfl) (by kernel_rfl) (fun _ _ _ h => h) (Or.inl ⟨by rfl, fun w0 hSw => by (go_simp)⟩) hH ?_
        simp only [Act.put, List.setIfInBounds_toArray, List.set_cons_zero, List.set_cons_succ]
        refine wpAnyH_ready (rs := [14]) (by kernel_rfl) (by simp) ?_
        refine (AllReadyH.cons (o := { dst := none, op := Op.store 28 (Operand.tmp 17) (Operand.tmp 15), type := 0, pos := "l16_texture.go:282", after := #[{ on := 13, ground := Ground.data }, { on := 11, ground := Ground.data }, { on := 11, ground := Ground.chain }, { on := 0, ground := Ground.phase }, { on := 1, ground := Ground.phase }, { on := 2, ground := Ground.phase }, { on := 3, ground := Ground.phase }, { on := 4, ground := Ground.phase }, { on := 5, ground := Ground.phase }, { on := 6, ground := Ground.phase }, { on := 7, ground := Ground.phase }, { on := 8, ground := Ground.phase }, { on := 9, ground := Ground.phase }, { on := 10, ground := Ground.phase }, { on := 11, ground := Ground.phase }], guard := none }) rfl (fun K hK => ?_) AllReadyH.nil)
        refine step_skip (wa.setCell ⟨pb, 3, none⟩ (.slice (some ⟨g, 0, none⟩) nl cap)) (by rfl) (by (have e0 := TP.c3); (have ef := TP.f); go_simp) ?_
        have TS := TP.s3 (.slice (some ⟨g, 0, none⟩) nl cap)
        have OS := (Only.refl pb wa).setCell 3 (.slice (some ⟨g, 0, none⟩) nl cap)
        have YS := YN.grown (only_grown OS) (Or.inr (by have := (YN.lt g rfl).1; simp [Value.ownBlock]; omega))
        have BS := BW.trans (OS.below (Nat.le_refl _) (by have := TP.hi; omega))
        clear TP YN OS BW
        refine hK.out _ _ trivial (fun hH' => ?_)
        clear hK K
        replace hH := hH'
        clear hH' 
        refine wpAnyH_done (by kernel_rfl) ?_ _
        go_wp2
        go_end0
        exact ⟨rfl, _, TS, YS, BS⟩
theorem padd (l : Int) (hf : l = 1 ∨ l = 2 ∨ l = 3) (A H : Int) (c : Col) (hc : c.ok) (pb B : Nat) (v : Value) (M : List Int) (w : World) (TP : C4 w pb (.int .i64 A) (.int .i64 H) (fmV l) v) (YM : Y8 B w v M) (hpb : pb < B) (hM : M.length ≤ 90000) : Calls Try.prog 57 #[.pointer (some ⟨pb, 0, none⟩), colV c] w fun e w' => e = .returned (.tuple #[]) ∧ ∃ v', C4 w' pb (.int .i64 A) (.int .i64 H) (fmV l) v' ∧ Y8 B w' v' (M ++ pkK l c) ∧ Below pb w w' := by
  rcases hf with rfl | rfl | rfl
  · exact padd1 A H c hc pb B v M w TP YM hpb hM
  · exact padd2 A H c hc pb B v M w TP YM hpb hM
  · exact padd3 A H c hc pb B v M w TP YM hpb hM
end Go.Proofs.Ythkngcdfnemhaaa
