/- Depths: the program. -/
import Derived.Test.YtglhlpbaaoekgaaCk
namespace Go.Proofs.Ytglhlpbaaoekgaa
open Go.ChangeShapes Go.WideShapes Go.ChangeAt Go.RowKit
set_option linter.unusedVariables false
set_option maxRecDepth 100000 in
set_option maxHeartbeats 16000000 in
theorem pdepth (ux uy uz vx vy vz sx sy sz a0 x y : Int) (w : World) (q1 : ptB ux uy = true) (q2 : ptB vx vy = true) (q3 : ptB sx sy = true) (z1 : inZ uz = true) (z2 : inZ vz = true) (z3 : inZ sz = true) (hx : ptB x y = true) (ha : 0 < a0 ∧ a0 ≤ 134217728) : Calls Try.prog 67 #[.agg #[.int .i64 ux, .int .i64 uy, .int .i64 uz, .int .i64 vx, .int .i64 vy, .int .i64 vz, .int .i64 sx, .int .i64 sy, .int .i64 sz, .int .i64 vx, .int .i64 vy, .int .i64 vz, .int .i64 sx, .int .i64 sy, .int .i64 sz, .int .i64 sx, .int .i64 sy, .int .i64 sz, .int .i64 ux, .int .i64 uy, .int .i64 uz, .int .i64 ux, .int .i64 uy, .int .i64 uz, .int .i64 vx, .int .i64 vy, .int .i64 vz, .int .i64 a0], .int .i64 x, .int .i64 y] w fun e w' => e = .returned (.int .i64 ((uz * nmI vx vy sx sy x y + vz * nmI sx sy ux uy x y + sz * nmI ux uy vx vy x y) / a0)) ∧ Below w.heap.size w w' := by
  have HN0 : Hid (∀ w', Calls Try.prog 60 #[.agg #[.int .i64 vx, .int .i64 vy, .int .i64 vz, .int .i64 sx, .int .i64 sy, .int .i64 sz], .int .i64 x, .int .i64 y] w' fun e w'' => e = .returned (.int .i64 (nmI vx vy sx sy x y)) ∧ Below w'.heap.size w' w'') := fun w' => pnum _ _ _ _ _ _ _ _ w' q2 q3 hx
  have b0 := nm_bnd q2 q3 hx
  have c0 := zn_bnd z1 b0
  have HN1 : Hid (∀ w', Calls Try.prog 60 #[.agg #[.int .i64 sx, .int .i64 sy, .int .i64 sz, .int .i64 ux, .int .i64 uy, .int .i64 uz], .int .i64 x, .int .i64 y] w' fun e w'' => e = .returned (.int .i64 (nmI sx sy ux uy x y)) ∧ Below w'.heap.size w' w'') := fun w' => pnum _ _ _ _ _ _ _ _ w' q3 q1 hx
  have b1 := nm_bnd q3 q1 hx
  have c1 := zn_bnd z2 b1
  have HN2 : Hid (∀ w', Calls Try.prog 60 #[.agg #[.int .i64 ux, .int .i64 uy, .int .i64 uz, .int .i64 vx, .int .i64 vy, .int .i64 vz], .int .i64 x, .int .i64 y] w' fun e w'' => e = .returned (.int .i64 (nmI ux uy vx vy x y)) ∧ Below w'.heap.size w' w'') := fun w' => pnum _ _ _ _ _ _ _ _ w' q1 q2 hx
  have b2 := nm_bnd q1 q2 hx
  have c2 := zn_bnd z3 b2
  generalize nmI vx vy sx sy x y = n0 at HN0 b0 c0 ⊢
  obtain ⟨t0, ht0⟩ : ∃ t, uz * n0 = t := ⟨_, rfl⟩
  rw [ht0] at c0
  have m0 : IntKind.i64.wrap (uz * n0) = t0 := by rw [ht0]; exact (IntKind.wrap_i64 _).trans (by omega)
  rw [ht0]
  clear ht0
  generalize nmI sx sy ux uy x y = n1 at HN1 b1 c1 ⊢
  obtain ⟨t1, ht1⟩ : ∃ t, vz * n1 = t := ⟨_, rfl⟩
  rw [ht1] at c1
  have m1 : IntKind.i64.wrap (vz * n1) = t1 := by rw [ht1]; exact (IntKind.wrap_i64 _).trans (by omega)
  rw [ht1]
  clear ht1
  generalize nmI ux uy vx vy x y = n2 at HN2 b2 c2 ⊢
  obtain ⟨t2, ht2⟩ : ∃ t, sz * n2 = t := ⟨_, rfl⟩
  rw [ht2] at c2
  have m2 : IntKind.i64.wrap (sz * n2) = t2 := by rw [ht2]; exact (IntKind.wrap_i64 _).trans (by omega)
  rw [ht2]
  clear ht2
  have k0 : IntKind.i64.wrap t0 = t0 := (IntKind.wrap_i64 _).trans (by omega)
  have k1 : IntKind.i64.wrap (t0 + t1) = t0 + t1 := (IntKind.wrap_i64 _).trans (by omega)
  have k2 : IntKind.i64.wrap (t0 + t1 + t2) = t0 + t1 + t2 := (IntKind.wrap_i64 _).trans (by omega)
  have HQ := Hid.mk (fun w' : World => pquot (t0 + t1 + t2) a0 w' ⟨ha.1, by omega⟩ (by omega))
  obtain ⟨V0, hV0⟩ : ∃ v, (t0 + t1 + t2) / a0 = v := ⟨_, rfl⟩
  have HV : Hid ((t0 + t1 + t2) / a0 = V0) := hV0
  rw [hV0]
  clear hV0 q1 q2 q3 z1 z2 z3 hx b0 b1 b2 c0 c1 c2 ha
  have HX0 : Hid (Own (w.alloc (.cells #[.int .i64 ux, .int .i64 uy, .int .i64 uz, .int .i64 vx, .int .i64 vy, .int .i64 vz, .int .i64 sx, .int .i64 sy, .int .i64 sz, .int .i64 vx, .int .i64 vy, .int .i64 vz, .int .i64 sx, .int .i64 sy, .int .i64 sz, .int .i64 sx, .int .i64 sy, .int .i64 sz, .int .i64 ux, .int .i64 uy, .int .i64 uz, .int .i64 ux, .int .i64 uy, .int .i64 uz, .int .i64 vx, .int .i64 vy, .int .i64 vz, .int .i64 a0] 84)) w.heap.size 28 (fun i => #[.int .i64 ux, .int .i64 uy, .int .i64 uz, .int .i64 vx, .int .i64 vy, .int .i64 vz, .int .i64 sx, .int .i64 sy, .int .i64 sz, .int .i64 vx, .int .i64 vy, .int .i64 vz, .int .i64 sx, .int .i64 sy, .int .i64 sz, .int .i64 sx, .int .i64 sy, .int .i64 sz, .int .i64 ux, .int .i64 uy, .int .i64 uz, .int .i64 ux, .int .i64 uy, .int .i64 uz, .int .i64 vx, .int .i64 vy, .int .i64 vz, .int .i64 a0].getD i undef)) := own_lit w #[.int .i64 ux, .int .i64 uy, .int .i64 uz, .int .i64 vx, .int .i64 vy, .int .i64 vz, .int .i64 sx, .int .i64 sy, .int .i64 sz, .int .i64 vx, .int .i64 vy, .int .i64 vz, .int .i64 sx, .int .i64 sy, .int .i64 sz, .int .i64 sx, .int .i64 sy, .int .i64 sz, .int .i64 ux, .int .i64 uy, .int .i64 uz, .int .i64 ux, .int .i64 uy, .int .i64 uz, .int .i64 vx, .int .i64 vy, .int .i64 vz, .int .i64 a0] 84 28 rfl
  have HB0 : Hid (Below w.heap.size w (w.alloc (.cells #[.int .i64 ux, .int .i64 uy, .int .i64 uz, .int .i64 vx, .int .i64 vy, .int .i64 vz, .int .i64 sx, .int .i64 sy, .int .i64 sz, .int .i64 vx, .int .i64 vy, .int .i64 vz, .int .i64 sx, .int .i64 sy, .int .i64 sz, .int .i64 sx, .int .i64 sy, .int .i64 sz, .int .i64 ux, .int .i64 uy, .int .i64 uz, .int .i64 ux, .int .i64 uy, .int .i64 uz, .int .i64 vx, .int .i64 vy, .int .i64 vz, .int .i64 a0] 84))) := alloc_b
  go_enter Try.func67, Try.ntmps67
  go_wp2
  go_loopw [7, 12] (fun s i wr => ∃ k : Nat, k ≤ 3 ∧ s = .int .i64 (match k with | 0 => 0 | 1 => t0 | 2 => t0 + t1 | _ => t0 + t1 + t2) ∧ i = .int .i64 k ∧ Hid (Own wr w.heap.size 28 (fun i => #[.int .i64 ux, .int .i64 uy, .int .i64 uz, .int .i64 vx, .int .i64 vy, .int .i64 vz, .int .i64 sx, .int .i64 sy, .int .i64 sz, .int .i64 vx, .int .i64 vy, .int .i64 vz, .int .i64 sx, .int .i64 sy, .int .i64 sz, .int .i64 sx, .int .i64 sy, .int .i64 sz, .int .i64 ux, .int .i64 uy, .int .i64 uz, .int .i64 ux, .int .i64 uy, .int .i64 uz, .int .i64 vx, .int .i64 vy, .int .i64 vz, .int .i64 a0].getD i undef)) ∧ Hid (Below w.heap.size w wr)) (fun _ i _ => 3 - (intOf i).toNat)
  case atStart => exact ⟨0, by omega, rfl, rfl, HX0.out, HB0.out⟩
  case round =>
    obtain ⟨k, hk, rfl, rfl, HX, HB⟩ := hrel
    clear HX0 HB0
    have hk2 : k = 0 ∨ k = 1 ∨ k = 2 ∨ k = 3 := by omega
    rcases hk2 with rfl | rfl | rfl | rfl
    · skip
      have hix : ∀ w' : World, (Instr.index 79 (.agg #[.int .i64 ux, .int .i64 uy, .int .i64 uz, .int .i64 vx, .int .i64 vy, .int .i64 vz, .int .i64 sx, .int .i64 sy, .int .i64 sz]) (.int .i64 0)).run Try.prog w' = .ok (.agg #[.int .i64 ux, .int .i64 uy, .int .i64 uz]) w' := fun _ => by kernel_rfl
      go_upto_region 5 with fail
      have X := HX.out.next (alloc_b (o := .cells #[.int .i64 ux, .int .i64 uy, .int .i64 uz] 24))
      have BX := HB.out.alloc HB.out.size (.cells #[.int .i64 ux, .int .i64 uy, .int .i64 uz] 24)
      have KC := C3.new wr 24 (.int .i64 ux) (.int .i64 uy) (.int .i64 uz)
      obtain ⟨gc, hgc⟩ : ∃ g, wr.heap.size = g := ⟨_, rfl⟩
      rw [hgc] at KC ⊢
      generalize wr.alloc (.cells #[.int .i64 ux, .int .i64 uy, .int .i64 uz] 24) = wA at X BX KC ⊢
      clear hgc HX HB
      generalize hWW : wA.drew = WX
      have X := X.next (below_drew (Below.refl _ _))
      have KC := KC.next (below_drew (Below.refl _ _))
      have BX := below_drew BX
      rw [hWW] at X BX KC
      refine wp_region_held_drew (S := fun v => Below WX.heap.size WX v) (by kernel_rfl) (by rw [hWW]; exact Below.refl _ _) (fun hH => ?_)
      rw [hWW] at hH ⊢
      clear hWW
      refine wpAnyH_take (i := 0) (oi := { dst := some 16, op := Op.move (Operand.tmp 7), type := 3, pos := "l17_raster.go:192", after := #[], guard := none }) (v := .int .i64 0) rfl (by kernel_rfl) (by kernel_rfl) (by kernel_rfl) (fun _ _ _ h => h) (Or.inl ⟨by rfl, fun w0 hSw => by (go_simp)⟩) hH ?_
      simp only [Act.put, List.setIfInBounds_toArray, List.set_cons_zero, List.set_cons_succ]
      refine wpAnyH_take (i := 1) (oi := { dst := some 17, op := Op.fieldAddr 24 (Operand.tmp 9) 2, type := 0, pos := "l17_raster.go:192", after := #[], guard := none }) (v := .pointer (some ⟨gc, 2, none⟩)) rfl (by kernel_rfl) (by kernel_rfl) (by kernel_rfl) (fun _ _ _ h => h) (Or.inl ⟨by rfl, fun w0 hSw => by (go_simp)⟩) hH ?_
      simp only [Act.put, List.setIfInBounds_toArray, List.set_cons_zero, List.set_cons_succ]
      refine wpAnyH_take (i := 2) (oi := { dst := some 18, op := Op.load 3 (Operand.tmp 17), type := 3, pos := "l17_raster.go:192", after := #[{ on := 1, ground := Ground.data }], guard := none }) (v := .int .i64 uz) rfl (by kernel_rfl) (by kernel_rfl) (by kernel_rfl) (fun _ _ _ h => h) (Or.inl ⟨by rfl, fun w0 hSw => by ((have e9 := cell_nx KC.c2 hSw); go_simp)⟩) hH ?_
      simp only [Act.put, List.setIfInBounds_toArray, List.set_cons_zero, List.set_cons_succ]
      refine wpAnyH_take (i := 3) (oi := { dst := some 19, op := Op.move (Operand.tmp 8), type := 3, pos := "l17_raster.go:192", after := #[], guard := none }) (v := .int .i64 0) rfl (by kernel_rfl) (by kernel_rfl) (by kernel_rfl) (fun _ _ _ h => h) (Or.inl ⟨by rfl, fun w0 hSw => by (go_simp)⟩) hH ?_
      simp only [Act.put, List.setIfInBounds_toArray, List.set_cons_zero, List.set_cons_succ]
      refine wpAnyH_take (i := 4) (oi := { dst := some 20, op := Op.fieldAddr 84 (Operand.tmp 3) 1, type := 0, pos := "l17_raster.go:192", after := #[], guard := none }) (v := .pointer (some ⟨w.heap.size, 9, none⟩)) rfl (by kernel_rfl) (by kernel_rfl) (by kernel_rfl) (fun _ _ _ h => h) (Or.inl ⟨by rfl, fun w0 hSw => by (go_simp)⟩) hH ?_
      simp only [Act.put, List.setIfInBounds_toArray, List.set_cons_zero, List.set_cons_succ]
      refine wpAnyH_take (i := 5) (oi := { dst := some 21, op := Op.indexAddr 82 (Operand.tmp 20) (Operand.tmp 19), type := 0, pos := "l17_raster.go:192", after := #[{ on := 4, ground := Ground.data }, { on := 3, ground := Ground.data }], guard := none }) (v := .pointer (some ⟨w.heap.size, 9, none⟩)) rfl (by kernel_rfl) (by kernel_rfl) (by kernel_rfl) (fun _ _ _ h => h) (Or.inl ⟨by rfl, fun w0 hSw => by (go_simp)⟩) hH ?_
      simp only [Act.put, List.setIfInBounds_toArray, List.set_cons_zero, List.set_cons_succ]
      refine wpAnyH_take (i := 6) (oi := { dst := some 22, op := Op.load 81 (Operand.tmp 21), type := 81, pos := "l17_raster.go:192", after := #[{ on := 5, ground := Ground.data }], guard := none }) (v := .agg #[.int .i64 vx, .int .i64 vy, .int .i64 vz, .int .i64 sx, .int .i64 sy, .int .i64 sz]) rfl (by kernel_rfl) (by kernel_rfl) (by kernel_rfl) (fun _ _ _ h => h) (Or.inl ⟨by rfl, fun w0 hSw => by ((have e0 := cell_nx (X.cell 9 (by decide) : _ = some (.int .i64 vx)) hSw); (have e1 := cell_nx (X.cell 10 (by decide) : _ = some (.int .i64 vy)) hSw); (have e2 := cell_nx (X.cell 11 (by decide) : _ = some (.int .i64 vz)) hSw); (have e3 := cell_nx (X.cell 12 (by decide) : _ = some (.int .i64 sx)) hSw); (have e4 := cell_nx (X.cell 13 (by decide) : _ = some (.int .i64 sy)) hSw); (have e5 := cell_nx (X.cell 14 (by decide) : _ = some (.int .i64 sz)) hSw); go_simp)⟩) hH ?_
      simp only [Act.put, List.setIfInBounds_toArray, List.set_cons_zero, List.set_cons_succ]
      refine wpAnyH_take (i := 7) (oi := { dst := some 23, op := Op.move (Operand.tmp 1), type := 3, pos := "l17_raster.go:192", after := #[], guard := none }) (v := .int .i64 x) rfl (by kernel_rfl) (by kernel_rfl) (by kernel_rfl) (fun _ _ _ h => h) (Or.inl ⟨by rfl, fun w0 hSw => by (go_simp)⟩) hH ?_
      simp only [Act.put, List.setIfInBounds_toArray, List.set_cons_zero, List.set_cons_succ]
      refine wpAnyH_take (i := 8) (oi := { dst := some 24, op := Op.move (Operand.tmp 2), type := 3, pos := "l17_raster.go:192", after := #[], guard := none }) (v := .int .i64 y) rfl (by kernel_rfl) (by kernel_rfl) (by kernel_rfl) (fun _ _ _ h => h) (Or.inl ⟨by rfl, fun w0 hSw => by (go_simp)⟩) hH ?_
      simp only [Act.put, List.setIfInBounds_toArray, List.set_cons_zero, List.set_cons_succ]
      refine wpAnyH_ready (rs := [9]) (by kernel_rfl) (by simp) ?_
      refine (AllReadyH.cons (o := { dst := some 25, op := Op.call { callee := Callee.value (Operand.func 60), args := #[Operand.tmp 22, Operand.tmp 23, Operand.tmp 24], argTypes := #[81, 3, 3] }, type := 3, pos := "l17_raster.go:192", after := #[{ on := 6, ground := Ground.data }, { on := 7, ground := Ground.data }, { on := 8, ground := Ground.data }], guard := none }) rfl (fun K hK => ?_) AllReadyH.nil)
      refine step_callW 60 #[.agg #[.int .i64 vx, .int .i64 vy, .int .i64 vz, .int .i64 sx, .int .i64 sy, .int .i64 sz], .int .i64 x, .int .i64 y] (fun z v w' => z = .int .i64 n0 ∧ Below v.heap.size v w') (by rfl) (by go_simp) ((HN0.out _).mono fun e w' ⟨h1, h2⟩ => ⟨_, h1, rfl, h2⟩) ?_
      rintro z1 w1 ⟨rfl, B9⟩
      simp only [Act.put, List.setIfInBounds_toArray, List.set_cons_zero, List.set_cons_succ]
      refine hK.out _ _ (hH.trans (B9.mono hH.size)) (fun hH' => ?_)
      clear hK K
      replace hH := hH'
      clear hH' 
      clear B9
      refine wpAnyH_take (i := 10) (oi := { dst := some 26, op := Op.binOp BinOp.mul 3 (Operand.tmp 18) (Operand.tmp 25) 3, type := 3, pos := "l17_raster.go:192", after := #[{ on := 2, ground := Ground.data }, { on := 9, ground := Ground.data }], guard := none }) (v := .int .i64 t0) rfl (by kernel_rfl) (by kernel_rfl) (by kernel_rfl) (fun _ _ _ h => h) (Or.inl ⟨by rfl, fun w0 hSw => by (go_simp)⟩) hH ?_
      simp only [Act.put, List.setIfInBounds_toArray, List.set_cons_zero, List.set_cons_succ]
      refine wpAnyH_take (i := 11) (oi := { dst := some 27, op := Op.binOp BinOp.add 3 (Operand.tmp 16) (Operand.tmp 26) 3, type := 3, pos := "l17_raster.go:192", after := #[{ on := 0, ground := Ground.data }, { on := 10, ground := Ground.data }], guard := none }) (v := .int .i64 t0) rfl (by kernel_rfl) (by kernel_rfl) (by kernel_rfl) (fun _ _ _ h => h) (Or.inl ⟨by rfl, fun w0 hSw => by (go_simp)⟩) hH ?_
      simp only [Act.put, List.setIfInBounds_toArray, List.set_cons_zero, List.set_cons_succ]
      refine wpAnyH_take (i := 12) (oi := { dst := some 7, op := Op.assign (Operand.tmp 27), type := 3, pos := "l17_raster.go:192", after := #[{ on := 11, ground := Ground.data }, { on := 9, ground := Ground.chain }, { on := 0, ground := Ground.phase }, { on := 1, ground := Ground.phase }, { on := 2, ground := Ground.phase }, { on := 3, ground := Ground.phase }, { on := 4, ground := Ground.phase }, { on := 5, ground := Ground.phase }, { on := 6, ground := Ground.phase }, { on := 7, ground := Ground.phase }, { on := 8, ground := Ground.phase }, { on := 9, ground := Ground.phase }, { on := 10, ground := Ground.phase }, { on := 11, ground := Ground.phase }], guard := none }) (v := .int .i64 t0) rfl (by kernel_rfl) (by kernel_rfl) (by kernel_rfl) (fun _ _ _ h => h) (Or.inl ⟨by rfl, fun w0 hSw => by (go_simp)⟩) hH ?_
      simp only [Act.put, List.setIfInBounds_toArray, List.set_cons_zero, List.set_cons_succ]
      refine wpAnyH_done (by kernel_rfl) ?_ _
      have BF := Hid.mk (BX.trans (hH.mono BX.size))
      have XN := Hid.mk (X.next hH)
      clear X BX hH KC
      go_wp2
      go_roundw
      case rel => exact ⟨1, by omega, rfl, rfl, XN.out, BF.out⟩
      case measure => simp [intOf]
    · skip
      have hix : ∀ w' : World, (Instr.index 79 (.agg #[.int .i64 ux, .int .i64 uy, .int .i64 uz, .int .i64 vx, .int .i64 vy, .int .i64 vz, .int .i64 sx, .int .i64 sy, .int .i64 sz]) (.int .i64 1)).run Try.prog w' = .ok (.agg #[.int .i64 vx, .int .i64 vy, .int .i64 vz]) w' := fun _ => by kernel_rfl
      go_upto_region 5 with fail
      have X := HX.out.next (alloc_b (o := .cells #[.int .i64 vx, .int .i64 vy, .int .i64 vz] 24))
      have BX := HB.out.alloc HB.out.size (.cells #[.int .i64 vx, .int .i64 vy, .int .i64 vz] 24)
      have KC := C3.new wr 24 (.int .i64 vx) (.int .i64 vy) (.int .i64 vz)
      obtain ⟨gc, hgc⟩ : ∃ g, wr.heap.size = g := ⟨_, rfl⟩
      rw [hgc] at KC ⊢
      generalize wr.alloc (.cells #[.int .i64 vx, .int .i64 vy, .int .i64 vz] 24) = wA at X BX KC ⊢
      clear hgc HX HB
      generalize hWW : wA.drew = WX
      have X := X.next (below_drew (Below.refl _ _))
      have KC := KC.next (below_drew (Below.refl _ _))
      have BX := below_drew BX
      rw [hWW] at X BX KC
      refine wp_region_held_drew (S := fun v => Below WX.heap.size WX v) (by kernel_rfl) (by rw [hWW]; exact Below.refl _ _) (fun hH => ?_)
      rw [hWW] at hH ⊢
      clear hWW
      refine wpAnyH_take (i := 0) (oi := { dst := some 16, op := Op.move (Operand.tmp 7), type := 3, pos := "l17_raster.go:192", after := #[], guard := none }) (v := .int .i64 t0) rfl (by kernel_rfl) (by kernel_rfl) (by kernel_rfl) (fun _ _ _ h => h) (Or.inl ⟨by rfl, fun w0 hSw => by (go_simp)⟩) hH ?_
      simp only [Act.put, List.setIfInBounds_toArray, List.set_cons_zero, List.set_cons_succ]
      refine wpAnyH_take (i := 1) (oi := { dst := some 17, op := Op.fieldAddr 24 (Operand.tmp 9) 2, type := 0, pos := "l17_raster.go:192", after := #[], guard := none }) (v := .pointer (some ⟨gc, 2, none⟩)) rfl (by kernel_rfl) (by kernel_rfl) (by kernel_rfl) (fun _ _ _ h => h) (Or.inl ⟨by rfl, fun w0 hSw => by (go_simp)⟩) hH ?_
      simp only [Act.put, List.setIfInBounds_toArray, List.set_cons_zero, List.set_cons_succ]
      refine wpAnyH_take (i := 2) (oi := { dst := some 18, op := Op.load 3 (Operand.tmp 17), type := 3, pos := "l17_raster.go:192", after := #[{ on := 1, ground := Ground.data }], guard := none }) (v := .int .i64 vz) rfl (by kernel_rfl) (by kernel_rfl) (by kernel_rfl) (fun _ _ _ h => h) (Or.inl ⟨by rfl, fun w0 hSw => by ((have e9 := cell_nx KC.c2 hSw); go_simp)⟩) hH ?_
      simp only [Act.put, List.setIfInBounds_toArray, List.set_cons_zero, List.set_cons_succ]
      refine wpAnyH_take (i := 3) (oi := { dst := some 19, op := Op.move (Operand.tmp 8), type := 3, pos := "l17_raster.go:192", after := #[], guard := none }) (v := .int .i64 1) rfl (by kernel_rfl) (by kernel_rfl) (by kernel_rfl) (fun _ _ _ h => h) (Or.inl ⟨by rfl, fun w0 hSw => by (go_simp)⟩) hH ?_
      simp only [Act.put, List.setIfInBounds_toArray, List.set_cons_zero, List.set_cons_succ]
      refine wpAnyH_take (i := 4) (oi := { dst := some 20, op := Op.fieldAddr 84 (Operand.tmp 3) 1, type := 0, pos := "l17_raster.go:192", after := #[], guard := none }) (v := .pointer (some ⟨w.heap.size, 9, none⟩)) rfl (by kernel_rfl) (by kernel_rfl) (by kernel_rfl) (fun _ _ _ h => h) (Or.inl ⟨by rfl, fun w0 hSw => by (go_simp)⟩) hH ?_
      simp only [Act.put, List.setIfInBounds_toArray, List.set_cons_zero, List.set_cons_succ]
      refine wpAnyH_take (i := 5) (oi := { dst := some 21, op := Op.indexAddr 82 (Operand.tmp 20) (Operand.tmp 19), type := 0, pos := "l17_raster.go:192", after := #[{ on := 4, ground := Ground.data }, { on := 3, ground := Ground.data }], guard := none }) (v := .pointer (some ⟨w.heap.size, 15, none⟩)) rfl (by kernel_rfl) (by kernel_rfl) (by kernel_rfl) (fun _ _ _ h => h) (Or.inl ⟨by rfl, fun w0 hSw => by (go_simp)⟩) hH ?_
      simp only [Act.put, List.setIfInBounds_toArray, List.set_cons_zero, List.set_cons_succ]
      refine wpAnyH_take (i := 6) (oi := { dst := some 22, op := Op.load 81 (Operand.tmp 21), type := 81, pos := "l17_raster.go:192", after := #[{ on := 5, ground := Ground.data }], guard := none }) (v := .agg #[.int .i64 sx, .int .i64 sy, .int .i64 sz, .int .i64 ux, .int .i64 uy, .int .i64 uz]) rfl (by kernel_rfl) (by kernel_rfl) (by kernel_rfl) (fun _ _ _ h => h) (Or.inl ⟨by rfl, fun w0 hSw => by ((have e0 := cell_nx (X.cell 15 (by decide) : _ = some (.int .i64 sx)) hSw); (have e1 := cell_nx (X.cell 16 (by decide) : _ = some (.int .i64 sy)) hSw); (have e2 := cell_nx (X.cell 17 (by decide) : _ = some (.int .i64 sz)) hSw); (have e3 := cell_nx (X.cell 18 (by decide) : _ = some (.int .i64 ux)) hSw); (have e4 := cell_nx (X.cell 19 (by decide) : _ = some (.int .i64 uy)) hSw); (have e5 := cell_nx (X.cell 20 (by decide) : _ = some (.int .i64 uz)) hSw); go_simp)⟩) hH ?_
      simp only [Act.put, List.setIfInBounds_toArray, List.set_cons_zero, List.set_cons_succ]
      refine wpAnyH_take (i := 7) (oi := { dst := some 23, op := Op.move (Operand.tmp 1), type := 3, pos := "l17_raster.go:192", after := #[], guard := none }) (v := .int .i64 x) rfl (by kernel_rfl) (by kernel_rfl) (by kernel_rfl) (fun _ _ _ h => h) (Or.inl ⟨by rfl, fun w0 hSw => by (go_simp)⟩) hH ?_
      simp only [Act.put, List.setIfInBounds_toArray, List.set_cons_zero, List.set_cons_succ]
      refine wpAnyH_take (i := 8) (oi := { dst := some 24, op := Op.move (Operand.tmp 2), type := 3, pos := "l17_raster.go:192", after := #[], guard := none }) (v := .int .i64 y) rfl (by kernel_rfl) (by kernel_rfl) (by kernel_rfl) (fun _ _ _ h => h) (Or.inl ⟨by rfl, fun w0 hSw => by (go_simp)⟩) hH ?_
      simp only [Act.put, List.setIfInBounds_toArray, List.set_cons_zero, List.set_cons_succ]
      refine wpAnyH_ready (rs := [9]) (by kernel_rfl) (by simp) ?_
      refine (AllReadyH.cons (o := { dst := some 25, op := Op.call { callee := Callee.value (Operand.func 60), args := #[Operand.tmp 22, Operand.tmp 23, Operand.tmp 24], argTypes := #[81, 3, 3] }, type := 3, pos := "l17_raster.go:192", after := #[{ on := 6, ground := Ground.data }, { on := 7, ground := Ground.data }, { on := 8, ground := Ground.data }], guard := none }) rfl (fun K hK => ?_) AllReadyH.nil)
      refine step_callW 60 #[.agg #[.int .i64 sx, .int .i64 sy, .int .i64 sz, .int .i64 ux, .int .i64 uy, .int .i64 uz], .int .i64 x, .int .i64 y] (fun z v w' => z = .int .i64 n1 ∧ Below v.heap.size v w') (by rfl) (by go_simp) ((HN1.out _).mono fun e w' ⟨h1, h2⟩ => ⟨_, h1, rfl, h2⟩) ?_
      rintro z1 w1 ⟨rfl, B9⟩
      simp only [Act.put, List.setIfInBounds_toArray, List.set_cons_zero, List.set_cons_succ]
      refine hK.out _ _ (hH.trans (B9.mono hH.size)) (fun hH' => ?_)
      clear hK K
      replace hH := hH'
      clear hH' 
      clear B9
      refine wpAnyH_take (i := 10) (oi := { dst := some 26, op := Op.binOp BinOp.mul 3 (Operand.tmp 18) (Operand.tmp 25) 3, type := 3, pos := "l17_raster.go:192", after := #[{ on := 2, ground := Ground.data }, { on := 9, ground := Ground.data }], guard := none }) (v := .int .i64 t1) rfl (by kernel_rfl) (by kernel_rfl) (by kernel_rfl) (fun _ _ _ h => h) (Or.inl ⟨by rfl, fun w0 hSw => by (go_simp)⟩) hH ?_
      simp only [Act.put, List.setIfInBounds_toArray, List.set_cons_zero, List.set_cons_succ]
      refine wpAnyH_take (i := 11) (oi := { dst := some 27, op := Op.binOp BinOp.add 3 (Operand.tmp 16) (Operand.tmp 26) 3, type := 3, pos := "l17_raster.go:192", after := #[{ on := 0, ground := Ground.data }, { on := 10, ground := Ground.data }], guard := none }) (v := .int .i64 (t0 + t1)) rfl (by kernel_rfl) (by kernel_rfl) (by kernel_rfl) (fun _ _ _ h => h) (Or.inl ⟨by rfl, fun w0 hSw => by (go_simp)⟩) hH ?_
      simp only [Act.put, List.setIfInBounds_toArray, List.set_cons_zero, List.set_cons_succ]
      refine wpAnyH_take (i := 12) (oi := { dst := some 7, op := Op.assign (Operand.tmp 27), type := 3, pos := "l17_raster.go:192", after := #[{ on := 11, ground := Ground.data }, { on := 9, ground := Ground.chain }, { on := 0, ground := Ground.phase }, { on := 1, ground := Ground.phase }, { on := 2, ground := Ground.phase }, { on := 3, ground := Ground.phase }, { on := 4, ground := Ground.phase }, { on := 5, ground := Ground.phase }, { on := 6, ground := Ground.phase }, { on := 7, ground := Ground.phase }, { on := 8, ground := Ground.phase }, { on := 9, ground := Ground.phase }, { on := 10, ground := Ground.phase }, { on := 11, ground := Ground.phase }], guard := none }) (v := .int .i64 (t0 + t1)) rfl (by kernel_rfl) (by kernel_rfl) (by kernel_rfl) (fun _ _ _ h => h) (Or.inl ⟨by rfl, fun w0 hSw => by (go_simp)⟩) hH ?_
      simp only [Act.put, List.setIfInBounds_toArray, List.set_cons_zero, List.set_cons_succ]
      refine wpAnyH_done (by kernel_rfl) ?_ _
      have BF := Hid.mk (BX.trans (hH.mono BX.size))
      have XN := Hid.mk (X.next hH)
      clear X BX hH KC
      go_wp2
      go_roundw
      case rel => exact ⟨2, by omega, rfl, rfl, XN.out, BF.out⟩
      case measure => simp [intOf]
    · skip
      have hix : ∀ w' : World, (Instr.index 79 (.agg #[.int .i64 ux, .int .i64 uy, .int .i64 uz, .int .i64 vx, .int .i64 vy, .int .i64 vz, .int .i64 sx, .int .i64 sy, .int .i64 sz]) (.int .i64 2)).run Try.prog w' = .ok (.agg #[.int .i64 sx, .int .i64 sy, .int .i64 sz]) w' := fun _ => by kernel_rfl
      go_upto_region 5 with fail
      have X := HX.out.next (alloc_b (o := .cells #[.int .i64 sx, .int .i64 sy, .int .i64 sz] 24))
      have BX := HB.out.alloc HB.out.size (.cells #[.int .i64 sx, .int .i64 sy, .int .i64 sz] 24)
      have KC := C3.new wr 24 (.int .i64 sx) (.int .i64 sy) (.int .i64 sz)
      obtain ⟨gc, hgc⟩ : ∃ g, wr.heap.size = g := ⟨_, rfl⟩
      rw [hgc] at KC ⊢
      generalize wr.alloc (.cells #[.int .i64 sx, .int .i64 sy, .int .i64 sz] 24) = wA at X BX KC ⊢
      clear hgc HX HB
      generalize hWW : wA.drew = WX
      have X := X.next (below_drew (Below.refl _ _))
      have KC := KC.next (below_drew (Below.refl _ _))
      have BX := below_drew BX
      rw [hWW] at X BX KC
      refine wp_region_held_drew (S := fun v => Below WX.heap.size WX v) (by kernel_rfl) (by rw [hWW]; exact Below.refl _ _) (fun hH => ?_)
      rw [hWW] at hH ⊢
      clear hWW
      refine wpAnyH_take (i := 0) (oi := { dst := some 16, op := Op.move (Operand.tmp 7), type := 3, pos := "l17_raster.go:192", after := #[], guard := none }) (v := .int .i64 (t0 + t1)) rfl (by kernel_rfl) (by kernel_rfl) (by kernel_rfl) (fun _ _ _ h => h) (Or.inl ⟨by rfl, fun w0 hSw => by (go_simp)⟩) hH ?_
      simp only [Act.put, List.setIfInBounds_toArray, List.set_cons_zero, List.set_cons_succ]
      refine wpAnyH_take (i := 1) (oi := { dst := some 17, op := Op.fieldAddr 24 (Operand.tmp 9) 2, type := 0, pos := "l17_raster.go:192", after := #[], guard := none }) (v := .pointer (some ⟨gc, 2, none⟩)) rfl (by kernel_rfl) (by kernel_rfl) (by kernel_rfl) (fun _ _ _ h => h) (Or.inl ⟨by rfl, fun w0 hSw => by (go_simp)⟩) hH ?_
      simp only [Act.put, List.setIfInBounds_toArray, List.set_cons_zero, List.set_cons_succ]
      refine wpAnyH_take (i := 2) (oi := { dst := some 18, op := Op.load 3 (Operand.tmp 17), type := 3, pos := "l17_raster.go:192", after := #[{ on := 1, ground := Ground.data }], guard := none }) (v := .int .i64 sz) rfl (by kernel_rfl) (by kernel_rfl) (by kernel_rfl) (fun _ _ _ h => h) (Or.inl ⟨by rfl, fun w0 hSw => by ((have e9 := cell_nx KC.c2 hSw); go_simp)⟩) hH ?_
      simp only [Act.put, List.setIfInBounds_toArray, List.set_cons_zero, List.set_cons_succ]
      refine wpAnyH_take (i := 3) (oi := { dst := some 19, op := Op.move (Operand.tmp 8), type := 3, pos := "l17_raster.go:192", after := #[], guard := none }) (v := .int .i64 2) rfl (by kernel_rfl) (by kernel_rfl) (by kernel_rfl) (fun _ _ _ h => h) (Or.inl ⟨by rfl, fun w0 hSw => by (go_simp)⟩) hH ?_
      simp only [Act.put, List.setIfInBounds_toArray, List.set_cons_zero, List.set_cons_succ]
      refine wpAnyH_take (i := 4) (oi := { dst := some 20, op := Op.fieldAddr 84 (Operand.tmp 3) 1, type := 0, pos := "l17_raster.go:192", after := #[], guard := none }) (v := .pointer (some ⟨w.heap.size, 9, none⟩)) rfl (by kernel_rfl) (by kernel_rfl) (by kernel_rfl) (fun _ _ _ h => h) (Or.inl ⟨by rfl, fun w0 hSw => by (go_simp)⟩) hH ?_
      simp only [Act.put, List.setIfInBounds_toArray, List.set_cons_zero, List.set_cons_succ]
      refine wpAnyH_take (i := 5) (oi := { dst := some 21, op := Op.indexAddr 82 (Operand.tmp 20) (Operand.tmp 19), type := 0, pos := "l17_raster.go:192", after := #[{ on := 4, ground := Ground.data }, { on := 3, ground := Ground.data }], guard := none }) (v := .pointer (some ⟨w.heap.size, 21, none⟩)) rfl (by kernel_rfl) (by kernel_rfl) (by kernel_rfl) (fun _ _ _ h => h) (Or.inl ⟨by rfl, fun w0 hSw => by (go_simp)⟩) hH ?_
      simp only [Act.put, List.setIfInBounds_toArray, List.set_cons_zero, List.set_cons_succ]
      refine wpAnyH_take (i := 6) (oi := { dst := some 22, op := Op.load 81 (Operand.tmp 21), type := 81, pos := "l17_raster.go:192", after := #[{ on := 5, ground := Ground.data }], guard := none }) (v := .agg #[.int .i64 ux, .int .i64 uy, .int .i64 uz, .int .i64 vx, .int .i64 vy, .int .i64 vz]) rfl (by kernel_rfl) (by kernel_rfl) (by kernel_rfl) (fun _ _ _ h => h) (Or.inl ⟨by rfl, fun w0 hSw => by ((have e0 := cell_nx (X.cell 21 (by decide) : _ = some (.int .i64 ux)) hSw); (have e1 := cell_nx (X.cell 22 (by decide) : _ = some (.int .i64 uy)) hSw); (have e2 := cell_nx (X.cell 23 (by decide) : _ = some (.int .i64 uz)) hSw); (have e3 := cell_nx (X.cell 24 (by decide) : _ = some (.int .i64 vx)) hSw); (have e4 := cell_nx (X.cell 25 (by decide) : _ = some (.int .i64 vy)) hSw); (have e5 := cell_nx (X.cell 26 (by decide) : _ = some (.int .i64 vz)) hSw); go_simp)⟩) hH ?_
      simp only [Act.put, List.setIfInBounds_toArray, List.set_cons_zero, List.set_cons_succ]
      refine wpAnyH_take (i := 7) (oi := { dst := some 23, op := Op.move (Operand.tmp 1), type := 3, pos := "l17_raster.go:192", after := #[], guard := none }) (v := .int .i64 x) rfl (by kernel_rfl) (by kernel_rfl) (by kernel_rfl) (fun _ _ _ h => h) (Or.inl ⟨by rfl, fun w0 hSw => by (go_simp)⟩) hH ?_
      simp only [Act.put, List.setIfInBounds_toArray, List.set_cons_zero, List.set_cons_succ]
      refine wpAnyH_take (i := 8) (oi := { dst := some 24, op := Op.move (Operand.tmp 2), type := 3, pos := "l17_raster.go:192", after := #[], guard := none }) (v := .int .i64 y) rfl (by kernel_rfl) (by kernel_rfl) (by kernel_rfl) (fun _ _ _ h => h) (Or.inl ⟨by rfl, fun w0 hSw => by (go_simp)⟩) hH ?_
      simp only [Act.put, List.setIfInBounds_toArray, List.set_cons_zero, List.set_cons_succ]
      refine wpAnyH_ready (rs := [9]) (by kernel_rfl) (by simp) ?_
      refine (AllReadyH.cons (o := { dst := some 25, op := Op.call { callee := Callee.value (Operand.func 60), args := #[Operand.tmp 22, Operand.tmp 23, Operand.tmp 24], argTypes := #[81, 3, 3] }, type := 3, pos := "l17_raster.go:192", after := #[{ on := 6, ground := Ground.data }, { on := 7, ground := Ground.data }, { on := 8, ground := Ground.data }], guard := none }) rfl (fun K hK => ?_) AllReadyH.nil)
      refine step_callW 60 #[.agg #[.int .i64 ux, .int .i64 uy, .int .i64 uz, .int .i64 vx, .int .i64 vy, .int .i64 vz], .int .i64 x, .int .i64 y] (fun z v w' => z = .int .i64 n2 ∧ Below v.heap.size v w') (by rfl) (by go_simp) ((HN2.out _).mono fun e w' ⟨h1, h2⟩ => ⟨_, h1, rfl, h2⟩) ?_
      rintro z1 w1 ⟨rfl, B9⟩
      simp only [Act.put, List.setIfInBounds_toArray, List.set_cons_zero, List.set_cons_succ]
      refine hK.out _ _ (hH.trans (B9.mono hH.size)) (fun hH' => ?_)
      clear hK K
      replace hH := hH'
      clear hH' 
      clear B9
      refine wpAnyH_take (i := 10) (oi := { dst := some 26, op := Op.binOp BinOp.mul 3 (Operand.tmp 18) (Operand.tmp 25) 3, type := 3, pos := "l17_raster.go:192", after := #[{ on := 2, ground := Ground.data }, { on := 9, ground := Ground.data }], guard := none }) (v := .int .i64 t2) rfl (by kernel_rfl) (by kernel_rfl) (by kernel_rfl) (fun _ _ _ h => h) (Or.inl ⟨by rfl, fun w0 hSw => by (go_simp)⟩) hH ?_
      simp only [Act.put, List.setIfInBounds_toArray, List.set_cons_zero, List.set_cons_succ]
      refine wpAnyH_take (i := 11) (oi := { dst := some 27, op := Op.binOp BinOp.add 3 (Operand.tmp 16) (Operand.tmp 26) 3, type := 3, pos := "l17_raster.go:192", after := #[{ on := 0, ground := Ground.data }, { on := 10, ground := Ground.data }], guard := none }) (v := .int .i64 (t0 + t1 + t2)) rfl (by kernel_rfl) (by kernel_rfl) (by kernel_rfl) (fun _ _ _ h => h) (Or.inl ⟨by rfl, fun w0 hSw => by (go_simp)⟩) hH ?_
      simp only [Act.put, List.setIfInBounds_toArray, List.set_cons_zero, List.set_cons_succ]
      refine wpAnyH_take (i := 12) (oi := { dst := some 7, op := Op.assign (Operand.tmp 27), type := 3, pos := "l17_raster.go:192", after := #[{ on := 11, ground := Ground.data }, { on := 9, ground := Ground.chain }, { on := 0, ground := Ground.phase }, { on := 1, ground := Ground.phase }, { on := 2, ground := Ground.phase }, { on := 3, ground := Ground.phase }, { on := 4, ground := Ground.phase }, { on := 5, ground := Ground.phase }, { on := 6, ground := Ground.phase }, { on := 7, ground := Ground.phase }, { on := 8, ground := Ground.phase }, { on := 9, ground := Ground.phase }, { on := 10, ground := Ground.phase }, { on := 11, ground := Ground.phase }], guard := none }) (v := .int .i64 (t0 + t1 + t2)) rfl (by kernel_rfl) (by kernel_rfl) (by kernel_rfl) (fun _ _ _ h => h) (Or.inl ⟨by rfl, fun w0 hSw => by (go_simp)⟩) hH ?_
      simp only [Act.put, List.setIfInBounds_toArray, List.set_cons_zero, List.set_cons_succ]
      refine wpAnyH_done (by kernel_rfl) ?_ _
      have BF := Hid.mk (BX.trans (hH.mono BX.size))
      have XN := Hid.mk (X.next hH)
      clear X BX hH KC
      go_wp2
      go_roundw
      case rel => exact ⟨3, by omega, rfl, rfl, XN.out, BF.out⟩
      case measure => simp [intOf]
    · have f27 : wr.cell? ⟨w.heap.size, 27, none⟩ = some (.int .i64 a0) := HX.out.cell 27 (by decide)
      go_wp2_with (go_at_call 97; refine (HQ.out _).mono ?_; rintro e wz ⟨rfl, hw⟩; subst wz)
      go_ret
      exact ⟨by rw [HV.out]; rfl, HB.out⟩
end Go.Proofs.Ytglhlpbaaoekgaa
