/- Depths: the model. -/
import Derived.Test.YtglhlpbaaoekgaaCj
import Derived.Test.YtglhlpbaaoekgaaCa
namespace Go.Proofs.Ytglhlpbaaoekgaa
open Go.ChangeShapes Go.WideShapes Go.ChangeAt Go.RowKit
set_option linter.unusedVariables false
theorem zn_bnd {z n : Int} (hz : inZ z = true) (hn : -134217728 ≤ n ∧ n ≤ 134217728) : -8796093022208 ≤ z * n ∧ z * n ≤ 8796093022208 := by
  have h := inZ_iff.1 hz
  have h1 : (z * n).natAbs ≤ 65536 * 134217728 := by
    rw [Int.natAbs_mul]
    exact Nat.mul_le_mul (by omega) (by omega)
  omega
set_option maxRecDepth 100000 in
set_option maxHeartbeats 16000000 in
theorem mdepth_pos (ux uy uz vx vy vz sx sy sz kr kg kb ka x y : Int) (w : World) (h : trB ux uy uz vx vy vz sx sy sz kr kg kb ka = true) (hs : 0 < arI ux uy vx vy sx sy) (hx : ptB x y = true) : Calls Try.prog 66 #[.agg #[.int .i64 ux, .int .i64 uy, .int .i64 uz, .int .i64 vx, .int .i64 vy, .int .i64 vz, .int .i64 sx, .int .i64 sy, .int .i64 sz, .int .i64 kr, .int .i64 kg, .int .i64 kb, .int .i64 ka], .int .i64 x, .int .i64 y] w fun e w' => e = .returned (.int .i64 ((uz * nmI vx vy sx sy x y + vz * nmI sx sy ux uy x y + sz * nmI ux uy vx vy x y) / (arI ux uy vx vy sx sy))) ∧ Below w.heap.size w w' := by
  have HT : Hid (∀ w', Calls Try.prog 63 #[.agg #[.int .i64 ux, .int .i64 uy, .int .i64 uz, .int .i64 vx, .int .i64 vy, .int .i64 vz, .int .i64 sx, .int .i64 sy, .int .i64 sz, .int .i64 kr, .int .i64 kg, .int .i64 kb, .int .i64 ka]] w' fun e w'' => e = .returned (.agg #[.int .i64 ux, .int .i64 uy, .int .i64 uz, .int .i64 vx, .int .i64 vy, .int .i64 vz, .int .i64 sx, .int .i64 sy, .int .i64 sz, .int .i64 kr, .int .i64 kg, .int .i64 kb, .int .i64 ka]) ∧ Below w'.heap.size w' w'') := fun w' => mturned_pos ux uy uz vx vy vz sx sy sz kr kg kb ka w' h (by omega)
  obtain ⟨q1, q2, q3, z1, z2, z3, _⟩ := tr_pt h
  have hb := nm_bnd q1 q2 q3
  have HA : Hid (∀ w', Calls Try.prog 55 #[.agg #[.int .i64 ux, .int .i64 uy, .int .i64 uz, .int .i64 vx, .int .i64 vy, .int .i64 vz, .int .i64 sx, .int .i64 sy, .int .i64 sz, .int .i64 kr, .int .i64 kg, .int .i64 kb, .int .i64 ka]] w' fun e w'' => e = .returned (.int .i64 (arI ux uy vx vy sx sy)) ∧ Below w'.heap.size w' w'') := fun w' => marea ux uy uz vx vy vz sx sy sz kr kg kb ka w' h
  have HN1 : Hid (∀ w', Calls Try.prog 95 #[.agg #[.int .i64 vx, .int .i64 vy, .int .i64 vz], .agg #[.int .i64 sx, .int .i64 sy, .int .i64 sz], .int .i64 x, .int .i64 y] w' fun e w'' => e = .returned (.int .i64 (nmI vx vy sx sy x y)) ∧ Below w'.heap.size w' w'') := fun w' => mnum _ _ _ _ _ _ _ _ w' q2 q3 hx
  have b1 := nm_bnd q2 q3 hx
  have c1 := zn_bnd z1 b1
  have HN2 : Hid (∀ w', Calls Try.prog 95 #[.agg #[.int .i64 sx, .int .i64 sy, .int .i64 sz], .agg #[.int .i64 ux, .int .i64 uy, .int .i64 uz], .int .i64 x, .int .i64 y] w' fun e w'' => e = .returned (.int .i64 (nmI sx sy ux uy x y)) ∧ Below w'.heap.size w' w'') := fun w' => mnum _ _ _ _ _ _ _ _ w' q3 q1 hx
  have b2 := nm_bnd q3 q1 hx
  have c2 := zn_bnd z2 b2
  have HN3 : Hid (∀ w', Calls Try.prog 95 #[.agg #[.int .i64 ux, .int .i64 uy, .int .i64 uz], .agg #[.int .i64 vx, .int .i64 vy, .int .i64 vz], .int .i64 x, .int .i64 y] w' fun e w'' => e = .returned (.int .i64 (nmI ux uy vx vy x y)) ∧ Below w'.heap.size w' w'') := fun w' => mnum _ _ _ _ _ _ _ _ w' q1 q2 hx
  have b3 := nm_bnd q1 q2 hx
  have c3 := zn_bnd z3 b3
  have har : 0 < arI ux uy vx vy sx sy ∧ arI ux uy vx vy sx sy ≤ 134217728 := by
    have hb2 : -134217728 ≤ arI ux uy vx vy sx sy ∧ arI ux uy vx vy sx sy ≤ 134217728 := hb
    omega
  generalize arI ux uy vx vy sx sy = a0 at HA har ⊢
  generalize nmI vx vy sx sy x y = n1 at HN1 b1 c1 ⊢
  obtain ⟨t1, ht1⟩ : ∃ t, uz * n1 = t := ⟨_, rfl⟩
  rw [ht1] at c1
  have m1 : IntKind.i64.wrap (uz * n1) = t1 := by rw [ht1]; exact (IntKind.wrap_i64 _).trans (by omega)
  rw [ht1]
  clear ht1
  generalize nmI sx sy ux uy x y = n2 at HN2 b2 c2 ⊢
  obtain ⟨t2, ht2⟩ : ∃ t, vz * n2 = t := ⟨_, rfl⟩
  rw [ht2] at c2
  have m2 : IntKind.i64.wrap (vz * n2) = t2 := by rw [ht2]; exact (IntKind.wrap_i64 _).trans (by omega)
  rw [ht2]
  clear ht2
  generalize nmI ux uy vx vy x y = n3 at HN3 b3 c3 ⊢
  obtain ⟨t3, ht3⟩ : ∃ t, sz * n3 = t := ⟨_, rfl⟩
  rw [ht3] at c3
  have m3 : IntKind.i64.wrap (sz * n3) = t3 := by rw [ht3]; exact (IntKind.wrap_i64 _).trans (by omega)
  rw [ht3]
  clear ht3
  have k1 : IntKind.i64.wrap (t1 + t2) = t1 + t2 := (IntKind.wrap_i64 _).trans (by omega)
  have k2 : IntKind.i64.wrap (t1 + t2 + t3) = t1 + t2 + t3 := (IntKind.wrap_i64 _).trans (by omega)
  have HFL := Hid.mk (fun w' : World => mfloorG (t1 + t2 + t3) a0 w' ⟨har.1, by omega⟩ (by omega))
  obtain ⟨V0, hV0⟩ : ∃ v, (t1 + t2 + t3) / a0 = v := ⟨_, rfl⟩
  have HV : Hid ((t1 + t2 + t3) / a0 = V0) := hV0
  rw [hV0]
  clear hV0 hb har q1 q2 q3 z1 z2 z3 h hs hx b1 b2 b3 c1 c2 c3
  have HW : Hid (∀ w', Below (w.alloc (.cells #[.int .i64 ux, .int .i64 uy, .int .i64 uz, .int .i64 vx, .int .i64 vy, .int .i64 vz, .int .i64 sx, .int .i64 sy, .int .i64 sz, .int .i64 kr, .int .i64 kg, .int .i64 kb, .int .i64 ka] 28)).heap.size (w.alloc (.cells #[.int .i64 ux, .int .i64 uy, .int .i64 uz, .int .i64 vx, .int .i64 vy, .int .i64 vz, .int .i64 sx, .int .i64 sy, .int .i64 sz, .int .i64 kr, .int .i64 kg, .int .i64 kb, .int .i64 ka] 28)) w' → C13 w' w.heap.size (.int .i64 ux) (.int .i64 uy) (.int .i64 uz) (.int .i64 vx) (.int .i64 vy) (.int .i64 vz) (.int .i64 sx) (.int .i64 sy) (.int .i64 sz) (.int .i64 kr) (.int .i64 kg) (.int .i64 kb) (.int .i64 ka) ∧ Below w.heap.size w w') := fun w' b => ⟨(C13.new w 28 (.int .i64 ux) (.int .i64 uy) (.int .i64 uz) (.int .i64 vx) (.int .i64 vy) (.int .i64 vz) (.int .i64 sx) (.int .i64 sy) (.int .i64 sz) (.int .i64 kr) (.int .i64 kg) (.int .i64 kb) (.int .i64 ka)).next b, alloc_b.trans (b.mono (by simp))⟩
  go_enter Try.func66, Try.ntmps66
  go_upto_region 2 with (go_at_call 63; refine (HT.out _).mono ?_; rintro e w2 ⟨rfl, B2⟩; obtain ⟨X2, D2⟩ := HW.out _ B2; (have p0 := X2.c0); (have p1 := X2.c1); (have p2 := X2.c2); (have p3 := X2.c3); (have p4 := X2.c4); (have p5 := X2.c5); (have p6 := X2.c6); (have p7 := X2.c7); (have p8 := X2.c8); (have p9 := X2.c9); (have p10 := X2.c10); (have p11 := X2.c11); (have p12 := X2.c12); (have pf := X2.f))
  have X := (((((((((((((X2.s0 (.int .i64 ux)).s1 (.int .i64 uy)).s2 (.int .i64 uz)).s3 (.int .i64 vx)).s4 (.int .i64 vy)).s5 (.int .i64 vz)).s6 (.int .i64 sx)).s7 (.int .i64 sy)).s8 (.int .i64 sz)).s9 (.int .i64 kr)).s10 (.int .i64 kg)).s11 (.int .i64 kb)).s12 (.int .i64 ka))
  have BX := (((((((((((((D2.setCell (p := ⟨w.heap.size, 0, none⟩) (by simp) (.int .i64 ux)).setCell (p := ⟨w.heap.size, 1, none⟩) (by simp) (.int .i64 uy)).setCell (p := ⟨w.heap.size, 2, none⟩) (by simp) (.int .i64 uz)).setCell (p := ⟨w.heap.size, 3, none⟩) (by simp) (.int .i64 vx)).setCell (p := ⟨w.heap.size, 4, none⟩) (by simp) (.int .i64 vy)).setCell (p := ⟨w.heap.size, 5, none⟩) (by simp) (.int .i64 vz)).setCell (p := ⟨w.heap.size, 6, none⟩) (by simp) (.int .i64 sx)).setCell (p := ⟨w.heap.size, 7, none⟩) (by simp) (.int .i64 sy)).setCell (p := ⟨w.heap.size, 8, none⟩) (by simp) (.int .i64 sz)).setCell (p := ⟨w.heap.size, 9, none⟩) (by simp) (.int .i64 kr)).setCell (p := ⟨w.heap.size, 10, none⟩) (by simp) (.int .i64 kg)).setCell (p := ⟨w.heap.size, 11, none⟩) (by simp) (.int .i64 kb)).setCell (p := ⟨w.heap.size, 12, none⟩) (by simp) (.int .i64 ka))
  generalize (((((((((((((w2.setCell ⟨w.heap.size, 0, none⟩ (.int .i64 ux)).setCell ⟨w.heap.size, 1, none⟩ (.int .i64 uy)).setCell ⟨w.heap.size, 2, none⟩ (.int .i64 uz)).setCell ⟨w.heap.size, 3, none⟩ (.int .i64 vx)).setCell ⟨w.heap.size, 4, none⟩ (.int .i64 vy)).setCell ⟨w.heap.size, 5, none⟩ (.int .i64 vz)).setCell ⟨w.heap.size, 6, none⟩ (.int .i64 sx)).setCell ⟨w.heap.size, 7, none⟩ (.int .i64 sy)).setCell ⟨w.heap.size, 8, none⟩ (.int .i64 sz)).setCell ⟨w.heap.size, 9, none⟩ (.int .i64 kr)).setCell ⟨w.heap.size, 10, none⟩ (.int .i64 kg)).setCell ⟨w.heap.size, 11, none⟩ (.int .i64 kb)).setCell ⟨w.heap.size, 12, none⟩ (.int .i64 ka)) = wA at X BX ⊢
  clear X2 D2 B2 HW HT p0 p1 p2 p3 p4 p5 p6 p7 p8 p9 p10 p11 p12 pf
  generalize hWW : wA.drew = WX
  have X := X.next (below_drew (Below.refl _ _))
  have BX := below_drew BX
  rw [hWW] at X BX
  refine wp_region_held_drew (S := fun v => Below WX.heap.size WX v) (by kernel_rfl) (by rw [hWW]; exact Below.refl _ _) (fun hH => ?_)
  rw [hWW] at hH ⊢
  clear hWW
  refine wpAnyH_take (i := 0) (oi := { dst := some 10, op := Op.fieldAddr 28 (Operand.tmp 3) 0, type := 0, pos := "l17_raster.go:84", after := #[], guard := none }) (v := .pointer (some ⟨w.heap.size, 0, none⟩)) rfl (by kernel_rfl) (by kernel_rfl) (by kernel_rfl) (fun _ _ _ h => h) (Or.inl ⟨by rfl, fun w0 hSw => by (go_simp)⟩) hH ?_
  simp only [Act.put, List.setIfInBounds_toArray, List.set_cons_zero, List.set_cons_succ]
  refine wpAnyH_take (i := 1) (oi := { dst := some 11, op := Op.fieldAddr 24 (Operand.tmp 10) 2, type := 0, pos := "l17_raster.go:84", after := #[{ on := 0, ground := Ground.data }], guard := none }) (v := .pointer (some ⟨w.heap.size, 2, none⟩)) rfl (by kernel_rfl) (by kernel_rfl) (by kernel_rfl) (fun _ _ _ h => h) (Or.inl ⟨by rfl, fun w0 hSw => by (go_simp)⟩) hH ?_
  simp only [Act.put, List.setIfInBounds_toArray, List.set_cons_zero, List.set_cons_succ]
  refine wpAnyH_take (i := 2) (oi := { dst := some 12, op := Op.load 3 (Operand.tmp 11), type := 3, pos := "l17_raster.go:84", after := #[{ on := 1, ground := Ground.data }], guard := none }) (v := .int .i64 uz) rfl (by kernel_rfl) (by kernel_rfl) (by kernel_rfl) (fun _ _ _ h => h) (Or.inl ⟨by rfl, fun w0 hSw => by ((have e0 := cell_nx X.c2 hSw); go_simp)⟩) hH ?_
  simp only [Act.put, List.setIfInBounds_toArray, List.set_cons_zero, List.set_cons_succ]
  refine wpAnyH_take (i := 3) (oi := { dst := some 13, op := Op.fieldAddr 28 (Operand.tmp 3) 1, type := 0, pos := "l17_raster.go:84", after := #[], guard := none }) (v := .pointer (some ⟨w.heap.size, 3, none⟩)) rfl (by kernel_rfl) (by kernel_rfl) (by kernel_rfl) (fun _ _ _ h => h) (Or.inl ⟨by rfl, fun w0 hSw => by (go_simp)⟩) hH ?_
  simp only [Act.put, List.setIfInBounds_toArray, List.set_cons_zero, List.set_cons_succ]
  refine wpAnyH_take (i := 4) (oi := { dst := some 14, op := Op.load 24 (Operand.tmp 13), type := 24, pos := "l17_raster.go:84", after := #[{ on := 3, ground := Ground.data }], guard := none }) (v := .agg #[.int .i64 vx, .int .i64 vy, .int .i64 vz]) rfl (by kernel_rfl) (by kernel_rfl) (by kernel_rfl) (fun _ _ _ h => h) (Or.inl ⟨by rfl, fun w0 hSw => by ((have e0 := cell_nx X.c3 hSw); (have e1 := cell_nx X.c4 hSw); (have e2 := cell_nx X.c5 hSw); go_simp)⟩) hH ?_
  simp only [Act.put, List.setIfInBounds_toArray, List.set_cons_zero, List.set_cons_succ]
  refine wpAnyH_take (i := 5) (oi := { dst := some 15, op := Op.fieldAddr 28 (Operand.tmp 3) 2, type := 0, pos := "l17_raster.go:84", after := #[], guard := none }) (v := .pointer (some ⟨w.heap.size, 6, none⟩)) rfl (by kernel_rfl) (by kernel_rfl) (by kernel_rfl) (fun _ _ _ h => h) (Or.inl ⟨by rfl, fun w0 hSw => by (go_simp)⟩) hH ?_
  simp only [Act.put, List.setIfInBounds_toArray, List.set_cons_zero, List.set_cons_succ]
  refine wpAnyH_take (i := 6) (oi := { dst := some 16, op := Op.load 24 (Operand.tmp 15), type := 24, pos := "l17_raster.go:84", after := #[{ on := 5, ground := Ground.data }], guard := none }) (v := .agg #[.int .i64 sx, .int .i64 sy, .int .i64 sz]) rfl (by kernel_rfl) (by kernel_rfl) (by kernel_rfl) (fun _ _ _ h => h) (Or.inl ⟨by rfl, fun w0 hSw => by ((have e0 := cell_nx X.c6 hSw); (have e1 := cell_nx X.c7 hSw); (have e2 := cell_nx X.c8 hSw); go_simp)⟩) hH ?_
  simp only [Act.put, List.setIfInBounds_toArray, List.set_cons_zero, List.set_cons_succ]
  refine wpAnyH_take (i := 7) (oi := { dst := some 17, op := Op.move (Operand.tmp 1), type := 3, pos := "l17_raster.go:84", after := #[], guard := none }) (v := .int .i64 x) rfl (by kernel_rfl) (by kernel_rfl) (by kernel_rfl) (fun _ _ _ h => h) (Or.inl ⟨by rfl, fun w0 hSw => by (go_simp)⟩) hH ?_
  simp only [Act.put, List.setIfInBounds_toArray, List.set_cons_zero, List.set_cons_succ]
  refine wpAnyH_take (i := 8) (oi := { dst := some 18, op := Op.move (Operand.tmp 2), type := 3, pos := "l17_raster.go:84", after := #[], guard := none }) (v := .int .i64 y) rfl (by kernel_rfl) (by kernel_rfl) (by kernel_rfl) (fun _ _ _ h => h) (Or.inl ⟨by rfl, fun w0 hSw => by (go_simp)⟩) hH ?_
  simp only [Act.put, List.setIfInBounds_toArray, List.set_cons_zero, List.set_cons_succ]
  refine wpAnyH_take (i := 11) (oi := { dst := some 21, op := Op.fieldAddr 28 (Operand.tmp 3) 1, type := 0, pos := "l17_raster.go:84", after := #[], guard := none }) (v := .pointer (some ⟨w.heap.size, 3, none⟩)) rfl (by kernel_rfl) (by kernel_rfl) (by kernel_rfl) (fun _ _ _ h => h) (Or.inl ⟨by rfl, fun w0 hSw => by (go_simp)⟩) hH ?_
  simp only [Act.put, List.setIfInBounds_toArray, List.set_cons_zero, List.set_cons_succ]
  refine wpAnyH_take (i := 12) (oi := { dst := some 22, op := Op.fieldAddr 24 (Operand.tmp 21) 2, type := 0, pos := "l17_raster.go:84", after := #[{ on := 11, ground := Ground.data }], guard := none }) (v := .pointer (some ⟨w.heap.size, 5, none⟩)) rfl (by kernel_rfl) (by kernel_rfl) (by kernel_rfl) (fun _ _ _ h => h) (Or.inl ⟨by rfl, fun w0 hSw => by (go_simp)⟩) hH ?_
  simp only [Act.put, List.setIfInBounds_toArray, List.set_cons_zero, List.set_cons_succ]
  refine wpAnyH_take (i := 13) (oi := { dst := some 23, op := Op.load 3 (Operand.tmp 22), type := 3, pos := "l17_raster.go:84", after := #[{ on := 12, ground := Ground.data }], guard := none }) (v := .int .i64 vz) rfl (by kernel_rfl) (by kernel_rfl) (by kernel_rfl) (fun _ _ _ h => h) (Or.inl ⟨by rfl, fun w0 hSw => by ((have e0 := cell_nx X.c5 hSw); go_simp)⟩) hH ?_
  simp only [Act.put, List.setIfInBounds_toArray, List.set_cons_zero, List.set_cons_succ]
  refine wpAnyH_take (i := 14) (oi := { dst := some 24, op := Op.fieldAddr 28 (Operand.tmp 3) 2, type := 0, pos := "l17_raster.go:84", after := #[], guard := none }) (v := .pointer (some ⟨w.heap.size, 6, none⟩)) rfl (by kernel_rfl) (by kernel_rfl) (by kernel_rfl) (fun _ _ _ h => h) (Or.inl ⟨by rfl, fun w0 hSw => by (go_simp)⟩) hH ?_
  simp only [Act.put, List.setIfInBounds_toArray, List.set_cons_zero, List.set_cons_succ]
  refine wpAnyH_take (i := 15) (oi := { dst := some 25, op := Op.load 24 (Operand.tmp 24), type := 24, pos := "l17_raster.go:84", after := #[{ on := 14, ground := Ground.data }], guard := none }) (v := .agg #[.int .i64 sx, .int .i64 sy, .int .i64 sz]) rfl (by kernel_rfl) (by kernel_rfl) (by kernel_rfl) (fun _ _ _ h => h) (Or.inl ⟨by rfl, fun w0 hSw => by ((have e0 := cell_nx X.c6 hSw); (have e1 := cell_nx X.c7 hSw); (have e2 := cell_nx X.c8 hSw); go_simp)⟩) hH ?_
  simp only [Act.put, List.setIfInBounds_toArray, List.set_cons_zero, List.set_cons_succ]
  refine wpAnyH_take (i := 16) (oi := { dst := some 26, op := Op.fieldAddr 28 (Operand.tmp 3) 0, type := 0, pos := "l17_raster.go:84", after := #[], guard := none }) (v := .pointer (some ⟨w.heap.size, 0, none⟩)) rfl (by kernel_rfl) (by kernel_rfl) (by kernel_rfl) (fun _ _ _ h => h) (Or.inl ⟨by rfl, fun w0 hSw => by (go_simp)⟩) hH ?_
  simp only [Act.put, List.setIfInBounds_toArray, List.set_cons_zero, List.set_cons_succ]
  refine wpAnyH_take (i := 17) (oi := { dst := some 27, op := Op.load 24 (Operand.tmp 26), type := 24, pos := "l17_raster.go:84", after := #[{ on := 16, ground := Ground.data }], guard := none }) (v := .agg #[.int .i64 ux, .int .i64 uy, .int .i64 uz]) rfl (by kernel_rfl) (by kernel_rfl) (by kernel_rfl) (fun _ _ _ h => h) (Or.inl ⟨by rfl, fun w0 hSw => by ((have e0 := cell_nx X.c0 hSw); (have e1 := cell_nx X.c1 hSw); (have e2 := cell_nx X.c2 hSw); go_simp)⟩) hH ?_
  simp only [Act.put, List.setIfInBounds_toArray, List.set_cons_zero, List.set_cons_succ]
  refine wpAnyH_take (i := 18) (oi := { dst := some 28, op := Op.move (Operand.tmp 1), type := 3, pos := "l17_raster.go:84", after := #[], guard := none }) (v := .int .i64 x) rfl (by kernel_rfl) (by kernel_rfl) (by kernel_rfl) (fun _ _ _ h => h) (Or.inl ⟨by rfl, fun w0 hSw => by (go_simp)⟩) hH ?_
  simp only [Act.put, List.setIfInBounds_toArray, List.set_cons_zero, List.set_cons_succ]
  refine wpAnyH_take (i := 19) (oi := { dst := some 29, op := Op.move (Operand.tmp 2), type := 3, pos := "l17_raster.go:84", after := #[], guard := none }) (v := .int .i64 y) rfl (by kernel_rfl) (by kernel_rfl) (by kernel_rfl) (fun _ _ _ h => h) (Or.inl ⟨by rfl, fun w0 hSw => by (go_simp)⟩) hH ?_
  simp only [Act.put, List.setIfInBounds_toArray, List.set_cons_zero, List.set_cons_succ]
  refine wpAnyH_take (i := 23) (oi := { dst := some 33, op := Op.fieldAddr 28 (Operand.tmp 3) 2, type := 0, pos := "l17_raster.go:84", after := #[], guard := none }) (v := .pointer (some ⟨w.heap.size, 6, none⟩)) rfl (by kernel_rfl) (by kernel_rfl) (by kernel_rfl) (fun _ _ _ h => h) (Or.inl ⟨by rfl, fun w0 hSw => by (go_simp)⟩) hH ?_
  simp only [Act.put, List.setIfInBounds_toArray, List.set_cons_zero, List.set_cons_succ]
  refine wpAnyH_take (i := 24) (oi := { dst := some 34, op := Op.fieldAddr 24 (Operand.tmp 33) 2, type := 0, pos := "l17_raster.go:84", after := #[{ on := 23, ground := Ground.data }], guard := none }) (v := .pointer (some ⟨w.heap.size, 8, none⟩)) rfl (by kernel_rfl) (by kernel_rfl) (by kernel_rfl) (fun _ _ _ h => h) (Or.inl ⟨by rfl, fun w0 hSw => by (go_simp)⟩) hH ?_
  simp only [Act.put, List.setIfInBounds_toArray, List.set_cons_zero, List.set_cons_succ]
  refine wpAnyH_take (i := 25) (oi := { dst := some 35, op := Op.load 3 (Operand.tmp 34), type := 3, pos := "l17_raster.go:84", after := #[{ on := 24, ground := Ground.data }], guard := none }) (v := .int .i64 sz) rfl (by kernel_rfl) (by kernel_rfl) (by kernel_rfl) (fun _ _ _ h => h) (Or.inl ⟨by rfl, fun w0 hSw => by ((have e0 := cell_nx X.c8 hSw); go_simp)⟩) hH ?_
  simp only [Act.put, List.setIfInBounds_toArray, List.set_cons_zero, List.set_cons_succ]
  refine wpAnyH_take (i := 26) (oi := { dst := some 36, op := Op.fieldAddr 28 (Operand.tmp 3) 0, type := 0, pos := "l17_raster.go:84", after := #[], guard := none }) (v := .pointer (some ⟨w.heap.size, 0, none⟩)) rfl (by kernel_rfl) (by kernel_rfl) (by kernel_rfl) (fun _ _ _ h => h) (Or.inl ⟨by rfl, fun w0 hSw => by (go_simp)⟩) hH ?_
  simp only [Act.put, List.setIfInBounds_toArray, List.set_cons_zero, List.set_cons_succ]
  refine wpAnyH_take (i := 27) (oi := { dst := some 37, op := Op.load 24 (Operand.tmp 36), type := 24, pos := "l17_raster.go:84", after := #[{ on := 26, ground := Ground.data }], guard := none }) (v := .agg #[.int .i64 ux, .int .i64 uy, .int .i64 uz]) rfl (by kernel_rfl) (by kernel_rfl) (by kernel_rfl) (fun _ _ _ h => h) (Or.inl ⟨by rfl, fun w0 hSw => by ((have e0 := cell_nx X.c0 hSw); (have e1 := cell_nx X.c1 hSw); (have e2 := cell_nx X.c2 hSw); go_simp)⟩) hH ?_
  simp only [Act.put, List.setIfInBounds_toArray, List.set_cons_zero, List.set_cons_succ]
  refine wpAnyH_take (i := 28) (oi := { dst := some 38, op := Op.fieldAddr 28 (Operand.tmp 3) 1, type := 0, pos := "l17_raster.go:84", after := #[], guard := none }) (v := .pointer (some ⟨w.heap.size, 3, none⟩)) rfl (by kernel_rfl) (by kernel_rfl) (by kernel_rfl) (fun _ _ _ h => h) (Or.inl ⟨by rfl, fun w0 hSw => by (go_simp)⟩) hH ?_
  simp only [Act.put, List.setIfInBounds_toArray, List.set_cons_zero, List.set_cons_succ]
  refine wpAnyH_take (i := 29) (oi := { dst := some 39, op := Op.load 24 (Operand.tmp 38), type := 24, pos := "l17_raster.go:84", after := #[{ on := 28, ground := Ground.data }], guard := none }) (v := .agg #[.int .i64 vx, .int .i64 vy, .int .i64 vz]) rfl (by kernel_rfl) (by kernel_rfl) (by kernel_rfl) (fun _ _ _ h => h) (Or.inl ⟨by rfl, fun w0 hSw => by ((have e0 := cell_nx X.c3 hSw); (have e1 := cell_nx X.c4 hSw); (have e2 := cell_nx X.c5 hSw); go_simp)⟩) hH ?_
  simp only [Act.put, List.setIfInBounds_toArray, List.set_cons_zero, List.set_cons_succ]
  refine wpAnyH_take (i := 30) (oi := { dst := some 40, op := Op.move (Operand.tmp 1), type := 3, pos := "l17_raster.go:84", after := #[], guard := none }) (v := .int .i64 x) rfl (by kernel_rfl) (by kernel_rfl) (by kernel_rfl) (fun _ _ _ h => h) (Or.inl ⟨by rfl, fun w0 hSw => by (go_simp)⟩) hH ?_
  simp only [Act.put, List.setIfInBounds_toArray, List.set_cons_zero, List.set_cons_succ]
  refine wpAnyH_take (i := 31) (oi := { dst := some 41, op := Op.move (Operand.tmp 2), type := 3, pos := "l17_raster.go:84", after := #[], guard := none }) (v := .int .i64 y) rfl (by kernel_rfl) (by kernel_rfl) (by kernel_rfl) (fun _ _ _ h => h) (Or.inl ⟨by rfl, fun w0 hSw => by (go_simp)⟩) hH ?_
  simp only [Act.put, List.setIfInBounds_toArray, List.set_cons_zero, List.set_cons_succ]
  refine wpAnyH_ready (rs := [9]) (by kernel_rfl) (by simp) ?_
  refine (AllReadyH.cons (o := { dst := some 19, op := Op.call { callee := Callee.value (Operand.func 95), args := #[Operand.tmp 14, Operand.tmp 16, Operand.tmp 17, Operand.tmp 18], argTypes := #[24, 24, 3, 3] }, type := 3, pos := "l17_raster.go:84", after := #[{ on := 4, ground := Ground.data }, { on := 6, ground := Ground.data }, { on := 7, ground := Ground.data }, { on := 8, ground := Ground.data }], guard := none }) rfl (fun K hK => ?_) AllReadyH.nil)
  refine step_callW 95 #[.agg #[.int .i64 vx, .int .i64 vy, .int .i64 vz], .agg #[.int .i64 sx, .int .i64 sy, .int .i64 sz], .int .i64 x, .int .i64 y] (fun z v w' => z = .int .i64 n1 ∧ Below v.heap.size v w') (by rfl) (by go_simp) ((HN1.out _).mono fun e w' ⟨h1, h2⟩ => ⟨_, h1, rfl, h2⟩) ?_
  rintro z1 w1 ⟨rfl, B9⟩
  simp only [Act.put, List.setIfInBounds_toArray, List.set_cons_zero, List.set_cons_succ]
  refine hK.out _ _ (hH.trans (B9.mono hH.size)) (fun hH' => ?_)
  clear hK K
  replace hH := hH'
  clear hH' 
  clear B9
  refine wpAnyH_take (i := 10) (oi := { dst := some 20, op := Op.binOp BinOp.mul 3 (Operand.tmp 12) (Operand.tmp 19) 3, type := 3, pos := "l17_raster.go:84", after := #[{ on := 2, ground := Ground.data }, { on := 9, ground := Ground.data }], guard := none }) (v := .int .i64 t1) rfl (by kernel_rfl) (by kernel_rfl) (by kernel_rfl) (fun _ _ _ h => h) (Or.inl ⟨by rfl, fun w0 hSw => by (go_simp)⟩) hH ?_
  simp only [Act.put, List.setIfInBounds_toArray, List.set_cons_zero, List.set_cons_succ]
  refine wpAnyH_ready (rs := [20]) (by kernel_rfl) (by simp) ?_
  refine (AllReadyH.cons (o := { dst := some 30, op := Op.call { callee := Callee.value (Operand.func 95), args := #[Operand.tmp 25, Operand.tmp 27, Operand.tmp 28, Operand.tmp 29], argTypes := #[24, 24, 3, 3] }, type := 3, pos := "l17_raster.go:84", after := #[{ on := 15, ground := Ground.data }, { on := 17, ground := Ground.data }, { on := 18, ground := Ground.data }, { on := 19, ground := Ground.data }, { on := 9, ground := Ground.chain }], guard := none }) rfl (fun K hK => ?_) AllReadyH.nil)
  refine step_callW 95 #[.agg #[.int .i64 sx, .int .i64 sy, .int .i64 sz], .agg #[.int .i64 ux, .int .i64 uy, .int .i64 uz], .int .i64 x, .int .i64 y] (fun z v w' => z = .int .i64 n2 ∧ Below v.heap.size v w') (by rfl) (by go_simp) ((HN2.out _).mono fun e w' ⟨h1, h2⟩ => ⟨_, h1, rfl, h2⟩) ?_
  rintro z2 w2 ⟨rfl, B9⟩
  simp only [Act.put, List.setIfInBounds_toArray, List.set_cons_zero, List.set_cons_succ]
  refine hK.out _ _ (hH.trans (B9.mono hH.size)) (fun hH' => ?_)
  clear hK K
  replace hH := hH'
  clear hH' 
  clear B9
  refine wpAnyH_take (i := 21) (oi := { dst := some 31, op := Op.binOp BinOp.mul 3 (Operand.tmp 23) (Operand.tmp 30) 3, type := 3, pos := "l17_raster.go:84", after := #[{ on := 13, ground := Ground.data }, { on := 20, ground := Ground.data }], guard := none }) (v := .int .i64 t2) rfl (by kernel_rfl) (by kernel_rfl) (by kernel_rfl) (fun _ _ _ h => h) (Or.inl ⟨by rfl, fun w0 hSw => by (go_simp)⟩) hH ?_
  simp only [Act.put, List.setIfInBounds_toArray, List.set_cons_zero, List.set_cons_succ]
  refine wpAnyH_take (i := 22) (oi := { dst := some 32, op := Op.binOp BinOp.add 3 (Operand.tmp 20) (Operand.tmp 31) 3, type := 3, pos := "l17_raster.go:84", after := #[{ on := 10, ground := Ground.data }, { on := 21, ground := Ground.data }], guard := none }) (v := .int .i64 (t1 + t2)) rfl (by kernel_rfl) (by kernel_rfl) (by kernel_rfl) (fun _ _ _ h => h) (Or.inl ⟨by rfl, fun w0 hSw => by (go_simp)⟩) hH ?_
  simp only [Act.put, List.setIfInBounds_toArray, List.set_cons_zero, List.set_cons_succ]
  refine wpAnyH_ready (rs := [32]) (by kernel_rfl) (by simp) ?_
  refine (AllReadyH.cons (o := { dst := some 42, op := Op.call { callee := Callee.value (Operand.func 95), args := #[Operand.tmp 37, Operand.tmp 39, Operand.tmp 40, Operand.tmp 41], argTypes := #[24, 24, 3, 3] }, type := 3, pos := "l17_raster.go:84", after := #[{ on := 27, ground := Ground.data }, { on := 29, ground := Ground.data }, { on := 30, ground := Ground.data }, { on := 31, ground := Ground.data }, { on := 20, ground := Ground.chain }], guard := none }) rfl (fun K hK => ?_) AllReadyH.nil)
  refine step_callW 95 #[.agg #[.int .i64 ux, .int .i64 uy, .int .i64 uz], .agg #[.int .i64 vx, .int .i64 vy, .int .i64 vz], .int .i64 x, .int .i64 y] (fun z v w' => z = .int .i64 n3 ∧ Below v.heap.size v w') (by rfl) (by go_simp) ((HN3.out _).mono fun e w' ⟨h1, h2⟩ => ⟨_, h1, rfl, h2⟩) ?_
  rintro z3 w3 ⟨rfl, B9⟩
  simp only [Act.put, List.setIfInBounds_toArray, List.set_cons_zero, List.set_cons_succ]
  refine hK.out _ _ (hH.trans (B9.mono hH.size)) (fun hH' => ?_)
  clear hK K
  replace hH := hH'
  clear hH' 
  clear B9
  refine wpAnyH_take (i := 33) (oi := { dst := some 43, op := Op.binOp BinOp.mul 3 (Operand.tmp 35) (Operand.tmp 42) 3, type := 3, pos := "l17_raster.go:84", after := #[{ on := 25, ground := Ground.data }, { on := 32, ground := Ground.data }], guard := none }) (v := .int .i64 t3) rfl (by kernel_rfl) (by kernel_rfl) (by kernel_rfl) (fun _ _ _ h => h) (Or.inl ⟨by rfl, fun w0 hSw => by (go_simp)⟩) hH ?_
  simp only [Act.put, List.setIfInBounds_toArray, List.set_cons_zero, List.set_cons_succ]
  refine wpAnyH_take (i := 34) (oi := { dst := some 44, op := Op.binOp BinOp.add 3 (Operand.tmp 32) (Operand.tmp 43) 3, type := 3, pos := "l17_raster.go:84", after := #[{ on := 22, ground := Ground.data }, { on := 33, ground := Ground.data }], guard := none }) (v := .int .i64 (t1 + t2 + t3)) rfl (by kernel_rfl) (by kernel_rfl) (by kernel_rfl) (fun _ _ _ h => h) (Or.inl ⟨by rfl, fun w0 hSw => by (go_simp)⟩) hH ?_
  simp only [Act.put, List.setIfInBounds_toArray, List.set_cons_zero, List.set_cons_succ]
  refine wpAnyH_take (i := 35) (oi := { dst := some 7, op := Op.assign (Operand.tmp 44), type := 3, pos := "l17_raster.go:84", after := #[{ on := 34, ground := Ground.data }, { on := 32, ground := Ground.chain }, { on := 0, ground := Ground.phase }, { on := 1, ground := Ground.phase }, { on := 2, ground := Ground.phase }, { on := 3, ground := Ground.phase }, { on := 4, ground := Ground.phase }, { on := 5, ground := Ground.phase }, { on := 6, ground := Ground.phase }, { on := 7, ground := Ground.phase }, { on := 8, ground := Ground.phase }, { on := 9, ground := Ground.phase }, { on := 10, ground := Ground.phase }, { on := 11, ground := Ground.phase }, { on := 12, ground := Ground.phase }, { on := 13, ground := Ground.phase }, { on := 14, ground := Ground.phase }, { on := 15, ground := Ground.phase }, { on := 16, ground := Ground.phase }, { on := 17, ground := Ground.phase }, { on := 18, ground := Ground.phase }, { on := 19, ground := Ground.phase }, { on := 20, ground := Ground.phase }, { on := 21, ground := Ground.phase }, { on := 22, ground := Ground.phase }, { on := 23, ground := Ground.phase }, { on := 24, ground := Ground.phase }, { on := 25, ground := Ground.phase }, { on := 26, ground := Ground.phase }, { on := 27, ground := Ground.phase }, { on := 28, ground := Ground.phase }, { on := 29, ground := Ground.phase }, { on := 30, ground := Ground.phase }, { on := 31, ground := Ground.phase }, { on := 32, ground := Ground.phase }, { on := 33, ground := Ground.phase }, { on := 34, ground := Ground.phase }], guard := none }) (v := .int .i64 (t1 + t2 + t3)) rfl (by kernel_rfl) (by kernel_rfl) (by kernel_rfl) (fun _ _ _ h => h) (Or.inl ⟨by rfl, fun w0 hSw => by (go_simp)⟩) hH ?_
  simp only [Act.put, List.setIfInBounds_toArray, List.set_cons_zero, List.set_cons_succ]
  refine wpAnyH_done (by kernel_rfl) ?_ _
  have XF := X.next hH
  have BF := BX.trans (hH.mono BX.size)
  clear X BX hH
  have p0 := XF.c0
  have p1 := XF.c1
  have p2 := XF.c2
  have p3 := XF.c3
  have p4 := XF.c4
  have p5 := XF.c5
  have p6 := XF.c6
  have p7 := XF.c7
  have p8 := XF.c8
  have p9 := XF.c9
  have p10 := XF.c10
  have p11 := XF.c11
  have p12 := XF.c12
  have pf := XF.f
  go_wp2_with (first | (go_at_call 55; refine (HA.out _).mono ?_; rintro e wy ⟨rfl, By⟩) | (go_at_call 96; refine (HFL.out _).mono ?_; rintro e wz ⟨rfl, hw⟩; subst wz))
  go_ret
  exact ⟨by rw [HV.out]; rfl, BF.trans (By.mono BF.size)⟩
set_option maxRecDepth 100000 in
set_option maxHeartbeats 16000000 in
theorem mdepth_neg (ux uy uz vx vy vz sx sy sz kr kg kb ka x y : Int) (w : World) (h : trB ux uy uz vx vy vz sx sy sz kr kg kb ka = true) (hs : arI ux uy vx vy sx sy < 0) (hx : ptB x y = true) : Calls Try.prog 66 #[.agg #[.int .i64 ux, .int .i64 uy, .int .i64 uz, .int .i64 vx, .int .i64 vy, .int .i64 vz, .int .i64 sx, .int .i64 sy, .int .i64 sz, .int .i64 kr, .int .i64 kg, .int .i64 kb, .int .i64 ka], .int .i64 x, .int .i64 y] w fun e w' => e = .returned (.int .i64 ((uz * nmI sx sy vx vy x y + sz * nmI vx vy ux uy x y + vz * nmI ux uy sx sy x y) / (-(arI ux uy vx vy sx sy)))) ∧ Below w.heap.size w w' := by
  have HT : Hid (∀ w', Calls Try.prog 63 #[.agg #[.int .i64 ux, .int .i64 uy, .int .i64 uz, .int .i64 vx, .int .i64 vy, .int .i64 vz, .int .i64 sx, .int .i64 sy, .int .i64 sz, .int .i64 kr, .int .i64 kg, .int .i64 kb, .int .i64 ka]] w' fun e w'' => e = .returned (.agg #[.int .i64 ux, .int .i64 uy, .int .i64 uz, .int .i64 sx, .int .i64 sy, .int .i64 sz, .int .i64 vx, .int .i64 vy, .int .i64 vz, .int .i64 kr, .int .i64 kg, .int .i64 kb, .int .i64 ka]) ∧ Below w'.heap.size w' w'') := fun w' => mturned_neg ux uy uz vx vy vz sx sy sz kr kg kb ka w' h hs
  obtain ⟨q1, q2, q3, z1, z2, z3, _⟩ := tr_pt h
  have hb := nm_bnd q1 q2 q3
  have h' : trB ux uy uz sx sy sz vx vy vz kr kg kb ka = true := by
    unfold trB at h ⊢
    simp only [Bool.and_eq_true] at h ⊢
    exact ⟨h.1, h.2.2.1, h.2.1, h.2.2.2⟩
  have ha : arI ux uy sx sy vx vy = -(arI ux uy vx vy sx sy) := by
    unfold arI nmI
    rw [Int.mul_comm (sx - ux) (vy - uy), Int.mul_comm (sy - uy) (vx - ux)]
    omega
  have HA : Hid (∀ w', Calls Try.prog 55 #[.agg #[.int .i64 ux, .int .i64 uy, .int .i64 uz, .int .i64 sx, .int .i64 sy, .int .i64 sz, .int .i64 vx, .int .i64 vy, .int .i64 vz, .int .i64 kr, .int .i64 kg, .int .i64 kb, .int .i64 ka]] w' fun e w'' => e = .returned (.int .i64 (-(arI ux uy vx vy sx sy))) ∧ Below w'.heap.size w' w'') := fun w' => by rw [← ha]; exact marea ux uy uz sx sy sz vx vy vz kr kg kb ka w' h'
  have HN1 : Hid (∀ w', Calls Try.prog 95 #[.agg #[.int .i64 sx, .int .i64 sy, .int .i64 sz], .agg #[.int .i64 vx, .int .i64 vy, .int .i64 vz], .int .i64 x, .int .i64 y] w' fun e w'' => e = .returned (.int .i64 (nmI sx sy vx vy x y)) ∧ Below w'.heap.size w' w'') := fun w' => mnum _ _ _ _ _ _ _ _ w' q3 q2 hx
  have b1 := nm_bnd q3 q2 hx
  have c1 := zn_bnd z1 b1
  have HN2 : Hid (∀ w', Calls Try.prog 95 #[.agg #[.int .i64 vx, .int .i64 vy, .int .i64 vz], .agg #[.int .i64 ux, .int .i64 uy, .int .i64 uz], .int .i64 x, .int .i64 y] w' fun e w'' => e = .returned (.int .i64 (nmI vx vy ux uy x y)) ∧ Below w'.heap.size w' w'') := fun w' => mnum _ _ _ _ _ _ _ _ w' q2 q1 hx
  have b2 := nm_bnd q2 q1 hx
  have c2 := zn_bnd z3 b2
  have HN3 : Hid (∀ w', Calls Try.prog 95 #[.agg #[.int .i64 ux, .int .i64 uy, .int .i64 uz], .agg #[.int .i64 sx, .int .i64 sy, .int .i64 sz], .int .i64 x, .int .i64 y] w' fun e w'' => e = .returned (.int .i64 (nmI ux uy sx sy x y)) ∧ Below w'.heap.size w' w'') := fun w' => mnum _ _ _ _ _ _ _ _ w' q1 q3 hx
  have b3 := nm_bnd q1 q3 hx
  have c3 := zn_bnd z2 b3
  have har : 0 < -(arI ux uy vx vy sx sy) ∧ -(arI ux uy vx vy sx sy) ≤ 134217728 := by
    have hb2 : -134217728 ≤ arI ux uy vx vy sx sy ∧ arI ux uy vx vy sx sy ≤ 134217728 := hb
    omega
  generalize -(arI ux uy vx vy sx sy) = a0 at HA har ⊢
  generalize nmI sx sy vx vy x y = n1 at HN1 b1 c1 ⊢
  obtain ⟨t1, ht1⟩ : ∃ t, uz * n1 = t := ⟨_, rfl⟩
  rw [ht1] at c1
  have m1 : IntKind.i64.wrap (uz * n1) = t1 := by rw [ht1]; exact (IntKind.wrap_i64 _).trans (by omega)
  rw [ht1]
  clear ht1
  generalize nmI vx vy ux uy x y = n2 at HN2 b2 c2 ⊢
  obtain ⟨t2, ht2⟩ : ∃ t, sz * n2 = t := ⟨_, rfl⟩
  rw [ht2] at c2
  have m2 : IntKind.i64.wrap (sz * n2) = t2 := by rw [ht2]; exact (IntKind.wrap_i64 _).trans (by omega)
  rw [ht2]
  clear ht2
  generalize nmI ux uy sx sy x y = n3 at HN3 b3 c3 ⊢
  obtain ⟨t3, ht3⟩ : ∃ t, vz * n3 = t := ⟨_, rfl⟩
  rw [ht3] at c3
  have m3 : IntKind.i64.wrap (vz * n3) = t3 := by rw [ht3]; exact (IntKind.wrap_i64 _).trans (by omega)
  rw [ht3]
  clear ht3
  have k1 : IntKind.i64.wrap (t1 + t2) = t1 + t2 := (IntKind.wrap_i64 _).trans (by omega)
  have k2 : IntKind.i64.wrap (t1 + t2 + t3) = t1 + t2 + t3 := (IntKind.wrap_i64 _).trans (by omega)
  have HFL := Hid.mk (fun w' : World => mfloorG (t1 + t2 + t3) a0 w' ⟨har.1, by omega⟩ (by omega))
  obtain ⟨V0, hV0⟩ : ∃ v, (t1 + t2 + t3) / a0 = v := ⟨_, rfl⟩
  have HV : Hid ((t1 + t2 + t3) / a0 = V0) := hV0
  rw [hV0]
  clear hV0 hb har q1 q2 q3 z1 z2 z3 h hs hx b1 b2 b3 c1 c2 c3 h' ha
  have HW : Hid (∀ w', Below (w.alloc (.cells #[.int .i64 ux, .int .i64 uy, .int .i64 uz, .int .i64 vx, .int .i64 vy, .int .i64 vz, .int .i64 sx, .int .i64 sy, .int .i64 sz, .int .i64 kr, .int .i64 kg, .int .i64 kb, .int .i64 ka] 28)).heap.size (w.alloc (.cells #[.int .i64 ux, .int .i64 uy, .int .i64 uz, .int .i64 vx, .int .i64 vy, .int .i64 vz, .int .i64 sx, .int .i64 sy, .int .i64 sz, .int .i64 kr, .int .i64 kg, .int .i64 kb, .int .i64 ka] 28)) w' → C13 w' w.heap.size (.int .i64 ux) (.int .i64 uy) (.int .i64 uz) (.int .i64 vx) (.int .i64 vy) (.int .i64 vz) (.int .i64 sx) (.int .i64 sy) (.int .i64 sz) (.int .i64 kr) (.int .i64 kg) (.int .i64 kb) (.int .i64 ka) ∧ Below w.heap.size w w') := fun w' b => ⟨(C13.new w 28 (.int .i64 ux) (.int .i64 uy) (.int .i64 uz) (.int .i64 vx) (.int .i64 vy) (.int .i64 vz) (.int .i64 sx) (.int .i64 sy) (.int .i64 sz) (.int .i64 kr) (.int .i64 kg) (.int .i64 kb) (.int .i64 ka)).next b, alloc_b.trans (b.mono (by simp))⟩
  go_enter Try.func66, Try.ntmps66
  go_upto_region 2 with (go_at_call 63; refine (HT.out _).mono ?_; rintro e w2 ⟨rfl, B2⟩; obtain ⟨X2, D2⟩ := HW.out _ B2; (have p0 := X2.c0); (have p1 := X2.c1); (have p2 := X2.c2); (have p3 := X2.c3); (have p4 := X2.c4); (have p5 := X2.c5); (have p6 := X2.c6); (have p7 := X2.c7); (have p8 := X2.c8); (have p9 := X2.c9); (have p10 := X2.c10); (have p11 := X2.c11); (have p12 := X2.c12); (have pf := X2.f))
  have X := (((((((((((((X2.s0 (.int .i64 ux)).s1 (.int .i64 uy)).s2 (.int .i64 uz)).s3 (.int .i64 sx)).s4 (.int .i64 sy)).s5 (.int .i64 sz)).s6 (.int .i64 vx)).s7 (.int .i64 vy)).s8 (.int .i64 vz)).s9 (.int .i64 kr)).s10 (.int .i64 kg)).s11 (.int .i64 kb)).s12 (.int .i64 ka))
  have BX := (((((((((((((D2.setCell (p := ⟨w.heap.size, 0, none⟩) (by simp) (.int .i64 ux)).setCell (p := ⟨w.heap.size, 1, none⟩) (by simp) (.int .i64 uy)).setCell (p := ⟨w.heap.size, 2, none⟩) (by simp) (.int .i64 uz)).setCell (p := ⟨w.heap.size, 3, none⟩) (by simp) (.int .i64 sx)).setCell (p := ⟨w.heap.size, 4, none⟩) (by simp) (.int .i64 sy)).setCell (p := ⟨w.heap.size, 5, none⟩) (by simp) (.int .i64 sz)).setCell (p := ⟨w.heap.size, 6, none⟩) (by simp) (.int .i64 vx)).setCell (p := ⟨w.heap.size, 7, none⟩) (by simp) (.int .i64 vy)).setCell (p := ⟨w.heap.size, 8, none⟩) (by simp) (.int .i64 vz)).setCell (p := ⟨w.heap.size, 9, none⟩) (by simp) (.int .i64 kr)).setCell (p := ⟨w.heap.size, 10, none⟩) (by simp) (.int .i64 kg)).setCell (p := ⟨w.heap.size, 11, none⟩) (by simp) (.int .i64 kb)).setCell (p := ⟨w.heap.size, 12, none⟩) (by simp) (.int .i64 ka))
  generalize (((((((((((((w2.setCell ⟨w.heap.size, 0, none⟩ (.int .i64 ux)).setCell ⟨w.heap.size, 1, none⟩ (.int .i64 uy)).setCell ⟨w.heap.size, 2, none⟩ (.int .i64 uz)).setCell ⟨w.heap.size, 3, none⟩ (.int .i64 sx)).setCell ⟨w.heap.size, 4, none⟩ (.int .i64 sy)).setCell ⟨w.heap.size, 5, none⟩ (.int .i64 sz)).setCell ⟨w.heap.size, 6, none⟩ (.int .i64 vx)).setCell ⟨w.heap.size, 7, none⟩ (.int .i64 vy)).setCell ⟨w.heap.size, 8, none⟩ (.int .i64 vz)).setCell ⟨w.heap.size, 9, none⟩ (.int .i64 kr)).setCell ⟨w.heap.size, 10, none⟩ (.int .i64 kg)).setCell ⟨w.heap.size, 11, none⟩ (.int .i64 kb)).setCell ⟨w.heap.size, 12, none⟩ (.int .i64 ka)) = wA at X BX ⊢
  clear X2 D2 B2 HW HT p0 p1 p2 p3 p4 p5 p6 p7 p8 p9 p10 p11 p12 pf
  generalize hWW : wA.drew = WX
  have X := X.next (below_drew (Below.refl _ _))
  have BX := below_drew BX
  rw [hWW] at X BX
  refine wp_region_held_drew (S := fun v => Below WX.heap.size WX v) (by kernel_rfl) (by rw [hWW]; exact Below.refl _ _) (fun hH => ?_)
  rw [hWW] at hH ⊢
  clear hWW
  refine wpAnyH_take (i := 0) (oi := { dst := some 10, op := Op.fieldAddr 28 (Operand.tmp 3) 0, type := 0, pos := "l17_raster.go:84", after := #[], guard := none }) (v := .pointer (some ⟨w.heap.size, 0, none⟩)) rfl (by kernel_rfl) (by kernel_rfl) (by kernel_rfl) (fun _ _ _ h => h) (Or.inl ⟨by rfl, fun w0 hSw => by (go_simp)⟩) hH ?_
  simp only [Act.put, List.setIfInBounds_toArray, List.set_cons_zero, List.set_cons_succ]
  refine wpAnyH_take (i := 1) (oi := { dst := some 11, op := Op.fieldAddr 24 (Operand.tmp 10) 2, type := 0, pos := "l17_raster.go:84", after := #[{ on := 0, ground := Ground.data }], guard := none }) (v := .pointer (some ⟨w.heap.size, 2, none⟩)) rfl (by kernel_rfl) (by kernel_rfl) (by kernel_rfl) (fun _ _ _ h => h) (Or.inl ⟨by rfl, fun w0 hSw => by (go_simp)⟩) hH ?_
  simp only [Act.put, List.setIfInBounds_toArray, List.set_cons_zero, List.set_cons_succ]
  refine wpAnyH_take (i := 2) (oi := { dst := some 12, op := Op.load 3 (Operand.tmp 11), type := 3, pos := "l17_raster.go:84", after := #[{ on := 1, ground := Ground.data }], guard := none }) (v := .int .i64 uz) rfl (by kernel_rfl) (by kernel_rfl) (by kernel_rfl) (fun _ _ _ h => h) (Or.inl ⟨by rfl, fun w0 hSw => by ((have e0 := cell_nx X.c2 hSw); go_simp)⟩) hH ?_
  simp only [Act.put, List.setIfInBounds_toArray, List.set_cons_zero, List.set_cons_succ]
  refine wpAnyH_take (i := 3) (oi := { dst := some 13, op := Op.fieldAddr 28 (Operand.tmp 3) 1, type := 0, pos := "l17_raster.go:84", after := #[], guard := none }) (v := .pointer (some ⟨w.heap.size, 3, none⟩)) rfl (by kernel_rfl) (by kernel_rfl) (by kernel_rfl) (fun _ _ _ h => h) (Or.inl ⟨by rfl, fun w0 hSw => by (go_simp)⟩) hH ?_
  simp only [Act.put, List.setIfInBounds_toArray, List.set_cons_zero, List.set_cons_succ]
  refine wpAnyH_take (i := 4) (oi := { dst := some 14, op := Op.load 24 (Operand.tmp 13), type := 24, pos := "l17_raster.go:84", after := #[{ on := 3, ground := Ground.data }], guard := none }) (v := .agg #[.int .i64 sx, .int .i64 sy, .int .i64 sz]) rfl (by kernel_rfl) (by kernel_rfl) (by kernel_rfl) (fun _ _ _ h => h) (Or.inl ⟨by rfl, fun w0 hSw => by ((have e0 := cell_nx X.c3 hSw); (have e1 := cell_nx X.c4 hSw); (have e2 := cell_nx X.c5 hSw); go_simp)⟩) hH ?_
  simp only [Act.put, List.setIfInBounds_toArray, List.set_cons_zero, List.set_cons_succ]
  refine wpAnyH_take (i := 5) (oi := { dst := some 15, op := Op.fieldAddr 28 (Operand.tmp 3) 2, type := 0, pos := "l17_raster.go:84", after := #[], guard := none }) (v := .pointer (some ⟨w.heap.size, 6, none⟩)) rfl (by kernel_rfl) (by kernel_rfl) (by kernel_rfl) (fun _ _ _ h => h) (Or.inl ⟨by rfl, fun w0 hSw => by (go_simp)⟩) hH ?_
  simp only [Act.put, List.setIfInBounds_toArray, List.set_cons_zero, List.set_cons_succ]
  refine wpAnyH_take (i := 6) (oi := { dst := some 16, op := Op.load 24 (Operand.tmp 15), type := 24, pos := "l17_raster.go:84", after := #[{ on := 5, ground := Ground.data }], guard := none }) (v := .agg #[.int .i64 vx, .int .i64 vy, .int .i64 vz]) rfl (by kernel_rfl) (by kernel_rfl) (by kernel_rfl) (fun _ _ _ h => h) (Or.inl ⟨by rfl, fun w0 hSw => by ((have e0 := cell_nx X.c6 hSw); (have e1 := cell_nx X.c7 hSw); (have e2 := cell_nx X.c8 hSw); go_simp)⟩) hH ?_
  simp only [Act.put, List.setIfInBounds_toArray, List.set_cons_zero, List.set_cons_succ]
  refine wpAnyH_take (i := 7) (oi := { dst := some 17, op := Op.move (Operand.tmp 1), type := 3, pos := "l17_raster.go:84", after := #[], guard := none }) (v := .int .i64 x) rfl (by kernel_rfl) (by kernel_rfl) (by kernel_rfl) (fun _ _ _ h => h) (Or.inl ⟨by rfl, fun w0 hSw => by (go_simp)⟩) hH ?_
  simp only [Act.put, List.setIfInBounds_toArray, List.set_cons_zero, List.set_cons_succ]
  refine wpAnyH_take (i := 8) (oi := { dst := some 18, op := Op.move (Operand.tmp 2), type := 3, pos := "l17_raster.go:84", after := #[], guard := none }) (v := .int .i64 y) rfl (by kernel_rfl) (by kernel_rfl) (by kernel_rfl) (fun _ _ _ h => h) (Or.inl ⟨by rfl, fun w0 hSw => by (go_simp)⟩) hH ?_
  simp only [Act.put, List.setIfInBounds_toArray, List.set_cons_zero, List.set_cons_succ]
  refine wpAnyH_take (i := 11) (oi := { dst := some 21, op := Op.fieldAddr 28 (Operand.tmp 3) 1, type := 0, pos := "l17_raster.go:84", after := #[], guard := none }) (v := .pointer (some ⟨w.heap.size, 3, none⟩)) rfl (by kernel_rfl) (by kernel_rfl) (by kernel_rfl) (fun _ _ _ h => h) (Or.inl ⟨by rfl, fun w0 hSw => by (go_simp)⟩) hH ?_
  simp only [Act.put, List.setIfInBounds_toArray, List.set_cons_zero, List.set_cons_succ]
  refine wpAnyH_take (i := 12) (oi := { dst := some 22, op := Op.fieldAddr 24 (Operand.tmp 21) 2, type := 0, pos := "l17_raster.go:84", after := #[{ on := 11, ground := Ground.data }], guard := none }) (v := .pointer (some ⟨w.heap.size, 5, none⟩)) rfl (by kernel_rfl) (by kernel_rfl) (by kernel_rfl) (fun _ _ _ h => h) (Or.inl ⟨by rfl, fun w0 hSw => by (go_simp)⟩) hH ?_
  simp only [Act.put, List.setIfInBounds_toArray, List.set_cons_zero, List.set_cons_succ]
  refine wpAnyH_take (i := 13) (oi := { dst := some 23, op := Op.load 3 (Operand.tmp 22), type := 3, pos := "l17_raster.go:84", after := #[{ on := 12, ground := Ground.data }], guard := none }) (v := .int .i64 sz) rfl (by kernel_rfl) (by kernel_rfl) (by kernel_rfl) (fun _ _ _ h => h) (Or.inl ⟨by rfl, fun w0 hSw => by ((have e0 := cell_nx X.c5 hSw); go_simp)⟩) hH ?_
  simp only [Act.put, List.setIfInBounds_toArray, List.set_cons_zero, List.set_cons_succ]
  refine wpAnyH_take (i := 14) (oi := { dst := some 24, op := Op.fieldAddr 28 (Operand.tmp 3) 2, type := 0, pos := "l17_raster.go:84", after := #[], guard := none }) (v := .pointer (some ⟨w.heap.size, 6, none⟩)) rfl (by kernel_rfl) (by kernel_rfl) (by kernel_rfl) (fun _ _ _ h => h) (Or.inl ⟨by rfl, fun w0 hSw => by (go_simp)⟩) hH ?_
  simp only [Act.put, List.setIfInBounds_toArray, List.set_cons_zero, List.set_cons_succ]
  refine wpAnyH_take (i := 15) (oi := { dst := some 25, op := Op.load 24 (Operand.tmp 24), type := 24, pos := "l17_raster.go:84", after := #[{ on := 14, ground := Ground.data }], guard := none }) (v := .agg #[.int .i64 vx, .int .i64 vy, .int .i64 vz]) rfl (by kernel_rfl) (by kernel_rfl) (by kernel_rfl) (fun _ _ _ h => h) (Or.inl ⟨by rfl, fun w0 hSw => by ((have e0 := cell_nx X.c6 hSw); (have e1 := cell_nx X.c7 hSw); (have e2 := cell_nx X.c8 hSw); go_simp)⟩) hH ?_
  simp only [Act.put, List.setIfInBounds_toArray, List.set_cons_zero, List.set_cons_succ]
  refine wpAnyH_take (i := 16) (oi := { dst := some 26, op := Op.fieldAddr 28 (Operand.tmp 3) 0, type := 0, pos := "l17_raster.go:84", after := #[], guard := none }) (v := .pointer (some ⟨w.heap.size, 0, none⟩)) rfl (by kernel_rfl) (by kernel_rfl) (by kernel_rfl) (fun _ _ _ h => h) (Or.inl ⟨by rfl, fun w0 hSw => by (go_simp)⟩) hH ?_
  simp only [Act.put, List.setIfInBounds_toArray, List.set_cons_zero, List.set_cons_succ]
  refine wpAnyH_take (i := 17) (oi := { dst := some 27, op := Op.load 24 (Operand.tmp 26), type := 24, pos := "l17_raster.go:84", after := #[{ on := 16, ground := Ground.data }], guard := none }) (v := .agg #[.int .i64 ux, .int .i64 uy, .int .i64 uz]) rfl (by kernel_rfl) (by kernel_rfl) (by kernel_rfl) (fun _ _ _ h => h) (Or.inl ⟨by rfl, fun w0 hSw => by ((have e0 := cell_nx X.c0 hSw); (have e1 := cell_nx X.c1 hSw); (have e2 := cell_nx X.c2 hSw); go_simp)⟩) hH ?_
  simp only [Act.put, List.setIfInBounds_toArray, List.set_cons_zero, List.set_cons_succ]
  refine wpAnyH_take (i := 18) (oi := { dst := some 28, op := Op.move (Operand.tmp 1), type := 3, pos := "l17_raster.go:84", after := #[], guard := none }) (v := .int .i64 x) rfl (by kernel_rfl) (by kernel_rfl) (by kernel_rfl) (fun _ _ _ h => h) (Or.inl ⟨by rfl, fun w0 hSw => by (go_simp)⟩) hH ?_
  simp only [Act.put, List.setIfInBounds_toArray, List.set_cons_zero, List.set_cons_succ]
  refine wpAnyH_take (i := 19) (oi := { dst := some 29, op := Op.move (Operand.tmp 2), type := 3, pos := "l17_raster.go:84", after := #[], guard := none }) (v := .int .i64 y) rfl (by kernel_rfl) (by kernel_rfl) (by kernel_rfl) (fun _ _ _ h => h) (Or.inl ⟨by rfl, fun w0 hSw => by (go_simp)⟩) hH ?_
  simp only [Act.put, List.setIfInBounds_toArray, List.set_cons_zero, List.set_cons_succ]
  refine wpAnyH_take (i := 23) (oi := { dst := some 33, op := Op.fieldAddr 28 (Operand.tmp 3) 2, type := 0, pos := "l17_raster.go:84", after := #[], guard := none }) (v := .pointer (some ⟨w.heap.size, 6, none⟩)) rfl (by kernel_rfl) (by kernel_rfl) (by kernel_rfl) (fun _ _ _ h => h) (Or.inl ⟨by rfl, fun w0 hSw => by (go_simp)⟩) hH ?_
  simp only [Act.put, List.setIfInBounds_toArray, List.set_cons_zero, List.set_cons_succ]
  refine wpAnyH_take (i := 24) (oi := { dst := some 34, op := Op.fieldAddr 24 (Operand.tmp 33) 2, type := 0, pos := "l17_raster.go:84", after := #[{ on := 23, ground := Ground.data }], guard := none }) (v := .pointer (some ⟨w.heap.size, 8, none⟩)) rfl (by kernel_rfl) (by kernel_rfl) (by kernel_rfl) (fun _ _ _ h => h) (Or.inl ⟨by rfl, fun w0 hSw => by (go_simp)⟩) hH ?_
  simp only [Act.put, List.setIfInBounds_toArray, List.set_cons_zero, List.set_cons_succ]
  refine wpAnyH_take (i := 25) (oi := { dst := some 35, op := Op.load 3 (Operand.tmp 34), type := 3, pos := "l17_raster.go:84", after := #[{ on := 24, ground := Ground.data }], guard := none }) (v := .int .i64 vz) rfl (by kernel_rfl) (by kernel_rfl) (by kernel_rfl) (fun _ _ _ h => h) (Or.inl ⟨by rfl, fun w0 hSw => by ((have e0 := cell_nx X.c8 hSw); go_simp)⟩) hH ?_
  simp only [Act.put, List.setIfInBounds_toArray, List.set_cons_zero, List.set_cons_succ]
  refine wpAnyH_take (i := 26) (oi := { dst := some 36, op := Op.fieldAddr 28 (Operand.tmp 3) 0, type := 0, pos := "l17_raster.go:84", after := #[], guard := none }) (v := .pointer (some ⟨w.heap.size, 0, none⟩)) rfl (by kernel_rfl) (by kernel_rfl) (by kernel_rfl) (fun _ _ _ h => h) (Or.inl ⟨by rfl, fun w0 hSw => by (go_simp)⟩) hH ?_
  simp only [Act.put, List.setIfInBounds_toArray, List.set_cons_zero, List.set_cons_succ]
  refine wpAnyH_take (i := 27) (oi := { dst := some 37, op := Op.load 24 (Operand.tmp 36), type := 24, pos := "l17_raster.go:84", after := #[{ on := 26, ground := Ground.data }], guard := none }) (v := .agg #[.int .i64 ux, .int .i64 uy, .int .i64 uz]) rfl (by kernel_rfl) (by kernel_rfl) (by kernel_rfl) (fun _ _ _ h => h) (Or.inl ⟨by rfl, fun w0 hSw => by ((have e0 := cell_nx X.c0 hSw); (have e1 := cell_nx X.c1 hSw); (have e2 := cell_nx X.c2 hSw); go_simp)⟩) hH ?_
  simp only [Act.put, List.setIfInBounds_toArray, List.set_cons_zero, List.set_cons_succ]
  refine wpAnyH_take (i := 28) (oi := { dst := some 38, op := Op.fieldAddr 28 (Operand.tmp 3) 1, type := 0, pos := "l17_raster.go:84", after := #[], guard := none }) (v := .pointer (some ⟨w.heap.size, 3, none⟩)) rfl (by kernel_rfl) (by kernel_rfl) (by kernel_rfl) (fun _ _ _ h => h) (Or.inl ⟨by rfl, fun w0 hSw => by (go_simp)⟩) hH ?_
  simp only [Act.put, List.setIfInBounds_toArray, List.set_cons_zero, List.set_cons_succ]
  refine wpAnyH_take (i := 29) (oi := { dst := some 39, op := Op.load 24 (Operand.tmp 38), type := 24, pos := "l17_raster.go:84", after := #[{ on := 28, ground := Ground.data }], guard := none }) (v := .agg #[.int .i64 sx, .int .i64 sy, .int .i64 sz]) rfl (by kernel_rfl) (by kernel_rfl) (by kernel_rfl) (fun _ _ _ h => h) (Or.inl ⟨by rfl, fun w0 hSw => by ((have e0 := cell_nx X.c3 hSw); (have e1 := cell_nx X.c4 hSw); (have e2 := cell_nx X.c5 hSw); go_simp)⟩) hH ?_
  simp only [Act.put, List.setIfInBounds_toArray, List.set_cons_zero, List.set_cons_succ]
  refine wpAnyH_take (i := 30) (oi := { dst := some 40, op := Op.move (Operand.tmp 1), type := 3, pos := "l17_raster.go:84", after := #[], guard := none }) (v := .int .i64 x) rfl (by kernel_rfl) (by kernel_rfl) (by kernel_rfl) (fun _ _ _ h => h) (Or.inl ⟨by rfl, fun w0 hSw => by (go_simp)⟩) hH ?_
  simp only [Act.put, List.setIfInBounds_toArray, List.set_cons_zero, List.set_cons_succ]
  refine wpAnyH_take (i := 31) (oi := { dst := some 41, op := Op.move (Operand.tmp 2), type := 3, pos := "l17_raster.go:84", after := #[], guard := none }) (v := .int .i64 y) rfl (by kernel_rfl) (by kernel_rfl) (by kernel_rfl) (fun _ _ _ h => h) (Or.inl ⟨by rfl, fun w0 hSw => by (go_simp)⟩) hH ?_
  simp only [Act.put, List.setIfInBounds_toArray, List.set_cons_zero, List.set_cons_succ]
  refine wpAnyH_ready (rs := [9]) (by kernel_rfl) (by simp) ?_
  refine (AllReadyH.cons (o := { dst := some 19, op := Op.call { callee := Callee.value (Operand.func 95), args := #[Operand.tmp 14, Operand.tmp 16, Operand.tmp 17, Operand.tmp 18], argTypes := #[24, 24, 3, 3] }, type := 3, pos := "l17_raster.go:84", after := #[{ on := 4, ground := Ground.data }, { on := 6, ground := Ground.data }, { on := 7, ground := Ground.data }, { on := 8, ground := Ground.data }], guard := none }) rfl (fun K hK => ?_) AllReadyH.nil)
  refine step_callW 95 #[.agg #[.int .i64 sx, .int .i64 sy, .int .i64 sz], .agg #[.int .i64 vx, .int .i64 vy, .int .i64 vz], .int .i64 x, .int .i64 y] (fun z v w' => z = .int .i64 n1 ∧ Below v.heap.size v w') (by rfl) (by go_simp) ((HN1.out _).mono fun e w' ⟨h1, h2⟩ => ⟨_, h1, rfl, h2⟩) ?_
  rintro z1 w1 ⟨rfl, B9⟩
  simp only [Act.put, List.setIfInBounds_toArray, List.set_cons_zero, List.set_cons_succ]
  refine hK.out _ _ (hH.trans (B9.mono hH.size)) (fun hH' => ?_)
  clear hK K
  replace hH := hH'
  clear hH' 
  clear B9
  refine wpAnyH_take (i := 10) (oi := { dst := some 20, op := Op.binOp BinOp.mul 3 (Operand.tmp 12) (Operand.tmp 19) 3, type := 3, pos := "l17_raster.go:84", after := #[{ on := 2, ground := Ground.data }, { on := 9, ground := Ground.data }], guard := none }) (v := .int .i64 t1) rfl (by kernel_rfl) (by kernel_rfl) (by kernel_rfl) (fun _ _ _ h => h) (Or.inl ⟨by rfl, fun w0 hSw => by (go_simp)⟩) hH ?_
  simp only [Act.put, List.setIfInBounds_toArray, List.set_cons_zero, List.set_cons_succ]
  refine wpAnyH_ready (rs := [20]) (by kernel_rfl) (by simp) ?_
  refine (AllReadyH.cons (o := { dst := some 30, op := Op.call { callee := Callee.value (Operand.func 95), args := #[Operand.tmp 25, Operand.tmp 27, Operand.tmp 28, Operand.tmp 29], argTypes := #[24, 24, 3, 3] }, type := 3, pos := "l17_raster.go:84", after := #[{ on := 15, ground := Ground.data }, { on := 17, ground := Ground.data }, { on := 18, ground := Ground.data }, { on := 19, ground := Ground.data }, { on := 9, ground := Ground.chain }], guard := none }) rfl (fun K hK => ?_) AllReadyH.nil)
  refine step_callW 95 #[.agg #[.int .i64 vx, .int .i64 vy, .int .i64 vz], .agg #[.int .i64 ux, .int .i64 uy, .int .i64 uz], .int .i64 x, .int .i64 y] (fun z v w' => z = .int .i64 n2 ∧ Below v.heap.size v w') (by rfl) (by go_simp) ((HN2.out _).mono fun e w' ⟨h1, h2⟩ => ⟨_, h1, rfl, h2⟩) ?_
  rintro z2 w2 ⟨rfl, B9⟩
  simp only [Act.put, List.setIfInBounds_toArray, List.set_cons_zero, List.set_cons_succ]
  refine hK.out _ _ (hH.trans (B9.mono hH.size)) (fun hH' => ?_)
  clear hK K
  replace hH := hH'
  clear hH' 
  clear B9
  refine wpAnyH_take (i := 21) (oi := { dst := some 31, op := Op.binOp BinOp.mul 3 (Operand.tmp 23) (Operand.tmp 30) 3, type := 3, pos := "l17_raster.go:84", after := #[{ on := 13, ground := Ground.data }, { on := 20, ground := Ground.data }], guard := none }) (v := .int .i64 t2) rfl (by kernel_rfl) (by kernel_rfl) (by kernel_rfl) (fun _ _ _ h => h) (Or.inl ⟨by rfl, fun w0 hSw => by (go_simp)⟩) hH ?_
  simp only [Act.put, List.setIfInBounds_toArray, List.set_cons_zero, List.set_cons_succ]
  refine wpAnyH_take (i := 22) (oi := { dst := some 32, op := Op.binOp BinOp.add 3 (Operand.tmp 20) (Operand.tmp 31) 3, type := 3, pos := "l17_raster.go:84", after := #[{ on := 10, ground := Ground.data }, { on := 21, ground := Ground.data }], guard := none }) (v := .int .i64 (t1 + t2)) rfl (by kernel_rfl) (by kernel_rfl) (by kernel_rfl) (fun _ _ _ h => h) (Or.inl ⟨by rfl, fun w0 hSw => by (go_simp)⟩) hH ?_
  simp only [Act.put, List.setIfInBounds_toArray, List.set_cons_zero, List.set_cons_succ]
  refine wpAnyH_ready (rs := [32]) (by kernel_rfl) (by simp) ?_
  refine (AllReadyH.cons (o := { dst := some 42, op := Op.call { callee := Callee.value (Operand.func 95), args := #[Operand.tmp 37, Operand.tmp 39, Operand.tmp 40, Operand.tmp 41], argTypes := #[24, 24, 3, 3] }, type := 3, pos := "l17_raster.go:84", after := #[{ on := 27, ground := Ground.data }, { on := 29, ground := Ground.data }, { on := 30, ground := Ground.data }, { on := 31, ground := Ground.data }, { on := 20, ground := Ground.chain }], guard := none }) rfl (fun K hK => ?_) AllReadyH.nil)
  refine step_callW 95 #[.agg #[.int .i64 ux, .int .i64 uy, .int .i64 uz], .agg #[.int .i64 sx, .int .i64 sy, .int .i64 sz], .int .i64 x, .int .i64 y] (fun z v w' => z = .int .i64 n3 ∧ Below v.heap.size v w') (by rfl) (by go_simp) ((HN3.out _).mono fun e w' ⟨h1, h2⟩ => ⟨_, h1, rfl, h2⟩) ?_
  rintro z3 w3 ⟨rfl, B9⟩
  simp only [Act.put, List.setIfInBounds_toArray, List.set_cons_zero, List.set_cons_succ]
  refine hK.out _ _ (hH.trans (B9.mono hH.size)) (fun hH' => ?_)
  clear hK K
  replace hH := hH'
  clear hH' 
  clear B9
  refine wpAnyH_take (i := 33) (oi := { dst := some 43, op := Op.binOp BinOp.mul 3 (Operand.tmp 35) (Operand.tmp 42) 3, type := 3, pos := "l17_raster.go:84", after := #[{ on := 25, ground := Ground.data }, { on := 32, ground := Ground.data }], guard := none }) (v := .int .i64 t3) rfl (by kernel_rfl) (by kernel_rfl) (by kernel_rfl) (fun _ _ _ h => h) (Or.inl ⟨by rfl, fun w0 hSw => by (go_simp)⟩) hH ?_
  simp only [Act.put, List.setIfInBounds_toArray, List.set_cons_zero, List.set_cons_succ]
  refine wpAnyH_take (i := 34) (oi := { dst := some 44, op := Op.binOp BinOp.add 3 (Operand.tmp 32) (Operand.tmp 43) 3, type := 3, pos := "l17_raster.go:84", after := #[{ on := 22, ground := Ground.data }, { on := 33, ground := Ground.data }], guard := none }) (v := .int .i64 (t1 + t2 + t3)) rfl (by kernel_rfl) (by kernel_rfl) (by kernel_rfl) (fun _ _ _ h => h) (Or.inl ⟨by rfl, fun w0 hSw => by (go_simp)⟩) hH ?_
  simp only [Act.put, List.setIfInBounds_toArray, List.set_cons_zero, List.set_cons_succ]
  refine wpAnyH_take (i := 35) (oi := { dst := some 7, op := Op.assign (Operand.tmp 44), type := 3, pos := "l17_raster.go:84", after := #[{ on := 34, ground := Ground.data }, { on := 32, ground := Ground.chain }, { on := 0, ground := Ground.phase }, { on := 1, ground := Ground.phase }, { on := 2, ground := Ground.phase }, { on := 3, ground := Ground.phase }, { on := 4, ground := Ground.phase }, { on := 5, ground := Ground.phase }, { on := 6, ground := Ground.phase }, { on := 7, ground := Ground.phase }, { on := 8, ground := Ground.phase }, { on := 9, ground := Ground.phase }, { on := 10, ground := Ground.phase }, { on := 11, ground := Ground.phase }, { on := 12, ground := Ground.phase }, { on := 13, ground := Ground.phase }, { on := 14, ground := Ground.phase }, { on := 15, ground := Ground.phase }, { on := 16, ground := Ground.phase }, { on := 17, ground := Ground.phase }, { on := 18, ground := Ground.phase }, { on := 19, ground := Ground.phase }, { on := 20, ground := Ground.phase }, { on := 21, ground := Ground.phase }, { on := 22, ground := Ground.phase }, { on := 23, ground := Ground.phase }, { on := 24, ground := Ground.phase }, { on := 25, ground := Ground.phase }, { on := 26, ground := Ground.phase }, { on := 27, ground := Ground.phase }, { on := 28, ground := Ground.phase }, { on := 29, ground := Ground.phase }, { on := 30, ground := Ground.phase }, { on := 31, ground := Ground.phase }, { on := 32, ground := Ground.phase }, { on := 33, ground := Ground.phase }, { on := 34, ground := Ground.phase }], guard := none }) (v := .int .i64 (t1 + t2 + t3)) rfl (by kernel_rfl) (by kernel_rfl) (by kernel_rfl) (fun _ _ _ h => h) (Or.inl ⟨by rfl, fun w0 hSw => by (go_simp)⟩) hH ?_
  simp only [Act.put, List.setIfInBounds_toArray, List.set_cons_zero, List.set_cons_succ]
  refine wpAnyH_done (by kernel_rfl) ?_ _
  have XF := X.next hH
  have BF := BX.trans (hH.mono BX.size)
  clear X BX hH
  have p0 := XF.c0
  have p1 := XF.c1
  have p2 := XF.c2
  have p3 := XF.c3
  have p4 := XF.c4
  have p5 := XF.c5
  have p6 := XF.c6
  have p7 := XF.c7
  have p8 := XF.c8
  have p9 := XF.c9
  have p10 := XF.c10
  have p11 := XF.c11
  have p12 := XF.c12
  have pf := XF.f
  go_wp2_with (first | (go_at_call 55; refine (HA.out _).mono ?_; rintro e wy ⟨rfl, By⟩) | (go_at_call 96; refine (HFL.out _).mono ?_; rintro e wz ⟨rfl, hw⟩; subst wz))
  go_ret
  exact ⟨by rw [HV.out]; rfl, BF.trans (By.mono BF.size)⟩
end Go.Proofs.Ytglhlpbaaoekgaa
