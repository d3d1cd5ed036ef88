/- Turned tris: the model. -/
import Derived.Test.YtglhlpbaaoekgaaBf
import Derived.Deep.Cut
import Derived.Deep.DeepCutAuto
import Derived.Deep.CutBlock
namespace Go.Proofs.Ytglhlpbaaoekgaa
open Go.ChangeShapes Go.WideShapes Go.ChangeAt Go.RowKit
set_option linter.unusedVariables false
theorem C3.far {w : World} {b : Nat} {v0 v1 v2 : Value} (h : C3 w b v0 v1 v2) (g j : Nat) (x : Value) (hg : b ≠ g) : C3 (w.setCell ⟨g, j, none⟩ x) b v0 v1 v2 := h.block (Below.heap_setCell w ⟨g, j, none⟩ x b hg) (by simp)
set_option maxRecDepth 100000 in
set_option maxHeartbeats 8000000 in
theorem mturned_pos (ux uy uz vx vy vz sx sy sz kr kg kb ka : Int) (w : World) (h : trB ux uy uz vx vy vz sx sy sz kr kg kb ka = true) (hs : ¬ arI ux uy vx vy sx sy < 0) : Calls Try.prog 63 #[.agg #[.int .i64 ux, .int .i64 uy, .int .i64 uz, .int .i64 vx, .int .i64 vy, .int .i64 vz, .int .i64 sx, .int .i64 sy, .int .i64 sz, .int .i64 kr, .int .i64 kg, .int .i64 kb, .int .i64 ka]] w fun e w' => e = .returned (.agg #[.int .i64 ux, .int .i64 uy, .int .i64 uz, .int .i64 vx, .int .i64 vy, .int .i64 vz, .int .i64 sx, .int .i64 sy, .int .i64 sz, .int .i64 kr, .int .i64 kg, .int .i64 kb, .int .i64 ka]) ∧ Below w.heap.size w w' := by
  have HA : Hid (∀ w', Calls Try.prog 55 #[.agg #[.int .i64 ux, .int .i64 uy, .int .i64 uz, .int .i64 vx, .int .i64 vy, .int .i64 vz, .int .i64 sx, .int .i64 sy, .int .i64 sz, .int .i64 kr, .int .i64 kg, .int .i64 kb, .int .i64 ka]] w' fun e w'' => e = .returned (.int .i64 (arI ux uy vx vy sx sy)) ∧ Below w'.heap.size w' w'') := fun w' => marea ux uy uz vx vy vz sx sy sz kr kg kb ka w' h
  generalize arI ux uy vx vy sx sy = ar at HA hs
  clear h
  obtain ⟨V, hV⟩ : ∃ V, ((w.alloc (.cells #[.int .i64 ux, .int .i64 uy, .int .i64 uz, .int .i64 vx, .int .i64 vy, .int .i64 vz, .int .i64 sx, .int .i64 sy, .int .i64 sz, .int .i64 kr, .int .i64 kg, .int .i64 kb, .int .i64 ka] 28)).alloc (.cells #[.int .i64 0, .int .i64 0, .int .i64 0, .int .i64 0, .int .i64 0, .int .i64 0, .int .i64 0, .int .i64 0, .int .i64 0, .int .i64 0, .int .i64 0, .int .i64 0, .int .i64 0] 28)) = V := ⟨_, rfl⟩
  have HV : Hid (∀ v, Below V.heap.size V v → C13 v w.heap.size (.int .i64 ux) (.int .i64 uy) (.int .i64 uz) (.int .i64 vx) (.int .i64 vy) (.int .i64 vz) (.int .i64 sx) (.int .i64 sy) (.int .i64 sz) (.int .i64 kr) (.int .i64 kg) (.int .i64 kb) (.int .i64 ka) ∧ C13 v (w.heap.size + 1) (.int .i64 0) (.int .i64 0) (.int .i64 0) (.int .i64 0) (.int .i64 0) (.int .i64 0) (.int .i64 0) (.int .i64 0) (.int .i64 0) (.int .i64 0) (.int .i64 0) (.int .i64 0) (.int .i64 0) ∧ Below w.heap.size w v) := fun v b => by
    rw [← hV] at b
    have h1 := C13.new (w.alloc (.cells #[.int .i64 ux, .int .i64 uy, .int .i64 uz, .int .i64 vx, .int .i64 vy, .int .i64 vz, .int .i64 sx, .int .i64 sy, .int .i64 sz, .int .i64 kr, .int .i64 kg, .int .i64 kb, .int .i64 ka] 28)) 28 (.int .i64 0) (.int .i64 0) (.int .i64 0) (.int .i64 0) (.int .i64 0) (.int .i64 0) (.int .i64 0) (.int .i64 0) (.int .i64 0) (.int .i64 0) (.int .i64 0) (.int .i64 0) (.int .i64 0)
    rw [World.size_alloc] at h1
    exact ⟨((C13.new w 28 (.int .i64 ux) (.int .i64 uy) (.int .i64 uz) (.int .i64 vx) (.int .i64 vy) (.int .i64 vz) (.int .i64 sx) (.int .i64 sy) (.int .i64 sz) (.int .i64 kr) (.int .i64 kg) (.int .i64 kb) (.int .i64 ka)).next (alloc_b (o := .cells #[.int .i64 0, .int .i64 0, .int .i64 0, .int .i64 0, .int .i64 0, .int .i64 0, .int .i64 0, .int .i64 0, .int .i64 0, .int .i64 0, .int .i64 0, .int .i64 0, .int .i64 0] 28))).next b, h1.next b, ((alloc_b).trans ((alloc_b).mono (by simp))).trans (b.mono (by simp; omega))⟩
  have HVE := Hid.mk hV
  clear hV
  obtain ⟨X0, X1, BV⟩ := HV.out V (Below.refl _ _)
  have p0 := X0.c0
  have p1 := X0.c1
  have p2 := X0.c2
  have p3 := X0.c3
  have p4 := X0.c4
  have p5 := X0.c5
  have p6 := X0.c6
  have p7 := X0.c7
  have p8 := X0.c8
  have p9 := X0.c9
  have p10 := X0.c10
  have p11 := X0.c11
  have p12 := X0.c12
  have pf := X0.f
  clear X0 X1 BV
  go_enter Try.func63, Try.ntmps63
  go_upto_region 1 with fail
  rw [HVE.out]
  clear HVE
  go_wp2_with (go_at_call 55; refine (HA.out _).mono ?_; rintro e w2 ⟨rfl, B2⟩; obtain ⟨X2, R2, D2⟩ := HV.out w2 B2; clear p0 p1 p2 p3 p4 p5 p6 p7 p8 p9 p10 p11 p12 pf; (have p0 := X2.c0); (have p1 := X2.c1); (have p2 := X2.c2); (have p3 := X2.c3); (have p4 := X2.c4); (have p5 := X2.c5); (have p6 := X2.c6); (have p7 := X2.c7); (have p8 := X2.c8); (have p9 := X2.c9); (have p10 := X2.c10); (have p11 := X2.c11); (have p12 := X2.c12); (have pf := X2.f); (have r0 := R2.c0); (have r1 := R2.c1); (have r2 := R2.c2); (have r3 := R2.c3); (have r4 := R2.c4); (have r5 := R2.c5); (have r6 := R2.c6); (have r7 := R2.c7); (have r8 := R2.c8); (have r9 := R2.c9); (have r10 := R2.c10); (have r11 := R2.c11); (have r12 := R2.c12); (have rf := R2.f))
  have YD := (((((((((((((R2.s0 (.int .i64 ux)).s1 (.int .i64 uy)).s2 (.int .i64 uz)).s3 (.int .i64 vx)).s4 (.int .i64 vy)).s5 (.int .i64 vz)).s6 (.int .i64 sx)).s7 (.int .i64 sy)).s8 (.int .i64 sz)).s9 (.int .i64 kr)).s10 (.int .i64 kg)).s11 (.int .i64 kb)).s12 (.int .i64 ka))
  have BE := (((((((((((((D2.setCell (p := ⟨w.heap.size + 1, 0, none⟩) (by simp) (.int .i64 ux)).setCell (p := ⟨w.heap.size + 1, 1, none⟩) (by simp) (.int .i64 uy)).setCell (p := ⟨w.heap.size + 1, 2, none⟩) (by simp) (.int .i64 uz)).setCell (p := ⟨w.heap.size + 1, 3, none⟩) (by simp) (.int .i64 vx)).setCell (p := ⟨w.heap.size + 1, 4, none⟩) (by simp) (.int .i64 vy)).setCell (p := ⟨w.heap.size + 1, 5, none⟩) (by simp) (.int .i64 vz)).setCell (p := ⟨w.heap.size + 1, 6, none⟩) (by simp) (.int .i64 sx)).setCell (p := ⟨w.heap.size + 1, 7, none⟩) (by simp) (.int .i64 sy)).setCell (p := ⟨w.heap.size + 1, 8, none⟩) (by simp) (.int .i64 sz)).setCell (p := ⟨w.heap.size + 1, 9, none⟩) (by simp) (.int .i64 kr)).setCell (p := ⟨w.heap.size + 1, 10, none⟩) (by simp) (.int .i64 kg)).setCell (p := ⟨w.heap.size + 1, 11, none⟩) (by simp) (.int .i64 kb)).setCell (p := ⟨w.heap.size + 1, 12, none⟩) (by simp) (.int .i64 ka))
  exact bodyPost_ret (v := .agg #[.int .i64 ux, .int .i64 uy, .int .i64 uz, .int .i64 vx, .int .i64 vy, .int .i64 vz, .int .i64 sx, .int .i64 sy, .int .i64 sz, .int .i64 kr, .int .i64 kg, .int .i64 kb, .int .i64 ka]) (by simp [results, Try.results63, go_sem, YD.c0, YD.c1, YD.c2, YD.c3, YD.c4, YD.c5, YD.c6, YD.c7, YD.c8, YD.c9, YD.c10, YD.c11, YD.c12]) rfl ⟨rfl, BE⟩
set_option maxRecDepth 100000 in
set_option maxHeartbeats 8000000 in
theorem mturned_neg (ux uy uz vx vy vz sx sy sz kr kg kb ka : Int) (w : World) (h : trB ux uy uz vx vy vz sx sy sz kr kg kb ka = true) (hs : arI ux uy vx vy sx sy < 0) : Calls Try.prog 63 #[.agg #[.int .i64 ux, .int .i64 uy, .int .i64 uz, .int .i64 vx, .int .i64 vy, .int .i64 vz, .int .i64 sx, .int .i64 sy, .int .i64 sz, .int .i64 kr, .int .i64 kg, .int .i64 kb, .int .i64 ka]] w fun e w' => e = .returned (.agg #[.int .i64 ux, .int .i64 uy, .int .i64 uz, .int .i64 sx, .int .i64 sy, .int .i64 sz, .int .i64 vx, .int .i64 vy, .int .i64 vz, .int .i64 kr, .int .i64 kg, .int .i64 kb, .int .i64 ka]) ∧ Below w.heap.size w w' := by
  have HA : Hid (∀ w', Calls Try.prog 55 #[.agg #[.int .i64 ux, .int .i64 uy, .int .i64 uz, .int .i64 vx, .int .i64 vy, .int .i64 vz, .int .i64 sx, .int .i64 sy, .int .i64 sz, .int .i64 kr, .int .i64 kg, .int .i64 kb, .int .i64 ka]] w' fun e w'' => e = .returned (.int .i64 (arI ux uy vx vy sx sy)) ∧ Below w'.heap.size w' w'') := fun w' => marea ux uy uz vx vy vz sx sy sz kr kg kb ka w' h
  generalize arI ux uy vx vy sx sy = ar at HA hs
  clear h
  obtain ⟨V, hV⟩ : ∃ V, ((w.alloc (.cells #[.int .i64 ux, .int .i64 uy, .int .i64 uz, .int .i64 vx, .int .i64 vy, .int .i64 vz, .int .i64 sx, .int .i64 sy, .int .i64 sz, .int .i64 kr, .int .i64 kg, .int .i64 kb, .int .i64 ka] 28)).alloc (.cells #[.int .i64 0, .int .i64 0, .int .i64 0, .int .i64 0, .int .i64 0, .int .i64 0, .int .i64 0, .int .i64 0, .int .i64 0, .int .i64 0, .int .i64 0, .int .i64 0, .int .i64 0] 28)) = V := ⟨_, rfl⟩
  have HV : Hid (∀ v, Below V.heap.size V v → C13 v w.heap.size (.int .i64 ux) (.int .i64 uy) (.int .i64 uz) (.int .i64 vx) (.int .i64 vy) (.int .i64 vz) (.int .i64 sx) (.int .i64 sy) (.int .i64 sz) (.int .i64 kr) (.int .i64 kg) (.int .i64 kb) (.int .i64 ka) ∧ C13 v (w.heap.size + 1) (.int .i64 0) (.int .i64 0) (.int .i64 0) (.int .i64 0) (.int .i64 0) (.int .i64 0) (.int .i64 0) (.int .i64 0) (.int .i64 0) (.int .i64 0) (.int .i64 0) (.int .i64 0) (.int .i64 0) ∧ Below w.heap.size w v) := fun v b => by
    rw [← hV] at b
    have h1 := C13.new (w.alloc (.cells #[.int .i64 ux, .int .i64 uy, .int .i64 uz, .int .i64 vx, .int .i64 vy, .int .i64 vz, .int .i64 sx, .int .i64 sy, .int .i64 sz, .int .i64 kr, .int .i64 kg, .int .i64 kb, .int .i64 ka] 28)) 28 (.int .i64 0) (.int .i64 0) (.int .i64 0) (.int .i64 0) (.int .i64 0) (.int .i64 0) (.int .i64 0) (.int .i64 0) (.int .i64 0) (.int .i64 0) (.int .i64 0) (.int .i64 0) (.int .i64 0)
    rw [World.size_alloc] at h1
    exact ⟨((C13.new w 28 (.int .i64 ux) (.int .i64 uy) (.int .i64 uz) (.int .i64 vx) (.int .i64 vy) (.int .i64 vz) (.int .i64 sx) (.int .i64 sy) (.int .i64 sz) (.int .i64 kr) (.int .i64 kg) (.int .i64 kb) (.int .i64 ka)).next (alloc_b (o := .cells #[.int .i64 0, .int .i64 0, .int .i64 0, .int .i64 0, .int .i64 0, .int .i64 0, .int .i64 0, .int .i64 0, .int .i64 0, .int .i64 0, .int .i64 0, .int .i64 0, .int .i64 0] 28))).next b, h1.next b, ((alloc_b).trans ((alloc_b).mono (by simp))).trans (b.mono (by simp; omega))⟩
  have HVE := Hid.mk hV
  clear hV
  obtain ⟨X0, X1, BV⟩ := HV.out V (Below.refl _ _)
  have p0 := X0.c0
  have p1 := X0.c1
  have p2 := X0.c2
  have p3 := X0.c3
  have p4 := X0.c4
  have p5 := X0.c5
  have p6 := X0.c6
  have p7 := X0.c7
  have p8 := X0.c8
  have p9 := X0.c9
  have p10 := X0.c10
  have p11 := X0.c11
  have p12 := X0.c12
  have pf := X0.f
  clear X0 X1 BV
  go_enter Try.func63, Try.ntmps63
  go_upto_region 1 with fail
  rw [HVE.out]
  clear HVE
  go_upto_region 3 with (go_at_call 55; refine (HA.out _).mono ?_; rintro e w2 ⟨rfl, B2⟩; obtain ⟨X2, R2, D2⟩ := HV.out w2 B2; clear p0 p1 p2 p3 p4 p5 p6 p7 p8 p9 p10 p11 p12 pf; (have p0 := X2.c0); (have p1 := X2.c1); (have p2 := X2.c2); (have p3 := X2.c3); (have p4 := X2.c4); (have p5 := X2.c5); (have p6 := X2.c6); (have p7 := X2.c7); (have p8 := X2.c8); (have p9 := X2.c9); (have p10 := X2.c10); (have p11 := X2.c11); (have p12 := X2.c12); (have pf := X2.f); (have r0 := R2.c0); (have r1 := R2.c1); (have r2 := R2.c2); (have r3 := R2.c3); (have r4 := R2.c4); (have r5 := R2.c5); (have r6 := R2.c6); (have r7 := R2.c7); (have r8 := R2.c8); (have r9 := R2.c9); (have r10 := R2.c10); (have r11 := R2.c11); (have r12 := R2.c12); (have rf := R2.f))
  have X3 := X2.next (alloc_b (o := .cells #[.int .i64 vx, .int .i64 vy, .int .i64 vz] 24))
  have R3 := R2.next (alloc_b (o := .cells #[.int .i64 vx, .int .i64 vy, .int .i64 vz] 24))
  have D3 := D2.alloc D2.size (.cells #[.int .i64 vx, .int .i64 vy, .int .i64 vz] 24)
  have K3 := C3.new w2 24 (.int .i64 vx) (.int .i64 vy) (.int .i64 vz)
  have n1 : ¬ w2.heap.size = w.heap.size := by have := X2.hi; omega
  obtain ⟨gb, hgb⟩ : ∃ g, w2.heap.size = g := ⟨_, rfl⟩
  rw [hgb] at K3 n1 ⊢
  generalize w2.alloc (.cells #[.int .i64 vx, .int .i64 vy, .int .i64 vz] 24) = wA at X3 R3 D3 K3 ⊢
  clear hgb X2 R2 D2 p0 p1 p2 p3 p4 p5 p6 p7 p8 p9 p10 p11 p12 pf r0 r1 r2 r3 r4 r5 r6 r7 r8 r9 r10 r11 r12 rf
  have p0 := X3.c0
  have p1 := X3.c1
  have p2 := X3.c2
  have p3 := X3.c3
  have p4 := X3.c4
  have p5 := X3.c5
  have p6 := X3.c6
  have p7 := X3.c7
  have p8 := X3.c8
  have p9 := X3.c9
  have p10 := X3.c10
  have p11 := X3.c11
  have p12 := X3.c12
  have pf := X3.f
  go_upto_region 4 with fail
  have X4 := (((X3.s3 (.int .i64 sx)).s4 (.int .i64 sy)).s5 (.int .i64 sz))
  have R4 := (((R3.far (w.heap.size) 3 (.int .i64 sx) (by omega)).far (w.heap.size) 4 (.int .i64 sy) (by omega)).far (w.heap.size) 5 (.int .i64 sz) (by omega))
  have K4 := (((K3.far (w.heap.size) 3 (.int .i64 sx) n1).far (w.heap.size) 4 (.int .i64 sy) n1).far (w.heap.size) 5 (.int .i64 sz) n1)
  have D4 := (((D3.setCell (p := ⟨w.heap.size, 3, none⟩) (by simp) (.int .i64 sx)).setCell (p := ⟨w.heap.size, 4, none⟩) (by simp) (.int .i64 sy)).setCell (p := ⟨w.heap.size, 5, none⟩) (by simp) (.int .i64 sz))
  generalize (((wA.setCell ⟨w.heap.size, 3, none⟩ (.int .i64 sx)).setCell ⟨w.heap.size, 4, none⟩ (.int .i64 sy)).setCell ⟨w.heap.size, 5, none⟩ (.int .i64 sz)) = wB at X4 R4 D4 K4 ⊢
  clear X3 R3 D3 K3 p0 p1 p2 p3 p4 p5 p6 p7 p8 p9 p10 p11 p12 pf
  have p0 := X4.c0
  have p1 := X4.c1
  have p2 := X4.c2
  have p3 := X4.c3
  have p4 := X4.c4
  have p5 := X4.c5
  have p6 := X4.c6
  have p7 := X4.c7
  have p8 := X4.c8
  have p9 := X4.c9
  have p10 := X4.c10
  have p11 := X4.c11
  have p12 := X4.c12
  have pf := X4.f
  have k0 := K4.c0
  have k1 := K4.c1
  have k2 := K4.c2
  have kf := K4.f
  go_upto_region 5 with fail
  have X5 := (((X4.s6 (.int .i64 vx)).s7 (.int .i64 vy)).s8 (.int .i64 vz))
  have R5 := (((R4.far (w.heap.size) 6 (.int .i64 vx) (by omega)).far (w.heap.size) 7 (.int .i64 vy) (by omega)).far (w.heap.size) 8 (.int .i64 vz) (by omega))
  have D5 := (((D4.setCell (p := ⟨w.heap.size, 6, none⟩) (by simp) (.int .i64 vx)).setCell (p := ⟨w.heap.size, 7, none⟩) (by simp) (.int .i64 vy)).setCell (p := ⟨w.heap.size, 8, none⟩) (by simp) (.int .i64 vz))
  generalize (((wB.setCell ⟨w.heap.size, 6, none⟩ (.int .i64 vx)).setCell ⟨w.heap.size, 7, none⟩ (.int .i64 vy)).setCell ⟨w.heap.size, 8, none⟩ (.int .i64 vz)) = wC at X5 R5 D5 ⊢
  clear X4 R4 D4 K4 p0 p1 p2 p3 p4 p5 p6 p7 p8 p9 p10 p11 p12 pf k0 k1 k2 kf
  have p0 := X5.c0
  have p1 := X5.c1
  have p2 := X5.c2
  have p3 := X5.c3
  have p4 := X5.c4
  have p5 := X5.c5
  have p6 := X5.c6
  have p7 := X5.c7
  have p8 := X5.c8
  have p9 := X5.c9
  have p10 := X5.c10
  have p11 := X5.c11
  have p12 := X5.c12
  have pf := X5.f
  have r0 := R5.c0
  have r1 := R5.c1
  have r2 := R5.c2
  have r3 := R5.c3
  have r4 := R5.c4
  have r5 := R5.c5
  have r6 := R5.c6
  have r7 := R5.c7
  have r8 := R5.c8
  have r9 := R5.c9
  have r10 := R5.c10
  have r11 := R5.c11
  have r12 := R5.c12
  have rf := R5.f
  go_wp2
  have YD := (((((((((((((R5.s0 (.int .i64 ux)).s1 (.int .i64 uy)).s2 (.int .i64 uz)).s3 (.int .i64 sx)).s4 (.int .i64 sy)).s5 (.int .i64 sz)).s6 (.int .i64 vx)).s7 (.int .i64 vy)).s8 (.int .i64 vz)).s9 (.int .i64 kr)).s10 (.int .i64 kg)).s11 (.int .i64 kb)).s12 (.int .i64 ka))
  have BE := (((((((((((((D5.setCell (p := ⟨w.heap.size + 1, 0, none⟩) (by simp) (.int .i64 ux)).setCell (p := ⟨w.heap.size + 1, 1, none⟩) (by simp) (.int .i64 uy)).setCell (p := ⟨w.heap.size + 1, 2, none⟩) (by simp) (.int .i64 uz)).setCell (p := ⟨w.heap.size + 1, 3, none⟩) (by simp) (.int .i64 sx)).setCell (p := ⟨w.heap.size + 1, 4, none⟩) (by simp) (.int .i64 sy)).setCell (p := ⟨w.heap.size + 1, 5, none⟩) (by simp) (.int .i64 sz)).setCell (p := ⟨w.heap.size + 1, 6, none⟩) (by simp) (.int .i64 vx)).setCell (p := ⟨w.heap.size + 1, 7, none⟩) (by simp) (.int .i64 vy)).setCell (p := ⟨w.heap.size + 1, 8, none⟩) (by simp) (.int .i64 vz)).setCell (p := ⟨w.heap.size + 1, 9, none⟩) (by simp) (.int .i64 kr)).setCell (p := ⟨w.heap.size + 1, 10, none⟩) (by simp) (.int .i64 kg)).setCell (p := ⟨w.heap.size + 1, 11, none⟩) (by simp) (.int .i64 kb)).setCell (p := ⟨w.heap.size + 1, 12, none⟩) (by simp) (.int .i64 ka))
  exact bodyPost_ret (v := .agg #[.int .i64 ux, .int .i64 uy, .int .i64 uz, .int .i64 sx, .int .i64 sy, .int .i64 sz, .int .i64 vx, .int .i64 vy, .int .i64 vz, .int .i64 kr, .int .i64 kg, .int .i64 kb, .int .i64 ka]) (by simp [results, Try.results63, go_sem, YD.c0, YD.c1, YD.c2, YD.c3, YD.c4, YD.c5, YD.c6, YD.c7, YD.c8, YD.c9, YD.c10, YD.c11, YD.c12]) rfl ⟨rfl, BE⟩
end Go.Proofs.Ytglhlpbaaoekgaa
