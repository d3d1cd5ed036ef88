/- Turned tris: the program, where there is none. -/
import Derived.Test.YtglhlpbaaoekgaaCd
namespace Go.Proofs.Ytglhlpbaaoekgaa
open Go.ChangeShapes Go.WideShapes Go.ChangeAt Go.RowKit
set_option linter.unusedVariables false
set_option maxRecDepth 100000 in
set_option maxHeartbeats 8000000 in
theorem pturn_zero (ux uy uz vx vy vz sx sy sz kr kg kb ka : Int) (w : World) (hs : arV ux uy uz vx vy vz sx sy sz kr kg kb ka = 0) : Calls Try.prog 47 #[.agg #[.int .i64 ux, .int .i64 uy, .int .i64 uz, .int .i64 vx, .int .i64 vy, .int .i64 vz, .int .i64 sx, .int .i64 sy, .int .i64 sz, .int .i64 kr, .int .i64 kg, .int .i64 kb, .int .i64 ka]] w fun e w' => e = .returned (.tuple #[.agg #[.int .i64 0, .int .i64 0, .int .i64 0, .int .i64 0, .int .i64 0, .int .i64 0, .int .i64 0, .int .i64 0, .int .i64 0, .int .i64 0, .int .i64 0, .int .i64 0, .int .i64 0, .int .i64 0, .int .i64 0, .int .i64 0, .int .i64 0, .int .i64 0, .int .i64 0, .int .i64 0, .int .i64 0, .int .i64 0, .int .i64 0, .int .i64 0, .int .i64 0, .int .i64 0, .int .i64 0, .int .i64 0], .bool false]) ∧ Below w.heap.size w w' := by
  have HA : Hid (∀ w', Calls Try.prog 23 #[.agg #[.int .i64 ux, .int .i64 uy, .int .i64 uz, .int .i64 vx, .int .i64 vy, .int .i64 vz, .int .i64 sx, .int .i64 sy, .int .i64 sz, .int .i64 kr, .int .i64 kg, .int .i64 kb, .int .i64 ka]] w' fun e w'' => e = .returned (.int .i64 (arV ux uy uz vx vy vz sx sy sz kr kg kb ka)) ∧ Below w'.heap.size w' w'') := fun w' => pareaof ux uy uz vx vy vz sx sy sz kr kg kb ka w'
  rw [hs] at HA
  clear hs
  obtain ⟨V, hV⟩ : ∃ V, ((w.alloc (.cells #[.int .i64 ux, .int .i64 uy, .int .i64 uz, .int .i64 vx, .int .i64 vy, .int .i64 vz, .int .i64 sx, .int .i64 sy, .int .i64 sz, .int .i64 kr, .int .i64 kg, .int .i64 kb, .int .i64 ka] 28)).alloc (.cells #[.int .i64 0, .int .i64 0, .int .i64 0, .int .i64 0, .int .i64 0, .int .i64 0, .int .i64 0, .int .i64 0, .int .i64 0, .int .i64 0, .int .i64 0, .int .i64 0, .int .i64 0, .int .i64 0, .int .i64 0, .int .i64 0, .int .i64 0, .int .i64 0, .int .i64 0, .int .i64 0, .int .i64 0, .int .i64 0, .int .i64 0, .int .i64 0, .int .i64 0, .int .i64 0, .int .i64 0, .int .i64 0] 84)) = V := ⟨_, rfl⟩
  have HV : Hid (∀ v, Below V.heap.size V v → C13 v w.heap.size (.int .i64 ux) (.int .i64 uy) (.int .i64 uz) (.int .i64 vx) (.int .i64 vy) (.int .i64 vz) (.int .i64 sx) (.int .i64 sy) (.int .i64 sz) (.int .i64 kr) (.int .i64 kg) (.int .i64 kb) (.int .i64 ka) ∧ Own v (w.heap.size + 1) 28 (fun i => #[.int .i64 0, .int .i64 0, .int .i64 0, .int .i64 0, .int .i64 0, .int .i64 0, .int .i64 0, .int .i64 0, .int .i64 0, .int .i64 0, .int .i64 0, .int .i64 0, .int .i64 0, .int .i64 0, .int .i64 0, .int .i64 0, .int .i64 0, .int .i64 0, .int .i64 0, .int .i64 0, .int .i64 0, .int .i64 0, .int .i64 0, .int .i64 0, .int .i64 0, .int .i64 0, .int .i64 0, .int .i64 0].getD i undef) ∧ Below w.heap.size w v) := fun v b => by
    rw [← hV] at b
    have h1 := own_lit (w.alloc (.cells #[.int .i64 ux, .int .i64 uy, .int .i64 uz, .int .i64 vx, .int .i64 vy, .int .i64 vz, .int .i64 sx, .int .i64 sy, .int .i64 sz, .int .i64 kr, .int .i64 kg, .int .i64 kb, .int .i64 ka] 28)) #[.int .i64 0, .int .i64 0, .int .i64 0, .int .i64 0, .int .i64 0, .int .i64 0, .int .i64 0, .int .i64 0, .int .i64 0, .int .i64 0, .int .i64 0, .int .i64 0, .int .i64 0, .int .i64 0, .int .i64 0, .int .i64 0, .int .i64 0, .int .i64 0, .int .i64 0, .int .i64 0, .int .i64 0, .int .i64 0, .int .i64 0, .int .i64 0, .int .i64 0, .int .i64 0, .int .i64 0, .int .i64 0] 84 28 rfl
    rw [World.size_alloc] at h1
    exact ⟨((C13.new w 28 (.int .i64 ux) (.int .i64 uy) (.int .i64 uz) (.int .i64 vx) (.int .i64 vy) (.int .i64 vz) (.int .i64 sx) (.int .i64 sy) (.int .i64 sz) (.int .i64 kr) (.int .i64 kg) (.int .i64 kb) (.int .i64 ka)).next (alloc_b (o := .cells #[.int .i64 0, .int .i64 0, .int .i64 0, .int .i64 0, .int .i64 0, .int .i64 0, .int .i64 0, .int .i64 0, .int .i64 0, .int .i64 0, .int .i64 0, .int .i64 0, .int .i64 0, .int .i64 0, .int .i64 0, .int .i64 0, .int .i64 0, .int .i64 0, .int .i64 0, .int .i64 0, .int .i64 0, .int .i64 0, .int .i64 0, .int .i64 0, .int .i64 0, .int .i64 0, .int .i64 0, .int .i64 0] 84))).next b, h1.next b, ((alloc_b).trans ((alloc_b).mono (by simp))).trans (b.mono (by simp; omega))⟩
  have HVE := Hid.mk hV
  clear hV
  obtain ⟨X0, X1, BV⟩ := HV.out V (Below.refl _ _)
  have p0 := X0.c0
  have p1 := X0.c1
  have p2 := X0.c2
  have p3 := X0.c3
  have p4 := X0.c4
  have p5 := X0.c5
  have p6 := X0.c6
  have p7 := X0.c7
  have p8 := X0.c8
  have p9 := X0.c9
  have p10 := X0.c10
  have p11 := X0.c11
  have p12 := X0.c12
  have pf := X0.f
  clear X0 X1 BV
  go_enter Try.func47, Try.ntmps47
  go_upto_region 1 with fail
  rw [HVE.out]
  clear HVE
  go_wp2_with (first | (go_at_call 23; refine (HA.out _).mono ?_; rintro e w2 ⟨rfl, B2⟩; obtain ⟨X2, R2, D2⟩ := HV.out w2 B2; clear p0 p1 p2 p3 p4 p5 p6 p7 p8 p9 p10 p11 p12 pf; (have p0 := X2.c0); (have p1 := X2.c1); (have p2 := X2.c2); (have p3 := X2.c3); (have p4 := X2.c4); (have p5 := X2.c5); (have p6 := X2.c6); (have p7 := X2.c7); (have p8 := X2.c8); (have p9 := X2.c9); (have p10 := X2.c10); (have p11 := X2.c11); (have p12 := X2.c12); (have pf := X2.f)) | (refine wpList_store_own rfl 84 _ _ rfl (w.heap.size + 1) rfl 28 _ (fun i => [.int .i64 0, .int .i64 0, .int .i64 0, .int .i64 0, .int .i64 0, .int .i64 0, .int .i64 0, .int .i64 0, .int .i64 0, .int .i64 0, .int .i64 0, .int .i64 0, .int .i64 0, .int .i64 0, .int .i64 0, .int .i64 0, .int .i64 0, .int .i64 0, .int .i64 0, .int .i64 0, .int .i64 0, .int .i64 0, .int .i64 0, .int .i64 0, .int .i64 0, .int .i64 0, .int .i64 0, .int .i64 0].getD i (.int .i64 0)) rfl R2 (one_getD _ (by rfl)) (by kernel_rfl) ?_; intro wF OF KF))
  have BE := D2.trans (KF.below (by omega) D2.size)
  clear p0 p1 p2 p3 p4 p5 p6 p7 p8 p9 p10 p11 p12 pf KF D2 R2 HV HA
  have hr : wF.rangeAt (w.heap.size + 1) 0 [.int .i64 0, .int .i64 0, .int .i64 0, .int .i64 0, .int .i64 0, .int .i64 0, .int .i64 0, .int .i64 0, .int .i64 0, .int .i64 0, .int .i64 0, .int .i64 0, .int .i64 0, .int .i64 0, .int .i64 0, .int .i64 0, .int .i64 0, .int .i64 0, .int .i64 0, .int .i64 0, .int .i64 0, .int .i64 0, .int .i64 0, .int .i64 0, .int .i64 0, .int .i64 0, .int .i64 0, .int .i64 0] := own_range OF
  have hl := run_loadVar_mid (P := Try.prog) wF (w.heap.size + 1) 0 84 [.int .i64 0, .int .i64 0, .int .i64 0, .int .i64 0, .int .i64 0, .int .i64 0, .int .i64 0, .int .i64 0, .int .i64 0, .int .i64 0, .int .i64 0, .int .i64 0, .int .i64 0, .int .i64 0, .int .i64 0, .int .i64 0, .int .i64 0, .int .i64 0, .int .i64 0, .int .i64 0, .int .i64 0, .int .i64 0, .int .i64 0, .int .i64 0, .int .i64 0, .int .i64 0, .int .i64 0, .int .i64 0] _ hr Try.underlying84 rfl (by kernel_rfl)
  clear OF hr
  exact bodyPost_ret (v := .tuple #[.agg #[.int .i64 0, .int .i64 0, .int .i64 0, .int .i64 0, .int .i64 0, .int .i64 0, .int .i64 0, .int .i64 0, .int .i64 0, .int .i64 0, .int .i64 0, .int .i64 0, .int .i64 0, .int .i64 0, .int .i64 0, .int .i64 0, .int .i64 0, .int .i64 0, .int .i64 0, .int .i64 0, .int .i64 0, .int .i64 0, .int .i64 0, .int .i64 0, .int .i64 0, .int .i64 0, .int .i64 0, .int .i64 0], .bool false]) (by simp [results, Try.results47, asAddr, hl]) rfl ⟨rfl, BE⟩
end Go.Proofs.Ytglhlpbaaoekgaa
