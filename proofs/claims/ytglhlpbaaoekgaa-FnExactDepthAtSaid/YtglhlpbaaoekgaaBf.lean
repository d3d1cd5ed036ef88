/- Points covered by turned tris: the program. -/
import Derived.Test.YtglhlpbaaoekgaaBe
namespace Go.Proofs.Ytglhlpbaaoekgaa
open Go.ChangeShapes Go.WideShapes Go.ChangeAt Go.RowKit
set_option linter.unusedVariables false
set_option maxRecDepth 100000 in
set_option maxHeartbeats 8000000 in
theorem pcovers (ux uy uz vx vy vz sx sy sz ar x y : Int) (w : World) (hA : ptB ux uy = true) (hB : ptB vx vy = true) (hC : ptB sx sy = true) (hx : ptB x y = true) : Calls Try.prog 65 #[.agg #[.int .i64 ux, .int .i64 uy, .int .i64 uz, .int .i64 vx, .int .i64 vy, .int .i64 vz, .int .i64 sx, .int .i64 sy, .int .i64 sz, .int .i64 vx, .int .i64 vy, .int .i64 vz, .int .i64 sx, .int .i64 sy, .int .i64 sz, .int .i64 sx, .int .i64 sy, .int .i64 sz, .int .i64 ux, .int .i64 uy, .int .i64 uz, .int .i64 ux, .int .i64 uy, .int .i64 uz, .int .i64 vx, .int .i64 vy, .int .i64 vz, .int .i64 ar], .int .i64 x, .int .i64 y] w fun e w' => e = .returned (.bool (cvB ux uy vx vy sx sy x y)) ∧ Below w.heap.size w w' := by
  have H0 : Hid (∀ w', Calls Try.prog 94 #[.agg #[.int .i64 vx, .int .i64 vy, .int .i64 vz, .int .i64 sx, .int .i64 sy, .int .i64 sz], .int .i64 x, .int .i64 y] w' fun e w'' => e = .returned (.bool (wiB vx vy sx sy x y)) ∧ Below w'.heap.size w' w'') := fun w' => pwithin _ _ _ _ _ _ _ _ w' hB hC hx
  have H1 : Hid (∀ w', Calls Try.prog 94 #[.agg #[.int .i64 sx, .int .i64 sy, .int .i64 sz, .int .i64 ux, .int .i64 uy, .int .i64 uz], .int .i64 x, .int .i64 y] w' fun e w'' => e = .returned (.bool (wiB sx sy ux uy x y)) ∧ Below w'.heap.size w' w'') := fun w' => pwithin _ _ _ _ _ _ _ _ w' hC hA hx
  have H2 : Hid (∀ w', Calls Try.prog 94 #[.agg #[.int .i64 ux, .int .i64 uy, .int .i64 uz, .int .i64 vx, .int .i64 vy, .int .i64 vz], .int .i64 x, .int .i64 y] w' fun e w'' => e = .returned (.bool (wiB ux uy vx vy x y)) ∧ Below w'.heap.size w' w'') := fun w' => pwithin _ _ _ _ _ _ _ _ w' hA hB hx
  have hcv : cvB ux uy vx vy sx sy x y = (wiB vx vy sx sy x y && (wiB sx sy ux uy x y && wiB ux uy vx vy x y)) := by
    unfold cvB
    cases wiB ux uy vx vy x y <;> cases wiB vx vy sx sy x y <;> cases wiB sx sy ux uy x y <;> rfl
  rw [hcv]
  clear hcv hA hB hC hx
  generalize wiB vx vy sx sy x y = c0 at H0
  generalize wiB sx sy ux uy x y = c1 at H1
  generalize wiB ux uy vx vy x y = c2 at H2
  cases c0
  case false =>
    rw [Bool.false_and]
    go_enter Try.func65, Try.ntmps65
    go_wp2
    go_loopw [11] (fun i wr => ∃ k : Nat, k ≤ 0 ∧ i = .int .i64 k ∧ Hid (Below w.heap.size w wr)) (fun i _ => 3 - (intOf i).toNat)
    case atStart => exact ⟨0, by omega, rfl, alloc_b⟩
    case round =>
      obtain ⟨k, hk, rfl, HB⟩ := hrel
      have hk2 : k = 0 := by omega
      rcases hk2 with rfl
      · have hix : ∀ w' : World, (Instr.index 82 (.agg #[.int .i64 vx, .int .i64 vy, .int .i64 vz, .int .i64 sx, .int .i64 sy, .int .i64 sz, .int .i64 sx, .int .i64 sy, .int .i64 sz, .int .i64 ux, .int .i64 uy, .int .i64 uz, .int .i64 ux, .int .i64 uy, .int .i64 uz, .int .i64 vx, .int .i64 vy, .int .i64 vz]) (.int .i64 0)).run Try.prog w' = .ok (.agg #[.int .i64 vx, .int .i64 vy, .int .i64 vz, .int .i64 sx, .int .i64 sy, .int .i64 sz]) w' := fun _ => by kernel_rfl
        have HD : Hid (∀ o w', Below (wr.alloc o).heap.size (wr.alloc o) w' → Below w.heap.size w w') := fun o w' b => HB.out.trans ((alloc_b.trans (b.mono (by simp))).mono HB.out.size)
        go_wp2_with (go_at_call 94; refine (H0.out _).mono ?_; rintro e w2 ⟨rfl, B2⟩; have BN := Hid.mk (HD.out _ w2 B2))
        go_ret
        exact ⟨rfl, BN.out⟩
  cases c1
  case false =>
    rw [Bool.false_and, Bool.and_false]
    go_enter Try.func65, Try.ntmps65
    go_wp2
    go_loopw [11] (fun i wr => ∃ k : Nat, k ≤ 1 ∧ i = .int .i64 k ∧ Hid (Below w.heap.size w wr)) (fun i _ => 3 - (intOf i).toNat)
    case atStart => exact ⟨0, by omega, rfl, alloc_b⟩
    case round =>
      obtain ⟨k, hk, rfl, HB⟩ := hrel
      have hk2 : k = 0 ∨ k = 1 := by omega
      rcases hk2 with rfl | rfl
      · have hix : ∀ w' : World, (Instr.index 82 (.agg #[.int .i64 vx, .int .i64 vy, .int .i64 vz, .int .i64 sx, .int .i64 sy, .int .i64 sz, .int .i64 sx, .int .i64 sy, .int .i64 sz, .int .i64 ux, .int .i64 uy, .int .i64 uz, .int .i64 ux, .int .i64 uy, .int .i64 uz, .int .i64 vx, .int .i64 vy, .int .i64 vz]) (.int .i64 0)).run Try.prog w' = .ok (.agg #[.int .i64 vx, .int .i64 vy, .int .i64 vz, .int .i64 sx, .int .i64 sy, .int .i64 sz]) w' := fun _ => by kernel_rfl
        have HD : Hid (∀ o w', Below (wr.alloc o).heap.size (wr.alloc o) w' → Below w.heap.size w w') := fun o w' b => HB.out.trans ((alloc_b.trans (b.mono (by simp))).mono HB.out.size)
        go_wp2_with (go_at_call 94; refine (H0.out _).mono ?_; rintro e w2 ⟨rfl, B2⟩; have BN := Hid.mk (HD.out _ w2 B2))
        go_roundw
        case rel => exact ⟨1, by omega, rfl, BN⟩
        case measure => simp [intOf]
      · have hix : ∀ w' : World, (Instr.index 82 (.agg #[.int .i64 vx, .int .i64 vy, .int .i64 vz, .int .i64 sx, .int .i64 sy, .int .i64 sz, .int .i64 sx, .int .i64 sy, .int .i64 sz, .int .i64 ux, .int .i64 uy, .int .i64 uz, .int .i64 ux, .int .i64 uy, .int .i64 uz, .int .i64 vx, .int .i64 vy, .int .i64 vz]) (.int .i64 1)).run Try.prog w' = .ok (.agg #[.int .i64 sx, .int .i64 sy, .int .i64 sz, .int .i64 ux, .int .i64 uy, .int .i64 uz]) w' := fun _ => by kernel_rfl
        have HD : Hid (∀ o w', Below (wr.alloc o).heap.size (wr.alloc o) w' → Below w.heap.size w w') := fun o w' b => HB.out.trans ((alloc_b.trans (b.mono (by simp))).mono HB.out.size)
        go_wp2_with (go_at_call 94; refine (H1.out _).mono ?_; rintro e w2 ⟨rfl, B2⟩; have BN := Hid.mk (HD.out _ w2 B2))
        go_ret
        exact ⟨rfl, BN.out⟩
  cases c2
  case false =>
    simp only [Bool.and_false]
    go_enter Try.func65, Try.ntmps65
    go_wp2
    go_loopw [11] (fun i wr => ∃ k : Nat, k ≤ 2 ∧ i = .int .i64 k ∧ Hid (Below w.heap.size w wr)) (fun i _ => 3 - (intOf i).toNat)
    case atStart => exact ⟨0, by omega, rfl, alloc_b⟩
    case round =>
      obtain ⟨k, hk, rfl, HB⟩ := hrel
      have hk2 : k = 0 ∨ k = 1 ∨ k = 2 := by omega
      rcases hk2 with rfl | rfl | rfl
      · have hix : ∀ w' : World, (Instr.index 82 (.agg #[.int .i64 vx, .int .i64 vy, .int .i64 vz, .int .i64 sx, .int .i64 sy, .int .i64 sz, .int .i64 sx, .int .i64 sy, .int .i64 sz, .int .i64 ux, .int .i64 uy, .int .i64 uz, .int .i64 ux, .int .i64 uy, .int .i64 uz, .int .i64 vx, .int .i64 vy, .int .i64 vz]) (.int .i64 0)).run Try.prog w' = .ok (.agg #[.int .i64 vx, .int .i64 vy, .int .i64 vz, .int .i64 sx, .int .i64 sy, .int .i64 sz]) w' := fun _ => by kernel_rfl
        have HD : Hid (∀ o w', Below (wr.alloc o).heap.size (wr.alloc o) w' → Below w.heap.size w w') := fun o w' b => HB.out.trans ((alloc_b.trans (b.mono (by simp))).mono HB.out.size)
        go_wp2_with (go_at_call 94; refine (H0.out _).mono ?_; rintro e w2 ⟨rfl, B2⟩; have BN := Hid.mk (HD.out _ w2 B2))
        go_roundw
        case rel => exact ⟨1, by omega, rfl, BN⟩
        case measure => simp [intOf]
      · have hix : ∀ w' : World, (Instr.index 82 (.agg #[.int .i64 vx, .int .i64 vy, .int .i64 vz, .int .i64 sx, .int .i64 sy, .int .i64 sz, .int .i64 sx, .int .i64 sy, .int .i64 sz, .int .i64 ux, .int .i64 uy, .int .i64 uz, .int .i64 ux, .int .i64 uy, .int .i64 uz, .int .i64 vx, .int .i64 vy, .int .i64 vz]) (.int .i64 1)).run Try.prog w' = .ok (.agg #[.int .i64 sx, .int .i64 sy, .int .i64 sz, .int .i64 ux, .int .i64 uy, .int .i64 uz]) w' := fun _ => by kernel_rfl
        have HD : Hid (∀ o w', Below (wr.alloc o).heap.size (wr.alloc o) w' → Below w.heap.size w w') := fun o w' b => HB.out.trans ((alloc_b.trans (b.mono (by simp))).mono HB.out.size)
        go_wp2_with (go_at_call 94; refine (H1.out _).mono ?_; rintro e w2 ⟨rfl, B2⟩; have BN := Hid.mk (HD.out _ w2 B2))
        go_roundw
        case rel => exact ⟨2, by omega, rfl, BN⟩
        case measure => simp [intOf]
      · have hix : ∀ w' : World, (Instr.index 82 (.agg #[.int .i64 vx, .int .i64 vy, .int .i64 vz, .int .i64 sx, .int .i64 sy, .int .i64 sz, .int .i64 sx, .int .i64 sy, .int .i64 sz, .int .i64 ux, .int .i64 uy, .int .i64 uz, .int .i64 ux, .int .i64 uy, .int .i64 uz, .int .i64 vx, .int .i64 vy, .int .i64 vz]) (.int .i64 2)).run Try.prog w' = .ok (.agg #[.int .i64 ux, .int .i64 uy, .int .i64 uz, .int .i64 vx, .int .i64 vy, .int .i64 vz]) w' := fun _ => by kernel_rfl
        have HD : Hid (∀ o w', Below (wr.alloc o).heap.size (wr.alloc o) w' → Below w.heap.size w w') := fun o w' b => HB.out.trans ((alloc_b.trans (b.mono (by simp))).mono HB.out.size)
        go_wp2_with (go_at_call 94; refine (H2.out _).mono ?_; rintro e w2 ⟨rfl, B2⟩; have BN := Hid.mk (HD.out _ w2 B2))
        go_ret
        exact ⟨rfl, BN.out⟩
  simp only [Bool.and_true]
  go_enter Try.func65, Try.ntmps65
  go_wp2
  go_loopw [11] (fun i wr => ∃ k : Nat, k ≤ 3 ∧ i = .int .i64 k ∧ Hid (Below w.heap.size w wr)) (fun i _ => 3 - (intOf i).toNat)
  case atStart => exact ⟨0, by omega, rfl, alloc_b⟩
  case round =>
    obtain ⟨k, hk, rfl, HB⟩ := hrel
    have hk2 : k = 0 ∨ k = 1 ∨ k = 2 ∨ k = 3 := by omega
    rcases hk2 with rfl | rfl | rfl | rfl
    · have hix : ∀ w' : World, (Instr.index 82 (.agg #[.int .i64 vx, .int .i64 vy, .int .i64 vz, .int .i64 sx, .int .i64 sy, .int .i64 sz, .int .i64 sx, .int .i64 sy, .int .i64 sz, .int .i64 ux, .int .i64 uy, .int .i64 uz, .int .i64 ux, .int .i64 uy, .int .i64 uz, .int .i64 vx, .int .i64 vy, .int .i64 vz]) (.int .i64 0)).run Try.prog w' = .ok (.agg #[.int .i64 vx, .int .i64 vy, .int .i64 vz, .int .i64 sx, .int .i64 sy, .int .i64 sz]) w' := fun _ => by kernel_rfl
      have HD : Hid (∀ o w', Below (wr.alloc o).heap.size (wr.alloc o) w' → Below w.heap.size w w') := fun o w' b => HB.out.trans ((alloc_b.trans (b.mono (by simp))).mono HB.out.size)
      go_wp2_with (go_at_call 94; refine (H0.out _).mono ?_; rintro e w2 ⟨rfl, B2⟩; have BN := Hid.mk (HD.out _ w2 B2))
      go_roundw
      case rel => exact ⟨1, by omega, rfl, BN⟩
      case measure => simp [intOf]
    · have hix : ∀ w' : World, (Instr.index 82 (.agg #[.int .i64 vx, .int .i64 vy, .int .i64 vz, .int .i64 sx, .int .i64 sy, .int .i64 sz, .int .i64 sx, .int .i64 sy, .int .i64 sz, .int .i64 ux, .int .i64 uy, .int .i64 uz, .int .i64 ux, .int .i64 uy, .int .i64 uz, .int .i64 vx, .int .i64 vy, .int .i64 vz]) (.int .i64 1)).run Try.prog w' = .ok (.agg #[.int .i64 sx, .int .i64 sy, .int .i64 sz, .int .i64 ux, .int .i64 uy, .int .i64 uz]) w' := fun _ => by kernel_rfl
      have HD : Hid (∀ o w', Below (wr.alloc o).heap.size (wr.alloc o) w' → Below w.heap.size w w') := fun o w' b => HB.out.trans ((alloc_b.trans (b.mono (by simp))).mono HB.out.size)
      go_wp2_with (go_at_call 94; refine (H1.out _).mono ?_; rintro e w2 ⟨rfl, B2⟩; have BN := Hid.mk (HD.out _ w2 B2))
      go_roundw
      case rel => exact ⟨2, by omega, rfl, BN⟩
      case measure => simp [intOf]
    · have hix : ∀ w' : World, (Instr.index 82 (.agg #[.int .i64 vx, .int .i64 vy, .int .i64 vz, .int .i64 sx, .int .i64 sy, .int .i64 sz, .int .i64 sx, .int .i64 sy, .int .i64 sz, .int .i64 ux, .int .i64 uy, .int .i64 uz, .int .i64 ux, .int .i64 uy, .int .i64 uz, .int .i64 vx, .int .i64 vy, .int .i64 vz]) (.int .i64 2)).run Try.prog w' = .ok (.agg #[.int .i64 ux, .int .i64 uy, .int .i64 uz, .int .i64 vx, .int .i64 vy, .int .i64 vz]) w' := fun _ => by kernel_rfl
      have HD : Hid (∀ o w', Below (wr.alloc o).heap.size (wr.alloc o) w' → Below w.heap.size w w') := fun o w' b => HB.out.trans ((alloc_b.trans (b.mono (by simp))).mono HB.out.size)
      go_wp2_with (go_at_call 94; refine (H2.out _).mono ?_; rintro e w2 ⟨rfl, B2⟩; have BN := Hid.mk (HD.out _ w2 B2))
      go_roundw
      case rel => exact ⟨3, by omega, rfl, BN⟩
      case measure => simp [intOf]
    · go_wp2
      go_ret
      exact ⟨rfl, HB.out⟩
end Go.Proofs.Ytglhlpbaaoekgaa
