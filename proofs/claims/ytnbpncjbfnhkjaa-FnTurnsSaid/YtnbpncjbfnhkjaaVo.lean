/- A drawn command: five whole numbers; the cursor alone is written. -/
import Derived.Test.YtnbpncjbfnhkjaaVn
namespace Go.Proofs.Ytnbpncjbfnhkjaa
open Go.ChangeShapes Go.WideShapes Go.ChangeAt Go.RowKit
set_option linter.unusedVariables false
set_option maxRecDepth 100000 in
set_option maxHeartbeats 8000000 in
theorem mcmd (b : Nat) (k : Int) (w : World) (hc : Cur b k w) (hk : k ≤ 500000) : Calls Try.prog 58 #[.pointer (some ⟨b, 0, none⟩)] w fun e w' => (∃ y0 y1 y2 y3 y4 : Int, e = .returned (.agg #[.int .i64 y0, .int .i64 y1, .int .i64 y2, .int .i64 y3, .int .i64 y4])) ∧ Cur b (k + 20) w' ∧ Only b w w' := by
  have hbl := hc.lt
  have HAM : Hid (∀ w3 k' (l : List Int) c, Cur b k' w3 → k' ≤ 900000 → 1 < l.length → l.length ≤ 65536 → Calls Try.prog 64 #[.pointer (some ⟨b, 0, none⟩), .slice (some ⟨w3.heap.size, 0, none⟩) l.length c] (w3.alloc (.cells (l.map (Value.int .i64)).toArray 3)) fun e w' => ∃ x : Int, e = .returned (.int .i64 x) ∧ Cur b (k' + 2) w' ∧ Only b (w3.alloc (.cells (l.map (Value.int .i64)).toArray 3)) w') := fun w3 k' l c cu h l1 l2 => (amongL cu h l c l1 l2).mono fun e w' ⟨x, _, h1, h2, h3⟩ => ⟨x, h1, h2, h3⟩
  have HA2 : Hid (∀ w3 k' (p q : Int), Cur b k' w3 → k' ≤ 900000 → Calls Try.prog 64 #[.pointer (some ⟨b, 0, none⟩), .slice (some ⟨w3.heap.size, 0, none⟩) 2 2] (w3.alloc (.cells #[.int .i64 p, .int .i64 q] 3)) fun e w' => ∃ x : Int, e = .returned (.int .i64 x) ∧ Cur b (k' + 2) w' ∧ Only b (w3.alloc (.cells #[.int .i64 p, .int .i64 q] 3)) w') := fun w3 k' p q cu h => HAM.out w3 k' [p, q] 2 cu h (by simp) (by simp)
  have HA3 : Hid (∀ w3 k' (p q r : Int), Cur b k' w3 → k' ≤ 900000 → Calls Try.prog 64 #[.pointer (some ⟨b, 0, none⟩), .slice (some ⟨w3.heap.size, 0, none⟩) 3 3] (w3.alloc (.cells #[.int .i64 p, .int .i64 q, .int .i64 r] 3)) fun e w' => ∃ x : Int, e = .returned (.int .i64 x) ∧ Cur b (k' + 2) w' ∧ Only b (w3.alloc (.cells #[.int .i64 p, .int .i64 q, .int .i64 r] 3)) w') := fun w3 k' p q r cu h => HAM.out w3 k' [p, q, r] 3 cu h (by simp) (by simp)
  clear HAM
  have RX := C5.new w 35 (.int .i64 (0)) (.int .i64 (0)) (.int .i64 (0)) (.int .i64 (0)) (.int .i64 (0))
  have CU0 := hc.next (alloc_b (o := .cells #[.int .i64 0, .int .i64 0, .int .i64 0, .int .i64 0, .int .i64 0] 35))
  have ON : Only b w (w.alloc (.cells #[.int .i64 0, .int .i64 0, .int .i64 0, .int .i64 0, .int .i64 0] 35)) := (Only.refl b w).alloc _
  obtain ⟨W1, hW1⟩ : ∃ z, (w.alloc (.cells #[.int .i64 0, .int .i64 0, .int .i64 0, .int .i64 0, .int .i64 0] 35)) = z := ⟨_, rfl⟩
  have hs1 : W1.heap.size = w.heap.size + 1 := by rw [← hW1]; simp
  obtain ⟨rb, hrb⟩ : ∃ z, w.heap.size = z := ⟨_, rfl⟩
  have HRB : Hid (w.heap.size = rb) := hrb
  have HW1 : Hid (w.alloc (.cells #[.int .i64 0, .int .i64 0, .int .i64 0, .int .i64 0, .int .i64 0] 35) = W1) := hW1
  rw [hW1] at RX CU0 ON
  rw [hrb] at RX hs1 hbl
  clear hW1 hc hrb
  have CU : Cur b (k + 0) W1 := by rw [Int.add_zero]; exact CU0
  clear CU0
  go_enter Try.func58, Try.ntmps58
  go_upto_region 1 with fail
  rw [HW1.out, HRB.out]
  go_upto_region 2 with (first
    | (go_at_call 56; (with_reducible show Calls Try.prog 56 #[_, .int .i64 6] W1 _); refine (pick32 b (k + 0) 6 W1 (by omega) CU (by decide) (by decide)).mono ?_; rintro e u1 ⟨x1, x10, x11, rfl, CV, OV⟩; (have RV := RX.only OV (by omega)))
    | (go_at_call 56; (with_reducible show Calls Try.prog 56 #[_, .int .i64 3] u1 _); refine (pick32 b (k + 0 + 2) 3 u1 (by omega) CV (by decide) (by decide)).mono ?_; rintro e u2 ⟨x2, x20, x21, rfl, CV2, OV2⟩; (have RV2 := RV.only OV2 (by omega))))
  obtain ⟨kd, hkd⟩ : ∃ z : Int, 1 + x1 = z := ⟨_, rfl⟩
  have k0 : 1 ≤ kd := by omega
  have k1 : kd ≤ 6 := by omega
  rw [hkd]
  clear hkd
  have PX := C5.new u2 35 (.int .i64 (kd)) (.int .i64 (x2)) (.int .i64 (0)) (.int .i64 (0)) (.int .i64 (0))
  replace RX := RV2.next (alloc_b (o := .cells #[.int .i64 kd, .int .i64 x2, .int .i64 0, .int .i64 0, .int .i64 0] 35))
  replace CU : Cur b (k + 4) (u2.alloc (.cells #[.int .i64 kd, .int .i64 x2, .int .i64 0, .int .i64 0, .int .i64 0] 35)) := (CV2.next alloc_b).mono (by omega)
  replace ON := ((ON.trans OV).trans OV2).alloc (.cells #[.int .i64 kd, .int .i64 x2, .int .i64 0, .int .i64 0, .int .i64 0] 35)
  have hxb : rb < u2.heap.size := RV2.hi
  obtain ⟨xb, hxbe⟩ : ∃ z, u2.heap.size = z := ⟨_, rfl⟩
  obtain ⟨W2, hW2⟩ : ∃ z, (u2.alloc (.cells #[.int .i64 kd, .int .i64 x2, .int .i64 0, .int .i64 0, .int .i64 0] 35)) = z := ⟨_, rfl⟩
  rw [hW2] at PX RX CU ON ⊢
  rw [hxbe] at PX hxb ⊢
  have hbx : b < xb := by omega
  have hwr := HRB.out
  have hne1 : ¬ rb = xb := by omega
  have hne2 : ¬ xb = rb := by omega
  clear hW2 hxbe RV RV2 CV CV2 OV OV2 x10 x11 HW1
  have P0 := PX.c0
  have P1 := PX.c1
  have PF := PX.f
  have hk3 : kd = 4 ∨ 5 ≤ kd ∨ (¬ kd = 4 ∧ ¬ 5 ≤ kd) := by omega
  rcases hk3 with rfl | h5 | ⟨h4, h5⟩
  rotate_right
  focus
    have h4b : (kd == 4) = false := by simpa using h4
    go_upto_region 10 with fail
    clear P0 P1 PF
    obtain ⟨y0, y1, y2, y3, y4, PX⟩ : ∃ y0 y1 y2 y3 y4 : Int, C5 W2 xb (.int .i64 y0) (.int .i64 y1) (.int .i64 y2) (.int .i64 y3) (.int .i64 y4) := ⟨_, _, _, _, _, PX⟩
    replace CU : Cur b (k + 10) W2 := CU.mono (by omega)
    generalize W2 = W0 at PX RX CU ON ⊢
  rotate_right
  focus
    have h4n : ¬ kd = 4 := by omega
    have h4b : (kd == 4) = false := by simpa using h4n
    go_upto_region 8 with fail
    have pf := PX.f
    have p1 := PX.c1
    go_upto_region 9 with fail
    clear P0 P1 PF pf p1
    replace PX := PX.s1 (.int .i64 0)
    replace RX := RX.far xb 1 (.int .i64 0) (by omega)
    replace CU := CU.far hbx 1 (.int .i64 0)
    replace ON := ON.new (x := xb) (by omega) 1 (.int .i64 0)
    obtain ⟨W3, hW3⟩ : ∃ z, (W2.setCell ⟨xb, 1, none⟩ (.int .i64 0)) = z := ⟨_, rfl⟩
    rw [hW3] at PX RX CU ON ⊢
    clear hW3
    go_upto_region 10 with (go_at_call 56; (with_reducible show Calls Try.prog 56 #[_, .int .i64 6] W3 _); refine (pick32 b (k + 4) 6 W3 (by omega) CU (by decide) (by decide)).mono ?_; rintro e u4 ⟨x4, x40, x41, rfl, CV, OV⟩; (have PV := PX.only OV (by omega)); (have RV := RX.only OV (by omega)); (have pf := PV.f); (have p0 := PV.c0); (have p1 := PV.c1); (have p2 := PV.c2); (have p3 := PV.c3); (have p4 := PV.c4))
    replace PX := PV.s4 (.int .i64 (x4))
    replace RX := RV.far xb 4 (.int .i64 (x4)) (by omega)
    replace CU := CV.far hbx 4 (.int .i64 (x4))
    replace ON := (ON.trans OV).new (x := xb) (by omega) 4 (.int .i64 (x4))
    obtain ⟨W4, hW4⟩ : ∃ z, (u4.setCell ⟨xb, 4, none⟩ (.int .i64 (x4))) = z := ⟨_, rfl⟩
    rw [hW4] at PX RX CU ON ⊢
    clear hW4 PV RV CV OV pf p0 p1 p2 p3 p4
    obtain ⟨y0, y1, y2, y3, y4, PX⟩ : ∃ y0 y1 y2 y3 y4 : Int, C5 W4 xb (.int .i64 y0) (.int .i64 y1) (.int .i64 y2) (.int .i64 y3) (.int .i64 y4) := ⟨_, _, _, _, _, PX⟩
    replace CU : Cur b (k + 10) W4 := CU.mono (by omega)
    generalize W4 = W0 at PX RX CU ON ⊢
  rotate_right
  focus
    go_upto_region 3 with fail
    go_upto_region 4 with (go_at_call 56; (with_reducible show Calls Try.prog 56 #[_, .int .i64 4] W2 _); refine (pick32 b (k + 4) 4 W2 (by omega) CU (by decide) (by decide)).mono ?_; rintro e u3 ⟨x3, x30, x31, rfl, CV, OV⟩; (have PV := PX.only OV (by omega)); (have RV := RX.only OV (by omega)); (have pf := PV.f); (have p0 := PV.c0); (have p1 := PV.c1); (have p2 := PV.c2); (have p3 := PV.c3); (have p4 := PV.c4))
    clear P0 P1 PF
    replace PX := PV.s2 (.int .i64 (x3))
    replace RX := RV.far xb 2 (.int .i64 (x3)) (by omega)
    replace CU := CV.far hbx 2 (.int .i64 (x3))
    replace ON := (ON.trans OV).new (x := xb) (by omega) 2 (.int .i64 (x3))
    obtain ⟨W3, hW3⟩ : ∃ z, (u3.setCell ⟨xb, 2, none⟩ (.int .i64 (x3))) = z := ⟨_, rfl⟩
    rw [hW3] at PX RX CU ON ⊢
    clear hW3 PV RV CV OV pf p0 p1 p2 p3 p4
    replace CU : Cur b (k + 6) W3 := CU.mono (by omega)
    go_upto_region 5 with (go_at_call 56; (with_reducible show Calls Try.prog 56 #[_, .int .i64 3] W3 _); refine (pick32 b (k + 6) 3 W3 (by omega) CU (by decide) (by decide)).mono ?_; rintro e u4 ⟨x4, x40, x41, rfl, CV, OV⟩; (have PV := PX.only OV (by omega)); (have RV := RX.only OV (by omega)); (have pf := PV.f); (have p0 := PV.c0); (have p1 := PV.c1); (have p2 := PV.c2); (have p3 := PV.c3); (have p4 := PV.c4))
    obtain ⟨z4, hz4⟩ : ∃ z : Int, 1 + x4 = z := ⟨_, rfl⟩
    rw [hz4]
    clear hz4
    replace PX := PV.s3 (.int .i64 (z4))
    replace RX := RV.far xb 3 (.int .i64 (z4)) (by omega)
    replace CU := CV.far hbx 3 (.int .i64 (z4))
    replace ON := (ON.trans OV).new (x := xb) (by omega) 3 (.int .i64 (z4))
    obtain ⟨W4, hW4⟩ : ∃ z, (u4.setCell ⟨xb, 3, none⟩ (.int .i64 (z4))) = z := ⟨_, rfl⟩
    rw [hW4] at PX RX CU ON ⊢
    clear hW4 PV RV CV OV pf p0 p1 p2 p3 p4
    replace CU : Cur b (k + 8) W4 := CU.mono (by omega)
    have q2 := PX.c2
    have q3 := PX.c3
    have heq : x3 = z4 ∨ ¬ x3 = z4 := by omega
    rcases heq with rfl | hne
    rotate_right
    focus
      have hneb : (x3 == z4) = false := by simpa using hne
      go_upto_region 10 with fail
      clear q2 q3
      obtain ⟨y0, y1, y2, y3, y4, PX⟩ : ∃ y0 y1 y2 y3 y4 : Int, C5 W4 xb (.int .i64 y0) (.int .i64 y1) (.int .i64 y2) (.int .i64 y3) (.int .i64 y4) := ⟨_, _, _, _, _, PX⟩
      replace CU : Cur b (k + 10) W4 := CU.mono (by omega)
      generalize W4 = W0 at PX RX CU ON ⊢
    rotate_right
    focus
      clear q2 q3
      have q2 := PX.c2
      have q3 := PX.c3
      go_upto_region 10 with (go_at_call 57; (with_reducible show Calls Try.prog 57 #[_, .int .i64 20] W4 _); refine (one30 b (k + 8) 20 W4 (by omega) CU (by decide) (by decide)).mono ?_; rintro e u5 ⟨tt, rfl, CV, OV⟩; (have PV := PX.only OV (by omega)); (have RV := RX.only OV (by omega)); (have pf := PV.f); (have p0 := PV.c0); (have p1 := PV.c1); (have p2 := PV.c2); (have p3 := PV.c3); (have p4 := PV.c4))
      all_goals clear q2 q3
      all_goals first
        | (replace PX := PV.s2 (.int .i64 (0)); replace RX := RV.far xb 2 (.int .i64 (0)) (by omega); replace CU := CV.far hbx 2 (.int .i64 (0)); replace ON := (ON.trans OV).new (x := xb) (by omega) 2 (.int .i64 (0)); obtain ⟨W5, hW5⟩ : ∃ z, (u5.setCell ⟨xb, 2, none⟩ (.int .i64 (0))) = z := ⟨_, rfl⟩; rw [hW5] at PX RX CU ON ⊢; clear hW5 PV RV CV OV pf p0 p1 p2 p3 p4; obtain ⟨y0, y1, y2, y3, y4, PX⟩ : ∃ y0 y1 y2 y3 y4 : Int, C5 W5 xb (.int .i64 y0) (.int .i64 y1) (.int .i64 y2) (.int .i64 y3) (.int .i64 y4) := ⟨_, _, _, _, _, PX⟩; replace CU : Cur b (k + 10) W5 := CU.mono (by omega); generalize W5 = W0 at PX RX CU ON ⊢)
        | (replace PX := PV; replace RX := RV; replace CU := CV; replace ON := ON.trans OV; clear PV RV CV OV pf p0 p1 p2 p3 p4; obtain ⟨y0, y1, y2, y3, y4, PX⟩ : ∃ y0 y1 y2 y3 y4 : Int, C5 u5 xb (.int .i64 y0) (.int .i64 y1) (.int .i64 y2) (.int .i64 y3) (.int .i64 y4) := ⟨_, _, _, _, _, PX⟩; replace CU : Cur b (k + 10) u5 := CU.mono (by omega); generalize u5 = W0 at PX RX CU ON ⊢)
  all_goals
    go_upto_region 19 with (first
      | (go_at_call 57; (with_reducible show Calls Try.prog 57 #[_, .int .i64 80] W0 _); refine (one30 b (k + 10) 80 W0 (by omega) CU (by decide) (by decide)).mono ?_; rintro e v1 ⟨tt, rfl, CV, OV⟩; (have PV := PX.only OV (by omega)); (have RV := RX.only OV (by omega)); (have pf := PV.f); (have p0 := PV.c0); (have p1 := PV.c1); (have p2 := PV.c2); (have p3 := PV.c3); (have p4 := PV.c4))
      | (go_at_call 56; (with_reducible show Calls Try.prog 56 #[_, .int .i64 4] v1 _); refine (pick32 b (k + 10 + 2) 4 v1 (by omega) CV (by decide) (by decide)).mono ?_; rintro e v2 ⟨x8, x80, x81, rfl, CV2, OV2⟩; (have PV2 := PV.only OV2 (by omega)); (have RV2 := RV.only OV2 (by omega)); (have qf := PV2.f); (have q3 := PV2.c3))
      | (go_at_call 64; (with_reducible show Calls Try.prog 64 _ (World.alloc _ (.cells #[.int .i64 0, .int .i64 7] 3)) _); refine (HA2.out v2 (k + 10 + 2 + 2) (0) (7) CV2 (by omega)).mono ?_; rintro e v3 ⟨x9, rfl, CV3, OV3⟩; (have PV3 := (PV2.next alloc_b).only OV3 (by omega)); (have RV3 := (RV2.next alloc_b).only OV3 (by omega)); (have OA3 := ((ON.trans OV).trans OV2).alloc (.cells #[.int .i64 0, .int .i64 7] 3) |>.trans OV3); (have qf := PV3.f); (have q0 := PV3.c0); (have q1 := PV3.c1); (have q4 := PV3.c4))
      | (go_at_call 64; (with_reducible show Calls Try.prog 64 _ (World.alloc _ (.cells #[.int .i64 (-1), .int .i64 8] 3)) _); refine (HA2.out v2 (k + 10 + 2 + 2) (-1) (8) CV2 (by omega)).mono ?_; rintro e v3 ⟨x9, rfl, CV3, OV3⟩; (have PV3 := (PV2.next alloc_b).only OV3 (by omega)); (have RV3 := (RV2.next alloc_b).only OV3 (by omega)); (have OA3 := ((ON.trans OV).trans OV2).alloc (.cells #[.int .i64 (-1), .int .i64 8] 3) |>.trans OV3); (have qf := PV3.f); (have q0 := PV3.c0); (have q1 := PV3.c1); (have q4 := PV3.c4))
      | (go_at_call 64; (with_reducible show Calls Try.prog 64 _ (World.alloc _ (.cells #[.int .i64 31, .int .i64 32, .int .i64 1] 3)) _); refine (HA3.out v2 (k + 10 + 2 + 2) (31) (32) (1) CV2 (by omega)).mono ?_; rintro e v3 ⟨x9, rfl, CV3, OV3⟩; (have PV3 := (PV2.next alloc_b).only OV3 (by omega)); (have RV3 := (RV2.next alloc_b).only OV3 (by omega)); (have OA3 := ((ON.trans OV).trans OV2).alloc (.cells #[.int .i64 31, .int .i64 32, .int .i64 1] 3) |>.trans OV3); (have qf := PV3.f); (have q0 := PV3.c0); (have q1 := PV3.c1); (have q4 := PV3.c4)))
    all_goals first
      | (replace PX := PV3.s0 (.int .i64 (x9)); replace RX := RV3.far xb 0 (.int .i64 (x9)) (by omega); replace CU := (CV3.far hbx 0 (.int .i64 (x9))).mono (show _ ≤ k + 16 by omega); replace ON := (OA3).new (x := xb) (by omega) 0 (.int .i64 (x9)); (obtain ⟨WZ, hWZ⟩ : ∃ z, (v3.setCell ⟨xb, 0, none⟩ (.int .i64 (x9))) = z := ⟨_, rfl⟩); rw [hWZ] at PX RX CU ON ⊢; clear hWZ)
      | (replace PX := PV3.s1 (.int .i64 (x9)); replace RX := RV3.far xb 1 (.int .i64 (x9)) (by omega); replace CU := (CV3.far hbx 1 (.int .i64 (x9))).mono (show _ ≤ k + 16 by omega); replace ON := (OA3).new (x := xb) (by omega) 1 (.int .i64 (x9)); (obtain ⟨WZ, hWZ⟩ : ∃ z, (v3.setCell ⟨xb, 1, none⟩ (.int .i64 (x9))) = z := ⟨_, rfl⟩); rw [hWZ] at PX RX CU ON ⊢; clear hWZ)
      | (replace PX := PV3.s4 (.int .i64 (x9)); replace RX := RV3.far xb 4 (.int .i64 (x9)) (by omega); replace CU := (CV3.far hbx 4 (.int .i64 (x9))).mono (show _ ≤ k + 16 by omega); replace ON := (OA3).new (x := xb) (by omega) 4 (.int .i64 (x9)); (obtain ⟨WZ, hWZ⟩ : ∃ z, (v3.setCell ⟨xb, 4, none⟩ (.int .i64 (x9))) = z := ⟨_, rfl⟩); rw [hWZ] at PX RX CU ON ⊢; clear hWZ)
      | (replace PX := PV2.s3 (.int .i64 (4)); replace RX := RV2.far xb 3 (.int .i64 (4)) (by omega); replace CU := (CV2.far hbx 3 (.int .i64 (4))).mono (show _ ≤ k + 16 by omega); replace ON := ((ON.trans OV).trans OV2).new (x := xb) (by omega) 3 (.int .i64 (4)); (obtain ⟨WZ, hWZ⟩ : ∃ z, (v2.setCell ⟨xb, 3, none⟩ (.int .i64 (4))) = z := ⟨_, rfl⟩); rw [hWZ] at PX RX CU ON ⊢; clear hWZ)
      | (replace PX := PV; replace RX := RV; replace CU := CV.mono (show _ ≤ k + 16 by omega); replace ON := ON.trans OV; generalize v1 = WZ at PX RX CU ON ⊢)
    all_goals
      obtain ⟨z0, z1, z2, z3, z4, PZ⟩ : ∃ z0 z1 z2 z3 z4 : Int, C5 WZ xb (.int .i64 z0) (.int .i64 z1) (.int .i64 z2) (.int .i64 z3) (.int .i64 z4) := ⟨_, _, _, _, _, PX⟩
      clear PX
      have g0 := PZ.c0
      have g1 := PZ.c1
      have g2 := PZ.c2
      have g3 := PZ.c3
      have g4 := PZ.c4
      have h0 := RX.c0
      have h1 := RX.c1
      have h2 := RX.c2
      have h3 := RX.c3
      have h4 := RX.c4
      have hf := RX.f
      go_wp2
      have RF := ((((RX.s0 (.int .i64 z0)).s1 (.int .i64 z1)).s2 (.int .i64 z2)).s3 (.int .i64 z3)).s4 (.int .i64 z4)
      have e0 := RF.c0
      have e1 := RF.c1
      have e2 := RF.c2
      have e3 := RF.c3
      have e4 := RF.c4
      exact bodyPost_ret (v := .agg #[.int .i64 z0, .int .i64 z1, .int .i64 z2, .int .i64 z3, .int .i64 z4]) (by simp [results, Try.results58, go_sem, e0, e1, e2, e3, e4]) rfl ⟨⟨z0, z1, z2, z3, z4, rfl⟩, (((((CU.far (by omega) 0 _).far (by omega) 1 _).far (by omega) 2 _).far (by omega) 3 _).far (by omega) 4 _).mono (by omega), ((((ON.new (x := rb) (by omega) 0 _).new (x := rb) (by omega) 1 _).new (x := rb) (by omega) 2 _).new (x := rb) (by omega) 3 _).new (x := rb) (by omega) 4 _⟩
end Go.Proofs.Ytnbpncjbfnhkjaa
