/- BlendColor answers as its model at every two colors (four whole numbers each). No conditions. -/
import Derived.Test.YtglhlpbaaoekgaaRows
import Derived.Test.YtglhlpbaaoekgaaCb
namespace Go.Proofs.Ytglhlpbaaoekgaa.fnExactBlendColor
open Go.ChangeShapes Go.WideShapes Go.ChangeAt Go.RowKit
set_option linter.unusedVariables false
theorem own : ownKnob Try.prog.godebug = none := by kernel_rfl
theorem laidOut : laidOutB Try.prog = true := by kernel_rfl

set_option maxRecDepth 100000 in
set_option maxHeartbeats 8000000 in
theorem walk (w : World) (kr kg kb ka : Int) (lr lg lb la : Int) :
    Calls Try.prog 9 #[.agg #[.int .i64 kr, .int .i64 kg, .int .i64 kb, .int .i64 ka], .agg #[.int .i64 lr, .int .i64 lg, .int .i64 lb, .int .i64 la]] w fun e w' => e = .returned (.bool true) ∧ Below w.heap.size w w' := by
  have HM : Hid (∀ w', Calls Try.prog 31 #[.agg #[.int .i64 kr, .int .i64 kg, .int .i64 kb, .int .i64 ka], .agg #[.int .i64 lr, .int .i64 lg, .int .i64 lb, .int .i64 la]] w' fun e w'' => e = .returned (.tuple #[colV (bcC kr kg kb ka lr lg lb la), .bool (bcB kr kg kb ka lr lg lb la)]) ∧ Below w'.heap.size w' w'') := fun w' => mbc kr kg kb ka lr lg lb la w'
  have HP : Hid (∀ w', Calls Try.prog 33 #[.agg #[.int .i64 kr, .int .i64 kg, .int .i64 kb, .int .i64 ka], .agg #[.int .i64 lr, .int .i64 lg, .int .i64 lb, .int .i64 la]] w' fun e w'' => e = .returned (.tuple #[colV (bcC kr kg kb ka lr lg lb la), .bool (bcB kr kg kb ka lr lg lb la)]) ∧ Below w'.heap.size w' w'') := fun w' => pbc kr kg kb ka lr lg lb la w'
  unfold colV at HM HP
  generalize bcC kr kg kb ka lr lg lb la = q at HM HP
  generalize bcB kr kg kb ka lr lg lb la = GB at HM HP
  obtain ⟨W1, hW1⟩ : ∃ W, (w.alloc (.cells #[.int .i64 kr, .int .i64 kg, .int .i64 kb, .int .i64 ka] 41)).alloc (.cells #[.int .i64 lr, .int .i64 lg, .int .i64 lb, .int .i64 la] 41) = W := ⟨_, rfl⟩
  have KA : C4 W1 w.heap.size (.int .i64 kr) (.int .i64 kg) (.int .i64 kb) (.int .i64 ka) := by rw [← hW1]; exact (C4.new w 41 (.int .i64 kr) (.int .i64 kg) (.int .i64 kb) (.int .i64 ka)).next alloc_b
  have LA : C4 W1 (w.heap.size + 1) (.int .i64 lr) (.int .i64 lg) (.int .i64 lb) (.int .i64 la) := by
    rw [← hW1]
    have h := C4.new (w.alloc (.cells #[.int .i64 kr, .int .i64 kg, .int .i64 kb, .int .i64 ka] 41)) 41 (.int .i64 lr) (.int .i64 lg) (.int .i64 lb) (.int .i64 la)
    rwa [World.size_alloc] at h
  have BX : Below w.heap.size w W1 := by rw [← hW1]; exact b2_
  have HWE := Hid.mk hW1
  clear hW1
  go_enter Try.func9, Try.ntmps9
  go_upto_region 1 with fail
  rw [HWE.out]
  clear HWE
  go_cut [5, 6] (fun pv bv wx => ∃ ab : Nat, pv = .pointer (some ⟨ab, 0, none⟩) ∧ bv = .bool GB ∧ C4 wx ab (.int .i64 q.r) (.int .i64 q.g) (.int .i64 q.b) (.int .i64 q.a) ∧ Below W1.heap.size W1 wx ∧ W1.heap.size ≤ ab)
  case first =>
    generalize hWW : W1.drew = WX
    have KA := KA.next (below_drew (Below.refl _ _))
    have LA := LA.next (below_drew (Below.refl _ _))
    have BX := below_drew BX
    have BX2 : Below W1.heap.size W1 W1.drew := below_drew (Below.refl _ _)
    rw [hWW] at KA LA BX BX2
    refine wp_region_held_drew (S := fun v => Below WX.heap.size WX v) (by kernel_rfl) (by rw [hWW]; exact Below.refl _ _) (fun hH => ?_)
    rw [hWW] at hH ⊢
    clear hWW
    refine wpAnyH_take (i := 0) (oi := { dst := some 10, op := Op.load 41 (Operand.tmp 2), type := 41, pos := "exact.go:5366", after := #[], guard := none }) (v := .agg #[.int .i64 kr, .int .i64 kg, .int .i64 kb, .int .i64 ka]) rfl (by kernel_rfl) (by kernel_rfl) (by kernel_rfl) (fun _ _ _ h => h) (Or.inl ⟨by rfl, fun w0 hSw => by ((have e0 := cell_nx KA.c0 hSw); (have e1 := cell_nx KA.c1 hSw); (have e2 := cell_nx KA.c2 hSw); (have e3 := cell_nx KA.c3 hSw); go_simp)⟩) hH ?_
    simp only [Act.put, List.setIfInBounds_toArray, List.set_cons_zero, List.set_cons_succ]
    refine wpAnyH_take (i := 2) (oi := { dst := some 12, op := Op.load 41 (Operand.tmp 3), type := 41, pos := "exact.go:5366", after := #[], guard := none }) (v := .agg #[.int .i64 lr, .int .i64 lg, .int .i64 lb, .int .i64 la]) rfl (by kernel_rfl) (by kernel_rfl) (by kernel_rfl) (fun _ _ _ h => h) (Or.inl ⟨by rfl, fun w0 hSw => by ((have e0 := cell_nx LA.c0 hSw); (have e1 := cell_nx LA.c1 hSw); (have e2 := cell_nx LA.c2 hSw); (have e3 := cell_nx LA.c3 hSw); go_simp)⟩) hH ?_
    simp only [Act.put, List.setIfInBounds_toArray, List.set_cons_zero, List.set_cons_succ]
    refine wpAnyH_ready (rs := [1, 8]) (by kernel_rfl) (by simp) ?_
    refine (AllReadyH.cons (o := { dst := some 11, op := Op.call { callee := Callee.value (Operand.func 32), args := #[Operand.tmp 10], argTypes := #[41] }, type := 26, pos := "exact.go:5366", after := #[{ on := 0, ground := Ground.data }], guard := none }) rfl (fun K hK => ?_) (AllReadyH.cons (o := { dst := some 5, op := Op.alloc 26, type := 0, pos := "exact.go:5366", after := #[], guard := none }) rfl (fun K hK => ?_) AllReadyH.nil))
    · refine step_callW 32 #[.agg #[.int .i64 kr, .int .i64 kg, .int .i64 kb, .int .i64 ka]] (fun z v w' => z = .agg #[.int .i64 kr, .int .i64 kg, .int .i64 kb, .int .i64 ka] ∧ Below v.heap.size v w') (by rfl) (by go_simp) ((toK kr kg kb ka _).mono fun e w' ⟨h1, h2⟩ => ⟨_, h1, rfl, h2⟩) ?_
      rintro za wa ⟨rfl, B8⟩
      simp only [Act.put, List.setIfInBounds_toArray, List.set_cons_zero, List.set_cons_succ]
      refine hK.out _ _ (hH.trans (B8.mono hH.size)) (fun hH' => ?_)
      clear hK K
      replace hH := hH'
      clear hH' 
      clear B8
      refine wpAnyH_ready (rs := [3, 8]) (by kernel_rfl) (by simp) ?_
      refine (AllReadyH.cons (o := { dst := some 13, op := Op.call { callee := Callee.value (Operand.func 32), args := #[Operand.tmp 12], argTypes := #[41] }, type := 26, pos := "exact.go:5366", after := #[{ on := 2, ground := Ground.data }, { on := 1, ground := Ground.chain }], guard := none }) rfl (fun K hK => ?_) (AllReadyH.cons (o := { dst := some 5, op := Op.alloc 26, type := 0, pos := "exact.go:5366", after := #[], guard := none }) rfl (fun K hK => ?_) AllReadyH.nil))
      · refine step_callW 32 #[.agg #[.int .i64 lr, .int .i64 lg, .int .i64 lb, .int .i64 la]] (fun z v w' => z = .agg #[.int .i64 lr, .int .i64 lg, .int .i64 lb, .int .i64 la] ∧ Below v.heap.size v w') (by rfl) (by go_simp) ((toK lr lg lb la _).mono fun e w' ⟨h1, h2⟩ => ⟨_, h1, rfl, h2⟩) ?_
        rintro zb wb ⟨rfl, B8⟩
        simp only [Act.put, List.setIfInBounds_toArray, List.set_cons_zero, List.set_cons_succ]
        refine hK.out _ _ (hH.trans (B8.mono hH.size)) (fun hH' => ?_)
        clear hK K
        replace hH := hH'
        clear hH' 
        clear B8
        refine wpAnyH_ready (rs := [4, 8]) (by kernel_rfl) (by simp) ?_
        refine (AllReadyH.cons (o := { dst := some 14, op := Op.call { callee := Callee.value (Operand.func 31), args := #[Operand.tmp 11, Operand.tmp 13], argTypes := #[26, 26] }, type := 51, pos := "exact.go:5366", after := #[{ on := 1, ground := Ground.data }, { on := 3, ground := Ground.data }, { on := 3, ground := Ground.chain }], guard := none }) rfl (fun K hK => ?_) (AllReadyH.cons (o := { dst := some 5, op := Op.alloc 26, type := 0, pos := "exact.go:5366", after := #[], guard := none }) rfl (fun K hK => ?_) AllReadyH.nil))
        · refine step_callW 31 #[.agg #[.int .i64 kr, .int .i64 kg, .int .i64 kb, .int .i64 ka], .agg #[.int .i64 lr, .int .i64 lg, .int .i64 lb, .int .i64 la]] (fun z v w' => z = .tuple #[.agg #[.int .i64 q.r, .int .i64 q.g, .int .i64 q.b, .int .i64 q.a], .bool GB] ∧ Below v.heap.size v w') (by rfl) (by go_simp) ((HM.out _).mono fun e w' ⟨h1, h2⟩ => ⟨_, h1, rfl, h2⟩) ?_
          rintro zc wc ⟨rfl, B9⟩
          simp only [Act.put, List.setIfInBounds_toArray, List.set_cons_zero, List.set_cons_succ]
          refine hK.out _ _ (hH.trans (B9.mono hH.size)) (fun hH' => ?_)
          clear hK K
          replace hH := hH'
          clear hH' 
          clear B9
          refine wpAnyH_take (i := 5) (oi := { dst := some 9, op := Op.move (Operand.tmp 14), type := 51, pos := "exact.go:5366", after := #[{ on := 4, ground := Ground.data }], guard := none }) (v := .tuple #[.agg #[.int .i64 q.r, .int .i64 q.g, .int .i64 q.b, .int .i64 q.a], .bool GB]) rfl (by kernel_rfl) (by kernel_rfl) (by kernel_rfl) (fun _ _ _ h => h) (Or.inl ⟨by rfl, fun w0 hSw => by (go_simp)⟩) hH ?_
          simp only [Act.put, List.setIfInBounds_toArray, List.set_cons_zero, List.set_cons_succ]
          refine wpAnyH_take (i := 6) (oi := { dst := some 15, op := Op.extract (Operand.tmp 9) 0, type := 26, pos := "exact.go:5366", after := #[{ on := 5, ground := Ground.data }], guard := none }) (v := .agg #[.int .i64 q.r, .int .i64 q.g, .int .i64 q.b, .int .i64 q.a]) rfl (by kernel_rfl) (by kernel_rfl) (by kernel_rfl) (fun _ _ _ h => h) (Or.inl ⟨by rfl, fun w0 hSw => by (go_simp)⟩) hH ?_
          simp only [Act.put, List.setIfInBounds_toArray, List.set_cons_zero, List.set_cons_succ]
          refine wpAnyH_take (i := 7) (oi := { dst := some 16, op := Op.extract (Operand.tmp 9) 1, type := 4, pos := "exact.go:5366", after := #[{ on := 5, ground := Ground.data }, { on := 9, ground := Ground.gcOnly Departure.lateStores }], guard := none }) (v := .bool GB) rfl (by kernel_rfl) (by kernel_rfl) (by kernel_rfl) (fun _ _ _ h => h) (Or.inl ⟨by rfl, fun w0 hSw => by (go_simp)⟩) hH ?_
          simp only [Act.put, List.setIfInBounds_toArray, List.set_cons_zero, List.set_cons_succ]
          refine wpAnyH_ready (rs := [8]) (by kernel_rfl) (by simp) ?_
          refine (AllReadyH.cons (o := { dst := some 5, op := Op.alloc 26, type := 0, pos := "exact.go:5366", after := #[], guard := none }) rfl (fun K hK => ?_) AllReadyH.nil)
          refine step_val (.pointer (some ⟨wc.heap.size, 0, none⟩)) (wc.alloc (.cells #[.int .i64 0, .int .i64 0, .int .i64 0, .int .i64 0] 26)) (by rfl) (by go_simp) ?_
          have D8 := C4.new wc 26 (.int .i64 0) (.int .i64 0) (.int .i64 0) (.int .i64 0)
          have hD8 : WX.heap.size ≤ wc.heap.size := hH.size
          simp only [Act.put, List.setIfInBounds_toArray, List.set_cons_zero, List.set_cons_succ]
          refine hK.out _ _ (hH.trans (alloc_b.mono hH.size)) (fun hH' => ?_)
          clear hK K
          replace hH := hH'
          clear hH' 
          generalize wc.alloc (.cells #[.int .i64 0, .int .i64 0, .int .i64 0, .int .i64 0] 26) = wN at D8 hH ⊢
          refine wpAnyH_ready (rs := [9]) (by kernel_rfl) (by simp) ?_
          refine (AllReadyH.cons (o := { dst := none, op := Op.store 26 (Operand.tmp 5) (Operand.tmp 15), type := 0, pos := "exact.go:5366", after := #[{ on := 8, ground := Ground.data }, { on := 6, ground := Ground.data }, { on := 4, ground := Ground.chain }, { on := 0, ground := Ground.phase }, { on := 1, ground := Ground.phase }, { on := 2, ground := Ground.phase }, { on := 3, ground := Ground.phase }, { on := 4, ground := Ground.phase }, { on := 5, ground := Ground.phase }, { on := 6, ground := Ground.phase }, { on := 7, ground := Ground.textOnly Departure.lateStores }, { on := 8, ground := Ground.phase }], guard := none }) rfl (fun K hK => ?_) AllReadyH.nil)
          have s0 := D8.c0
          have s1 := D8.c1
          have s2 := D8.c2
          have s3 := D8.c3
          have sf := D8.f
          refine step_skip (set4 wN (wc.heap.size) (.int .i64 q.r) (.int .i64 q.g) (.int .i64 q.b) (.int .i64 q.a)) (by rfl) (by unfold set4; go_simp) ?_
          have D9 := D8.put (.int .i64 q.r) (.int .i64 q.g) (.int .i64 q.b) (.int .i64 q.a)
          have B9 : Below WX.heap.size WX (set4 wN (wc.heap.size) (.int .i64 q.r) (.int .i64 q.g) (.int .i64 q.b) (.int .i64 q.a)) := hH.trans ((only_set4 wN (wc.heap.size) (.int .i64 q.r) (.int .i64 q.g) (.int .i64 q.b) (.int .i64 q.a)).below hD8 hH.size)
          refine hK.out _ _ B9 (fun hH' => ?_)
          clear hK K
          replace hH := hH'
          clear hH' s0 s1 s2 s3 sf D8
          refine wpAnyH_take (i := 10) (oi := { dst := some 6, op := Op.assign (Operand.tmp 16), type := 4, pos := "exact.go:5366", after := #[{ on := 7, ground := Ground.data }, { on := 9, ground := Ground.chain }, { on := 0, ground := Ground.phase }, { on := 1, ground := Ground.phase }, { on := 2, ground := Ground.phase }, { on := 3, ground := Ground.phase }, { on := 4, ground := Ground.phase }, { on := 5, ground := Ground.phase }, { on := 6, ground := Ground.phase }, { on := 7, ground := Ground.phase }, { on := 8, ground := Ground.phase }, { on := 9, ground := Ground.phase }], guard := none }) (v := .bool GB) rfl (by kernel_rfl) (by kernel_rfl) (by kernel_rfl) (fun _ _ _ h => h) (Or.inl ⟨by rfl, fun w0 hSw => by (go_simp)⟩) hH ?_
          simp only [Act.put, List.setIfInBounds_toArray, List.set_cons_zero, List.set_cons_succ]
          refine wpAnyH_done (by kernel_rfl) ?_ _
          go_wp2_with fail
          go_meet
          case rel => exact ⟨wc.heap.size, rfl, rfl, D9, BX2.trans (B9.mono BX2.size), Nat.le_trans BX2.size hD8⟩
        · refine step_val (.pointer (some ⟨wb.heap.size, 0, none⟩)) (wb.alloc (.cells #[.int .i64 0, .int .i64 0, .int .i64 0, .int .i64 0] 26)) (by rfl) (by go_simp) ?_
          have D8 := C4.new wb 26 (.int .i64 0) (.int .i64 0) (.int .i64 0) (.int .i64 0)
          have hD8 : WX.heap.size ≤ wb.heap.size := hH.size
          simp only [Act.put, List.setIfInBounds_toArray, List.set_cons_zero, List.set_cons_succ]
          refine hK.out _ _ (hH.trans (alloc_b.mono hH.size)) (fun hH' => ?_)
          clear hK K
          replace hH := hH'
          clear hH' 
          generalize wb.alloc (.cells #[.int .i64 0, .int .i64 0, .int .i64 0, .int .i64 0] 26) = wN at D8 hH ⊢
          refine wpAnyH_ready (rs := [4]) (by kernel_rfl) (by simp) ?_
          refine (AllReadyH.cons (o := { dst := some 14, op := Op.call { callee := Callee.value (Operand.func 31), args := #[Operand.tmp 11, Operand.tmp 13], argTypes := #[26, 26] }, type := 51, pos := "exact.go:5366", after := #[{ on := 1, ground := Ground.data }, { on := 3, ground := Ground.data }, { on := 3, ground := Ground.chain }], guard := none }) rfl (fun K hK => ?_) AllReadyH.nil)
          refine step_callW 31 #[.agg #[.int .i64 kr, .int .i64 kg, .int .i64 kb, .int .i64 ka], .agg #[.int .i64 lr, .int .i64 lg, .int .i64 lb, .int .i64 la]] (fun z v w' => z = .tuple #[.agg #[.int .i64 q.r, .int .i64 q.g, .int .i64 q.b, .int .i64 q.a], .bool GB] ∧ Below v.heap.size v w') (by rfl) (by go_simp) ((HM.out _).mono fun e w' ⟨h1, h2⟩ => ⟨_, h1, rfl, h2⟩) ?_
          rintro zc wc ⟨rfl, B9⟩
          replace D8 := D8.next B9
          simp only [Act.put, List.setIfInBounds_toArray, List.set_cons_zero, List.set_cons_succ]
          refine hK.out _ _ (hH.trans (B9.mono hH.size)) (fun hH' => ?_)
          clear hK K
          replace hH := hH'
          clear hH' 
          clear B9
          refine wpAnyH_take (i := 5) (oi := { dst := some 9, op := Op.move (Operand.tmp 14), type := 51, pos := "exact.go:5366", after := #[{ on := 4, ground := Ground.data }], guard := none }) (v := .tuple #[.agg #[.int .i64 q.r, .int .i64 q.g, .int .i64 q.b, .int .i64 q.a], .bool GB]) rfl (by kernel_rfl) (by kernel_rfl) (by kernel_rfl) (fun _ _ _ h => h) (Or.inl ⟨by rfl, fun w0 hSw => by (go_simp)⟩) hH ?_
          simp only [Act.put, List.setIfInBounds_toArray, List.set_cons_zero, List.set_cons_succ]
          refine wpAnyH_take (i := 6) (oi := { dst := some 15, op := Op.extract (Operand.tmp 9) 0, type := 26, pos := "exact.go:5366", after := #[{ on := 5, ground := Ground.data }], guard := none }) (v := .agg #[.int .i64 q.r, .int .i64 q.g, .int .i64 q.b, .int .i64 q.a]) rfl (by kernel_rfl) (by kernel_rfl) (by kernel_rfl) (fun _ _ _ h => h) (Or.inl ⟨by rfl, fun w0 hSw => by (go_simp)⟩) hH ?_
          simp only [Act.put, List.setIfInBounds_toArray, List.set_cons_zero, List.set_cons_succ]
          refine wpAnyH_take (i := 7) (oi := { dst := some 16, op := Op.extract (Operand.tmp 9) 1, type := 4, pos := "exact.go:5366", after := #[{ on := 5, ground := Ground.data }, { on := 9, ground := Ground.gcOnly Departure.lateStores }], guard := none }) (v := .bool GB) rfl (by kernel_rfl) (by kernel_rfl) (by kernel_rfl) (fun _ _ _ h => h) (Or.inl ⟨by rfl, fun w0 hSw => by (go_simp)⟩) hH ?_
          simp only [Act.put, List.setIfInBounds_toArray, List.set_cons_zero, List.set_cons_succ]
          refine wpAnyH_ready (rs := [9]) (by kernel_rfl) (by simp) ?_
          refine (AllReadyH.cons (o := { dst := none, op := Op.store 26 (Operand.tmp 5) (Operand.tmp 15), type := 0, pos := "exact.go:5366", after := #[{ on := 8, ground := Ground.data }, { on := 6, ground := Ground.data }, { on := 4, ground := Ground.chain }, { on := 0, ground := Ground.phase }, { on := 1, ground := Ground.phase }, { on := 2, ground := Ground.phase }, { on := 3, ground := Ground.phase }, { on := 4, ground := Ground.phase }, { on := 5, ground := Ground.phase }, { on := 6, ground := Ground.phase }, { on := 7, ground := Ground.textOnly Departure.lateStores }, { on := 8, ground := Ground.phase }], guard := none }) rfl (fun K hK => ?_) AllReadyH.nil)
          have s0 := D8.c0
          have s1 := D8.c1
          have s2 := D8.c2
          have s3 := D8.c3
          have sf := D8.f
          refine step_skip (set4 wc (wb.heap.size) (.int .i64 q.r) (.int .i64 q.g) (.int .i64 q.b) (.int .i64 q.a)) (by rfl) (by unfold set4; go_simp) ?_
          have D9 := D8.put (.int .i64 q.r) (.int .i64 q.g) (.int .i64 q.b) (.int .i64 q.a)
          have B9 : Below WX.heap.size WX (set4 wc (wb.heap.size) (.int .i64 q.r) (.int .i64 q.g) (.int .i64 q.b) (.int .i64 q.a)) := hH.trans ((only_set4 wc (wb.heap.size) (.int .i64 q.r) (.int .i64 q.g) (.int .i64 q.b) (.int .i64 q.a)).below hD8 hH.size)
          refine hK.out _ _ B9 (fun hH' => ?_)
          clear hK K
          replace hH := hH'
          clear hH' s0 s1 s2 s3 sf D8
          refine wpAnyH_take (i := 10) (oi := { dst := some 6, op := Op.assign (Operand.tmp 16), type := 4, pos := "exact.go:5366", after := #[{ on := 7, ground := Ground.data }, { on := 9, ground := Ground.chain }, { on := 0, ground := Ground.phase }, { on := 1, ground := Ground.phase }, { on := 2, ground := Ground.phase }, { on := 3, ground := Ground.phase }, { on := 4, ground := Ground.phase }, { on := 5, ground := Ground.phase }, { on := 6, ground := Ground.phase }, { on := 7, ground := Ground.phase }, { on := 8, ground := Ground.phase }, { on := 9, ground := Ground.phase }], guard := none }) (v := .bool GB) rfl (by kernel_rfl) (by kernel_rfl) (by kernel_rfl) (fun _ _ _ h => h) (Or.inl ⟨by rfl, fun w0 hSw => by (go_simp)⟩) hH ?_
          simp only [Act.put, List.setIfInBounds_toArray, List.set_cons_zero, List.set_cons_succ]
          refine wpAnyH_done (by kernel_rfl) ?_ _
          go_wp2_with fail
          go_meet
          case rel => exact ⟨wb.heap.size, rfl, rfl, D9, BX2.trans (B9.mono BX2.size), Nat.le_trans BX2.size hD8⟩
      · refine step_val (.pointer (some ⟨wa.heap.size, 0, none⟩)) (wa.alloc (.cells #[.int .i64 0, .int .i64 0, .int .i64 0, .int .i64 0] 26)) (by rfl) (by go_simp) ?_
        have D8 := C4.new wa 26 (.int .i64 0) (.int .i64 0) (.int .i64 0) (.int .i64 0)
        have hD8 : WX.heap.size ≤ wa.heap.size := hH.size
        simp only [Act.put, List.setIfInBounds_toArray, List.set_cons_zero, List.set_cons_succ]
        refine hK.out _ _ (hH.trans (alloc_b.mono hH.size)) (fun hH' => ?_)
        clear hK K
        replace hH := hH'
        clear hH' 
        generalize wa.alloc (.cells #[.int .i64 0, .int .i64 0, .int .i64 0, .int .i64 0] 26) = wN at D8 hH ⊢
        refine wpAnyH_ready (rs := [3]) (by kernel_rfl) (by simp) ?_
        refine (AllReadyH.cons (o := { dst := some 13, op := Op.call { callee := Callee.value (Operand.func 32), args := #[Operand.tmp 12], argTypes := #[41] }, type := 26, pos := "exact.go:5366", after := #[{ on := 2, ground := Ground.data }, { on := 1, ground := Ground.chain }], guard := none }) rfl (fun K hK => ?_) AllReadyH.nil)
        refine step_callW 32 #[.agg #[.int .i64 lr, .int .i64 lg, .int .i64 lb, .int .i64 la]] (fun z v w' => z = .agg #[.int .i64 lr, .int .i64 lg, .int .i64 lb, .int .i64 la] ∧ Below v.heap.size v w') (by rfl) (by go_simp) ((toK lr lg lb la _).mono fun e w' ⟨h1, h2⟩ => ⟨_, h1, rfl, h2⟩) ?_
        rintro zb wb ⟨rfl, B8⟩
        replace D8 := D8.next B8
        simp only [Act.put, List.setIfInBounds_toArray, List.set_cons_zero, List.set_cons_succ]
        refine hK.out _ _ (hH.trans (B8.mono hH.size)) (fun hH' => ?_)
        clear hK K
        replace hH := hH'
        clear hH' 
        clear B8
        refine wpAnyH_ready (rs := [4]) (by kernel_rfl) (by simp) ?_
        refine (AllReadyH.cons (o := { dst := some 14, op := Op.call { callee := Callee.value (Operand.func 31), args := #[Operand.tmp 11, Operand.tmp 13], argTypes := #[26, 26] }, type := 51, pos := "exact.go:5366", after := #[{ on := 1, ground := Ground.data }, { on := 3, ground := Ground.data }, { on := 3, ground := Ground.chain }], guard := none }) rfl (fun K hK => ?_) AllReadyH.nil)
        refine step_callW 31 #[.agg #[.int .i64 kr, .int .i64 kg, .int .i64 kb, .int .i64 ka], .agg #[.int .i64 lr, .int .i64 lg, .int .i64 lb, .int .i64 la]] (fun z v w' => z = .tuple #[.agg #[.int .i64 q.r, .int .i64 q.g, .int .i64 q.b, .int .i64 q.a], .bool GB] ∧ Below v.heap.size v w') (by rfl) (by go_simp) ((HM.out _).mono fun e w' ⟨h1, h2⟩ => ⟨_, h1, rfl, h2⟩) ?_
        rintro zc wc ⟨rfl, B9⟩
        replace D8 := D8.next B9
        simp only [Act.put, List.setIfInBounds_toArray, List.set_cons_zero, List.set_cons_succ]
        refine hK.out _ _ (hH.trans (B9.mono hH.size)) (fun hH' => ?_)
        clear hK K
        replace hH := hH'
        clear hH' 
        clear B9
        refine wpAnyH_take (i := 5) (oi := { dst := some 9, op := Op.move (Operand.tmp 14), type := 51, pos := "exact.go:5366", after := #[{ on := 4, ground := Ground.data }], guard := none }) (v := .tuple #[.agg #[.int .i64 q.r, .int .i64 q.g, .int .i64 q.b, .int .i64 q.a], .bool GB]) rfl (by kernel_rfl) (by kernel_rfl) (by kernel_rfl) (fun _ _ _ h => h) (Or.inl ⟨by rfl, fun w0 hSw => by (go_simp)⟩) hH ?_
        simp only [Act.put, List.setIfInBounds_toArray, List.set_cons_zero, List.set_cons_succ]
        refine wpAnyH_take (i := 6) (oi := { dst := some 15, op := Op.extract (Operand.tmp 9) 0, type := 26, pos := "exact.go:5366", after := #[{ on := 5, ground := Ground.data }], guard := none }) (v := .agg #[.int .i64 q.r, .int .i64 q.g, .int .i64 q.b, .int .i64 q.a]) rfl (by kernel_rfl) (by kernel_rfl) (by kernel_rfl) (fun _ _ _ h => h) (Or.inl ⟨by rfl, fun w0 hSw => by (go_simp)⟩) hH ?_
        simp only [Act.put, List.setIfInBounds_toArray, List.set_cons_zero, List.set_cons_succ]
        refine wpAnyH_take (i := 7) (oi := { dst := some 16, op := Op.extract (Operand.tmp 9) 1, type := 4, pos := "exact.go:5366", after := #[{ on := 5, ground := Ground.data }, { on := 9, ground := Ground.gcOnly Departure.lateStores }], guard := none }) (v := .bool GB) rfl (by kernel_rfl) (by kernel_rfl) (by kernel_rfl) (fun _ _ _ h => h) (Or.inl ⟨by rfl, fun w0 hSw => by (go_simp)⟩) hH ?_
        simp only [Act.put, List.setIfInBounds_toArray, List.set_cons_zero, List.set_cons_succ]
        refine wpAnyH_ready (rs := [9]) (by kernel_rfl) (by simp) ?_
        refine (AllReadyH.cons (o := { dst := none, op := Op.store 26 (Operand.tmp 5) (Operand.tmp 15), type := 0, pos := "exact.go:5366", after := #[{ on := 8, ground := Ground.data }, { on := 6, ground := Ground.data }, { on := 4, ground := Ground.chain }, { on := 0, ground := Ground.phase }, { on := 1, ground := Ground.phase }, { on := 2, ground := Ground.phase }, { on := 3, ground := Ground.phase }, { on := 4, ground := Ground.phase }, { on := 5, ground := Ground.phase }, { on := 6, ground := Ground.phase }, { on := 7, ground := Ground.textOnly Departure.lateStores }, { on := 8, ground := Ground.phase }], guard := none }) rfl (fun K hK => ?_) AllReadyH.nil)
        have s0 := D8.c0
        have s1 := D8.c1
        have s2 := D8.c2
        have s3 := D8.c3
        have sf := D8.f
        refine step_skip (set4 wc (wa.heap.size) (.int .i64 q.r) (.int .i64 q.g) (.int .i64 q.b) (.int .i64 q.a)) (by rfl) (by unfold set4; go_simp) ?_
        have D9 := D8.put (.int .i64 q.r) (.int .i64 q.g) (.int .i64 q.b) (.int .i64 q.a)
        have B9 : Below WX.heap.size WX (set4 wc (wa.heap.size) (.int .i64 q.r) (.int .i64 q.g) (.int .i64 q.b) (.int .i64 q.a)) := hH.trans ((only_set4 wc (wa.heap.size) (.int .i64 q.r) (.int .i64 q.g) (.int .i64 q.b) (.int .i64 q.a)).below hD8 hH.size)
        refine hK.out _ _ B9 (fun hH' => ?_)
        clear hK K
        replace hH := hH'
        clear hH' s0 s1 s2 s3 sf D8
        refine wpAnyH_take (i := 10) (oi := { dst := some 6, op := Op.assign (Operand.tmp 16), type := 4, pos := "exact.go:5366", after := #[{ on := 7, ground := Ground.data }, { on := 9, ground := Ground.chain }, { on := 0, ground := Ground.phase }, { on := 1, ground := Ground.phase }, { on := 2, ground := Ground.phase }, { on := 3, ground := Ground.phase }, { on := 4, ground := Ground.phase }, { on := 5, ground := Ground.phase }, { on := 6, ground := Ground.phase }, { on := 7, ground := Ground.phase }, { on := 8, ground := Ground.phase }, { on := 9, ground := Ground.phase }], guard := none }) (v := .bool GB) rfl (by kernel_rfl) (by kernel_rfl) (by kernel_rfl) (fun _ _ _ h => h) (Or.inl ⟨by rfl, fun w0 hSw => by (go_simp)⟩) hH ?_
        simp only [Act.put, List.setIfInBounds_toArray, List.set_cons_zero, List.set_cons_succ]
        refine wpAnyH_done (by kernel_rfl) ?_ _
        go_wp2_with fail
        go_meet
        case rel => exact ⟨wa.heap.size, rfl, rfl, D9, BX2.trans (B9.mono BX2.size), Nat.le_trans BX2.size hD8⟩
    · refine step_val (.pointer (some ⟨WX.heap.size, 0, none⟩)) (WX.alloc (.cells #[.int .i64 0, .int .i64 0, .int .i64 0, .int .i64 0] 26)) (by rfl) (by go_simp) ?_
      have D8 := C4.new WX 26 (.int .i64 0) (.int .i64 0) (.int .i64 0) (.int .i64 0)
      have hD8 : WX.heap.size ≤ WX.heap.size := hH.size
      simp only [Act.put, List.setIfInBounds_toArray, List.set_cons_zero, List.set_cons_succ]
      refine hK.out _ _ (hH.trans (alloc_b.mono hH.size)) (fun hH' => ?_)
      clear hK K
      replace hH := hH'
      clear hH' 
      generalize WX.alloc (.cells #[.int .i64 0, .int .i64 0, .int .i64 0, .int .i64 0] 26) = wN at D8 hH ⊢
      refine wpAnyH_ready (rs := [1]) (by kernel_rfl) (by simp) ?_
      refine (AllReadyH.cons (o := { dst := some 11, op := Op.call { callee := Callee.value (Operand.func 32), args := #[Operand.tmp 10], argTypes := #[41] }, type := 26, pos := "exact.go:5366", after := #[{ on := 0, ground := Ground.data }], guard := none }) rfl (fun K hK => ?_) AllReadyH.nil)
      refine step_callW 32 #[.agg #[.int .i64 kr, .int .i64 kg, .int .i64 kb, .int .i64 ka]] (fun z v w' => z = .agg #[.int .i64 kr, .int .i64 kg, .int .i64 kb, .int .i64 ka] ∧ Below v.heap.size v w') (by rfl) (by go_simp) ((toK kr kg kb ka _).mono fun e w' ⟨h1, h2⟩ => ⟨_, h1, rfl, h2⟩) ?_
      rintro za wa ⟨rfl, B8⟩
      replace D8 := D8.next B8
      simp only [Act.put, List.setIfInBounds_toArray, List.set_cons_zero, List.set_cons_succ]
      refine hK.out _ _ (hH.trans (B8.mono hH.size)) (fun hH' => ?_)
      clear hK K
      replace hH := hH'
      clear hH' 
      clear B8
      refine wpAnyH_ready (rs := [3]) (by kernel_rfl) (by simp) ?_
      refine (AllReadyH.cons (o := { dst := some 13, op := Op.call { callee := Callee.value (Operand.func 32), args := #[Operand.tmp 12], argTypes := #[41] }, type := 26, pos := "exact.go:5366", after := #[{ on := 2, ground := Ground.data }, { on := 1, ground := Ground.chain }], guard := none }) rfl (fun K hK => ?_) AllReadyH.nil)
      refine step_callW 32 #[.agg #[.int .i64 lr, .int .i64 lg, .int .i64 lb, .int .i64 la]] (fun z v w' => z = .agg #[.int .i64 lr, .int .i64 lg, .int .i64 lb, .int .i64 la] ∧ Below v.heap.size v w') (by rfl) (by go_simp) ((toK lr lg lb la _).mono fun e w' ⟨h1, h2⟩ => ⟨_, h1, rfl, h2⟩) ?_
      rintro zb wb ⟨rfl, B8⟩
      replace D8 := D8.next B8
      simp only [Act.put, List.setIfInBounds_toArray, List.set_cons_zero, List.set_cons_succ]
      refine hK.out _ _ (hH.trans (B8.mono hH.size)) (fun hH' => ?_)
      clear hK K
      replace hH := hH'
      clear hH' 
      clear B8
      refine wpAnyH_ready (rs := [4]) (by kernel_rfl) (by simp) ?_
      refine (AllReadyH.cons (o := { dst := some 14, op := Op.call { callee := Callee.value (Operand.func 31), args := #[Operand.tmp 11, Operand.tmp 13], argTypes := #[26, 26] }, type := 51, pos := "exact.go:5366", after := #[{ on := 1, ground := Ground.data }, { on := 3, ground := Ground.data }, { on := 3, ground := Ground.chain }], guard := none }) rfl (fun K hK => ?_) AllReadyH.nil)
      refine step_callW 31 #[.agg #[.int .i64 kr, .int .i64 kg, .int .i64 kb, .int .i64 ka], .agg #[.int .i64 lr, .int .i64 lg, .int .i64 lb, .int .i64 la]] (fun z v w' => z = .tuple #[.agg #[.int .i64 q.r, .int .i64 q.g, .int .i64 q.b, .int .i64 q.a], .bool GB] ∧ Below v.heap.size v w') (by rfl) (by go_simp) ((HM.out _).mono fun e w' ⟨h1, h2⟩ => ⟨_, h1, rfl, h2⟩) ?_
      rintro zc wc ⟨rfl, B9⟩
      replace D8 := D8.next B9
      simp only [Act.put, List.setIfInBounds_toArray, List.set_cons_zero, List.set_cons_succ]
      refine hK.out _ _ (hH.trans (B9.mono hH.size)) (fun hH' => ?_)
      clear hK K
      replace hH := hH'
      clear hH' 
      clear B9
      refine wpAnyH_take (i := 5) (oi := { dst := some 9, op := Op.move (Operand.tmp 14), type := 51, pos := "exact.go:5366", after := #[{ on := 4, ground := Ground.data }], guard := none }) (v := .tuple #[.agg #[.int .i64 q.r, .int .i64 q.g, .int .i64 q.b, .int .i64 q.a], .bool GB]) rfl (by kernel_rfl) (by kernel_rfl) (by kernel_rfl) (fun _ _ _ h => h) (Or.inl ⟨by rfl, fun w0 hSw => by (go_simp)⟩) hH ?_
      simp only [Act.put, List.setIfInBounds_toArray, List.set_cons_zero, List.set_cons_succ]
      refine wpAnyH_take (i := 6) (oi := { dst := some 15, op := Op.extract (Operand.tmp 9) 0, type := 26, pos := "exact.go:5366", after := #[{ on := 5, ground := Ground.data }], guard := none }) (v := .agg #[.int .i64 q.r, .int .i64 q.g, .int .i64 q.b, .int .i64 q.a]) rfl (by kernel_rfl) (by kernel_rfl) (by kernel_rfl) (fun _ _ _ h => h) (Or.inl ⟨by rfl, fun w0 hSw => by (go_simp)⟩) hH ?_
      simp only [Act.put, List.setIfInBounds_toArray, List.set_cons_zero, List.set_cons_succ]
      refine wpAnyH_take (i := 7) (oi := { dst := some 16, op := Op.extract (Operand.tmp 9) 1, type := 4, pos := "exact.go:5366", after := #[{ on := 5, ground := Ground.data }, { on := 9, ground := Ground.gcOnly Departure.lateStores }], guard := none }) (v := .bool GB) rfl (by kernel_rfl) (by kernel_rfl) (by kernel_rfl) (fun _ _ _ h => h) (Or.inl ⟨by rfl, fun w0 hSw => by (go_simp)⟩) hH ?_
      simp only [Act.put, List.setIfInBounds_toArray, List.set_cons_zero, List.set_cons_succ]
      refine wpAnyH_ready (rs := [9]) (by kernel_rfl) (by simp) ?_
      refine (AllReadyH.cons (o := { dst := none, op := Op.store 26 (Operand.tmp 5) (Operand.tmp 15), type := 0, pos := "exact.go:5366", after := #[{ on := 8, ground := Ground.data }, { on := 6, ground := Ground.data }, { on := 4, ground := Ground.chain }, { on := 0, ground := Ground.phase }, { on := 1, ground := Ground.phase }, { on := 2, ground := Ground.phase }, { on := 3, ground := Ground.phase }, { on := 4, ground := Ground.phase }, { on := 5, ground := Ground.phase }, { on := 6, ground := Ground.phase }, { on := 7, ground := Ground.textOnly Departure.lateStores }, { on := 8, ground := Ground.phase }], guard := none }) rfl (fun K hK => ?_) AllReadyH.nil)
      have s0 := D8.c0
      have s1 := D8.c1
      have s2 := D8.c2
      have s3 := D8.c3
      have sf := D8.f
      refine step_skip (set4 wc (WX.heap.size) (.int .i64 q.r) (.int .i64 q.g) (.int .i64 q.b) (.int .i64 q.a)) (by rfl) (by unfold set4; go_simp) ?_
      have D9 := D8.put (.int .i64 q.r) (.int .i64 q.g) (.int .i64 q.b) (.int .i64 q.a)
      have B9 : Below WX.heap.size WX (set4 wc (WX.heap.size) (.int .i64 q.r) (.int .i64 q.g) (.int .i64 q.b) (.int .i64 q.a)) := hH.trans ((only_set4 wc (WX.heap.size) (.int .i64 q.r) (.int .i64 q.g) (.int .i64 q.b) (.int .i64 q.a)).below hD8 hH.size)
      refine hK.out _ _ B9 (fun hH' => ?_)
      clear hK K
      replace hH := hH'
      clear hH' s0 s1 s2 s3 sf D8
      refine wpAnyH_take (i := 10) (oi := { dst := some 6, op := Op.assign (Operand.tmp 16), type := 4, pos := "exact.go:5366", after := #[{ on := 7, ground := Ground.data }, { on := 9, ground := Ground.chain }, { on := 0, ground := Ground.phase }, { on := 1, ground := Ground.phase }, { on := 2, ground := Ground.phase }, { on := 3, ground := Ground.phase }, { on := 4, ground := Ground.phase }, { on := 5, ground := Ground.phase }, { on := 6, ground := Ground.phase }, { on := 7, ground := Ground.phase }, { on := 8, ground := Ground.phase }, { on := 9, ground := Ground.phase }], guard := none }) (v := .bool GB) rfl (by kernel_rfl) (by kernel_rfl) (by kernel_rfl) (fun _ _ _ h => h) (Or.inl ⟨by rfl, fun w0 hSw => by (go_simp)⟩) hH ?_
      simp only [Act.put, List.setIfInBounds_toArray, List.set_cons_zero, List.set_cons_succ]
      refine wpAnyH_done (by kernel_rfl) ?_ _
      go_wp2_with fail
      go_meet
      case rel => exact ⟨WX.heap.size, rfl, rfl, D9, BX2.trans (B9.mono BX2.size), Nat.le_trans BX2.size hD8⟩
  case rest =>
    obtain ⟨ab, rfl, rfl, D5, B5, hab⟩ := hcut
    have BX := BX.trans (B5.mono BX.size)
    have KA := KA.next B5
    have LA := LA.next B5
    clear HM B5 hab
    generalize hwc : wc = w5 at *
    clear hwc
    go_upto_region 2 with fail
    go_cut [7, 8] (fun pv bv wx => ∃ ab : Nat, pv = .pointer (some ⟨ab, 0, none⟩) ∧ bv = .bool GB ∧ C4 wx ab (.int .i64 q.r) (.int .i64 q.g) (.int .i64 q.b) (.int .i64 q.a) ∧ Below w5.heap.size w5 wx ∧ w5.heap.size ≤ ab)
    case first =>
      generalize hWW : w5.drew = WX
      have KA := KA.next (below_drew (Below.refl _ _))
      have LA := LA.next (below_drew (Below.refl _ _))
      have BX := below_drew BX
      have BX2 : Below w5.heap.size w5 w5.drew := below_drew (Below.refl _ _)
      rw [hWW] at KA LA BX BX2
      refine wp_region_held_drew (S := fun v => Below WX.heap.size WX v) (by kernel_rfl) (by rw [hWW]; exact Below.refl _ _) (fun hH => ?_)
      rw [hWW] at hH ⊢
      clear hWW
      refine wpAnyH_take (i := 0) (oi := { dst := some 18, op := Op.load 41 (Operand.tmp 2), type := 41, pos := "exact.go:5367", after := #[], guard := none }) (v := .agg #[.int .i64 kr, .int .i64 kg, .int .i64 kb, .int .i64 ka]) rfl (by kernel_rfl) (by kernel_rfl) (by kernel_rfl) (fun _ _ _ h => h) (Or.inl ⟨by rfl, fun w0 hSw => by ((have e0 := cell_nx KA.c0 hSw); (have e1 := cell_nx KA.c1 hSw); (have e2 := cell_nx KA.c2 hSw); (have e3 := cell_nx KA.c3 hSw); go_simp)⟩) hH ?_
      simp only [Act.put, List.setIfInBounds_toArray, List.set_cons_zero, List.set_cons_succ]
      refine wpAnyH_take (i := 2) (oi := { dst := some 20, op := Op.load 41 (Operand.tmp 3), type := 41, pos := "exact.go:5367", after := #[], guard := none }) (v := .agg #[.int .i64 lr, .int .i64 lg, .int .i64 lb, .int .i64 la]) rfl (by kernel_rfl) (by kernel_rfl) (by kernel_rfl) (fun _ _ _ h => h) (Or.inl ⟨by rfl, fun w0 hSw => by ((have e0 := cell_nx LA.c0 hSw); (have e1 := cell_nx LA.c1 hSw); (have e2 := cell_nx LA.c2 hSw); (have e3 := cell_nx LA.c3 hSw); go_simp)⟩) hH ?_
      simp only [Act.put, List.setIfInBounds_toArray, List.set_cons_zero, List.set_cons_succ]
      refine wpAnyH_ready (rs := [1, 8]) (by kernel_rfl) (by simp) ?_
      refine (AllReadyH.cons (o := { dst := some 19, op := Op.call { callee := Callee.value (Operand.func 32), args := #[Operand.tmp 18], argTypes := #[41] }, type := 26, pos := "exact.go:5367", after := #[{ on := 0, ground := Ground.data }], guard := none }) rfl (fun K hK => ?_) (AllReadyH.cons (o := { dst := some 7, op := Op.alloc 26, type := 0, pos := "exact.go:5367", after := #[], guard := none }) rfl (fun K hK => ?_) AllReadyH.nil))
      · refine step_callW 32 #[.agg #[.int .i64 kr, .int .i64 kg, .int .i64 kb, .int .i64 ka]] (fun z v w' => z = .agg #[.int .i64 kr, .int .i64 kg, .int .i64 kb, .int .i64 ka] ∧ Below v.heap.size v w') (by rfl) (by go_simp) ((toK kr kg kb ka _).mono fun e w' ⟨h1, h2⟩ => ⟨_, h1, rfl, h2⟩) ?_
        rintro za wa ⟨rfl, B8⟩
        simp only [Act.put, List.setIfInBounds_toArray, List.set_cons_zero, List.set_cons_succ]
        refine hK.out _ _ (hH.trans (B8.mono hH.size)) (fun hH' => ?_)
        clear hK K
        replace hH := hH'
        clear hH' 
        clear B8
        refine wpAnyH_ready (rs := [3, 8]) (by kernel_rfl) (by simp) ?_
        refine (AllReadyH.cons (o := { dst := some 21, op := Op.call { callee := Callee.value (Operand.func 32), args := #[Operand.tmp 20], argTypes := #[41] }, type := 26, pos := "exact.go:5367", after := #[{ on := 2, ground := Ground.data }, { on := 1, ground := Ground.chain }], guard := none }) rfl (fun K hK => ?_) (AllReadyH.cons (o := { dst := some 7, op := Op.alloc 26, type := 0, pos := "exact.go:5367", after := #[], guard := none }) rfl (fun K hK => ?_) AllReadyH.nil))
        · refine step_callW 32 #[.agg #[.int .i64 lr, .int .i64 lg, .int .i64 lb, .int .i64 la]] (fun z v w' => z = .agg #[.int .i64 lr, .int .i64 lg, .int .i64 lb, .int .i64 la] ∧ Below v.heap.size v w') (by rfl) (by go_simp) ((toK lr lg lb la _).mono fun e w' ⟨h1, h2⟩ => ⟨_, h1, rfl, h2⟩) ?_
          rintro zb wb ⟨rfl, B8⟩
          simp only [Act.put, List.setIfInBounds_toArray, List.set_cons_zero, List.set_cons_succ]
          refine hK.out _ _ (hH.trans (B8.mono hH.size)) (fun hH' => ?_)
          clear hK K
          replace hH := hH'
          clear hH' 
          clear B8
          refine wpAnyH_ready (rs := [4, 8]) (by kernel_rfl) (by simp) ?_
          refine (AllReadyH.cons (o := { dst := some 22, op := Op.call { callee := Callee.value (Operand.func 33), args := #[Operand.tmp 19, Operand.tmp 21], argTypes := #[26, 26] }, type := 51, pos := "exact.go:5367", after := #[{ on := 1, ground := Ground.data }, { on := 3, ground := Ground.data }, { on := 3, ground := Ground.chain }], guard := none }) rfl (fun K hK => ?_) (AllReadyH.cons (o := { dst := some 7, op := Op.alloc 26, type := 0, pos := "exact.go:5367", after := #[], guard := none }) rfl (fun K hK => ?_) AllReadyH.nil))
          · refine step_callW 33 #[.agg #[.int .i64 kr, .int .i64 kg, .int .i64 kb, .int .i64 ka], .agg #[.int .i64 lr, .int .i64 lg, .int .i64 lb, .int .i64 la]] (fun z v w' => z = .tuple #[.agg #[.int .i64 q.r, .int .i64 q.g, .int .i64 q.b, .int .i64 q.a], .bool GB] ∧ Below v.heap.size v w') (by rfl) (by go_simp) ((HP.out _).mono fun e w' ⟨h1, h2⟩ => ⟨_, h1, rfl, h2⟩) ?_
            rintro zc wc ⟨rfl, B9⟩
            simp only [Act.put, List.setIfInBounds_toArray, List.set_cons_zero, List.set_cons_succ]
            refine hK.out _ _ (hH.trans (B9.mono hH.size)) (fun hH' => ?_)
            clear hK K
            replace hH := hH'
            clear hH' 
            clear B9
            refine wpAnyH_take (i := 5) (oi := { dst := some 17, op := Op.move (Operand.tmp 22), type := 51, pos := "exact.go:5367", after := #[{ on := 4, ground := Ground.data }], guard := none }) (v := .tuple #[.agg #[.int .i64 q.r, .int .i64 q.g, .int .i64 q.b, .int .i64 q.a], .bool GB]) rfl (by kernel_rfl) (by kernel_rfl) (by kernel_rfl) (fun _ _ _ h => h) (Or.inl ⟨by rfl, fun w0 hSw => by (go_simp)⟩) hH ?_
            simp only [Act.put, List.setIfInBounds_toArray, List.set_cons_zero, List.set_cons_succ]
            refine wpAnyH_take (i := 6) (oi := { dst := some 23, op := Op.extract (Operand.tmp 17) 0, type := 26, pos := "exact.go:5367", after := #[{ on := 5, ground := Ground.data }], guard := none }) (v := .agg #[.int .i64 q.r, .int .i64 q.g, .int .i64 q.b, .int .i64 q.a]) rfl (by kernel_rfl) (by kernel_rfl) (by kernel_rfl) (fun _ _ _ h => h) (Or.inl ⟨by rfl, fun w0 hSw => by (go_simp)⟩) hH ?_
            simp only [Act.put, List.setIfInBounds_toArray, List.set_cons_zero, List.set_cons_succ]
            refine wpAnyH_take (i := 7) (oi := { dst := some 24, op := Op.extract (Operand.tmp 17) 1, type := 4, pos := "exact.go:5367", after := #[{ on := 5, ground := Ground.data }, { on := 9, ground := Ground.gcOnly Departure.lateStores }], guard := none }) (v := .bool GB) rfl (by kernel_rfl) (by kernel_rfl) (by kernel_rfl) (fun _ _ _ h => h) (Or.inl ⟨by rfl, fun w0 hSw => by (go_simp)⟩) hH ?_
            simp only [Act.put, List.setIfInBounds_toArray, List.set_cons_zero, List.set_cons_succ]
            refine wpAnyH_ready (rs := [8]) (by kernel_rfl) (by simp) ?_
            refine (AllReadyH.cons (o := { dst := some 7, op := Op.alloc 26, type := 0, pos := "exact.go:5367", after := #[], guard := none }) rfl (fun K hK => ?_) AllReadyH.nil)
            refine step_val (.pointer (some ⟨wc.heap.size, 0, none⟩)) (wc.alloc (.cells #[.int .i64 0, .int .i64 0, .int .i64 0, .int .i64 0] 26)) (by rfl) (by go_simp) ?_
            have D8 := C4.new wc 26 (.int .i64 0) (.int .i64 0) (.int .i64 0) (.int .i64 0)
            have hD8 : WX.heap.size ≤ wc.heap.size := hH.size
            simp only [Act.put, List.setIfInBounds_toArray, List.set_cons_zero, List.set_cons_succ]
            refine hK.out _ _ (hH.trans (alloc_b.mono hH.size)) (fun hH' => ?_)
            clear hK K
            replace hH := hH'
            clear hH' 
            generalize wc.alloc (.cells #[.int .i64 0, .int .i64 0, .int .i64 0, .int .i64 0] 26) = wN at D8 hH ⊢
            refine wpAnyH_ready (rs := [9]) (by kernel_rfl) (by simp) ?_
            refine (AllReadyH.cons (o := { dst := none, op := Op.store 26 (Operand.tmp 7) (Operand.tmp 23), type := 0, pos := "exact.go:5367", after := #[{ on := 8, ground := Ground.data }, { on := 6, ground := Ground.data }, { on := 4, ground := Ground.chain }, { on := 0, ground := Ground.phase }, { on := 1, ground := Ground.phase }, { on := 2, ground := Ground.phase }, { on := 3, ground := Ground.phase }, { on := 4, ground := Ground.phase }, { on := 5, ground := Ground.phase }, { on := 6, ground := Ground.phase }, { on := 7, ground := Ground.textOnly Departure.lateStores }, { on := 8, ground := Ground.phase }], guard := none }) rfl (fun K hK => ?_) AllReadyH.nil)
            have s0 := D8.c0
            have s1 := D8.c1
            have s2 := D8.c2
            have s3 := D8.c3
            have sf := D8.f
            refine step_skip (set4 wN (wc.heap.size) (.int .i64 q.r) (.int .i64 q.g) (.int .i64 q.b) (.int .i64 q.a)) (by rfl) (by unfold set4; go_simp) ?_
            have D9 := D8.put (.int .i64 q.r) (.int .i64 q.g) (.int .i64 q.b) (.int .i64 q.a)
            have B9 : Below WX.heap.size WX (set4 wN (wc.heap.size) (.int .i64 q.r) (.int .i64 q.g) (.int .i64 q.b) (.int .i64 q.a)) := hH.trans ((only_set4 wN (wc.heap.size) (.int .i64 q.r) (.int .i64 q.g) (.int .i64 q.b) (.int .i64 q.a)).below hD8 hH.size)
            refine hK.out _ _ B9 (fun hH' => ?_)
            clear hK K
            replace hH := hH'
            clear hH' s0 s1 s2 s3 sf D8
            refine wpAnyH_take (i := 10) (oi := { dst := some 8, op := Op.assign (Operand.tmp 24), type := 4, pos := "exact.go:5367", after := #[{ on := 7, ground := Ground.data }, { on := 9, ground := Ground.chain }, { on := 0, ground := Ground.phase }, { on := 1, ground := Ground.phase }, { on := 2, ground := Ground.phase }, { on := 3, ground := Ground.phase }, { on := 4, ground := Ground.phase }, { on := 5, ground := Ground.phase }, { on := 6, ground := Ground.phase }, { on := 7, ground := Ground.phase }, { on := 8, ground := Ground.phase }, { on := 9, ground := Ground.phase }], guard := none }) (v := .bool GB) rfl (by kernel_rfl) (by kernel_rfl) (by kernel_rfl) (fun _ _ _ h => h) (Or.inl ⟨by rfl, fun w0 hSw => by (go_simp)⟩) hH ?_
            simp only [Act.put, List.setIfInBounds_toArray, List.set_cons_zero, List.set_cons_succ]
            refine wpAnyH_done (by kernel_rfl) ?_ _
            go_wp2_with fail
            go_meet
            case rel => exact ⟨wc.heap.size, rfl, rfl, D9, BX2.trans (B9.mono BX2.size), Nat.le_trans BX2.size hD8⟩
          · refine step_val (.pointer (some ⟨wb.heap.size, 0, none⟩)) (wb.alloc (.cells #[.int .i64 0, .int .i64 0, .int .i64 0, .int .i64 0] 26)) (by rfl) (by go_simp) ?_
            have D8 := C4.new wb 26 (.int .i64 0) (.int .i64 0) (.int .i64 0) (.int .i64 0)
            have hD8 : WX.heap.size ≤ wb.heap.size := hH.size
            simp only [Act.put, List.setIfInBounds_toArray, List.set_cons_zero, List.set_cons_succ]
            refine hK.out _ _ (hH.trans (alloc_b.mono hH.size)) (fun hH' => ?_)
            clear hK K
            replace hH := hH'
            clear hH' 
            generalize wb.alloc (.cells #[.int .i64 0, .int .i64 0, .int .i64 0, .int .i64 0] 26) = wN at D8 hH ⊢
            refine wpAnyH_ready (rs := [4]) (by kernel_rfl) (by simp) ?_
            refine (AllReadyH.cons (o := { dst := some 22, op := Op.call { callee := Callee.value (Operand.func 33), args := #[Operand.tmp 19, Operand.tmp 21], argTypes := #[26, 26] }, type := 51, pos := "exact.go:5367", after := #[{ on := 1, ground := Ground.data }, { on := 3, ground := Ground.data }, { on := 3, ground := Ground.chain }], guard := none }) rfl (fun K hK => ?_) AllReadyH.nil)
            refine step_callW 33 #[.agg #[.int .i64 kr, .int .i64 kg, .int .i64 kb, .int .i64 ka], .agg #[.int .i64 lr, .int .i64 lg, .int .i64 lb, .int .i64 la]] (fun z v w' => z = .tuple #[.agg #[.int .i64 q.r, .int .i64 q.g, .int .i64 q.b, .int .i64 q.a], .bool GB] ∧ Below v.heap.size v w') (by rfl) (by go_simp) ((HP.out _).mono fun e w' ⟨h1, h2⟩ => ⟨_, h1, rfl, h2⟩) ?_
            rintro zc wc ⟨rfl, B9⟩
            replace D8 := D8.next B9
            simp only [Act.put, List.setIfInBounds_toArray, List.set_cons_zero, List.set_cons_succ]
            refine hK.out _ _ (hH.trans (B9.mono hH.size)) (fun hH' => ?_)
            clear hK K
            replace hH := hH'
            clear hH' 
            clear B9
            refine wpAnyH_take (i := 5) (oi := { dst := some 17, op := Op.move (Operand.tmp 22), type := 51, pos := "exact.go:5367", after := #[{ on := 4, ground := Ground.data }], guard := none }) (v := .tuple #[.agg #[.int .i64 q.r, .int .i64 q.g, .int .i64 q.b, .int .i64 q.a], .bool GB]) rfl (by kernel_rfl) (by kernel_rfl) (by kernel_rfl) (fun _ _ _ h => h) (Or.inl ⟨by rfl, fun w0 hSw => by (go_simp)⟩) hH ?_
            simp only [Act.put, List.setIfInBounds_toArray, List.set_cons_zero, List.set_cons_succ]
            refine wpAnyH_take (i := 6) (oi := { dst := some 23, op := Op.extract (Operand.tmp 17) 0, type := 26, pos := "exact.go:5367", after := #[{ on := 5, ground := Ground.data }], guard := none }) (v := .agg #[.int .i64 q.r, .int .i64 q.g, .int .i64 q.b, .int .i64 q.a]) rfl (by kernel_rfl) (by kernel_rfl) (by kernel_rfl) (fun _ _ _ h => h) (Or.inl ⟨by rfl, fun w0 hSw => by (go_simp)⟩) hH ?_
            simp only [Act.put, List.setIfInBounds_toArray, List.set_cons_zero, List.set_cons_succ]
            refine wpAnyH_take (i := 7) (oi := { dst := some 24, op := Op.extract (Operand.tmp 17) 1, type := 4, pos := "exact.go:5367", after := #[{ on := 5, ground := Ground.data }, { on := 9, ground := Ground.gcOnly Departure.lateStores }], guard := none }) (v := .bool GB) rfl (by kernel_rfl) (by kernel_rfl) (by kernel_rfl) (fun _ _ _ h => h) (Or.inl ⟨by rfl, fun w0 hSw => by (go_simp)⟩) hH ?_
            simp only [Act.put, List.setIfInBounds_toArray, List.set_cons_zero, List.set_cons_succ]
            refine wpAnyH_ready (rs := [9]) (by kernel_rfl) (by simp) ?_
            refine (AllReadyH.cons (o := { dst := none, op := Op.store 26 (Operand.tmp 7) (Operand.tmp 23), type := 0, pos := "exact.go:5367", after := #[{ on := 8, ground := Ground.data }, { on := 6, ground := Ground.data }, { on := 4, ground := Ground.chain }, { on := 0, ground := Ground.phase }, { on := 1, ground := Ground.phase }, { on := 2, ground := Ground.phase }, { on := 3, ground := Ground.phase }, { on := 4, ground := Ground.phase }, { on := 5, ground := Ground.phase }, { on := 6, ground := Ground.phase }, { on := 7, ground := Ground.textOnly Departure.lateStores }, { on := 8, ground := Ground.phase }], guard := none }) rfl (fun K hK => ?_) AllReadyH.nil)
            have s0 := D8.c0
            have s1 := D8.c1
            have s2 := D8.c2
            have s3 := D8.c3
            have sf := D8.f
            refine step_skip (set4 wc (wb.heap.size) (.int .i64 q.r) (.int .i64 q.g) (.int .i64 q.b) (.int .i64 q.a)) (by rfl) (by unfold set4; go_simp) ?_
            have D9 := D8.put (.int .i64 q.r) (.int .i64 q.g) (.int .i64 q.b) (.int .i64 q.a)
            have B9 : Below WX.heap.size WX (set4 wc (wb.heap.size) (.int .i64 q.r) (.int .i64 q.g) (.int .i64 q.b) (.int .i64 q.a)) := hH.trans ((only_set4 wc (wb.heap.size) (.int .i64 q.r) (.int .i64 q.g) (.int .i64 q.b) (.int .i64 q.a)).below hD8 hH.size)
            refine hK.out _ _ B9 (fun hH' => ?_)
            clear hK K
            replace hH := hH'
            clear hH' s0 s1 s2 s3 sf D8
            refine wpAnyH_take (i := 10) (oi := { dst := some 8, op := Op.assign (Operand.tmp 24), type := 4, pos := "exact.go:5367", after := #[{ on := 7, ground := Ground.data }, { on := 9, ground := Ground.chain }, { on := 0, ground := Ground.phase }, { on := 1, ground := Ground.phase }, { on := 2, ground := Ground.phase }, { on := 3, ground := Ground.phase }, { on := 4, ground := Ground.phase }, { on := 5, ground := Ground.phase }, { on := 6, ground := Ground.phase }, { on := 7, ground := Ground.phase }, { on := 8, ground := Ground.phase }, { on := 9, ground := Ground.phase }], guard := none }) (v := .bool GB) rfl (by kernel_rfl) (by kernel_rfl) (by kernel_rfl) (fun _ _ _ h => h) (Or.inl ⟨by rfl, fun w0 hSw => by (go_simp)⟩) hH ?_
            simp only [Act.put, List.setIfInBounds_toArray, List.set_cons_zero, List.set_cons_succ]
            refine wpAnyH_done (by kernel_rfl) ?_ _
            go_wp2_with fail
            go_meet
            case rel => exact ⟨wb.heap.size, rfl, rfl, D9, BX2.trans (B9.mono BX2.size), Nat.le_trans BX2.size hD8⟩
        · refine step_val (.pointer (some ⟨wa.heap.size, 0, none⟩)) (wa.alloc (.cells #[.int .i64 0, .int .i64 0, .int .i64 0, .int .i64 0] 26)) (by rfl) (by go_simp) ?_
          have D8 := C4.new wa 26 (.int .i64 0) (.int .i64 0) (.int .i64 0) (.int .i64 0)
          have hD8 : WX.heap.size ≤ wa.heap.size := hH.size
          simp only [Act.put, List.setIfInBounds_toArray, List.set_cons_zero, List.set_cons_succ]
          refine hK.out _ _ (hH.trans (alloc_b.mono hH.size)) (fun hH' => ?_)
          clear hK K
          replace hH := hH'
          clear hH' 
          generalize wa.alloc (.cells #[.int .i64 0, .int .i64 0, .int .i64 0, .int .i64 0] 26) = wN at D8 hH ⊢
          refine wpAnyH_ready (rs := [3]) (by kernel_rfl) (by simp) ?_
          refine (AllReadyH.cons (o := { dst := some 21, op := Op.call { callee := Callee.value (Operand.func 32), args := #[Operand.tmp 20], argTypes := #[41] }, type := 26, pos := "exact.go:5367", after := #[{ on := 2, ground := Ground.data }, { on := 1, ground := Ground.chain }], guard := none }) rfl (fun K hK => ?_) AllReadyH.nil)
          refine step_callW 32 #[.agg #[.int .i64 lr, .int .i64 lg, .int .i64 lb, .int .i64 la]] (fun z v w' => z = .agg #[.int .i64 lr, .int .i64 lg, .int .i64 lb, .int .i64 la] ∧ Below v.heap.size v w') (by rfl) (by go_simp) ((toK lr lg lb la _).mono fun e w' ⟨h1, h2⟩ => ⟨_, h1, rfl, h2⟩) ?_
          rintro zb wb ⟨rfl, B8⟩
          replace D8 := D8.next B8
          simp only [Act.put, List.setIfInBounds_toArray, List.set_cons_zero, List.set_cons_succ]
          refine hK.out _ _ (hH.trans (B8.mono hH.size)) (fun hH' => ?_)
          clear hK K
          replace hH := hH'
          clear hH' 
          clear B8
          refine wpAnyH_ready (rs := [4]) (by kernel_rfl) (by simp) ?_
          refine (AllReadyH.cons (o := { dst := some 22, op := Op.call { callee := Callee.value (Operand.func 33), args := #[Operand.tmp 19, Operand.tmp 21], argTypes := #[26, 26] }, type := 51, pos := "exact.go:5367", after := #[{ on := 1, ground := Ground.data }, { on := 3, ground := Ground.data }, { on := 3, ground := Ground.chain }], guard := none }) rfl (fun K hK => ?_) AllReadyH.nil)
          refine step_callW 33 #[.agg #[.int .i64 kr, .int .i64 kg, .int .i64 kb, .int .i64 ka], .agg #[.int .i64 lr, .int .i64 lg, .int .i64 lb, .int .i64 la]] (fun z v w' => z = .tuple #[.agg #[.int .i64 q.r, .int .i64 q.g, .int .i64 q.b, .int .i64 q.a], .bool GB] ∧ Below v.heap.size v w') (by rfl) (by go_simp) ((HP.out _).mono fun e w' ⟨h1, h2⟩ => ⟨_, h1, rfl, h2⟩) ?_
          rintro zc wc ⟨rfl, B9⟩
          replace D8 := D8.next B9
          simp only [Act.put, List.setIfInBounds_toArray, List.set_cons_zero, List.set_cons_succ]
          refine hK.out _ _ (hH.trans (B9.mono hH.size)) (fun hH' => ?_)
          clear hK K
          replace hH := hH'
          clear hH' 
          clear B9
          refine wpAnyH_take (i := 5) (oi := { dst := some 17, op := Op.move (Operand.tmp 22), type := 51, pos := "exact.go:5367", after := #[{ on := 4, ground := Ground.data }], guard := none }) (v := .tuple #[.agg #[.int .i64 q.r, .int .i64 q.g, .int .i64 q.b, .int .i64 q.a], .bool GB]) rfl (by kernel_rfl) (by kernel_rfl) (by kernel_rfl) (fun _ _ _ h => h) (Or.inl ⟨by rfl, fun w0 hSw => by (go_simp)⟩) hH ?_
          simp only [Act.put, List.setIfInBounds_toArray, List.set_cons_zero, List.set_cons_succ]
          refine wpAnyH_take (i := 6) (oi := { dst := some 23, op := Op.extract (Operand.tmp 17) 0, type := 26, pos := "exact.go:5367", after := #[{ on := 5, ground := Ground.data }], guard := none }) (v := .agg #[.int .i64 q.r, .int .i64 q.g, .int .i64 q.b, .int .i64 q.a]) rfl (by kernel_rfl) (by kernel_rfl) (by kernel_rfl) (fun _ _ _ h => h) (Or.inl ⟨by rfl, fun w0 hSw => by (go_simp)⟩) hH ?_
          simp only [Act.put, List.setIfInBounds_toArray, List.set_cons_zero, List.set_cons_succ]
          refine wpAnyH_take (i := 7) (oi := { dst := some 24, op := Op.extract (Operand.tmp 17) 1, type := 4, pos := "exact.go:5367", after := #[{ on := 5, ground := Ground.data }, { on := 9, ground := Ground.gcOnly Departure.lateStores }], guard := none }) (v := .bool GB) rfl (by kernel_rfl) (by kernel_rfl) (by kernel_rfl) (fun _ _ _ h => h) (Or.inl ⟨by rfl, fun w0 hSw => by (go_simp)⟩) hH ?_
          simp only [Act.put, List.setIfInBounds_toArray, List.set_cons_zero, List.set_cons_succ]
          refine wpAnyH_ready (rs := [9]) (by kernel_rfl) (by simp) ?_
          refine (AllReadyH.cons (o := { dst := none, op := Op.store 26 (Operand.tmp 7) (Operand.tmp 23), type := 0, pos := "exact.go:5367", after := #[{ on := 8, ground := Ground.data }, { on := 6, ground := Ground.data }, { on := 4, ground := Ground.chain }, { on := 0, ground := Ground.phase }, { on := 1, ground := Ground.phase }, { on := 2, ground := Ground.phase }, { on := 3, ground := Ground.phase }, { on := 4, ground := Ground.phase }, { on := 5, ground := Ground.phase }, { on := 6, ground := Ground.phase }, { on := 7, ground := Ground.textOnly Departure.lateStores }, { on := 8, ground := Ground.phase }], guard := none }) rfl (fun K hK => ?_) AllReadyH.nil)
          have s0 := D8.c0
          have s1 := D8.c1
          have s2 := D8.c2
          have s3 := D8.c3
          have sf := D8.f
          refine step_skip (set4 wc (wa.heap.size) (.int .i64 q.r) (.int .i64 q.g) (.int .i64 q.b) (.int .i64 q.a)) (by rfl) (by unfold set4; go_simp) ?_
          have D9 := D8.put (.int .i64 q.r) (.int .i64 q.g) (.int .i64 q.b) (.int .i64 q.a)
          have B9 : Below WX.heap.size WX (set4 wc (wa.heap.size) (.int .i64 q.r) (.int .i64 q.g) (.int .i64 q.b) (.int .i64 q.a)) := hH.trans ((only_set4 wc (wa.heap.size) (.int .i64 q.r) (.int .i64 q.g) (.int .i64 q.b) (.int .i64 q.a)).below hD8 hH.size)
          refine hK.out _ _ B9 (fun hH' => ?_)
          clear hK K
          replace hH := hH'
          clear hH' s0 s1 s2 s3 sf D8
          refine wpAnyH_take (i := 10) (oi := { dst := some 8, op := Op.assign (Operand.tmp 24), type := 4, pos := "exact.go:5367", after := #[{ on := 7, ground := Ground.data }, { on := 9, ground := Ground.chain }, { on := 0, ground := Ground.phase }, { on := 1, ground := Ground.phase }, { on := 2, ground := Ground.phase }, { on := 3, ground := Ground.phase }, { on := 4, ground := Ground.phase }, { on := 5, ground := Ground.phase }, { on := 6, ground := Ground.phase }, { on := 7, ground := Ground.phase }, { on := 8, ground := Ground.phase }, { on := 9, ground := Ground.phase }], guard := none }) (v := .bool GB) rfl (by kernel_rfl) (by kernel_rfl) (by kernel_rfl) (fun _ _ _ h => h) (Or.inl ⟨by rfl, fun w0 hSw => by (go_simp)⟩) hH ?_
          simp only [Act.put, List.setIfInBounds_toArray, List.set_cons_zero, List.set_cons_succ]
          refine wpAnyH_done (by kernel_rfl) ?_ _
          go_wp2_with fail
          go_meet
          case rel => exact ⟨wa.heap.size, rfl, rfl, D9, BX2.trans (B9.mono BX2.size), Nat.le_trans BX2.size hD8⟩
      · refine step_val (.pointer (some ⟨WX.heap.size, 0, none⟩)) (WX.alloc (.cells #[.int .i64 0, .int .i64 0, .int .i64 0, .int .i64 0] 26)) (by rfl) (by go_simp) ?_
        have D8 := C4.new WX 26 (.int .i64 0) (.int .i64 0) (.int .i64 0) (.int .i64 0)
        have hD8 : WX.heap.size ≤ WX.heap.size := hH.size
        simp only [Act.put, List.setIfInBounds_toArray, List.set_cons_zero, List.set_cons_succ]
        refine hK.out _ _ (hH.trans (alloc_b.mono hH.size)) (fun hH' => ?_)
        clear hK K
        replace hH := hH'
        clear hH' 
        generalize WX.alloc (.cells #[.int .i64 0, .int .i64 0, .int .i64 0, .int .i64 0] 26) = wN at D8 hH ⊢
        refine wpAnyH_ready (rs := [1]) (by kernel_rfl) (by simp) ?_
        refine (AllReadyH.cons (o := { dst := some 19, op := Op.call { callee := Callee.value (Operand.func 32), args := #[Operand.tmp 18], argTypes := #[41] }, type := 26, pos := "exact.go:5367", after := #[{ on := 0, ground := Ground.data }], guard := none }) rfl (fun K hK => ?_) AllReadyH.nil)
        refine step_callW 32 #[.agg #[.int .i64 kr, .int .i64 kg, .int .i64 kb, .int .i64 ka]] (fun z v w' => z = .agg #[.int .i64 kr, .int .i64 kg, .int .i64 kb, .int .i64 ka] ∧ Below v.heap.size v w') (by rfl) (by go_simp) ((toK kr kg kb ka _).mono fun e w' ⟨h1, h2⟩ => ⟨_, h1, rfl, h2⟩) ?_
        rintro za wa ⟨rfl, B8⟩
        replace D8 := D8.next B8
        simp only [Act.put, List.setIfInBounds_toArray, List.set_cons_zero, List.set_cons_succ]
        refine hK.out _ _ (hH.trans (B8.mono hH.size)) (fun hH' => ?_)
        clear hK K
        replace hH := hH'
        clear hH' 
        clear B8
        refine wpAnyH_ready (rs := [3]) (by kernel_rfl) (by simp) ?_
        refine (AllReadyH.cons (o := { dst := some 21, op := Op.call { callee := Callee.value (Operand.func 32), args := #[Operand.tmp 20], argTypes := #[41] }, type := 26, pos := "exact.go:5367", after := #[{ on := 2, ground := Ground.data }, { on := 1, ground := Ground.chain }], guard := none }) rfl (fun K hK => ?_) AllReadyH.nil)
        refine step_callW 32 #[.agg #[.int .i64 lr, .int .i64 lg, .int .i64 lb, .int .i64 la]] (fun z v w' => z = .agg #[.int .i64 lr, .int .i64 lg, .int .i64 lb, .int .i64 la] ∧ Below v.heap.size v w') (by rfl) (by go_simp) ((toK lr lg lb la _).mono fun e w' ⟨h1, h2⟩ => ⟨_, h1, rfl, h2⟩) ?_
        rintro zb wb ⟨rfl, B8⟩
        replace D8 := D8.next B8
        simp only [Act.put, List.setIfInBounds_toArray, List.set_cons_zero, List.set_cons_succ]
        refine hK.out _ _ (hH.trans (B8.mono hH.size)) (fun hH' => ?_)
        clear hK K
        replace hH := hH'
        clear hH' 
        clear B8
        refine wpAnyH_ready (rs := [4]) (by kernel_rfl) (by simp) ?_
        refine (AllReadyH.cons (o := { dst := some 22, op := Op.call { callee := Callee.value (Operand.func 33), args := #[Operand.tmp 19, Operand.tmp 21], argTypes := #[26, 26] }, type := 51, pos := "exact.go:5367", after := #[{ on := 1, ground := Ground.data }, { on := 3, ground := Ground.data }, { on := 3, ground := Ground.chain }], guard := none }) rfl (fun K hK => ?_) AllReadyH.nil)
        refine step_callW 33 #[.agg #[.int .i64 kr, .int .i64 kg, .int .i64 kb, .int .i64 ka], .agg #[.int .i64 lr, .int .i64 lg, .int .i64 lb, .int .i64 la]] (fun z v w' => z = .tuple #[.agg #[.int .i64 q.r, .int .i64 q.g, .int .i64 q.b, .int .i64 q.a], .bool GB] ∧ Below v.heap.size v w') (by rfl) (by go_simp) ((HP.out _).mono fun e w' ⟨h1, h2⟩ => ⟨_, h1, rfl, h2⟩) ?_
        rintro zc wc ⟨rfl, B9⟩
        replace D8 := D8.next B9
        simp only [Act.put, List.setIfInBounds_toArray, List.set_cons_zero, List.set_cons_succ]
        refine hK.out _ _ (hH.trans (B9.mono hH.size)) (fun hH' => ?_)
        clear hK K
        replace hH := hH'
        clear hH' 
        clear B9
        refine wpAnyH_take (i := 5) (oi := { dst := some 17, op := Op.move (Operand.tmp 22), type := 51, pos := "exact.go:5367", after := #[{ on := 4, ground := Ground.data }], guard := none }) (v := .tuple #[.agg #[.int .i64 q.r, .int .i64 q.g, .int .i64 q.b, .int .i64 q.a], .bool GB]) rfl (by kernel_rfl) (by kernel_rfl) (by kernel_rfl) (fun _ _ _ h => h) (Or.inl ⟨by rfl, fun w0 hSw => by (go_simp)⟩) hH ?_
        simp only [Act.put, List.setIfInBounds_toArray, List.set_cons_zero, List.set_cons_succ]
        refine wpAnyH_take (i := 6) (oi := { dst := some 23, op := Op.extract (Operand.tmp 17) 0, type := 26, pos := "exact.go:5367", after := #[{ on := 5, ground := Ground.data }], guard := none }) (v := .agg #[.int .i64 q.r, .int .i64 q.g, .int .i64 q.b, .int .i64 q.a]) rfl (by kernel_rfl) (by kernel_rfl) (by kernel_rfl) (fun _ _ _ h => h) (Or.inl ⟨by rfl, fun w0 hSw => by (go_simp)⟩) hH ?_
        simp only [Act.put, List.setIfInBounds_toArray, List.set_cons_zero, List.set_cons_succ]
        refine wpAnyH_take (i := 7) (oi := { dst := some 24, op := Op.extract (Operand.tmp 17) 1, type := 4, pos := "exact.go:5367", after := #[{ on := 5, ground := Ground.data }, { on := 9, ground := Ground.gcOnly Departure.lateStores }], guard := none }) (v := .bool GB) rfl (by kernel_rfl) (by kernel_rfl) (by kernel_rfl) (fun _ _ _ h => h) (Or.inl ⟨by rfl, fun w0 hSw => by (go_simp)⟩) hH ?_
        simp only [Act.put, List.setIfInBounds_toArray, List.set_cons_zero, List.set_cons_succ]
        refine wpAnyH_ready (rs := [9]) (by kernel_rfl) (by simp) ?_
        refine (AllReadyH.cons (o := { dst := none, op := Op.store 26 (Operand.tmp 7) (Operand.tmp 23), type := 0, pos := "exact.go:5367", after := #[{ on := 8, ground := Ground.data }, { on := 6, ground := Ground.data }, { on := 4, ground := Ground.chain }, { on := 0, ground := Ground.phase }, { on := 1, ground := Ground.phase }, { on := 2, ground := Ground.phase }, { on := 3, ground := Ground.phase }, { on := 4, ground := Ground.phase }, { on := 5, ground := Ground.phase }, { on := 6, ground := Ground.phase }, { on := 7, ground := Ground.textOnly Departure.lateStores }, { on := 8, ground := Ground.phase }], guard := none }) rfl (fun K hK => ?_) AllReadyH.nil)
        have s0 := D8.c0
        have s1 := D8.c1
        have s2 := D8.c2
        have s3 := D8.c3
        have sf := D8.f
        refine step_skip (set4 wc (WX.heap.size) (.int .i64 q.r) (.int .i64 q.g) (.int .i64 q.b) (.int .i64 q.a)) (by rfl) (by unfold set4; go_simp) ?_
        have D9 := D8.put (.int .i64 q.r) (.int .i64 q.g) (.int .i64 q.b) (.int .i64 q.a)
        have B9 : Below WX.heap.size WX (set4 wc (WX.heap.size) (.int .i64 q.r) (.int .i64 q.g) (.int .i64 q.b) (.int .i64 q.a)) := hH.trans ((only_set4 wc (WX.heap.size) (.int .i64 q.r) (.int .i64 q.g) (.int .i64 q.b) (.int .i64 q.a)).below hD8 hH.size)
        refine hK.out _ _ B9 (fun hH' => ?_)
        clear hK K
        replace hH := hH'
        clear hH' s0 s1 s2 s3 sf D8
        refine wpAnyH_take (i := 10) (oi := { dst := some 8, op := Op.assign (Operand.tmp 24), type := 4, pos := "exact.go:5367", after := #[{ on := 7, ground := Ground.data }, { on := 9, ground := Ground.chain }, { on := 0, ground := Ground.phase }, { on := 1, ground := Ground.phase }, { on := 2, ground := Ground.phase }, { on := 3, ground := Ground.phase }, { on := 4, ground := Ground.phase }, { on := 5, ground := Ground.phase }, { on := 6, ground := Ground.phase }, { on := 7, ground := Ground.phase }, { on := 8, ground := Ground.phase }, { on := 9, ground := Ground.phase }], guard := none }) (v := .bool GB) rfl (by kernel_rfl) (by kernel_rfl) (by kernel_rfl) (fun _ _ _ h => h) (Or.inl ⟨by rfl, fun w0 hSw => by (go_simp)⟩) hH ?_
        simp only [Act.put, List.setIfInBounds_toArray, List.set_cons_zero, List.set_cons_succ]
        refine wpAnyH_done (by kernel_rfl) ?_ _
        go_wp2_with fail
        go_meet
        case rel => exact ⟨WX.heap.size, rfl, rfl, D9, BX2.trans (B9.mono BX2.size), Nat.le_trans BX2.size hD8⟩
    case rest =>
      obtain ⟨ac, rfl, rfl, D7, B7, hac⟩ := hcut
      have BX := BX.trans (B7.mono BX.size)
      have D5 := D5.next B7
      clear B7 KA LA hac HP
      generalize hwc : wc = w8 at *
      clear hwc
      have y0 := D7.c0
      have y1 := D7.c1
      have y2 := D7.c2
      have y3 := D7.c3
      have v0 := D5.c0
      have v1 := D5.c1
      have v2 := D5.c2
      have v3 := D5.c3
      cases GB
      all_goals
        go_wp2_with (go_at_call 34; refine (eqK q.r q.g q.b q.a _).mono ?_; rintro e w9 ⟨rfl, B9⟩)
        go_ret
        exact ⟨rfl, BX.trans (B9.mono BX.size)⟩

set_option maxRecDepth 100000 in
theorem lifted (os : Os) (started : os.Started) (H : Type) (enc : TypeId × Value → H) :
    ReturnsInHanded {} Try.checked os 9 .any (Rows.fnExactBlendColorSpec.pre6 enc Try.prog Try.f9 Rows.fnExactBlendColorRow.domain false) (Rows.fnExactBlendColorSpec.post enc Try.prog Try.f9 false true false false) := by
  refine returnsInHanded_of_change (C := Try.checked) own started (by kernel_rfl) Try.func9
    (ChangeSpec.witness6 (enc := enc) (C := Try.checked) false ⟨#[], #[.agg #[.int .i64 0, .int .i64 0, .int .i64 0, .int .i64 0], .agg #[.int .i64 0, .int .i64 0, .int .i64 0, .int .i64 0]], []⟩ 8 (by kernel_rfl) (by kernel_rfl) (by kernel_rfl) (by kernel_rfl)) ?_
  intro W base args ds gs before hval0 hW hcnd _
  have hval : ∀ (j : Nat) t v, Try.f9.params[j]? = some t → args[j]? = some v → Value.okWide Try.prog W .any base t v := hval0
  have hW' := hW
  obtain ⟨p, q, hA0, hV, rfl, hfz, hnd⟩ := hW
  have hA : DataW.TrodAll enc Try.prog W 0 (fun _ => true) true Try.f9.params.toList args.toList ds p := hA0
  rw [Try.params9] at hA hval
  obtain ⟨v0, vs0, d0, ds0, p0, q0, hargs, rfl, rfl, h0, r0⟩ := trodAll_cons hA
  obtain ⟨v1, vs1, d1, ds1, p1, q1, rfl, rfl, rfl, h1, r1⟩ := trodAll_cons r0
  obtain ⟨rfl, rfl, rfl⟩ := trodAll_nil r1
  obtain rfl : args = #[v0, v1] := by cases args; simp_all
  obtain ⟨rfl, rfl⟩ := trodVars_none hV
  simp only [List.append_nil] at hW'
  have k0 := h0
  have lt0 : ∀ x ∈ p0, x.block < W.heap.size := fun x hx => by have := hW'.lt x (by simp [hx]); simpa using this
  obtain ⟨kr, kg, kb, ka, rfl⟩ := viewK Try.underlying41 (by kernel_rfl) rfl rfl rfl rfl (by kernel_rfl) (by kernel_rfl) (by kernel_rfl) (by kernel_rfl) Try.underlying3 Try.underlying3 Try.underlying3 Try.underlying3 (hval 0 41 v0 rfl rfl) h0
  have arg0 : ∀ (W' : World), Below W.heap.size W W' → DataW.Trod enc Try.prog W' 0 (fun b => decide (b < W.heap.size)) true 41 (.agg #[.int .i64 kr, .int .i64 kg, .int .i64 kb, .int .i64 ka]) d0 p0 := fun W' hn => Below.trod laidOut (by kernel_rfl) (of_decide_eq_true (by kernel_rfl)) k0 hn lt0
  have k1 := h1
  have lt1 : ∀ x ∈ p1, x.block < W.heap.size := fun x hx => by have := hW'.lt x (by simp [hx]); simpa using this
  obtain ⟨lr, lg, lb, la, rfl⟩ := viewK Try.underlying41 (by kernel_rfl) rfl rfl rfl rfl (by kernel_rfl) (by kernel_rfl) (by kernel_rfl) (by kernel_rfl) Try.underlying3 Try.underlying3 Try.underlying3 Try.underlying3 (hval 1 41 v1 rfl rfl) h1
  have arg1 : ∀ (W' : World), Below W.heap.size W W' → DataW.Trod enc Try.prog W' 0 (fun b => decide (b < W.heap.size)) true 41 (.agg #[.int .i64 lr, .int .i64 lg, .int .i64 lb, .int .i64 la]) d1 p1 := fun W' hn => Below.trod laidOut (by kernel_rfl) (of_decide_eq_true (by kernel_rfl)) k1 hn lt1
  clear hA0 hval0
  refine (walk W kr kg kb ka lr lg lb la).mono fun e W' ⟨he, hg⟩ => ?_
  subst he
  refine ⟨_, rfl, _, _, _, [], p0 ++ (p1 ++ []), [], hW', (trodAll_cons_mk (shut_bool Try.underlying4 _) trodAll_mk0), (trodAll_cons_mk (arg0 _ hg) (trodAll_cons_mk (arg1 _ hg) trodAll_mk0)), rfl, hg.frame _, fun h => by cases h⟩
theorem over : Rows.fnExactBlendColorRow.holds Try.pinned (OpenSpec.ofChange Rows.fnExactBlendColorSpec) :=
  OpenClaim.holds_of_wide 9 Try.f9 rfl rfl rfl rfl rfl rfl rfl ⟨rfl, rfl, rfl, rfl, rfl⟩ rfl rfl rfl rfl rfl (by kernel_rfl) Try.func9 (by kernel_rfl)
    (of_decide_eq_true (by kernel_rfl)) (by unfold Func.isWrapper; first | (rw [if_pos (by decide +kernel)]; kernel_rfl) | (rw [if_neg (by decide +kernel)]; exact ⟨rfl, rfl⟩))
    (fun os started H enc _ => lifted os started H enc)
end Go.Proofs.Ytglhlpbaaoekgaa.fnExactBlendColor
namespace Go.Proofs.Ytglhlpbaaoekgaa
theorem blendColor : Rows.FnExactBlendColorSaid := fnExactBlendColor.over
#print axioms blendColor
end Go.Proofs.Ytglhlpbaaoekgaa
