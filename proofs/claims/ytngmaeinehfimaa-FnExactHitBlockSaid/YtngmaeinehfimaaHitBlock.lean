/- HitBlock answers as its model at every block and ray (two rows of whole numbers each), and writes into none of them. No conditions. -/
import Derived.Test.YtngmaeinehfimaaRows
import Derived.Test.YtngmaeinehfimaaLk
namespace Go.Proofs.Ytngmaeinehfimaa.fnExactHitBlock
open Go.ChangeShapes Go.WideShapes Go.ChangeAt Go.RowKit
set_option linter.unusedVariables false
theorem own : ownKnob Try.prog.godebug = none := by kernel_rfl
theorem laidOut : laidOutB Try.prog = true := by kernel_rfl

set_option maxRecDepth 100000 in
set_option maxHeartbeats 8000000 in
theorem walk (w : World) (bu bv : Value) (BL BH : List Int) (bU : ARow w bu BL) (bV : ARow w bv BH) (bl : BL.length ≤ 9223372036854775807) (bh : BH.length ≤ 9223372036854775807) (yu yv : Value) (YL YH : List Int) (yU : ARow w yu YL) (yV : ARow w yv YH) (yl : YL.length ≤ 9223372036854775807) (yh : YH.length ≤ 9223372036854775807) :
    Calls Try.prog 5 #[.agg #[bu, bv], .agg #[yu, yv]] w fun e w' => e = .returned (.bool true) ∧ Below w.heap.size w w' := by
  have HTB0 : Hid (BL.length ≤ 1048576 → BH.length ≤ 1048576 → ∀ w', Below w.heap.size w w' → Calls Try.prog 13 #[.agg #[bu, bv]] w' fun r w'' => ∃ a, r = .returned a ∧ Bk w'' a BL BH ∧ Below w'.heap.size w' w'') := fun h1 h2 w' b => toB bu bv BL BH w' (bU.next b) (bV.next b) h1 h2
  have HSB : Hid (∀ w' (z : Int), Below w.heap.size w w' → 0 ≤ z → z ≤ 1048576 → Calls Try.prog 11 #[.agg #[bu, bv], .int .i64 z] w' fun r w'' => (∃ x : Int, r = .returned (.int .i64 x) ∧ (x < 0 ∨ 0 ≤ x ∧ x ≤ z ∧ (BL.length : Int) + (BH.length : Int) + x ≤ z)) ∧ Below w'.heap.size w' w'') := fun w' z b z0 z1 => szB bu bv BL BH w' (bU.next b) (bV.next b) bl bh z z0 z1
  have HTR0 : Hid (YL.length ≤ 1048576 → YH.length ≤ 1048576 → ∀ w', Below w.heap.size w w' → Calls Try.prog 18 #[.agg #[yu, yv]] w' fun r w'' => ∃ a, r = .returned a ∧ Bk w'' a YL YH ∧ Below w'.heap.size w' w'') := fun h1 h2 w' b => toR yu yv YL YH w' (yU.next b) (yV.next b) h1 h2
  have HSR : Hid (∀ w' (z : Int), Below w.heap.size w w' → 0 ≤ z → z ≤ 1048576 → Calls Try.prog 16 #[.agg #[yu, yv], .int .i64 z] w' fun r w'' => (∃ x : Int, r = .returned (.int .i64 x) ∧ (x < 0 ∨ 0 ≤ x ∧ x ≤ z ∧ (YL.length : Int) + (YH.length : Int) + x ≤ z)) ∧ Below w'.heap.size w' w'') := fun w' z b z0 z1 => szR yu yv YL YH w' (yU.next b) (yV.next b) yl yh z z0 z1
  have HM0 : Hid (BL.length ≤ 1048576 ∧ BH.length ≤ 1048576 ∧ YL.length ≤ 1048576 ∧ YH.length ≤ 1048576 → ∀ w' a b, Bk w' a BL BH → Bk w' b YL YH → Calls Try.prog 21 #[a, b] w' fun e w'' => e = .returned (.tuple #[.int .i64 (hbN BL BH YL YH), .int .i64 (hbD BL BH YL YH), .bool (hbB BL BH YL YH)]) ∧ Below w'.heap.size w' w'') := fun h w' a b k1 k2 => by obtain ⟨u, v, rfl, U, V⟩ := k1.rows; obtain ⟨x, y, rfl, X, Y⟩ := k2.rows; exact mhitb u v x y BL BH YL YH w' U V X Y (by omega) (by omega) (by omega) (by omega)
  have HP0 : Hid (BL.length ≤ 1048576 ∧ BH.length ≤ 1048576 ∧ YL.length ≤ 1048576 ∧ YH.length ≤ 1048576 → ∀ w' a b, Bk w' a BL BH → Bk w' b YL YH → Calls Try.prog 22 #[a, b] w' fun e w'' => e = .returned (.tuple #[.int .i64 (hbN BL BH YL YH), .int .i64 (hbD BL BH YL YH), .bool (hbB BL BH YL YH)]) ∧ Below w'.heap.size w' w'') := fun h w' a b k1 k2 => by obtain ⟨u, v, rfl, U, V⟩ := k1.rows; obtain ⟨x, y, rfl, X, Y⟩ := k2.rows; exact phitb u v x y BL BH YL YH w' U V X Y (by omega) (by omega) (by omega) (by omega)
  generalize hbN BL BH YL YH = rn at HM0 HP0
  generalize hbD BL BH YL YH = rd at HM0 HP0
  generalize hbB BL BH YL YH = rb at HM0 HP0
  obtain ⟨ad, c, rfl, -⟩ := bU
  obtain ⟨bd, d, rfl, -⟩ := bV
  obtain ⟨fd, e, rfl, -⟩ := yU
  obtain ⟨gd, f, rfl, -⟩ := yV
  obtain ⟨n, hn⟩ : ∃ n, BL.length = n := ⟨_, rfl⟩
  obtain ⟨m, hm⟩ : ∃ m, BH.length = m := ⟨_, rfl⟩
  obtain ⟨k, hk⟩ : ∃ k, YL.length = k := ⟨_, rfl⟩
  obtain ⟨l, hl⟩ : ∃ l, YH.length = l := ⟨_, rfl⟩
  have HN : Hid (BL.length = n ∧ BH.length = m ∧ YL.length = k ∧ YH.length = l) := ⟨hn, hm, hk, hl⟩
  rw [hn] at HTB0 HSB bl HM0 HP0 ⊢
  rw [hm] at HTB0 HSB bh HM0 HP0 ⊢
  rw [hk] at HTR0 HSR yl HM0 HP0 ⊢
  rw [hl] at HTR0 HSR yh HM0 HP0 ⊢
  clear hn hm hk hl
  have HBA : Hid (Below w.heap.size w ((w.alloc (.cells #[.slice ad n c, .slice bd m d] 24)).alloc (.cells #[.slice fd k e, .slice gd l f] 32))) := (alloc_b).trans ((alloc_b).mono (by simp))
  have HCA : Hid (∀ w', Below ((w.alloc (.cells #[.slice ad n c, .slice bd m d] 24)).alloc (.cells #[.slice fd k e, .slice gd l f] 32)).heap.size ((w.alloc (.cells #[.slice ad n c, .slice bd m d] 24)).alloc (.cells #[.slice fd k e, .slice gd l f] 32)) w' → C2 w' w.heap.size (.slice ad n c) (.slice bd m d) ∧ C2 w' (w.heap.size + 1) (.slice fd k e) (.slice gd l f)) := fun w' b => by
    have h1 := (C2.new (w.alloc (.cells #[.slice ad n c, .slice bd m d] 24)) 32 (.slice fd k e) (.slice gd l f)).next b
    have e1 : (w.alloc (.cells #[.slice ad n c, .slice bd m d] 24)).heap.size = w.heap.size + 1 := by simp
    rw [e1] at h1
    exact ⟨((C2.new w 24 (.slice ad n c) (.slice bd m d)).next (alloc_b (o := (.cells #[.slice fd k e, .slice gd l f] 32)))).next b, h1⟩
  go_enter Try.func5, Try.ntmps5
  go_upto_region 5 with (go_at_call 11; refine (HSB.out _ 1048576 HBA.out (by decide) (by decide)).mono ?_; rintro e1 w2 ⟨⟨x, rfl, hx⟩, B2⟩; (obtain ⟨CA2, CY2⟩ := HCA.out w2 B2); (have q0 := CA2.c0); (have q1 := CA2.c1); (have p0 := CY2.c0); (have p1 := CY2.c1))
  · go_ret
    exact ⟨rfl, HBA.out.trans (B2.mono HBA.out.size)⟩
  rename_i hx0
  have x0 : 0 ≤ x ∧ x ≤ 1048576 ∧ (n : Int) + m + x ≤ 1048576 := by rcases hx with h | ⟨h1, h2, h3⟩; omega; omega
  have B02 : Below w.heap.size w w2 := HBA.out.trans (B2.mono HBA.out.size)
  clear hx
  go_upto_region 8 with (go_at_call 16; refine (HSR.out _ x B02 x0.1 x0.2.1).mono ?_; rintro e1 w3 ⟨⟨y, rfl, hy⟩, B3⟩; (obtain ⟨CA, CY⟩ := HCA.out w3 (B2.trans (B3.mono B2.size))))
  · go_ret
    exact ⟨rfl, B02.trans (B3.mono B02.size)⟩
  rename_i hy0
  have hx2 : (n : Int) + m ≤ 1048576 ∧ (k : Int) + l ≤ 1048576 := by rcases hy with h | ⟨h1, h2, h3⟩; omega; omega
  have HL : Hid (BL.length ≤ 1048576 ∧ BH.length ≤ 1048576 ∧ YL.length ≤ 1048576 ∧ YH.length ≤ 1048576) := by have := HN.out; show _ ∧ _; omega
  have HTB := Hid.mk (HTB0.out (by omega) (by omega))
  have HTR := Hid.mk (HTR0.out (by omega) (by omega))
  have HM := Hid.mk (HM0.out ⟨by omega, by omega, by omega, by omega⟩)
  have HP := Hid.mk (HP0.out ⟨by omega, by omega, by omega, by omega⟩)
  have BX : Below w.heap.size w w3 := B02.trans (B3.mono B02.size)
  clear hy hx2 x0 B2 B3 B02 HBA HSB HSR HTB0 HTR0 HM0 HP0 bl bh yl yh HCA CA2 CY2 q0 q1 p0 p1
  go_cut [6, 7, 8] (fun a b c wx => a = .int .i64 rn ∧ b = .int .i64 rd ∧ c = .bool rb ∧ Below w3.heap.size w3 wx)
  case first =>
    generalize hWW : w3.drew = WX
    have CA := CA.next (below_drew (Below.refl _ _))
    have CY := CY.next (below_drew (Below.refl _ _))
    have BX := below_drew BX
    have BX2 : Below w3.heap.size w3 w3.drew := below_drew (Below.refl _ _)
    rw [hWW] at CA CY BX BX2
    refine wp_region_held_drew (S := fun v => Below WX.heap.size WX v) (by kernel_rfl) (by rw [hWW]; exact Below.refl _ _) (fun hH => ?_)
    rw [hWW] at hH ⊢
    clear hWW
    refine wpAnyH_take (i := 0) (oi := { dst := some 25, op := Op.load 24 (Operand.tmp 2), type := 24, pos := "exact.go:5529", after := #[], guard := none }) (v := .agg #[.slice ad n c, .slice bd m d]) rfl (by kernel_rfl) (by kernel_rfl) (by kernel_rfl) (fun _ _ _ h => h) (Or.inl ⟨by rfl, fun w0 hSw => by ((have e0 := cell_nx CA.c0 hSw); (have e1 := cell_nx CA.c1 hSw); go_simp)⟩) hH ?_
    simp only [Act.put, List.setIfInBounds_toArray, List.set_cons_zero, List.set_cons_succ]
    refine wpAnyH_take (i := 2) (oi := { dst := some 27, op := Op.load 32 (Operand.tmp 3), type := 32, pos := "exact.go:5529", after := #[], guard := none }) (v := .agg #[.slice fd k e, .slice gd l f]) rfl (by kernel_rfl) (by kernel_rfl) (by kernel_rfl) (fun _ _ _ h => h) (Or.inl ⟨by rfl, fun w0 hSw => by ((have e0 := cell_nx CY.c0 hSw); (have e1 := cell_nx CY.c1 hSw); go_simp)⟩) hH ?_
    simp only [Act.put, List.setIfInBounds_toArray, List.set_cons_zero, List.set_cons_succ]
    refine wpAnyH_ready (rs := [1]) (by kernel_rfl) (by simp) ?_
    refine (AllReadyH.cons (o := { dst := some 26, op := Op.call { callee := Callee.value (Operand.func 13), args := #[Operand.tmp 25], argTypes := #[24] }, type := 27, pos := "exact.go:5529", after := #[{ on := 0, ground := Ground.data }], guard := none }) rfl (fun K hK => ?_) AllReadyH.nil)
    refine step_callW 13 #[.agg #[.slice ad n c, .slice bd m d]] (fun z v w' => Bk w' z BL BH ∧ Below v.heap.size v w') (by rfl) (by go_simp) ((HTB.out _ (BX.trans (hH.mono BX.size))).mono fun e w' ⟨a, h1, h2, h3⟩ => ⟨_, h1, h2, h3⟩) ?_
    rintro zb wb ⟨Pb, B8⟩
    simp only [Act.put, List.setIfInBounds_toArray, List.set_cons_zero, List.set_cons_succ]
    refine hK.out _ _ (hH.trans (B8.mono hH.size)) (fun hH' => ?_)
    clear hK K
    replace hH := hH'
    clear hH' 
    clear B8
    refine wpAnyH_ready (rs := [3]) (by kernel_rfl) (by simp) ?_
    refine (AllReadyH.cons (o := { dst := some 28, op := Op.call { callee := Callee.value (Operand.func 18), args := #[Operand.tmp 27], argTypes := #[32] }, type := 35, pos := "exact.go:5529", after := #[{ on := 2, ground := Ground.data }, { on := 1, ground := Ground.chain }], guard := none }) rfl (fun K hK => ?_) AllReadyH.nil)
    refine step_callW 18 #[.agg #[.slice fd k e, .slice gd l f]] (fun z v w' => Bk w' z YL YH ∧ Below v.heap.size v w') (by rfl) (by go_simp) ((HTR.out _ (BX.trans (hH.mono BX.size))).mono fun e w' ⟨a, h1, h2, h3⟩ => ⟨_, h1, h2, h3⟩) ?_
    rintro zr wr ⟨Pr, B8⟩
    replace Pb := Pb.next B8
    simp only [Act.put, List.setIfInBounds_toArray, List.set_cons_zero, List.set_cons_succ]
    refine hK.out _ _ (hH.trans (B8.mono hH.size)) (fun hH' => ?_)
    clear hK K
    replace hH := hH'
    clear hH' 
    clear B8
    refine wpAnyH_ready (rs := [4]) (by kernel_rfl) (by simp) ?_
    refine (AllReadyH.cons (o := { dst := some 29, op := Op.call { callee := Callee.value (Operand.func 21), args := #[Operand.tmp 26, Operand.tmp 28], argTypes := #[27, 35] }, type := 39, pos := "exact.go:5529", after := #[{ on := 1, ground := Ground.data }, { on := 3, ground := Ground.data }, { on := 3, ground := Ground.chain }], guard := none }) rfl (fun K hK => ?_) AllReadyH.nil)
    refine step_callW 21 #[zb, zr] (fun z v w' => z = .tuple #[.int .i64 rn, .int .i64 rd, .bool rb] ∧ Below v.heap.size v w') (by rfl) (by go_simp) ((HM.out _ _ _ Pb Pr).mono fun e w' ⟨h1, h2⟩ => ⟨_, h1, rfl, h2⟩) ?_
    rintro z9 w9 ⟨rfl, B9⟩
    replace Pb := Pb.next B9
    replace Pr := Pr.next B9
    simp only [Act.put, List.setIfInBounds_toArray, List.set_cons_zero, List.set_cons_succ]
    refine hK.out _ _ (hH.trans (B9.mono hH.size)) (fun hH' => ?_)
    clear hK K
    replace hH := hH'
    clear hH' 
    clear B9
    refine wpAnyH_take (i := 5) (oi := { dst := some 24, op := Op.move (Operand.tmp 29), type := 39, pos := "exact.go:5529", after := #[{ on := 4, ground := Ground.data }], guard := none }) (v := .tuple #[.int .i64 rn, .int .i64 rd, .bool rb]) rfl (by kernel_rfl) (by kernel_rfl) (by kernel_rfl) (fun _ _ _ h => h) (Or.inl ⟨by rfl, fun w0 hSw => by (go_simp)⟩) hH ?_
    simp only [Act.put, List.setIfInBounds_toArray, List.set_cons_zero, List.set_cons_succ]
    refine wpAnyH_take (i := 6) (oi := { dst := some 30, op := Op.extract (Operand.tmp 24) 0, type := 3, pos := "exact.go:5529", after := #[{ on := 5, ground := Ground.data }], guard := none }) (v := .int .i64 rn) rfl (by kernel_rfl) (by kernel_rfl) (by kernel_rfl) (fun _ _ _ h => h) (Or.inl ⟨by rfl, fun w0 hSw => by (go_simp)⟩) hH ?_
    simp only [Act.put, List.setIfInBounds_toArray, List.set_cons_zero, List.set_cons_succ]
    refine wpAnyH_take (i := 7) (oi := { dst := some 31, op := Op.extract (Operand.tmp 24) 1, type := 3, pos := "exact.go:5529", after := #[{ on := 5, ground := Ground.data }, { on := 9, ground := Ground.gcOnly Departure.lateStores }], guard := none }) (v := .int .i64 rd) rfl (by kernel_rfl) (by kernel_rfl) (by kernel_rfl) (fun _ _ _ h => h) (Or.inl ⟨by rfl, fun w0 hSw => by (go_simp)⟩) hH ?_
    simp only [Act.put, List.setIfInBounds_toArray, List.set_cons_zero, List.set_cons_succ]
    refine wpAnyH_take (i := 8) (oi := { dst := some 32, op := Op.extract (Operand.tmp 24) 2, type := 4, pos := "exact.go:5529", after := #[{ on := 5, ground := Ground.data }, { on := 10, ground := Ground.gcOnly Departure.lateStores }], guard := none }) (v := .bool rb) rfl (by kernel_rfl) (by kernel_rfl) (by kernel_rfl) (fun _ _ _ h => h) (Or.inl ⟨by rfl, fun w0 hSw => by (go_simp)⟩) hH ?_
    simp only [Act.put, List.setIfInBounds_toArray, List.set_cons_zero, List.set_cons_succ]
    refine wpAnyH_take (i := 9) (oi := { dst := some 6, op := Op.assign (Operand.tmp 30), type := 3, pos := "exact.go:5529", after := #[{ on := 6, ground := Ground.data }, { on := 4, ground := Ground.chain }, { on := 0, ground := Ground.phase }, { on := 1, ground := Ground.phase }, { on := 2, ground := Ground.phase }, { on := 3, ground := Ground.phase }, { on := 4, ground := Ground.phase }, { on := 5, ground := Ground.phase }, { on := 6, ground := Ground.phase }, { on := 7, ground := Ground.textOnly Departure.lateStores }, { on := 8, ground := Ground.textOnly Departure.lateStores }], guard := none }) (v := .int .i64 rn) rfl (by kernel_rfl) (by kernel_rfl) (by kernel_rfl) (fun _ _ _ h => h) (Or.inl ⟨by rfl, fun w0 hSw => by (go_simp)⟩) hH ?_
    simp only [Act.put, List.setIfInBounds_toArray, List.set_cons_zero, List.set_cons_succ]
    refine wpAnyH_take (i := 10) (oi := { dst := some 7, op := Op.assign (Operand.tmp 31), type := 3, pos := "exact.go:5529", after := #[{ on := 7, ground := Ground.data }, { on := 9, ground := Ground.chain }, { on := 0, ground := Ground.phase }, { on := 1, ground := Ground.phase }, { on := 2, ground := Ground.phase }, { on := 3, ground := Ground.phase }, { on := 4, ground := Ground.phase }, { on := 5, ground := Ground.phase }, { on := 6, ground := Ground.phase }, { on := 7, ground := Ground.phase }, { on := 8, ground := Ground.textOnly Departure.lateStores }, { on := 9, ground := Ground.phase }], guard := none }) (v := .int .i64 rd) rfl (by kernel_rfl) (by kernel_rfl) (by kernel_rfl) (fun _ _ _ h => h) (Or.inl ⟨by rfl, fun w0 hSw => by (go_simp)⟩) hH ?_
    simp only [Act.put, List.setIfInBounds_toArray, List.set_cons_zero, List.set_cons_succ]
    refine wpAnyH_take (i := 11) (oi := { dst := some 8, op := Op.assign (Operand.tmp 32), type := 4, pos := "exact.go:5529", after := #[{ on := 8, ground := Ground.data }, { on := 10, ground := Ground.chain }, { on := 0, ground := Ground.phase }, { on := 1, ground := Ground.phase }, { on := 2, ground := Ground.phase }, { on := 3, ground := Ground.phase }, { on := 4, ground := Ground.phase }, { on := 5, ground := Ground.phase }, { on := 6, ground := Ground.phase }, { on := 7, ground := Ground.phase }, { on := 8, ground := Ground.phase }, { on := 9, ground := Ground.phase }, { on := 10, ground := Ground.phase }], guard := none }) (v := .bool rb) rfl (by kernel_rfl) (by kernel_rfl) (by kernel_rfl) (fun _ _ _ h => h) (Or.inl ⟨by rfl, fun w0 hSw => by (go_simp)⟩) hH ?_
    simp only [Act.put, List.setIfInBounds_toArray, List.set_cons_zero, List.set_cons_succ]
    refine wpAnyH_done (by kernel_rfl) ?_ _
    go_wp2_with fail
    go_meet
    case rel => exact ⟨rfl, rfl, rfl, BX2.trans (hH.mono BX2.size)⟩
  case rest =>
    obtain ⟨rfl, rfl, rfl, B4⟩ := hcut
    have BX := BX.trans (B4.mono BX.size)
    have CA := CA.next B4
    have CY := CY.next B4
    have q0 := CA.c0
    have q1 := CA.c1
    have p0 := CY.c0
    have p1 := CY.c1
    clear B4 HM
    generalize hwc : wc = w4 at *
    clear hwc
    have HT5 : Hid (Calls Try.prog 13 #[.agg #[.slice ad n c, .slice bd m d]] w4 fun r w'' => ∃ g4 k4, r = .returned (.agg #[.slice (some ⟨g4, 0, none⟩) n n, .slice (some ⟨k4, 0, none⟩) m m]) ∧ Bk w'' (.agg #[.slice (some ⟨g4, 0, none⟩) n n, .slice (some ⟨k4, 0, none⟩) m m]) BL BH ∧ Below w4.heap.size w4 w'') := (HTB.out w4 BX).mono fun e w5 ⟨a, h1, h2, h3⟩ => by
      obtain ⟨g4, k4, e4, o1, o2⟩ := h2
      refine ⟨g4, k4, ?_, ⟨g4, k4, ?_, o1, o2⟩, h3⟩
      · rw [h1, e4, HN.out.1, HN.out.2.1]
      · rw [HN.out.1, HN.out.2.1]
    go_upto_region 10 with (go_at_call 13; refine HT5.out.mono ?_; rintro e1 w5 ⟨g4, k4, rfl, P4, B5⟩; skip)
    have DX := C2.new w5 27 (.slice (some ⟨g4, 0, none⟩) n n) (.slice (some ⟨k4, 0, none⟩) m m)
    have CA := (CA.next B5).next (alloc_b (o := (.cells #[.slice (some ⟨g4, 0, none⟩) n n, .slice (some ⟨k4, 0, none⟩) m m] 27)))
    have CY := (CY.next B5).next (alloc_b (o := (.cells #[.slice (some ⟨g4, 0, none⟩) n n, .slice (some ⟨k4, 0, none⟩) m m] 27)))
    have PX := P4.next (alloc_b (o := (.cells #[.slice (some ⟨g4, 0, none⟩) n n, .slice (some ⟨k4, 0, none⟩) m m] 27)))
    have BX5 := BX.trans (B5.mono BX.size)
    have BX := BX5.alloc BX5.size (.cells #[.slice (some ⟨g4, 0, none⟩) n n, .slice (some ⟨k4, 0, none⟩) m m] 27)
    obtain ⟨xb, hxb⟩ : ∃ xb, w5.heap.size = xb := ⟨_, rfl⟩
    rw [hxb] at DX ⊢
    generalize w5.alloc (.cells #[.slice (some ⟨g4, 0, none⟩) n n, .slice (some ⟨k4, 0, none⟩) m m] 27) = w6 at DX CA CY PX BX ⊢
    clear P4 B5 BX5 hxb HT5 q0 q1 p0 p1
    have p0 := CY.c0
    have p1 := CY.c1
    have HT7 : Hid (Calls Try.prog 18 #[.agg #[.slice fd k e, .slice gd l f]] w6 fun r w'' => ∃ g6 k6, r = .returned (.agg #[.slice (some ⟨g6, 0, none⟩) k k, .slice (some ⟨k6, 0, none⟩) l l]) ∧ Bk w'' (.agg #[.slice (some ⟨g6, 0, none⟩) k k, .slice (some ⟨k6, 0, none⟩) l l]) YL YH ∧ Below w6.heap.size w6 w'') := (HTR.out w6 BX).mono fun e w7 ⟨a, h1, h2, h3⟩ => by
      obtain ⟨g6, k6, e6, o1, o2⟩ := h2
      refine ⟨g6, k6, ?_, ⟨g6, k6, ?_, o1, o2⟩, h3⟩
      · rw [h1, e6, HN.out.2.2.1, HN.out.2.2.2]
      · rw [HN.out.2.2.1, HN.out.2.2.2]
    go_upto_region 11 with (go_at_call 18; refine HT7.out.mono ?_; rintro e1 w7 ⟨g6, k6, rfl, P6, B7⟩; skip)
    have DY := C2.new w7 35 (.slice (some ⟨g6, 0, none⟩) k k) (.slice (some ⟨k6, 0, none⟩) l l)
    have DX := (DX.next B7).next (alloc_b (o := (.cells #[.slice (some ⟨g6, 0, none⟩) k k, .slice (some ⟨k6, 0, none⟩) l l] 35)))
    have CA := (CA.next B7).next (alloc_b (o := (.cells #[.slice (some ⟨g6, 0, none⟩) k k, .slice (some ⟨k6, 0, none⟩) l l] 35)))
    have CY := (CY.next B7).next (alloc_b (o := (.cells #[.slice (some ⟨g6, 0, none⟩) k k, .slice (some ⟨k6, 0, none⟩) l l] 35)))
    have PX := (PX.next B7).next (alloc_b (o := (.cells #[.slice (some ⟨g6, 0, none⟩) k k, .slice (some ⟨k6, 0, none⟩) l l] 35)))
    have PY := P6.next (alloc_b (o := (.cells #[.slice (some ⟨g6, 0, none⟩) k k, .slice (some ⟨k6, 0, none⟩) l l] 35)))
    have BX7 := BX.trans (B7.mono BX.size)
    have BX := BX7.alloc BX7.size (.cells #[.slice (some ⟨g6, 0, none⟩) k k, .slice (some ⟨k6, 0, none⟩) l l] 35)
    obtain ⟨yb, hyb⟩ : ∃ yb, w7.heap.size = yb := ⟨_, rfl⟩
    rw [hyb] at DY ⊢
    generalize w7.alloc (.cells #[.slice (some ⟨g6, 0, none⟩) k k, .slice (some ⟨k6, 0, none⟩) l l] 35) = w8 at DX DY CA CY PX PY BX ⊢
    clear P6 B7 BX7 hyb HT7 p0 p1
    have q0 := DX.c0
    have q1 := DX.c1
    have p0 := DY.c0
    have p1 := DY.c1
    cases rb
    all_goals
      go_upto_region 14 with (go_at_call 22; refine (HP.out w8 _ _ PX PY).mono ?_; rintro e1 wD ⟨rfl, B9⟩)
      have BX := BX.trans (B9.mono BX.size)
      have CA := CA.next B9
      have CY := CY.next B9
      have DX := DX.next B9
      have DY := DY.next B9
      have PX := PX.next B9
      have PY := PY.next B9
      clear B9 q0 q1 p0 p1
      generalize hWW : wD.drew = WX
      have DX := DX.next (below_drew (Below.refl _ _))
      have CA := CA.next (below_drew (Below.refl _ _))
      have PX := PX.next (below_drew (Below.refl _ _))
      have CY := CY.next (below_drew (Below.refl _ _))
      have DY := DY.next (below_drew (Below.refl _ _))
      have PY := PY.next (below_drew (Below.refl _ _))
      have BX := below_drew BX
      have BX2 : Below wD.heap.size wD wD.drew := below_drew (Below.refl _ _)
      rw [hWW] at DX CA PX CY DY PY BX BX2
      refine wp_region_held_drew (S := fun v => Below WX.heap.size WX v) (by kernel_rfl) (by rw [hWW]; exact Below.refl _ _) (fun hH => ?_)
      rw [hWW] at hH ⊢
      clear hWW
      refine wpAnyH_take (i := 0) (oi := { dst := some 57, op := Op.load 27 (Operand.tmp 9), type := 27, pos := "exact.go:5536", after := #[], guard := none }) (v := .agg #[.slice (some ⟨g4, 0, none⟩) n n, .slice (some ⟨k4, 0, none⟩) m m]) rfl (by kernel_rfl) (by kernel_rfl) (by kernel_rfl) (fun _ _ _ h => h) (Or.inl ⟨by rfl, fun w0 hSw => by ((have e0 := cell_nx DX.c0 hSw); (have e1 := cell_nx DX.c1 hSw); go_simp)⟩) hH ?_
      simp only [Act.put, List.setIfInBounds_toArray, List.set_cons_zero, List.set_cons_succ]
      refine wpAnyH_take (i := 1) (oi := { dst := some 58, op := Op.load 24 (Operand.tmp 2), type := 24, pos := "exact.go:5536", after := #[], guard := none }) (v := .agg #[.slice ad n c, .slice bd m d]) rfl (by kernel_rfl) (by kernel_rfl) (by kernel_rfl) (fun _ _ _ h => h) (Or.inl ⟨by rfl, fun w0 hSw => by ((have e0 := cell_nx CA.c0 hSw); (have e1 := cell_nx CA.c1 hSw); go_simp)⟩) hH ?_
      simp only [Act.put, List.setIfInBounds_toArray, List.set_cons_zero, List.set_cons_succ]
      refine wpAnyH_ready (rs := [2]) (by kernel_rfl) (by simp) ?_
      refine (AllReadyH.cons (o := { dst := some 59, op := Op.call { callee := Callee.value (Operand.func 13), args := #[Operand.tmp 58], argTypes := #[24] }, type := 27, pos := "exact.go:5536", after := #[{ on := 1, ground := Ground.data }], guard := none }) rfl (fun K hK => ?_) AllReadyH.nil)
      refine step_callW 13 #[.agg #[.slice ad n c, .slice bd m d]] (fun z v w' => Bk w' z BL BH ∧ Below v.heap.size v w') (by rfl) (by go_simp) ((HTB.out _ (BX.trans (hH.mono BX.size))).mono fun e w' ⟨a, h1, h2, h3⟩ => ⟨_, h1, h2, h3⟩) ?_
      rintro zb wb ⟨Pb, B8⟩
      replace PX := PX.next B8
      simp only [Act.put, List.setIfInBounds_toArray, List.set_cons_zero, List.set_cons_succ]
      refine hK.out _ _ (hH.trans (B8.mono hH.size)) (fun hH' => ?_)
      clear hK K
      replace hH := hH'
      clear hH' 
      clear B8
      refine wpAnyH_ready (rs := [3]) (by kernel_rfl) (by simp) ?_
      refine (AllReadyH.cons (o := { dst := some 60, op := Op.call { callee := Callee.value (Operand.func 15), args := #[Operand.tmp 57, Operand.tmp 59], argTypes := #[27, 27] }, type := 4, pos := "exact.go:5536", after := #[{ on := 0, ground := Ground.data }, { on := 2, ground := Ground.data }, { on := 2, ground := Ground.chain }], guard := none }) rfl (fun K hK => ?_) AllReadyH.nil)
      refine step_callW 15 #[.agg #[.slice (some ⟨g4, 0, none⟩) n n, .slice (some ⟨k4, 0, none⟩) m m], zb] (fun z v w' => z = .bool true ∧ Below v.heap.size v w') (by rfl) (by go_simp) ((eqB _ _ BL BH _ PX Pb HL.out.1 HL.out.2.1).mono fun e w' ⟨h1, h2⟩ => ⟨_, h1, rfl, h2⟩) ?_
      rintro z9 w9 ⟨rfl, B9⟩
      simp only [Act.put, List.setIfInBounds_toArray, List.set_cons_zero, List.set_cons_succ]
      refine hK.out _ _ (hH.trans (B9.mono hH.size)) (fun hH' => ?_)
      clear hK K
      replace hH := hH'
      clear hH' 
      refine wpAnyH_take (i := 4) (oi := { dst := some 61, op := Op.unOp UnOp.not 4 (Operand.tmp 60), type := 4, pos := "exact.go:5536", after := #[{ on := 3, ground := Ground.data }], guard := none }) (v := .bool false) rfl (by kernel_rfl) (by kernel_rfl) (by kernel_rfl) (fun _ _ _ h => h) (Or.inl ⟨by rfl, fun w0 hSw => by (go_simp)⟩) hH ?_
      simp only [Act.put, List.setIfInBounds_toArray, List.set_cons_zero, List.set_cons_succ]
      refine wpAnyH_done (by kernel_rfl) ?_ _
      have BX := BX.trans (hH.mono BX.size)
      have CY := CY.next hH
      have DY := DY.next hH
      have PY := PY.next hH
      clear DX CA PX Pb B9
      go_upto_region 16 with fail
      generalize w9 = wE at *
      generalize hWW : wE.drew = WX
      have DY := DY.next (below_drew (Below.refl _ _))
      have CY := CY.next (below_drew (Below.refl _ _))
      have PY := PY.next (below_drew (Below.refl _ _))
      have BX := below_drew BX
      have BX2 : Below wE.heap.size wE wE.drew := below_drew (Below.refl _ _)
      rw [hWW] at DY CY PY BX BX2
      refine wp_region_held_drew (S := fun v => Below WX.heap.size WX v) (by kernel_rfl) (by rw [hWW]; exact Below.refl _ _) (fun hH => ?_)
      rw [hWW] at hH ⊢
      clear hWW
      refine wpAnyH_take (i := 0) (oi := { dst := some 62, op := Op.load 35 (Operand.tmp 10), type := 35, pos := "exact.go:5539", after := #[], guard := none }) (v := .agg #[.slice (some ⟨g6, 0, none⟩) k k, .slice (some ⟨k6, 0, none⟩) l l]) rfl (by kernel_rfl) (by kernel_rfl) (by kernel_rfl) (fun _ _ _ h => h) (Or.inl ⟨by rfl, fun w0 hSw => by ((have e0 := cell_nx DY.c0 hSw); (have e1 := cell_nx DY.c1 hSw); go_simp)⟩) hH ?_
      simp only [Act.put, List.setIfInBounds_toArray, List.set_cons_zero, List.set_cons_succ]
      refine wpAnyH_take (i := 1) (oi := { dst := some 63, op := Op.load 32 (Operand.tmp 3), type := 32, pos := "exact.go:5539", after := #[], guard := none }) (v := .agg #[.slice fd k e, .slice gd l f]) rfl (by kernel_rfl) (by kernel_rfl) (by kernel_rfl) (fun _ _ _ h => h) (Or.inl ⟨by rfl, fun w0 hSw => by ((have e0 := cell_nx CY.c0 hSw); (have e1 := cell_nx CY.c1 hSw); go_simp)⟩) hH ?_
      simp only [Act.put, List.setIfInBounds_toArray, List.set_cons_zero, List.set_cons_succ]
      refine wpAnyH_ready (rs := [2]) (by kernel_rfl) (by simp) ?_
      refine (AllReadyH.cons (o := { dst := some 64, op := Op.call { callee := Callee.value (Operand.func 18), args := #[Operand.tmp 63], argTypes := #[32] }, type := 35, pos := "exact.go:5539", after := #[{ on := 1, ground := Ground.data }], guard := none }) rfl (fun K hK => ?_) AllReadyH.nil)
      refine step_callW 18 #[.agg #[.slice fd k e, .slice gd l f]] (fun z v w' => Bk w' z YL YH ∧ Below v.heap.size v w') (by rfl) (by go_simp) ((HTR.out _ (BX.trans (hH.mono BX.size))).mono fun e w' ⟨a, h1, h2, h3⟩ => ⟨_, h1, h2, h3⟩) ?_
      rintro zr wr ⟨Pr, B8⟩
      replace PY := PY.next B8
      simp only [Act.put, List.setIfInBounds_toArray, List.set_cons_zero, List.set_cons_succ]
      refine hK.out _ _ (hH.trans (B8.mono hH.size)) (fun hH' => ?_)
      clear hK K
      replace hH := hH'
      clear hH' 
      clear B8
      refine wpAnyH_ready (rs := [3]) (by kernel_rfl) (by simp) ?_
      refine (AllReadyH.cons (o := { dst := some 65, op := Op.call { callee := Callee.value (Operand.func 20), args := #[Operand.tmp 62, Operand.tmp 64], argTypes := #[35, 35] }, type := 4, pos := "exact.go:5539", after := #[{ on := 0, ground := Ground.data }, { on := 2, ground := Ground.data }, { on := 2, ground := Ground.chain }], guard := none }) rfl (fun K hK => ?_) AllReadyH.nil)
      refine step_callW 20 #[.agg #[.slice (some ⟨g6, 0, none⟩) k k, .slice (some ⟨k6, 0, none⟩) l l], zr] (fun z v w' => z = .bool true ∧ Below v.heap.size v w') (by rfl) (by go_simp) ((eqR _ _ YL YH _ PY Pr HL.out.2.2.1 HL.out.2.2.2).mono fun e w' ⟨h1, h2⟩ => ⟨_, h1, rfl, h2⟩) ?_
      rintro z9 w9 ⟨rfl, B9⟩
      simp only [Act.put, List.setIfInBounds_toArray, List.set_cons_zero, List.set_cons_succ]
      refine hK.out _ _ (hH.trans (B9.mono hH.size)) (fun hH' => ?_)
      clear hK K
      replace hH := hH'
      clear hH' 
      refine wpAnyH_take (i := 4) (oi := { dst := some 66, op := Op.unOp UnOp.not 4 (Operand.tmp 65), type := 4, pos := "exact.go:5539", after := #[{ on := 3, ground := Ground.data }], guard := none }) (v := .bool false) rfl (by kernel_rfl) (by kernel_rfl) (by kernel_rfl) (fun _ _ _ h => h) (Or.inl ⟨by rfl, fun w0 hSw => by (go_simp)⟩) hH ?_
      simp only [Act.put, List.setIfInBounds_toArray, List.set_cons_zero, List.set_cons_succ]
      refine wpAnyH_done (by kernel_rfl) ?_ _
      go_wp2
      go_ret
      exact ⟨rfl, BX.trans (hH.mono BX.size)⟩

set_option maxRecDepth 100000 in
theorem lifted (os : Os) (started : os.Started) (H : Type) (enc : TypeId × Value → H) :
    ReturnsInHanded {} Try.checked os 5 .any (Rows.fnExactHitBlockSpec.pre6 enc Try.prog Try.f5 Rows.fnExactHitBlockRow.domain false) (Rows.fnExactHitBlockSpec.post enc Try.prog Try.f5 false true false false) := by
  refine returnsInHanded_of_change (C := Try.checked) own started (by kernel_rfl) Try.func5
    (ChangeSpec.witness6 (enc := enc) (C := Try.checked) false ⟨#[], #[.agg #[.slice none 0 0, .slice none 0 0], .agg #[.slice none 0 0, .slice none 0 0]], []⟩ 8 (by kernel_rfl) (by kernel_rfl) (by kernel_rfl) (by kernel_rfl)) ?_
  intro W base args ds gs before hval0 hW hcnd _
  have hval : ∀ (j : Nat) t v, Try.f5.params[j]? = some t → args[j]? = some v → Value.okWide Try.prog W .any base t v := hval0
  have hW' := hW
  obtain ⟨p, q, hA0, hV, rfl, hfz, hnd⟩ := hW
  have hA : DataW.TrodAll enc Try.prog W 0 (fun _ => true) true Try.f5.params.toList args.toList ds p := hA0
  rw [Try.params5] at hA hval
  obtain ⟨v0, vs0, d0, ds0, p0, q0, hargs, rfl, rfl, h0, r0⟩ := trodAll_cons hA
  obtain ⟨v1, vs1, d1, ds1, p1, q1, rfl, rfl, rfl, h1, r1⟩ := trodAll_cons r0
  obtain ⟨rfl, rfl, rfl⟩ := trodAll_nil r1
  obtain rfl : args = #[v0, v1] := by cases args; simp_all
  obtain ⟨rfl, rfl⟩ := trodVars_none hV
  simp only [List.append_nil] at hW'
  have k0 := h0
  have lt0 : ∀ x ∈ p0, x.block < W.heap.size := fun x hx => by have := hW'.lt x (by simp [hx]); simpa using this
  obtain ⟨bu, bv, BL, BH, rfl, bU, bV, bl, bh⟩ := view2 Try.underlying24 (by kernel_rfl) rfl rfl (by kernel_rfl) (by kernel_rfl) Try.underlying22 Try.underlying22 Try.underlying3 (by kernel_rfl) (hval 0 24 v0 rfl rfl) h0
  have arg0 : ∀ (W' : World), Below W.heap.size W W' → DataW.Trod enc Try.prog W' 0 (fun b => decide (b < W.heap.size)) true 24 (.agg #[bu, bv]) d0 p0 := fun W' hn => Below.trod laidOut (by kernel_rfl) (of_decide_eq_true (by kernel_rfl)) k0 hn lt0
  have k1 := h1
  have lt1 : ∀ x ∈ p1, x.block < W.heap.size := fun x hx => by have := hW'.lt x (by simp [hx]); simpa using this
  obtain ⟨yu, yv, YL, YH, rfl, yU, yV, yl, yh⟩ := view2 Try.underlying32 (by kernel_rfl) rfl rfl (by kernel_rfl) (by kernel_rfl) Try.underlying22 Try.underlying22 Try.underlying3 (by kernel_rfl) (hval 1 32 v1 rfl rfl) h1
  have arg1 : ∀ (W' : World), Below W.heap.size W W' → DataW.Trod enc Try.prog W' 0 (fun b => decide (b < W.heap.size)) true 32 (.agg #[yu, yv]) d1 p1 := fun W' hn => Below.trod laidOut (by kernel_rfl) (of_decide_eq_true (by kernel_rfl)) k1 hn lt1
  clear hA0 hval0
  refine (walk W bu bv BL BH bU bV bl bh yu yv YL YH yU yV yl yh).mono fun e W' ⟨he, hg⟩ => ?_
  subst he
  refine ⟨_, rfl, _, _, _, [], p0 ++ (p1 ++ []), [], hW', (trodAll_cons_mk (shut_bool Try.underlying4 _) trodAll_mk0), (trodAll_cons_mk (arg0 _ hg) (trodAll_cons_mk (arg1 _ hg) trodAll_mk0)), rfl, hg.frame _, fun h => by cases h⟩
theorem over : Rows.fnExactHitBlockRow.holds Try.pinned (OpenSpec.ofChange Rows.fnExactHitBlockSpec) :=
  OpenClaim.holds_of_wide 5 Try.f5 rfl rfl rfl rfl rfl rfl rfl ⟨rfl, rfl, rfl, rfl, rfl⟩ rfl rfl rfl rfl rfl (by kernel_rfl) Try.func5 (by kernel_rfl)
    (of_decide_eq_true (by kernel_rfl)) (by unfold Func.isWrapper; first | (rw [if_pos (by decide +kernel)]; kernel_rfl) | (rw [if_neg (by decide +kernel)]; exact ⟨rfl, rfl⟩))
    (fun os started H enc _ => lifted os started H enc)
end Go.Proofs.Ytngmaeinehfimaa.fnExactHitBlock
namespace Go.Proofs.Ytngmaeinehfimaa
theorem hitBlock : Rows.FnExactHitBlockSaid := fnExactHitBlock.over
#print axioms hitBlock
end Go.Proofs.Ytngmaeinehfimaa
