/- AllHits answers as its model at every row of blocks and every ray; it writes into none of them, and its answer owns its memory. No conditions. -/
import Derived.Test.YtngmaeinehfimaaRows
import Derived.Test.YtngmaeinehfimaaMn
namespace Go.Proofs.Ytngmaeinehfimaa.fnExactAllHits
open Go.ChangeShapes Go.WideShapes Go.ChangeAt Go.RowKit
set_option linter.unusedVariables false
theorem own : ownKnob Try.prog.godebug = none := by kernel_rfl
theorem laidOut : laidOutB Try.prog = true := by kernel_rfl

set_option maxRecDepth 100000 in
set_option maxHeartbeats 8000000 in
theorem walk (w : World) (ad : Option Addr) (c : Nat) (BT : List TB) (bU : BRow w (.slice ad BT.length c) BT) (bl : BT.length ≤ 9223372036854775807) (bx : ∀ i, i < BT.length → (tb BT i).1.length ≤ 9223372036854775807 ∧ (tb BT i).2.length ≤ 9223372036854775807) (yu yv : Value) (YL YH : List Int) (yU : ARow w yu YL) (yV : ARow w yv YH) (yl : YL.length ≤ 9223372036854775807) (yh : YH.length ≤ 9223372036854775807) :
    Calls Try.prog 10 #[.slice ad BT.length c, .agg #[yu, yv]] w fun e w' => e = .returned (.bool true) ∧ Below w.heap.size w w' := by
  have HS1 := Hid.mk (szBS (.slice ad BT.length c) BT (w.alloc (.cells #[yu, yv] 32)) (bU.next alloc_b) bl bx)
  have HSR : Hid (∀ w' (z : Int), Below w.heap.size w w' → 0 ≤ z → z ≤ 1048576 → Calls Try.prog 16 #[.agg #[yu, yv], .int .i64 z] w' fun r w'' => (∃ x : Int, r = .returned (.int .i64 x) ∧ (x < 0 ∨ 0 ≤ x ∧ x ≤ z ∧ (YL.length : Int) + (YH.length : Int) + x ≤ z)) ∧ Below w'.heap.size w' w'') := fun w' z b z0 z1 => szR yu yv YL YH w' (yU.next b) (yV.next b) yl yh z z0 z1
  have HTB0 : Hid (ShB BT → ∀ w', Below w.heap.size w w' → Calls Try.prog 25 #[.slice ad BT.length c] w' fun r w'' => ∃ a, r = .returned a ∧ Bks w'.heap.size w'' a BT ∧ Below w'.heap.size w' w'') := fun hs w' b => (toBS _ BT w' (bU.next b) hs.1 hs.2).mono fun e w2 ⟨⟨a, h1, h2⟩, h3⟩ => ⟨a, h1, h2, h3⟩
  have HTR0 : Hid (YL.length ≤ 1048576 ∧ YH.length ≤ 1048576 → ∀ w', Below w.heap.size w w' → Calls Try.prog 18 #[.agg #[yu, yv]] w' fun r w'' => ∃ a, r = .returned a ∧ Bk w'' a YL YH ∧ Below w'.heap.size w' w'') := fun h w' b => toR yu yv YL YH w' (yU.next b) (yV.next b) h.1 h.2
  have HTB20 : Hid (YL.length ≤ 1048576 ∧ YH.length ≤ 1048576 → ∀ w', Below w.heap.size w w' → Calls Try.prog 18 #[.agg #[yu, yv]] w' fun r w'' => ∃ a, r = .returned a ∧ BkR w'.heap.size w''.heap.size w'' a YL YH ∧ Below w'.heap.size w' w'') := fun h w' b => toRb yu yv YL YH w' (yU.next b) (yV.next b) h.1 h.2
  have HEB0 : Hid (ShB BT → ∀ (w' : World) (A B : Nat) (a b : Value), Bks A w' a BT → Bks B w' b BT → Calls Try.prog 28 #[a, b] w' fun e w'' => e = .returned (.bool true) ∧ Below w'.heap.size w' w'') := fun hs w' A B a b h1 h2 => eqBS a b BT w' h1 h2 hs.1 hs.2
  have HER0 : Hid (YL.length ≤ 1048576 ∧ YH.length ≤ 1048576 → ∀ (w' : World) (a b : Value), Bk w' a YL YH → Bk w' b YL YH → Calls Try.prog 20 #[a, b] w' fun e w'' => e = .returned (.bool true) ∧ Below w'.heap.size w' w'') := fun h w' a b h1 h2 => eqR a b YL YH w' h1 h2 h.1 h.2
  have HM0 : Hid (ShB BT → YL.length ≤ 1048576 ∧ YH.length ≤ 1048576 → ∀ (w' : World) (B : Nat) (a b : Value), Bks B w' a BT → Bk w' b YL YH → Calls Try.prog 41 #[a, b] w' fun e w'' => ∃ r, e = .returned (.tuple #[r, .bool (absB BT && grB YL YH)]) ∧ HV w'.heap.size w'' r (alH BT YL YH) ∧ Below w'.heap.size w' w'') := fun hs hy w' B a b k1 k2 => by obtain ⟨u, v, rfl, X, Y⟩ := k2.rows; exact mallh a u v BT YL YH w' k1.brow X Y (Nat.le_trans hs.1 (by decide)) (fun i hi => ⟨Nat.le_trans (hs.2 i hi).1 (by decide), Nat.le_trans (hs.2 i hi).2 (by decide)⟩) (Nat.le_trans hy.1 (by decide)) (Nat.le_trans hy.2 (by decide))
  have HP0 : Hid (ShB BT → YL.length ≤ 1048576 ∧ YH.length ≤ 1048576 → ∀ (w' : World) (B : Nat) (a b : Value), Bks B w' a BT → Bk w' b YL YH → Calls Try.prog 42 #[a, b] w' fun e w'' => ∃ r, e = .returned (.tuple #[r, .bool (absB BT && grB YL YH)]) ∧ HV w'.heap.size w'' r (alH BT YL YH) ∧ Below w'.heap.size w' w'') := fun hs hy w' B a b k1 k2 => by obtain ⟨u, v, rfl, X, Y⟩ := k2.rows; exact pallh a u v BT YL YH w' k1.brow X Y (Nat.le_trans hs.1 (by decide)) (fun i hi => ⟨Nat.le_trans (hs.2 i hi).1 (by decide), Nat.le_trans (hs.2 i hi).2 (by decide)⟩) (Nat.le_trans hy.1 (by decide)) (Nat.le_trans hy.2 (by decide))
  have HLL : Hid ((alH BT YL YH).length ≤ 1048576) := Nat.le_trans (alH_len BT YL YH) (by decide)
  generalize alH BT YL YH = M at HM0 HP0 HLL
  generalize (absB BT && grB YL YH) = rb at HM0 HP0
  obtain ⟨fd, e, rfl, -⟩ := yU
  obtain ⟨gd, f, rfl, -⟩ := yV
  have HSB : Hid (∀ x, SzB BT BT.length x → ¬ x < 0 → ShB BT ∧ 0 ≤ x ∧ x ≤ 1048576) := fun x h h0 => szb_of h h0
  obtain ⟨n, hn⟩ : ∃ n, BT.length = n := ⟨_, rfl⟩
  obtain ⟨k, hk⟩ : ∃ k, YL.length = k := ⟨_, rfl⟩
  obtain ⟨l, hl⟩ : ∃ l, YH.length = l := ⟨_, rfl⟩
  have HN : Hid (YL.length = k ∧ YH.length = l) := ⟨hk, hl⟩
  rw [hn] at HS1 HTB0 HSB ⊢
  rw [hk] at HS1 HSR HTR0 HTB20 HER0 HM0 HP0 ⊢
  rw [hl] at HS1 HSR HTR0 HTB20 HER0 HM0 HP0 ⊢
  clear hn hk hl bl bx bU yl yh
  obtain ⟨W1, hW1⟩ : ∃ W1, w.alloc (.cells #[.slice fd k e, .slice gd l f] 32) = W1 := ⟨_, rfl⟩
  have BW : Below w.heap.size w W1 := by rw [← hW1]; exact alloc_b
  have CY : C2 W1 w.heap.size (.slice fd k e) (.slice gd l f) := by rw [← hW1]; exact C2.new w _ _ _
  rw [hW1] at HS1
  go_enter Try.func10, Try.ntmps10
  go_upto_region 5 with (go_at_call 23; refine HS1.out.mono ?_; rintro e1 w2 ⟨⟨x, rfl, hx⟩, B2⟩; (have CY2 := CY.next B2); (have p0 := CY2.c0); (have p1 := CY2.c1))
  · go_ret
    exact ⟨rfl, BW.trans (B2.mono BW.size)⟩
  have hx0 : ¬ x < 0 := by omega
  obtain ⟨hsb, x0, x1⟩ := HSB.out x hx (by omega)
  have HSBB := Hid.mk hsb
  have B02 := BW.trans (B2.mono BW.size)
  clear hx hsb HSB HS1 hW1 CY BW
  go_upto_region 8 with (go_at_call 16; refine (HSR.out _ x B02 x0 x1).mono ?_; rintro e1 w3 ⟨⟨y, rfl, hy⟩, B3⟩; (have CY := CY2.next B3))
  · go_ret
    exact ⟨rfl, B02.trans (B3.mono B02.size)⟩
  have hkl : k ≤ 1048576 ∧ l ≤ 1048576 := by rcases hy with h | ⟨h1, h2, h3⟩; omega; omega
  have HTB := Hid.mk (HTB0.out HSBB.out)
  have HTR := Hid.mk (HTR0.out hkl)
  have HEB := Hid.mk (HEB0.out HSBB.out)
  have HER := Hid.mk (HER0.out hkl)
  have HM := Hid.mk (HM0.out HSBB.out hkl)
  have HP := Hid.mk (HP0.out HSBB.out hkl)
  have BX : Below w.heap.size w w3 := B02.trans (B3.mono B02.size)
  have HKL := Hid.mk hkl
  have HTB2 : Hid (∀ w', Below w.heap.size w w' → Calls Try.prog 18 #[.agg #[.slice fd k e, .slice gd l f]] w' fun r w'' => ∃ a, r = .returned a ∧ BkR w'.heap.size w''.heap.size w'' a YL YH ∧ Below w'.heap.size w' w'') := HTB20.out hkl
  clear HTB20
  clear hy hkl x0 x1 B2 B3 B02 HSR HTB0 HTR0 HEB0 HER0 HM0 HP0 CY2 p0 p1 hx0
  go_cut [6, 7] (fun a b wx => HV 0 wx a M ∧ b = .bool rb ∧ Below w3.heap.size w3 wx)
  case first =>
    generalize hWW : w3.drew = WX
    have CY := CY.next (below_drew (Below.refl _ _))
    have BX := below_drew BX
    have BX2 : Below w3.heap.size w3 w3.drew := below_drew (Below.refl _ _)
    rw [hWW] at CY BX BX2
    refine wp_region_held_drew (S := fun v => Below WX.heap.size WX v) (by kernel_rfl) (by rw [hWW]; exact Below.refl _ _) (fun hH => ?_)
    rw [hWW] at hH ⊢
    clear hWW
    refine wpAnyH_take (i := 0) (oi := { dst := some 28, op := Op.move (Operand.tmp 0), type := 42, pos := "exact.go:5691", after := #[], guard := none }) (v := .slice ad n c) rfl (by kernel_rfl) (by kernel_rfl) (by kernel_rfl) (fun _ _ _ h => h) (Or.inl ⟨by rfl, fun w0 hSw => by (go_simp)⟩) hH ?_
    simp only [Act.put, List.setIfInBounds_toArray, List.set_cons_zero, List.set_cons_succ]
    refine wpAnyH_take (i := 2) (oi := { dst := some 30, op := Op.load 32 (Operand.tmp 3), type := 32, pos := "exact.go:5691", after := #[], guard := none }) (v := .agg #[.slice fd k e, .slice gd l f]) rfl (by kernel_rfl) (by kernel_rfl) (by kernel_rfl) (fun _ _ _ h => h) (Or.inl ⟨by rfl, fun w0 hSw => by ((have e0 := cell_nx CY.c0 hSw); (have e1 := cell_nx CY.c1 hSw); go_simp)⟩) hH ?_
    simp only [Act.put, List.setIfInBounds_toArray, List.set_cons_zero, List.set_cons_succ]
    refine wpAnyH_ready (rs := [1]) (by kernel_rfl) (by simp) ?_
    refine (AllReadyH.cons (o := { dst := some 29, op := Op.call { callee := Callee.value (Operand.func 25), args := #[Operand.tmp 28], argTypes := #[42] }, type := 48, pos := "exact.go:5691", after := #[{ on := 0, ground := Ground.data }], guard := none }) rfl (fun K hK => ?_) AllReadyH.nil)
    refine step_callW 25 #[.slice ad n c] (fun z v w' => Bks v.heap.size w' z BT ∧ Below v.heap.size v w') (by rfl) (by go_simp) ((HTB.out _ (BX.trans (hH.mono BX.size))).mono fun e w' h => by first | (obtain ⟨a, h1, h2, h3⟩ := h; exact ⟨_, h1, h2, h3⟩) | (obtain ⟨h1, h3⟩ := h; exact ⟨_, h1, rfl, h3⟩)) ?_
    rintro zb w9 ⟨Pb, B9⟩
    simp only [Act.put, List.setIfInBounds_toArray, List.set_cons_zero, List.set_cons_succ]
    refine hK.out _ _ (hH.trans (B9.mono hH.size)) (fun hH' => ?_)
    clear hK K
    replace hH := hH'
    clear hH' 
    clear B9
    refine wpAnyH_ready (rs := [3]) (by kernel_rfl) (by simp) ?_
    refine (AllReadyH.cons (o := { dst := some 31, op := Op.call { callee := Callee.value (Operand.func 18), args := #[Operand.tmp 30], argTypes := #[32] }, type := 35, pos := "exact.go:5691", after := #[{ on := 2, ground := Ground.data }, { on := 1, ground := Ground.chain }], guard := none }) rfl (fun K hK => ?_) AllReadyH.nil)
    refine step_callW 18 #[.agg #[.slice fd k e, .slice gd l f]] (fun z v w' => Bk w' z YL YH ∧ Below v.heap.size v w') (by rfl) (by go_simp) ((HTR.out _ (BX.trans (hH.mono BX.size))).mono fun e w' h => by first | (obtain ⟨a, h1, h2, h3⟩ := h; exact ⟨_, h1, h2, h3⟩) | (obtain ⟨h1, h3⟩ := h; exact ⟨_, h1, rfl, h3⟩)) ?_
    rintro zr w9 ⟨Pr, B9⟩
    replace Pb := Pb.next B9
    simp only [Act.put, List.setIfInBounds_toArray, List.set_cons_zero, List.set_cons_succ]
    refine hK.out _ _ (hH.trans (B9.mono hH.size)) (fun hH' => ?_)
    clear hK K
    replace hH := hH'
    clear hH' 
    clear B9
    refine wpAnyH_ready (rs := [4]) (by kernel_rfl) (by simp) ?_
    refine (AllReadyH.cons (o := { dst := some 32, op := Op.call { callee := Callee.value (Operand.func 41), args := #[Operand.tmp 29, Operand.tmp 31], argTypes := #[48, 35] }, type := 69, pos := "exact.go:5691", after := #[{ on := 1, ground := Ground.data }, { on := 3, ground := Ground.data }, { on := 3, ground := Ground.chain }], guard := none }) rfl (fun K hK => ?_) AllReadyH.nil)
    refine step_callW 41 #[zb, zr] (fun z v w' => (∃ r, z = .tuple #[r, .bool rb] ∧ HV v.heap.size w' r M) ∧ Below v.heap.size v w') (by rfl) (by go_simp) ((HM.out _ _ _ _ Pb Pr).mono fun e w' ⟨r, h1, h2, h3⟩ => ⟨_, h1, ⟨r, rfl, h2⟩, h3⟩) ?_
    rintro z9 w9 ⟨⟨r0, rfl, Q0⟩, B9⟩
    simp only [Act.put, List.setIfInBounds_toArray, List.set_cons_zero, List.set_cons_succ]
    refine hK.out _ _ (hH.trans (B9.mono hH.size)) (fun hH' => ?_)
    clear hK K
    replace hH := hH'
    clear hH' 
    clear B9 Pb Pr
    refine wpAnyH_take (i := 5) (oi := { dst := some 27, op := Op.move (Operand.tmp 32), type := 69, pos := "exact.go:5691", after := #[{ on := 4, ground := Ground.data }], guard := none }) (v := .tuple #[r0, .bool rb]) rfl (by kernel_rfl) (by kernel_rfl) (by kernel_rfl) (fun _ _ _ h => h) (Or.inl ⟨by rfl, fun w0 hSw => by (go_simp)⟩) hH ?_
    simp only [Act.put, List.setIfInBounds_toArray, List.set_cons_zero, List.set_cons_succ]
    refine wpAnyH_take (i := 6) (oi := { dst := some 33, op := Op.extract (Operand.tmp 27) 0, type := 68, pos := "exact.go:5691", after := #[{ on := 5, ground := Ground.data }], guard := none }) (v := r0) rfl (by kernel_rfl) (by kernel_rfl) (by kernel_rfl) (fun _ _ _ h => h) (Or.inl ⟨by rfl, fun w0 hSw => by (go_simp)⟩) hH ?_
    simp only [Act.put, List.setIfInBounds_toArray, List.set_cons_zero, List.set_cons_succ]
    refine wpAnyH_take (i := 7) (oi := { dst := some 34, op := Op.extract (Operand.tmp 27) 1, type := 4, pos := "exact.go:5691", after := #[{ on := 5, ground := Ground.data }, { on := 8, ground := Ground.gcOnly Departure.lateStores }], guard := none }) (v := .bool rb) rfl (by kernel_rfl) (by kernel_rfl) (by kernel_rfl) (fun _ _ _ h => h) (Or.inl ⟨by rfl, fun w0 hSw => by (go_simp)⟩) hH ?_
    simp only [Act.put, List.setIfInBounds_toArray, List.set_cons_zero, List.set_cons_succ]
    refine wpAnyH_take (i := 8) (oi := { dst := some 6, op := Op.assign (Operand.tmp 33), type := 68, pos := "exact.go:5691", after := #[{ on := 6, ground := Ground.data }, { on := 4, ground := Ground.chain }, { on := 0, ground := Ground.phase }, { on := 1, ground := Ground.phase }, { on := 2, ground := Ground.phase }, { on := 3, ground := Ground.phase }, { on := 4, ground := Ground.phase }, { on := 5, ground := Ground.phase }, { on := 6, ground := Ground.phase }, { on := 7, ground := Ground.textOnly Departure.lateStores }], guard := none }) (v := r0) rfl (by kernel_rfl) (by kernel_rfl) (by kernel_rfl) (fun _ _ _ h => h) (Or.inl ⟨by rfl, fun w0 hSw => by (go_simp)⟩) hH ?_
    simp only [Act.put, List.setIfInBounds_toArray, List.set_cons_zero, List.set_cons_succ]
    refine wpAnyH_take (i := 9) (oi := { dst := some 7, op := Op.assign (Operand.tmp 34), type := 4, pos := "exact.go:5691", after := #[{ on := 7, ground := Ground.data }, { on := 8, ground := Ground.chain }, { on := 0, ground := Ground.phase }, { on := 1, ground := Ground.phase }, { on := 2, ground := Ground.phase }, { on := 3, ground := Ground.phase }, { on := 4, ground := Ground.phase }, { on := 5, ground := Ground.phase }, { on := 6, ground := Ground.phase }, { on := 7, ground := Ground.phase }, { on := 8, ground := Ground.phase }], guard := none }) (v := .bool rb) rfl (by kernel_rfl) (by kernel_rfl) (by kernel_rfl) (fun _ _ _ h => h) (Or.inl ⟨by rfl, fun w0 hSw => by (go_simp)⟩) hH ?_
    simp only [Act.put, List.setIfInBounds_toArray, List.set_cons_zero, List.set_cons_succ]
    refine wpAnyH_done (by kernel_rfl) ?_ _
    go_wp2_with fail
    go_meet
    case rel => exact ⟨Q0.low (Nat.zero_le _), rfl, BX2.trans (hH.mono BX2.size)⟩
  case rest =>
    obtain ⟨V0, rfl, B4⟩ := hcut
    have BX := BX.trans (B4.mono BX.size)
    have HLO0 : Hid (w.heap.size < wc.heap.size) := (CY.next B4).hi
    have CY := CY.next B4
    clear B4 HM
    generalize hwc : wc = w4 at *
    clear hwc
    have LV : Hid (∀ g, u6.ownBlock = some g → g < w4.heap.size) := fun g hg => (V0.2 g hg).2
    cases rb
    · go_upto_region 16 with (first
  | (go_at_call 25; refine (HTB.out _ BX).mono ?_; rintro e1 w5 ⟨a5, rfl, P5, B5⟩; (have P5 := P5.bound); (have BX5 := BX.trans (B5.mono BX.size)); (have CY5 := CY.next B5); (have V5 := V0.next B5); (have p0 := CY5.c0); (have p1 := CY5.c1); (have hs5 := B5.size); clear CY V0 B5 BX)
  | (go_at_call 18; refine (HTB2.out _ BX5).mono ?_; rintro e1 w6 ⟨a6, rfl, P6, B6⟩; (obtain ⟨g6, k6, e6, o1, o2, h6⟩ := P6); rw [HN.out.1, HN.out.2] at e6; subst e6; (have P6 : BkR w5.heap.size w6.heap.size w6 (.agg #[.slice (some ⟨g6, 0, none⟩) k k, .slice (some ⟨k6, 0, none⟩) l l]) YL YH := ⟨g6, k6, by rw [HN.out.1, HN.out.2], o1, o2, h6⟩); (obtain ⟨W7, hW7⟩ : ∃ W7, w6.alloc (.cells #[.slice (some ⟨g6, 0, none⟩) k k, .slice (some ⟨k6, 0, none⟩) l l] 35) = W7 := ⟨_, rfl⟩); (have B7 : Below w6.heap.size w6 W7 := by rw [← hW7]; exact alloc_b); (have hs7 : W7.heap.size = w6.heap.size + 1 := by rw [← hW7]; simp); (have B7' := B6.trans (B7.mono B6.size)); (have DY : C2 W7 w6.heap.size (.slice (some ⟨g6, 0, none⟩) k k) (.slice (some ⟨k6, 0, none⟩) l l) := by rw [← hW7]; exact C2.new w6 _ _ _); (have P5 := P5.next B7'); (have P6 := P6.next B7); (have CY7 := CY5.next B7'); (have V7 := V5.next B7'); (have BX7 := BX5.trans (B7'.mono BX5.size)); (have hs6 := B6.size); clear p0 p1 CY5 V5 B6 B7 B7' o1 o2 h6 BX5; (have d0 := DY.c0); (have d1 := DY.c1))
  | (go_at_call 42; refine (HP.out _ _ _ _ P5.bks P6.bk).mono ?_; rintro e1 w8 ⟨r1, rfl, G8, B8⟩; (have P5 := P5.next B8); (have P6 := P6.next B8); (have CY8 := CY7.next B8); (have V8 := V7.next B8); (have DY8 := DY.next B8); (have BX8 := BX7.trans (B8.mono BX7.size)); (have LG : Hid (∀ g, r1.ownBlock = some g → w6.heap.size < g) := fun g hg => by have h1 := (G8.2 g hg).1; omega); clear d0 d1 CY7 V7 DY B8 BX7)
  | (go_at_call 43; refine (eqRowHV G8.1 V8.1 HLL.out).mono ?_; rintro e1 w10 ⟨rfl, B10⟩; (have P5 := P5.next B10); (have P6 := P6.next B10); (have CY10 := CY8.next B10); (have DY10 := DY8.next B10); (have V10 := V8.next B10); (have G10 := G8.next B10); (have BX10 := BX8.trans (B10.mono BX8.size)); clear CY8 DY8 V8 G8 B10 BX8)
  | (go_at_call 25; refine (HTB.out _ BX10).mono ?_; rintro e1 w11 ⟨a11, rfl, P11, B11⟩; (have P5 := P5.next B11); (have P6 := P6.next B11); (have CY11 := CY10.next B11); (have DY11 := DY10.next B11); (have V11 := V10.next B11); (have G11 := G10.next B11); (have BX11 := BX10.trans (B11.mono BX10.size)); clear CY10 DY10 V10 G10 B11 BX10)
  | (go_at_call 28; refine (HEB.out _ _ _ _ _ P5.bks P11).mono ?_; rintro e1 w12 ⟨rfl, B12⟩; (have P5 := P5.next B12); (have PY := P6.next B12); (have CY := CY11.next B12); (have DY := DY11.next B12); (have V0 := V11.next B12); (have G0 := G11.next B12); (have BX := BX11.trans (B12.mono BX11.size)); clear CY11 DY11 V11 G11 P6 P11 B12 BX11))
      have HLO : Hid (w.heap.size < w4.heap.size) := HLO0
      have HLM : Hid (w4.heap.size ≤ w5.heap.size ∧ w5.heap.size ≤ w6.heap.size) := ⟨hs5, hs6⟩
      clear HLO0 hs5 hs6 hs7
      generalize w4.heap.size = lo at P5 LV HLO HLM
      generalize w5.heap.size = mid at P5 PY HLM
      generalize w6.heap.size = hi at PY DY LG HLM ⊢
      generalize hWW : w12.drew = WX
      have CY := CY.next (below_drew (Below.refl _ _))
      have DY := DY.next (below_drew (Below.refl _ _))
      have PY := PY.next (below_drew (Below.refl _ _))
      have V0 := V0.next (below_drew (Below.refl _ _))
      have G0 := G0.next (below_drew (Below.refl _ _))
      have P5 := P5.next (below_drew (Below.refl _ _))
      have BX := below_drew BX
      have BX2 : Below w12.heap.size w12 w12.drew := below_drew (Below.refl _ _)
      rw [hWW] at CY DY PY V0 G0 P5 BX BX2
      refine wp_region_held_drew (S := fun v => Below WX.heap.size WX v) (by kernel_rfl) (by rw [hWW]; exact Below.refl _ _) (fun hH => ?_)
      rw [hWW] at hH ⊢
      clear hWW
      refine wpAnyH_take (i := 0) (oi := { dst := some 59, op := Op.load 35 (Operand.tmp 9), type := 35, pos := "exact.go:5701", after := #[], guard := none }) (v := .agg #[.slice (some ⟨g6, 0, none⟩) k k, .slice (some ⟨k6, 0, none⟩) l l]) rfl (by kernel_rfl) (by kernel_rfl) (by kernel_rfl) (fun _ _ _ h => h) (Or.inl ⟨by rfl, fun w0 hSw => by ((have e0 := cell_nx DY.c0 hSw); (have e1 := cell_nx DY.c1 hSw); go_simp)⟩) hH ?_
      simp only [Act.put, List.setIfInBounds_toArray, List.set_cons_zero, List.set_cons_succ]
      refine wpAnyH_take (i := 1) (oi := { dst := some 60, op := Op.load 32 (Operand.tmp 3), type := 32, pos := "exact.go:5701", after := #[], guard := none }) (v := .agg #[.slice fd k e, .slice gd l f]) rfl (by kernel_rfl) (by kernel_rfl) (by kernel_rfl) (fun _ _ _ h => h) (Or.inl ⟨by rfl, fun w0 hSw => by ((have e0 := cell_nx CY.c0 hSw); (have e1 := cell_nx CY.c1 hSw); go_simp)⟩) hH ?_
      simp only [Act.put, List.setIfInBounds_toArray, List.set_cons_zero, List.set_cons_succ]
      refine wpAnyH_ready (rs := [2]) (by kernel_rfl) (by simp) ?_
      refine (AllReadyH.cons (o := { dst := some 61, op := Op.call { callee := Callee.value (Operand.func 18), args := #[Operand.tmp 60], argTypes := #[32] }, type := 35, pos := "exact.go:5701", after := #[{ on := 1, ground := Ground.data }], guard := none }) rfl (fun K hK => ?_) AllReadyH.nil)
      refine step_callW 18 #[.agg #[.slice fd k e, .slice gd l f]] (fun z v w' => Bk w' z YL YH ∧ Below v.heap.size v w') (by rfl) (by go_simp) ((HTR.out _ (BX.trans (hH.mono BX.size))).mono fun e w' h => by first | (obtain ⟨a, h1, h2, h3⟩ := h; exact ⟨_, h1, h2, h3⟩) | (obtain ⟨h1, h3⟩ := h; exact ⟨_, h1, rfl, h3⟩)) ?_
      rintro zr w9 ⟨Pr, B9⟩
      simp only [Act.put, List.setIfInBounds_toArray, List.set_cons_zero, List.set_cons_succ]
      refine hK.out _ _ (hH.trans (B9.mono hH.size)) (fun hH' => ?_)
      clear hK K
      replace hH := hH'
      clear hH' 
      clear B9
      refine wpAnyH_ready (rs := [3]) (by kernel_rfl) (by simp) ?_
      refine (AllReadyH.cons (o := { dst := some 62, op := Op.call { callee := Callee.value (Operand.func 20), args := #[Operand.tmp 59, Operand.tmp 61], argTypes := #[35, 35] }, type := 4, pos := "exact.go:5701", after := #[{ on := 0, ground := Ground.data }, { on := 2, ground := Ground.data }, { on := 2, ground := Ground.chain }], guard := none }) rfl (fun K hK => ?_) AllReadyH.nil)
      refine step_callW 20 #[.agg #[.slice (some ⟨g6, 0, none⟩) k k, .slice (some ⟨k6, 0, none⟩) l l], zr] (fun z v w' => z = .bool true ∧ Below v.heap.size v w') (by rfl) (by go_simp) ((HER.out _ _ _ (PY.next hH).bk Pr).mono fun e w' h => by first | (obtain ⟨a, h1, h2, h3⟩ := h; exact ⟨_, h1, h2, h3⟩) | (obtain ⟨h1, h3⟩ := h; exact ⟨_, h1, rfl, h3⟩)) ?_
      rintro z9 w9 ⟨rfl, B9⟩
      replace Pr := Pr.next B9
      simp only [Act.put, List.setIfInBounds_toArray, List.set_cons_zero, List.set_cons_succ]
      refine hK.out _ _ (hH.trans (B9.mono hH.size)) (fun hH' => ?_)
      clear hK K
      replace hH := hH'
      clear hH' 
      clear B9
      refine wpAnyH_take (i := 4) (oi := { dst := some 63, op := Op.unOp UnOp.not 4 (Operand.tmp 62), type := 4, pos := "exact.go:5701", after := #[{ on := 3, ground := Ground.data }], guard := none }) (v := .bool false) rfl (by kernel_rfl) (by kernel_rfl) (by kernel_rfl) (fun _ _ _ h => h) (Or.inl ⟨by rfl, fun w0 hSw => by (go_simp)⟩) hH ?_
      simp only [Act.put, List.setIfInBounds_toArray, List.set_cons_zero, List.set_cons_succ]
      refine wpAnyH_done (by kernel_rfl) ?_ _
      have HMB : Hid (∀ w', BkC lo mid w' a5 BT → Calls Try.prog 32 #[a5, .int .i64 1] w' fun r w'' => (∃ y : Int, r = .returned (.int .i64 y) ∧ 0 ≤ y ∧ y ≤ 500000000000000) ∧ Btw lo mid w' w'') := fun w' X => markBS a5 BT w' X HSBB.out
      have HMR : Hid (∀ w' y, BkR mid hi w' (.agg #[.slice (some ⟨g6, 0, none⟩) k k, .slice (some ⟨k6, 0, none⟩) l l]) YL YH → 0 ≤ y → y ≤ 500000000000000 → Calls Try.prog 44 #[.agg #[.slice (some ⟨g6, 0, none⟩) k k, .slice (some ⟨k6, 0, none⟩) l l], .int .i64 y] w' fun r w'' => (∃ y : Int, r = .returned (.int .i64 y) ∧ 0 ≤ y) ∧ Btw mid hi w' w'') := fun w' y X y0 y1 => markR _ YL YH y w' X (by rw [HN.out.1]; exact HKL.out.1) (by rw [HN.out.2]; exact HKL.out.2) y0 y1
      obtain ⟨sy, hsy⟩ : ∃ sy : Int, ((1 + 3 * M.length : Nat) : Int) = sy := ⟨_, rfl⟩
      have hs0 : ¬ sy < 0 := by omega
      have HSY : Hid (((1 + 3 * M.length : Nat) : Int) = sy) := hsy
      have HHD : Hid (∀ z, RowHV z r1 M.length mkH0 mkH1 mkH2 → Calls Try.prog 46 #[r1, .int .i64 1] z fun r w' => r = .returned (.int .i64 sy) ∧ Below z.heap.size z w') := fun z R => by
        have h := heldHV R HLL.out
        rw [hsy] at h
        exact h
      have HNE : Hid (u6.ownBlock = none ∨ u6.ownBlock ≠ r1.ownBlock) := by
        cases hv : u6.ownBlock with
        | none => exact Or.inl rfl
        | some g => exact Or.inr (fun e => by have h1 := LV.out g hv; have h2 := LG.out g e.symm; have h3 := HLM.out; omega)
      clear hsy
      have BX := BX.trans (hH.mono BX.size)
      have CY := CY.next hH
      have DY := DY.next hH
      have V0 := V0.next hH
      have G0 := G0.next hH
      have P5 := P5.next hH
      have P6 := PY.next hH
      clear PY
      clear hH
      go_upto_region 31 with (first
        | (go_at_call 32; (with_reducible show Calls Try.prog 32 _ w9 _); refine (HMB.out w9 P5).mono ?_; rintro e1 m1 ⟨⟨y1, rfl, hy0, hy1⟩, T1⟩; (have P6 := P6.btw T1 (Nat.le_refl _)); (have CY1 := CY.btw T1 (Or.inl HLO.out)); (have DY1 := DY.btw T1 (Or.inr HLM.out.2)); (have V1 := V0.btw T1 (fun g hg => Or.inl (LV.out g hg))); (have G1 := G0.btw T1 (fun g hg => Or.inr (Nat.le_of_lt (Nat.lt_of_le_of_lt HLM.out.2 (LG.out g hg))))); (have BX1 := BX.trans (T1.below' BX HLO.out)); (have d0 := DY1.c0); (have d1 := DY1.c1); clear CY DY V0 G0 P5 T1 BX)
        | (go_at_call 44; refine (HMR.out m1 y1 P6 hy0 hy1).mono ?_; rintro e1 m2 ⟨⟨y2, rfl, hy2⟩, T2⟩; (have hy3 : ¬ y2 < 0 := by omega); (have CY2 := CY1.btw T2 (Or.inl (Nat.lt_of_lt_of_le HLO.out HLM.out.1))); (have V2 := V1.btw T2 (fun g hg => Or.inl (Nat.lt_of_lt_of_le (LV.out g hg) HLM.out.1))); (have G2 := G1.btw T2 (fun g hg => Or.inr (Nat.le_of_lt (LG.out g hg)))); (have BX2 := BX1.trans (T2.below' BX1 (Nat.lt_of_lt_of_le HLO.out HLM.out.1))); clear d0 d1 CY1 DY1 V1 G1 P6 T2 BX1 hy0 hy1)
        | (go_at_call 43; (with_reducible show Calls Try.prog 43 _ m2 _); refine (eqRowHV G2.1 V2.1 HLL.out).mono ?_; rintro e1 m3 ⟨rfl, B3⟩; (have CY3 := CY2.next B3); (have V3 := V2.next B3); (have G3 := Hid.mk (G2.next B3)); (have BX3 := BX2.trans (B3.mono BX2.size)); (have hm1 := markHV G3.out.1 HLL.out); clear CY2 V2 G2 B3 BX2)
        | (go_at_call 45; (with_reducible show Calls Try.prog 45 _ m3 _); rw [HSY.out] at hm1; refine hm1.mono ?_; rintro e1 m4 ⟨rfl, R4, T4⟩; (have CY4 := CY3.grown T4 (fun e => by have h1 := LG.out _ e.symm; have h2 := HLO.out; have h3 := HLM.out; omega)); (have V4 : Hid (RowHV m4 u6 M.length (atH0 M) (atH1 M) (atH2 M)) := V3.1.grown T4 (HNE.out)); (have BX4 := below_grown BX3 BX3.size T4 (fun g hg => by have h1 := LG.out g hg; have h2 := HLO.out; have h3 := HLM.out; omega)); clear CY3 V3 G3 T4 BX3 hm1)
        | (go_at_call 46; (with_reducible show Calls Try.prog 46 _ m4 _); refine (HHD.out m4 R4).mono ?_; rintro e1 m5 ⟨rfl, B5⟩; (have CY := CY4.next B5); (have V0 : Hid (RowHV m5 u6 M.length (atH0 M) (atH1 M) (atH2 M)) := V4.out.next B5); (have R5 := R4.next B5); (have BX := BX4.trans (B5.mono BX4.size)); clear CY4 V4 R4 B5 BX4))
      clear HMB HMR HNE
      go_cut [15, 16] (fun a b wx => HV 0 wx a M ∧ b = .bool false ∧ Below m5.heap.size m5 wx)
      case first =>
        generalize hWW : m5.drew = WX
        have CY := CY.next (below_drew (Below.refl _ _))
        have BX := below_drew BX
        have BX2 : Below m5.heap.size m5 m5.drew := below_drew (Below.refl _ _)
        rw [hWW] at CY BX BX2
        refine wp_region_held_drew (S := fun v => Below WX.heap.size WX v) (by kernel_rfl) (by rw [hWW]; exact Below.refl _ _) (fun hH => ?_)
        rw [hWW] at hH ⊢
        clear hWW
        refine wpAnyH_take (i := 0) (oi := { dst := some 95, op := Op.move (Operand.tmp 0), type := 42, pos := "exact.go:5720", after := #[], guard := none }) (v := .slice ad n c) rfl (by kernel_rfl) (by kernel_rfl) (by kernel_rfl) (fun _ _ _ h => h) (Or.inl ⟨by rfl, fun w0 hSw => by (go_simp)⟩) hH ?_
        simp only [Act.put, List.setIfInBounds_toArray, List.set_cons_zero, List.set_cons_succ]
        refine wpAnyH_take (i := 2) (oi := { dst := some 97, op := Op.load 32 (Operand.tmp 3), type := 32, pos := "exact.go:5720", after := #[], guard := none }) (v := .agg #[.slice fd k e, .slice gd l f]) rfl (by kernel_rfl) (by kernel_rfl) (by kernel_rfl) (fun _ _ _ h => h) (Or.inl ⟨by rfl, fun w0 hSw => by ((have e0 := cell_nx CY.c0 hSw); (have e1 := cell_nx CY.c1 hSw); go_simp)⟩) hH ?_
        simp only [Act.put, List.setIfInBounds_toArray, List.set_cons_zero, List.set_cons_succ]
        refine wpAnyH_ready (rs := [1]) (by kernel_rfl) (by simp) ?_
        refine (AllReadyH.cons (o := { dst := some 96, op := Op.call { callee := Callee.value (Operand.func 25), args := #[Operand.tmp 95], argTypes := #[42] }, type := 48, pos := "exact.go:5720", after := #[{ on := 0, ground := Ground.data }], guard := none }) rfl (fun K hK => ?_) AllReadyH.nil)
        refine step_callW 25 #[.slice ad n c] (fun z v w' => Bks v.heap.size w' z BT ∧ Below v.heap.size v w') (by rfl) (by go_simp) ((HTB.out _ (BX.trans (hH.mono BX.size))).mono fun e w' h => by first | (obtain ⟨a, h1, h2, h3⟩ := h; exact ⟨_, h1, h2, h3⟩) | (obtain ⟨h1, h3⟩ := h; exact ⟨_, h1, rfl, h3⟩)) ?_
        rintro zb w9 ⟨Pb, B9⟩
        simp only [Act.put, List.setIfInBounds_toArray, List.set_cons_zero, List.set_cons_succ]
        refine hK.out _ _ (hH.trans (B9.mono hH.size)) (fun hH' => ?_)
        clear hK K
        replace hH := hH'
        clear hH' 
        clear B9
        refine wpAnyH_ready (rs := [3]) (by kernel_rfl) (by simp) ?_
        refine (AllReadyH.cons (o := { dst := some 98, op := Op.call { callee := Callee.value (Operand.func 18), args := #[Operand.tmp 97], argTypes := #[32] }, type := 35, pos := "exact.go:5720", after := #[{ on := 2, ground := Ground.data }, { on := 1, ground := Ground.chain }], guard := none }) rfl (fun K hK => ?_) AllReadyH.nil)
        refine step_callW 18 #[.agg #[.slice fd k e, .slice gd l f]] (fun z v w' => Bk w' z YL YH ∧ Below v.heap.size v w') (by rfl) (by go_simp) ((HTR.out _ (BX.trans (hH.mono BX.size))).mono fun e w' h => by first | (obtain ⟨a, h1, h2, h3⟩ := h; exact ⟨_, h1, h2, h3⟩) | (obtain ⟨h1, h3⟩ := h; exact ⟨_, h1, rfl, h3⟩)) ?_
        rintro zr w9 ⟨Pr, B9⟩
        replace Pb := Pb.next B9
        simp only [Act.put, List.setIfInBounds_toArray, List.set_cons_zero, List.set_cons_succ]
        refine hK.out _ _ (hH.trans (B9.mono hH.size)) (fun hH' => ?_)
        clear hK K
        replace hH := hH'
        clear hH' 
        clear B9
        refine wpAnyH_ready (rs := [4]) (by kernel_rfl) (by simp) ?_
        refine (AllReadyH.cons (o := { dst := some 99, op := Op.call { callee := Callee.value (Operand.func 42), args := #[Operand.tmp 96, Operand.tmp 98], argTypes := #[48, 35] }, type := 69, pos := "exact.go:5720", after := #[{ on := 1, ground := Ground.data }, { on := 3, ground := Ground.data }, { on := 3, ground := Ground.chain }], guard := none }) rfl (fun K hK => ?_) AllReadyH.nil)
        refine step_callW 42 #[zb, zr] (fun z v w' => (∃ r, z = .tuple #[r, .bool false] ∧ HV v.heap.size w' r M) ∧ Below v.heap.size v w') (by rfl) (by go_simp) ((HP.out _ _ _ _ Pb Pr).mono fun e w' ⟨r, h1, h2, h3⟩ => ⟨_, h1, ⟨r, rfl, h2⟩, h3⟩) ?_
        rintro z9 w9 ⟨⟨r2, rfl, Q2⟩, B9⟩
        simp only [Act.put, List.setIfInBounds_toArray, List.set_cons_zero, List.set_cons_succ]
        refine hK.out _ _ (hH.trans (B9.mono hH.size)) (fun hH' => ?_)
        clear hK K
        replace hH := hH'
        clear hH' 
        clear B9 Pb Pr
        refine wpAnyH_take (i := 5) (oi := { dst := some 94, op := Op.move (Operand.tmp 99), type := 69, pos := "exact.go:5720", after := #[{ on := 4, ground := Ground.data }], guard := none }) (v := .tuple #[r2, .bool false]) rfl (by kernel_rfl) (by kernel_rfl) (by kernel_rfl) (fun _ _ _ h => h) (Or.inl ⟨by rfl, fun w0 hSw => by (go_simp)⟩) hH ?_
        simp only [Act.put, List.setIfInBounds_toArray, List.set_cons_zero, List.set_cons_succ]
        refine wpAnyH_take (i := 6) (oi := { dst := some 100, op := Op.extract (Operand.tmp 94) 0, type := 68, pos := "exact.go:5720", after := #[{ on := 5, ground := Ground.data }], guard := none }) (v := r2) rfl (by kernel_rfl) (by kernel_rfl) (by kernel_rfl) (fun _ _ _ h => h) (Or.inl ⟨by rfl, fun w0 hSw => by (go_simp)⟩) hH ?_
        simp only [Act.put, List.setIfInBounds_toArray, List.set_cons_zero, List.set_cons_succ]
        refine wpAnyH_take (i := 7) (oi := { dst := some 101, op := Op.extract (Operand.tmp 94) 1, type := 4, pos := "exact.go:5720", after := #[{ on := 5, ground := Ground.data }, { on := 8, ground := Ground.gcOnly Departure.lateStores }], guard := none }) (v := .bool false) rfl (by kernel_rfl) (by kernel_rfl) (by kernel_rfl) (fun _ _ _ h => h) (Or.inl ⟨by rfl, fun w0 hSw => by (go_simp)⟩) hH ?_
        simp only [Act.put, List.setIfInBounds_toArray, List.set_cons_zero, List.set_cons_succ]
        refine wpAnyH_take (i := 8) (oi := { dst := some 15, op := Op.assign (Operand.tmp 100), type := 68, pos := "exact.go:5720", after := #[{ on := 6, ground := Ground.data }, { on := 4, ground := Ground.chain }, { on := 0, ground := Ground.phase }, { on := 1, ground := Ground.phase }, { on := 2, ground := Ground.phase }, { on := 3, ground := Ground.phase }, { on := 4, ground := Ground.phase }, { on := 5, ground := Ground.phase }, { on := 6, ground := Ground.phase }, { on := 7, ground := Ground.textOnly Departure.lateStores }], guard := none }) (v := r2) rfl (by kernel_rfl) (by kernel_rfl) (by kernel_rfl) (fun _ _ _ h => h) (Or.inl ⟨by rfl, fun w0 hSw => by (go_simp)⟩) hH ?_
        simp only [Act.put, List.setIfInBounds_toArray, List.set_cons_zero, List.set_cons_succ]
        refine wpAnyH_take (i := 9) (oi := { dst := some 16, op := Op.assign (Operand.tmp 101), type := 4, pos := "exact.go:5720", after := #[{ on := 7, ground := Ground.data }, { on := 8, ground := Ground.chain }, { on := 0, ground := Ground.phase }, { on := 1, ground := Ground.phase }, { on := 2, ground := Ground.phase }, { on := 3, ground := Ground.phase }, { on := 4, ground := Ground.phase }, { on := 5, ground := Ground.phase }, { on := 6, ground := Ground.phase }, { on := 7, ground := Ground.phase }, { on := 8, ground := Ground.phase }], guard := none }) (v := .bool false) rfl (by kernel_rfl) (by kernel_rfl) (by kernel_rfl) (fun _ _ _ h => h) (Or.inl ⟨by rfl, fun w0 hSw => by (go_simp)⟩) hH ?_
        simp only [Act.put, List.setIfInBounds_toArray, List.set_cons_zero, List.set_cons_succ]
        refine wpAnyH_done (by kernel_rfl) ?_ _
        go_wp2_with fail
        go_meet
        case rel => exact ⟨Q2.low (Nat.zero_le _), rfl, BX2.trans (hH.mono BX2.size)⟩
      case rest =>
        obtain ⟨Q9, rfl, B6⟩ := hcut
        have BX := BX.trans (B6.mono BX.size)
        have V0 := V0.out.next B6
        have R5 := R5.next B6
        clear B6 HP HTB HTR CY
        generalize hwc : wc = m6 at *
        clear hwc
        go_wp2_with (first
          | (go_at_call 43; refine (eqRowHV Q9.1 V0 HLL.out).mono ?_; rintro e1 m7 ⟨rfl, B7⟩; (have R7 := R5.next B7); (have BX7 := BX.trans (B7.mono BX.size)); clear V0 R5 B7 BX)
          | (go_at_call 46; refine (HHD.out m7 R7).mono ?_; rintro e1 m8 ⟨rfl, B8⟩; (have BX8 := BX7.trans (B8.mono BX7.size))))
        go_ret
        exact ⟨rfl, BX8⟩
    · go_upto_region 16 with (first
  | (go_at_call 25; refine (HTB.out _ BX).mono ?_; rintro e1 w5 ⟨a5, rfl, P5, B5⟩; (have P5 := P5.bound); (have BX5 := BX.trans (B5.mono BX.size)); (have CY5 := CY.next B5); (have V5 := V0.next B5); (have p0 := CY5.c0); (have p1 := CY5.c1); (have hs5 := B5.size); clear CY V0 B5 BX)
  | (go_at_call 18; refine (HTB2.out _ BX5).mono ?_; rintro e1 w6 ⟨a6, rfl, P6, B6⟩; (obtain ⟨g6, k6, e6, o1, o2, h6⟩ := P6); rw [HN.out.1, HN.out.2] at e6; subst e6; (have P6 : BkR w5.heap.size w6.heap.size w6 (.agg #[.slice (some ⟨g6, 0, none⟩) k k, .slice (some ⟨k6, 0, none⟩) l l]) YL YH := ⟨g6, k6, by rw [HN.out.1, HN.out.2], o1, o2, h6⟩); (obtain ⟨W7, hW7⟩ : ∃ W7, w6.alloc (.cells #[.slice (some ⟨g6, 0, none⟩) k k, .slice (some ⟨k6, 0, none⟩) l l] 35) = W7 := ⟨_, rfl⟩); (have B7 : Below w6.heap.size w6 W7 := by rw [← hW7]; exact alloc_b); (have hs7 : W7.heap.size = w6.heap.size + 1 := by rw [← hW7]; simp); (have B7' := B6.trans (B7.mono B6.size)); (have DY : C2 W7 w6.heap.size (.slice (some ⟨g6, 0, none⟩) k k) (.slice (some ⟨k6, 0, none⟩) l l) := by rw [← hW7]; exact C2.new w6 _ _ _); (have P5 := P5.next B7'); (have P6 := P6.next B7); (have CY7 := CY5.next B7'); (have V7 := V5.next B7'); (have BX7 := BX5.trans (B7'.mono BX5.size)); (have hs6 := B6.size); clear p0 p1 CY5 V5 B6 B7 B7' o1 o2 h6 BX5; (have d0 := DY.c0); (have d1 := DY.c1))
  | (go_at_call 42; refine (HP.out _ _ _ _ P5.bks P6.bk).mono ?_; rintro e1 w8 ⟨r1, rfl, G8, B8⟩; (have P5 := P5.next B8); (have P6 := P6.next B8); (have CY8 := CY7.next B8); (have V8 := V7.next B8); (have DY8 := DY.next B8); (have BX8 := BX7.trans (B8.mono BX7.size)); (have LG : Hid (∀ g, r1.ownBlock = some g → w6.heap.size < g) := fun g hg => by have h1 := (G8.2 g hg).1; omega); clear d0 d1 CY7 V7 DY B8 BX7)
  | (go_at_call 43; refine (eqRowHV G8.1 V8.1 HLL.out).mono ?_; rintro e1 w10 ⟨rfl, B10⟩; (have P5 := P5.next B10); (have P6 := P6.next B10); (have CY10 := CY8.next B10); (have DY10 := DY8.next B10); (have V10 := V8.next B10); (have G10 := G8.next B10); (have BX10 := BX8.trans (B10.mono BX8.size)); clear CY8 DY8 V8 G8 B10 BX8)
  | (go_at_call 25; refine (HTB.out _ BX10).mono ?_; rintro e1 w11 ⟨a11, rfl, P11, B11⟩; (have P5 := P5.next B11); (have P6 := P6.next B11); (have CY11 := CY10.next B11); (have DY11 := DY10.next B11); (have V11 := V10.next B11); (have G11 := G10.next B11); (have BX11 := BX10.trans (B11.mono BX10.size)); clear CY10 DY10 V10 G10 B11 BX10)
  | (go_at_call 28; refine (HEB.out _ _ _ _ _ P5.bks P11).mono ?_; rintro e1 w12 ⟨rfl, B12⟩; (have P5 := P5.next B12); (have PY := P6.next B12); (have CY := CY11.next B12); (have DY := DY11.next B12); (have V0 := V11.next B12); (have G0 := G11.next B12); (have BX := BX11.trans (B12.mono BX11.size)); clear CY11 DY11 V11 G11 P6 P11 B12 BX11))
      have HLO : Hid (w.heap.size < w4.heap.size) := HLO0
      have HLM : Hid (w4.heap.size ≤ w5.heap.size ∧ w5.heap.size ≤ w6.heap.size) := ⟨hs5, hs6⟩
      clear HLO0 hs5 hs6 hs7
      generalize w4.heap.size = lo at P5 LV HLO HLM
      generalize w5.heap.size = mid at P5 PY HLM
      generalize w6.heap.size = hi at PY DY LG HLM ⊢
      generalize hWW : w12.drew = WX
      have CY := CY.next (below_drew (Below.refl _ _))
      have DY := DY.next (below_drew (Below.refl _ _))
      have PY := PY.next (below_drew (Below.refl _ _))
      have V0 := V0.next (below_drew (Below.refl _ _))
      have G0 := G0.next (below_drew (Below.refl _ _))
      have P5 := P5.next (below_drew (Below.refl _ _))
      have BX := below_drew BX
      have BX2 : Below w12.heap.size w12 w12.drew := below_drew (Below.refl _ _)
      rw [hWW] at CY DY PY V0 G0 P5 BX BX2
      refine wp_region_held_drew (S := fun v => Below WX.heap.size WX v) (by kernel_rfl) (by rw [hWW]; exact Below.refl _ _) (fun hH => ?_)
      rw [hWW] at hH ⊢
      clear hWW
      refine wpAnyH_take (i := 0) (oi := { dst := some 59, op := Op.load 35 (Operand.tmp 9), type := 35, pos := "exact.go:5701", after := #[], guard := none }) (v := .agg #[.slice (some ⟨g6, 0, none⟩) k k, .slice (some ⟨k6, 0, none⟩) l l]) rfl (by kernel_rfl) (by kernel_rfl) (by kernel_rfl) (fun _ _ _ h => h) (Or.inl ⟨by rfl, fun w0 hSw => by ((have e0 := cell_nx DY.c0 hSw); (have e1 := cell_nx DY.c1 hSw); go_simp)⟩) hH ?_
      simp only [Act.put, List.setIfInBounds_toArray, List.set_cons_zero, List.set_cons_succ]
      refine wpAnyH_take (i := 1) (oi := { dst := some 60, op := Op.load 32 (Operand.tmp 3), type := 32, pos := "exact.go:5701", after := #[], guard := none }) (v := .agg #[.slice fd k e, .slice gd l f]) rfl (by kernel_rfl) (by kernel_rfl) (by kernel_rfl) (fun _ _ _ h => h) (Or.inl ⟨by rfl, fun w0 hSw => by ((have e0 := cell_nx CY.c0 hSw); (have e1 := cell_nx CY.c1 hSw); go_simp)⟩) hH ?_
      simp only [Act.put, List.setIfInBounds_toArray, List.set_cons_zero, List.set_cons_succ]
      refine wpAnyH_ready (rs := [2]) (by kernel_rfl) (by simp) ?_
      refine (AllReadyH.cons (o := { dst := some 61, op := Op.call { callee := Callee.value (Operand.func 18), args := #[Operand.tmp 60], argTypes := #[32] }, type := 35, pos := "exact.go:5701", after := #[{ on := 1, ground := Ground.data }], guard := none }) rfl (fun K hK => ?_) AllReadyH.nil)
      refine step_callW 18 #[.agg #[.slice fd k e, .slice gd l f]] (fun z v w' => Bk w' z YL YH ∧ Below v.heap.size v w') (by rfl) (by go_simp) ((HTR.out _ (BX.trans (hH.mono BX.size))).mono fun e w' h => by first | (obtain ⟨a, h1, h2, h3⟩ := h; exact ⟨_, h1, h2, h3⟩) | (obtain ⟨h1, h3⟩ := h; exact ⟨_, h1, rfl, h3⟩)) ?_
      rintro zr w9 ⟨Pr, B9⟩
      simp only [Act.put, List.setIfInBounds_toArray, List.set_cons_zero, List.set_cons_succ]
      refine hK.out _ _ (hH.trans (B9.mono hH.size)) (fun hH' => ?_)
      clear hK K
      replace hH := hH'
      clear hH' 
      clear B9
      refine wpAnyH_ready (rs := [3]) (by kernel_rfl) (by simp) ?_
      refine (AllReadyH.cons (o := { dst := some 62, op := Op.call { callee := Callee.value (Operand.func 20), args := #[Operand.tmp 59, Operand.tmp 61], argTypes := #[35, 35] }, type := 4, pos := "exact.go:5701", after := #[{ on := 0, ground := Ground.data }, { on := 2, ground := Ground.data }, { on := 2, ground := Ground.chain }], guard := none }) rfl (fun K hK => ?_) AllReadyH.nil)
      refine step_callW 20 #[.agg #[.slice (some ⟨g6, 0, none⟩) k k, .slice (some ⟨k6, 0, none⟩) l l], zr] (fun z v w' => z = .bool true ∧ Below v.heap.size v w') (by rfl) (by go_simp) ((HER.out _ _ _ (PY.next hH).bk Pr).mono fun e w' h => by first | (obtain ⟨a, h1, h2, h3⟩ := h; exact ⟨_, h1, h2, h3⟩) | (obtain ⟨h1, h3⟩ := h; exact ⟨_, h1, rfl, h3⟩)) ?_
      rintro z9 w9 ⟨rfl, B9⟩
      replace Pr := Pr.next B9
      simp only [Act.put, List.setIfInBounds_toArray, List.set_cons_zero, List.set_cons_succ]
      refine hK.out _ _ (hH.trans (B9.mono hH.size)) (fun hH' => ?_)
      clear hK K
      replace hH := hH'
      clear hH' 
      clear B9
      refine wpAnyH_take (i := 4) (oi := { dst := some 63, op := Op.unOp UnOp.not 4 (Operand.tmp 62), type := 4, pos := "exact.go:5701", after := #[{ on := 3, ground := Ground.data }], guard := none }) (v := .bool false) rfl (by kernel_rfl) (by kernel_rfl) (by kernel_rfl) (fun _ _ _ h => h) (Or.inl ⟨by rfl, fun w0 hSw => by (go_simp)⟩) hH ?_
      simp only [Act.put, List.setIfInBounds_toArray, List.set_cons_zero, List.set_cons_succ]
      refine wpAnyH_done (by kernel_rfl) ?_ _
      have HMB : Hid (∀ w', BkC lo mid w' a5 BT → Calls Try.prog 32 #[a5, .int .i64 1] w' fun r w'' => (∃ y : Int, r = .returned (.int .i64 y) ∧ 0 ≤ y ∧ y ≤ 500000000000000) ∧ Btw lo mid w' w'') := fun w' X => markBS a5 BT w' X HSBB.out
      have HMR : Hid (∀ w' y, BkR mid hi w' (.agg #[.slice (some ⟨g6, 0, none⟩) k k, .slice (some ⟨k6, 0, none⟩) l l]) YL YH → 0 ≤ y → y ≤ 500000000000000 → Calls Try.prog 44 #[.agg #[.slice (some ⟨g6, 0, none⟩) k k, .slice (some ⟨k6, 0, none⟩) l l], .int .i64 y] w' fun r w'' => (∃ y : Int, r = .returned (.int .i64 y) ∧ 0 ≤ y) ∧ Btw mid hi w' w'') := fun w' y X y0 y1 => markR _ YL YH y w' X (by rw [HN.out.1]; exact HKL.out.1) (by rw [HN.out.2]; exact HKL.out.2) y0 y1
      obtain ⟨sy, hsy⟩ : ∃ sy : Int, ((1 + 3 * M.length : Nat) : Int) = sy := ⟨_, rfl⟩
      have hs0 : ¬ sy < 0 := by omega
      have HSY : Hid (((1 + 3 * M.length : Nat) : Int) = sy) := hsy
      have HHD : Hid (∀ z, RowHV z r1 M.length mkH0 mkH1 mkH2 → Calls Try.prog 46 #[r1, .int .i64 1] z fun r w' => r = .returned (.int .i64 sy) ∧ Below z.heap.size z w') := fun z R => by
        have h := heldHV R HLL.out
        rw [hsy] at h
        exact h
      have HNE : Hid (u6.ownBlock = none ∨ u6.ownBlock ≠ r1.ownBlock) := by
        cases hv : u6.ownBlock with
        | none => exact Or.inl rfl
        | some g => exact Or.inr (fun e => by have h1 := LV.out g hv; have h2 := LG.out g e.symm; have h3 := HLM.out; omega)
      clear hsy
      have BX := BX.trans (hH.mono BX.size)
      have CY := CY.next hH
      have DY := DY.next hH
      have V0 := V0.next hH
      have G0 := G0.next hH
      have P5 := P5.next hH
      have P6 := PY.next hH
      clear PY
      clear hH
      go_upto_region 31 with (first
        | (go_at_call 32; (with_reducible show Calls Try.prog 32 _ w9 _); refine (HMB.out w9 P5).mono ?_; rintro e1 m1 ⟨⟨y1, rfl, hy0, hy1⟩, T1⟩; (have P6 := P6.btw T1 (Nat.le_refl _)); (have CY1 := CY.btw T1 (Or.inl HLO.out)); (have DY1 := DY.btw T1 (Or.inr HLM.out.2)); (have V1 := V0.btw T1 (fun g hg => Or.inl (LV.out g hg))); (have G1 := G0.btw T1 (fun g hg => Or.inr (Nat.le_of_lt (Nat.lt_of_le_of_lt HLM.out.2 (LG.out g hg))))); (have BX1 := BX.trans (T1.below' BX HLO.out)); (have d0 := DY1.c0); (have d1 := DY1.c1); clear CY DY V0 G0 P5 T1 BX)
        | (go_at_call 44; refine (HMR.out m1 y1 P6 hy0 hy1).mono ?_; rintro e1 m2 ⟨⟨y2, rfl, hy2⟩, T2⟩; (have hy3 : ¬ y2 < 0 := by omega); (have CY2 := CY1.btw T2 (Or.inl (Nat.lt_of_lt_of_le HLO.out HLM.out.1))); (have V2 := V1.btw T2 (fun g hg => Or.inl (Nat.lt_of_lt_of_le (LV.out g hg) HLM.out.1))); (have G2 := G1.btw T2 (fun g hg => Or.inr (Nat.le_of_lt (LG.out g hg)))); (have BX2 := BX1.trans (T2.below' BX1 (Nat.lt_of_lt_of_le HLO.out HLM.out.1))); clear d0 d1 CY1 DY1 V1 G1 P6 T2 BX1 hy0 hy1)
        | (go_at_call 43; (with_reducible show Calls Try.prog 43 _ m2 _); refine (eqRowHV G2.1 V2.1 HLL.out).mono ?_; rintro e1 m3 ⟨rfl, B3⟩; (have CY3 := CY2.next B3); (have V3 := V2.next B3); (have G3 := Hid.mk (G2.next B3)); (have BX3 := BX2.trans (B3.mono BX2.size)); (have hm1 := markHV G3.out.1 HLL.out); clear CY2 V2 G2 B3 BX2)
        | (go_at_call 45; (with_reducible show Calls Try.prog 45 _ m3 _); rw [HSY.out] at hm1; refine hm1.mono ?_; rintro e1 m4 ⟨rfl, R4, T4⟩; (have CY4 := CY3.grown T4 (fun e => by have h1 := LG.out _ e.symm; have h2 := HLO.out; have h3 := HLM.out; omega)); (have V4 : Hid (RowHV m4 u6 M.length (atH0 M) (atH1 M) (atH2 M)) := V3.1.grown T4 (HNE.out)); (have BX4 := below_grown BX3 BX3.size T4 (fun g hg => by have h1 := LG.out g hg; have h2 := HLO.out; have h3 := HLM.out; omega)); clear CY3 V3 G3 T4 BX3 hm1)
        | (go_at_call 46; (with_reducible show Calls Try.prog 46 _ m4 _); refine (HHD.out m4 R4).mono ?_; rintro e1 m5 ⟨rfl, B5⟩; (have CY := CY4.next B5); (have V0 : Hid (RowHV m5 u6 M.length (atH0 M) (atH1 M) (atH2 M)) := V4.out.next B5); (have R5 := R4.next B5); (have BX := BX4.trans (B5.mono BX4.size)); clear CY4 V4 R4 B5 BX4))
      clear HMB HMR HNE
      go_cut [15, 16] (fun a b wx => HV 0 wx a M ∧ b = .bool true ∧ Below m5.heap.size m5 wx)
      case first =>
        generalize hWW : m5.drew = WX
        have CY := CY.next (below_drew (Below.refl _ _))
        have BX := below_drew BX
        have BX2 : Below m5.heap.size m5 m5.drew := below_drew (Below.refl _ _)
        rw [hWW] at CY BX BX2
        refine wp_region_held_drew (S := fun v => Below WX.heap.size WX v) (by kernel_rfl) (by rw [hWW]; exact Below.refl _ _) (fun hH => ?_)
        rw [hWW] at hH ⊢
        clear hWW
        refine wpAnyH_take (i := 0) (oi := { dst := some 95, op := Op.move (Operand.tmp 0), type := 42, pos := "exact.go:5720", after := #[], guard := none }) (v := .slice ad n c) rfl (by kernel_rfl) (by kernel_rfl) (by kernel_rfl) (fun _ _ _ h => h) (Or.inl ⟨by rfl, fun w0 hSw => by (go_simp)⟩) hH ?_
        simp only [Act.put, List.setIfInBounds_toArray, List.set_cons_zero, List.set_cons_succ]
        refine wpAnyH_take (i := 2) (oi := { dst := some 97, op := Op.load 32 (Operand.tmp 3), type := 32, pos := "exact.go:5720", after := #[], guard := none }) (v := .agg #[.slice fd k e, .slice gd l f]) rfl (by kernel_rfl) (by kernel_rfl) (by kernel_rfl) (fun _ _ _ h => h) (Or.inl ⟨by rfl, fun w0 hSw => by ((have e0 := cell_nx CY.c0 hSw); (have e1 := cell_nx CY.c1 hSw); go_simp)⟩) hH ?_
        simp only [Act.put, List.setIfInBounds_toArray, List.set_cons_zero, List.set_cons_succ]
        refine wpAnyH_ready (rs := [1]) (by kernel_rfl) (by simp) ?_
        refine (AllReadyH.cons (o := { dst := some 96, op := Op.call { callee := Callee.value (Operand.func 25), args := #[Operand.tmp 95], argTypes := #[42] }, type := 48, pos := "exact.go:5720", after := #[{ on := 0, ground := Ground.data }], guard := none }) rfl (fun K hK => ?_) AllReadyH.nil)
        refine step_callW 25 #[.slice ad n c] (fun z v w' => Bks v.heap.size w' z BT ∧ Below v.heap.size v w') (by rfl) (by go_simp) ((HTB.out _ (BX.trans (hH.mono BX.size))).mono fun e w' h => by first | (obtain ⟨a, h1, h2, h3⟩ := h; exact ⟨_, h1, h2, h3⟩) | (obtain ⟨h1, h3⟩ := h; exact ⟨_, h1, rfl, h3⟩)) ?_
        rintro zb w9 ⟨Pb, B9⟩
        simp only [Act.put, List.setIfInBounds_toArray, List.set_cons_zero, List.set_cons_succ]
        refine hK.out _ _ (hH.trans (B9.mono hH.size)) (fun hH' => ?_)
        clear hK K
        replace hH := hH'
        clear hH' 
        clear B9
        refine wpAnyH_ready (rs := [3]) (by kernel_rfl) (by simp) ?_
        refine (AllReadyH.cons (o := { dst := some 98, op := Op.call { callee := Callee.value (Operand.func 18), args := #[Operand.tmp 97], argTypes := #[32] }, type := 35, pos := "exact.go:5720", after := #[{ on := 2, ground := Ground.data }, { on := 1, ground := Ground.chain }], guard := none }) rfl (fun K hK => ?_) AllReadyH.nil)
        refine step_callW 18 #[.agg #[.slice fd k e, .slice gd l f]] (fun z v w' => Bk w' z YL YH ∧ Below v.heap.size v w') (by rfl) (by go_simp) ((HTR.out _ (BX.trans (hH.mono BX.size))).mono fun e w' h => by first | (obtain ⟨a, h1, h2, h3⟩ := h; exact ⟨_, h1, h2, h3⟩) | (obtain ⟨h1, h3⟩ := h; exact ⟨_, h1, rfl, h3⟩)) ?_
        rintro zr w9 ⟨Pr, B9⟩
        replace Pb := Pb.next B9
        simp only [Act.put, List.setIfInBounds_toArray, List.set_cons_zero, List.set_cons_succ]
        refine hK.out _ _ (hH.trans (B9.mono hH.size)) (fun hH' => ?_)
        clear hK K
        replace hH := hH'
        clear hH' 
        clear B9
        refine wpAnyH_ready (rs := [4]) (by kernel_rfl) (by simp) ?_
        refine (AllReadyH.cons (o := { dst := some 99, op := Op.call { callee := Callee.value (Operand.func 42), args := #[Operand.tmp 96, Operand.tmp 98], argTypes := #[48, 35] }, type := 69, pos := "exact.go:5720", after := #[{ on := 1, ground := Ground.data }, { on := 3, ground := Ground.data }, { on := 3, ground := Ground.chain }], guard := none }) rfl (fun K hK => ?_) AllReadyH.nil)
        refine step_callW 42 #[zb, zr] (fun z v w' => (∃ r, z = .tuple #[r, .bool true] ∧ HV v.heap.size w' r M) ∧ Below v.heap.size v w') (by rfl) (by go_simp) ((HP.out _ _ _ _ Pb Pr).mono fun e w' ⟨r, h1, h2, h3⟩ => ⟨_, h1, ⟨r, rfl, h2⟩, h3⟩) ?_
        rintro z9 w9 ⟨⟨r2, rfl, Q2⟩, B9⟩
        simp only [Act.put, List.setIfInBounds_toArray, List.set_cons_zero, List.set_cons_succ]
        refine hK.out _ _ (hH.trans (B9.mono hH.size)) (fun hH' => ?_)
        clear hK K
        replace hH := hH'
        clear hH' 
        clear B9 Pb Pr
        refine wpAnyH_take (i := 5) (oi := { dst := some 94, op := Op.move (Operand.tmp 99), type := 69, pos := "exact.go:5720", after := #[{ on := 4, ground := Ground.data }], guard := none }) (v := .tuple #[r2, .bool true]) rfl (by kernel_rfl) (by kernel_rfl) (by kernel_rfl) (fun _ _ _ h => h) (Or.inl ⟨by rfl, fun w0 hSw => by (go_simp)⟩) hH ?_
        simp only [Act.put, List.setIfInBounds_toArray, List.set_cons_zero, List.set_cons_succ]
        refine wpAnyH_take (i := 6) (oi := { dst := some 100, op := Op.extract (Operand.tmp 94) 0, type := 68, pos := "exact.go:5720", after := #[{ on := 5, ground := Ground.data }], guard := none }) (v := r2) rfl (by kernel_rfl) (by kernel_rfl) (by kernel_rfl) (fun _ _ _ h => h) (Or.inl ⟨by rfl, fun w0 hSw => by (go_simp)⟩) hH ?_
        simp only [Act.put, List.setIfInBounds_toArray, List.set_cons_zero, List.set_cons_succ]
        refine wpAnyH_take (i := 7) (oi := { dst := some 101, op := Op.extract (Operand.tmp 94) 1, type := 4, pos := "exact.go:5720", after := #[{ on := 5, ground := Ground.data }, { on := 8, ground := Ground.gcOnly Departure.lateStores }], guard := none }) (v := .bool true) rfl (by kernel_rfl) (by kernel_rfl) (by kernel_rfl) (fun _ _ _ h => h) (Or.inl ⟨by rfl, fun w0 hSw => by (go_simp)⟩) hH ?_
        simp only [Act.put, List.setIfInBounds_toArray, List.set_cons_zero, List.set_cons_succ]
        refine wpAnyH_take (i := 8) (oi := { dst := some 15, op := Op.assign (Operand.tmp 100), type := 68, pos := "exact.go:5720", after := #[{ on := 6, ground := Ground.data }, { on := 4, ground := Ground.chain }, { on := 0, ground := Ground.phase }, { on := 1, ground := Ground.phase }, { on := 2, ground := Ground.phase }, { on := 3, ground := Ground.phase }, { on := 4, ground := Ground.phase }, { on := 5, ground := Ground.phase }, { on := 6, ground := Ground.phase }, { on := 7, ground := Ground.textOnly Departure.lateStores }], guard := none }) (v := r2) rfl (by kernel_rfl) (by kernel_rfl) (by kernel_rfl) (fun _ _ _ h => h) (Or.inl ⟨by rfl, fun w0 hSw => by (go_simp)⟩) hH ?_
        simp only [Act.put, List.setIfInBounds_toArray, List.set_cons_zero, List.set_cons_succ]
        refine wpAnyH_take (i := 9) (oi := { dst := some 16, op := Op.assign (Operand.tmp 101), type := 4, pos := "exact.go:5720", after := #[{ on := 7, ground := Ground.data }, { on := 8, ground := Ground.chain }, { on := 0, ground := Ground.phase }, { on := 1, ground := Ground.phase }, { on := 2, ground := Ground.phase }, { on := 3, ground := Ground.phase }, { on := 4, ground := Ground.phase }, { on := 5, ground := Ground.phase }, { on := 6, ground := Ground.phase }, { on := 7, ground := Ground.phase }, { on := 8, ground := Ground.phase }], guard := none }) (v := .bool true) rfl (by kernel_rfl) (by kernel_rfl) (by kernel_rfl) (fun _ _ _ h => h) (Or.inl ⟨by rfl, fun w0 hSw => by (go_simp)⟩) hH ?_
        simp only [Act.put, List.setIfInBounds_toArray, List.set_cons_zero, List.set_cons_succ]
        refine wpAnyH_done (by kernel_rfl) ?_ _
        go_wp2_with fail
        go_meet
        case rel => exact ⟨Q2.low (Nat.zero_le _), rfl, BX2.trans (hH.mono BX2.size)⟩
      case rest =>
        obtain ⟨Q9, rfl, B6⟩ := hcut
        have BX := BX.trans (B6.mono BX.size)
        have V0 := V0.out.next B6
        have R5 := R5.next B6
        clear B6 HP HTB HTR CY
        generalize hwc : wc = m6 at *
        clear hwc
        go_wp2_with (first
          | (go_at_call 43; refine (eqRowHV Q9.1 V0 HLL.out).mono ?_; rintro e1 m7 ⟨rfl, B7⟩; (have R7 := R5.next B7); (have BX7 := BX.trans (B7.mono BX.size)); clear V0 R5 B7 BX)
          | (go_at_call 46; refine (HHD.out m7 R7).mono ?_; rintro e1 m8 ⟨rfl, B8⟩; (have BX8 := BX7.trans (B8.mono BX7.size))))
        go_ret
        exact ⟨rfl, BX8⟩


set_option maxRecDepth 100000 in
theorem lifted (os : Os) (started : os.Started) (H : Type) (enc : TypeId × Value → H) :
    ReturnsInHanded {} Try.checked os 10 .any (Rows.fnExactAllHitsSpec.pre6 enc Try.prog Try.f10 Rows.fnExactAllHitsRow.domain false) (Rows.fnExactAllHitsSpec.post enc Try.prog Try.f10 false true false false) := by
  refine returnsInHanded_of_change (C := Try.checked) own started (by kernel_rfl) Try.func10
    (ChangeSpec.witness6 (enc := enc) (C := Try.checked) false ⟨#[], #[.slice none 0 0, .agg #[.slice none 0 0, .slice none 0 0]], []⟩ 8 (by kernel_rfl) (by kernel_rfl) (by kernel_rfl) (by kernel_rfl)) ?_
  intro W base args ds gs before hval0 hW hcnd _
  have hval : ∀ (j : Nat) t v, Try.f10.params[j]? = some t → args[j]? = some v → Value.okWide Try.prog W .any base t v := hval0
  have hW' := hW
  obtain ⟨p, q, hA0, hV, rfl, hfz, hnd⟩ := hW
  have hA : DataW.TrodAll enc Try.prog W 0 (fun _ => true) true Try.f10.params.toList args.toList ds p := hA0
  rw [Try.params10] at hA hval
  obtain ⟨v0, vs0, d0, ds0, p0, q0, hargs, rfl, rfl, h0, r0⟩ := trodAll_cons hA
  obtain ⟨v1, vs1, d1, ds1, p1, q1, rfl, rfl, rfl, h1, r1⟩ := trodAll_cons r0
  obtain ⟨rfl, rfl, rfl⟩ := trodAll_nil r1
  obtain rfl : args = #[v0, v1] := by cases args; simp_all
  obtain ⟨rfl, rfl⟩ := trodVars_none hV
  simp only [List.append_nil] at hW'
  have k0 := h0
  have lt0 : ∀ x ∈ p0, x.block < W.heap.size := fun x hx => by have := hW'.lt x (by simp [hx]); simpa using this
  obtain ⟨ad, c, BT, rfl, bU, bl, bx⟩ := viewL Try.underlying42 Try.underlying24 (by kernel_rfl) rfl rfl (by kernel_rfl) (by kernel_rfl) Try.underlying22 Try.underlying22 Try.underlying3 (by kernel_rfl) (hval 0 42 v0 rfl rfl) h0
  have arg0 : ∀ (W' : World), Below W.heap.size W W' → DataW.Trod enc Try.prog W' 0 (fun b => decide (b < W.heap.size)) true 42 (.slice ad BT.length c) d0 p0 := fun W' hn => Below.trod laidOut (by kernel_rfl) (of_decide_eq_true (by kernel_rfl)) k0 hn lt0
  have k1 := h1
  have lt1 : ∀ x ∈ p1, x.block < W.heap.size := fun x hx => by have := hW'.lt x (by simp [hx]); simpa using this
  obtain ⟨yu, yv, YL, YH, rfl, yU, yV, yl, yh⟩ := view2 Try.underlying32 (by kernel_rfl) rfl rfl (by kernel_rfl) (by kernel_rfl) Try.underlying22 Try.underlying22 Try.underlying3 (by kernel_rfl) (hval 1 32 v1 rfl rfl) h1
  have arg1 : ∀ (W' : World), Below W.heap.size W W' → DataW.Trod enc Try.prog W' 0 (fun b => decide (b < W.heap.size)) true 32 (.agg #[yu, yv]) d1 p1 := fun W' hn => Below.trod laidOut (by kernel_rfl) (of_decide_eq_true (by kernel_rfl)) k1 hn lt1
  clear hA0 hval0
  refine (walk W ad c BT bU bl bx yu yv YL YH yU yV yl yh).mono fun e W' ⟨he, hg⟩ => ?_
  subst he
  refine ⟨_, rfl, _, _, _, [], p0 ++ (p1 ++ []), [], hW', (trodAll_cons_mk (shut_bool Try.underlying4 _) trodAll_mk0), (trodAll_cons_mk (arg0 _ hg) (trodAll_cons_mk (arg1 _ hg) trodAll_mk0)), rfl, hg.frame _, fun h => by cases h⟩
theorem over : Rows.fnExactAllHitsRow.holds Try.pinned (OpenSpec.ofChange Rows.fnExactAllHitsSpec) :=
  OpenClaim.holds_of_wide 10 Try.f10 rfl rfl rfl rfl rfl rfl rfl ⟨rfl, rfl, rfl, rfl, rfl⟩ rfl rfl rfl rfl rfl (by kernel_rfl) Try.func10 (by kernel_rfl)
    (of_decide_eq_true (by kernel_rfl)) (by unfold Func.isWrapper; first | (rw [if_pos (by decide +kernel)]; kernel_rfl) | (rw [if_neg (by decide +kernel)]; exact ⟨rfl, rfl⟩))
    (fun os started H enc _ => lifted os started H enc)
end Go.Proofs.Ytngmaeinehfimaa.fnExactAllHits
namespace Go.Proofs.Ytngmaeinehfimaa
theorem allHits : Rows.FnExactAllHitsSaid := fnExactAllHits.over
#print axioms allHits
end Go.Proofs.Ytngmaeinehfimaa
