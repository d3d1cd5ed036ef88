/- FirstHit answers as its model at every row of blocks and every ray, and writes into none of them. No conditions. -/
import Derived.Test.YtngmaeinehfimaaRows
import Derived.Test.YtngmaeinehfimaaMl
namespace Go.Proofs.Ytngmaeinehfimaa.fnExactFirstHit
open Go.ChangeShapes Go.WideShapes Go.ChangeAt Go.RowKit
set_option linter.unusedVariables false
theorem own : ownKnob Try.prog.godebug = none := by kernel_rfl
theorem laidOut : laidOutB Try.prog = true := by kernel_rfl

set_option maxRecDepth 100000 in
set_option maxHeartbeats 8000000 in
theorem walk (w : World) (ad : Option Addr) (c : Nat) (BT : List TB) (bU : BRow w (.slice ad BT.length c) BT) (bl : BT.length ≤ 9223372036854775807) (bx : ∀ i, i < BT.length → (tb BT i).1.length ≤ 9223372036854775807 ∧ (tb BT i).2.length ≤ 9223372036854775807) (yu yv : Value) (YL YH : List Int) (yU : ARow w yu YL) (yV : ARow w yv YH) (yl : YL.length ≤ 9223372036854775807) (yh : YH.length ≤ 9223372036854775807) :
    Calls Try.prog 6 #[.slice ad BT.length c, .agg #[yu, yv]] w fun e w' => e = .returned (.bool true) ∧ Below w.heap.size w w' := by
  have HS1 := Hid.mk (szBS (.slice ad BT.length c) BT (w.alloc (.cells #[yu, yv] 32)) (bU.next alloc_b) bl bx)
  have HSR : Hid (∀ w' (z : Int), Below w.heap.size w w' → 0 ≤ z → z ≤ 1048576 → Calls Try.prog 16 #[.agg #[yu, yv], .int .i64 z] w' fun r w'' => (∃ x : Int, r = .returned (.int .i64 x) ∧ (x < 0 ∨ 0 ≤ x ∧ x ≤ z ∧ (YL.length : Int) + (YH.length : Int) + x ≤ z)) ∧ Below w'.heap.size w' w'') := fun w' z b z0 z1 => szR yu yv YL YH w' (yU.next b) (yV.next b) yl yh z z0 z1
  have HTB0 : Hid (ShB BT → ∀ w', Below w.heap.size w w' → Calls Try.prog 25 #[.slice ad BT.length c] w' fun r w'' => ∃ a, r = .returned a ∧ Bks w'.heap.size w'' a BT ∧ Below w'.heap.size w' w'') := fun hs w' b => (toBS _ BT w' (bU.next b) hs.1 hs.2).mono fun e w2 ⟨⟨a, h1, h2⟩, h3⟩ => ⟨a, h1, h2, h3⟩
  have HTR0 : Hid (YL.length ≤ 1048576 ∧ YH.length ≤ 1048576 → ∀ w', Below w.heap.size w w' → Calls Try.prog 18 #[.agg #[yu, yv]] w' fun r w'' => ∃ a, r = .returned a ∧ Bk w'' a YL YH ∧ Below w'.heap.size w' w'') := fun h w' b => toR yu yv YL YH w' (yU.next b) (yV.next b) h.1 h.2
  have HEB0 : Hid (ShB BT → ∀ (w' : World) (A B : Nat) (a b : Value), Bks A w' a BT → Bks B w' b BT → Calls Try.prog 28 #[a, b] w' fun e w'' => e = .returned (.bool true) ∧ Below w'.heap.size w' w'') := fun hs w' A B a b h1 h2 => eqBS a b BT w' h1 h2 hs.1 hs.2
  have HER0 : Hid (YL.length ≤ 1048576 ∧ YH.length ≤ 1048576 → ∀ (w' : World) (a b : Value), Bk w' a YL YH → Bk w' b YL YH → Calls Try.prog 20 #[a, b] w' fun e w'' => e = .returned (.bool true) ∧ Below w'.heap.size w' w'') := fun h w' a b h1 h2 => eqR a b YL YH w' h1 h2 h.1 h.2
  have HM0 : Hid (ShB BT → YL.length ≤ 1048576 ∧ YH.length ≤ 1048576 → ∀ (w' : World) (B : Nat) (a b : Value), Bks B w' a BT → Bk w' b YL YH → Calls Try.prog 24 #[a, b] w' fun e w'' => e = .returned (.tuple #[.agg #[.int .i64 (atH0 (alH BT YL YH) 0), .int .i64 (atH1 (alH BT YL YH) 0), .int .i64 (atH2 (alH BT YL YH) 0)], .bool (decide (0 < (alH BT YL YH).length))]) ∧ Below w'.heap.size w' w'') := fun hs hy w' B a b k1 k2 => by obtain ⟨u, v, rfl, X, Y⟩ := k2.rows; exact mfirst a u v BT YL YH w' k1.brow X Y (Nat.le_trans hs.1 (by decide)) (fun i hi => ⟨Nat.le_trans (hs.2 i hi).1 (by decide), Nat.le_trans (hs.2 i hi).2 (by decide)⟩) (Nat.le_trans hy.1 (by decide)) (Nat.le_trans hy.2 (by decide))
  have HP0 : Hid (ShB BT → YL.length ≤ 1048576 ∧ YH.length ≤ 1048576 → ∀ (w' : World) (B : Nat) (a b : Value), Bks B w' a BT → Bk w' b YL YH → Calls Try.prog 26 #[a, b] w' fun e w'' => e = .returned (.tuple #[.agg #[.int .i64 (atH0 (alH BT YL YH) 0), .int .i64 (atH1 (alH BT YL YH) 0), .int .i64 (atH2 (alH BT YL YH) 0)], .bool (decide (0 < (alH BT YL YH).length))]) ∧ Below w'.heap.size w' w'') := fun hs hy w' B a b k1 k2 => by obtain ⟨u, v, rfl, X, Y⟩ := k2.rows; exact pfirst a u v BT YL YH w' k1.brow X Y (Nat.le_trans hs.1 (by decide)) (fun i hi => ⟨Nat.le_trans (hs.2 i hi).1 (by decide), Nat.le_trans (hs.2 i hi).2 (by decide)⟩) (Nat.le_trans hy.1 (by decide)) (Nat.le_trans hy.2 (by decide))
  generalize atH0 (alH BT YL YH) 0 = h0 at HM0 HP0
  generalize atH1 (alH BT YL YH) 0 = h1 at HM0 HP0
  generalize atH2 (alH BT YL YH) 0 = h2 at HM0 HP0
  generalize decide (0 < (alH BT YL YH).length) = rb at HM0 HP0
  obtain ⟨fd, e, rfl, -⟩ := yU
  obtain ⟨gd, f, rfl, -⟩ := yV
  have HSB : Hid (∀ x, SzB BT BT.length x → ¬ x < 0 → ShB BT ∧ 0 ≤ x ∧ x ≤ 1048576) := fun x h h0 => szb_of h h0
  obtain ⟨n, hn⟩ : ∃ n, BT.length = n := ⟨_, rfl⟩
  obtain ⟨k, hk⟩ : ∃ k, YL.length = k := ⟨_, rfl⟩
  obtain ⟨l, hl⟩ : ∃ l, YH.length = l := ⟨_, rfl⟩
  have HN : Hid (YL.length = k ∧ YH.length = l) := ⟨hk, hl⟩
  rw [hn] at HS1 HTB0 HSB ⊢
  rw [hk] at HS1 HSR HTR0 HER0 HM0 HP0 ⊢
  rw [hl] at HS1 HSR HTR0 HER0 HM0 HP0 ⊢
  clear hn hk hl bl bx bU yl yh
  obtain ⟨W1, hW1⟩ : ∃ W1, w.alloc (.cells #[.slice fd k e, .slice gd l f] 32) = W1 := ⟨_, rfl⟩
  have BW : Below w.heap.size w W1 := by rw [← hW1]; exact alloc_b
  have CY : C2 W1 w.heap.size (.slice fd k e) (.slice gd l f) := by rw [← hW1]; exact C2.new w _ _ _
  rw [hW1] at HS1
  go_enter Try.func6, Try.ntmps6
  go_upto_region 5 with (go_at_call 23; refine HS1.out.mono ?_; rintro e1 w2 ⟨⟨x, rfl, hx⟩, B2⟩; (have CY2 := CY.next B2); (have p0 := CY2.c0); (have p1 := CY2.c1))
  · go_ret
    exact ⟨rfl, BW.trans (B2.mono BW.size)⟩
  have hx0 : ¬ x < 0 := by omega
  obtain ⟨hsb, x0, x1⟩ := HSB.out x hx (by omega)
  have HSBB := Hid.mk hsb
  have B02 := BW.trans (B2.mono BW.size)
  clear hx hsb HSB HS1 hW1 CY BW
  go_upto_region 8 with (go_at_call 16; refine (HSR.out _ x B02 x0 x1).mono ?_; rintro e1 w3 ⟨⟨y, rfl, hy⟩, B3⟩; (have CY := CY2.next B3))
  · go_ret
    exact ⟨rfl, B02.trans (B3.mono B02.size)⟩
  have hkl : k ≤ 1048576 ∧ l ≤ 1048576 := by rcases hy with h | ⟨h1, h2, h3⟩; omega; omega
  have HTB := Hid.mk (HTB0.out HSBB.out)
  have HTR := Hid.mk (HTR0.out hkl)
  have HEB := Hid.mk (HEB0.out HSBB.out)
  have HER := Hid.mk (HER0.out hkl)
  have HM := Hid.mk (HM0.out HSBB.out hkl)
  have HP := Hid.mk (HP0.out HSBB.out hkl)
  have BX : Below w.heap.size w w3 := B02.trans (B3.mono B02.size)
  clear hy hkl x0 x1 B2 B3 B02 HSR HTB0 HTR0 HEB0 HER0 HM0 HP0 CY2 p0 p1 HSBB hx0
  go_cut [6, 7] (fun a b wx => ∃ bz : Nat, a = .pointer (some ⟨bz, 0, none⟩) ∧ b = .bool rb ∧ C3 wx bz (.int .i64 h0) (.int .i64 h1) (.int .i64 h2) ∧ Below w3.heap.size w3 wx)
  case first =>
    generalize hWW : w3.drew = WX
    have CY := CY.next (below_drew (Below.refl _ _))
    have BX := below_drew BX
    have BX2 : Below w3.heap.size w3 w3.drew := below_drew (Below.refl _ _)
    rw [hWW] at CY BX BX2
    refine wp_region_held_drew (S := fun v => Below WX.heap.size WX v) (by kernel_rfl) (by rw [hWW]; exact Below.refl _ _) (fun hH => ?_)
    rw [hWW] at hH ⊢
    clear hWW
    refine wpAnyH_take (i := 0) (oi := { dst := some 23, op := Op.move (Operand.tmp 0), type := 42, pos := "exact.go:5556", after := #[], guard := none }) (v := .slice ad n c) rfl (by kernel_rfl) (by kernel_rfl) (by kernel_rfl) (fun _ _ _ h => h) (Or.inl ⟨by rfl, fun w0 hSw => by (go_simp)⟩) hH ?_
    simp only [Act.put, List.setIfInBounds_toArray, List.set_cons_zero, List.set_cons_succ]
    refine wpAnyH_take (i := 2) (oi := { dst := some 25, op := Op.load 32 (Operand.tmp 3), type := 32, pos := "exact.go:5556", after := #[], guard := none }) (v := .agg #[.slice fd k e, .slice gd l f]) rfl (by kernel_rfl) (by kernel_rfl) (by kernel_rfl) (fun _ _ _ h => h) (Or.inl ⟨by rfl, fun w0 hSw => by ((have e0 := cell_nx CY.c0 hSw); (have e1 := cell_nx CY.c1 hSw); go_simp)⟩) hH ?_
    simp only [Act.put, List.setIfInBounds_toArray, List.set_cons_zero, List.set_cons_succ]
    refine wpAnyH_ready (rs := [1, 8]) (by kernel_rfl) (by simp) ?_
    refine (AllReadyH.cons (o := { dst := some 24, op := Op.call { callee := Callee.value (Operand.func 25), args := #[Operand.tmp 23], argTypes := #[42] }, type := 48, pos := "exact.go:5556", after := #[{ on := 0, ground := Ground.data }], guard := none }) rfl (fun K hK => ?_) (AllReadyH.cons (o := { dst := some 6, op := Op.alloc 45, type := 0, pos := "exact.go:5556", after := #[], guard := none }) rfl (fun K hK => ?_) AllReadyH.nil))
    · refine step_callW 25 #[.slice ad n c] (fun z v w' => Bks v.heap.size w' z BT ∧ Below v.heap.size v w') (by rfl) (by go_simp) ((HTB.out _ (BX.trans (hH.mono BX.size))).mono fun e w' h => by first | (obtain ⟨a, h1, h2, h3⟩ := h; exact ⟨_, h1, h2, h3⟩) | (obtain ⟨h1, h3⟩ := h; exact ⟨_, h1, rfl, h3⟩)) ?_
      rintro zb w9 ⟨Pb, B9⟩
      simp only [Act.put, List.setIfInBounds_toArray, List.set_cons_zero, List.set_cons_succ]
      refine hK.out _ _ (hH.trans (B9.mono hH.size)) (fun hH' => ?_)
      clear hK K
      replace hH := hH'
      clear hH' 
      clear B9
      refine wpAnyH_ready (rs := [3, 8]) (by kernel_rfl) (by simp) ?_
      refine (AllReadyH.cons (o := { dst := some 26, op := Op.call { callee := Callee.value (Operand.func 18), args := #[Operand.tmp 25], argTypes := #[32] }, type := 35, pos := "exact.go:5556", after := #[{ on := 2, ground := Ground.data }, { on := 1, ground := Ground.chain }], guard := none }) rfl (fun K hK => ?_) (AllReadyH.cons (o := { dst := some 6, op := Op.alloc 45, type := 0, pos := "exact.go:5556", after := #[], guard := none }) rfl (fun K hK => ?_) AllReadyH.nil))
      · refine step_callW 18 #[.agg #[.slice fd k e, .slice gd l f]] (fun z v w' => Bk w' z YL YH ∧ Below v.heap.size v w') (by rfl) (by go_simp) ((HTR.out _ (BX.trans (hH.mono BX.size))).mono fun e w' h => by first | (obtain ⟨a, h1, h2, h3⟩ := h; exact ⟨_, h1, h2, h3⟩) | (obtain ⟨h1, h3⟩ := h; exact ⟨_, h1, rfl, h3⟩)) ?_
        rintro zr w9 ⟨Pr, B9⟩
        replace Pb := Pb.next B9
        simp only [Act.put, List.setIfInBounds_toArray, List.set_cons_zero, List.set_cons_succ]
        refine hK.out _ _ (hH.trans (B9.mono hH.size)) (fun hH' => ?_)
        clear hK K
        replace hH := hH'
        clear hH' 
        clear B9
        refine wpAnyH_ready (rs := [4, 8]) (by kernel_rfl) (by simp) ?_
        refine (AllReadyH.cons (o := { dst := some 27, op := Op.call { callee := Callee.value (Operand.func 24), args := #[Operand.tmp 24, Operand.tmp 26], argTypes := #[48, 35] }, type := 46, pos := "exact.go:5556", after := #[{ on := 1, ground := Ground.data }, { on := 3, ground := Ground.data }, { on := 3, ground := Ground.chain }], guard := none }) rfl (fun K hK => ?_) (AllReadyH.cons (o := { dst := some 6, op := Op.alloc 45, type := 0, pos := "exact.go:5556", after := #[], guard := none }) rfl (fun K hK => ?_) AllReadyH.nil))
        · refine step_callW 24 #[zb, zr] (fun z v w' => z = .tuple #[.agg #[.int .i64 h0, .int .i64 h1, .int .i64 h2], .bool rb] ∧ Below v.heap.size v w') (by rfl) (by go_simp) ((HM.out _ _ _ _ Pb Pr).mono fun e w' h => by first | (obtain ⟨a, h1, h2, h3⟩ := h; exact ⟨_, h1, h2, h3⟩) | (obtain ⟨h1, h3⟩ := h; exact ⟨_, h1, rfl, h3⟩)) ?_
          rintro z9 w9 ⟨rfl, B9⟩
          replace Pb := Pb.next B9
          replace Pr := Pr.next B9
          simp only [Act.put, List.setIfInBounds_toArray, List.set_cons_zero, List.set_cons_succ]
          refine hK.out _ _ (hH.trans (B9.mono hH.size)) (fun hH' => ?_)
          clear hK K
          replace hH := hH'
          clear hH' 
          clear B9
          refine wpAnyH_take (i := 5) (oi := { dst := some 22, op := Op.move (Operand.tmp 27), type := 46, pos := "exact.go:5556", after := #[{ on := 4, ground := Ground.data }], guard := none }) (v := .tuple #[.agg #[.int .i64 h0, .int .i64 h1, .int .i64 h2], .bool rb]) rfl (by kernel_rfl) (by kernel_rfl) (by kernel_rfl) (fun _ _ _ h => h) (Or.inl ⟨by rfl, fun w0 hSw => by (go_simp)⟩) hH ?_
          simp only [Act.put, List.setIfInBounds_toArray, List.set_cons_zero, List.set_cons_succ]
          refine wpAnyH_take (i := 6) (oi := { dst := some 28, op := Op.extract (Operand.tmp 22) 0, type := 45, pos := "exact.go:5556", after := #[{ on := 5, ground := Ground.data }], guard := none }) (v := .agg #[.int .i64 h0, .int .i64 h1, .int .i64 h2]) rfl (by kernel_rfl) (by kernel_rfl) (by kernel_rfl) (fun _ _ _ h => h) (Or.inl ⟨by rfl, fun w0 hSw => by (go_simp)⟩) hH ?_
          simp only [Act.put, List.setIfInBounds_toArray, List.set_cons_zero, List.set_cons_succ]
          refine wpAnyH_take (i := 7) (oi := { dst := some 29, op := Op.extract (Operand.tmp 22) 1, type := 4, pos := "exact.go:5556", after := #[{ on := 5, ground := Ground.data }, { on := 9, ground := Ground.gcOnly Departure.lateStores }], guard := none }) (v := .bool rb) rfl (by kernel_rfl) (by kernel_rfl) (by kernel_rfl) (fun _ _ _ h => h) (Or.inl ⟨by rfl, fun w0 hSw => by (go_simp)⟩) hH ?_
          simp only [Act.put, List.setIfInBounds_toArray, List.set_cons_zero, List.set_cons_succ]
          refine wpAnyH_ready (rs := [8]) (by kernel_rfl) (by simp) ?_
          refine (AllReadyH.cons (o := { dst := some 6, op := Op.alloc 45, type := 0, pos := "exact.go:5556", after := #[], guard := none }) rfl (fun K hK => ?_) AllReadyH.nil)
          obtain ⟨uA, huA⟩ : ∃ uA, w9.alloc (.cells #[.int .i64 0, .int .i64 0, .int .i64 0] 45) = uA := ⟨_, rfl⟩
          obtain ⟨bz, hbz⟩ : ∃ bz, w9.heap.size = bz := ⟨_, rfl⟩
          have BA9 : Below w9.heap.size w9 uA := by rw [← huA]; exact alloc_b
          have PZ : C3 uA bz (.int .i64 0) (.int .i64 0) (.int .i64 0) := by rw [← huA, ← hbz]; exact C3.new w9 _ _ _ _
          have HZ9 : Hid (WX.heap.size ≤ bz) := by rw [← hbz]; exact hH.size
          refine step_val (.pointer (some ⟨bz, 0, none⟩)) uA rfl (by rw [← huA, ← hbz]; go_simp) ?_
          clear hbz
          replace Pb := Pb.next BA9
          replace Pr := Pr.next BA9
          simp only [Act.put, List.setIfInBounds_toArray, List.set_cons_zero, List.set_cons_succ]
          refine hK.out _ _ (hH.trans (BA9.mono hH.size)) (fun hH' => ?_)
          clear hK K
          replace hH := hH'
          clear hH' 
          clear BA9 huA
          refine wpAnyH_ready (rs := [9]) (by kernel_rfl) (by simp) ?_
          refine (AllReadyH.cons (o := { dst := none, op := Op.store 45 (Operand.tmp 6) (Operand.tmp 28), type := 0, pos := "exact.go:5556", after := #[{ on := 8, ground := Ground.data }, { on := 6, ground := Ground.data }, { on := 4, ground := Ground.chain }, { on := 0, ground := Ground.phase }, { on := 1, ground := Ground.phase }, { on := 2, ground := Ground.phase }, { on := 3, ground := Ground.phase }, { on := 4, ground := Ground.phase }, { on := 5, ground := Ground.phase }, { on := 6, ground := Ground.phase }, { on := 7, ground := Ground.textOnly Departure.lateStores }, { on := 8, ground := Ground.phase }], guard := none }) rfl (fun K hK => ?_) AllReadyH.nil)
          have z0 := PZ.c0
          have z1 := PZ.c1
          have z2 := PZ.c2
          have zf := PZ.f
          have PS := PZ.put (.int .i64 h0) (.int .i64 h1) (.int .i64 h2)
          have BS : Below WX.heap.size WX (((uA.setCell ⟨bz, 0, none⟩ (.int .i64 h0)).setCell ⟨bz, 1, none⟩ (.int .i64 h1)).setCell ⟨bz, 2, none⟩ (.int .i64 h2)) := ((hH.setCell (p := ⟨bz, 0, none⟩) HZ9.out _).setCell (p := ⟨bz, 1, none⟩) HZ9.out _).setCell (p := ⟨bz, 2, none⟩) HZ9.out _
          obtain ⟨wS, hwS⟩ : ∃ wS, (((uA.setCell ⟨bz, 0, none⟩ (.int .i64 h0)).setCell ⟨bz, 1, none⟩ (.int .i64 h1)).setCell ⟨bz, 2, none⟩ (.int .i64 h2)) = wS := ⟨_, rfl⟩
          rw [hwS] at PS BS
          refine step_skip wS (by rfl) (by rw [← hwS]; go_simp) ?_
          simp only [Act.put]
          refine hK.out _ _ BS (fun hH' => ?_)
          clear hK K BS hwS z0 z1 z2 zf PZ
          replace hH := hH'
          clear hH'
          refine wpAnyH_take (i := 10) (oi := { dst := some 7, op := Op.assign (Operand.tmp 29), type := 4, pos := "exact.go:5556", after := #[{ on := 7, ground := Ground.data }, { on := 9, ground := Ground.chain }, { on := 0, ground := Ground.phase }, { on := 1, ground := Ground.phase }, { on := 2, ground := Ground.phase }, { on := 3, ground := Ground.phase }, { on := 4, ground := Ground.phase }, { on := 5, ground := Ground.phase }, { on := 6, ground := Ground.phase }, { on := 7, ground := Ground.phase }, { on := 8, ground := Ground.phase }, { on := 9, ground := Ground.phase }], guard := none }) (v := .bool rb) rfl (by kernel_rfl) (by kernel_rfl) (by kernel_rfl) (fun _ _ _ h => h) (Or.inl ⟨by rfl, fun w0 hSw => by (go_simp)⟩) hH ?_
          simp only [Act.put, List.setIfInBounds_toArray, List.set_cons_zero, List.set_cons_succ]
          refine wpAnyH_done (by kernel_rfl) ?_ _
          go_wp2_with fail
          go_meet
          case rel => exact ⟨bz, rfl, rfl, PS, BX2.trans (hH.mono BX2.size)⟩
        · obtain ⟨uA, huA⟩ : ∃ uA, w9.alloc (.cells #[.int .i64 0, .int .i64 0, .int .i64 0] 45) = uA := ⟨_, rfl⟩
          obtain ⟨bz, hbz⟩ : ∃ bz, w9.heap.size = bz := ⟨_, rfl⟩
          have BA9 : Below w9.heap.size w9 uA := by rw [← huA]; exact alloc_b
          have PZ : C3 uA bz (.int .i64 0) (.int .i64 0) (.int .i64 0) := by rw [← huA, ← hbz]; exact C3.new w9 _ _ _ _
          have HZ9 : Hid (WX.heap.size ≤ bz) := by rw [← hbz]; exact hH.size
          refine step_val (.pointer (some ⟨bz, 0, none⟩)) uA rfl (by rw [← huA, ← hbz]; go_simp) ?_
          clear hbz
          replace Pb := Pb.next BA9
          replace Pr := Pr.next BA9
          simp only [Act.put, List.setIfInBounds_toArray, List.set_cons_zero, List.set_cons_succ]
          refine hK.out _ _ (hH.trans (BA9.mono hH.size)) (fun hH' => ?_)
          clear hK K
          replace hH := hH'
          clear hH' 
          clear BA9 huA
          refine wpAnyH_ready (rs := [4]) (by kernel_rfl) (by simp) ?_
          refine (AllReadyH.cons (o := { dst := some 27, op := Op.call { callee := Callee.value (Operand.func 24), args := #[Operand.tmp 24, Operand.tmp 26], argTypes := #[48, 35] }, type := 46, pos := "exact.go:5556", after := #[{ on := 1, ground := Ground.data }, { on := 3, ground := Ground.data }, { on := 3, ground := Ground.chain }], guard := none }) rfl (fun K hK => ?_) AllReadyH.nil)
          refine step_callW 24 #[zb, zr] (fun z v w' => z = .tuple #[.agg #[.int .i64 h0, .int .i64 h1, .int .i64 h2], .bool rb] ∧ Below v.heap.size v w') (by rfl) (by go_simp) ((HM.out _ _ _ _ Pb Pr).mono fun e w' h => by first | (obtain ⟨a, h1, h2, h3⟩ := h; exact ⟨_, h1, h2, h3⟩) | (obtain ⟨h1, h3⟩ := h; exact ⟨_, h1, rfl, h3⟩)) ?_
          rintro z9 w9 ⟨rfl, B9⟩
          replace Pb := Pb.next B9
          replace Pr := Pr.next B9
          replace PZ := PZ.next B9
          simp only [Act.put, List.setIfInBounds_toArray, List.set_cons_zero, List.set_cons_succ]
          refine hK.out _ _ (hH.trans (B9.mono hH.size)) (fun hH' => ?_)
          clear hK K
          replace hH := hH'
          clear hH' 
          clear B9
          refine wpAnyH_take (i := 5) (oi := { dst := some 22, op := Op.move (Operand.tmp 27), type := 46, pos := "exact.go:5556", after := #[{ on := 4, ground := Ground.data }], guard := none }) (v := .tuple #[.agg #[.int .i64 h0, .int .i64 h1, .int .i64 h2], .bool rb]) rfl (by kernel_rfl) (by kernel_rfl) (by kernel_rfl) (fun _ _ _ h => h) (Or.inl ⟨by rfl, fun w0 hSw => by (go_simp)⟩) hH ?_
          simp only [Act.put, List.setIfInBounds_toArray, List.set_cons_zero, List.set_cons_succ]
          refine wpAnyH_take (i := 6) (oi := { dst := some 28, op := Op.extract (Operand.tmp 22) 0, type := 45, pos := "exact.go:5556", after := #[{ on := 5, ground := Ground.data }], guard := none }) (v := .agg #[.int .i64 h0, .int .i64 h1, .int .i64 h2]) rfl (by kernel_rfl) (by kernel_rfl) (by kernel_rfl) (fun _ _ _ h => h) (Or.inl ⟨by rfl, fun w0 hSw => by (go_simp)⟩) hH ?_
          simp only [Act.put, List.setIfInBounds_toArray, List.set_cons_zero, List.set_cons_succ]
          refine wpAnyH_take (i := 7) (oi := { dst := some 29, op := Op.extract (Operand.tmp 22) 1, type := 4, pos := "exact.go:5556", after := #[{ on := 5, ground := Ground.data }, { on := 9, ground := Ground.gcOnly Departure.lateStores }], guard := none }) (v := .bool rb) rfl (by kernel_rfl) (by kernel_rfl) (by kernel_rfl) (fun _ _ _ h => h) (Or.inl ⟨by rfl, fun w0 hSw => by (go_simp)⟩) hH ?_
          simp only [Act.put, List.setIfInBounds_toArray, List.set_cons_zero, List.set_cons_succ]
          refine wpAnyH_ready (rs := [9]) (by kernel_rfl) (by simp) ?_
          refine (AllReadyH.cons (o := { dst := none, op := Op.store 45 (Operand.tmp 6) (Operand.tmp 28), type := 0, pos := "exact.go:5556", after := #[{ on := 8, ground := Ground.data }, { on := 6, ground := Ground.data }, { on := 4, ground := Ground.chain }, { on := 0, ground := Ground.phase }, { on := 1, ground := Ground.phase }, { on := 2, ground := Ground.phase }, { on := 3, ground := Ground.phase }, { on := 4, ground := Ground.phase }, { on := 5, ground := Ground.phase }, { on := 6, ground := Ground.phase }, { on := 7, ground := Ground.textOnly Departure.lateStores }, { on := 8, ground := Ground.phase }], guard := none }) rfl (fun K hK => ?_) AllReadyH.nil)
          have z0 := PZ.c0
          have z1 := PZ.c1
          have z2 := PZ.c2
          have zf := PZ.f
          have PS := PZ.put (.int .i64 h0) (.int .i64 h1) (.int .i64 h2)
          have BS : Below WX.heap.size WX (((w9.setCell ⟨bz, 0, none⟩ (.int .i64 h0)).setCell ⟨bz, 1, none⟩ (.int .i64 h1)).setCell ⟨bz, 2, none⟩ (.int .i64 h2)) := ((hH.setCell (p := ⟨bz, 0, none⟩) HZ9.out _).setCell (p := ⟨bz, 1, none⟩) HZ9.out _).setCell (p := ⟨bz, 2, none⟩) HZ9.out _
          obtain ⟨wS, hwS⟩ : ∃ wS, (((w9.setCell ⟨bz, 0, none⟩ (.int .i64 h0)).setCell ⟨bz, 1, none⟩ (.int .i64 h1)).setCell ⟨bz, 2, none⟩ (.int .i64 h2)) = wS := ⟨_, rfl⟩
          rw [hwS] at PS BS
          refine step_skip wS (by rfl) (by rw [← hwS]; go_simp) ?_
          simp only [Act.put]
          refine hK.out _ _ BS (fun hH' => ?_)
          clear hK K BS hwS z0 z1 z2 zf PZ
          replace hH := hH'
          clear hH'
          refine wpAnyH_take (i := 10) (oi := { dst := some 7, op := Op.assign (Operand.tmp 29), type := 4, pos := "exact.go:5556", after := #[{ on := 7, ground := Ground.data }, { on := 9, ground := Ground.chain }, { on := 0, ground := Ground.phase }, { on := 1, ground := Ground.phase }, { on := 2, ground := Ground.phase }, { on := 3, ground := Ground.phase }, { on := 4, ground := Ground.phase }, { on := 5, ground := Ground.phase }, { on := 6, ground := Ground.phase }, { on := 7, ground := Ground.phase }, { on := 8, ground := Ground.phase }, { on := 9, ground := Ground.phase }], guard := none }) (v := .bool rb) rfl (by kernel_rfl) (by kernel_rfl) (by kernel_rfl) (fun _ _ _ h => h) (Or.inl ⟨by rfl, fun w0 hSw => by (go_simp)⟩) hH ?_
          simp only [Act.put, List.setIfInBounds_toArray, List.set_cons_zero, List.set_cons_succ]
          refine wpAnyH_done (by kernel_rfl) ?_ _
          go_wp2_with fail
          go_meet
          case rel => exact ⟨bz, rfl, rfl, PS, BX2.trans (hH.mono BX2.size)⟩
      · obtain ⟨uA, huA⟩ : ∃ uA, w9.alloc (.cells #[.int .i64 0, .int .i64 0, .int .i64 0] 45) = uA := ⟨_, rfl⟩
        obtain ⟨bz, hbz⟩ : ∃ bz, w9.heap.size = bz := ⟨_, rfl⟩
        have BA9 : Below w9.heap.size w9 uA := by rw [← huA]; exact alloc_b
        have PZ : C3 uA bz (.int .i64 0) (.int .i64 0) (.int .i64 0) := by rw [← huA, ← hbz]; exact C3.new w9 _ _ _ _
        have HZ9 : Hid (WX.heap.size ≤ bz) := by rw [← hbz]; exact hH.size
        refine step_val (.pointer (some ⟨bz, 0, none⟩)) uA rfl (by rw [← huA, ← hbz]; go_simp) ?_
        clear hbz
        replace Pb := Pb.next BA9
        simp only [Act.put, List.setIfInBounds_toArray, List.set_cons_zero, List.set_cons_succ]
        refine hK.out _ _ (hH.trans (BA9.mono hH.size)) (fun hH' => ?_)
        clear hK K
        replace hH := hH'
        clear hH' 
        clear BA9 huA
        refine wpAnyH_ready (rs := [3]) (by kernel_rfl) (by simp) ?_
        refine (AllReadyH.cons (o := { dst := some 26, op := Op.call { callee := Callee.value (Operand.func 18), args := #[Operand.tmp 25], argTypes := #[32] }, type := 35, pos := "exact.go:5556", after := #[{ on := 2, ground := Ground.data }, { on := 1, ground := Ground.chain }], guard := none }) rfl (fun K hK => ?_) AllReadyH.nil)
        refine step_callW 18 #[.agg #[.slice fd k e, .slice gd l f]] (fun z v w' => Bk w' z YL YH ∧ Below v.heap.size v w') (by rfl) (by go_simp) ((HTR.out _ (BX.trans (hH.mono BX.size))).mono fun e w' h => by first | (obtain ⟨a, h1, h2, h3⟩ := h; exact ⟨_, h1, h2, h3⟩) | (obtain ⟨h1, h3⟩ := h; exact ⟨_, h1, rfl, h3⟩)) ?_
        rintro zr w9 ⟨Pr, B9⟩
        replace Pb := Pb.next B9
        replace PZ := PZ.next B9
        simp only [Act.put, List.setIfInBounds_toArray, List.set_cons_zero, List.set_cons_succ]
        refine hK.out _ _ (hH.trans (B9.mono hH.size)) (fun hH' => ?_)
        clear hK K
        replace hH := hH'
        clear hH' 
        clear B9
        refine wpAnyH_ready (rs := [4]) (by kernel_rfl) (by simp) ?_
        refine (AllReadyH.cons (o := { dst := some 27, op := Op.call { callee := Callee.value (Operand.func 24), args := #[Operand.tmp 24, Operand.tmp 26], argTypes := #[48, 35] }, type := 46, pos := "exact.go:5556", after := #[{ on := 1, ground := Ground.data }, { on := 3, ground := Ground.data }, { on := 3, ground := Ground.chain }], guard := none }) rfl (fun K hK => ?_) AllReadyH.nil)
        refine step_callW 24 #[zb, zr] (fun z v w' => z = .tuple #[.agg #[.int .i64 h0, .int .i64 h1, .int .i64 h2], .bool rb] ∧ Below v.heap.size v w') (by rfl) (by go_simp) ((HM.out _ _ _ _ Pb Pr).mono fun e w' h => by first | (obtain ⟨a, h1, h2, h3⟩ := h; exact ⟨_, h1, h2, h3⟩) | (obtain ⟨h1, h3⟩ := h; exact ⟨_, h1, rfl, h3⟩)) ?_
        rintro z9 w9 ⟨rfl, B9⟩
        replace Pb := Pb.next B9
        replace PZ := PZ.next B9
        replace Pr := Pr.next B9
        simp only [Act.put, List.setIfInBounds_toArray, List.set_cons_zero, List.set_cons_succ]
        refine hK.out _ _ (hH.trans (B9.mono hH.size)) (fun hH' => ?_)
        clear hK K
        replace hH := hH'
        clear hH' 
        clear B9
        refine wpAnyH_take (i := 5) (oi := { dst := some 22, op := Op.move (Operand.tmp 27), type := 46, pos := "exact.go:5556", after := #[{ on := 4, ground := Ground.data }], guard := none }) (v := .tuple #[.agg #[.int .i64 h0, .int .i64 h1, .int .i64 h2], .bool rb]) rfl (by kernel_rfl) (by kernel_rfl) (by kernel_rfl) (fun _ _ _ h => h) (Or.inl ⟨by rfl, fun w0 hSw => by (go_simp)⟩) hH ?_
        simp only [Act.put, List.setIfInBounds_toArray, List.set_cons_zero, List.set_cons_succ]
        refine wpAnyH_take (i := 6) (oi := { dst := some 28, op := Op.extract (Operand.tmp 22) 0, type := 45, pos := "exact.go:5556", after := #[{ on := 5, ground := Ground.data }], guard := none }) (v := .agg #[.int .i64 h0, .int .i64 h1, .int .i64 h2]) rfl (by kernel_rfl) (by kernel_rfl) (by kernel_rfl) (fun _ _ _ h => h) (Or.inl ⟨by rfl, fun w0 hSw => by (go_simp)⟩) hH ?_
        simp only [Act.put, List.setIfInBounds_toArray, List.set_cons_zero, List.set_cons_succ]
        refine wpAnyH_take (i := 7) (oi := { dst := some 29, op := Op.extract (Operand.tmp 22) 1, type := 4, pos := "exact.go:5556", after := #[{ on := 5, ground := Ground.data }, { on := 9, ground := Ground.gcOnly Departure.lateStores }], guard := none }) (v := .bool rb) rfl (by kernel_rfl) (by kernel_rfl) (by kernel_rfl) (fun _ _ _ h => h) (Or.inl ⟨by rfl, fun w0 hSw => by (go_simp)⟩) hH ?_
        simp only [Act.put, List.setIfInBounds_toArray, List.set_cons_zero, List.set_cons_succ]
        refine wpAnyH_ready (rs := [9]) (by kernel_rfl) (by simp) ?_
        refine (AllReadyH.cons (o := { dst := none, op := Op.store 45 (Operand.tmp 6) (Operand.tmp 28), type := 0, pos := "exact.go:5556", after := #[{ on := 8, ground := Ground.data }, { on := 6, ground := Ground.data }, { on := 4, ground := Ground.chain }, { on := 0, ground := Ground.phase }, { on := 1, ground := Ground.phase }, { on := 2, ground := Ground.phase }, { on := 3, ground := Ground.phase }, { on := 4, ground := Ground.phase }, { on := 5, ground := Ground.phase }, { on := 6, ground := Ground.phase }, { on := 7, ground := Ground.textOnly Departure.lateStores }, { on := 8, ground := Ground.phase }], guard := none }) rfl (fun K hK => ?_) AllReadyH.nil)
        have z0 := PZ.c0
        have z1 := PZ.c1
        have z2 := PZ.c2
        have zf := PZ.f
        have PS := PZ.put (.int .i64 h0) (.int .i64 h1) (.int .i64 h2)
        have BS : Below WX.heap.size WX (((w9.setCell ⟨bz, 0, none⟩ (.int .i64 h0)).setCell ⟨bz, 1, none⟩ (.int .i64 h1)).setCell ⟨bz, 2, none⟩ (.int .i64 h2)) := ((hH.setCell (p := ⟨bz, 0, none⟩) HZ9.out _).setCell (p := ⟨bz, 1, none⟩) HZ9.out _).setCell (p := ⟨bz, 2, none⟩) HZ9.out _
        obtain ⟨wS, hwS⟩ : ∃ wS, (((w9.setCell ⟨bz, 0, none⟩ (.int .i64 h0)).setCell ⟨bz, 1, none⟩ (.int .i64 h1)).setCell ⟨bz, 2, none⟩ (.int .i64 h2)) = wS := ⟨_, rfl⟩
        rw [hwS] at PS BS
        refine step_skip wS (by rfl) (by rw [← hwS]; go_simp) ?_
        simp only [Act.put]
        refine hK.out _ _ BS (fun hH' => ?_)
        clear hK K BS hwS z0 z1 z2 zf PZ
        replace hH := hH'
        clear hH'
        refine wpAnyH_take (i := 10) (oi := { dst := some 7, op := Op.assign (Operand.tmp 29), type := 4, pos := "exact.go:5556", after := #[{ on := 7, ground := Ground.data }, { on := 9, ground := Ground.chain }, { on := 0, ground := Ground.phase }, { on := 1, ground := Ground.phase }, { on := 2, ground := Ground.phase }, { on := 3, ground := Ground.phase }, { on := 4, ground := Ground.phase }, { on := 5, ground := Ground.phase }, { on := 6, ground := Ground.phase }, { on := 7, ground := Ground.phase }, { on := 8, ground := Ground.phase }, { on := 9, ground := Ground.phase }], guard := none }) (v := .bool rb) rfl (by kernel_rfl) (by kernel_rfl) (by kernel_rfl) (fun _ _ _ h => h) (Or.inl ⟨by rfl, fun w0 hSw => by (go_simp)⟩) hH ?_
        simp only [Act.put, List.setIfInBounds_toArray, List.set_cons_zero, List.set_cons_succ]
        refine wpAnyH_done (by kernel_rfl) ?_ _
        go_wp2_with fail
        go_meet
        case rel => exact ⟨bz, rfl, rfl, PS, BX2.trans (hH.mono BX2.size)⟩
    · obtain ⟨uA, huA⟩ : ∃ uA, WX.alloc (.cells #[.int .i64 0, .int .i64 0, .int .i64 0] 45) = uA := ⟨_, rfl⟩
      obtain ⟨bz, hbz⟩ : ∃ bz, WX.heap.size = bz := ⟨_, rfl⟩
      have BA9 : Below WX.heap.size WX uA := by rw [← huA]; exact alloc_b
      have PZ : C3 uA bz (.int .i64 0) (.int .i64 0) (.int .i64 0) := by rw [← huA, ← hbz]; exact C3.new WX _ _ _ _
      have HZ9 : Hid (WX.heap.size ≤ bz) := by rw [← hbz]; exact hH.size
      refine step_val (.pointer (some ⟨bz, 0, none⟩)) uA rfl (by rw [← huA, ← hbz]; go_simp) ?_
      clear hbz
      simp only [Act.put, List.setIfInBounds_toArray, List.set_cons_zero, List.set_cons_succ]
      refine hK.out _ _ (hH.trans (BA9.mono hH.size)) (fun hH' => ?_)
      clear hK K
      replace hH := hH'
      clear hH' 
      clear BA9 huA
      refine wpAnyH_ready (rs := [1]) (by kernel_rfl) (by simp) ?_
      refine (AllReadyH.cons (o := { dst := some 24, op := Op.call { callee := Callee.value (Operand.func 25), args := #[Operand.tmp 23], argTypes := #[42] }, type := 48, pos := "exact.go:5556", after := #[{ on := 0, ground := Ground.data }], guard := none }) rfl (fun K hK => ?_) AllReadyH.nil)
      refine step_callW 25 #[.slice ad n c] (fun z v w' => Bks v.heap.size w' z BT ∧ Below v.heap.size v w') (by rfl) (by go_simp) ((HTB.out _ (BX.trans (hH.mono BX.size))).mono fun e w' h => by first | (obtain ⟨a, h1, h2, h3⟩ := h; exact ⟨_, h1, h2, h3⟩) | (obtain ⟨h1, h3⟩ := h; exact ⟨_, h1, rfl, h3⟩)) ?_
      rintro zb w9 ⟨Pb, B9⟩
      replace PZ := PZ.next B9
      simp only [Act.put, List.setIfInBounds_toArray, List.set_cons_zero, List.set_cons_succ]
      refine hK.out _ _ (hH.trans (B9.mono hH.size)) (fun hH' => ?_)
      clear hK K
      replace hH := hH'
      clear hH' 
      clear B9
      refine wpAnyH_ready (rs := [3]) (by kernel_rfl) (by simp) ?_
      refine (AllReadyH.cons (o := { dst := some 26, op := Op.call { callee := Callee.value (Operand.func 18), args := #[Operand.tmp 25], argTypes := #[32] }, type := 35, pos := "exact.go:5556", after := #[{ on := 2, ground := Ground.data }, { on := 1, ground := Ground.chain }], guard := none }) rfl (fun K hK => ?_) AllReadyH.nil)
      refine step_callW 18 #[.agg #[.slice fd k e, .slice gd l f]] (fun z v w' => Bk w' z YL YH ∧ Below v.heap.size v w') (by rfl) (by go_simp) ((HTR.out _ (BX.trans (hH.mono BX.size))).mono fun e w' h => by first | (obtain ⟨a, h1, h2, h3⟩ := h; exact ⟨_, h1, h2, h3⟩) | (obtain ⟨h1, h3⟩ := h; exact ⟨_, h1, rfl, h3⟩)) ?_
      rintro zr w9 ⟨Pr, B9⟩
      replace PZ := PZ.next B9
      replace Pb := Pb.next B9
      simp only [Act.put, List.setIfInBounds_toArray, List.set_cons_zero, List.set_cons_succ]
      refine hK.out _ _ (hH.trans (B9.mono hH.size)) (fun hH' => ?_)
      clear hK K
      replace hH := hH'
      clear hH' 
      clear B9
      refine wpAnyH_ready (rs := [4]) (by kernel_rfl) (by simp) ?_
      refine (AllReadyH.cons (o := { dst := some 27, op := Op.call { callee := Callee.value (Operand.func 24), args := #[Operand.tmp 24, Operand.tmp 26], argTypes := #[48, 35] }, type := 46, pos := "exact.go:5556", after := #[{ on := 1, ground := Ground.data }, { on := 3, ground := Ground.data }, { on := 3, ground := Ground.chain }], guard := none }) rfl (fun K hK => ?_) AllReadyH.nil)
      refine step_callW 24 #[zb, zr] (fun z v w' => z = .tuple #[.agg #[.int .i64 h0, .int .i64 h1, .int .i64 h2], .bool rb] ∧ Below v.heap.size v w') (by rfl) (by go_simp) ((HM.out _ _ _ _ Pb Pr).mono fun e w' h => by first | (obtain ⟨a, h1, h2, h3⟩ := h; exact ⟨_, h1, h2, h3⟩) | (obtain ⟨h1, h3⟩ := h; exact ⟨_, h1, rfl, h3⟩)) ?_
      rintro z9 w9 ⟨rfl, B9⟩
      replace PZ := PZ.next B9
      replace Pb := Pb.next B9
      replace Pr := Pr.next B9
      simp only [Act.put, List.setIfInBounds_toArray, List.set_cons_zero, List.set_cons_succ]
      refine hK.out _ _ (hH.trans (B9.mono hH.size)) (fun hH' => ?_)
      clear hK K
      replace hH := hH'
      clear hH' 
      clear B9
      refine wpAnyH_take (i := 5) (oi := { dst := some 22, op := Op.move (Operand.tmp 27), type := 46, pos := "exact.go:5556", after := #[{ on := 4, ground := Ground.data }], guard := none }) (v := .tuple #[.agg #[.int .i64 h0, .int .i64 h1, .int .i64 h2], .bool rb]) rfl (by kernel_rfl) (by kernel_rfl) (by kernel_rfl) (fun _ _ _ h => h) (Or.inl ⟨by rfl, fun w0 hSw => by (go_simp)⟩) hH ?_
      simp only [Act.put, List.setIfInBounds_toArray, List.set_cons_zero, List.set_cons_succ]
      refine wpAnyH_take (i := 6) (oi := { dst := some 28, op := Op.extract (Operand.tmp 22) 0, type := 45, pos := "exact.go:5556", after := #[{ on := 5, ground := Ground.data }], guard := none }) (v := .agg #[.int .i64 h0, .int .i64 h1, .int .i64 h2]) rfl (by kernel_rfl) (by kernel_rfl) (by kernel_rfl) (fun _ _ _ h => h) (Or.inl ⟨by rfl, fun w0 hSw => by (go_simp)⟩) hH ?_
      simp only [Act.put, List.setIfInBounds_toArray, List.set_cons_zero, List.set_cons_succ]
      refine wpAnyH_take (i := 7) (oi := { dst := some 29, op := Op.extract (Operand.tmp 22) 1, type := 4, pos := "exact.go:5556", after := #[{ on := 5, ground := Ground.data }, { on := 9, ground := Ground.gcOnly Departure.lateStores }], guard := none }) (v := .bool rb) rfl (by kernel_rfl) (by kernel_rfl) (by kernel_rfl) (fun _ _ _ h => h) (Or.inl ⟨by rfl, fun w0 hSw => by (go_simp)⟩) hH ?_
      simp only [Act.put, List.setIfInBounds_toArray, List.set_cons_zero, List.set_cons_succ]
      refine wpAnyH_ready (rs := [9]) (by kernel_rfl) (by simp) ?_
      refine (AllReadyH.cons (o := { dst := none, op := Op.store 45 (Operand.tmp 6) (Operand.tmp 28), type := 0, pos := "exact.go:5556", after := #[{ on := 8, ground := Ground.data }, { on := 6, ground := Ground.data }, { on := 4, ground := Ground.chain }, { on := 0, ground := Ground.phase }, { on := 1, ground := Ground.phase }, { on := 2, ground := Ground.phase }, { on := 3, ground := Ground.phase }, { on := 4, ground := Ground.phase }, { on := 5, ground := Ground.phase }, { on := 6, ground := Ground.phase }, { on := 7, ground := Ground.textOnly Departure.lateStores }, { on := 8, ground := Ground.phase }], guard := none }) rfl (fun K hK => ?_) AllReadyH.nil)
      have z0 := PZ.c0
      have z1 := PZ.c1
      have z2 := PZ.c2
      have zf := PZ.f
      have PS := PZ.put (.int .i64 h0) (.int .i64 h1) (.int .i64 h2)
      have BS : Below WX.heap.size WX (((w9.setCell ⟨bz, 0, none⟩ (.int .i64 h0)).setCell ⟨bz, 1, none⟩ (.int .i64 h1)).setCell ⟨bz, 2, none⟩ (.int .i64 h2)) := ((hH.setCell (p := ⟨bz, 0, none⟩) HZ9.out _).setCell (p := ⟨bz, 1, none⟩) HZ9.out _).setCell (p := ⟨bz, 2, none⟩) HZ9.out _
      obtain ⟨wS, hwS⟩ : ∃ wS, (((w9.setCell ⟨bz, 0, none⟩ (.int .i64 h0)).setCell ⟨bz, 1, none⟩ (.int .i64 h1)).setCell ⟨bz, 2, none⟩ (.int .i64 h2)) = wS := ⟨_, rfl⟩
      rw [hwS] at PS BS
      refine step_skip wS (by rfl) (by rw [← hwS]; go_simp) ?_
      simp only [Act.put]
      refine hK.out _ _ BS (fun hH' => ?_)
      clear hK K BS hwS z0 z1 z2 zf PZ
      replace hH := hH'
      clear hH'
      refine wpAnyH_take (i := 10) (oi := { dst := some 7, op := Op.assign (Operand.tmp 29), type := 4, pos := "exact.go:5556", after := #[{ on := 7, ground := Ground.data }, { on := 9, ground := Ground.chain }, { on := 0, ground := Ground.phase }, { on := 1, ground := Ground.phase }, { on := 2, ground := Ground.phase }, { on := 3, ground := Ground.phase }, { on := 4, ground := Ground.phase }, { on := 5, ground := Ground.phase }, { on := 6, ground := Ground.phase }, { on := 7, ground := Ground.phase }, { on := 8, ground := Ground.phase }, { on := 9, ground := Ground.phase }], guard := none }) (v := .bool rb) rfl (by kernel_rfl) (by kernel_rfl) (by kernel_rfl) (fun _ _ _ h => h) (Or.inl ⟨by rfl, fun w0 hSw => by (go_simp)⟩) hH ?_
      simp only [Act.put, List.setIfInBounds_toArray, List.set_cons_zero, List.set_cons_succ]
      refine wpAnyH_done (by kernel_rfl) ?_ _
      go_wp2_with fail
      go_meet
      case rel => exact ⟨bz, rfl, rfl, PS, BX2.trans (hH.mono BX2.size)⟩
  case rest =>
    obtain ⟨bz, rfl, rfl, CZ, B4⟩ := hcut
    have BX := BX.trans (B4.mono BX.size)
    have CY := CY.next B4
    clear B4 HM
    generalize hwc : wc = w4 at *
    clear hwc
    cases rb
    all_goals
      go_upto_region 16 with (first
      | (go_at_call 25; refine (HTB.out _ BX).mono ?_; rintro e1 w5 ⟨a5, rfl, P5, B5⟩; (have BX5 := BX.trans (B5.mono BX.size)); (have CY5 := CY.next B5); (have CZ5 := CZ.next B5); (have p0 := CY5.c0); (have p1 := CY5.c1); clear CY CZ B5 BX)
      | (go_at_call 18; refine (HTR.out _ BX5).mono ?_; rintro e1 w6 ⟨a6, rfl, P6, B6⟩; (obtain ⟨g6, k6, e6, o1, o2⟩ := P6); rw [HN.out.1, HN.out.2] at e6; subst e6; (have P6 : Bk w6 (.agg #[.slice (some ⟨g6, 0, none⟩) k k, .slice (some ⟨k6, 0, none⟩) l l]) YL YH := ⟨g6, k6, by rw [HN.out.1, HN.out.2], o1, o2⟩); (obtain ⟨W7, hW7⟩ : ∃ W7, w6.alloc (.cells #[.slice (some ⟨g6, 0, none⟩) k k, .slice (some ⟨k6, 0, none⟩) l l] 35) = W7 := ⟨_, rfl⟩); (have B7 : Below w6.heap.size w6 W7 := by rw [← hW7]; exact alloc_b); (have B7' := B6.trans (B7.mono B6.size)); (have DY : C2 W7 w6.heap.size (.slice (some ⟨g6, 0, none⟩) k k) (.slice (some ⟨k6, 0, none⟩) l l) := by rw [← hW7]; exact C2.new w6 _ _ _); (have P5 := P5.next B7'); (have P6 := P6.next B7); (have CY7 := CY5.next B7'); (have CZ7 := CZ5.next B7'); (have BX7 := BX5.trans (B7'.mono BX5.size)); clear p0 p1 CY5 CZ5 B6 B7 B7' o1 o2 BX5; (have d0 := DY.c0); (have d1 := DY.c1))
      | (go_at_call 26; refine (HP.out _ _ _ _ P5 P6).mono ?_; rintro e1 w8 ⟨rfl, B8⟩; (obtain ⟨W9, hW9⟩ : ∃ W9, w8.alloc (.cells #[.int .i64 h0, .int .i64 h1, .int .i64 h2] 45) = W9 := ⟨_, rfl⟩); (have B9 : Below w8.heap.size w8 W9 := by rw [← hW9]; exact alloc_b); (have B9' := B8.trans (B9.mono B8.size)); (have DX : C3 W9 w8.heap.size (.int .i64 h0) (.int .i64 h1) (.int .i64 h2) := by rw [← hW9]; exact C3.new w8 _ _ _ _); (have P5 := P5.next B9'); (have P6 := P6.next B9'); (have CY9 := CY7.next B9'); (have CZ9 := CZ7.next B9'); (have DY9 := DY.next B9'); (have BX9 := BX7.trans (B9'.mono BX7.size)); clear d0 d1 CY7 CZ7 DY B8 B9 B9' BX7; (have x0 := DX.c0); (have x1 := DX.c1); (have x2 := DX.c2); (have y0 := CZ9.c0); (have y1 := CZ9.c1); (have y2 := CZ9.c2))
      | (go_at_call 27; refine (eqOneH h0 h1 h2 _).mono ?_; rintro e1 w10 ⟨rfl, B10⟩; (have P5 := P5.next B10); (have P6 := P6.next B10); (have CY10 := CY9.next B10); (have DY10 := DY9.next B10); (have BX10 := BX9.trans (B10.mono BX9.size)); clear x0 x1 x2 y0 y1 y2 DX CZ9 CY9 DY9 B10 BX9)
      | (go_at_call 25; refine (HTB.out _ BX10).mono ?_; rintro e1 w11 ⟨a11, rfl, P11, B11⟩; (have P5 := P5.next B11); (have P6 := P6.next B11); (have CY11 := CY10.next B11); (have DY11 := DY10.next B11); (have BX11 := BX10.trans (B11.mono BX10.size)); clear CY10 DY10 B11 BX10)
      | (go_at_call 28; refine (HEB.out _ _ _ _ _ P5 P11).mono ?_; rintro e1 w12 ⟨rfl, B12⟩; (have PY := P6.next B12); (have CY := CY11.next B12); (have DY := DY11.next B12); (have BX := BX11.trans (B12.mono BX11.size)); clear CY11 DY11 P5 P6 P11 B12 BX11))
      generalize hWW : w12.drew = WX
      have CY := CY.next (below_drew (Below.refl _ _))
      have DY := DY.next (below_drew (Below.refl _ _))
      have PY := PY.next (below_drew (Below.refl _ _))
      have BX := below_drew BX
      have BX2 : Below w12.heap.size w12 w12.drew := below_drew (Below.refl _ _)
      rw [hWW] at CY DY PY BX BX2
      refine wp_region_held_drew (S := fun v => Below WX.heap.size WX v) (by kernel_rfl) (by rw [hWW]; exact Below.refl _ _) (fun hH => ?_)
      rw [hWW] at hH ⊢
      clear hWW
      refine wpAnyH_take (i := 0) (oi := { dst := some 54, op := Op.load 35 (Operand.tmp 9), type := 35, pos := "exact.go:5566", after := #[], guard := none }) (v := .agg #[.slice (some ⟨g6, 0, none⟩) k k, .slice (some ⟨k6, 0, none⟩) l l]) rfl (by kernel_rfl) (by kernel_rfl) (by kernel_rfl) (fun _ _ _ h => h) (Or.inl ⟨by rfl, fun w0 hSw => by ((have e0 := cell_nx DY.c0 hSw); (have e1 := cell_nx DY.c1 hSw); go_simp)⟩) hH ?_
      simp only [Act.put, List.setIfInBounds_toArray, List.set_cons_zero, List.set_cons_succ]
      refine wpAnyH_take (i := 1) (oi := { dst := some 55, op := Op.load 32 (Operand.tmp 3), type := 32, pos := "exact.go:5566", after := #[], guard := none }) (v := .agg #[.slice fd k e, .slice gd l f]) rfl (by kernel_rfl) (by kernel_rfl) (by kernel_rfl) (fun _ _ _ h => h) (Or.inl ⟨by rfl, fun w0 hSw => by ((have e0 := cell_nx CY.c0 hSw); (have e1 := cell_nx CY.c1 hSw); go_simp)⟩) hH ?_
      simp only [Act.put, List.setIfInBounds_toArray, List.set_cons_zero, List.set_cons_succ]
      refine wpAnyH_ready (rs := [2]) (by kernel_rfl) (by simp) ?_
      refine (AllReadyH.cons (o := { dst := some 56, op := Op.call { callee := Callee.value (Operand.func 18), args := #[Operand.tmp 55], argTypes := #[32] }, type := 35, pos := "exact.go:5566", after := #[{ on := 1, ground := Ground.data }], guard := none }) rfl (fun K hK => ?_) AllReadyH.nil)
      refine step_callW 18 #[.agg #[.slice fd k e, .slice gd l f]] (fun z v w' => Bk w' z YL YH ∧ Below v.heap.size v w') (by rfl) (by go_simp) ((HTR.out _ (BX.trans (hH.mono BX.size))).mono fun e w' h => by first | (obtain ⟨a, h1, h2, h3⟩ := h; exact ⟨_, h1, h2, h3⟩) | (obtain ⟨h1, h3⟩ := h; exact ⟨_, h1, rfl, h3⟩)) ?_
      rintro zr w9 ⟨Pr, B9⟩
      replace PY := PY.next B9
      simp only [Act.put, List.setIfInBounds_toArray, List.set_cons_zero, List.set_cons_succ]
      refine hK.out _ _ (hH.trans (B9.mono hH.size)) (fun hH' => ?_)
      clear hK K
      replace hH := hH'
      clear hH' 
      clear B9
      refine wpAnyH_ready (rs := [3]) (by kernel_rfl) (by simp) ?_
      refine (AllReadyH.cons (o := { dst := some 57, op := Op.call { callee := Callee.value (Operand.func 20), args := #[Operand.tmp 54, Operand.tmp 56], argTypes := #[35, 35] }, type := 4, pos := "exact.go:5566", after := #[{ on := 0, ground := Ground.data }, { on := 2, ground := Ground.data }, { on := 2, ground := Ground.chain }], guard := none }) rfl (fun K hK => ?_) AllReadyH.nil)
      refine step_callW 20 #[.agg #[.slice (some ⟨g6, 0, none⟩) k k, .slice (some ⟨k6, 0, none⟩) l l], zr] (fun z v w' => z = .bool true ∧ Below v.heap.size v w') (by rfl) (by go_simp) ((HER.out _ _ _ PY Pr).mono fun e w' h => by first | (obtain ⟨a, h1, h2, h3⟩ := h; exact ⟨_, h1, h2, h3⟩) | (obtain ⟨h1, h3⟩ := h; exact ⟨_, h1, rfl, h3⟩)) ?_
      rintro z9 w9 ⟨rfl, B9⟩
      replace PY := PY.next B9
      replace Pr := Pr.next B9
      simp only [Act.put, List.setIfInBounds_toArray, List.set_cons_zero, List.set_cons_succ]
      refine hK.out _ _ (hH.trans (B9.mono hH.size)) (fun hH' => ?_)
      clear hK K
      replace hH := hH'
      clear hH' 
      clear B9
      refine wpAnyH_take (i := 4) (oi := { dst := some 58, op := Op.unOp UnOp.not 4 (Operand.tmp 57), type := 4, pos := "exact.go:5566", after := #[{ on := 3, ground := Ground.data }], guard := none }) (v := .bool false) rfl (by kernel_rfl) (by kernel_rfl) (by kernel_rfl) (fun _ _ _ h => h) (Or.inl ⟨by rfl, fun w0 hSw => by (go_simp)⟩) hH ?_
      simp only [Act.put, List.setIfInBounds_toArray, List.set_cons_zero, List.set_cons_succ]
      refine wpAnyH_done (by kernel_rfl) ?_ _
      go_wp2
      go_ret
      exact ⟨rfl, BX.trans (hH.mono BX.size)⟩

set_option maxRecDepth 100000 in
theorem lifted (os : Os) (started : os.Started) (H : Type) (enc : TypeId × Value → H) :
    ReturnsInHanded {} Try.checked os 6 .any (Rows.fnExactFirstHitSpec.pre6 enc Try.prog Try.f6 Rows.fnExactFirstHitRow.domain false) (Rows.fnExactFirstHitSpec.post enc Try.prog Try.f6 false true false false) := by
  refine returnsInHanded_of_change (C := Try.checked) own started (by kernel_rfl) Try.func6
    (ChangeSpec.witness6 (enc := enc) (C := Try.checked) false ⟨#[], #[.slice none 0 0, .agg #[.slice none 0 0, .slice none 0 0]], []⟩ 8 (by kernel_rfl) (by kernel_rfl) (by kernel_rfl) (by kernel_rfl)) ?_
  intro W base args ds gs before hval0 hW hcnd _
  have hval : ∀ (j : Nat) t v, Try.f6.params[j]? = some t → args[j]? = some v → Value.okWide Try.prog W .any base t v := hval0
  have hW' := hW
  obtain ⟨p, q, hA0, hV, rfl, hfz, hnd⟩ := hW
  have hA : DataW.TrodAll enc Try.prog W 0 (fun _ => true) true Try.f6.params.toList args.toList ds p := hA0
  rw [Try.params6] at hA hval
  obtain ⟨v0, vs0, d0, ds0, p0, q0, hargs, rfl, rfl, h0, r0⟩ := trodAll_cons hA
  obtain ⟨v1, vs1, d1, ds1, p1, q1, rfl, rfl, rfl, h1, r1⟩ := trodAll_cons r0
  obtain ⟨rfl, rfl, rfl⟩ := trodAll_nil r1
  obtain rfl : args = #[v0, v1] := by cases args; simp_all
  obtain ⟨rfl, rfl⟩ := trodVars_none hV
  simp only [List.append_nil] at hW'
  have k0 := h0
  have lt0 : ∀ x ∈ p0, x.block < W.heap.size := fun x hx => by have := hW'.lt x (by simp [hx]); simpa using this
  obtain ⟨ad, c, BT, rfl, bU, bl, bx⟩ := viewL Try.underlying42 Try.underlying24 (by kernel_rfl) rfl rfl (by kernel_rfl) (by kernel_rfl) Try.underlying22 Try.underlying22 Try.underlying3 (by kernel_rfl) (hval 0 42 v0 rfl rfl) h0
  have arg0 : ∀ (W' : World), Below W.heap.size W W' → DataW.Trod enc Try.prog W' 0 (fun b => decide (b < W.heap.size)) true 42 (.slice ad BT.length c) d0 p0 := fun W' hn => Below.trod laidOut (by kernel_rfl) (of_decide_eq_true (by kernel_rfl)) k0 hn lt0
  have k1 := h1
  have lt1 : ∀ x ∈ p1, x.block < W.heap.size := fun x hx => by have := hW'.lt x (by simp [hx]); simpa using this
  obtain ⟨yu, yv, YL, YH, rfl, yU, yV, yl, yh⟩ := view2 Try.underlying32 (by kernel_rfl) rfl rfl (by kernel_rfl) (by kernel_rfl) Try.underlying22 Try.underlying22 Try.underlying3 (by kernel_rfl) (hval 1 32 v1 rfl rfl) h1
  have arg1 : ∀ (W' : World), Below W.heap.size W W' → DataW.Trod enc Try.prog W' 0 (fun b => decide (b < W.heap.size)) true 32 (.agg #[yu, yv]) d1 p1 := fun W' hn => Below.trod laidOut (by kernel_rfl) (of_decide_eq_true (by kernel_rfl)) k1 hn lt1
  clear hA0 hval0
  refine (walk W ad c BT bU bl bx yu yv YL YH yU yV yl yh).mono fun e W' ⟨he, hg⟩ => ?_
  subst he
  refine ⟨_, rfl, _, _, _, [], p0 ++ (p1 ++ []), [], hW', (trodAll_cons_mk (shut_bool Try.underlying4 _) trodAll_mk0), (trodAll_cons_mk (arg0 _ hg) (trodAll_cons_mk (arg1 _ hg) trodAll_mk0)), rfl, hg.frame _, fun h => by cases h⟩
theorem over : Rows.fnExactFirstHitRow.holds Try.pinned (OpenSpec.ofChange Rows.fnExactFirstHitSpec) :=
  OpenClaim.holds_of_wide 6 Try.f6 rfl rfl rfl rfl rfl rfl rfl ⟨rfl, rfl, rfl, rfl, rfl⟩ rfl rfl rfl rfl rfl (by kernel_rfl) Try.func6 (by kernel_rfl)
    (of_decide_eq_true (by kernel_rfl)) (by unfold Func.isWrapper; first | (rw [if_pos (by decide +kernel)]; kernel_rfl) | (rw [if_neg (by decide +kernel)]; exact ⟨rfl, rfl⟩))
    (fun os started H enc _ => lifted os started H enc)
end Go.Proofs.Ytngmaeinehfimaa.fnExactFirstHit
namespace Go.Proofs.Ytngmaeinehfimaa
theorem firstHit : Rows.FnExactFirstHitSaid := fnExactFirstHit.over
#print axioms firstHit
end Go.Proofs.Ytngmaeinehfimaa
