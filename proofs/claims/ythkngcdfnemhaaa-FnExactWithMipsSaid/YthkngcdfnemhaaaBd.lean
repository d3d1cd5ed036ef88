/- The program's halved. -/
import Derived.Test.YthkngcdfnemhaaaBc
import Derived.Deep.DeepCutAuto
import Derived.Deep.CutBlock
namespace Go.Proofs.Ythkngcdfnemhaaa
open Go.ChangeShapes Go.WideShapes Go.ChangeAt Go.RowKit
set_option linter.unusedVariables false
theorem half_in {A : Int} (hA : gS A) {X : Nat} (hX : X < (sdI A 1).toNat) : 2 * (X : Int) + (mn2 A : Nat) ≤ A := by
  rcases hA with rfl | rfl | rfl | rfl | rfl
  · have e1 : (sdI 1 1).toNat = 1 := by decide
    have e2 : mn2 1 = 1 := by decide
    omega
  · have e1 : (sdI 2 1).toNat = 1 := by decide
    have e2 : mn2 2 = 2 := by decide
    omega
  · have e1 : (sdI 4 1).toNat = 2 := by decide
    have e2 : mn2 4 = 2 := by decide
    omega
  · have e1 : (sdI 8 1).toNat = 4 := by decide
    have e2 : mn2 8 = 2 := by decide
    omega
  · have e1 : (sdI 16 1).toNat = 8 := by decide
    have e2 : mn2 16 = 2 := by decide
    omega
theorem gS_bnd {A : Int} (hA : gS A) : 1 ≤ A ∧ A ≤ 16 := by rcases hA with rfl | rfl | rfl | rfl | rfl <;> decide
theorem sd1_bnd {A : Int} (hA : gS A) : 1 ≤ (sdI A 1).toNat ∧ (sdI A 1).toNat ≤ 8 := by rcases hA with rfl | rfl | rfl | rfl | rfl <;> decide
set_option maxRecDepth 100000 in
set_option maxHeartbeats 4000000 in
theorem phalved (l : Int) (hf : l = 1 ∨ l = 2 ∨ l = 3) (A H : Int) (hA : gS A) (hH : gS H) (u : Value) (L : List Int) (w : World) (R : BRow w u L) (bf : ∀ j, j < L.length → 0 ≤ L.getD j 0 ∧ L.getD j 0 ≤ 255) (hl : (L.length : Int) = A * H * (szF l : Int)) (hlk : L.length ≤ 1048576) :
    Calls Try.prog 58 #[.agg #[.int .i64 A, .int .i64 H, fmV l, u]] w fun e w' => ∃ v, e = .returned (.agg #[.int .i64 (sdI A 1), .int .i64 (sdI H 1), fmV l, v]) ∧ Y8 w.heap.size w' v (nxL l A H L (sdI A 1).toNat (sdI H 1).toNat) ∧ Below w.heap.size w w' := by
  obtain ⟨a0, a1⟩ := gS_bnd hA
  obtain ⟨b0, b1⟩ := gS_bnd hH
  have HJ : Hid (∀ X Y : Nat, X < (sdI A 1).toNat → Y < (sdI H 1).toNat → ∀ w', Below w.heap.size w w' → Calls Try.prog 79 #[.agg #[.int .i64 A, .int .i64 H, fmV l, u], .int .i64 (2 * (X : Int)), .int .i64 (2 * (Y : Int))] w' fun e w'' => e = .returned (colV (jqC l A H L X Y)) ∧ Below w'.heap.size w' w'') := fun X Y hX hY w' b => pjoined l hf A H u L _ _ w' (R.next b) bf a0 a1 b0 b1 hl (by omega) (half_in hA hX) (by omega) (half_in hH hY) hlk
  have HOK : Hid (∀ X Y : Nat, (jqC l A H L X Y).ok) := fun X Y => jq_ok hf bf a0 b0 X Y
  have HAD : Hid (∀ (q : Col) (pb B : Nat) (v : Value) (M : List Int) (w : World) (A' H' : Int), q.ok → C4 w pb (.int .i64 A') (.int .i64 H') (fmV l) v → Y8 B w v M → pb < B → M.length ≤ 90000 → Calls Try.prog 57 #[.pointer (some ⟨pb, 0, none⟩), colV q] w fun e w' => e = .returned (.tuple #[]) ∧ ∃ v', C4 w' pb (.int .i64 A') (.int .i64 H') (fmV l) v' ∧ Y8 B w' v' (M ++ pkK l q) ∧ Below pb w w') := fun q pb B v M w A' H' hq TP YM h1 h2 => padd l hf A' H' q hq pb B v M w TP YM h1 h2
  have ea : sdI A 1 = (((sdI A 1).toNat : Nat) : Int) := by have := sdI_pos A 1; omega
  have eh : sdI H 1 = (((sdI H 1).toNat : Nat) : Int) := by have := sdI_pos H 1; omega
  have HSA : Hid (∀ w, Calls Try.prog 53 #[.int .i64 A, .int .i64 1] w fun e w' => e = .returned (.int .i64 (((sdI A 1).toNat : Nat) : Int)) ∧ w' = w) := fun w => by rw [← ea]; exact sideat53 A 1 w hA (by decide)
  have HSH : Hid (∀ w, Calls Try.prog 53 #[.int .i64 H, .int .i64 1] w fun e w' => e = .returned (.int .i64 (((sdI H 1).toNat : Nat) : Int)) ∧ w' = w) := fun w => by rw [← eh]; exact sideat53 H 1 w hH (by decide)
  obtain ⟨s1, s2⟩ := sd1_bnd hA
  obtain ⟨s3, s4⟩ := sd1_bnd hH
  rw [ea, eh]
  have HGM : Hid (∀ x y : Nat, x < (sdI A 1).toNat → nxG l A H L (sdI A 1).toNat (y * (sdI A 1).toNat + x) = pkK l (jqC l A H L x y)) := fun x y hx => by
    unfold nxG
    rw [Nat.mul_comm, Nat.mul_add_mod, Nat.mod_eq_of_lt hx, Nat.mul_add_div (by omega), Nat.div_eq_of_lt hx, Nat.add_zero]
  have HLN : Hid (∀ m : Nat, m ≤ 64 → (catB (nxG l A H L (sdI A 1).toNat) m).length ≤ 90000) := fun m hm => by
    rw [cat_len (g := nxG l A H L (sdI A 1).toNat) (z := szF l) m (fun i _ => pk_len hf _)]
    have h4 : szF l ≤ 4 := by rcases hf with rfl | rfl | rfl <;> decide
    have h5 : m * szF l ≤ 64 * 4 := Nat.mul_le_mul hm h4
    omega
  unfold nxL
  simp only [Int.toNat_natCast]
  generalize (sdI A 1).toNat = a at *
  generalize (sdI H 1).toNat = h at *
  generalize nxG l A H L a = gm at HGM HLN ⊢
  generalize jqC l A H L = C at HJ HOK HGM
  obtain ⟨ra, rc, rfl, -⟩ := R
  generalize L.length = lk at *
  obtain ⟨ft, hft⟩ := fmV_is (show fmB l = true by rcases hf with rfl | rfl | rfl <;> rfl)
  rw [hft] at HJ HAD ⊢
  clear hft hf bf hl hlk hA hH ea eh a0 a1 b0 b1
  unfold colV at HJ HAD
  have BV : Below w.heap.size w ((w.alloc (.cells #[.int .i64 A, .int .i64 H, .iface ft (.agg #[]), .slice ra lk rc] 81)).alloc (.cells #[.int .i64 0, .int .i64 0, .nilIface, .slice none 0 0] 81)) := b2_
  have TP : C4 ((w.alloc (.cells #[.int .i64 A, .int .i64 H, .iface ft (.agg #[]), .slice ra lk rc] 81)).alloc (.cells #[.int .i64 0, .int .i64 0, .nilIface, .slice none 0 0] 81)) w.heap.size (.int .i64 A) (.int .i64 H) (.iface ft (.agg #[])) (.slice ra lk rc) := (C4.new w 81 (.int .i64 A) (.int .i64 H) (.iface ft (.agg #[])) (.slice ra lk rc)).next alloc_b
  have RB : C4 ((w.alloc (.cells #[.int .i64 A, .int .i64 H, .iface ft (.agg #[]), .slice ra lk rc] 81)).alloc (.cells #[.int .i64 0, .int .i64 0, .nilIface, .slice none 0 0] 81)) (w.heap.size + 1) (.int .i64 0) (.int .i64 0) (.nilIface) (.slice none 0 0) := by
    have h := C4.new (w.alloc (.cells #[.int .i64 A, .int .i64 H, .iface ft (.agg #[]), .slice ra lk rc] 81)) 81 (.int .i64 0) (.int .i64 0) (.nilIface) (.slice none 0 0)
    rwa [World.size_alloc] at h
  obtain ⟨V0, hV0⟩ : ∃ z, ((w.alloc (.cells #[.int .i64 A, .int .i64 H, .iface ft (.agg #[]), .slice ra lk rc] 81)).alloc (.cells #[.int .i64 0, .int .i64 0, .nilIface, .slice none 0 0] 81)) = z := ⟨_, rfl⟩
  have HV0 := Hid.mk hV0
  rw [hV0] at BV TP RB
  clear hV0
  go_enter Try.func58, Try.ntmps58
  go_upto_region 1 with fail
  rw [HV0.out]
  clear HV0
  go_cut [3] (fun pv wx => ∃ hb : Nat, pv = .pointer (some ⟨hb, 0, none⟩) ∧ C4 wx hb (.int .i64 (a : Int)) (.int .i64 (h : Int)) (.iface ft (.agg #[])) (.slice none 0 0) ∧ Below V0.heap.size V0 wx ∧ V0.heap.size ≤ hb ∧ wx.heap.size = hb + 1)
  case first =>
    generalize hWW : V0.drew = WX
    have TX := TP.next (below_drew (Below.refl _ _))
    have BX2 : Below V0.heap.size V0 V0.drew := below_drew (Below.refl _ _)
    rw [hWW] at TX BX2
    refine wp_region_held_drew (S := fun v => Below WX.heap.size WX v) (by kernel_rfl) (by rw [hWW]; exact Below.refl _ _) (fun hH => ?_)
    rw [hWW] at hH ⊢
    clear hWW
    refine wpAnyH_take (i := 0) (oi := { dst := some 6, op := Op.fieldAddr 81 (Operand.tmp 1) 0, type := 0, pos := "l16_texture.go:294", after := #[], guard := none }) (v := .pointer (some ⟨w.heap.size, 0, none⟩)) rfl (by kernel_rfl) (by kernel_rfl) (by kernel_rfl) (fun _ _ _ h => h) (Or.inl ⟨by rfl, fun w0 hSw => by (go_simp)⟩) hH ?_
    simp only [Act.put, List.setIfInBounds_toArray, List.set_cons_zero, List.set_cons_succ]
    refine wpAnyH_take (i := 1) (oi := { dst := some 7, op := Op.load 3 (Operand.tmp 6), type := 3, pos := "l16_texture.go:294", after := #[{ on := 0, ground := Ground.data }], guard := none }) (v := .int .i64 A) rfl (by kernel_rfl) (by kernel_rfl) (by kernel_rfl) (fun _ _ _ h => h) (Or.inl ⟨by rfl, fun w0 hSw => by ((have e9 := cell_nx TX.c0 hSw); go_simp)⟩) hH ?_
    simp only [Act.put, List.setIfInBounds_toArray, List.set_cons_zero, List.set_cons_succ]
    refine wpAnyH_take (i := 3) (oi := { dst := some 9, op := Op.fieldAddr 81 (Operand.tmp 1) 1, type := 0, pos := "l16_texture.go:294", after := #[], guard := none }) (v := .pointer (some ⟨w.heap.size, 1, none⟩)) rfl (by kernel_rfl) (by kernel_rfl) (by kernel_rfl) (fun _ _ _ h => h) (Or.inl ⟨by rfl, fun w0 hSw => by (go_simp)⟩) hH ?_
    simp only [Act.put, List.setIfInBounds_toArray, List.set_cons_zero, List.set_cons_succ]
    refine wpAnyH_take (i := 4) (oi := { dst := some 10, op := Op.load 3 (Operand.tmp 9), type := 3, pos := "l16_texture.go:294", after := #[{ on := 3, ground := Ground.data }], guard := none }) (v := .int .i64 H) rfl (by kernel_rfl) (by kernel_rfl) (by kernel_rfl) (fun _ _ _ h => h) (Or.inl ⟨by rfl, fun w0 hSw => by ((have e9 := cell_nx TX.c1 hSw); go_simp)⟩) hH ?_
    simp only [Act.put, List.setIfInBounds_toArray, List.set_cons_zero, List.set_cons_succ]
    refine wpAnyH_take (i := 6) (oi := { dst := some 12, op := Op.fieldAddr 81 (Operand.tmp 1) 2, type := 0, pos := "l16_texture.go:294", after := #[], guard := none }) (v := .pointer (some ⟨w.heap.size, 2, none⟩)) rfl (by kernel_rfl) (by kernel_rfl) (by kernel_rfl) (fun _ _ _ h => h) (Or.inl ⟨by rfl, fun w0 hSw => by (go_simp)⟩) hH ?_
    simp only [Act.put, List.setIfInBounds_toArray, List.set_cons_zero, List.set_cons_succ]
    refine wpAnyH_take (i := 7) (oi := { dst := some 13, op := Op.load 62 (Operand.tmp 12), type := 62, pos := "l16_texture.go:294", after := #[{ on := 6, ground := Ground.data }], guard := none }) (v := .iface ft (.agg #[])) rfl (by kernel_rfl) (by kernel_rfl) (by kernel_rfl) (fun _ _ _ h => h) (Or.inl ⟨by rfl, fun w0 hSw => by ((have e9 := cell_nx TX.c2 hSw); go_simp)⟩) hH ?_
    simp only [Act.put, List.setIfInBounds_toArray, List.set_cons_zero, List.set_cons_succ]
    refine wpAnyH_ready (rs := [2, 9]) (by kernel_rfl) (by simp) ?_
    refine (AllReadyH.cons (o := { dst := some 8, op := Op.call { callee := Callee.value (Operand.func 53), args := #[Operand.tmp 7, Operand.const (Value.int IntKind.i64 1)], argTypes := #[3, 3] }, type := 3, pos := "l16_texture.go:294", after := #[{ on := 1, ground := Ground.data }], guard := none }) rfl (fun K hK => ?_) (AllReadyH.cons (o := { dst := some 3, op := Op.alloc 81, type := 0, pos := "l16_texture.go:294", after := #[], guard := none }) rfl (fun K hK => ?_) AllReadyH.nil))
    · refine step_callC 53 #[.int .i64 A, .int .i64 1] (fun z v w' => z = .int .i64 (a : Int) ∧ w' = v) (by rfl) (by go_simp) ((HSA.out _).mono fun e w' ⟨h1, h2⟩ => ⟨_, h1, rfl, h2⟩) ?_
      rintro za wa ⟨rfl, hwa⟩
      subst wa
      simp only [Act.put, List.setIfInBounds_toArray, List.set_cons_zero, List.set_cons_succ]
      refine hK.out _ _ hH (fun hH' => ?_)
      clear hK K
      replace hH := hH'
      clear hH' 
      refine wpAnyH_ready (rs := [5, 9]) (by kernel_rfl) (by simp) ?_
      refine (AllReadyH.cons (o := { dst := some 11, op := Op.call { callee := Callee.value (Operand.func 53), args := #[Operand.tmp 10, Operand.const (Value.int IntKind.i64 1)], argTypes := #[3, 3] }, type := 3, pos := "l16_texture.go:294", after := #[{ on := 4, ground := Ground.data }, { on := 2, ground := Ground.chain }], guard := none }) rfl (fun K hK => ?_) (AllReadyH.cons (o := { dst := some 3, op := Op.alloc 81, type := 0, pos := "l16_texture.go:294", after := #[], guard := none }) rfl (fun K hK => ?_) AllReadyH.nil))
      · refine step_callC 53 #[.int .i64 H, .int .i64 1] (fun z v w' => z = .int .i64 (h : Int) ∧ w' = v) (by rfl) (by go_simp) ((HSH.out _).mono fun e w' ⟨h1, h2⟩ => ⟨_, h1, rfl, h2⟩) ?_
        rintro zh wh ⟨rfl, hwh⟩
        subst wh
        simp only [Act.put, List.setIfInBounds_toArray, List.set_cons_zero, List.set_cons_succ]
        refine hK.out _ _ hH (fun hH' => ?_)
        clear hK K
        replace hH := hH'
        clear hH' 
        refine wpAnyH_take (i := 8) (oi := { dst := some 14, op := Op.build 81 #[(0, Operand.tmp 8), (1, Operand.tmp 11), (2, Operand.tmp 13)], type := 81, pos := "l16_texture.go:294", after := #[{ on := 2, ground := Ground.data }, { on := 5, ground := Ground.data }, { on := 7, ground := Ground.data }], guard := none }) (v := .agg #[.int .i64 (a : Int), .int .i64 (h : Int), .iface ft (.agg #[]), .slice none 0 0]) rfl (by kernel_rfl) (by kernel_rfl) (by kernel_rfl) (fun _ _ _ h => h) (Or.inl ⟨by rfl, fun w0 hSw => by (go_simp)⟩) hH ?_
        simp only [Act.put, List.setIfInBounds_toArray, List.set_cons_zero, List.set_cons_succ]
        refine wpAnyH_ready (rs := [9]) (by kernel_rfl) (by simp) ?_
        refine (AllReadyH.cons (o := { dst := some 3, op := Op.alloc 81, type := 0, pos := "l16_texture.go:294", after := #[], guard := none }) rfl (fun K hK => ?_) AllReadyH.nil)
        refine step_val (.pointer (some ⟨WX.heap.size, 0, none⟩)) (WX.alloc (.cells #[.int .i64 0, .int .i64 0, .nilIface, .slice none 0 0] 81)) (by rfl) (by go_simp) ?_
        simp only [Act.put, List.setIfInBounds_toArray, List.set_cons_zero, List.set_cons_succ]
        refine hK.out _ _ (hH.trans (alloc_b.mono hH.size)) (fun hH' => ?_)
        clear hK K
        replace hH := hH'
        clear hH' 
        refine wpAnyH_ready (rs := [10]) (by kernel_rfl) (by simp) ?_
        refine (AllReadyH.cons (o := { dst := none, op := Op.store 81 (Operand.tmp 3) (Operand.tmp 14), type := 0, pos := "l16_texture.go:294", after := #[{ on := 9, ground := Ground.data }, { on := 8, ground := Ground.data }, { on := 5, ground := Ground.chain }, { on := 0, ground := Ground.phase }, { on := 1, ground := Ground.phase }, { on := 2, ground := Ground.phase }, { on := 3, ground := Ground.phase }, { on := 4, ground := Ground.phase }, { on := 5, ground := Ground.phase }, { on := 6, ground := Ground.phase }, { on := 7, ground := Ground.phase }, { on := 8, ground := Ground.phase }, { on := 9, ground := Ground.phase }], guard := none }) rfl (fun K hK => ?_) AllReadyH.nil)
        refine step_skip (set4 (WX.alloc (.cells #[.int .i64 0, .int .i64 0, .nilIface, .slice none 0 0] 81)) WX.heap.size (.int .i64 (a : Int)) (.int .i64 (h : Int)) (.iface ft (.agg #[])) (.slice none 0 0)) (by rfl) (by unfold set4; go_simp) ?_
        have O6 := only_set4 (WX.alloc (.cells #[.int .i64 0, .int .i64 0, .nilIface, .slice none 0 0] 81)) WX.heap.size (.int .i64 (a : Int)) (.int .i64 (h : Int)) (.iface ft (.agg #[])) (.slice none 0 0)
        have D6 := (C4.new WX 81 (.int .i64 0) (.int .i64 0) (.nilIface) (.slice none 0 0)).put (.int .i64 (a : Int)) (.int .i64 (h : Int)) (.iface ft (.agg #[])) (.slice none 0 0)
        have B6 : Below WX.heap.size WX (set4 (WX.alloc (.cells #[.int .i64 0, .int .i64 0, .nilIface, .slice none 0 0] 81)) WX.heap.size (.int .i64 (a : Int)) (.int .i64 (h : Int)) (.iface ft (.agg #[])) (.slice none 0 0)) := (alloc_b).trans (O6.below (Nat.le_refl _) (by simp))
        have S6 : (set4 (WX.alloc (.cells #[.int .i64 0, .int .i64 0, .nilIface, .slice none 0 0] 81)) WX.heap.size (.int .i64 (a : Int)) (.int .i64 (h : Int)) (.iface ft (.agg #[])) (.slice none 0 0)).heap.size = WX.heap.size + 1 := by unfold set4; simp
        refine hK.out _ _ B6 (fun hH' => ?_)
        clear hK K hH hH' O6
        refine wpAnyH_done (by kernel_rfl) ?_ _
        go_wp2_with fail
        go_meet
        case rel => exact ⟨WX.heap.size, rfl, D6, BX2.trans (B6.mono BX2.size), BX2.size, S6⟩
      · refine step_val (.pointer (some ⟨WX.heap.size, 0, none⟩)) (WX.alloc (.cells #[.int .i64 0, .int .i64 0, .nilIface, .slice none 0 0] 81)) (by rfl) (by go_simp) ?_
        simp only [Act.put, List.setIfInBounds_toArray, List.set_cons_zero, List.set_cons_succ]
        refine hK.out _ _ (hH.trans (alloc_b.mono hH.size)) (fun hH' => ?_)
        clear hK K
        replace hH := hH'
        clear hH' 
        refine wpAnyH_ready (rs := [5]) (by kernel_rfl) (by simp) ?_
        refine (AllReadyH.cons (o := { dst := some 11, op := Op.call { callee := Callee.value (Operand.func 53), args := #[Operand.tmp 10, Operand.const (Value.int IntKind.i64 1)], argTypes := #[3, 3] }, type := 3, pos := "l16_texture.go:294", after := #[{ on := 4, ground := Ground.data }, { on := 2, ground := Ground.chain }], guard := none }) rfl (fun K hK => ?_) AllReadyH.nil)
        refine step_callC 53 #[.int .i64 H, .int .i64 1] (fun z v w' => z = .int .i64 (h : Int) ∧ w' = v) (by rfl) (by go_simp) ((HSH.out _).mono fun e w' ⟨h1, h2⟩ => ⟨_, h1, rfl, h2⟩) ?_
        rintro zh wh ⟨rfl, hwh⟩
        subst wh
        simp only [Act.put, List.setIfInBounds_toArray, List.set_cons_zero, List.set_cons_succ]
        refine hK.out _ _ hH (fun hH' => ?_)
        clear hK K
        replace hH := hH'
        clear hH' 
        refine wpAnyH_take (i := 8) (oi := { dst := some 14, op := Op.build 81 #[(0, Operand.tmp 8), (1, Operand.tmp 11), (2, Operand.tmp 13)], type := 81, pos := "l16_texture.go:294", after := #[{ on := 2, ground := Ground.data }, { on := 5, ground := Ground.data }, { on := 7, ground := Ground.data }], guard := none }) (v := .agg #[.int .i64 (a : Int), .int .i64 (h : Int), .iface ft (.agg #[]), .slice none 0 0]) rfl (by kernel_rfl) (by kernel_rfl) (by kernel_rfl) (fun _ _ _ h => h) (Or.inl ⟨by rfl, fun w0 hSw => by (go_simp)⟩) hH ?_
        simp only [Act.put, List.setIfInBounds_toArray, List.set_cons_zero, List.set_cons_succ]
        refine wpAnyH_ready (rs := [10]) (by kernel_rfl) (by simp) ?_
        refine (AllReadyH.cons (o := { dst := none, op := Op.store 81 (Operand.tmp 3) (Operand.tmp 14), type := 0, pos := "l16_texture.go:294", after := #[{ on := 9, ground := Ground.data }, { on := 8, ground := Ground.data }, { on := 5, ground := Ground.chain }, { on := 0, ground := Ground.phase }, { on := 1, ground := Ground.phase }, { on := 2, ground := Ground.phase }, { on := 3, ground := Ground.phase }, { on := 4, ground := Ground.phase }, { on := 5, ground := Ground.phase }, { on := 6, ground := Ground.phase }, { on := 7, ground := Ground.phase }, { on := 8, ground := Ground.phase }, { on := 9, ground := Ground.phase }], guard := none }) rfl (fun K hK => ?_) AllReadyH.nil)
        refine step_skip (set4 (WX.alloc (.cells #[.int .i64 0, .int .i64 0, .nilIface, .slice none 0 0] 81)) WX.heap.size (.int .i64 (a : Int)) (.int .i64 (h : Int)) (.iface ft (.agg #[])) (.slice none 0 0)) (by rfl) (by unfold set4; go_simp) ?_
        have O6 := only_set4 (WX.alloc (.cells #[.int .i64 0, .int .i64 0, .nilIface, .slice none 0 0] 81)) WX.heap.size (.int .i64 (a : Int)) (.int .i64 (h : Int)) (.iface ft (.agg #[])) (.slice none 0 0)
        have D6 := (C4.new WX 81 (.int .i64 0) (.int .i64 0) (.nilIface) (.slice none 0 0)).put (.int .i64 (a : Int)) (.int .i64 (h : Int)) (.iface ft (.agg #[])) (.slice none 0 0)
        have B6 : Below WX.heap.size WX (set4 (WX.alloc (.cells #[.int .i64 0, .int .i64 0, .nilIface, .slice none 0 0] 81)) WX.heap.size (.int .i64 (a : Int)) (.int .i64 (h : Int)) (.iface ft (.agg #[])) (.slice none 0 0)) := (alloc_b).trans (O6.below (Nat.le_refl _) (by simp))
        have S6 : (set4 (WX.alloc (.cells #[.int .i64 0, .int .i64 0, .nilIface, .slice none 0 0] 81)) WX.heap.size (.int .i64 (a : Int)) (.int .i64 (h : Int)) (.iface ft (.agg #[])) (.slice none 0 0)).heap.size = WX.heap.size + 1 := by unfold set4; simp
        refine hK.out _ _ B6 (fun hH' => ?_)
        clear hK K hH hH' O6
        refine wpAnyH_done (by kernel_rfl) ?_ _
        go_wp2_with fail
        go_meet
        case rel => exact ⟨WX.heap.size, rfl, D6, BX2.trans (B6.mono BX2.size), BX2.size, S6⟩
    · refine step_val (.pointer (some ⟨WX.heap.size, 0, none⟩)) (WX.alloc (.cells #[.int .i64 0, .int .i64 0, .nilIface, .slice none 0 0] 81)) (by rfl) (by go_simp) ?_
      simp only [Act.put, List.setIfInBounds_toArray, List.set_cons_zero, List.set_cons_succ]
      refine hK.out _ _ (hH.trans (alloc_b.mono hH.size)) (fun hH' => ?_)
      clear hK K
      replace hH := hH'
      clear hH' 
      refine wpAnyH_ready (rs := [2]) (by kernel_rfl) (by simp) ?_
      refine (AllReadyH.cons (o := { dst := some 8, op := Op.call { callee := Callee.value (Operand.func 53), args := #[Operand.tmp 7, Operand.const (Value.int IntKind.i64 1)], argTypes := #[3, 3] }, type := 3, pos := "l16_texture.go:294", after := #[{ on := 1, ground := Ground.data }], guard := none }) rfl (fun K hK => ?_) AllReadyH.nil)
      refine step_callC 53 #[.int .i64 A, .int .i64 1] (fun z v w' => z = .int .i64 (a : Int) ∧ w' = v) (by rfl) (by go_simp) ((HSA.out _).mono fun e w' ⟨h1, h2⟩ => ⟨_, h1, rfl, h2⟩) ?_
      rintro za wa ⟨rfl, hwa⟩
      subst wa
      simp only [Act.put, List.setIfInBounds_toArray, List.set_cons_zero, List.set_cons_succ]
      refine hK.out _ _ hH (fun hH' => ?_)
      clear hK K
      replace hH := hH'
      clear hH' 
      refine wpAnyH_ready (rs := [5]) (by kernel_rfl) (by simp) ?_
      refine (AllReadyH.cons (o := { dst := some 11, op := Op.call { callee := Callee.value (Operand.func 53), args := #[Operand.tmp 10, Operand.const (Value.int IntKind.i64 1)], argTypes := #[3, 3] }, type := 3, pos := "l16_texture.go:294", after := #[{ on := 4, ground := Ground.data }, { on := 2, ground := Ground.chain }], guard := none }) rfl (fun K hK => ?_) AllReadyH.nil)
      refine step_callC 53 #[.int .i64 H, .int .i64 1] (fun z v w' => z = .int .i64 (h : Int) ∧ w' = v) (by rfl) (by go_simp) ((HSH.out _).mono fun e w' ⟨h1, h2⟩ => ⟨_, h1, rfl, h2⟩) ?_
      rintro zh wh ⟨rfl, hwh⟩
      subst wh
      simp only [Act.put, List.setIfInBounds_toArray, List.set_cons_zero, List.set_cons_succ]
      refine hK.out _ _ hH (fun hH' => ?_)
      clear hK K
      replace hH := hH'
      clear hH' 
      refine wpAnyH_take (i := 8) (oi := { dst := some 14, op := Op.build 81 #[(0, Operand.tmp 8), (1, Operand.tmp 11), (2, Operand.tmp 13)], type := 81, pos := "l16_texture.go:294", after := #[{ on := 2, ground := Ground.data }, { on := 5, ground := Ground.data }, { on := 7, ground := Ground.data }], guard := none }) (v := .agg #[.int .i64 (a : Int), .int .i64 (h : Int), .iface ft (.agg #[]), .slice none 0 0]) rfl (by kernel_rfl) (by kernel_rfl) (by kernel_rfl) (fun _ _ _ h => h) (Or.inl ⟨by rfl, fun w0 hSw => by (go_simp)⟩) hH ?_
      simp only [Act.put, List.setIfInBounds_toArray, List.set_cons_zero, List.set_cons_succ]
      refine wpAnyH_ready (rs := [10]) (by kernel_rfl) (by simp) ?_
      refine (AllReadyH.cons (o := { dst := none, op := Op.store 81 (Operand.tmp 3) (Operand.tmp 14), type := 0, pos := "l16_texture.go:294", after := #[{ on := 9, ground := Ground.data }, { on := 8, ground := Ground.data }, { on := 5, ground := Ground.chain }, { on := 0, ground := Ground.phase }, { on := 1, ground := Ground.phase }, { on := 2, ground := Ground.phase }, { on := 3, ground := Ground.phase }, { on := 4, ground := Ground.phase }, { on := 5, ground := Ground.phase }, { on := 6, ground := Ground.phase }, { on := 7, ground := Ground.phase }, { on := 8, ground := Ground.phase }, { on := 9, ground := Ground.phase }], guard := none }) rfl (fun K hK => ?_) AllReadyH.nil)
      refine step_skip (set4 (WX.alloc (.cells #[.int .i64 0, .int .i64 0, .nilIface, .slice none 0 0] 81)) WX.heap.size (.int .i64 (a : Int)) (.int .i64 (h : Int)) (.iface ft (.agg #[])) (.slice none 0 0)) (by rfl) (by unfold set4; go_simp) ?_
      have O6 := only_set4 (WX.alloc (.cells #[.int .i64 0, .int .i64 0, .nilIface, .slice none 0 0] 81)) WX.heap.size (.int .i64 (a : Int)) (.int .i64 (h : Int)) (.iface ft (.agg #[])) (.slice none 0 0)
      have D6 := (C4.new WX 81 (.int .i64 0) (.int .i64 0) (.nilIface) (.slice none 0 0)).put (.int .i64 (a : Int)) (.int .i64 (h : Int)) (.iface ft (.agg #[])) (.slice none 0 0)
      have B6 : Below WX.heap.size WX (set4 (WX.alloc (.cells #[.int .i64 0, .int .i64 0, .nilIface, .slice none 0 0] 81)) WX.heap.size (.int .i64 (a : Int)) (.int .i64 (h : Int)) (.iface ft (.agg #[])) (.slice none 0 0)) := (alloc_b).trans (O6.below (Nat.le_refl _) (by simp))
      have S6 : (set4 (WX.alloc (.cells #[.int .i64 0, .int .i64 0, .nilIface, .slice none 0 0] 81)) WX.heap.size (.int .i64 (a : Int)) (.int .i64 (h : Int)) (.iface ft (.agg #[])) (.slice none 0 0)).heap.size = WX.heap.size + 1 := by unfold set4; simp
      refine hK.out _ _ B6 (fun hH' => ?_)
      clear hK K hH hH' O6
      refine wpAnyH_done (by kernel_rfl) ?_ _
      go_wp2_with fail
      go_meet
      case rel => exact ⟨WX.heap.size, rfl, D6, BX2.trans (B6.mono BX2.size), BX2.size, S6⟩
  case rest =>
    obtain ⟨hb, rfl, HB, BC, hb1, hb2⟩ := hcut
    have hR : w.heap.size + 1 < hb := by have := RB.hi; omega
    have TP := TP.next BC
    have RB := RB.next BC
    have BV := BV.trans (BC.mono BV.size)
    clear BC HSA HSH
    generalize hwc : wc = V1 at *
    clear hwc
    have Y0 : Y8 (hb + 1) V1 (.slice none 0 0) (catB gm 0) := Y8.nil _ _ (by omega)
    have y0 := HB.c0
    have y1 := HB.c1
    have y2 := HB.c2
    have y3 := HB.c3
    go_upto_region 3 with fail
    clear y0 y1 y2 y3
    go_loopw [17] (fun yv wr => ∃ (y : Nat) (v : Value), y ≤ h ∧ yv = .int .i64 (y : Int) ∧ Hid (C4 wr hb (.int .i64 (a : Int)) (.int .i64 (h : Int)) (.iface ft (.agg #[])) v ∧ Y8 (hb + 1) wr v (catB gm (y * a)) ∧ Below hb V1 wr)) (fun yv _ => h - (intOf yv).toNat)
    case atStart => exact ⟨0, _, Nat.zero_le _, rfl, ⟨HB, by rw [Nat.zero_mul]; exact Y0, Below.refl _ _⟩⟩
    case round =>
      clear Y0 HB
      obtain ⟨y, v, hy, rfl, HR⟩ := hrel
      by_cases hyn : y < h
      · have i1 : (y : Int) < (h : Int) := by omega
        have i0 : (0 : Int) ≤ (y : Int) := by omega
        obtain ⟨HB, YW, BR⟩ := HR.out
        have z0 := HB.c0
        have z1 := HB.c1
        have z2 := HB.c2
        have z3 := HB.c3
        clear HB YW BR
        go_upto_region 6 with fail
        clear z0 z1 z2 z3
        go_loopw [22] (fun xv wi => ∃ (x : Nat) (v : Value), x ≤ a ∧ xv = .int .i64 (x : Int) ∧ Hid (C4 wi hb (.int .i64 (a : Int)) (.int .i64 (h : Int)) (.iface ft (.agg #[])) v ∧ Y8 (hb + 1) wi v (catB gm (y * a + x)) ∧ Below hb V1 wi)) (fun xv _ => a - (intOf xv).toNat)
        case atStart => exact ⟨0, _, Nat.zero_le _, rfl, HR⟩
        case round =>
          clear HR
          obtain ⟨x, v, hx, rfl, HR⟩ := hrel
          by_cases hxn : x < a
          · have k1 : (x : Int) < (a : Int) := by omega
            have k0 : (0 : Int) ≤ (x : Int) := by omega
            obtain ⟨HB, YW, BI⟩ := HR.out
            have T2 := TP.low BI (by omega)
            have BW : Below w.heap.size w wr := BV.trans (BI.mono (by omega))
            have t0 := T2.c0
            have t1 := T2.c1
            have t2 := T2.c2
            have t3 := T2.c3
            have HJT := Hid.mk (HJ.out x y hxn hyn)
            have HOQ := Hid.mk (HOK.out x y)
            have HGE := Hid.mk (HGM.out x y hxn)
            have hm : y * a + x ≤ 64 := by
              have h1 : (y + 1) * a ≤ h * a := Nat.mul_le_mul_right _ hyn
              have h2 : (y + 1) * a = y * a + a := Nat.succ_mul y a
              have h3 : h * a ≤ 8 * 8 := Nat.mul_le_mul s4 s2
              omega
            have HLM := Hid.mk (HLN.out _ hm)
            have HCS : Hid (catB gm (y * a + (x + 1)) = catB gm (y * a + x) ++ gm (y * a + x)) := rfl
            obtain ⟨q, hq⟩ : ∃ q, C x y = q := ⟨_, rfl⟩
            rw [hq] at HJT HOQ HGE
            clear hq hm T2 HR
            have HX := Hid.mk (And.intro HB (And.intro YW BI))
            clear HB YW BI
            go_wp2_with (first
              | (go_at_call 79; refine (HJT.out _ BW).mono ?_; rintro e9 w3 ⟨rfl, B3⟩; skip)
              | (go_at_call 57; refine (HAD.out q hb (hb + 1) v (catB gm (y * a + x)) _ _ _ HOQ.out (HX.out.1.next B3) (HX.out.2.1.next B3) (by omega) HLM.out).mono ?_; rintro e9 w4 ⟨rfl, v', C4n, Y4n, B4⟩; skip))
            go_roundw
            case rel => exact ⟨x + 1, v', by omega, by go_num, ⟨C4n, by rw [HCS.out, HGE.out]; exact Y4n, (HX.out.2.2.trans (B3.mono (Nat.le_of_lt HX.out.1.hi))).trans B4⟩⟩
            case measure => simp [intOf]; omega
          · obtain rfl : a = x := by omega
            have k1 : ¬ (a : Int) < (a : Int) := by omega
            go_wp2
            go_roundw
            case rel => exact ⟨y + 1, v, by omega, by go_num, ⟨HR.out.1, by rw [Nat.succ_mul]; exact HR.out.2.1, HR.out.2.2⟩⟩
            case measure => simp [intOf]; omega
      · obtain rfl : h = y := by omega
        have i1 : ¬ (h : Int) < (h : Int) := by omega
        obtain ⟨HB, YW, BR⟩ := HR.out
        obtain ⟨ya, yc, rfl⟩ := YW.is
        obtain ⟨yn, hyn2⟩ : ∃ z, (catB gm (h * a)).length = z := ⟨_, rfl⟩
        rw [hyn2] at HB YW
        clear hyn2
        have R1 := RB.low BR (by omega)
        have BW : Below w.heap.size w wr := BV.trans (BR.mono (by omega))
        have O9 := only_set4 wr (w.heap.size + 1) (.int .i64 (a : Int)) (.int .i64 (h : Int)) (.iface ft (.agg #[])) (.slice ya yn yc)
        have D9 := R1.put (.int .i64 (a : Int)) (.int .i64 (h : Int)) (.iface ft (.agg #[])) (.slice ya yn yc)
        have B9 : Below w.heap.size w _ := BW.trans (O9.below (by omega) BW.size)
        have Y9 := (YW.grown (only_grown O9) (by
          cases e : (Value.slice ya yn yc).ownBlock with
          | none => exact Or.inl rfl
          | some q => exact Or.inr (by have := (YW.lt q e).1; simp; omega))).low (show w.heap.size ≤ hb + 1 by omega)
        unfold set4 at D9 B9 Y9
        have HF := Hid.mk (And.intro D9 (And.intro B9 Y9))
        clear HR O9 D9 B9 Y9 YW BR BW
        have y0 := HB.c0
        have y1 := HB.c1
        have y2 := HB.c2
        have y3 := HB.c3
        have x0 := R1.c0
        have x1 := R1.c1
        have x2 := R1.c2
        have x3 := R1.c3
        have xf := R1.f
        go_wp2
        clear x0 x1 x2 x3 xf y0 y1 y2 y3
        obtain ⟨D9, B9, Y9⟩ := HF.out
        have r0 := D9.c0
        have r1 := D9.c1
        have r2 := D9.c2
        have r3 := D9.c3
        exact bodyPost_ret (v := .agg #[.int .i64 (a : Int), .int .i64 (h : Int), .iface ft (.agg #[]), .slice ya yn yc]) (by simp [results, Try.results58, go_sem, r0, r1, r2, r3]) rfl ⟨_, rfl, Y9, B9⟩
end Go.Proofs.Ythkngcdfnemhaaa
