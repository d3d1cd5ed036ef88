/- The program's sample. -/
import Derived.Test.YthkngcdfnemhaaaAq
namespace Go.Proofs.Ythkngcdfnemhaaa
open Go.ChangeShapes Go.WideShapes Go.ChangeAt Go.RowKit
set_option linter.unusedVariables false
/-- The four colors around, and how much of each goes into a sample. -/
def s4C (l A B : Int) (L : List Int) (u v e : Int) (c : Col) (i : Nat) : Col := if i = 0 then ftC l A B L ((u - 128) / 256) ((v - 128) / 256) e c else if i = 1 then ftC l A B L ((u - 128) / 256 + 1) ((v - 128) / 256) e c else if i = 2 then ftC l A B L ((u - 128) / 256) ((v - 128) / 256 + 1) e c else ftC l A B L ((u - 128) / 256 + 1) ((v - 128) / 256 + 1) e c
def s4T (u v : Int) (i : Nat) : Int := if i = 0 then (256 - (u - 128) % 256) * (256 - (v - 128) % 256) else if i = 1 then (u - 128) % 256 * (256 - (v - 128) % 256) else if i = 2 then (256 - (u - 128) % 256) * ((v - 128) % 256) else (u - 128) % 256 * ((v - 128) % 256)
theorem wts (a b : Int) : (256 - a) * (256 - b) = 65536 - 256 * a - 256 * b + a * b ∧ a * (256 - b) = 256 * a - a * b ∧ (256 - a) * b = 256 * b - a * b := by
  refine ⟨?_, ?_, ?_⟩
  · rw [Int.sub_mul, Int.mul_sub, Int.mul_sub]; omega
  · rw [Int.mul_sub]; omega
  · rw [Int.sub_mul]
theorem s4T_al (u v : Int) : al (s4T u v) 4 = 65536 := by
  show 0 + (256 - (u - 128) % 256) * (256 - (v - 128) % 256) + (u - 128) % 256 * (256 - (v - 128) % 256) + (256 - (u - 128) % 256) * ((v - 128) % 256) + (u - 128) % 256 * ((v - 128) % 256) = 65536
  obtain ⟨h1, h2, h3⟩ := wts ((u - 128) % 256) ((v - 128) % 256)
  rw [h1, h2, h3]
  omega
theorem s4T_bnd (u v : Int) (i : Nat) : 0 ≤ s4T u v i ∧ s4T u v i ≤ 65536 := by
  have a0 : 0 ≤ (u - 128) % 256 ∧ (u - 128) % 256 ≤ 255 := by omega
  have b0 : 0 ≤ (v - 128) % 256 ∧ (v - 128) % 256 ≤ 255 := by omega
  unfold s4T
  generalize (u - 128) % 256 = a at *
  generalize (v - 128) % 256 = b at *
  have key : ∀ x y : Int, 0 ≤ x → x ≤ 256 → 0 ≤ y → y ≤ 256 → 0 ≤ x * y ∧ x * y ≤ 65536 := fun x y x0 x1 y0 y1 => by
    have h0 : 0 ≤ x * y := Int.mul_nonneg x0 y0
    have h1 : x * y ≤ 256 * 256 := Int.mul_le_mul x1 y1 y0 (by decide)
    omega
  repeat' split
  · exact key _ _ (by omega) (by omega) (by omega) (by omega)
  · exact key _ _ (by omega) (by omega) (by omega) (by omega)
  · exact key _ _ (by omega) (by omega) (by omega) (by omega)
  · exact key _ _ (by omega) (by omega) (by omega) (by omega)
set_option maxRecDepth 100000 in
set_option maxHeartbeats 4000000 in
theorem psample (l A B : Int) (uu : Value) (L : List Int) (u v e : Int) (c : Col) (w : World) (R : BRow w uu L) (hf : l = 1 ∨ l = 2 ∨ l = 3) (bf : ∀ j, j < L.length → 0 ≤ L.getD j 0 ∧ L.getD j 0 ≤ 255) (a0 : 1 ≤ A) (a1 : A ≤ 16) (b0 : 1 ≤ B) (b1 : B ≤ 16) (hl : (L.length : Int) = A * B * (szF l : Int)) (he : 1 ≤ e ∧ e ≤ 4) (hu : -100000 ≤ u ∧ u ≤ 100000) (hv : -100000 ≤ v ∧ v ≤ 100000) (hlk : L.length ≤ 1048576) (hok : ∀ i, i < 4 → (s4C l A B L u v e c i).ok) :
    Calls Try.prog 68 #[.agg #[.int .i64 A, .int .i64 B, fmV l, uu, .int .i64 e, .int .i64 c.r, .int .i64 c.g, .int .i64 c.b, .int .i64 c.a], .int .i64 u, .int .i64 v] w fun e' w' => e' = .returned (colV (blC 4 (s4C l A B L u v e c) (s4T u v))) ∧ Below w.heap.size w w' := by
  have HSU : Hid (∀ w, Calls Try.prog 70 #[.int .i64 (u - 128)] w fun e w' => e = .returned (.tuple #[.int .i64 ((u - 128) / 256), .int .i64 ((u - 128) % 256)]) ∧ w' = w) := fun w => psplit (u - 128) w (by omega) (by omega)
  have HSV : Hid (∀ w, Calls Try.prog 70 #[.int .i64 (v - 128)] w fun e w' => e = .returned (.tuple #[.int .i64 ((v - 128) / 256), .int .i64 ((v - 128) % 256)]) ∧ w' = w) := fun w => psplit (v - 128) w (by omega) (by omega)
  have HBL : Hid (∀ w' vv, PRow w' vv 4 (s4C l A B L u v e c) (s4T u v) → Calls Try.prog 71 #[vv] w' fun e' w'' => e' = .returned (colV (blC 4 (s4C l A B L u v e c) (s4T u v))) ∧ Below w'.heap.size w' w'') := fun w' vv r => pblend 4 _ _ vv w' r (by decide) hok (fun i _ => s4T_bnd u v i) (by rw [s4T_al]; decide)
  have HFE : Hid (∀ x z : Int, -2000 ≤ x → x ≤ 2000 → -2000 ≤ z → z ≤ 2000 → ∀ w', Below w.heap.size w w' → Calls Try.prog 64 #[.agg #[.int .i64 A, .int .i64 B, fmV l, uu, .int .i64 e, .int .i64 c.r, .int .i64 c.g, .int .i64 c.b, .int .i64 c.a], .int .i64 x, .int .i64 z] w' fun e' w'' => e' = .returned (colV (ftC l A B L x z e c)) ∧ Below w'.heap.size w' w'') := fun x z x0 x1 z0 z1 w' b => pfetch l A B uu L x z e c w' (R.next b) hf bf a0 a1 b0 b1 hl he ⟨by omega, by omega⟩ ⟨by omega, by omega⟩ hlk
  have HCT0 : Hid (s4C l A B L u v e c 0 = ftC l A B L ((u - 128) / 256) ((v - 128) / 256) e c ∧ s4C l A B L u v e c 1 = ftC l A B L ((u - 128) / 256 + 1) ((v - 128) / 256) e c ∧ s4C l A B L u v e c 2 = ftC l A B L ((u - 128) / 256) ((v - 128) / 256 + 1) e c ∧ s4C l A B L u v e c 3 = ftC l A B L ((u - 128) / 256 + 1) ((v - 128) / 256 + 1) e c ∧ s4T u v 0 = (256 - (u - 128) % 256) * (256 - (v - 128) % 256) ∧ s4T u v 1 = (u - 128) % 256 * (256 - (v - 128) % 256) ∧ s4T u v 2 = (256 - (u - 128) % 256) * ((v - 128) % 256) ∧ s4T u v 3 = (u - 128) % 256 * ((v - 128) % 256)) := ⟨rfl, rfl, rfl, rfl, rfl, rfl, rfl, rfl⟩
  have HTB := Hid.mk (s4T_bnd u v)
  obtain ⟨ra, rc, rfl, _⟩ := R
  obtain ⟨ft, hft⟩ := fmV_is (show fmB l = true by rcases hf with rfl | rfl | rfl <;> rfl)
  rw [hft] at HFE ⊢
  have xx : -2000 ≤ (u - 128) / 256 ∧ (u - 128) / 256 ≤ 1000 := by omega
  have yy : -2000 ≤ (v - 128) / 256 ∧ (v - 128) / 256 ≤ 1000 := by omega
  have aa : 0 ≤ (u - 128) % 256 ∧ (u - 128) % 256 ≤ 255 := by omega
  have bb : 0 ≤ (v - 128) % 256 ∧ (v - 128) % 256 ≤ 255 := by omega
  have HF0 := Hid.mk (HFE.out ((u - 128) / 256) ((v - 128) / 256) (by omega) (by omega) (by omega) (by omega))
  have HF1 := Hid.mk (HFE.out ((u - 128) / 256 + 1) ((v - 128) / 256) (by omega) (by omega) (by omega) (by omega))
  have HF2 := Hid.mk (HFE.out ((u - 128) / 256) ((v - 128) / 256 + 1) (by omega) (by omega) (by omega) (by omega))
  have HF3 := Hid.mk (HFE.out ((u - 128) / 256 + 1) ((v - 128) / 256 + 1) (by omega) (by omega) (by omega) (by omega))
  unfold colV at HF0 HF1 HF2 HF3 HBL ⊢
  generalize ftC l A B L ((u - 128) / 256) ((v - 128) / 256) e c = D0 at HF0 HCT0
  generalize ftC l A B L ((u - 128) / 256 + 1) ((v - 128) / 256) e c = D1 at HF1 HCT0
  generalize ftC l A B L ((u - 128) / 256) ((v - 128) / 256 + 1) e c = D2 at HF2 HCT0
  generalize ftC l A B L ((u - 128) / 256 + 1) ((v - 128) / 256 + 1) e c = D3 at HF3 HCT0
  generalize blC 4 (s4C l A B L u v e c) (s4T u v) = q at HBL ⊢
  generalize s4C l A B L u v e c = CF at HBL HCT0
  generalize s4T u v = TF at HBL HCT0 HTB
  generalize L.length = lk at *
  generalize (u - 128) / 256 = X at *
  generalize (v - 128) / 256 = Y at *
  generalize (u - 128) % 256 = a at *
  generalize (v - 128) % 256 = b at *
  obtain ⟨T0, hT0⟩ : ∃ z, (256 - a) * (256 - b) = z := ⟨_, rfl⟩
  obtain ⟨T1, hT1⟩ : ∃ z, a * (256 - b) = z := ⟨_, rfl⟩
  obtain ⟨T2w, hT2⟩ : ∃ z, (256 - a) * b = z := ⟨_, rfl⟩
  obtain ⟨T3, hT3⟩ : ∃ z, a * b = z := ⟨_, rfl⟩
  have HCT := HCT0
  rw [hT0, hT1, hT2, hT3] at HCT
  have g0 := HTB.out 0
  have g1 := HTB.out 1
  have g2 := HTB.out 2
  have g3 := HTB.out 3
  rw [HCT.out.2.2.2.2.1] at g0
  rw [HCT.out.2.2.2.2.2.1] at g1
  rw [HCT.out.2.2.2.2.2.2.1] at g2
  rw [HCT.out.2.2.2.2.2.2.2] at g3
  have m0 : IntKind.i64.wrap ((256 - a) * (256 - b)) = T0 := by rw [hT0]; exact (IntKind.wrap_i64 _).trans (by omega)
  have m1 : IntKind.i64.wrap (a * (256 - b)) = T1 := by rw [hT1]; exact (IntKind.wrap_i64 _).trans (by omega)
  have m2 : IntKind.i64.wrap ((256 - a) * b) = T2w := by rw [hT2]; exact (IntKind.wrap_i64 _).trans (by omega)
  have m3 : IntKind.i64.wrap (a * b) = T3 := by rw [hT3]; exact (IntKind.wrap_i64 _).trans (by omega)
  clear HCT0 hT0 hT1 hT2 hT3 HFE hft bf hok HTB hl
  have HALL : Hid (∀ w', Below ((w.alloc (.cells #[.int .i64 A, .int .i64 B, .iface ft (.agg #[]), .slice ra lk rc, .int .i64 e, .int .i64 c.r, .int .i64 c.g, .int .i64 c.b, .int .i64 c.a] 87)).alloc (.cells #[.int .i64 0, .int .i64 0, .int .i64 0, .int .i64 0] 25)).heap.size ((w.alloc (.cells #[.int .i64 A, .int .i64 B, .iface ft (.agg #[]), .slice ra lk rc, .int .i64 e, .int .i64 c.r, .int .i64 c.g, .int .i64 c.b, .int .i64 c.a] 87)).alloc (.cells #[.int .i64 0, .int .i64 0, .int .i64 0, .int .i64 0] 25)) w' → Below w.heap.size w w' ∧ C9 w' w.heap.size (.int .i64 A) (.int .i64 B) (.iface ft (.agg #[])) (.slice ra lk rc) (.int .i64 e) (.int .i64 c.r) (.int .i64 c.g) (.int .i64 c.b) (.int .i64 c.a) ∧ C4 w' (w.heap.size + 1) (.int .i64 0) (.int .i64 0) (.int .i64 0) (.int .i64 0)) := fun w' b => ⟨(b2_ (o1 := (.cells #[.int .i64 A, .int .i64 B, .iface ft (.agg #[]), .slice ra lk rc, .int .i64 e, .int .i64 c.r, .int .i64 c.g, .int .i64 c.b, .int .i64 c.a] 87)) (o2 := (.cells #[.int .i64 0, .int .i64 0, .int .i64 0, .int .i64 0] 25))).trans (b.mono (b2_ (o1 := (.cells #[.int .i64 A, .int .i64 B, .iface ft (.agg #[]), .slice ra lk rc, .int .i64 e, .int .i64 c.r, .int .i64 c.g, .int .i64 c.b, .int .i64 c.a] 87)) (o2 := (.cells #[.int .i64 0, .int .i64 0, .int .i64 0, .int .i64 0] 25))).size), ((C9.new w 87 (.int .i64 A) (.int .i64 B) (.iface ft (.agg #[])) (.slice ra lk rc) (.int .i64 e) (.int .i64 c.r) (.int .i64 c.g) (.int .i64 c.b) (.int .i64 c.a)).next (alloc_b (o := (.cells #[.int .i64 0, .int .i64 0, .int .i64 0, .int .i64 0] 25)))).next b, by
    have h := (C4.new (w.alloc (.cells #[.int .i64 A, .int .i64 B, .iface ft (.agg #[]), .slice ra lk rc, .int .i64 e, .int .i64 c.r, .int .i64 c.g, .int .i64 c.b, .int .i64 c.a] 87)) 25 (.int .i64 0) (.int .i64 0) (.int .i64 0) (.int .i64 0)).next b
    rwa [World.size_alloc] at h⟩
  go_enter Try.func68, Try.ntmps68
  go_wp2_with (first | (go_at_call 70; (with_reducible show Calls Try.prog 70 #[.int .i64 (u - 128)] _ _); refine (HSU.out _).mono ?_; rintro e9 w2 ⟨rfl, hw⟩; subst w2) | (go_at_call 70; (with_reducible show Calls Try.prog 70 #[.int .i64 (v - 128)] _ _); refine (HSV.out _).mono ?_; rintro e9 w2 ⟨rfl, hw⟩; subst w2))
  obtain ⟨BX, T2, DX⟩ := HALL.out _ (Below.refl _ _)
  obtain ⟨W0, hW0⟩ : ∃ W, (w.alloc (.cells #[.int .i64 A, .int .i64 B, .iface ft (.agg #[]), .slice ra lk rc, .int .i64 e, .int .i64 c.r, .int .i64 c.g, .int .i64 c.b, .int .i64 c.a] 87)).alloc (.cells #[.int .i64 0, .int .i64 0, .int .i64 0, .int .i64 0] 25) = W := ⟨_, rfl⟩
  rw [hW0] at BX T2 DX ⊢
  clear hW0 HALL
  generalize hWW : W0.drew = WX
  have T2 := T2.next (below_drew (Below.refl _ _))
  have DX := DX.next (below_drew (Below.refl _ _))
  have BX := below_drew BX
  rw [hWW] at T2 DX BX
  refine wp_region_held_drew (S := fun v => C9 v w.heap.size (.int .i64 A) (.int .i64 B) (.iface ft (.agg #[])) (.slice ra lk rc) (.int .i64 e) (.int .i64 c.r) (.int .i64 c.g) (.int .i64 c.b) (.int .i64 c.a) ∧ Below w.heap.size w v) (by kernel_rfl) (by rw [hWW]; exact ⟨T2, BX⟩) (fun hH => ?_)
  rw [hWW] at hH ⊢
  clear hWW T2 BX
  refine wpAnyH_take (i := 0) (oi := { dst := some 23, op := Op.load 87 (Operand.tmp 3), type := 87, pos := "l16_texture.go:386", after := #[], guard := none }) (v := .agg #[.int .i64 A, .int .i64 B, .iface ft (.agg #[]), .slice ra lk rc, .int .i64 e, .int .i64 c.r, .int .i64 c.g, .int .i64 c.b, .int .i64 c.a]) rfl (by kernel_rfl) (by kernel_rfl) (by kernel_rfl) (fun _ _ _ h => h) (Or.inl ⟨by rfl, fun w0 hSw => by ((have e0 := hSw.1.c0); (have e1 := hSw.1.c1); (have e2 := hSw.1.c2); (have e3 := hSw.1.c3); (have e4 := hSw.1.c4); (have e5 := hSw.1.c5); (have e6 := hSw.1.c6); (have e7 := hSw.1.c7); (have e8 := hSw.1.c8); go_simp)⟩) hH ?_
  simp only [Act.put, List.setIfInBounds_toArray, List.set_cons_zero, List.set_cons_succ]
  refine wpAnyH_take (i := 1) (oi := { dst := some 24, op := Op.move (Operand.tmp 7), type := 3, pos := "l16_texture.go:386", after := #[], guard := none }) (v := .int .i64 X) rfl (by kernel_rfl) (by kernel_rfl) (by kernel_rfl) (fun _ _ _ h => h) (Or.inl ⟨by rfl, fun w0 hSw => by (go_simp)⟩) hH ?_
  simp only [Act.put, List.setIfInBounds_toArray, List.set_cons_zero, List.set_cons_succ]
  refine wpAnyH_take (i := 2) (oi := { dst := some 25, op := Op.move (Operand.tmp 9), type := 3, pos := "l16_texture.go:386", after := #[], guard := none }) (v := .int .i64 Y) rfl (by kernel_rfl) (by kernel_rfl) (by kernel_rfl) (fun _ _ _ h => h) (Or.inl ⟨by rfl, fun w0 hSw => by (go_simp)⟩) hH ?_
  simp only [Act.put, List.setIfInBounds_toArray, List.set_cons_zero, List.set_cons_succ]
  refine wpAnyH_take (i := 4) (oi := { dst := some 27, op := Op.move (Operand.tmp 8), type := 3, pos := "l16_texture.go:386", after := #[], guard := none }) (v := .int .i64 a) rfl (by kernel_rfl) (by kernel_rfl) (by kernel_rfl) (fun _ _ _ h => h) (Or.inl ⟨by rfl, fun w0 hSw => by (go_simp)⟩) hH ?_
  simp only [Act.put, List.setIfInBounds_toArray, List.set_cons_zero, List.set_cons_succ]
  refine wpAnyH_take (i := 5) (oi := { dst := some 28, op := Op.binOp BinOp.sub 3 (Operand.const (Value.int IntKind.i64 256)) (Operand.tmp 27) 3, type := 3, pos := "l16_texture.go:386", after := #[{ on := 4, ground := Ground.data }], guard := none }) (v := .int .i64 (256 - a)) rfl (by kernel_rfl) (by kernel_rfl) (by kernel_rfl) (fun _ _ _ h => h) (Or.inl ⟨by rfl, fun w0 hSw => by (go_simp <;> first | (intro h; exfalso; omega) | exact (IntKind.wrap_i64 _).trans (by omega) | omega)⟩) hH ?_
  simp only [Act.put, List.setIfInBounds_toArray, List.set_cons_zero, List.set_cons_succ]
  refine wpAnyH_take (i := 6) (oi := { dst := some 29, op := Op.move (Operand.tmp 10), type := 3, pos := "l16_texture.go:386", after := #[], guard := none }) (v := .int .i64 b) rfl (by kernel_rfl) (by kernel_rfl) (by kernel_rfl) (fun _ _ _ h => h) (Or.inl ⟨by rfl, fun w0 hSw => by (go_simp)⟩) hH ?_
  simp only [Act.put, List.setIfInBounds_toArray, List.set_cons_zero, List.set_cons_succ]
  refine wpAnyH_take (i := 7) (oi := { dst := some 30, op := Op.binOp BinOp.sub 3 (Operand.const (Value.int IntKind.i64 256)) (Operand.tmp 29) 3, type := 3, pos := "l16_texture.go:386", after := #[{ on := 6, ground := Ground.data }], guard := none }) (v := .int .i64 (256 - b)) rfl (by kernel_rfl) (by kernel_rfl) (by kernel_rfl) (fun _ _ _ h => h) (Or.inl ⟨by rfl, fun w0 hSw => by (go_simp <;> first | (intro h; exfalso; omega) | exact (IntKind.wrap_i64 _).trans (by omega) | omega)⟩) hH ?_
  simp only [Act.put, List.setIfInBounds_toArray, List.set_cons_zero, List.set_cons_succ]
  refine wpAnyH_take (i := 8) (oi := { dst := some 31, op := Op.binOp BinOp.mul 3 (Operand.tmp 28) (Operand.tmp 30) 3, type := 3, pos := "l16_texture.go:386", after := #[{ on := 5, ground := Ground.data }, { on := 7, ground := Ground.data }], guard := none }) (v := .int .i64 T0) rfl (by kernel_rfl) (by kernel_rfl) (by kernel_rfl) (fun _ _ _ h => h) (Or.inl ⟨by rfl, fun w0 hSw => by (go_simp)⟩) hH ?_
  simp only [Act.put, List.setIfInBounds_toArray, List.set_cons_zero, List.set_cons_succ]
  refine wpAnyH_take (i := 10) (oi := { dst := some 33, op := Op.load 87 (Operand.tmp 3), type := 87, pos := "l16_texture.go:386", after := #[], guard := none }) (v := .agg #[.int .i64 A, .int .i64 B, .iface ft (.agg #[]), .slice ra lk rc, .int .i64 e, .int .i64 c.r, .int .i64 c.g, .int .i64 c.b, .int .i64 c.a]) rfl (by kernel_rfl) (by kernel_rfl) (by kernel_rfl) (fun _ _ _ h => h) (Or.inl ⟨by rfl, fun w0 hSw => by ((have e0 := hSw.1.c0); (have e1 := hSw.1.c1); (have e2 := hSw.1.c2); (have e3 := hSw.1.c3); (have e4 := hSw.1.c4); (have e5 := hSw.1.c5); (have e6 := hSw.1.c6); (have e7 := hSw.1.c7); (have e8 := hSw.1.c8); go_simp)⟩) hH ?_
  simp only [Act.put, List.setIfInBounds_toArray, List.set_cons_zero, List.set_cons_succ]
  refine wpAnyH_take (i := 11) (oi := { dst := some 34, op := Op.move (Operand.tmp 7), type := 3, pos := "l16_texture.go:386", after := #[], guard := none }) (v := .int .i64 X) rfl (by kernel_rfl) (by kernel_rfl) (by kernel_rfl) (fun _ _ _ h => h) (Or.inl ⟨by rfl, fun w0 hSw => by (go_simp)⟩) hH ?_
  simp only [Act.put, List.setIfInBounds_toArray, List.set_cons_zero, List.set_cons_succ]
  refine wpAnyH_take (i := 12) (oi := { dst := some 35, op := Op.binOp BinOp.add 3 (Operand.tmp 34) (Operand.const (Value.int IntKind.i64 1)) 3, type := 3, pos := "l16_texture.go:386", after := #[{ on := 11, ground := Ground.data }], guard := none }) (v := .int .i64 (X + 1)) rfl (by kernel_rfl) (by kernel_rfl) (by kernel_rfl) (fun _ _ _ h => h) (Or.inl ⟨by rfl, fun w0 hSw => by (go_simp <;> first | (intro h; exfalso; omega) | exact (IntKind.wrap_i64 _).trans (by omega) | omega)⟩) hH ?_
  simp only [Act.put, List.setIfInBounds_toArray, List.set_cons_zero, List.set_cons_succ]
  refine wpAnyH_take (i := 13) (oi := { dst := some 36, op := Op.move (Operand.tmp 9), type := 3, pos := "l16_texture.go:386", after := #[], guard := none }) (v := .int .i64 Y) rfl (by kernel_rfl) (by kernel_rfl) (by kernel_rfl) (fun _ _ _ h => h) (Or.inl ⟨by rfl, fun w0 hSw => by (go_simp)⟩) hH ?_
  simp only [Act.put, List.setIfInBounds_toArray, List.set_cons_zero, List.set_cons_succ]
  refine wpAnyH_take (i := 15) (oi := { dst := some 38, op := Op.move (Operand.tmp 8), type := 3, pos := "l16_texture.go:386", after := #[], guard := none }) (v := .int .i64 a) rfl (by kernel_rfl) (by kernel_rfl) (by kernel_rfl) (fun _ _ _ h => h) (Or.inl ⟨by rfl, fun w0 hSw => by (go_simp)⟩) hH ?_
  simp only [Act.put, List.setIfInBounds_toArray, List.set_cons_zero, List.set_cons_succ]
  refine wpAnyH_take (i := 16) (oi := { dst := some 39, op := Op.move (Operand.tmp 10), type := 3, pos := "l16_texture.go:386", after := #[], guard := none }) (v := .int .i64 b) rfl (by kernel_rfl) (by kernel_rfl) (by kernel_rfl) (fun _ _ _ h => h) (Or.inl ⟨by rfl, fun w0 hSw => by (go_simp)⟩) hH ?_
  simp only [Act.put, List.setIfInBounds_toArray, List.set_cons_zero, List.set_cons_succ]
  refine wpAnyH_take (i := 17) (oi := { dst := some 40, op := Op.binOp BinOp.sub 3 (Operand.const (Value.int IntKind.i64 256)) (Operand.tmp 39) 3, type := 3, pos := "l16_texture.go:386", after := #[{ on := 16, ground := Ground.data }], guard := none }) (v := .int .i64 (256 - b)) rfl (by kernel_rfl) (by kernel_rfl) (by kernel_rfl) (fun _ _ _ h => h) (Or.inl ⟨by rfl, fun w0 hSw => by (go_simp <;> first | (intro h; exfalso; omega) | exact (IntKind.wrap_i64 _).trans (by omega) | omega)⟩) hH ?_
  simp only [Act.put, List.setIfInBounds_toArray, List.set_cons_zero, List.set_cons_succ]
  refine wpAnyH_take (i := 18) (oi := { dst := some 41, op := Op.binOp BinOp.mul 3 (Operand.tmp 38) (Operand.tmp 40) 3, type := 3, pos := "l16_texture.go:386", after := #[{ on := 15, ground := Ground.data }, { on := 17, ground := Ground.data }], guard := none }) (v := .int .i64 T1) rfl (by kernel_rfl) (by kernel_rfl) (by kernel_rfl) (fun _ _ _ h => h) (Or.inl ⟨by rfl, fun w0 hSw => by (go_simp)⟩) hH ?_
  simp only [Act.put, List.setIfInBounds_toArray, List.set_cons_zero, List.set_cons_succ]
  refine wpAnyH_take (i := 20) (oi := { dst := some 43, op := Op.load 87 (Operand.tmp 3), type := 87, pos := "l16_texture.go:386", after := #[], guard := none }) (v := .agg #[.int .i64 A, .int .i64 B, .iface ft (.agg #[]), .slice ra lk rc, .int .i64 e, .int .i64 c.r, .int .i64 c.g, .int .i64 c.b, .int .i64 c.a]) rfl (by kernel_rfl) (by kernel_rfl) (by kernel_rfl) (fun _ _ _ h => h) (Or.inl ⟨by rfl, fun w0 hSw => by ((have e0 := hSw.1.c0); (have e1 := hSw.1.c1); (have e2 := hSw.1.c2); (have e3 := hSw.1.c3); (have e4 := hSw.1.c4); (have e5 := hSw.1.c5); (have e6 := hSw.1.c6); (have e7 := hSw.1.c7); (have e8 := hSw.1.c8); go_simp)⟩) hH ?_
  simp only [Act.put, List.setIfInBounds_toArray, List.set_cons_zero, List.set_cons_succ]
  refine wpAnyH_take (i := 21) (oi := { dst := some 44, op := Op.move (Operand.tmp 7), type := 3, pos := "l16_texture.go:386", after := #[], guard := none }) (v := .int .i64 X) rfl (by kernel_rfl) (by kernel_rfl) (by kernel_rfl) (fun _ _ _ h => h) (Or.inl ⟨by rfl, fun w0 hSw => by (go_simp)⟩) hH ?_
  simp only [Act.put, List.setIfInBounds_toArray, List.set_cons_zero, List.set_cons_succ]
  refine wpAnyH_take (i := 22) (oi := { dst := some 45, op := Op.move (Operand.tmp 9), type := 3, pos := "l16_texture.go:386", after := #[], guard := none }) (v := .int .i64 Y) rfl (by kernel_rfl) (by kernel_rfl) (by kernel_rfl) (fun _ _ _ h => h) (Or.inl ⟨by rfl, fun w0 hSw => by (go_simp)⟩) hH ?_
  simp only [Act.put, List.setIfInBounds_toArray, List.set_cons_zero, List.set_cons_succ]
  refine wpAnyH_take (i := 23) (oi := { dst := some 46, op := Op.binOp BinOp.add 3 (Operand.tmp 45) (Operand.const (Value.int IntKind.i64 1)) 3, type := 3, pos := "l16_texture.go:386", after := #[{ on := 22, ground := Ground.data }], guard := none }) (v := .int .i64 (Y + 1)) rfl (by kernel_rfl) (by kernel_rfl) (by kernel_rfl) (fun _ _ _ h => h) (Or.inl ⟨by rfl, fun w0 hSw => by (go_simp <;> first | (intro h; exfalso; omega) | exact (IntKind.wrap_i64 _).trans (by omega) | omega)⟩) hH ?_
  simp only [Act.put, List.setIfInBounds_toArray, List.set_cons_zero, List.set_cons_succ]
  refine wpAnyH_take (i := 25) (oi := { dst := some 48, op := Op.move (Operand.tmp 8), type := 3, pos := "l16_texture.go:386", after := #[], guard := none }) (v := .int .i64 a) rfl (by kernel_rfl) (by kernel_rfl) (by kernel_rfl) (fun _ _ _ h => h) (Or.inl ⟨by rfl, fun w0 hSw => by (go_simp)⟩) hH ?_
  simp only [Act.put, List.setIfInBounds_toArray, List.set_cons_zero, List.set_cons_succ]
  refine wpAnyH_take (i := 26) (oi := { dst := some 49, op := Op.binOp BinOp.sub 3 (Operand.const (Value.int IntKind.i64 256)) (Operand.tmp 48) 3, type := 3, pos := "l16_texture.go:386", after := #[{ on := 25, ground := Ground.data }], guard := none }) (v := .int .i64 (256 - a)) rfl (by kernel_rfl) (by kernel_rfl) (by kernel_rfl) (fun _ _ _ h => h) (Or.inl ⟨by rfl, fun w0 hSw => by (go_simp <;> first | (intro h; exfalso; omega) | exact (IntKind.wrap_i64 _).trans (by omega) | omega)⟩) hH ?_
  simp only [Act.put, List.setIfInBounds_toArray, List.set_cons_zero, List.set_cons_succ]
  refine wpAnyH_take (i := 27) (oi := { dst := some 50, op := Op.move (Operand.tmp 10), type := 3, pos := "l16_texture.go:386", after := #[], guard := none }) (v := .int .i64 b) rfl (by kernel_rfl) (by kernel_rfl) (by kernel_rfl) (fun _ _ _ h => h) (Or.inl ⟨by rfl, fun w0 hSw => by (go_simp)⟩) hH ?_
  simp only [Act.put, List.setIfInBounds_toArray, List.set_cons_zero, List.set_cons_succ]
  refine wpAnyH_take (i := 28) (oi := { dst := some 51, op := Op.binOp BinOp.mul 3 (Operand.tmp 49) (Operand.tmp 50) 3, type := 3, pos := "l16_texture.go:386", after := #[{ on := 26, ground := Ground.data }, { on := 27, ground := Ground.data }], guard := none }) (v := .int .i64 T2w) rfl (by kernel_rfl) (by kernel_rfl) (by kernel_rfl) (fun _ _ _ h => h) (Or.inl ⟨by rfl, fun w0 hSw => by (go_simp)⟩) hH ?_
  simp only [Act.put, List.setIfInBounds_toArray, List.set_cons_zero, List.set_cons_succ]
  refine wpAnyH_take (i := 30) (oi := { dst := some 53, op := Op.load 87 (Operand.tmp 3), type := 87, pos := "l16_texture.go:386", after := #[], guard := none }) (v := .agg #[.int .i64 A, .int .i64 B, .iface ft (.agg #[]), .slice ra lk rc, .int .i64 e, .int .i64 c.r, .int .i64 c.g, .int .i64 c.b, .int .i64 c.a]) rfl (by kernel_rfl) (by kernel_rfl) (by kernel_rfl) (fun _ _ _ h => h) (Or.inl ⟨by rfl, fun w0 hSw => by ((have e0 := hSw.1.c0); (have e1 := hSw.1.c1); (have e2 := hSw.1.c2); (have e3 := hSw.1.c3); (have e4 := hSw.1.c4); (have e5 := hSw.1.c5); (have e6 := hSw.1.c6); (have e7 := hSw.1.c7); (have e8 := hSw.1.c8); go_simp)⟩) hH ?_
  simp only [Act.put, List.setIfInBounds_toArray, List.set_cons_zero, List.set_cons_succ]
  refine wpAnyH_take (i := 31) (oi := { dst := some 54, op := Op.move (Operand.tmp 7), type := 3, pos := "l16_texture.go:386", after := #[], guard := none }) (v := .int .i64 X) rfl (by kernel_rfl) (by kernel_rfl) (by kernel_rfl) (fun _ _ _ h => h) (Or.inl ⟨by rfl, fun w0 hSw => by (go_simp)⟩) hH ?_
  simp only [Act.put, List.setIfInBounds_toArray, List.set_cons_zero, List.set_cons_succ]
  refine wpAnyH_take (i := 32) (oi := { dst := some 55, op := Op.binOp BinOp.add 3 (Operand.tmp 54) (Operand.const (Value.int IntKind.i64 1)) 3, type := 3, pos := "l16_texture.go:386", after := #[{ on := 31, ground := Ground.data }], guard := none }) (v := .int .i64 (X + 1)) rfl (by kernel_rfl) (by kernel_rfl) (by kernel_rfl) (fun _ _ _ h => h) (Or.inl ⟨by rfl, fun w0 hSw => by (go_simp <;> first | (intro h; exfalso; omega) | exact (IntKind.wrap_i64 _).trans (by omega) | omega)⟩) hH ?_
  simp only [Act.put, List.setIfInBounds_toArray, List.set_cons_zero, List.set_cons_succ]
  refine wpAnyH_take (i := 33) (oi := { dst := some 56, op := Op.move (Operand.tmp 9), type := 3, pos := "l16_texture.go:386", after := #[], guard := none }) (v := .int .i64 Y) rfl (by kernel_rfl) (by kernel_rfl) (by kernel_rfl) (fun _ _ _ h => h) (Or.inl ⟨by rfl, fun w0 hSw => by (go_simp)⟩) hH ?_
  simp only [Act.put, List.setIfInBounds_toArray, List.set_cons_zero, List.set_cons_succ]
  refine wpAnyH_take (i := 34) (oi := { dst := some 57, op := Op.binOp BinOp.add 3 (Operand.tmp 56) (Operand.const (Value.int IntKind.i64 1)) 3, type := 3, pos := "l16_texture.go:386", after := #[{ on := 33, ground := Ground.data }], guard := none }) (v := .int .i64 (Y + 1)) rfl (by kernel_rfl) (by kernel_rfl) (by kernel_rfl) (fun _ _ _ h => h) (Or.inl ⟨by rfl, fun w0 hSw => by (go_simp <;> first | (intro h; exfalso; omega) | exact (IntKind.wrap_i64 _).trans (by omega) | omega)⟩) hH ?_
  simp only [Act.put, List.setIfInBounds_toArray, List.set_cons_zero, List.set_cons_succ]
  refine wpAnyH_take (i := 36) (oi := { dst := some 59, op := Op.move (Operand.tmp 8), type := 3, pos := "l16_texture.go:386", after := #[], guard := none }) (v := .int .i64 a) rfl (by kernel_rfl) (by kernel_rfl) (by kernel_rfl) (fun _ _ _ h => h) (Or.inl ⟨by rfl, fun w0 hSw => by (go_simp)⟩) hH ?_
  simp only [Act.put, List.setIfInBounds_toArray, List.set_cons_zero, List.set_cons_succ]
  refine wpAnyH_take (i := 37) (oi := { dst := some 60, op := Op.move (Operand.tmp 10), type := 3, pos := "l16_texture.go:386", after := #[], guard := none }) (v := .int .i64 b) rfl (by kernel_rfl) (by kernel_rfl) (by kernel_rfl) (fun _ _ _ h => h) (Or.inl ⟨by rfl, fun w0 hSw => by (go_simp)⟩) hH ?_
  simp only [Act.put, List.setIfInBounds_toArray, List.set_cons_zero, List.set_cons_succ]
  refine wpAnyH_take (i := 38) (oi := { dst := some 61, op := Op.binOp BinOp.mul 3 (Operand.tmp 59) (Operand.tmp 60) 3, type := 3, pos := "l16_texture.go:386", after := #[{ on := 36, ground := Ground.data }, { on := 37, ground := Ground.data }], guard := none }) (v := .int .i64 T3) rfl (by kernel_rfl) (by kernel_rfl) (by kernel_rfl) (fun _ _ _ h => h) (Or.inl ⟨by rfl, fun w0 hSw => by (go_simp)⟩) hH ?_
  simp only [Act.put, List.setIfInBounds_toArray, List.set_cons_zero, List.set_cons_succ]
  refine wpAnyH_ready (rs := [3]) (by kernel_rfl) (by simp) ?_
  refine (AllReadyH.cons (o := { dst := some 26, op := Op.call { callee := Callee.value (Operand.func 64), args := #[Operand.tmp 23, Operand.tmp 24, Operand.tmp 25], argTypes := #[87, 3, 3] }, type := 25, pos := "l16_texture.go:387", after := #[{ on := 0, ground := Ground.data }, { on := 1, ground := Ground.data }, { on := 2, ground := Ground.data }], guard := none }) rfl (fun K hK => ?_) AllReadyH.nil)
  refine step_callC 64 #[.agg #[.int .i64 A, .int .i64 B, .iface ft (.agg #[]), .slice ra lk rc, .int .i64 e, .int .i64 c.r, .int .i64 c.g, .int .i64 c.b, .int .i64 c.a], .int .i64 (X), .int .i64 (Y)] (fun z v w' => z = .agg #[.int .i64 (D0).r, .int .i64 (D0).g, .int .i64 (D0).b, .int .i64 (D0).a] ∧ Below v.heap.size v w') (by rfl) (by go_simp) ((HF0.out _ hH.2).mono fun e w' ⟨h1, h2⟩ => ⟨_, h1, rfl, h2⟩) ?_
  rintro z0 wf0 ⟨rfl, Bf0⟩
  simp only [Act.put, List.setIfInBounds_toArray, List.set_cons_zero, List.set_cons_succ]
  refine hK.out _ _ ⟨hH.1.next Bf0, hH.2.trans (Bf0.mono hH.2.size)⟩ (fun hH' => ?_)
  replace DX := DX.next Bf0
  clear hK K
  replace hH := hH'
  clear hH' Bf0
  refine wpAnyH_take (i := 9) (oi := { dst := some 32, op := Op.build 96 #[(0, Operand.tmp 26), (1, Operand.tmp 31)], type := 96, pos := "l16_texture.go:386", after := #[{ on := 3, ground := Ground.data }, { on := 8, ground := Ground.data }], guard := none }) (v := .agg #[.int .i64 (D0).r, .int .i64 (D0).g, .int .i64 (D0).b, .int .i64 (D0).a, .int .i64 T0]) rfl (by kernel_rfl) (by kernel_rfl) (by kernel_rfl) (fun _ _ _ h => h) (Or.inl ⟨by rfl, fun w0 hSw => by (go_simp)⟩) hH ?_
  simp only [Act.put, List.setIfInBounds_toArray, List.set_cons_zero, List.set_cons_succ]
  refine wpAnyH_ready (rs := [14]) (by kernel_rfl) (by simp) ?_
  refine (AllReadyH.cons (o := { dst := some 37, op := Op.call { callee := Callee.value (Operand.func 64), args := #[Operand.tmp 33, Operand.tmp 35, Operand.tmp 36], argTypes := #[87, 3, 3] }, type := 25, pos := "l16_texture.go:388", after := #[{ on := 10, ground := Ground.data }, { on := 12, ground := Ground.data }, { on := 13, ground := Ground.data }, { on := 3, ground := Ground.chain }], guard := none }) rfl (fun K hK => ?_) AllReadyH.nil)
  refine step_callC 64 #[.agg #[.int .i64 A, .int .i64 B, .iface ft (.agg #[]), .slice ra lk rc, .int .i64 e, .int .i64 c.r, .int .i64 c.g, .int .i64 c.b, .int .i64 c.a], .int .i64 (X + 1), .int .i64 (Y)] (fun z v w' => z = .agg #[.int .i64 (D1).r, .int .i64 (D1).g, .int .i64 (D1).b, .int .i64 (D1).a] ∧ Below v.heap.size v w') (by rfl) (by go_simp) ((HF1.out _ hH.2).mono fun e w' ⟨h1, h2⟩ => ⟨_, h1, rfl, h2⟩) ?_
  rintro z1 wf1 ⟨rfl, Bf1⟩
  simp only [Act.put, List.setIfInBounds_toArray, List.set_cons_zero, List.set_cons_succ]
  refine hK.out _ _ ⟨hH.1.next Bf1, hH.2.trans (Bf1.mono hH.2.size)⟩ (fun hH' => ?_)
  replace DX := DX.next Bf1
  clear hK K
  replace hH := hH'
  clear hH' Bf1
  refine wpAnyH_take (i := 19) (oi := { dst := some 42, op := Op.build 96 #[(0, Operand.tmp 37), (1, Operand.tmp 41)], type := 96, pos := "l16_texture.go:386", after := #[{ on := 14, ground := Ground.data }, { on := 18, ground := Ground.data }], guard := none }) (v := .agg #[.int .i64 (D1).r, .int .i64 (D1).g, .int .i64 (D1).b, .int .i64 (D1).a, .int .i64 T1]) rfl (by kernel_rfl) (by kernel_rfl) (by kernel_rfl) (fun _ _ _ h => h) (Or.inl ⟨by rfl, fun w0 hSw => by (go_simp)⟩) hH ?_
  simp only [Act.put, List.setIfInBounds_toArray, List.set_cons_zero, List.set_cons_succ]
  refine wpAnyH_ready (rs := [24]) (by kernel_rfl) (by simp) ?_
  refine (AllReadyH.cons (o := { dst := some 47, op := Op.call { callee := Callee.value (Operand.func 64), args := #[Operand.tmp 43, Operand.tmp 44, Operand.tmp 46], argTypes := #[87, 3, 3] }, type := 25, pos := "l16_texture.go:389", after := #[{ on := 20, ground := Ground.data }, { on := 21, ground := Ground.data }, { on := 23, ground := Ground.data }, { on := 14, ground := Ground.chain }], guard := none }) rfl (fun K hK => ?_) AllReadyH.nil)
  refine step_callC 64 #[.agg #[.int .i64 A, .int .i64 B, .iface ft (.agg #[]), .slice ra lk rc, .int .i64 e, .int .i64 c.r, .int .i64 c.g, .int .i64 c.b, .int .i64 c.a], .int .i64 (X), .int .i64 (Y + 1)] (fun z v w' => z = .agg #[.int .i64 (D2).r, .int .i64 (D2).g, .int .i64 (D2).b, .int .i64 (D2).a] ∧ Below v.heap.size v w') (by rfl) (by go_simp) ((HF2.out _ hH.2).mono fun e w' ⟨h1, h2⟩ => ⟨_, h1, rfl, h2⟩) ?_
  rintro z2 wf2 ⟨rfl, Bf2⟩
  simp only [Act.put, List.setIfInBounds_toArray, List.set_cons_zero, List.set_cons_succ]
  refine hK.out _ _ ⟨hH.1.next Bf2, hH.2.trans (Bf2.mono hH.2.size)⟩ (fun hH' => ?_)
  replace DX := DX.next Bf2
  clear hK K
  replace hH := hH'
  clear hH' Bf2
  refine wpAnyH_take (i := 29) (oi := { dst := some 52, op := Op.build 96 #[(0, Operand.tmp 47), (1, Operand.tmp 51)], type := 96, pos := "l16_texture.go:386", after := #[{ on := 24, ground := Ground.data }, { on := 28, ground := Ground.data }], guard := none }) (v := .agg #[.int .i64 (D2).r, .int .i64 (D2).g, .int .i64 (D2).b, .int .i64 (D2).a, .int .i64 T2w]) rfl (by kernel_rfl) (by kernel_rfl) (by kernel_rfl) (fun _ _ _ h => h) (Or.inl ⟨by rfl, fun w0 hSw => by (go_simp)⟩) hH ?_
  simp only [Act.put, List.setIfInBounds_toArray, List.set_cons_zero, List.set_cons_succ]
  refine wpAnyH_ready (rs := [35]) (by kernel_rfl) (by simp) ?_
  refine (AllReadyH.cons (o := { dst := some 58, op := Op.call { callee := Callee.value (Operand.func 64), args := #[Operand.tmp 53, Operand.tmp 55, Operand.tmp 57], argTypes := #[87, 3, 3] }, type := 25, pos := "l16_texture.go:390", after := #[{ on := 30, ground := Ground.data }, { on := 32, ground := Ground.data }, { on := 34, ground := Ground.data }, { on := 24, ground := Ground.chain }], guard := none }) rfl (fun K hK => ?_) AllReadyH.nil)
  refine step_callC 64 #[.agg #[.int .i64 A, .int .i64 B, .iface ft (.agg #[]), .slice ra lk rc, .int .i64 e, .int .i64 c.r, .int .i64 c.g, .int .i64 c.b, .int .i64 c.a], .int .i64 (X + 1), .int .i64 (Y + 1)] (fun z v w' => z = .agg #[.int .i64 (D3).r, .int .i64 (D3).g, .int .i64 (D3).b, .int .i64 (D3).a] ∧ Below v.heap.size v w') (by rfl) (by go_simp) ((HF3.out _ hH.2).mono fun e w' ⟨h1, h2⟩ => ⟨_, h1, rfl, h2⟩) ?_
  rintro z3 wf3 ⟨rfl, Bf3⟩
  simp only [Act.put, List.setIfInBounds_toArray, List.set_cons_zero, List.set_cons_succ]
  refine hK.out _ _ ⟨hH.1.next Bf3, hH.2.trans (Bf3.mono hH.2.size)⟩ (fun hH' => ?_)
  replace DX := DX.next Bf3
  clear hK K
  replace hH := hH'
  clear hH' Bf3
  refine wpAnyH_take (i := 39) (oi := { dst := some 62, op := Op.build 96 #[(0, Operand.tmp 58), (1, Operand.tmp 61)], type := 96, pos := "l16_texture.go:386", after := #[{ on := 35, ground := Ground.data }, { on := 38, ground := Ground.data }], guard := none }) (v := .agg #[.int .i64 (D3).r, .int .i64 (D3).g, .int .i64 (D3).b, .int .i64 (D3).a, .int .i64 T3]) rfl (by kernel_rfl) (by kernel_rfl) (by kernel_rfl) (fun _ _ _ h => h) (Or.inl ⟨by rfl, fun w0 hSw => by (go_simp)⟩) hH ?_
  simp only [Act.put, List.setIfInBounds_toArray, List.set_cons_zero, List.set_cons_succ]
  refine wpAnyH_ready (rs := [40]) (by kernel_rfl) (by simp) ?_
  refine (AllReadyH.cons (o := { dst := some 63, op := Op.buildSlice 112 4 #[(0, Operand.tmp 32), (1, Operand.tmp 42), (2, Operand.tmp 52), (3, Operand.tmp 62)], type := 112, pos := "l16_texture.go:386", after := #[{ on := 9, ground := Ground.data }, { on := 19, ground := Ground.data }, { on := 29, ground := Ground.data }, { on := 39, ground := Ground.data }], guard := none }) rfl (fun K hK => ?_) AllReadyH.nil)
  refine step_val (.slice (some ⟨wf3.heap.size, 0, none⟩) 4 4) (wf3.alloc (.cells #[.int .i64 (D0).r, .int .i64 (D0).g, .int .i64 (D0).b, .int .i64 (D0).a, .int .i64 T0, .int .i64 (D1).r, .int .i64 (D1).g, .int .i64 (D1).b, .int .i64 (D1).a, .int .i64 T1, .int .i64 (D2).r, .int .i64 (D2).g, .int .i64 (D2).b, .int .i64 (D2).a, .int .i64 T2w, .int .i64 (D3).r, .int .i64 (D3).g, .int .i64 (D3).b, .int .i64 (D3).a, .int .i64 T3] 96)) (by rfl) (by go_simp) ?_
  have PR : PRow (wf3.alloc (.cells #[.int .i64 (D0).r, .int .i64 (D0).g, .int .i64 (D0).b, .int .i64 (D0).a, .int .i64 T0, .int .i64 (D1).r, .int .i64 (D1).g, .int .i64 (D1).b, .int .i64 (D1).a, .int .i64 T1, .int .i64 (D2).r, .int .i64 (D2).g, .int .i64 (D2).b, .int .i64 (D2).a, .int .i64 T2w, .int .i64 (D3).r, .int .i64 (D3).g, .int .i64 (D3).b, .int .i64 (D3).a, .int .i64 T3] 96)) (.slice (some ⟨wf3.heap.size, 0, none⟩) 4 4) 4 CF TF := ⟨_, 0, _, rfl, fun i hi => by
    have h4 : i = 0 ∨ i = 1 ∨ i = 2 ∨ i = 3 := by omega
    rcases h4 with rfl | rfl | rfl | rfl
    · rw [HCT.out.1, HCT.out.2.2.2.2.1]; exact ⟨by simp, by simp, by simp, by simp, by simp⟩
    · rw [HCT.out.2.1, HCT.out.2.2.2.2.2.1]; exact ⟨by simp, by simp, by simp, by simp, by simp⟩
    · rw [HCT.out.2.2.1, HCT.out.2.2.2.2.2.2.1]; exact ⟨by simp, by simp, by simp, by simp, by simp⟩
    · rw [HCT.out.2.2.2.1, HCT.out.2.2.2.2.2.2.2]; exact ⟨by simp, by simp, by simp, by simp, by simp⟩⟩
  simp only [Act.put, List.setIfInBounds_toArray, List.set_cons_zero, List.set_cons_succ]
  refine hK.out _ _ ⟨hH.1.next alloc_b, hH.2.trans (alloc_b.mono hH.2.size)⟩ (fun hH' => ?_)
  replace DX := DX.next (alloc_b (o := (.cells #[.int .i64 (D0).r, .int .i64 (D0).g, .int .i64 (D0).b, .int .i64 (D0).a, .int .i64 T0, .int .i64 (D1).r, .int .i64 (D1).g, .int .i64 (D1).b, .int .i64 (D1).a, .int .i64 T1, .int .i64 (D2).r, .int .i64 (D2).g, .int .i64 (D2).b, .int .i64 (D2).a, .int .i64 T2w, .int .i64 (D3).r, .int .i64 (D3).g, .int .i64 (D3).b, .int .i64 (D3).a, .int .i64 T3] 96)))
  clear hK K
  replace hH := hH'
  clear hH' 
  refine wpAnyH_ready (rs := [41]) (by kernel_rfl) (by simp) ?_
  refine (AllReadyH.cons (o := { dst := some 64, op := Op.call { callee := Callee.value (Operand.func 71), args := #[Operand.tmp 63], argTypes := #[112] }, type := 25, pos := "l16_texture.go:386", after := #[{ on := 40, ground := Ground.data }, { on := 35, ground := Ground.chain }], guard := none }) rfl (fun K hK => ?_) AllReadyH.nil)
  refine step_callC 71 #[.slice (some ⟨wf3.heap.size, 0, none⟩) 4 4] (fun z v w' => z = .agg #[.int .i64 q.r, .int .i64 q.g, .int .i64 q.b, .int .i64 q.a] ∧ Below v.heap.size v w') (by rfl) (by go_simp) ((HBL.out _ _ PR).mono fun e w' ⟨h1, h2⟩ => ⟨_, h1, rfl, h2⟩) ?_
  rintro z9 w9 ⟨rfl, B9⟩
  simp only [Act.put, List.setIfInBounds_toArray, List.set_cons_zero, List.set_cons_succ]
  refine hK.out _ _ ⟨hH.1.next B9, hH.2.trans (B9.mono hH.2.size)⟩ (fun hH' => ?_)
  replace DX := DX.next B9
  clear hK K PR
  replace hH := hH'
  clear hH' B9
  refine wpAnyH_ready (rs := [42]) (by kernel_rfl) (by simp) ?_
  refine (AllReadyH.cons (o := { dst := none, op := Op.store 25 (Operand.tmp 6) (Operand.tmp 64), type := 0, pos := "l16_texture.go:386", after := #[{ on := 41, ground := Ground.data }, { on := 41, ground := Ground.chain }, { on := 0, ground := Ground.phase }, { on := 1, ground := Ground.phase }, { on := 2, ground := Ground.phase }, { on := 3, ground := Ground.phase }, { on := 4, ground := Ground.phase }, { on := 5, ground := Ground.phase }, { on := 6, ground := Ground.phase }, { on := 7, ground := Ground.phase }, { on := 8, ground := Ground.phase }, { on := 9, ground := Ground.phase }, { on := 10, ground := Ground.phase }, { on := 11, ground := Ground.phase }, { on := 12, ground := Ground.phase }, { on := 13, ground := Ground.phase }, { on := 14, ground := Ground.phase }, { on := 15, ground := Ground.phase }, { on := 16, ground := Ground.phase }, { on := 17, ground := Ground.phase }, { on := 18, ground := Ground.phase }, { on := 19, ground := Ground.phase }, { on := 20, ground := Ground.phase }, { on := 21, ground := Ground.phase }, { on := 22, ground := Ground.phase }, { on := 23, ground := Ground.phase }, { on := 24, ground := Ground.phase }, { on := 25, ground := Ground.phase }, { on := 26, ground := Ground.phase }, { on := 27, ground := Ground.phase }, { on := 28, ground := Ground.phase }, { on := 29, ground := Ground.phase }, { on := 30, ground := Ground.phase }, { on := 31, ground := Ground.phase }, { on := 32, ground := Ground.phase }, { on := 33, ground := Ground.phase }, { on := 34, ground := Ground.phase }, { on := 35, ground := Ground.phase }, { on := 36, ground := Ground.phase }, { on := 37, ground := Ground.phase }, { on := 38, ground := Ground.phase }, { on := 39, ground := Ground.phase }, { on := 40, ground := Ground.phase }, { on := 41, ground := Ground.phase }], guard := none }) rfl (fun K hK => ?_) AllReadyH.nil)
  have D8 := DX
  have s0 := D8.c0
  have s1 := D8.c1
  have s2 := D8.c2
  have s3 := D8.c3
  have sf := D8.f
  refine step_skip (set4 w9 (w.heap.size + 1) (.int .i64 q.r) (.int .i64 q.g) (.int .i64 q.b) (.int .i64 q.a)) (by rfl) (by unfold set4; go_simp) ?_
  have D9 := D8.put (.int .i64 q.r) (.int .i64 q.g) (.int .i64 q.b) (.int .i64 q.a)
  have O9 := only_set4 w9 (w.heap.size + 1) (.int .i64 q.r) (.int .i64 q.g) (.int .i64 q.b) (.int .i64 q.a)
  have BZ := hH.2
  have B9 : Below w.heap.size w (set4 w9 (w.heap.size + 1) (.int .i64 q.r) (.int .i64 q.g) (.int .i64 q.b) (.int .i64 q.a)) := BZ.trans (O9.below (by omega) BZ.size)
  refine hK.out _ _ ⟨hH.1.block (O9.block _ hH.1.hi (by omega)) O9.size, B9⟩ (fun hH' => ?_)
  clear hK K hH hH' s0 s1 s2 s3 sf D8 O9 BZ
  refine wpAnyH_done (by kernel_rfl) ?_ _
  go_wp2
  generalize set4 w9 (w.heap.size + 1) (.int .i64 q.r) (.int .i64 q.g) (.int .i64 q.b) (.int .i64 q.a) = V at D9 B9 ⊢
  have r0 := D9.c0
  have r1 := D9.c1
  have r2 := D9.c2
  have r3 := D9.c3
  exact bodyPost_ret (v := .agg #[.int .i64 q.r, .int .i64 q.g, .int .i64 q.b, .int .i64 q.a]) (by simp [results, Try.results68, go_sem, r0, r1, r2, r3]) rfl ⟨rfl, B9⟩
end Go.Proofs.Ythkngcdfnemhaaa
