/- The model's sum of colors. -/
import Derived.Test.YthkngcdfnemhaaaAu
import Derived.BigRegion
namespace Go.Proofs.Ythkngcdfnemhaaa
open Go.ChangeShapes Go.WideShapes Go.ChangeAt Go.RowKit
set_option linter.unusedVariables false
/-- What l16Sum answers. -/
def suC (n : Nat) (C : Nat → Col) (t : Nat → Int) (half by_ : Int) : Col := ⟨(half + sm (fun i => (C i).r) t n) / by_, (half + sm (fun i => (C i).g) t n) / by_, (half + sm (fun i => (C i).b) t n) / by_, (half + sm (fun i => (C i).a) t n) / by_⟩
theorem su_bl (n : Nat) (C : Nat → Col) (t : Nat → Int) (half by_ : Int) (h1 : al t n = by_) (h2 : by_ / 2 = half) : suC n C t half by_ = blC n C t := by
  unfold suC blC
  rw [h1, h2]
  congr 1 <;> rw [Int.add_comm]
/-- A row of colors. -/
def CRow (w : World) (v : Value) (n : Nat) (C : Nat → Col) : Prop := ∃ g o c, v = .slice (some ⟨g, o, none⟩) n c ∧ ∀ i, i < n → w.cell? ⟨g, o + i * 4, none⟩ = some (.int .i64 (C i).r) ∧ w.cell? ⟨g, o + i * 4 + 1, none⟩ = some (.int .i64 (C i).g) ∧ w.cell? ⟨g, o + i * 4 + 2, none⟩ = some (.int .i64 (C i).b) ∧ w.cell? ⟨g, o + i * 4 + 3, none⟩ = some (.int .i64 (C i).a)
/-- A row of whole numbers. -/
def NRw (w : World) (v : Value) (n : Nat) (t : Nat → Int) : Prop := ∃ g o c, v = .slice (some ⟨g, o, none⟩) n c ∧ ∀ i, i < n → w.cell? ⟨g, o + i, none⟩ = some (.int .i64 (t i))
set_option maxRecDepth 100000 in
set_option maxHeartbeats 4000000 in
theorem msum (n : Nat) (C : Nat → Col) (t : Nat → Int) (half by_ : Int) (v vt : Value) (w : World) (R : CRow w v n C) (RT : NRw w vt n t) (n4 : n ≤ 4) (hC : ∀ i, i < n → (C i).ok) (ht : ∀ i, i < n → 0 ≤ t i ∧ t i ≤ 65536) (hh : 0 ≤ half ∧ half ≤ 65536) (hb : 1 ≤ by_ ∧ by_ ≤ 65536) : Calls Try.prog 69 #[v, vt, .int .i64 half, .int .i64 by_] w fun e w' => e = .returned (colV (suC n C t half by_)) ∧ Below w.heap.size w w' := by
  obtain ⟨g, o, cp, rfl, hx⟩ := R
  obtain ⟨g2, o2, cp2, rfl, hx2⟩ := RT
  have HX := Hid.mk hx
  have HX2 := Hid.mk hx2
  have HC := Hid.mk hC
  have HT := Hid.mk ht
  have HS0 := Hid.mk (sm_bnd (fun i => (C i).r) t n (fun i hi => (hC i hi).1) ht)
  have HS1 := Hid.mk (sm_bnd (fun i => (C i).g) t n (fun i hi => (hC i hi).2.1) ht)
  have HS2 := Hid.mk (sm_bnd (fun i => (C i).b) t n (fun i hi => (hC i hi).2.2.1) ht)
  have HS3 := Hid.mk (sm_bnd (fun i => (C i).a) t n (fun i hi => (hC i hi).2.2.2) ht)
  have HB0 : Hid (Below w.heap.size w ((w.alloc (.cells #[.int .i64 0, .int .i64 0, .int .i64 0, .int .i64 0] 25)).alloc (.cells #[.int .i64 half, .int .i64 half, .int .i64 half, .int .i64 half] 25))) := b2_
  have HR0 : Hid (C4 ((w.alloc (.cells #[.int .i64 0, .int .i64 0, .int .i64 0, .int .i64 0] 25)).alloc (.cells #[.int .i64 half, .int .i64 half, .int .i64 half, .int .i64 half] 25)) w.heap.size (.int .i64 0) (.int .i64 0) (.int .i64 0) (.int .i64 0)) := (C4.new w 25 (.int .i64 0) (.int .i64 0) (.int .i64 0) (.int .i64 0)).next alloc_b
  have HM0 : Hid (C4 ((w.alloc (.cells #[.int .i64 0, .int .i64 0, .int .i64 0, .int .i64 0] 25)).alloc (.cells #[.int .i64 half, .int .i64 half, .int .i64 half, .int .i64 half] 25)) (w.heap.size + 1) (.int .i64 (half + sm (fun i => (C i).r) t 0)) (.int .i64 (half + sm (fun i => (C i).g) t 0)) (.int .i64 (half + sm (fun i => (C i).b) t 0)) (.int .i64 (half + sm (fun i => (C i).a) t 0))) := by
    have h := C4.new (w.alloc (.cells #[.int .i64 0, .int .i64 0, .int .i64 0, .int .i64 0] 25)) 25 (.int .i64 half) (.int .i64 half) (.int .i64 half) (.int .i64 half)
    rw [World.size_alloc] at h
    have e : ∀ f : Nat → Int, half + sm f t 0 = half := fun f => Int.add_zero half
    show C4 _ _ _ _ _ _
    rw [e, e, e, e]
    exact h
  clear hx hx2 hC ht
  unfold colV suC
  go_enter Try.func69, Try.ntmps69
  go_wp2
  go_loopw [18] (fun i wr => ∃ k : Nat, k ≤ n ∧ i = .int .i64 k ∧ Hid (C4 wr (w.heap.size + 1) (.int .i64 (half + sm (fun i => (C i).r) t k)) (.int .i64 (half + sm (fun i => (C i).g) t k)) (.int .i64 (half + sm (fun i => (C i).b) t k)) (.int .i64 (half + sm (fun i => (C i).a) t k))) ∧ Hid (C4 wr w.heap.size (.int .i64 0) (.int .i64 0) (.int .i64 0) (.int .i64 0)) ∧ Hid (Below w.heap.size w wr)) (fun i _ => n - (intOf i).toNat)
  case atStart => exact ⟨0, Nat.zero_le _, rfl, HM0, HR0, HB0⟩
  case round =>
    obtain ⟨k, hk, rfl, HM, HR, HB⟩ := hrel
    clear HB0 HR0 HM0
    have ss0 := HS0.out k hk
    have ss1 := HS1.out k hk
    have ss2 := HS2.out k hk
    have ss3 := HS3.out k hk
    obtain ⟨h0, h1⟩ := hh
    obtain ⟨b0, b1⟩ := hb
    by_cases hkn : k < n
    case neg =>
      obtain rfl : n = k := by omega
      have i1 : ¬ (n : Int) < (n : Int) := by omega
      obtain ⟨Q0, hQ0⟩ : ∃ Q, (half + sm (fun i => (C i).r) t n) / by_ = Q := ⟨_, rfl⟩
      obtain ⟨Q1, hQ1⟩ : ∃ Q, (half + sm (fun i => (C i).g) t n) / by_ = Q := ⟨_, rfl⟩
      obtain ⟨Q2, hQ2⟩ : ∃ Q, (half + sm (fun i => (C i).b) t n) / by_ = Q := ⟨_, rfl⟩
      obtain ⟨Q3, hQ3⟩ : ∃ Q, (half + sm (fun i => (C i).a) t n) / by_ = Q := ⟨_, rfl⟩
      have HQ := Hid.mk (And.intro hQ0 (And.intro hQ1 (And.intro hQ2 hQ3)))
      obtain ⟨S0, hS0⟩ : ∃ S, (half + sm (fun i => (C i).r) t n) = S := ⟨_, rfl⟩
      rw [hS0] at HM hQ0
      have sb0 : 0 ≤ S0 ∧ S0 ≤ 70000000 := by rw [← hS0]; omega
      obtain ⟨S1, hS1⟩ : ∃ S, (half + sm (fun i => (C i).g) t n) = S := ⟨_, rfl⟩
      rw [hS1] at HM hQ1
      have sb1 : 0 ≤ S1 ∧ S1 ≤ 70000000 := by rw [← hS1]; omega
      obtain ⟨S2, hS2⟩ : ∃ S, (half + sm (fun i => (C i).b) t n) = S := ⟨_, rfl⟩
      rw [hS2] at HM hQ2
      have sb2 : 0 ≤ S2 ∧ S2 ≤ 70000000 := by rw [← hS2]; omega
      obtain ⟨S3, hS3⟩ : ∃ S, (half + sm (fun i => (C i).a) t n) = S := ⟨_, rfl⟩
      rw [hS3] at HM hQ3
      have sb3 : 0 ≤ S3 ∧ S3 ≤ 70000000 := by rw [← hS3]; omega
      have nz : ¬ by_ = 0 := by omega
      have dq0 : S0.tdiv by_ = Q0 := by rw [Int.tdiv_eq_ediv_of_nonneg (by omega), hQ0]
      have dq1 : S1.tdiv by_ = Q1 := by rw [Int.tdiv_eq_ediv_of_nonneg (by omega), hQ1]
      have dq2 : S2.tdiv by_ = Q2 := by rw [Int.tdiv_eq_ediv_of_nonneg (by omega), hQ2]
      have dq3 : S3.tdiv by_ = Q3 := by rw [Int.tdiv_eq_ediv_of_nonneg (by omega), hQ3]
      have q0 : 0 ≤ Q0 ∧ Q0 ≤ S0 := ⟨by rw [← hQ0]; exact Int.ediv_nonneg (by omega) (by omega), by rw [← hQ0]; exact Int.ediv_le_self _ (by omega)⟩
      have q1 : 0 ≤ Q1 ∧ Q1 ≤ S1 := ⟨by rw [← hQ1]; exact Int.ediv_nonneg (by omega) (by omega), by rw [← hQ1]; exact Int.ediv_le_self _ (by omega)⟩
      have q2 : 0 ≤ Q2 ∧ Q2 ≤ S2 := ⟨by rw [← hQ2]; exact Int.ediv_nonneg (by omega) (by omega), by rw [← hQ2]; exact Int.ediv_le_self _ (by omega)⟩
      have q3 : 0 ≤ Q3 ∧ Q3 ≤ S3 := ⟨by rw [← hQ3]; exact Int.ediv_nonneg (by omega) (by omega), by rw [← hQ3]; exact Int.ediv_le_self _ (by omega)⟩
      have wq0 : IntKind.i64.wrap Q0 = Q0 := (IntKind.wrap_i64 _).trans (by omega)
      have wq1 : IntKind.i64.wrap Q1 = Q1 := (IntKind.wrap_i64 _).trans (by omega)
      have wq2 : IntKind.i64.wrap Q2 = Q2 := (IntKind.wrap_i64 _).trans (by omega)
      have wq3 : IntKind.i64.wrap Q3 = Q3 := (IntKind.wrap_i64 _).trans (by omega)
      clear hQ0 hQ1 hQ2 hQ3 hS0 hS1 hS2 hS3 ss0 ss1 ss2 ss3
      go_wp2
      generalize hWW : wr.drew = WX
      have M2 := HM.out.next (below_drew (Below.refl _ _))
      have R2 := HR.out.next (below_drew (Below.refl _ _))
      have BX := below_drew HB.out
      rw [hWW] at M2 R2 BX
      refine wp_region_held_drew (S := fun v => C4 v (w.heap.size + 1) (.int .i64 S0) (.int .i64 S1) (.int .i64 S2) (.int .i64 S3)) (by kernel_rfl) (by rw [hWW]; exact M2) (fun hH => ?_)
      rw [hWW] at hH ⊢
      clear hWW
      refine wpAnyH_take (i := 0) (oi := { dst := some 75, op := Op.fieldAddr 25 (Operand.tmp 9) 0, type := 0, pos := "l16_texture.go:202", after := #[], guard := none }) (v := .pointer (some ⟨w.heap.size + 1, 0, none⟩)) rfl (by kernel_rfl) (by kernel_rfl) (by kernel_rfl) (fun _ _ _ h => h) (Or.inl ⟨by rfl, fun w0 hSw => by (go_simp)⟩) hH ?_
      simp only [Act.put, List.setIfInBounds_toArray, List.set_cons_zero, List.set_cons_succ]
      refine wpAnyH_take (i := 1) (oi := { dst := some 76, op := Op.load 3 (Operand.tmp 75), type := 3, pos := "l16_texture.go:202", after := #[{ on := 0, ground := Ground.data }], guard := none }) (v := .int .i64 S0) rfl (by kernel_rfl) (by kernel_rfl) (by kernel_rfl) (fun _ _ _ h => h) (Or.inl ⟨by rfl, fun w0 hSw => by ((have e9 := hSw.c0); go_simp)⟩) hH ?_
      simp only [Act.put, List.setIfInBounds_toArray, List.set_cons_zero, List.set_cons_succ]
      refine wpAnyH_take (i := 2) (oi := { dst := some 77, op := Op.move (Operand.tmp 3), type := 3, pos := "l16_texture.go:202", after := #[], guard := none }) (v := .int .i64 by_) rfl (by kernel_rfl) (by kernel_rfl) (by kernel_rfl) (fun _ _ _ h => h) (Or.inl ⟨by rfl, fun w0 hSw => by (go_simp)⟩) hH ?_
      simp only [Act.put, List.setIfInBounds_toArray, List.set_cons_zero, List.set_cons_succ]
      refine wpAnyH_take (i := 3) (oi := { dst := some 78, op := Op.binOp BinOp.quo 3 (Operand.tmp 76) (Operand.tmp 77) 3, type := 3, pos := "l16_texture.go:202", after := #[{ on := 1, ground := Ground.data }, { on := 2, ground := Ground.data }], guard := none }) (v := .int .i64 Q0) rfl (by kernel_rfl) (by kernel_rfl) (by kernel_rfl) (fun _ _ _ h => h) (Or.inl ⟨by rfl, fun w0 hSw => by (go_simp)⟩) hH ?_
      simp only [Act.put, List.setIfInBounds_toArray, List.set_cons_zero, List.set_cons_succ]
      refine wpAnyH_take (i := 4) (oi := { dst := some 79, op := Op.fieldAddr 25 (Operand.tmp 9) 1, type := 0, pos := "l16_texture.go:202", after := #[], guard := none }) (v := .pointer (some ⟨w.heap.size + 1, 1, none⟩)) rfl (by kernel_rfl) (by kernel_rfl) (by kernel_rfl) (fun _ _ _ h => h) (Or.inl ⟨by rfl, fun w0 hSw => by (go_simp)⟩) hH ?_
      simp only [Act.put, List.setIfInBounds_toArray, List.set_cons_zero, List.set_cons_succ]
      refine wpAnyH_take (i := 5) (oi := { dst := some 80, op := Op.load 3 (Operand.tmp 79), type := 3, pos := "l16_texture.go:202", after := #[{ on := 4, ground := Ground.data }], guard := none }) (v := .int .i64 S1) rfl (by kernel_rfl) (by kernel_rfl) (by kernel_rfl) (fun _ _ _ h => h) (Or.inl ⟨by rfl, fun w0 hSw => by ((have e9 := hSw.c1); go_simp)⟩) hH ?_
      simp only [Act.put, List.setIfInBounds_toArray, List.set_cons_zero, List.set_cons_succ]
      refine wpAnyH_take (i := 6) (oi := { dst := some 81, op := Op.move (Operand.tmp 3), type := 3, pos := "l16_texture.go:202", after := #[], guard := none }) (v := .int .i64 by_) rfl (by kernel_rfl) (by kernel_rfl) (by kernel_rfl) (fun _ _ _ h => h) (Or.inl ⟨by rfl, fun w0 hSw => by (go_simp)⟩) hH ?_
      simp only [Act.put, List.setIfInBounds_toArray, List.set_cons_zero, List.set_cons_succ]
      refine wpAnyH_take (i := 7) (oi := { dst := some 82, op := Op.binOp BinOp.quo 3 (Operand.tmp 80) (Operand.tmp 81) 3, type := 3, pos := "l16_texture.go:202", after := #[{ on := 5, ground := Ground.data }, { on := 6, ground := Ground.data }], guard := none }) (v := .int .i64 Q1) rfl (by kernel_rfl) (by kernel_rfl) (by kernel_rfl) (fun _ _ _ h => h) (Or.inl ⟨by rfl, fun w0 hSw => by (go_simp)⟩) hH ?_
      simp only [Act.put, List.setIfInBounds_toArray, List.set_cons_zero, List.set_cons_succ]
      refine wpAnyH_take (i := 8) (oi := { dst := some 83, op := Op.fieldAddr 25 (Operand.tmp 9) 2, type := 0, pos := "l16_texture.go:202", after := #[], guard := none }) (v := .pointer (some ⟨w.heap.size + 1, 2, none⟩)) rfl (by kernel_rfl) (by kernel_rfl) (by kernel_rfl) (fun _ _ _ h => h) (Or.inl ⟨by rfl, fun w0 hSw => by (go_simp)⟩) hH ?_
      simp only [Act.put, List.setIfInBounds_toArray, List.set_cons_zero, List.set_cons_succ]
      refine wpAnyH_take (i := 9) (oi := { dst := some 84, op := Op.load 3 (Operand.tmp 83), type := 3, pos := "l16_texture.go:202", after := #[{ on := 8, ground := Ground.data }], guard := none }) (v := .int .i64 S2) rfl (by kernel_rfl) (by kernel_rfl) (by kernel_rfl) (fun _ _ _ h => h) (Or.inl ⟨by rfl, fun w0 hSw => by ((have e9 := hSw.c2); go_simp)⟩) hH ?_
      simp only [Act.put, List.setIfInBounds_toArray, List.set_cons_zero, List.set_cons_succ]
      refine wpAnyH_take (i := 10) (oi := { dst := some 85, op := Op.move (Operand.tmp 3), type := 3, pos := "l16_texture.go:202", after := #[], guard := none }) (v := .int .i64 by_) rfl (by kernel_rfl) (by kernel_rfl) (by kernel_rfl) (fun _ _ _ h => h) (Or.inl ⟨by rfl, fun w0 hSw => by (go_simp)⟩) hH ?_
      simp only [Act.put, List.setIfInBounds_toArray, List.set_cons_zero, List.set_cons_succ]
      refine wpAnyH_take (i := 11) (oi := { dst := some 86, op := Op.binOp BinOp.quo 3 (Operand.tmp 84) (Operand.tmp 85) 3, type := 3, pos := "l16_texture.go:202", after := #[{ on := 9, ground := Ground.data }, { on := 10, ground := Ground.data }], guard := none }) (v := .int .i64 Q2) rfl (by kernel_rfl) (by kernel_rfl) (by kernel_rfl) (fun _ _ _ h => h) (Or.inl ⟨by rfl, fun w0 hSw => by (go_simp)⟩) hH ?_
      simp only [Act.put, List.setIfInBounds_toArray, List.set_cons_zero, List.set_cons_succ]
      refine wpAnyH_take (i := 12) (oi := { dst := some 87, op := Op.fieldAddr 25 (Operand.tmp 9) 3, type := 0, pos := "l16_texture.go:202", after := #[], guard := none }) (v := .pointer (some ⟨w.heap.size + 1, 3, none⟩)) rfl (by kernel_rfl) (by kernel_rfl) (by kernel_rfl) (fun _ _ _ h => h) (Or.inl ⟨by rfl, fun w0 hSw => by (go_simp)⟩) hH ?_
      simp only [Act.put, List.setIfInBounds_toArray, List.set_cons_zero, List.set_cons_succ]
      refine wpAnyH_take (i := 13) (oi := { dst := some 88, op := Op.load 3 (Operand.tmp 87), type := 3, pos := "l16_texture.go:202", after := #[{ on := 12, ground := Ground.data }], guard := none }) (v := .int .i64 S3) rfl (by kernel_rfl) (by kernel_rfl) (by kernel_rfl) (fun _ _ _ h => h) (Or.inl ⟨by rfl, fun w0 hSw => by ((have e9 := hSw.c3); go_simp)⟩) hH ?_
      simp only [Act.put, List.setIfInBounds_toArray, List.set_cons_zero, List.set_cons_succ]
      refine wpAnyH_take (i := 14) (oi := { dst := some 89, op := Op.move (Operand.tmp 3), type := 3, pos := "l16_texture.go:202", after := #[], guard := none }) (v := .int .i64 by_) rfl (by kernel_rfl) (by kernel_rfl) (by kernel_rfl) (fun _ _ _ h => h) (Or.inl ⟨by rfl, fun w0 hSw => by (go_simp)⟩) hH ?_
      simp only [Act.put, List.setIfInBounds_toArray, List.set_cons_zero, List.set_cons_succ]
      refine wpAnyH_take (i := 15) (oi := { dst := some 90, op := Op.binOp BinOp.quo 3 (Operand.tmp 88) (Operand.tmp 89) 3, type := 3, pos := "l16_texture.go:202", after := #[{ on := 13, ground := Ground.data }, { on := 14, ground := Ground.data }], guard := none }) (v := .int .i64 Q3) rfl (by kernel_rfl) (by kernel_rfl) (by kernel_rfl) (fun _ _ _ h => h) (Or.inl ⟨by rfl, fun w0 hSw => by (go_simp)⟩) hH ?_
      simp only [Act.put, List.setIfInBounds_toArray, List.set_cons_zero, List.set_cons_succ]
      refine wpAnyH_take (i := 16) (oi := { dst := some 91, op := Op.build 25 #[(0, Operand.tmp 78), (1, Operand.tmp 82), (2, Operand.tmp 86), (3, Operand.tmp 90)], type := 25, pos := "l16_texture.go:202", after := #[{ on := 3, ground := Ground.data }, { on := 7, ground := Ground.data }, { on := 11, ground := Ground.data }, { on := 15, ground := Ground.data }], guard := none }) (v := .agg #[.int .i64 Q0, .int .i64 Q1, .int .i64 Q2, .int .i64 Q3]) rfl (by kernel_rfl) (by kernel_rfl) (by kernel_rfl) (fun _ _ _ h => h) (Or.inl ⟨by rfl, fun w0 hSw => by (go_simp)⟩) hH ?_
      simp only [Act.put, List.setIfInBounds_toArray, List.set_cons_zero, List.set_cons_succ]
      refine wpAnyH_ready (rs := [17]) (by kernel_rfl) (by simp) ?_
      refine (AllReadyH.cons (o := { dst := none, op := Op.store 25 (Operand.tmp 8) (Operand.tmp 91), type := 0, pos := "l16_texture.go:202", after := #[{ on := 16, ground := Ground.data }, { on := 0, ground := Ground.phase }, { on := 1, ground := Ground.phase }, { on := 2, ground := Ground.phase }, { on := 3, ground := Ground.phase }, { on := 4, ground := Ground.phase }, { on := 5, ground := Ground.phase }, { on := 6, ground := Ground.phase }, { on := 7, ground := Ground.phase }, { on := 8, ground := Ground.phase }, { on := 9, ground := Ground.phase }, { on := 10, ground := Ground.phase }, { on := 11, ground := Ground.phase }, { on := 12, ground := Ground.phase }, { on := 13, ground := Ground.phase }, { on := 14, ground := Ground.phase }, { on := 15, ground := Ground.phase }, { on := 16, ground := Ground.phase }], guard := none }) rfl (fun K hK => ?_) AllReadyH.nil)
      have D8 := R2
      have s0 := D8.c0
      have s1 := D8.c1
      have s2 := D8.c2
      have s3 := D8.c3
      have sf := D8.f
      refine step_skip (set4 WX w.heap.size (.int .i64 Q0) (.int .i64 Q1) (.int .i64 Q2) (.int .i64 Q3)) (by rfl) (by unfold set4; go_simp) ?_
      have D9 := D8.put (.int .i64 Q0) (.int .i64 Q1) (.int .i64 Q2) (.int .i64 Q3)
      have O9 := only_set4 WX w.heap.size (.int .i64 Q0) (.int .i64 Q1) (.int .i64 Q2) (.int .i64 Q3)
      have B9 : Below w.heap.size w (set4 WX w.heap.size (.int .i64 Q0) (.int .i64 Q1) (.int .i64 Q2) (.int .i64 Q3)) := BX.trans (O9.below (Nat.le_refl _) BX.size)
      refine hK.out _ _ (M2.block (O9.block _ M2.hi (by omega)) O9.size) (fun hH' => ?_)
      clear hK K hH hH' s0 s1 s2 s3 sf D8
      refine wpAnyH_done (by kernel_rfl) ?_ _
      clear O9
      go_wp2
      generalize set4 WX w.heap.size (.int .i64 Q0) (.int .i64 Q1) (.int .i64 Q2) (.int .i64 Q3) = V at D9 B9 ⊢
      have r0 := D9.c0
      have r1 := D9.c1
      have r2 := D9.c2
      have r3 := D9.c3
      exact bodyPost_ret (v := .agg #[.int .i64 Q0, .int .i64 Q1, .int .i64 Q2, .int .i64 Q3]) (by simp [results, Try.results69, go_sem, r0, r1, r2, r3]) rfl ⟨by rw [HQ.out.1, HQ.out.2.1, HQ.out.2.2.1, HQ.out.2.2.2], B9⟩
    have i1 : (k : Int) < (n : Int) := by omega
    have i0 : (0 : Int) ≤ (k : Int) := by omega
    obtain ⟨p0, p1, p2, p3⟩ := HX.out k hkn
    have p4 := HX2.out k hkn
    have hg := World.block_lt_of_cell? _ _ p0
    have hg2 := World.block_lt_of_cell? _ _ p4
    have p0 := (HB.out.cell (p := ⟨g, o + k * 4, none⟩) hg).trans p0
    have p1 := (HB.out.cell (p := ⟨g, o + k * 4 + 1, none⟩) hg).trans p1
    have p2 := (HB.out.cell (p := ⟨g, o + k * 4 + 2, none⟩) hg).trans p2
    have p3 := (HB.out.cell (p := ⟨g, o + k * 4 + 3, none⟩) hg).trans p3
    have p4 := (HB.out.cell (p := ⟨g2, o2 + k, none⟩) hg2).trans p4
    obtain ⟨o0, o1, o2', o3⟩ := HC.out k hkn
    obtain ⟨t0, t1⟩ := HT.out k hkn
    obtain ⟨N0, hN0⟩ : ∃ N, (half + sm (fun i => (C i).r) t (k + 1)) = N := ⟨_, rfl⟩
    obtain ⟨N1, hN1⟩ : ∃ N, (half + sm (fun i => (C i).g) t (k + 1)) = N := ⟨_, rfl⟩
    obtain ⟨N2, hN2⟩ : ∃ N, (half + sm (fun i => (C i).b) t (k + 1)) = N := ⟨_, rfl⟩
    obtain ⟨N3, hN3⟩ : ∃ N, (half + sm (fun i => (C i).a) t (k + 1)) = N := ⟨_, rfl⟩
    have HNN := Hid.mk (And.intro hN0 (And.intro hN1 (And.intro hN2 hN3)))
    have HE : Hid (N0 = (half + sm (fun i => (C i).r) t k) + (C k).r * t k ∧ N1 = (half + sm (fun i => (C i).g) t k) + (C k).g * t k ∧ N2 = (half + sm (fun i => (C i).b) t k) + (C k).b * t k ∧ N3 = (half + sm (fun i => (C i).a) t k) + (C k).a * t k) := ⟨by rw [← hN0]; exact (Int.add_assoc _ _ _).symm, by rw [← hN1]; exact (Int.add_assoc _ _ _).symm, by rw [← hN2]; exact (Int.add_assoc _ _ _).symm, by rw [← hN3]; exact (Int.add_assoc _ _ _).symm⟩
    clear hN0 hN1 hN2 hN3
    obtain ⟨S0, hS0⟩ : ∃ S, (half + sm (fun i => (C i).r) t k) = S := ⟨_, rfl⟩
    rw [hS0] at HM HE
    have sb0 : 0 ≤ S0 ∧ S0 ≤ 70000000 := by rw [← hS0]; omega
    obtain ⟨S1, hS1⟩ : ∃ S, (half + sm (fun i => (C i).g) t k) = S := ⟨_, rfl⟩
    rw [hS1] at HM HE
    have sb1 : 0 ≤ S1 ∧ S1 ≤ 70000000 := by rw [← hS1]; omega
    obtain ⟨S2, hS2⟩ : ∃ S, (half + sm (fun i => (C i).b) t k) = S := ⟨_, rfl⟩
    rw [hS2] at HM HE
    have sb2 : 0 ≤ S2 ∧ S2 ≤ 70000000 := by rw [← hS2]; omega
    obtain ⟨S3, hS3⟩ : ∃ S, (half + sm (fun i => (C i).a) t k) = S := ⟨_, rfl⟩
    rw [hS3] at HM HE
    have sb3 : 0 ≤ S3 ∧ S3 ≤ 70000000 := by rw [← hS3]; omega
    clear hS0 hS1 hS2 hS3 ss0 ss1 ss2 ss3
    generalize t k = tt at p4 t0 t1 HE
    have o2 := o2'
    clear o2'
    generalize (C k).r = c0 at p0 o0 HE
    generalize (C k).g = c1 at p1 o1 HE
    generalize (C k).b = c2 at p2 o2 HE
    generalize (C k).a = c3 at p3 o3 HE
    obtain ⟨E0, E1, E2, E3⟩ := HE.out
    have pb0 := prod_bnd o0.1 o0.2 t0 t1
    have pb1 := prod_bnd o1.1 o1.2 t0 t1
    have pb2 := prod_bnd o2.1 o2.2 t0 t1
    have pb3 := prod_bnd o3.1 o3.2 t0 t1
    have m0 : IntKind.i64.wrap (c0 * tt) = c0 * tt := (IntKind.wrap_i64 _).trans (by omega)
    have m1 : IntKind.i64.wrap (c1 * tt) = c1 * tt := (IntKind.wrap_i64 _).trans (by omega)
    have m2 : IntKind.i64.wrap (c2 * tt) = c2 * tt := (IntKind.wrap_i64 _).trans (by omega)
    have m3 : IntKind.i64.wrap (c3 * tt) = c3 * tt := (IntKind.wrap_i64 _).trans (by omega)
    have a0 : IntKind.i64.wrap (S0 + c0 * tt) = N0 := by rw [E0]; exact (IntKind.wrap_i64 _).trans (by omega)
    have a1 : IntKind.i64.wrap (S1 + c1 * tt) = N1 := by rw [E1]; exact (IntKind.wrap_i64 _).trans (by omega)
    have a2 : IntKind.i64.wrap (S2 + c2 * tt) = N2 := by rw [E2]; exact (IntKind.wrap_i64 _).trans (by omega)
    have a3 : IntKind.i64.wrap (S3 + c3 * tt) = N3 := by rw [E3]; exact (IntKind.wrap_i64 _).trans (by omega)
    clear E0 E1 E2 E3 HE pb0 pb1 pb2 pb3 o0 o1 o2 o3 sb0 sb1 sb2 sb3
    have MS := HM.out
    have RS := HR.out
    have s0 := MS.c0
    have s1 := MS.c1
    have s2 := MS.c2
    have s3 := MS.c3
    have sf := MS.f
    have MS0 := HM.out
    have RS0 := HR.out
    have HB5 := Hid.mk HB.out
    clear MS RS HM HR HB
    go_wp2
    generalize hWW : wr.drew = WX
    have HS5 : Hid (C4 WX (w.heap.size + 1) (.int .i64 S0) (.int .i64 S1) (.int .i64 S2) (.int .i64 S3)) := by rw [← hWW]; exact MS0.next (below_drew (Below.refl _ _))
    have BX5 : Below wr.heap.size wr WX := by rw [← hWW]; exact below_drew (Below.refl _ _)
    have R5 := RS0.next BX5
    have B5 := HB5.out.trans (BX5.mono HB5.out.size)
    have hS5 : WX.cell? ⟨g, o + k * 4, none⟩ = some (.int .i64 c0) ∧ WX.cell? ⟨g, o + k * 4 + 1, none⟩ = some (.int .i64 c1) ∧ WX.cell? ⟨g, o + k * 4 + 2, none⟩ = some (.int .i64 c2) ∧ WX.cell? ⟨g, o + k * 4 + 3, none⟩ = some (.int .i64 c3) ∧ WX.cell? ⟨g2, o2 + k, none⟩ = some (.int .i64 tt) := ⟨cell_nx p0 BX5, cell_nx p1 BX5, cell_nx p2 BX5, cell_nx p3 BX5, cell_nx p4 BX5⟩
    clear s0 s1 s2 s3 sf p0 p1 p2 p3 p4 MS0 RS0 HB5
    have O9 := only_set4 WX (w.heap.size + 1) (.int .i64 N0) (.int .i64 N1) (.int .i64 N2) (.int .i64 N3)
    have MN := HS5.out.put (.int .i64 N0) (.int .i64 N1) (.int .i64 N2) (.int .i64 N3)
    have RN := R5.block (O9.block _ R5.hi (by omega)) O9.size
    have BN := B5.trans (O9.below (by omega) B5.size)
    have HSN : Hid ((set4 WX (w.heap.size + 1) (.int .i64 N0) (.int .i64 N1) (.int .i64 N2) (.int .i64 N3)).cell? ⟨g, o + k * 4, none⟩ = some (.int .i64 c0) ∧ (set4 WX (w.heap.size + 1) (.int .i64 N0) (.int .i64 N1) (.int .i64 N2) (.int .i64 N3)).cell? ⟨g, o + k * 4 + 1, none⟩ = some (.int .i64 c1) ∧ (set4 WX (w.heap.size + 1) (.int .i64 N0) (.int .i64 N1) (.int .i64 N2) (.int .i64 N3)).cell? ⟨g, o + k * 4 + 2, none⟩ = some (.int .i64 c2) ∧ (set4 WX (w.heap.size + 1) (.int .i64 N0) (.int .i64 N1) (.int .i64 N2) (.int .i64 N3)).cell? ⟨g, o + k * 4 + 3, none⟩ = some (.int .i64 c3) ∧ (set4 WX (w.heap.size + 1) (.int .i64 N0) (.int .i64 N1) (.int .i64 N2) (.int .i64 N3)).cell? ⟨g2, o2 + k, none⟩ = some (.int .i64 tt)) := ⟨O9.cell hS5.1 (by omega), O9.cell hS5.2.1 (by omega), O9.cell hS5.2.2.1 (by omega), O9.cell hS5.2.2.2.1 (by omega), O9.cell hS5.2.2.2.2 (by omega)⟩
    obtain ⟨V9, hV9⟩ : ∃ z, set4 WX (w.heap.size + 1) (.int .i64 N0) (.int .i64 N1) (.int .i64 N2) (.int .i64 N3) = z := ⟨_, rfl⟩
    rw [hV9] at MN RN BN HSN
    have HV9 := Hid.mk hV9
    have HMN : Hid (C4 V9 (w.heap.size + 1) (.int .i64 (half + sm (fun i => (C i).r) t (k + 1))) (.int .i64 (half + sm (fun i => (C i).g) t (k + 1))) (.int .i64 (half + sm (fun i => (C i).b) t (k + 1))) (.int .i64 (half + sm (fun i => (C i).a) t (k + 1)))) := by show C4 _ _ _ _ _ _; rw [HNN.out.1, HNN.out.2.1, HNN.out.2.2.1, HNN.out.2.2.2]; exact MN
    have hgs : ¬ g = w.heap.size + 1 := by omega
    have hgs2 : ¬ g2 = w.heap.size + 1 := by omega
    clear O9 hV9 R5 B5 MN
    refine wp_region_held_drew (S := fun v => v.cell? ⟨g, o + k * 4, none⟩ = some (.int .i64 c0) ∧ v.cell? ⟨g, o + k * 4 + 1, none⟩ = some (.int .i64 c1) ∧ v.cell? ⟨g, o + k * 4 + 2, none⟩ = some (.int .i64 c2) ∧ v.cell? ⟨g, o + k * 4 + 3, none⟩ = some (.int .i64 c3) ∧ v.cell? ⟨g2, o2 + k, none⟩ = some (.int .i64 tt)) (by kernel_rfl) (by rw [hWW]; exact hS5) (fun hH => ?_)
    rw [hWW] at hH ⊢
    clear hWW hS5
    refine wpAnyH_take (i := 0) (oi := { dst := some 21, op := Op.fieldAddr 25 (Operand.tmp 9) 0, type := 0, pos := "l16_texture.go:200", after := #[], guard := none }) (v := .pointer (some ⟨w.heap.size + 1, 0, none⟩)) rfl (by kernel_rfl) (by kernel_rfl) (by kernel_rfl) (fun _ _ _ h => h) (Or.inl ⟨by rfl, fun w0 hSw => by (go_simp)⟩) hH ?_
    simp only [Act.put, List.setIfInBounds_toArray, List.set_cons_zero, List.set_cons_succ]
    refine wpAnyH_take (i := 2) (oi := { dst := some 23, op := Op.move (Operand.tmp 0), type := 51, pos := "l16_texture.go:200", after := #[], guard := none }) (v := .slice (some ⟨g, o, none⟩) n cp) rfl (by kernel_rfl) (by kernel_rfl) (by kernel_rfl) (fun _ _ _ h => h) (Or.inl ⟨by rfl, fun w0 hSw => by (go_simp)⟩) hH ?_
    simp only [Act.put, List.setIfInBounds_toArray, List.set_cons_zero, List.set_cons_succ]
    refine wpAnyH_take (i := 3) (oi := { dst := some 24, op := Op.move (Operand.tmp 10), type := 3, pos := "l16_texture.go:200", after := #[], guard := none }) (v := .int .i64 (k : Int)) rfl (by kernel_rfl) (by kernel_rfl) (by kernel_rfl) (fun _ _ _ h => h) (Or.inl ⟨by rfl, fun w0 hSw => by (go_simp)⟩) hH ?_
    simp only [Act.put, List.setIfInBounds_toArray, List.set_cons_zero, List.set_cons_succ]
    refine wpAnyH_take (i := 4) (oi := { dst := some 25, op := Op.indexAddr 51 (Operand.tmp 23) (Operand.tmp 24), type := 0, pos := "l16_texture.go:200", after := #[{ on := 2, ground := Ground.data }, { on := 3, ground := Ground.data }], guard := none }) (v := .pointer (some ⟨g, o + k * 4, none⟩)) rfl (by kernel_rfl) (by kernel_rfl) (by kernel_rfl) (fun _ _ _ h => h) (Or.inl ⟨by rfl, fun w0 hSw => by (go_simp)⟩) hH ?_
    simp only [Act.put, List.setIfInBounds_toArray, List.set_cons_zero, List.set_cons_succ]
    refine wpAnyH_take (i := 5) (oi := { dst := some 26, op := Op.fieldAddr 25 (Operand.tmp 25) 0, type := 0, pos := "l16_texture.go:200", after := #[{ on := 4, ground := Ground.data }], guard := none }) (v := .pointer (some ⟨g, o + k * 4, none⟩)) rfl (by kernel_rfl) (by kernel_rfl) (by kernel_rfl) (fun _ _ _ h => h) (Or.inl ⟨by rfl, fun w0 hSw => by (go_simp)⟩) hH ?_
    simp only [Act.put, List.setIfInBounds_toArray, List.set_cons_zero, List.set_cons_succ]
    refine wpAnyH_take (i := 6) (oi := { dst := some 27, op := Op.load 3 (Operand.tmp 26), type := 3, pos := "l16_texture.go:200", after := #[{ on := 5, ground := Ground.data }], guard := none }) (v := .int .i64 c0) rfl (by kernel_rfl) (by kernel_rfl) (by kernel_rfl) (fun _ _ _ h => h) (Or.inl ⟨by rfl, fun w0 hSw => by ((have e9 := hSw.1); go_simp)⟩) hH ?_
    simp only [Act.put, List.setIfInBounds_toArray, List.set_cons_zero, List.set_cons_succ]
    refine wpAnyH_take (i := 7) (oi := { dst := some 28, op := Op.move (Operand.tmp 1), type := 73, pos := "l16_texture.go:200", after := #[], guard := none }) (v := .slice (some ⟨g2, o2, none⟩) n cp2) rfl (by kernel_rfl) (by kernel_rfl) (by kernel_rfl) (fun _ _ _ h => h) (Or.inl ⟨by rfl, fun w0 hSw => by (go_simp)⟩) hH ?_
    simp only [Act.put, List.setIfInBounds_toArray, List.set_cons_zero, List.set_cons_succ]
    refine wpAnyH_take (i := 8) (oi := { dst := some 29, op := Op.move (Operand.tmp 10), type := 3, pos := "l16_texture.go:200", after := #[], guard := none }) (v := .int .i64 (k : Int)) rfl (by kernel_rfl) (by kernel_rfl) (by kernel_rfl) (fun _ _ _ h => h) (Or.inl ⟨by rfl, fun w0 hSw => by (go_simp)⟩) hH ?_
    simp only [Act.put, List.setIfInBounds_toArray, List.set_cons_zero, List.set_cons_succ]
    refine wpAnyH_take (i := 9) (oi := { dst := some 30, op := Op.indexAddr 73 (Operand.tmp 28) (Operand.tmp 29), type := 0, pos := "l16_texture.go:200", after := #[{ on := 7, ground := Ground.data }, { on := 8, ground := Ground.data }], guard := none }) (v := .pointer (some ⟨g2, o2 + k, none⟩)) rfl (by kernel_rfl) (by kernel_rfl) (by kernel_rfl) (fun _ _ _ h => h) (Or.inl ⟨by rfl, fun w0 hSw => by (go_simp)⟩) hH ?_
    simp only [Act.put, List.setIfInBounds_toArray, List.set_cons_zero, List.set_cons_succ]
    refine wpAnyH_take (i := 10) (oi := { dst := some 31, op := Op.load 3 (Operand.tmp 30), type := 3, pos := "l16_texture.go:200", after := #[{ on := 9, ground := Ground.data }], guard := none }) (v := .int .i64 tt) rfl (by kernel_rfl) (by kernel_rfl) (by kernel_rfl) (fun _ _ _ h => h) (Or.inl ⟨by rfl, fun w0 hSw => by ((have e9 := hSw.2.2.2.2); go_simp)⟩) hH ?_
    simp only [Act.put, List.setIfInBounds_toArray, List.set_cons_zero, List.set_cons_succ]
    refine wpAnyH_take (i := 11) (oi := { dst := some 32, op := Op.binOp BinOp.mul 3 (Operand.tmp 27) (Operand.tmp 31) 3, type := 3, pos := "l16_texture.go:200", after := #[{ on := 6, ground := Ground.data }, { on := 10, ground := Ground.data }], guard := none }) (v := .int .i64 (c0 * tt)) rfl (by kernel_rfl) (by kernel_rfl) (by kernel_rfl) (fun _ _ _ h => h) (Or.inl ⟨by rfl, fun w0 hSw => by (go_simp)⟩) hH ?_
    simp only [Act.put, List.setIfInBounds_toArray, List.set_cons_zero, List.set_cons_succ]
    refine wpAnyH_take (i := 13) (oi := { dst := some 34, op := Op.fieldAddr 25 (Operand.tmp 9) 1, type := 0, pos := "l16_texture.go:200", after := #[], guard := none }) (v := .pointer (some ⟨w.heap.size + 1, 1, none⟩)) rfl (by kernel_rfl) (by kernel_rfl) (by kernel_rfl) (fun _ _ _ h => h) (Or.inl ⟨by rfl, fun w0 hSw => by (go_simp)⟩) hH ?_
    simp only [Act.put, List.setIfInBounds_toArray, List.set_cons_zero, List.set_cons_succ]
    refine wpAnyH_take (i := 15) (oi := { dst := some 36, op := Op.move (Operand.tmp 0), type := 51, pos := "l16_texture.go:200", after := #[], guard := none }) (v := .slice (some ⟨g, o, none⟩) n cp) rfl (by kernel_rfl) (by kernel_rfl) (by kernel_rfl) (fun _ _ _ h => h) (Or.inl ⟨by rfl, fun w0 hSw => by (go_simp)⟩) hH ?_
    simp only [Act.put, List.setIfInBounds_toArray, List.set_cons_zero, List.set_cons_succ]
    refine wpAnyH_take (i := 16) (oi := { dst := some 37, op := Op.move (Operand.tmp 10), type := 3, pos := "l16_texture.go:200", after := #[], guard := none }) (v := .int .i64 (k : Int)) rfl (by kernel_rfl) (by kernel_rfl) (by kernel_rfl) (fun _ _ _ h => h) (Or.inl ⟨by rfl, fun w0 hSw => by (go_simp)⟩) hH ?_
    simp only [Act.put, List.setIfInBounds_toArray, List.set_cons_zero, List.set_cons_succ]
    refine wpAnyH_take (i := 17) (oi := { dst := some 38, op := Op.indexAddr 51 (Operand.tmp 36) (Operand.tmp 37), type := 0, pos := "l16_texture.go:200", after := #[{ on := 15, ground := Ground.data }, { on := 16, ground := Ground.data }], guard := none }) (v := .pointer (some ⟨g, o + k * 4, none⟩)) rfl (by kernel_rfl) (by kernel_rfl) (by kernel_rfl) (fun _ _ _ h => h) (Or.inl ⟨by rfl, fun w0 hSw => by (go_simp)⟩) hH ?_
    simp only [Act.put, List.setIfInBounds_toArray, List.set_cons_zero, List.set_cons_succ]
    refine wpAnyH_take (i := 18) (oi := { dst := some 39, op := Op.fieldAddr 25 (Operand.tmp 38) 1, type := 0, pos := "l16_texture.go:200", after := #[{ on := 17, ground := Ground.data }], guard := none }) (v := .pointer (some ⟨g, o + k * 4 + 1, none⟩)) rfl (by kernel_rfl) (by kernel_rfl) (by kernel_rfl) (fun _ _ _ h => h) (Or.inl ⟨by rfl, fun w0 hSw => by (go_simp)⟩) hH ?_
    simp only [Act.put, List.setIfInBounds_toArray, List.set_cons_zero, List.set_cons_succ]
    refine wpAnyH_take (i := 19) (oi := { dst := some 40, op := Op.load 3 (Operand.tmp 39), type := 3, pos := "l16_texture.go:200", after := #[{ on := 18, ground := Ground.data }], guard := none }) (v := .int .i64 c1) rfl (by kernel_rfl) (by kernel_rfl) (by kernel_rfl) (fun _ _ _ h => h) (Or.inl ⟨by rfl, fun w0 hSw => by ((have e9 := hSw.2.1); go_simp)⟩) hH ?_
    simp only [Act.put, List.setIfInBounds_toArray, List.set_cons_zero, List.set_cons_succ]
    refine wpAnyH_take (i := 20) (oi := { dst := some 41, op := Op.move (Operand.tmp 1), type := 73, pos := "l16_texture.go:200", after := #[], guard := none }) (v := .slice (some ⟨g2, o2, none⟩) n cp2) rfl (by kernel_rfl) (by kernel_rfl) (by kernel_rfl) (fun _ _ _ h => h) (Or.inl ⟨by rfl, fun w0 hSw => by (go_simp)⟩) hH ?_
    simp only [Act.put, List.setIfInBounds_toArray, List.set_cons_zero, List.set_cons_succ]
    refine wpAnyH_take (i := 21) (oi := { dst := some 42, op := Op.move (Operand.tmp 10), type := 3, pos := "l16_texture.go:200", after := #[], guard := none }) (v := .int .i64 (k : Int)) rfl (by kernel_rfl) (by kernel_rfl) (by kernel_rfl) (fun _ _ _ h => h) (Or.inl ⟨by rfl, fun w0 hSw => by (go_simp)⟩) hH ?_
    simp only [Act.put, List.setIfInBounds_toArray, List.set_cons_zero, List.set_cons_succ]
    refine wpAnyH_take (i := 22) (oi := { dst := some 43, op := Op.indexAddr 73 (Operand.tmp 41) (Operand.tmp 42), type := 0, pos := "l16_texture.go:200", after := #[{ on := 20, ground := Ground.data }, { on := 21, ground := Ground.data }], guard := none }) (v := .pointer (some ⟨g2, o2 + k, none⟩)) rfl (by kernel_rfl) (by kernel_rfl) (by kernel_rfl) (fun _ _ _ h => h) (Or.inl ⟨by rfl, fun w0 hSw => by (go_simp)⟩) hH ?_
    simp only [Act.put, List.setIfInBounds_toArray, List.set_cons_zero, List.set_cons_succ]
    refine wpAnyH_take (i := 23) (oi := { dst := some 44, op := Op.load 3 (Operand.tmp 43), type := 3, pos := "l16_texture.go:200", after := #[{ on := 22, ground := Ground.data }], guard := none }) (v := .int .i64 tt) rfl (by kernel_rfl) (by kernel_rfl) (by kernel_rfl) (fun _ _ _ h => h) (Or.inl ⟨by rfl, fun w0 hSw => by ((have e9 := hSw.2.2.2.2); go_simp)⟩) hH ?_
    simp only [Act.put, List.setIfInBounds_toArray, List.set_cons_zero, List.set_cons_succ]
    refine wpAnyH_take (i := 24) (oi := { dst := some 45, op := Op.binOp BinOp.mul 3 (Operand.tmp 40) (Operand.tmp 44) 3, type := 3, pos := "l16_texture.go:200", after := #[{ on := 19, ground := Ground.data }, { on := 23, ground := Ground.data }], guard := none }) (v := .int .i64 (c1 * tt)) rfl (by kernel_rfl) (by kernel_rfl) (by kernel_rfl) (fun _ _ _ h => h) (Or.inl ⟨by rfl, fun w0 hSw => by (go_simp)⟩) hH ?_
    simp only [Act.put, List.setIfInBounds_toArray, List.set_cons_zero, List.set_cons_succ]
    refine wpAnyH_take (i := 26) (oi := { dst := some 47, op := Op.fieldAddr 25 (Operand.tmp 9) 2, type := 0, pos := "l16_texture.go:200", after := #[], guard := none }) (v := .pointer (some ⟨w.heap.size + 1, 2, none⟩)) rfl (by kernel_rfl) (by kernel_rfl) (by kernel_rfl) (fun _ _ _ h => h) (Or.inl ⟨by rfl, fun w0 hSw => by (go_simp)⟩) hH ?_
    simp only [Act.put, List.setIfInBounds_toArray, List.set_cons_zero, List.set_cons_succ]
    refine wpAnyH_take (i := 28) (oi := { dst := some 49, op := Op.move (Operand.tmp 0), type := 51, pos := "l16_texture.go:200", after := #[], guard := none }) (v := .slice (some ⟨g, o, none⟩) n cp) rfl (by kernel_rfl) (by kernel_rfl) (by kernel_rfl) (fun _ _ _ h => h) (Or.inl ⟨by rfl, fun w0 hSw => by (go_simp)⟩) hH ?_
    simp only [Act.put, List.setIfInBounds_toArray, List.set_cons_zero, List.set_cons_succ]
    refine wpAnyH_take (i := 29) (oi := { dst := some 50, op := Op.move (Operand.tmp 10), type := 3, pos := "l16_texture.go:200", after := #[], guard := none }) (v := .int .i64 (k : Int)) rfl (by kernel_rfl) (by kernel_rfl) (by kernel_rfl) (fun _ _ _ h => h) (Or.inl ⟨by rfl, fun w0 hSw => by (go_simp)⟩) hH ?_
    simp only [Act.put, List.setIfInBounds_toArray, List.set_cons_zero, List.set_cons_succ]
    refine wpAnyH_take (i := 30) (oi := { dst := some 51, op := Op.indexAddr 51 (Operand.tmp 49) (Operand.tmp 50), type := 0, pos := "l16_texture.go:200", after := #[{ on := 28, ground := Ground.data }, { on := 29, ground := Ground.data }], guard := none }) (v := .pointer (some ⟨g, o + k * 4, none⟩)) rfl (by kernel_rfl) (by kernel_rfl) (by kernel_rfl) (fun _ _ _ h => h) (Or.inl ⟨by rfl, fun w0 hSw => by (go_simp)⟩) hH ?_
    simp only [Act.put, List.setIfInBounds_toArray, List.set_cons_zero, List.set_cons_succ]
    refine wpAnyH_take (i := 31) (oi := { dst := some 52, op := Op.fieldAddr 25 (Operand.tmp 51) 2, type := 0, pos := "l16_texture.go:200", after := #[{ on := 30, ground := Ground.data }], guard := none }) (v := .pointer (some ⟨g, o + k * 4 + 2, none⟩)) rfl (by kernel_rfl) (by kernel_rfl) (by kernel_rfl) (fun _ _ _ h => h) (Or.inl ⟨by rfl, fun w0 hSw => by (go_simp)⟩) hH ?_
    simp only [Act.put, List.setIfInBounds_toArray, List.set_cons_zero, List.set_cons_succ]
    refine wpAnyH_take (i := 32) (oi := { dst := some 53, op := Op.load 3 (Operand.tmp 52), type := 3, pos := "l16_texture.go:200", after := #[{ on := 31, ground := Ground.data }], guard := none }) (v := .int .i64 c2) rfl (by kernel_rfl) (by kernel_rfl) (by kernel_rfl) (fun _ _ _ h => h) (Or.inl ⟨by rfl, fun w0 hSw => by ((have e9 := hSw.2.2.1); go_simp)⟩) hH ?_
    simp only [Act.put, List.setIfInBounds_toArray, List.set_cons_zero, List.set_cons_succ]
    refine wpAnyH_take (i := 33) (oi := { dst := some 54, op := Op.move (Operand.tmp 1), type := 73, pos := "l16_texture.go:200", after := #[], guard := none }) (v := .slice (some ⟨g2, o2, none⟩) n cp2) rfl (by kernel_rfl) (by kernel_rfl) (by kernel_rfl) (fun _ _ _ h => h) (Or.inl ⟨by rfl, fun w0 hSw => by (go_simp)⟩) hH ?_
    simp only [Act.put, List.setIfInBounds_toArray, List.set_cons_zero, List.set_cons_succ]
    refine wpAnyH_take (i := 34) (oi := { dst := some 55, op := Op.move (Operand.tmp 10), type := 3, pos := "l16_texture.go:200", after := #[], guard := none }) (v := .int .i64 (k : Int)) rfl (by kernel_rfl) (by kernel_rfl) (by kernel_rfl) (fun _ _ _ h => h) (Or.inl ⟨by rfl, fun w0 hSw => by (go_simp)⟩) hH ?_
    simp only [Act.put, List.setIfInBounds_toArray, List.set_cons_zero, List.set_cons_succ]
    refine wpAnyH_take (i := 35) (oi := { dst := some 56, op := Op.indexAddr 73 (Operand.tmp 54) (Operand.tmp 55), type := 0, pos := "l16_texture.go:200", after := #[{ on := 33, ground := Ground.data }, { on := 34, ground := Ground.data }], guard := none }) (v := .pointer (some ⟨g2, o2 + k, none⟩)) rfl (by kernel_rfl) (by kernel_rfl) (by kernel_rfl) (fun _ _ _ h => h) (Or.inl ⟨by rfl, fun w0 hSw => by (go_simp)⟩) hH ?_
    simp only [Act.put, List.setIfInBounds_toArray, List.set_cons_zero, List.set_cons_succ]
    refine wpAnyH_take (i := 36) (oi := { dst := some 57, op := Op.load 3 (Operand.tmp 56), type := 3, pos := "l16_texture.go:200", after := #[{ on := 35, ground := Ground.data }], guard := none }) (v := .int .i64 tt) rfl (by kernel_rfl) (by kernel_rfl) (by kernel_rfl) (fun _ _ _ h => h) (Or.inl ⟨by rfl, fun w0 hSw => by ((have e9 := hSw.2.2.2.2); go_simp)⟩) hH ?_
    simp only [Act.put, List.setIfInBounds_toArray, List.set_cons_zero, List.set_cons_succ]
    refine wpAnyH_take (i := 37) (oi := { dst := some 58, op := Op.binOp BinOp.mul 3 (Operand.tmp 53) (Operand.tmp 57) 3, type := 3, pos := "l16_texture.go:200", after := #[{ on := 32, ground := Ground.data }, { on := 36, ground := Ground.data }], guard := none }) (v := .int .i64 (c2 * tt)) rfl (by kernel_rfl) (by kernel_rfl) (by kernel_rfl) (fun _ _ _ h => h) (Or.inl ⟨by rfl, fun w0 hSw => by (go_simp)⟩) hH ?_
    simp only [Act.put, List.setIfInBounds_toArray, List.set_cons_zero, List.set_cons_succ]
    refine wpAnyH_take (i := 39) (oi := { dst := some 60, op := Op.fieldAddr 25 (Operand.tmp 9) 3, type := 0, pos := "l16_texture.go:200", after := #[], guard := none }) (v := .pointer (some ⟨w.heap.size + 1, 3, none⟩)) rfl (by kernel_rfl) (by kernel_rfl) (by kernel_rfl) (fun _ _ _ h => h) (Or.inl ⟨by rfl, fun w0 hSw => by (go_simp)⟩) hH ?_
    simp only [Act.put, List.setIfInBounds_toArray, List.set_cons_zero, List.set_cons_succ]
    refine wpAnyH_take (i := 41) (oi := { dst := some 62, op := Op.move (Operand.tmp 0), type := 51, pos := "l16_texture.go:200", after := #[], guard := none }) (v := .slice (some ⟨g, o, none⟩) n cp) rfl (by kernel_rfl) (by kernel_rfl) (by kernel_rfl) (fun _ _ _ h => h) (Or.inl ⟨by rfl, fun w0 hSw => by (go_simp)⟩) hH ?_
    simp only [Act.put, List.setIfInBounds_toArray, List.set_cons_zero, List.set_cons_succ]
    refine wpAnyH_take (i := 42) (oi := { dst := some 63, op := Op.move (Operand.tmp 10), type := 3, pos := "l16_texture.go:200", after := #[], guard := none }) (v := .int .i64 (k : Int)) rfl (by kernel_rfl) (by kernel_rfl) (by kernel_rfl) (fun _ _ _ h => h) (Or.inl ⟨by rfl, fun w0 hSw => by (go_simp)⟩) hH ?_
    simp only [Act.put, List.setIfInBounds_toArray, List.set_cons_zero, List.set_cons_succ]
    refine wpAnyH_take (i := 43) (oi := { dst := some 64, op := Op.indexAddr 51 (Operand.tmp 62) (Operand.tmp 63), type := 0, pos := "l16_texture.go:200", after := #[{ on := 41, ground := Ground.data }, { on := 42, ground := Ground.data }], guard := none }) (v := .pointer (some ⟨g, o + k * 4, none⟩)) rfl (by kernel_rfl) (by kernel_rfl) (by kernel_rfl) (fun _ _ _ h => h) (Or.inl ⟨by rfl, fun w0 hSw => by (go_simp)⟩) hH ?_
    simp only [Act.put, List.setIfInBounds_toArray, List.set_cons_zero, List.set_cons_succ]
    refine wpAnyH_take (i := 44) (oi := { dst := some 65, op := Op.fieldAddr 25 (Operand.tmp 64) 3, type := 0, pos := "l16_texture.go:200", after := #[{ on := 43, ground := Ground.data }], guard := none }) (v := .pointer (some ⟨g, o + k * 4 + 3, none⟩)) rfl (by kernel_rfl) (by kernel_rfl) (by kernel_rfl) (fun _ _ _ h => h) (Or.inl ⟨by rfl, fun w0 hSw => by (go_simp)⟩) hH ?_
    simp only [Act.put, List.setIfInBounds_toArray, List.set_cons_zero, List.set_cons_succ]
    refine wpAnyH_take (i := 45) (oi := { dst := some 66, op := Op.load 3 (Operand.tmp 65), type := 3, pos := "l16_texture.go:200", after := #[{ on := 44, ground := Ground.data }], guard := none }) (v := .int .i64 c3) rfl (by kernel_rfl) (by kernel_rfl) (by kernel_rfl) (fun _ _ _ h => h) (Or.inl ⟨by rfl, fun w0 hSw => by ((have e9 := hSw.2.2.2.1); go_simp)⟩) hH ?_
    simp only [Act.put, List.setIfInBounds_toArray, List.set_cons_zero, List.set_cons_succ]
    refine wpAnyH_take (i := 46) (oi := { dst := some 67, op := Op.move (Operand.tmp 1), type := 73, pos := "l16_texture.go:200", after := #[], guard := none }) (v := .slice (some ⟨g2, o2, none⟩) n cp2) rfl (by kernel_rfl) (by kernel_rfl) (by kernel_rfl) (fun _ _ _ h => h) (Or.inl ⟨by rfl, fun w0 hSw => by (go_simp)⟩) hH ?_
    simp only [Act.put, List.setIfInBounds_toArray, List.set_cons_zero, List.set_cons_succ]
    refine wpAnyH_take (i := 47) (oi := { dst := some 68, op := Op.move (Operand.tmp 10), type := 3, pos := "l16_texture.go:200", after := #[], guard := none }) (v := .int .i64 (k : Int)) rfl (by kernel_rfl) (by kernel_rfl) (by kernel_rfl) (fun _ _ _ h => h) (Or.inl ⟨by rfl, fun w0 hSw => by (go_simp)⟩) hH ?_
    simp only [Act.put, List.setIfInBounds_toArray, List.set_cons_zero, List.set_cons_succ]
    refine wpAnyH_take (i := 48) (oi := { dst := some 69, op := Op.indexAddr 73 (Operand.tmp 67) (Operand.tmp 68), type := 0, pos := "l16_texture.go:200", after := #[{ on := 46, ground := Ground.data }, { on := 47, ground := Ground.data }], guard := none }) (v := .pointer (some ⟨g2, o2 + k, none⟩)) rfl (by kernel_rfl) (by kernel_rfl) (by kernel_rfl) (fun _ _ _ h => h) (Or.inl ⟨by rfl, fun w0 hSw => by (go_simp)⟩) hH ?_
    simp only [Act.put, List.setIfInBounds_toArray, List.set_cons_zero, List.set_cons_succ]
    refine wpAnyH_take (i := 49) (oi := { dst := some 70, op := Op.load 3 (Operand.tmp 69), type := 3, pos := "l16_texture.go:200", after := #[{ on := 48, ground := Ground.data }], guard := none }) (v := .int .i64 tt) rfl (by kernel_rfl) (by kernel_rfl) (by kernel_rfl) (fun _ _ _ h => h) (Or.inl ⟨by rfl, fun w0 hSw => by ((have e9 := hSw.2.2.2.2); go_simp)⟩) hH ?_
    simp only [Act.put, List.setIfInBounds_toArray, List.set_cons_zero, List.set_cons_succ]
    refine wpAnyH_take (i := 50) (oi := { dst := some 71, op := Op.binOp BinOp.mul 3 (Operand.tmp 66) (Operand.tmp 70) 3, type := 3, pos := "l16_texture.go:200", after := #[{ on := 45, ground := Ground.data }, { on := 49, ground := Ground.data }], guard := none }) (v := .int .i64 (c3 * tt)) rfl (by kernel_rfl) (by kernel_rfl) (by kernel_rfl) (fun _ _ _ h => h) (Or.inl ⟨by rfl, fun w0 hSw => by (go_simp)⟩) hH ?_
    simp only [Act.put, List.setIfInBounds_toArray, List.set_cons_zero, List.set_cons_succ]
    refine wpAnyH_ready (rs := [1, 14, 27, 40]) (by kernel_rfl) (by simp) ?_
    refine (AllReadyH.cons (o := { dst := some 22, op := Op.load 3 (Operand.tmp 21), type := 3, pos := "l16_texture.go:200", after := #[{ on := 0, ground := Ground.data }], guard := none }) rfl (fun K hK => ?_) (AllReadyH.cons (o := { dst := some 35, op := Op.load 3 (Operand.tmp 34), type := 3, pos := "l16_texture.go:200", after := #[{ on := 13, ground := Ground.data }], guard := none }) rfl (fun K hK => ?_) (AllReadyH.cons (o := { dst := some 48, op := Op.load 3 (Operand.tmp 47), type := 3, pos := "l16_texture.go:200", after := #[{ on := 26, ground := Ground.data }], guard := none }) rfl (fun K hK => ?_) (AllReadyH.cons (o := { dst := some 61, op := Op.load 3 (Operand.tmp 60), type := 3, pos := "l16_texture.go:200", after := #[{ on := 39, ground := Ground.data }], guard := none }) rfl (fun K hK => ?_) AllReadyH.nil))))
    · refine step_val (.int .i64 S0) WX (by rfl) (by have e9 := HS5.out.c0; go_simp) ?_
      simp only [Act.put, List.setIfInBounds_toArray, List.set_cons_zero, List.set_cons_succ]
      refine hK.out _ _ hH (fun hH' => ?_)
      clear hK K hH' 
      refine wpAnyH_take (i := 12) (oi := { dst := some 33, op := Op.binOp BinOp.add 3 (Operand.tmp 22) (Operand.tmp 32) 3, type := 3, pos := "l16_texture.go:200", after := #[{ on := 1, ground := Ground.data }, { on := 11, ground := Ground.data }], guard := none }) (v := .int .i64 N0) rfl (by kernel_rfl) (by kernel_rfl) (by kernel_rfl) (fun _ _ _ h => h) (Or.inl ⟨by rfl, fun w0 hSw => by (go_simp)⟩) hH ?_
      simp only [Act.put, List.setIfInBounds_toArray, List.set_cons_zero, List.set_cons_succ]
      refine wpAnyH_ready (rs := [14, 27, 40]) (by kernel_rfl) (by simp) ?_
      refine (AllReadyH.cons (o := { dst := some 35, op := Op.load 3 (Operand.tmp 34), type := 3, pos := "l16_texture.go:200", after := #[{ on := 13, ground := Ground.data }], guard := none }) rfl (fun K hK => ?_) (AllReadyH.cons (o := { dst := some 48, op := Op.load 3 (Operand.tmp 47), type := 3, pos := "l16_texture.go:200", after := #[{ on := 26, ground := Ground.data }], guard := none }) rfl (fun K hK => ?_) (AllReadyH.cons (o := { dst := some 61, op := Op.load 3 (Operand.tmp 60), type := 3, pos := "l16_texture.go:200", after := #[{ on := 39, ground := Ground.data }], guard := none }) rfl (fun K hK => ?_) AllReadyH.nil)))
      · refine step_val (.int .i64 S1) WX (by rfl) (by have e9 := HS5.out.c1; go_simp) ?_
        simp only [Act.put, List.setIfInBounds_toArray, List.set_cons_zero, List.set_cons_succ]
        refine hK.out _ _ hH (fun hH' => ?_)
        clear hK K hH' 
        refine wpAnyH_take (i := 25) (oi := { dst := some 46, op := Op.binOp BinOp.add 3 (Operand.tmp 35) (Operand.tmp 45) 3, type := 3, pos := "l16_texture.go:200", after := #[{ on := 14, ground := Ground.data }, { on := 24, ground := Ground.data }], guard := none }) (v := .int .i64 N1) rfl (by kernel_rfl) (by kernel_rfl) (by kernel_rfl) (fun _ _ _ h => h) (Or.inl ⟨by rfl, fun w0 hSw => by (go_simp)⟩) hH ?_
        simp only [Act.put, List.setIfInBounds_toArray, List.set_cons_zero, List.set_cons_succ]
        refine wpAnyH_ready (rs := [27, 40]) (by kernel_rfl) (by simp) ?_
        refine (AllReadyH.cons (o := { dst := some 48, op := Op.load 3 (Operand.tmp 47), type := 3, pos := "l16_texture.go:200", after := #[{ on := 26, ground := Ground.data }], guard := none }) rfl (fun K hK => ?_) (AllReadyH.cons (o := { dst := some 61, op := Op.load 3 (Operand.tmp 60), type := 3, pos := "l16_texture.go:200", after := #[{ on := 39, ground := Ground.data }], guard := none }) rfl (fun K hK => ?_) AllReadyH.nil))
        · refine step_val (.int .i64 S2) WX (by rfl) (by have e9 := HS5.out.c2; go_simp) ?_
          simp only [Act.put, List.setIfInBounds_toArray, List.set_cons_zero, List.set_cons_succ]
          refine hK.out _ _ hH (fun hH' => ?_)
          clear hK K hH' 
          refine wpAnyH_take (i := 38) (oi := { dst := some 59, op := Op.binOp BinOp.add 3 (Operand.tmp 48) (Operand.tmp 58) 3, type := 3, pos := "l16_texture.go:200", after := #[{ on := 27, ground := Ground.data }, { on := 37, ground := Ground.data }], guard := none }) (v := .int .i64 N2) rfl (by kernel_rfl) (by kernel_rfl) (by kernel_rfl) (fun _ _ _ h => h) (Or.inl ⟨by rfl, fun w0 hSw => by (go_simp)⟩) hH ?_
          simp only [Act.put, List.setIfInBounds_toArray, List.set_cons_zero, List.set_cons_succ]
          refine wpAnyH_ready (rs := [40]) (by kernel_rfl) (by simp) ?_
          refine (AllReadyH.cons (o := { dst := some 61, op := Op.load 3 (Operand.tmp 60), type := 3, pos := "l16_texture.go:200", after := #[{ on := 39, ground := Ground.data }], guard := none }) rfl (fun K hK => ?_) AllReadyH.nil)
          refine step_val (.int .i64 S3) WX (by rfl) (by have e9 := HS5.out.c3; go_simp) ?_
          simp only [Act.put, List.setIfInBounds_toArray, List.set_cons_zero, List.set_cons_succ]
          refine hK.out _ _ hH (fun hH' => ?_)
          clear hK K hH' 
          refine wpAnyH_take (i := 51) (oi := { dst := some 72, op := Op.binOp BinOp.add 3 (Operand.tmp 61) (Operand.tmp 71) 3, type := 3, pos := "l16_texture.go:200", after := #[{ on := 40, ground := Ground.data }, { on := 50, ground := Ground.data }], guard := none }) (v := .int .i64 N3) rfl (by kernel_rfl) (by kernel_rfl) (by kernel_rfl) (fun _ _ _ h => h) (Or.inl ⟨by rfl, fun w0 hSw => by (go_simp)⟩) hH ?_
          simp only [Act.put, List.setIfInBounds_toArray, List.set_cons_zero, List.set_cons_succ]
          refine wpAnyH_take (i := 52) (oi := { dst := some 73, op := Op.build 25 #[(0, Operand.tmp 33), (1, Operand.tmp 46), (2, Operand.tmp 59), (3, Operand.tmp 72)], type := 25, pos := "l16_texture.go:200", after := #[{ on := 12, ground := Ground.data }, { on := 25, ground := Ground.data }, { on := 38, ground := Ground.data }, { on := 51, ground := Ground.data }], guard := none }) (v := .agg #[.int .i64 N0, .int .i64 N1, .int .i64 N2, .int .i64 N3]) rfl (by kernel_rfl) (by kernel_rfl) (by kernel_rfl) (fun _ _ _ h => h) (Or.inl ⟨by rfl, fun w0 hSw => by (go_simp)⟩) hH ?_
          simp only [Act.put, List.setIfInBounds_toArray, List.set_cons_zero, List.set_cons_succ]
          refine wpAnyH_ready (rs := [53]) (by kernel_rfl) (by simp) ?_
          refine (AllReadyH.cons (o := { dst := none, op := Op.store 25 (Operand.tmp 9) (Operand.tmp 73), type := 0, pos := "l16_texture.go:200", after := #[{ on := 52, ground := Ground.data }, { on := 0, ground := Ground.phase }, { on := 1, ground := Ground.phase }, { on := 2, ground := Ground.phase }, { on := 3, ground := Ground.phase }, { on := 4, ground := Ground.phase }, { on := 5, ground := Ground.phase }, { on := 6, ground := Ground.phase }, { on := 7, ground := Ground.phase }, { on := 8, ground := Ground.phase }, { on := 9, ground := Ground.phase }, { on := 10, ground := Ground.phase }, { on := 11, ground := Ground.phase }, { on := 12, ground := Ground.phase }, { on := 13, ground := Ground.phase }, { on := 14, ground := Ground.phase }, { on := 15, ground := Ground.phase }, { on := 16, ground := Ground.phase }, { on := 17, ground := Ground.phase }, { on := 18, ground := Ground.phase }, { on := 19, ground := Ground.phase }, { on := 20, ground := Ground.phase }, { on := 21, ground := Ground.phase }, { on := 22, ground := Ground.phase }, { on := 23, ground := Ground.phase }, { on := 24, ground := Ground.phase }, { on := 25, ground := Ground.phase }, { on := 26, ground := Ground.phase }, { on := 27, ground := Ground.phase }, { on := 28, ground := Ground.phase }, { on := 29, ground := Ground.phase }, { on := 30, ground := Ground.phase }, { on := 31, ground := Ground.phase }, { on := 32, ground := Ground.phase }, { on := 33, ground := Ground.phase }, { on := 34, ground := Ground.phase }, { on := 35, ground := Ground.phase }, { on := 36, ground := Ground.phase }, { on := 37, ground := Ground.phase }, { on := 38, ground := Ground.phase }, { on := 39, ground := Ground.phase }, { on := 40, ground := Ground.phase }, { on := 41, ground := Ground.phase }, { on := 42, ground := Ground.phase }, { on := 43, ground := Ground.phase }, { on := 44, ground := Ground.phase }, { on := 45, ground := Ground.phase }, { on := 46, ground := Ground.phase }, { on := 47, ground := Ground.phase }, { on := 48, ground := Ground.phase }, { on := 49, ground := Ground.phase }, { on := 50, ground := Ground.phase }, { on := 51, ground := Ground.phase }, { on := 52, ground := Ground.phase }], guard := none }) rfl (fun K hK => ?_) AllReadyH.nil)
          refine step_skip V9 (by rfl) (by (have f0 := HS5.out.c0); (have f1 := HS5.out.c1); (have f2 := HS5.out.c2); (have f3 := HS5.out.c3); (have f4 := HS5.out.f); rw [← HV9.out]; unfold set4; go_simp) ?_
          simp only [Act.put]
          refine hK.out _ _ HSN.out (fun hH' => ?_)
          clear hK K hH hH' 
          refine wpAnyH_done (by kernel_rfl) ?_ _
          clear HS5 HSN HV9
          go_wp2
          go_roundw
          case rel => exact ⟨k + 1, by omega, by go_num, HMN, RN, BN⟩
          case measure => simp [intOf]; omega
        · refine step_val (.int .i64 S3) WX (by rfl) (by have e9 := HS5.out.c3; go_simp) ?_
          simp only [Act.put, List.setIfInBounds_toArray, List.set_cons_zero, List.set_cons_succ]
          refine hK.out _ _ hH (fun hH' => ?_)
          clear hK K hH' 
          refine wpAnyH_take (i := 51) (oi := { dst := some 72, op := Op.binOp BinOp.add 3 (Operand.tmp 61) (Operand.tmp 71) 3, type := 3, pos := "l16_texture.go:200", after := #[{ on := 40, ground := Ground.data }, { on := 50, ground := Ground.data }], guard := none }) (v := .int .i64 N3) rfl (by kernel_rfl) (by kernel_rfl) (by kernel_rfl) (fun _ _ _ h => h) (Or.inl ⟨by rfl, fun w0 hSw => by (go_simp)⟩) hH ?_
          simp only [Act.put, List.setIfInBounds_toArray, List.set_cons_zero, List.set_cons_succ]
          refine wpAnyH_ready (rs := [27]) (by kernel_rfl) (by simp) ?_
          refine (AllReadyH.cons (o := { dst := some 48, op := Op.load 3 (Operand.tmp 47), type := 3, pos := "l16_texture.go:200", after := #[{ on := 26, ground := Ground.data }], guard := none }) rfl (fun K hK => ?_) AllReadyH.nil)
          refine step_val (.int .i64 S2) WX (by rfl) (by have e9 := HS5.out.c2; go_simp) ?_
          simp only [Act.put, List.setIfInBounds_toArray, List.set_cons_zero, List.set_cons_succ]
          refine hK.out _ _ hH (fun hH' => ?_)
          clear hK K hH' 
          refine wpAnyH_take (i := 38) (oi := { dst := some 59, op := Op.binOp BinOp.add 3 (Operand.tmp 48) (Operand.tmp 58) 3, type := 3, pos := "l16_texture.go:200", after := #[{ on := 27, ground := Ground.data }, { on := 37, ground := Ground.data }], guard := none }) (v := .int .i64 N2) rfl (by kernel_rfl) (by kernel_rfl) (by kernel_rfl) (fun _ _ _ h => h) (Or.inl ⟨by rfl, fun w0 hSw => by (go_simp)⟩) hH ?_
          simp only [Act.put, List.setIfInBounds_toArray, List.set_cons_zero, List.set_cons_succ]
          refine wpAnyH_take (i := 52) (oi := { dst := some 73, op := Op.build 25 #[(0, Operand.tmp 33), (1, Operand.tmp 46), (2, Operand.tmp 59), (3, Operand.tmp 72)], type := 25, pos := "l16_texture.go:200", after := #[{ on := 12, ground := Ground.data }, { on := 25, ground := Ground.data }, { on := 38, ground := Ground.data }, { on := 51, ground := Ground.data }], guard := none }) (v := .agg #[.int .i64 N0, .int .i64 N1, .int .i64 N2, .int .i64 N3]) rfl (by kernel_rfl) (by kernel_rfl) (by kernel_rfl) (fun _ _ _ h => h) (Or.inl ⟨by rfl, fun w0 hSw => by (go_simp)⟩) hH ?_
          simp only [Act.put, List.setIfInBounds_toArray, List.set_cons_zero, List.set_cons_succ]
          refine wpAnyH_ready (rs := [53]) (by kernel_rfl) (by simp) ?_
          refine (AllReadyH.cons (o := { dst := none, op := Op.store 25 (Operand.tmp 9) (Operand.tmp 73), type := 0, pos := "l16_texture.go:200", after := #[{ on := 52, ground := Ground.data }, { on := 0, ground := Ground.phase }, { on := 1, ground := Ground.phase }, { on := 2, ground := Ground.phase }, { on := 3, ground := Ground.phase }, { on := 4, ground := Ground.phase }, { on := 5, ground := Ground.phase }, { on := 6, ground := Ground.phase }, { on := 7, ground := Ground.phase }, { on := 8, ground := Ground.phase }, { on := 9, ground := Ground.phase }, { on := 10, ground := Ground.phase }, { on := 11, ground := Ground.phase }, { on := 12, ground := Ground.phase }, { on := 13, ground := Ground.phase }, { on := 14, ground := Ground.phase }, { on := 15, ground := Ground.phase }, { on := 16, ground := Ground.phase }, { on := 17, ground := Ground.phase }, { on := 18, ground := Ground.phase }, { on := 19, ground := Ground.phase }, { on := 20, ground := Ground.phase }, { on := 21, ground := Ground.phase }, { on := 22, ground := Ground.phase }, { on := 23, ground := Ground.phase }, { on := 24, ground := Ground.phase }, { on := 25, ground := Ground.phase }, { on := 26, ground := Ground.phase }, { on := 27, ground := Ground.phase }, { on := 28, ground := Ground.phase }, { on := 29, ground := Ground.phase }, { on := 30, ground := Ground.phase }, { on := 31, ground := Ground.phase }, { on := 32, ground := Ground.phase }, { on := 33, ground := Ground.phase }, { on := 34, ground := Ground.phase }, { on := 35, ground := Ground.phase }, { on := 36, ground := Ground.phase }, { on := 37, ground := Ground.phase }, { on := 38, ground := Ground.phase }, { on := 39, ground := Ground.phase }, { on := 40, ground := Ground.phase }, { on := 41, ground := Ground.phase }, { on := 42, ground := Ground.phase }, { on := 43, ground := Ground.phase }, { on := 44, ground := Ground.phase }, { on := 45, ground := Ground.phase }, { on := 46, ground := Ground.phase }, { on := 47, ground := Ground.phase }, { on := 48, ground := Ground.phase }, { on := 49, ground := Ground.phase }, { on := 50, ground := Ground.phase }, { on := 51, ground := Ground.phase }, { on := 52, ground := Ground.phase }], guard := none }) rfl (fun K hK => ?_) AllReadyH.nil)
          refine step_skip V9 (by rfl) (by (have f0 := HS5.out.c0); (have f1 := HS5.out.c1); (have f2 := HS5.out.c2); (have f3 := HS5.out.c3); (have f4 := HS5.out.f); rw [← HV9.out]; unfold set4; go_simp) ?_
          simp only [Act.put]
          refine hK.out _ _ HSN.out (fun hH' => ?_)
          clear hK K hH hH' 
          refine wpAnyH_done (by kernel_rfl) ?_ _
          clear HS5 HSN HV9
          go_wp2
          go_roundw
          case rel => exact ⟨k + 1, by omega, by go_num, HMN, RN, BN⟩
          case measure => simp [intOf]; omega
      · refine step_val (.int .i64 S2) WX (by rfl) (by have e9 := HS5.out.c2; go_simp) ?_
        simp only [Act.put, List.setIfInBounds_toArray, List.set_cons_zero, List.set_cons_succ]
        refine hK.out _ _ hH (fun hH' => ?_)
        clear hK K hH' 
        refine wpAnyH_take (i := 38) (oi := { dst := some 59, op := Op.binOp BinOp.add 3 (Operand.tmp 48) (Operand.tmp 58) 3, type := 3, pos := "l16_texture.go:200", after := #[{ on := 27, ground := Ground.data }, { on := 37, ground := Ground.data }], guard := none }) (v := .int .i64 N2) rfl (by kernel_rfl) (by kernel_rfl) (by kernel_rfl) (fun _ _ _ h => h) (Or.inl ⟨by rfl, fun w0 hSw => by (go_simp)⟩) hH ?_
        simp only [Act.put, List.setIfInBounds_toArray, List.set_cons_zero, List.set_cons_succ]
        refine wpAnyH_ready (rs := [14, 40]) (by kernel_rfl) (by simp) ?_
        refine (AllReadyH.cons (o := { dst := some 35, op := Op.load 3 (Operand.tmp 34), type := 3, pos := "l16_texture.go:200", after := #[{ on := 13, ground := Ground.data }], guard := none }) rfl (fun K hK => ?_) (AllReadyH.cons (o := { dst := some 61, op := Op.load 3 (Operand.tmp 60), type := 3, pos := "l16_texture.go:200", after := #[{ on := 39, ground := Ground.data }], guard := none }) rfl (fun K hK => ?_) AllReadyH.nil))
        · refine step_val (.int .i64 S1) WX (by rfl) (by have e9 := HS5.out.c1; go_simp) ?_
          simp only [Act.put, List.setIfInBounds_toArray, List.set_cons_zero, List.set_cons_succ]
          refine hK.out _ _ hH (fun hH' => ?_)
          clear hK K hH' 
          refine wpAnyH_take (i := 25) (oi := { dst := some 46, op := Op.binOp BinOp.add 3 (Operand.tmp 35) (Operand.tmp 45) 3, type := 3, pos := "l16_texture.go:200", after := #[{ on := 14, ground := Ground.data }, { on := 24, ground := Ground.data }], guard := none }) (v := .int .i64 N1) rfl (by kernel_rfl) (by kernel_rfl) (by kernel_rfl) (fun _ _ _ h => h) (Or.inl ⟨by rfl, fun w0 hSw => by (go_simp)⟩) hH ?_
          simp only [Act.put, List.setIfInBounds_toArray, List.set_cons_zero, List.set_cons_succ]
          refine wpAnyH_ready (rs := [40]) (by kernel_rfl) (by simp) ?_
          refine (AllReadyH.cons (o := { dst := some 61, op := Op.load 3 (Operand.tmp 60), type := 3, pos := "l16_texture.go:200", after := #[{ on := 39, ground := Ground.data }], guard := none }) rfl (fun K hK => ?_) AllReadyH.nil)
          refine step_val (.int .i64 S3) WX (by rfl) (by have e9 := HS5.out.c3; go_simp) ?_
          simp only [Act.put, List.setIfInBounds_toArray, List.set_cons_zero, List.set_cons_succ]
          refine hK.out _ _ hH (fun hH' => ?_)
          clear hK K hH' 
          refine wpAnyH_take (i := 51) (oi := { dst := some 72, op := Op.binOp BinOp.add 3 (Operand.tmp 61) (Operand.tmp 71) 3, type := 3, pos := "l16_texture.go:200", after := #[{ on := 40, ground := Ground.data }, { on := 50, ground := Ground.data }], guard := none }) (v := .int .i64 N3) rfl (by kernel_rfl) (by kernel_rfl) (by kernel_rfl) (fun _ _ _ h => h) (Or.inl ⟨by rfl, fun w0 hSw => by (go_simp)⟩) hH ?_
          simp only [Act.put, List.setIfInBounds_toArray, List.set_cons_zero, List.set_cons_succ]
          refine wpAnyH_take (i := 52) (oi := { dst := some 73, op := Op.build 25 #[(0, Operand.tmp 33), (1, Operand.tmp 46), (2, Operand.tmp 59), (3, Operand.tmp 72)], type := 25, pos := "l16_texture.go:200", after := #[{ on := 12, ground := Ground.data }, { on := 25, ground := Ground.data }, { on := 38, ground := Ground.data }, { on := 51, ground := Ground.data }], guard := none }) (v := .agg #[.int .i64 N0, .int .i64 N1, .int .i64 N2, .int .i64 N3]) rfl (by kernel_rfl) (by kernel_rfl) (by kernel_rfl) (fun _ _ _ h => h) (Or.inl ⟨by rfl, fun w0 hSw => by (go_simp)⟩) hH ?_
          simp only [Act.put, List.setIfInBounds_toArray, List.set_cons_zero, List.set_cons_succ]
          refine wpAnyH_ready (rs := [53]) (by kernel_rfl) (by simp) ?_
          refine (AllReadyH.cons (o := { dst := none, op := Op.store 25 (Operand.tmp 9) (Operand.tmp 73), type := 0, pos := "l16_texture.go:200", after := #[{ on := 52, ground := Ground.data }, { on := 0, ground := Ground.phase }, { on := 1, ground := Ground.phase }, { on := 2, ground := Ground.phase }, { on := 3, ground := Ground.phase }, { on := 4, ground := Ground.phase }, { on := 5, ground := Ground.phase }, { on := 6, ground := Ground.phase }, { on := 7, ground := Ground.phase }, { on := 8, ground := Ground.phase }, { on := 9, ground := Ground.phase }, { on := 10, ground := Ground.phase }, { on := 11, ground := Ground.phase }, { on := 12, ground := Ground.phase }, { on := 13, ground := Ground.phase }, { on := 14, ground := Ground.phase }, { on := 15, ground := Ground.phase }, { on := 16, ground := Ground.phase }, { on := 17, ground := Ground.phase }, { on := 18, ground := Ground.phase }, { on := 19, ground := Ground.phase }, { on := 20, ground := Ground.phase }, { on := 21, ground := Ground.phase }, { on := 22, ground := Ground.phase }, { on := 23, ground := Ground.phase }, { on := 24, ground := Ground.phase }, { on := 25, ground := Ground.phase }, { on := 26, ground := Ground.phase }, { on := 27, ground := Ground.phase }, { on := 28, ground := Ground.phase }, { on := 29, ground := Ground.phase }, { on := 30, ground := Ground.phase }, { on := 31, ground := Ground.phase }, { on := 32, ground := Ground.phase }, { on := 33, ground := Ground.phase }, { on := 34, ground := Ground.phase }, { on := 35, ground := Ground.phase }, { on := 36, ground := Ground.phase }, { on := 37, ground := Ground.phase }, { on := 38, ground := Ground.phase }, { on := 39, ground := Ground.phase }, { on := 40, ground := Ground.phase }, { on := 41, ground := Ground.phase }, { on := 42, ground := Ground.phase }, { on := 43, ground := Ground.phase }, { on := 44, ground := Ground.phase }, { on := 45, ground := Ground.phase }, { on := 46, ground := Ground.phase }, { on := 47, ground := Ground.phase }, { on := 48, ground := Ground.phase }, { on := 49, ground := Ground.phase }, { on := 50, ground := Ground.phase }, { on := 51, ground := Ground.phase }, { on := 52, ground := Ground.phase }], guard := none }) rfl (fun K hK => ?_) AllReadyH.nil)
          refine step_skip V9 (by rfl) (by (have f0 := HS5.out.c0); (have f1 := HS5.out.c1); (have f2 := HS5.out.c2); (have f3 := HS5.out.c3); (have f4 := HS5.out.f); rw [← HV9.out]; unfold set4; go_simp) ?_
          simp only [Act.put]
          refine hK.out _ _ HSN.out (fun hH' => ?_)
          clear hK K hH hH' 
          refine wpAnyH_done (by kernel_rfl) ?_ _
          clear HS5 HSN HV9
          go_wp2
          go_roundw
          case rel => exact ⟨k + 1, by omega, by go_num, HMN, RN, BN⟩
          case measure => simp [intOf]; omega
        · refine step_val (.int .i64 S3) WX (by rfl) (by have e9 := HS5.out.c3; go_simp) ?_
          simp only [Act.put, List.setIfInBounds_toArray, List.set_cons_zero, List.set_cons_succ]
          refine hK.out _ _ hH (fun hH' => ?_)
          clear hK K hH' 
          refine wpAnyH_take (i := 51) (oi := { dst := some 72, op := Op.binOp BinOp.add 3 (Operand.tmp 61) (Operand.tmp 71) 3, type := 3, pos := "l16_texture.go:200", after := #[{ on := 40, ground := Ground.data }, { on := 50, ground := Ground.data }], guard := none }) (v := .int .i64 N3) rfl (by kernel_rfl) (by kernel_rfl) (by kernel_rfl) (fun _ _ _ h => h) (Or.inl ⟨by rfl, fun w0 hSw => by (go_simp)⟩) hH ?_
          simp only [Act.put, List.setIfInBounds_toArray, List.set_cons_zero, List.set_cons_succ]
          refine wpAnyH_ready (rs := [14]) (by kernel_rfl) (by simp) ?_
          refine (AllReadyH.cons (o := { dst := some 35, op := Op.load 3 (Operand.tmp 34), type := 3, pos := "l16_texture.go:200", after := #[{ on := 13, ground := Ground.data }], guard := none }) rfl (fun K hK => ?_) AllReadyH.nil)
          refine step_val (.int .i64 S1) WX (by rfl) (by have e9 := HS5.out.c1; go_simp) ?_
          simp only [Act.put, List.setIfInBounds_toArray, List.set_cons_zero, List.set_cons_succ]
          refine hK.out _ _ hH (fun hH' => ?_)
          clear hK K hH' 
          refine wpAnyH_take (i := 25) (oi := { dst := some 46, op := Op.binOp BinOp.add 3 (Operand.tmp 35) (Operand.tmp 45) 3, type := 3, pos := "l16_texture.go:200", after := #[{ on := 14, ground := Ground.data }, { on := 24, ground := Ground.data }], guard := none }) (v := .int .i64 N1) rfl (by kernel_rfl) (by kernel_rfl) (by kernel_rfl) (fun _ _ _ h => h) (Or.inl ⟨by rfl, fun w0 hSw => by (go_simp)⟩) hH ?_
          simp only [Act.put, List.setIfInBounds_toArray, List.set_cons_zero, List.set_cons_succ]
          refine wpAnyH_take (i := 52) (oi := { dst := some 73, op := Op.build 25 #[(0, Operand.tmp 33), (1, Operand.tmp 46), (2, Operand.tmp 59), (3, Operand.tmp 72)], type := 25, pos := "l16_texture.go:200", after := #[{ on := 12, ground := Ground.data }, { on := 25, ground := Ground.data }, { on := 38, ground := Ground.data }, { on := 51, ground := Ground.data }], guard := none }) (v := .agg #[.int .i64 N0, .int .i64 N1, .int .i64 N2, .int .i64 N3]) rfl (by kernel_rfl) (by kernel_rfl) (by kernel_rfl) (fun _ _ _ h => h) (Or.inl ⟨by rfl, fun w0 hSw => by (go_simp)⟩) hH ?_
          simp only [Act.put, List.setIfInBounds_toArray, List.set_cons_zero, List.set_cons_succ]
          refine wpAnyH_ready (rs := [53]) (by kernel_rfl) (by simp) ?_
          refine (AllReadyH.cons (o := { dst := none, op := Op.store 25 (Operand.tmp 9) (Operand.tmp 73), type := 0, pos := "l16_texture.go:200", after := #[{ on := 52, ground := Ground.data }, { on := 0, ground := Ground.phase }, { on := 1, ground := Ground.phase }, { on := 2, ground := Ground.phase }, { on := 3, ground := Ground.phase }, { on := 4, ground := Ground.phase }, { on := 5, ground := Ground.phase }, { on := 6, ground := Ground.phase }, { on := 7, ground := Ground.phase }, { on := 8, ground := Ground.phase }, { on := 9, ground := Ground.phase }, { on := 10, ground := Ground.phase }, { on := 11, ground := Ground.phase }, { on := 12, ground := Ground.phase }, { on := 13, ground := Ground.phase }, { on := 14, ground := Ground.phase }, { on := 15, ground := Ground.phase }, { on := 16, ground := Ground.phase }, { on := 17, ground := Ground.phase }, { on := 18, ground := Ground.phase }, { on := 19, ground := Ground.phase }, { on := 20, ground := Ground.phase }, { on := 21, ground := Ground.phase }, { on := 22, ground := Ground.phase }, { on := 23, ground := Ground.phase }, { on := 24, ground := Ground.phase }, { on := 25, ground := Ground.phase }, { on := 26, ground := Ground.phase }, { on := 27, ground := Ground.phase }, { on := 28, ground := Ground.phase }, { on := 29, ground := Ground.phase }, { on := 30, ground := Ground.phase }, { on := 31, ground := Ground.phase }, { on := 32, ground := Ground.phase }, { on := 33, ground := Ground.phase }, { on := 34, ground := Ground.phase }, { on := 35, ground := Ground.phase }, { on := 36, ground := Ground.phase }, { on := 37, ground := Ground.phase }, { on := 38, ground := Ground.phase }, { on := 39, ground := Ground.phase }, { on := 40, ground := Ground.phase }, { on := 41, ground := Ground.phase }, { on := 42, ground := Ground.phase }, { on := 43, ground := Ground.phase }, { on := 44, ground := Ground.phase }, { on := 45, ground := Ground.phase }, { on := 46, ground := Ground.phase }, { on := 47, ground := Ground.phase }, { on := 48, ground := Ground.phase }, { on := 49, ground := Ground.phase }, { on := 50, ground := Ground.phase }, { on := 51, ground := Ground.phase }, { on := 52, ground := Ground.phase }], guard := none }) rfl (fun K hK => ?_) AllReadyH.nil)
          refine step_skip V9 (by rfl) (by (have f0 := HS5.out.c0); (have f1 := HS5.out.c1); (have f2 := HS5.out.c2); (have f3 := HS5.out.c3); (have f4 := HS5.out.f); rw [← HV9.out]; unfold set4; go_simp) ?_
          simp only [Act.put]
          refine hK.out _ _ HSN.out (fun hH' => ?_)
          clear hK K hH hH' 
          refine wpAnyH_done (by kernel_rfl) ?_ _
          clear HS5 HSN HV9
          go_wp2
          go_roundw
          case rel => exact ⟨k + 1, by omega, by go_num, HMN, RN, BN⟩
          case measure => simp [intOf]; omega
      · refine step_val (.int .i64 S3) WX (by rfl) (by have e9 := HS5.out.c3; go_simp) ?_
        simp only [Act.put, List.setIfInBounds_toArray, List.set_cons_zero, List.set_cons_succ]
        refine hK.out _ _ hH (fun hH' => ?_)
        clear hK K hH' 
        refine wpAnyH_take (i := 51) (oi := { dst := some 72, op := Op.binOp BinOp.add 3 (Operand.tmp 61) (Operand.tmp 71) 3, type := 3, pos := "l16_texture.go:200", after := #[{ on := 40, ground := Ground.data }, { on := 50, ground := Ground.data }], guard := none }) (v := .int .i64 N3) rfl (by kernel_rfl) (by kernel_rfl) (by kernel_rfl) (fun _ _ _ h => h) (Or.inl ⟨by rfl, fun w0 hSw => by (go_simp)⟩) hH ?_
        simp only [Act.put, List.setIfInBounds_toArray, List.set_cons_zero, List.set_cons_succ]
        refine wpAnyH_ready (rs := [14, 27]) (by kernel_rfl) (by simp) ?_
        refine (AllReadyH.cons (o := { dst := some 35, op := Op.load 3 (Operand.tmp 34), type := 3, pos := "l16_texture.go:200", after := #[{ on := 13, ground := Ground.data }], guard := none }) rfl (fun K hK => ?_) (AllReadyH.cons (o := { dst := some 48, op := Op.load 3 (Operand.tmp 47), type := 3, pos := "l16_texture.go:200", after := #[{ on := 26, ground := Ground.data }], guard := none }) rfl (fun K hK => ?_) AllReadyH.nil))
        · refine step_val (.int .i64 S1) WX (by rfl) (by have e9 := HS5.out.c1; go_simp) ?_
          simp only [Act.put, List.setIfInBounds_toArray, List.set_cons_zero, List.set_cons_succ]
          refine hK.out _ _ hH (fun hH' => ?_)
          clear hK K hH' 
          refine wpAnyH_take (i := 25) (oi := { dst := some 46, op := Op.binOp BinOp.add 3 (Operand.tmp 35) (Operand.tmp 45) 3, type := 3, pos := "l16_texture.go:200", after := #[{ on := 14, ground := Ground.data }, { on := 24, ground := Ground.data }], guard := none }) (v := .int .i64 N1) rfl (by kernel_rfl) (by kernel_rfl) (by kernel_rfl) (fun _ _ _ h => h) (Or.inl ⟨by rfl, fun w0 hSw => by (go_simp)⟩) hH ?_
          simp only [Act.put, List.setIfInBounds_toArray, List.set_cons_zero, List.set_cons_succ]
          refine wpAnyH_ready (rs := [27]) (by kernel_rfl) (by simp) ?_
          refine (AllReadyH.cons (o := { dst := some 48, op := Op.load 3 (Operand.tmp 47), type := 3, pos := "l16_texture.go:200", after := #[{ on := 26, ground := Ground.data }], guard := none }) rfl (fun K hK => ?_) AllReadyH.nil)
          refine step_val (.int .i64 S2) WX (by rfl) (by have e9 := HS5.out.c2; go_simp) ?_
          simp only [Act.put, List.setIfInBounds_toArray, List.set_cons_zero, List.set_cons_succ]
          refine hK.out _ _ hH (fun hH' => ?_)
          clear hK K hH' 
          refine wpAnyH_take (i := 38) (oi := { dst := some 59, op := Op.binOp BinOp.add 3 (Operand.tmp 48) (Operand.tmp 58) 3, type := 3, pos := "l16_texture.go:200", after := #[{ on := 27, ground := Ground.data }, { on := 37, ground := Ground.data }], guard := none }) (v := .int .i64 N2) rfl (by kernel_rfl) (by kernel_rfl) (by kernel_rfl) (fun _ _ _ h => h) (Or.inl ⟨by rfl, fun w0 hSw => by (go_simp)⟩) hH ?_
          simp only [Act.put, List.setIfInBounds_toArray, List.set_cons_zero, List.set_cons_succ]
          refine wpAnyH_take (i := 52) (oi := { dst := some 73, op := Op.build 25 #[(0, Operand.tmp 33), (1, Operand.tmp 46), (2, Operand.tmp 59), (3, Operand.tmp 72)], type := 25, pos := "l16_texture.go:200", after := #[{ on := 12, ground := Ground.data }, { on := 25, ground := Ground.data }, { on := 38, ground := Ground.data }, { on := 51, ground := Ground.data }], guard := none }) (v := .agg #[.int .i64 N0, .int .i64 N1, .int .i64 N2, .int .i64 N3]) rfl (by kernel_rfl) (by kernel_rfl) (by kernel_rfl) (fun _ _ _ h => h) (Or.inl ⟨by rfl, fun w0 hSw => by (go_simp)⟩) hH ?_
          simp only [Act.put, List.setIfInBounds_toArray, List.set_cons_zero, List.set_cons_succ]
          refine wpAnyH_ready (rs := [53]) (by kernel_rfl) (by simp) ?_
          refine (AllReadyH.cons (o := { dst := none, op := Op.store 25 (Operand.tmp 9) (Operand.tmp 73), type := 0, pos := "l16_texture.go:200", after := #[{ on := 52, ground := Ground.data }, { on := 0, ground := Ground.phase }, { on := 1, ground := Ground.phase }, { on := 2, ground := Ground.phase }, { on := 3, ground := Ground.phase }, { on := 4, ground := Ground.phase }, { on := 5, ground := Ground.phase }, { on := 6, ground := Ground.phase }, { on := 7, ground := Ground.phase }, { on := 8, ground := Ground.phase }, { on := 9, ground := Ground.phase }, { on := 10, ground := Ground.phase }, { on := 11, ground := Ground.phase }, { on := 12, ground := Ground.phase }, { on := 13, ground := Ground.phase }, { on := 14, ground := Ground.phase }, { on := 15, ground := Ground.phase }, { on := 16, ground := Ground.phase }, { on := 17, ground := Ground.phase }, { on := 18, ground := Ground.phase }, { on := 19, ground := Ground.phase }, { on := 20, ground := Ground.phase }, { on := 21, ground := Ground.phase }, { on := 22, ground := Ground.phase }, { on := 23, ground := Ground.phase }, { on := 24, ground := Ground.phase }, { on := 25, ground := Ground.phase }, { on := 26, ground := Ground.phase }, { on := 27, ground := Ground.phase }, { on := 28, ground := Ground.phase }, { on := 29, ground := Ground.phase }, { on := 30, ground := Ground.phase }, { on := 31, ground := Ground.phase }, { on := 32, ground := Ground.phase }, { on := 33, ground := Ground.phase }, { on := 34, ground := Ground.phase }, { on := 35, ground := Ground.phase }, { on := 36, ground := Ground.phase }, { on := 37, ground := Ground.phase }, { on := 38, ground := Ground.phase }, { on := 39, ground := Ground.phase }, { on := 40, ground := Ground.phase }, { on := 41, ground := Ground.phase }, { on := 42, ground := Ground.phase }, { on := 43, ground := Ground.phase }, { on := 44, ground := Ground.phase }, { on := 45, ground := Ground.phase }, { on := 46, ground := Ground.phase }, { on := 47, ground := Ground.phase }, { on := 48, ground := Ground.phase }, { on := 49, ground := Ground.phase }, { on := 50, ground := Ground.phase }, { on := 51, ground := Ground.phase }, { on := 52, ground := Ground.phase }], guard := none }) rfl (fun K hK => ?_) AllReadyH.nil)
          refine step_skip V9 (by rfl) (by (have f0 := HS5.out.c0); (have f1 := HS5.out.c1); (have f2 := HS5.out.c2); (have f3 := HS5.out.c3); (have f4 := HS5.out.f); rw [← HV9.out]; unfold set4; go_simp) ?_
          simp only [Act.put]
          refine hK.out _ _ HSN.out (fun hH' => ?_)
          clear hK K hH hH' 
          refine wpAnyH_done (by kernel_rfl) ?_ _
          clear HS5 HSN HV9
          go_wp2
          go_roundw
          case rel => exact ⟨k + 1, by omega, by go_num, HMN, RN, BN⟩
          case measure => simp [intOf]; omega
        · refine step_val (.int .i64 S2) WX (by rfl) (by have e9 := HS5.out.c2; go_simp) ?_
          simp only [Act.put, List.setIfInBounds_toArray, List.set_cons_zero, List.set_cons_succ]
          refine hK.out _ _ hH (fun hH' => ?_)
          clear hK K hH' 
          refine wpAnyH_take (i := 38) (oi := { dst := some 59, op := Op.binOp BinOp.add 3 (Operand.tmp 48) (Operand.tmp 58) 3, type := 3, pos := "l16_texture.go:200", after := #[{ on := 27, ground := Ground.data }, { on := 37, ground := Ground.data }], guard := none }) (v := .int .i64 N2) rfl (by kernel_rfl) (by kernel_rfl) (by kernel_rfl) (fun _ _ _ h => h) (Or.inl ⟨by rfl, fun w0 hSw => by (go_simp)⟩) hH ?_
          simp only [Act.put, List.setIfInBounds_toArray, List.set_cons_zero, List.set_cons_succ]
          refine wpAnyH_ready (rs := [14]) (by kernel_rfl) (by simp) ?_
          refine (AllReadyH.cons (o := { dst := some 35, op := Op.load 3 (Operand.tmp 34), type := 3, pos := "l16_texture.go:200", after := #[{ on := 13, ground := Ground.data }], guard := none }) rfl (fun K hK => ?_) AllReadyH.nil)
          refine step_val (.int .i64 S1) WX (by rfl) (by have e9 := HS5.out.c1; go_simp) ?_
          simp only [Act.put, List.setIfInBounds_toArray, List.set_cons_zero, List.set_cons_succ]
          refine hK.out _ _ hH (fun hH' => ?_)
          clear hK K hH' 
          refine wpAnyH_take (i := 25) (oi := { dst := some 46, op := Op.binOp BinOp.add 3 (Operand.tmp 35) (Operand.tmp 45) 3, type := 3, pos := "l16_texture.go:200", after := #[{ on := 14, ground := Ground.data }, { on := 24, ground := Ground.data }], guard := none }) (v := .int .i64 N1) rfl (by kernel_rfl) (by kernel_rfl) (by kernel_rfl) (fun _ _ _ h => h) (Or.inl ⟨by rfl, fun w0 hSw => by (go_simp)⟩) hH ?_
          simp only [Act.put, List.setIfInBounds_toArray, List.set_cons_zero, List.set_cons_succ]
          refine wpAnyH_take (i := 52) (oi := { dst := some 73, op := Op.build 25 #[(0, Operand.tmp 33), (1, Operand.tmp 46), (2, Operand.tmp 59), (3, Operand.tmp 72)], type := 25, pos := "l16_texture.go:200", after := #[{ on := 12, ground := Ground.data }, { on := 25, ground := Ground.data }, { on := 38, ground := Ground.data }, { on := 51, ground := Ground.data }], guard := none }) (v := .agg #[.int .i64 N0, .int .i64 N1, .int .i64 N2, .int .i64 N3]) rfl (by kernel_rfl) (by kernel_rfl) (by kernel_rfl) (fun _ _ _ h => h) (Or.inl ⟨by rfl, fun w0 hSw => by (go_simp)⟩) hH ?_
          simp only [Act.put, List.setIfInBounds_toArray, List.set_cons_zero, List.set_cons_succ]
          refine wpAnyH_ready (rs := [53]) (by kernel_rfl) (by simp) ?_
          refine (AllReadyH.cons (o := { dst := none, op := Op.store 25 (Operand.tmp 9) (Operand.tmp 73), type := 0, pos := "l16_texture.go:200", after := #[{ on := 52, ground := Ground.data }, { on := 0, ground := Ground.phase }, { on := 1, ground := Ground.phase }, { on := 2, ground := Ground.phase }, { on := 3, ground := Ground.phase }, { on := 4, ground := Ground.phase }, { on := 5, ground := Ground.phase }, { on := 6, ground := Ground.phase }, { on := 7, ground := Ground.phase }, { on := 8, ground := Ground.phase }, { on := 9, ground := Ground.phase }, { on := 10, ground := Ground.phase }, { on := 11, ground := Ground.phase }, { on := 12, ground := Ground.phase }, { on := 13, ground := Ground.phase }, { on := 14, ground := Ground.phase }, { on := 15, ground := Ground.phase }, { on := 16, ground := Ground.phase }, { on := 17, ground := Ground.phase }, { on := 18, ground := Ground.phase }, { on := 19, ground := Ground.phase }, { on := 20, ground := Ground.phase }, { on := 21, ground := Ground.phase }, { on := 22, ground := Ground.phase }, { on := 23, ground := Ground.phase }, { on := 24, ground := Ground.phase }, { on := 25, ground := Ground.phase }, { on := 26, ground := Ground.phase }, { on := 27, ground := Ground.phase }, { on := 28, ground := Ground.phase }, { on := 29, ground := Ground.phase }, { on := 30, ground := Ground.phase }, { on := 31, ground := Ground.phase }, { on := 32, ground := Ground.phase }, { on := 33, ground := Ground.phase }, { on := 34, ground := Ground.phase }, { on := 35, ground := Ground.phase }, { on := 36, ground := Ground.phase }, { on := 37, ground := Ground.phase }, { on := 38, ground := Ground.phase }, { on := 39, ground := Ground.phase }, { on := 40, ground := Ground.phase }, { on := 41, ground := Ground.phase }, { on := 42, ground := Ground.phase }, { on := 43, ground := Ground.phase }, { on := 44, ground := Ground.phase }, { on := 45, ground := Ground.phase }, { on := 46, ground := Ground.phase }, { on := 47, ground := Ground.phase }, { on := 48, ground := Ground.phase }, { on := 49, ground := Ground.phase }, { on := 50, ground := Ground.phase }, { on := 51, ground := Ground.phase }, { on := 52, ground := Ground.phase }], guard := none }) rfl (fun K hK => ?_) AllReadyH.nil)
          refine step_skip V9 (by rfl) (by (have f0 := HS5.out.c0); (have f1 := HS5.out.c1); (have f2 := HS5.out.c2); (have f3 := HS5.out.c3); (have f4 := HS5.out.f); rw [← HV9.out]; unfold set4; go_simp) ?_
          simp only [Act.put]
          refine hK.out _ _ HSN.out (fun hH' => ?_)
          clear hK K hH hH' 
          refine wpAnyH_done (by kernel_rfl) ?_ _
          clear HS5 HSN HV9
          go_wp2
          go_roundw
          case rel => exact ⟨k + 1, by omega, by go_num, HMN, RN, BN⟩
          case measure => simp [intOf]; omega
    · refine step_val (.int .i64 S1) WX (by rfl) (by have e9 := HS5.out.c1; go_simp) ?_
      simp only [Act.put, List.setIfInBounds_toArray, List.set_cons_zero, List.set_cons_succ]
      refine hK.out _ _ hH (fun hH' => ?_)
      clear hK K hH' 
      refine wpAnyH_take (i := 25) (oi := { dst := some 46, op := Op.binOp BinOp.add 3 (Operand.tmp 35) (Operand.tmp 45) 3, type := 3, pos := "l16_texture.go:200", after := #[{ on := 14, ground := Ground.data }, { on := 24, ground := Ground.data }], guard := none }) (v := .int .i64 N1) rfl (by kernel_rfl) (by kernel_rfl) (by kernel_rfl) (fun _ _ _ h => h) (Or.inl ⟨by rfl, fun w0 hSw => by (go_simp)⟩) hH ?_
      simp only [Act.put, List.setIfInBounds_toArray, List.set_cons_zero, List.set_cons_succ]
      refine wpAnyH_ready (rs := [1, 27, 40]) (by kernel_rfl) (by simp) ?_
      refine (AllReadyH.cons (o := { dst := some 22, op := Op.load 3 (Operand.tmp 21), type := 3, pos := "l16_texture.go:200", after := #[{ on := 0, ground := Ground.data }], guard := none }) rfl (fun K hK => ?_) (AllReadyH.cons (o := { dst := some 48, op := Op.load 3 (Operand.tmp 47), type := 3, pos := "l16_texture.go:200", after := #[{ on := 26, ground := Ground.data }], guard := none }) rfl (fun K hK => ?_) (AllReadyH.cons (o := { dst := some 61, op := Op.load 3 (Operand.tmp 60), type := 3, pos := "l16_texture.go:200", after := #[{ on := 39, ground := Ground.data }], guard := none }) rfl (fun K hK => ?_) AllReadyH.nil)))
      · refine step_val (.int .i64 S0) WX (by rfl) (by have e9 := HS5.out.c0; go_simp) ?_
        simp only [Act.put, List.setIfInBounds_toArray, List.set_cons_zero, List.set_cons_succ]
        refine hK.out _ _ hH (fun hH' => ?_)
        clear hK K hH' 
        refine wpAnyH_take (i := 12) (oi := { dst := some 33, op := Op.binOp BinOp.add 3 (Operand.tmp 22) (Operand.tmp 32) 3, type := 3, pos := "l16_texture.go:200", after := #[{ on := 1, ground := Ground.data }, { on := 11, ground := Ground.data }], guard := none }) (v := .int .i64 N0) rfl (by kernel_rfl) (by kernel_rfl) (by kernel_rfl) (fun _ _ _ h => h) (Or.inl ⟨by rfl, fun w0 hSw => by (go_simp)⟩) hH ?_
        simp only [Act.put, List.setIfInBounds_toArray, List.set_cons_zero, List.set_cons_succ]
        refine wpAnyH_ready (rs := [27, 40]) (by kernel_rfl) (by simp) ?_
        refine (AllReadyH.cons (o := { dst := some 48, op := Op.load 3 (Operand.tmp 47), type := 3, pos := "l16_texture.go:200", after := #[{ on := 26, ground := Ground.data }], guard := none }) rfl (fun K hK => ?_) (AllReadyH.cons (o := { dst := some 61, op := Op.load 3 (Operand.tmp 60), type := 3, pos := "l16_texture.go:200", after := #[{ on := 39, ground := Ground.data }], guard := none }) rfl (fun K hK => ?_) AllReadyH.nil))
        · refine step_val (.int .i64 S2) WX (by rfl) (by have e9 := HS5.out.c2; go_simp) ?_
          simp only [Act.put, List.setIfInBounds_toArray, List.set_cons_zero, List.set_cons_succ]
          refine hK.out _ _ hH (fun hH' => ?_)
          clear hK K hH' 
          refine wpAnyH_take (i := 38) (oi := { dst := some 59, op := Op.binOp BinOp.add 3 (Operand.tmp 48) (Operand.tmp 58) 3, type := 3, pos := "l16_texture.go:200", after := #[{ on := 27, ground := Ground.data }, { on := 37, ground := Ground.data }], guard := none }) (v := .int .i64 N2) rfl (by kernel_rfl) (by kernel_rfl) (by kernel_rfl) (fun _ _ _ h => h) (Or.inl ⟨by rfl, fun w0 hSw => by (go_simp)⟩) hH ?_
          simp only [Act.put, List.setIfInBounds_toArray, List.set_cons_zero, List.set_cons_succ]
          refine wpAnyH_ready (rs := [40]) (by kernel_rfl) (by simp) ?_
          refine (AllReadyH.cons (o := { dst := some 61, op := Op.load 3 (Operand.tmp 60), type := 3, pos := "l16_texture.go:200", after := #[{ on := 39, ground := Ground.data }], guard := none }) rfl (fun K hK => ?_) AllReadyH.nil)
          refine step_val (.int .i64 S3) WX (by rfl) (by have e9 := HS5.out.c3; go_simp) ?_
          simp only [Act.put, List.setIfInBounds_toArray, List.set_cons_zero, List.set_cons_succ]
          refine hK.out _ _ hH (fun hH' => ?_)
          clear hK K hH' 
          refine wpAnyH_take (i := 51) (oi := { dst := some 72, op := Op.binOp BinOp.add 3 (Operand.tmp 61) (Operand.tmp 71) 3, type := 3, pos := "l16_texture.go:200", after := #[{ on := 40, ground := Ground.data }, { on := 50, ground := Ground.data }], guard := none }) (v := .int .i64 N3) rfl (by kernel_rfl) (by kernel_rfl) (by kernel_rfl) (fun _ _ _ h => h) (Or.inl ⟨by rfl, fun w0 hSw => by (go_simp)⟩) hH ?_
          simp only [Act.put, List.setIfInBounds_toArray, List.set_cons_zero, List.set_cons_succ]
          refine wpAnyH_take (i := 52) (oi := { dst := some 73, op := Op.build 25 #[(0, Operand.tmp 33), (1, Operand.tmp 46), (2, Operand.tmp 59), (3, Operand.tmp 72)], type := 25, pos := "l16_texture.go:200", after := #[{ on := 12, ground := Ground.data }, { on := 25, ground := Ground.data }, { on := 38, ground := Ground.data }, { on := 51, ground := Ground.data }], guard := none }) (v := .agg #[.int .i64 N0, .int .i64 N1, .int .i64 N2, .int .i64 N3]) rfl (by kernel_rfl) (by kernel_rfl) (by kernel_rfl) (fun _ _ _ h => h) (Or.inl ⟨by rfl, fun w0 hSw => by (go_simp)⟩) hH ?_
          simp only [Act.put, List.setIfInBounds_toArray, List.set_cons_zero, List.set_cons_succ]
          refine wpAnyH_ready (rs := [53]) (by kernel_rfl) (by simp) ?_
          refine (AllReadyH.cons (o := { dst := none, op := Op.store 25 (Operand.tmp 9) (Operand.tmp 73), type := 0, pos := "l16_texture.go:200", after := #[{ on := 52, ground := Ground.data }, { on := 0, ground := Ground.phase }, { on := 1, ground := Ground.phase }, { on := 2, ground := Ground.phase }, { on := 3, ground := Ground.phase }, { on := 4, ground := Ground.phase }, { on := 5, ground := Ground.phase }, { on := 6, ground := Ground.phase }, { on := 7, ground := Ground.phase }, { on := 8, ground := Ground.phase }, { on := 9, ground := Ground.phase }, { on := 10, ground := Ground.phase }, { on := 11, ground := Ground.phase }, { on := 12, ground := Ground.phase }, { on := 13, ground := Ground.phase }, { on := 14, ground := Ground.phase }, { on := 15, ground := Ground.phase }, { on := 16, ground := Ground.phase }, { on := 17, ground := Ground.phase }, { on := 18, ground := Ground.phase }, { on := 19, ground := Ground.phase }, { on := 20, ground := Ground.phase }, { on := 21, ground := Ground.phase }, { on := 22, ground := Ground.phase }, { on := 23, ground := Ground.phase }, { on := 24, ground := Ground.phase }, { on := 25, ground := Ground.phase }, { on := 26, ground := Ground.phase }, { on := 27, ground := Ground.phase }, { on := 28, ground := Ground.phase }, { on := 29, ground := Ground.phase }, { on := 30, ground := Ground.phase }, { on := 31, ground := Ground.phase }, { on := 32, ground := Ground.phase }, { on := 33, ground := Ground.phase }, { on := 34, ground := Ground.phase }, { on := 35, ground := Ground.phase }, { on := 36, ground := Ground.phase }, { on := 37, ground := Ground.phase }, { on := 38, ground := Ground.phase }, { on := 39, ground := Ground.phase }, { on := 40, ground := Ground.phase }, { on := 41, ground := Ground.phase }, { on := 42, ground := Ground.phase }, { on := 43, ground := Ground.phase }, { on := 44, ground := Ground.phase }, { on := 45, ground := Ground.phase }, { on := 46, ground := Ground.phase }, { on := 47, ground := Ground.phase }, { on := 48, ground := Ground.phase }, { on := 49, ground := Ground.phase }, { on := 50, ground := Ground.phase }, { on := 51, ground := Ground.phase }, { on := 52, ground := Ground.phase }], guard := none }) rfl (fun K hK => ?_) AllReadyH.nil)
          refine step_skip V9 (by rfl) (by (have f0 := HS5.out.c0); (have f1 := HS5.out.c1); (have f2 := HS5.out.c2); (have f3 := HS5.out.c3); (have f4 := HS5.out.f); rw [← HV9.out]; unfold set4; go_simp) ?_
          simp only [Act.put]
          refine hK.out _ _ HSN.out (fun hH' => ?_)
          clear hK K hH hH' 
          refine wpAnyH_done (by kernel_rfl) ?_ _
          clear HS5 HSN HV9
          go_wp2
          go_roundw
          case rel => exact ⟨k + 1, by omega, by go_num, HMN, RN, BN⟩
          case measure => simp [intOf]; omega
        · refine step_val (.int .i64 S3) WX (by rfl) (by have e9 := HS5.out.c3; go_simp) ?_
          simp only [Act.put, List.setIfInBounds_toArray, List.set_cons_zero, List.set_cons_succ]
          refine hK.out _ _ hH (fun hH' => ?_)
          clear hK K hH' 
          refine wpAnyH_take (i := 51) (oi := { dst := some 72, op := Op.binOp BinOp.add 3 (Operand.tmp 61) (Operand.tmp 71) 3, type := 3, pos := "l16_texture.go:200", after := #[{ on := 40, ground := Ground.data }, { on := 50, ground := Ground.data }], guard := none }) (v := .int .i64 N3) rfl (by kernel_rfl) (by kernel_rfl) (by kernel_rfl) (fun _ _ _ h => h) (Or.inl ⟨by rfl, fun w0 hSw => by (go_simp)⟩) hH ?_
          simp only [Act.put, List.setIfInBounds_toArray, List.set_cons_zero, List.set_cons_succ]
          refine wpAnyH_ready (rs := [27]) (by kernel_rfl) (by simp) ?_
          refine (AllReadyH.cons (o := { dst := some 48, op := Op.load 3 (Operand.tmp 47), type := 3, pos := "l16_texture.go:200", after := #[{ on := 26, ground := Ground.data }], guard := none }) rfl (fun K hK => ?_) AllReadyH.nil)
          refine step_val (.int .i64 S2) WX (by rfl) (by have e9 := HS5.out.c2; go_simp) ?_
          simp only [Act.put, List.setIfInBounds_toArray, List.set_cons_zero, List.set_cons_succ]
          refine hK.out _ _ hH (fun hH' => ?_)
          clear hK K hH' 
          refine wpAnyH_take (i := 38) (oi := { dst := some 59, op := Op.binOp BinOp.add 3 (Operand.tmp 48) (Operand.tmp 58) 3, type := 3, pos := "l16_texture.go:200", after := #[{ on := 27, ground := Ground.data }, { on := 37, ground := Ground.data }], guard := none }) (v := .int .i64 N2) rfl (by kernel_rfl) (by kernel_rfl) (by kernel_rfl) (fun _ _ _ h => h) (Or.inl ⟨by rfl, fun w0 hSw => by (go_simp)⟩) hH ?_
          simp only [Act.put, List.setIfInBounds_toArray, List.set_cons_zero, List.set_cons_succ]
          refine wpAnyH_take (i := 52) (oi := { dst := some 73, op := Op.build 25 #[(0, Operand.tmp 33), (1, Operand.tmp 46), (2, Operand.tmp 59), (3, Operand.tmp 72)], type := 25, pos := "l16_texture.go:200", after := #[{ on := 12, ground := Ground.data }, { on := 25, ground := Ground.data }, { on := 38, ground := Ground.data }, { on := 51, ground := Ground.data }], guard := none }) (v := .agg #[.int .i64 N0, .int .i64 N1, .int .i64 N2, .int .i64 N3]) rfl (by kernel_rfl) (by kernel_rfl) (by kernel_rfl) (fun _ _ _ h => h) (Or.inl ⟨by rfl, fun w0 hSw => by (go_simp)⟩) hH ?_
          simp only [Act.put, List.setIfInBounds_toArray, List.set_cons_zero, List.set_cons_succ]
          refine wpAnyH_ready (rs := [53]) (by kernel_rfl) (by simp) ?_
          refine (AllReadyH.cons (o := { dst := none, op := Op.store 25 (Operand.tmp 9) (Operand.tmp 73), type := 0, pos := "l16_texture.go:200", after := #[{ on := 52, ground := Ground.data }, { on := 0, ground := Ground.phase }, { on := 1, ground := Ground.phase }, { on := 2, ground := Ground.phase }, { on := 3, ground := Ground.phase }, { on := 4, ground := Ground.phase }, { on := 5, ground := Ground.phase }, { on := 6, ground := Ground.phase }, { on := 7, ground := Ground.phase }, { on := 8, ground := Ground.phase }, { on := 9, ground := Ground.phase }, { on := 10, ground := Ground.phase }, { on := 11, ground := Ground.phase }, { on := 12, ground := Ground.phase }, { on := 13, ground := Ground.phase }, { on := 14, ground := Ground.phase }, { on := 15, ground := Ground.phase }, { on := 16, ground := Ground.phase }, { on := 17, ground := Ground.phase }, { on := 18, ground := Ground.phase }, { on := 19, ground := Ground.phase }, { on := 20, ground := Ground.phase }, { on := 21, ground := Ground.phase }, { on := 22, ground := Ground.phase }, { on := 23, ground := Ground.phase }, { on := 24, ground := Ground.phase }, { on := 25, ground := Ground.phase }, { on := 26, ground := Ground.phase }, { on := 27, ground := Ground.phase }, { on := 28, ground := Ground.phase }, { on := 29, ground := Ground.phase }, { on := 30, ground := Ground.phase }, { on := 31, ground := Ground.phase }, { on := 32, ground := Ground.phase }, { on := 33, ground := Ground.phase }, { on := 34, ground := Ground.phase }, { on := 35, ground := Ground.phase }, { on := 36, ground := Ground.phase }, { on := 37, ground := Ground.phase }, { on := 38, ground := Ground.phase }, { on := 39, ground := Ground.phase }, { on := 40, ground := Ground.phase }, { on := 41, ground := Ground.phase }, { on := 42, ground := Ground.phase }, { on := 43, ground := Ground.phase }, { on := 44, ground := Ground.phase }, { on := 45, ground := Ground.phase }, { on := 46, ground := Ground.phase }, { on := 47, ground := Ground.phase }, { on := 48, ground := Ground.phase }, { on := 49, ground := Ground.phase }, { on := 50, ground := Ground.phase }, { on := 51, ground := Ground.phase }, { on := 52, ground := Ground.phase }], guard := none }) rfl (fun K hK => ?_) AllReadyH.nil)
          refine step_skip V9 (by rfl) (by (have f0 := HS5.out.c0); (have f1 := HS5.out.c1); (have f2 := HS5.out.c2); (have f3 := HS5.out.c3); (have f4 := HS5.out.f); rw [← HV9.out]; unfold set4; go_simp) ?_
          simp only [Act.put]
          refine hK.out _ _ HSN.out (fun hH' => ?_)
          clear hK K hH hH' 
          refine wpAnyH_done (by kernel_rfl) ?_ _
          clear HS5 HSN HV9
          go_wp2
          go_roundw
          case rel => exact ⟨k + 1, by omega, by go_num, HMN, RN, BN⟩
          case measure => simp [intOf]; omega
      · refine step_val (.int .i64 S2) WX (by rfl) (by have e9 := HS5.out.c2; go_simp) ?_
        simp only [Act.put, List.setIfInBounds_toArray, List.set_cons_zero, List.set_cons_succ]
        refine hK.out _ _ hH (fun hH' => ?_)
        clear hK K hH' 
        refine wpAnyH_take (i := 38) (oi := { dst := some 59, op := Op.binOp BinOp.add 3 (Operand.tmp 48) (Operand.tmp 58) 3, type := 3, pos := "l16_texture.go:200", after := #[{ on := 27, ground := Ground.data }, { on := 37, ground := Ground.data }], guard := none }) (v := .int .i64 N2) rfl (by kernel_rfl) (by kernel_rfl) (by kernel_rfl) (fun _ _ _ h => h) (Or.inl ⟨by rfl, fun w0 hSw => by (go_simp)⟩) hH ?_
        simp only [Act.put, List.setIfInBounds_toArray, List.set_cons_zero, List.set_cons_succ]
        refine wpAnyH_ready (rs := [1, 40]) (by kernel_rfl) (by simp) ?_
        refine (AllReadyH.cons (o := { dst := some 22, op := Op.load 3 (Operand.tmp 21), type := 3, pos := "l16_texture.go:200", after := #[{ on := 0, ground := Ground.data }], guard := none }) rfl (fun K hK => ?_) (AllReadyH.cons (o := { dst := some 61, op := Op.load 3 (Operand.tmp 60), type := 3, pos := "l16_texture.go:200", after := #[{ on := 39, ground := Ground.data }], guard := none }) rfl (fun K hK => ?_) AllReadyH.nil))
        · refine step_val (.int .i64 S0) WX (by rfl) (by have e9 := HS5.out.c0; go_simp) ?_
          simp only [Act.put, List.setIfInBounds_toArray, List.set_cons_zero, List.set_cons_succ]
          refine hK.out _ _ hH (fun hH' => ?_)
          clear hK K hH' 
          refine wpAnyH_take (i := 12) (oi := { dst := some 33, op := Op.binOp BinOp.add 3 (Operand.tmp 22) (Operand.tmp 32) 3, type := 3, pos := "l16_texture.go:200", after := #[{ on := 1, ground := Ground.data }, { on := 11, ground := Ground.data }], guard := none }) (v := .int .i64 N0) rfl (by kernel_rfl) (by kernel_rfl) (by kernel_rfl) (fun _ _ _ h => h) (Or.inl ⟨by rfl, fun w0 hSw => by (go_simp)⟩) hH ?_
          simp only [Act.put, List.setIfInBounds_toArray, List.set_cons_zero, List.set_cons_succ]
          refine wpAnyH_ready (rs := [40]) (by kernel_rfl) (by simp) ?_
          refine (AllReadyH.cons (o := { dst := some 61, op := Op.load 3 (Operand.tmp 60), type := 3, pos := "l16_texture.go:200", after := #[{ on := 39, ground := Ground.data }], guard := none }) rfl (fun K hK => ?_) AllReadyH.nil)
          refine step_val (.int .i64 S3) WX (by rfl) (by have e9 := HS5.out.c3; go_simp) ?_
          simp only [Act.put, List.setIfInBounds_toArray, List.set_cons_zero, List.set_cons_succ]
          refine hK.out _ _ hH (fun hH' => ?_)
          clear hK K hH' 
          refine wpAnyH_take (i := 51) (oi := { dst := some 72, op := Op.binOp BinOp.add 3 (Operand.tmp 61) (Operand.tmp 71) 3, type := 3, pos := "l16_texture.go:200", after := #[{ on := 40, ground := Ground.data }, { on := 50, ground := Ground.data }], guard := none }) (v := .int .i64 N3) rfl (by kernel_rfl) (by kernel_rfl) (by kernel_rfl) (fun _ _ _ h => h) (Or.inl ⟨by rfl, fun w0 hSw => by (go_simp)⟩) hH ?_
          simp only [Act.put, List.setIfInBounds_toArray, List.set_cons_zero, List.set_cons_succ]
          refine wpAnyH_take (i := 52) (oi := { dst := some 73, op := Op.build 25 #[(0, Operand.tmp 33), (1, Operand.tmp 46), (2, Operand.tmp 59), (3, Operand.tmp 72)], type := 25, pos := "l16_texture.go:200", after := #[{ on := 12, ground := Ground.data }, { on := 25, ground := Ground.data }, { on := 38, ground := Ground.data }, { on := 51, ground := Ground.data }], guard := none }) (v := .agg #[.int .i64 N0, .int .i64 N1, .int .i64 N2, .int .i64 N3]) rfl (by kernel_rfl) (by kernel_rfl) (by kernel_rfl) (fun _ _ _ h => h) (Or.inl ⟨by rfl, fun w0 hSw => by (go_simp)⟩) hH ?_
          simp only [Act.put, List.setIfInBounds_toArray, List.set_cons_zero, List.set_cons_succ]
          refine wpAnyH_ready (rs := [53]) (by kernel_rfl) (by simp) ?_
          refine (AllReadyH.cons (o := { dst := none, op := Op.store 25 (Operand.tmp 9) (Operand.tmp 73), type := 0, pos := "l16_texture.go:200", after := #[{ on := 52, ground := Ground.data }, { on := 0, ground := Ground.phase }, { on := 1, ground := Ground.phase }, { on := 2, ground := Ground.phase }, { on := 3, ground := Ground.phase }, { on := 4, ground := Ground.phase }, { on := 5, ground := Ground.phase }, { on := 6, ground := Ground.phase }, { on := 7, ground := Ground.phase }, { on := 8, ground := Ground.phase }, { on := 9, ground := Ground.phase }, { on := 10, ground := Ground.phase }, { on := 11, ground := Ground.phase }, { on := 12, ground := Ground.phase }, { on := 13, ground := Ground.phase }, { on := 14, ground := Ground.phase }, { on := 15, ground := Ground.phase }, { on := 16, ground := Ground.phase }, { on := 17, ground := Ground.phase }, { on := 18, ground := Ground.phase }, { on := 19, ground := Ground.phase }, { on := 20, ground := Ground.phase }, { on := 21, ground := Ground.phase }, { on := 22, ground := Ground.phase }, { on := 23, ground := Ground.phase }, { on := 24, ground := Ground.phase }, { on := 25, ground := Ground.phase }, { on := 26, ground := Ground.phase }, { on := 27, ground := Ground.phase }, { on := 28, ground := Ground.phase }, { on := 29, ground := Ground.phase }, { on := 30, ground := Ground.phase }, { on := 31, ground := Ground.phase }, { on := 32, ground := Ground.phase }, { on := 33, ground := Ground.phase }, { on := 34, ground := Ground.phase }, { on := 35, ground := Ground.phase }, { on := 36, ground := Ground.phase }, { on := 37, ground := Ground.phase }, { on := 38, ground := Ground.phase }, { on := 39, ground := Ground.phase }, { on := 40, ground := Ground.phase }, { on := 41, ground := Ground.phase }, { on := 42, ground := Ground.phase }, { on := 43, ground := Ground.phase }, { on := 44, ground := Ground.phase }, { on := 45, ground := Ground.phase }, { on := 46, ground := Ground.phase }, { on := 47, ground := Ground.phase }, { on := 48, ground := Ground.phase }, { on := 49, ground := Ground.phase }, { on := 50, ground := Ground.phase }, { on := 51, ground := Ground.phase }, { on := 52, ground := Ground.phase }], guard := none }) rfl (fun K hK => ?_) AllReadyH.nil)
          refine step_skip V9 (by rfl) (by (have f0 := HS5.out.c0); (have f1 := HS5.out.c1); (have f2 := HS5.out.c2); (have f3 := HS5.out.c3); (have f4 := HS5.out.f); rw [← HV9.out]; unfold set4; go_simp) ?_
          simp only [Act.put]
          refine hK.out _ _ HSN.out (fun hH' => ?_)
          clear hK K hH hH' 
          refine wpAnyH_done (by kernel_rfl) ?_ _
          clear HS5 HSN HV9
          go_wp2
          go_roundw
          case rel => exact ⟨k + 1, by omega, by go_num, HMN, RN, BN⟩
          case measure => simp [intOf]; omega
        · refine step_val (.int .i64 S3) WX (by rfl) (by have e9 := HS5.out.c3; go_simp) ?_
          simp only [Act.put, List.setIfInBounds_toArray, List.set_cons_zero, List.set_cons_succ]
          refine hK.out _ _ hH (fun hH' => ?_)
          clear hK K hH' 
          refine wpAnyH_take (i := 51) (oi := { dst := some 72, op := Op.binOp BinOp.add 3 (Operand.tmp 61) (Operand.tmp 71) 3, type := 3, pos := "l16_texture.go:200", after := #[{ on := 40, ground := Ground.data }, { on := 50, ground := Ground.data }], guard := none }) (v := .int .i64 N3) rfl (by kernel_rfl) (by kernel_rfl) (by kernel_rfl) (fun _ _ _ h => h) (Or.inl ⟨by rfl, fun w0 hSw => by (go_simp)⟩) hH ?_
          simp only [Act.put, List.setIfInBounds_toArray, List.set_cons_zero, List.set_cons_succ]
          refine wpAnyH_ready (rs := [1]) (by kernel_rfl) (by simp) ?_
          refine (AllReadyH.cons (o := { dst := some 22, op := Op.load 3 (Operand.tmp 21), type := 3, pos := "l16_texture.go:200", after := #[{ on := 0, ground := Ground.data }], guard := none }) rfl (fun K hK => ?_) AllReadyH.nil)
          refine step_val (.int .i64 S0) WX (by rfl) (by have e9 := HS5.out.c0; go_simp) ?_
          simp only [Act.put, List.setIfInBounds_toArray, List.set_cons_zero, List.set_cons_succ]
          refine hK.out _ _ hH (fun hH' => ?_)
          clear hK K hH' 
          refine wpAnyH_take (i := 12) (oi := { dst := some 33, op := Op.binOp BinOp.add 3 (Operand.tmp 22) (Operand.tmp 32) 3, type := 3, pos := "l16_texture.go:200", after := #[{ on := 1, ground := Ground.data }, { on := 11, ground := Ground.data }], guard := none }) (v := .int .i64 N0) rfl (by kernel_rfl) (by kernel_rfl) (by kernel_rfl) (fun _ _ _ h => h) (Or.inl ⟨by rfl, fun w0 hSw => by (go_simp)⟩) hH ?_
          simp only [Act.put, List.setIfInBounds_toArray, List.set_cons_zero, List.set_cons_succ]
          refine wpAnyH_take (i := 52) (oi := { dst := some 73, op := Op.build 25 #[(0, Operand.tmp 33), (1, Operand.tmp 46), (2, Operand.tmp 59), (3, Operand.tmp 72)], type := 25, pos := "l16_texture.go:200", after := #[{ on := 12, ground := Ground.data }, { on := 25, ground := Ground.data }, { on := 38, ground := Ground.data }, { on := 51, ground := Ground.data }], guard := none }) (v := .agg #[.int .i64 N0, .int .i64 N1, .int .i64 N2, .int .i64 N3]) rfl (by kernel_rfl) (by kernel_rfl) (by kernel_rfl) (fun _ _ _ h => h) (Or.inl ⟨by rfl, fun w0 hSw => by (go_simp)⟩) hH ?_
          simp only [Act.put, List.setIfInBounds_toArray, List.set_cons_zero, List.set_cons_succ]
          refine wpAnyH_ready (rs := [53]) (by kernel_rfl) (by simp) ?_
          refine (AllReadyH.cons (o := { dst := none, op := Op.store 25 (Operand.tmp 9) (Operand.tmp 73), type := 0, pos := "l16_texture.go:200", after := #[{ on := 52, ground := Ground.data }, { on := 0, ground := Ground.phase }, { on := 1, ground := Ground.phase }, { on := 2, ground := Ground.phase }, { on := 3, ground := Ground.phase }, { on := 4, ground := Ground.phase }, { on := 5, ground := Ground.phase }, { on := 6, ground := Ground.phase }, { on := 7, ground := Ground.phase }, { on := 8, ground := Ground.phase }, { on := 9, ground := Ground.phase }, { on := 10, ground := Ground.phase }, { on := 11, ground := Ground.phase }, { on := 12, ground := Ground.phase }, { on := 13, ground := Ground.phase }, { on := 14, ground := Ground.phase }, { on := 15, ground := Ground.phase }, { on := 16, ground := Ground.phase }, { on := 17, ground := Ground.phase }, { on := 18, ground := Ground.phase }, { on := 19, ground := Ground.phase }, { on := 20, ground := Ground.phase }, { on := 21, ground := Ground.phase }, { on := 22, ground := Ground.phase }, { on := 23, ground := Ground.phase }, { on := 24, ground := Ground.phase }, { on := 25, ground := Ground.phase }, { on := 26, ground := Ground.phase }, { on := 27, ground := Ground.phase }, { on := 28, ground := Ground.phase }, { on := 29, ground := Ground.phase }, { on := 30, ground := Ground.phase }, { on := 31, ground := Ground.phase }, { on := 32, ground := Ground.phase }, { on := 33, ground := Ground.phase }, { on := 34, ground := Ground.phase }, { on := 35, ground := Ground.phase }, { on := 36, ground := Ground.phase }, { on := 37, ground := Ground.phase }, { on := 38, ground := Ground.phase }, { on := 39, ground := Ground.phase }, { on := 40, ground := Ground.phase }, { on := 41, ground := Ground.phase }, { on := 42, ground := Ground.phase }, { on := 43, ground := Ground.phase }, { on := 44, ground := Ground.phase }, { on := 45, ground := Ground.phase }, { on := 46, ground := Ground.phase }, { on := 47, ground := Ground.phase }, { on := 48, ground := Ground.phase }, { on := 49, ground := Ground.phase }, { on := 50, ground := Ground.phase }, { on := 51, ground := Ground.phase }, { on := 52, ground := Ground.phase }], guard := none }) rfl (fun K hK => ?_) AllReadyH.nil)
          refine step_skip V9 (by rfl) (by (have f0 := HS5.out.c0); (have f1 := HS5.out.c1); (have f2 := HS5.out.c2); (have f3 := HS5.out.c3); (have f4 := HS5.out.f); rw [← HV9.out]; unfold set4; go_simp) ?_
          simp only [Act.put]
          refine hK.out _ _ HSN.out (fun hH' => ?_)
          clear hK K hH hH' 
          refine wpAnyH_done (by kernel_rfl) ?_ _
          clear HS5 HSN HV9
          go_wp2
          go_roundw
          case rel => exact ⟨k + 1, by omega, by go_num, HMN, RN, BN⟩
          case measure => simp [intOf]; omega
      · refine step_val (.int .i64 S3) WX (by rfl) (by have e9 := HS5.out.c3; go_simp) ?_
        simp only [Act.put, List.setIfInBounds_toArray, List.set_cons_zero, List.set_cons_succ]
        refine hK.out _ _ hH (fun hH' => ?_)
        clear hK K hH' 
        refine wpAnyH_take (i := 51) (oi := { dst := some 72, op := Op.binOp BinOp.add 3 (Operand.tmp 61) (Operand.tmp 71) 3, type := 3, pos := "l16_texture.go:200", after := #[{ on := 40, ground := Ground.data }, { on := 50, ground := Ground.data }], guard := none }) (v := .int .i64 N3) rfl (by kernel_rfl) (by kernel_rfl) (by kernel_rfl) (fun _ _ _ h => h) (Or.inl ⟨by rfl, fun w0 hSw => by (go_simp)⟩) hH ?_
        simp only [Act.put, List.setIfInBounds_toArray, List.set_cons_zero, List.set_cons_succ]
        refine wpAnyH_ready (rs := [1, 27]) (by kernel_rfl) (by simp) ?_
        refine (AllReadyH.cons (o := { dst := some 22, op := Op.load 3 (Operand.tmp 21), type := 3, pos := "l16_texture.go:200", after := #[{ on := 0, ground := Ground.data }], guard := none }) rfl (fun K hK => ?_) (AllReadyH.cons (o := { dst := some 48, op := Op.load 3 (Operand.tmp 47), type := 3, pos := "l16_texture.go:200", after := #[{ on := 26, ground := Ground.data }], guard := none }) rfl (fun K hK => ?_) AllReadyH.nil))
        · refine step_val (.int .i64 S0) WX (by rfl) (by have e9 := HS5.out.c0; go_simp) ?_
          simp only [Act.put, List.setIfInBounds_toArray, List.set_cons_zero, List.set_cons_succ]
          refine hK.out _ _ hH (fun hH' => ?_)
          clear hK K hH' 
          refine wpAnyH_take (i := 12) (oi := { dst := some 33, op := Op.binOp BinOp.add 3 (Operand.tmp 22) (Operand.tmp 32) 3, type := 3, pos := "l16_texture.go:200", after := #[{ on := 1, ground := Ground.data }, { on := 11, ground := Ground.data }], guard := none }) (v := .int .i64 N0) rfl (by kernel_rfl) (by kernel_rfl) (by kernel_rfl) (fun _ _ _ h => h) (Or.inl ⟨by rfl, fun w0 hSw => by (go_simp)⟩) hH ?_
          simp only [Act.put, List.setIfInBounds_toArray, List.set_cons_zero, List.set_cons_succ]
          refine wpAnyH_ready (rs := [27]) (by kernel_rfl) (by simp) ?_
          refine (AllReadyH.cons (o := { dst := some 48, op := Op.load 3 (Operand.tmp 47), type := 3, pos := "l16_texture.go:200", after := #[{ on := 26, ground := Ground.data }], guard := none }) rfl (fun K hK => ?_) AllReadyH.nil)
          refine step_val (.int .i64 S2) WX (by rfl) (by have e9 := HS5.out.c2; go_simp) ?_
          simp only [Act.put, List.setIfInBounds_toArray, List.set_cons_zero, List.set_cons_succ]
          refine hK.out _ _ hH (fun hH' => ?_)
          clear hK K hH' 
          refine wpAnyH_take (i := 38) (oi := { dst := some 59, op := Op.binOp BinOp.add 3 (Operand.tmp 48) (Operand.tmp 58) 3, type := 3, pos := "l16_texture.go:200", after := #[{ on := 27, ground := Ground.data }, { on := 37, ground := Ground.data }], guard := none }) (v := .int .i64 N2) rfl (by kernel_rfl) (by kernel_rfl) (by kernel_rfl) (fun _ _ _ h => h) (Or.inl ⟨by rfl, fun w0 hSw => by (go_simp)⟩) hH ?_
          simp only [Act.put, List.setIfInBounds_toArray, List.set_cons_zero, List.set_cons_succ]
          refine wpAnyH_take (i := 52) (oi := { dst := some 73, op := Op.build 25 #[(0, Operand.tmp 33), (1, Operand.tmp 46), (2, Operand.tmp 59), (3, Operand.tmp 72)], type := 25, pos := "l16_texture.go:200", after := #[{ on := 12, ground := Ground.data }, { on := 25, ground := Ground.data }, { on := 38, ground := Ground.data }, { on := 51, ground := Ground.data }], guard := none }) (v := .agg #[.int .i64 N0, .int .i64 N1, .int .i64 N2, .int .i64 N3]) rfl (by kernel_rfl) (by kernel_rfl) (by kernel_rfl) (fun _ _ _ h => h) (Or.inl ⟨by rfl, fun w0 hSw => by (go_simp)⟩) hH ?_
          simp only [Act.put, List.setIfInBounds_toArray, List.set_cons_zero, List.set_cons_succ]
          refine wpAnyH_ready (rs := [53]) (by kernel_rfl) (by simp) ?_
          refine (AllReadyH.cons (o := { dst := none, op := Op.store 25 (Operand.tmp 9) (Operand.tmp 73), type := 0, pos := "l16_texture.go:200", after := #[{ on := 52, ground := Ground.data }, { on := 0, ground := Ground.phase }, { on := 1, ground := Ground.phase }, { on := 2, ground := Ground.phase }, { on := 3, ground := Ground.phase }, { on := 4, ground := Ground.phase }, { on := 5, ground := Ground.phase }, { on := 6, ground := Ground.phase }, { on := 7, ground := Ground.phase }, { on := 8, ground := Ground.phase }, { on := 9, ground := Ground.phase }, { on := 10, ground := Ground.phase }, { on := 11, ground := Ground.phase }, { on := 12, ground := Ground.phase }, { on := 13, ground := Ground.phase }, { on := 14, ground := Ground.phase }, { on := 15, ground := Ground.phase }, { on := 16, ground := Ground.phase }, { on := 17, ground := Ground.phase }, { on := 18, ground := Ground.phase }, { on := 19, ground := Ground.phase }, { on := 20, ground := Ground.phase }, { on := 21, ground := Ground.phase }, { on := 22, ground := Ground.phase }, { on := 23, ground := Ground.phase }, { on := 24, ground := Ground.phase }, { on := 25, ground := Ground.phase }, { on := 26, ground := Ground.phase }, { on := 27, ground := Ground.phase }, { on := 28, ground := Ground.phase }, { on := 29, ground := Ground.phase }, { on := 30, ground := Ground.phase }, { on := 31, ground := Ground.phase }, { on := 32, ground := Ground.phase }, { on := 33, ground := Ground.phase }, { on := 34, ground := Ground.phase }, { on := 35, ground := Ground.phase }, { on := 36, ground := Ground.phase }, { on := 37, ground := Ground.phase }, { on := 38, ground := Ground.phase }, { on := 39, ground := Ground.phase }, { on := 40, ground := Ground.phase }, { on := 41, ground := Ground.phase }, { on := 42, ground := Ground.phase }, { on := 43, ground := Ground.phase }, { on := 44, ground := Ground.phase }, { on := 45, ground := Ground.phase }, { on := 46, ground := Ground.phase }, { on := 47, ground := Ground.phase }, { on := 48, ground := Ground.phase }, { on := 49, ground := Ground.phase }, { on := 50, ground := Ground.phase }, { on := 51, ground := Ground.phase }, { on := 52, ground := Ground.phase }], guard := none }) rfl (fun K hK => ?_) AllReadyH.nil)
          refine step_skip V9 (by rfl) (by (have f0 := HS5.out.c0); (have f1 := HS5.out.c1); (have f2 := HS5.out.c2); (have f3 := HS5.out.c3); (have f4 := HS5.out.f); rw [← HV9.out]; unfold set4; go_simp) ?_
          simp only [Act.put]
          refine hK.out _ _ HSN.out (fun hH' => ?_)
          clear hK K hH hH' 
          refine wpAnyH_done (by kernel_rfl) ?_ _
          clear HS5 HSN HV9
          go_wp2
          go_roundw
          case rel => exact ⟨k + 1, by omega, by go_num, HMN, RN, BN⟩
          case measure => simp [intOf]; omega
        · refine step_val (.int .i64 S2) WX (by rfl) (by have e9 := HS5.out.c2; go_simp) ?_
          simp only [Act.put, List.setIfInBounds_toArray, List.set_cons_zero, List.set_cons_succ]
          refine hK.out _ _ hH (fun hH' => ?_)
          clear hK K hH' 
          refine wpAnyH_take (i := 38) (oi := { dst := some 59, op := Op.binOp BinOp.add 3 (Operand.tmp 48) (Operand.tmp 58) 3, type := 3, pos := "l16_texture.go:200", after := #[{ on := 27, ground := Ground.data }, { on := 37, ground := Ground.data }], guard := none }) (v := .int .i64 N2) rfl (by kernel_rfl) (by kernel_rfl) (by kernel_rfl) (fun _ _ _ h => h) (Or.inl ⟨by rfl, fun w0 hSw => by (go_simp)⟩) hH ?_
          simp only [Act.put, List.setIfInBounds_toArray, List.set_cons_zero, List.set_cons_succ]
          refine wpAnyH_ready (rs := [1]) (by kernel_rfl) (by simp) ?_
          refine (AllReadyH.cons (o := { dst := some 22, op := Op.load 3 (Operand.tmp 21), type := 3, pos := "l16_texture.go:200", after := #[{ on := 0, ground := Ground.data }], guard := none }) rfl (fun K hK => ?_) AllReadyH.nil)
          refine step_val (.int .i64 S0) WX (by rfl) (by have e9 := HS5.out.c0; go_simp) ?_
          simp only [Act.put, List.setIfInBounds_toArray, List.set_cons_zero, List.set_cons_succ]
          refine hK.out _ _ hH (fun hH' => ?_)
          clear hK K hH' 
          refine wpAnyH_take (i := 12) (oi := { dst := some 33, op := Op.binOp BinOp.add 3 (Operand.tmp 22) (Operand.tmp 32) 3, type := 3, pos := "l16_texture.go:200", after := #[{ on := 1, ground := Ground.data }, { on := 11, ground := Ground.data }], guard := none }) (v := .int .i64 N0) rfl (by kernel_rfl) (by kernel_rfl) (by kernel_rfl) (fun _ _ _ h => h) (Or.inl ⟨by rfl, fun w0 hSw => by (go_simp)⟩) hH ?_
          simp only [Act.put, List.setIfInBounds_toArray, List.set_cons_zero, List.set_cons_succ]
          refine wpAnyH_take (i := 52) (oi := { dst := some 73, op := Op.build 25 #[(0, Operand.tmp 33), (1, Operand.tmp 46), (2, Operand.tmp 59), (3, Operand.tmp 72)], type := 25, pos := "l16_texture.go:200", after := #[{ on := 12, ground := Ground.data }, { on := 25, ground := Ground.data }, { on := 38, ground := Ground.data }, { on := 51, ground := Ground.data }], guard := none }) (v := .agg #[.int .i64 N0, .int .i64 N1, .int .i64 N2, .int .i64 N3]) rfl (by kernel_rfl) (by kernel_rfl) (by kernel_rfl) (fun _ _ _ h => h) (Or.inl ⟨by rfl, fun w0 hSw => by (go_simp)⟩) hH ?_
          simp only [Act.put, List.setIfInBounds_toArray, List.set_cons_zero, List.set_cons_succ]
          refine wpAnyH_ready (rs := [53]) (by kernel_rfl) (by simp) ?_
          refine (AllReadyH.cons (o := { dst := none, op := Op.store 25 (Operand.tmp 9) (Operand.tmp 73), type := 0, pos := "l16_texture.go:200", after := #[{ on := 52, ground := Ground.data }, { on := 0, ground := Ground.phase }, { on := 1, ground := Ground.phase }, { on := 2, ground := Ground.phase }, { on := 3, ground := Ground.phase }, { on := 4, ground := Ground.phase }, { on := 5, ground := Ground.phase }, { on := 6, ground := Ground.phase }, { on := 7, ground := Ground.phase }, { on := 8, ground := Ground.phase }, { on := 9, ground := Ground.phase }, { on := 10, ground := Ground.phase }, { on := 11, ground := Ground.phase }, { on := 12, ground := Ground.phase }, { on := 13, ground := Ground.phase }, { on := 14, ground := Ground.phase }, { on := 15, ground := Ground.phase }, { on := 16, ground := Ground.phase }, { on := 17, ground := Ground.phase }, { on := 18, ground := Ground.phase }, { on := 19, ground := Ground.phase }, { on := 20, ground := Ground.phase }, { on := 21, ground := Ground.phase }, { on := 22, ground := Ground.phase }, { on := 23, ground := Ground.phase }, { on := 24, ground := Ground.phase }, { on := 25, ground := Ground.phase }, { on := 26, ground := Ground.phase }, { on := 27, ground := Ground.phase }, { on := 28, ground := Ground.phase }, { on := 29, ground := Ground.phase }, { on := 30, ground := Ground.phase }, { on := 31, ground := Ground.phase }, { on := 32, ground := Ground.phase }, { on := 33, ground := Ground.phase }, { on := 34, ground := Ground.phase }, { on := 35, ground := Ground.phase }, { on := 36, ground := Ground.phase }, { on := 37, ground := Ground.phase }, { on := 38, ground := Ground.phase }, { on := 39, ground := Ground.phase }, { on := 40, ground := Ground.phase }, { on := 41, ground := Ground.phase }, { on := 42, ground := Ground.phase }, { on := 43, ground := Ground.phase }, { on := 44, ground := Ground.phase }, { on := 45, ground := Ground.phase }, { on := 46, ground := Ground.phase }, { on := 47, ground := Ground.phase }, { on := 48, ground := Ground.phase }, { on := 49, ground := Ground.phase }, { on := 50, ground := Ground.phase }, { on := 51, ground := Ground.phase }, { on := 52, ground := Ground.phase }], guard := none }) rfl (fun K hK => ?_) AllReadyH.nil)
          refine step_skip V9 (by rfl) (by (have f0 := HS5.out.c0); (have f1 := HS5.out.c1); (have f2 := HS5.out.c2); (have f3 := HS5.out.c3); (have f4 := HS5.out.f); rw [← HV9.out]; unfold set4; go_simp) ?_
          simp only [Act.put]
          refine hK.out _ _ HSN.out (fun hH' => ?_)
          clear hK K hH hH' 
          refine wpAnyH_done (by kernel_rfl) ?_ _
          clear HS5 HSN HV9
          go_wp2
          go_roundw
          case rel => exact ⟨k + 1, by omega, by go_num, HMN, RN, BN⟩
          case measure => simp [intOf]; omega
    · refine step_val (.int .i64 S2) WX (by rfl) (by have e9 := HS5.out.c2; go_simp) ?_
      simp only [Act.put, List.setIfInBounds_toArray, List.set_cons_zero, List.set_cons_succ]
      refine hK.out _ _ hH (fun hH' => ?_)
      clear hK K hH' 
      refine wpAnyH_take (i := 38) (oi := { dst := some 59, op := Op.binOp BinOp.add 3 (Operand.tmp 48) (Operand.tmp 58) 3, type := 3, pos := "l16_texture.go:200", after := #[{ on := 27, ground := Ground.data }, { on := 37, ground := Ground.data }], guard := none }) (v := .int .i64 N2) rfl (by kernel_rfl) (by kernel_rfl) (by kernel_rfl) (fun _ _ _ h => h) (Or.inl ⟨by rfl, fun w0 hSw => by (go_simp)⟩) hH ?_
      simp only [Act.put, List.setIfInBounds_toArray, List.set_cons_zero, List.set_cons_succ]
      refine wpAnyH_ready (rs := [1, 14, 40]) (by kernel_rfl) (by simp) ?_
      refine (AllReadyH.cons (o := { dst := some 22, op := Op.load 3 (Operand.tmp 21), type := 3, pos := "l16_texture.go:200", after := #[{ on := 0, ground := Ground.data }], guard := none }) rfl (fun K hK => ?_) (AllReadyH.cons (o := { dst := some 35, op := Op.load 3 (Operand.tmp 34), type := 3, pos := "l16_texture.go:200", after := #[{ on := 13, ground := Ground.data }], guard := none }) rfl (fun K hK => ?_) (AllReadyH.cons (o := { dst := some 61, op := Op.load 3 (Operand.tmp 60), type := 3, pos := "l16_texture.go:200", after := #[{ on := 39, ground := Ground.data }], guard := none }) rfl (fun K hK => ?_) AllReadyH.nil)))
      · refine step_val (.int .i64 S0) WX (by rfl) (by have e9 := HS5.out.c0; go_simp) ?_
        simp only [Act.put, List.setIfInBounds_toArray, List.set_cons_zero, List.set_cons_succ]
        refine hK.out _ _ hH (fun hH' => ?_)
        clear hK K hH' 
        refine wpAnyH_take (i := 12) (oi := { dst := some 33, op := Op.binOp BinOp.add 3 (Operand.tmp 22) (Operand.tmp 32) 3, type := 3, pos := "l16_texture.go:200", after := #[{ on := 1, ground := Ground.data }, { on := 11, ground := Ground.data }], guard := none }) (v := .int .i64 N0) rfl (by kernel_rfl) (by kernel_rfl) (by kernel_rfl) (fun _ _ _ h => h) (Or.inl ⟨by rfl, fun w0 hSw => by (go_simp)⟩) hH ?_
        simp only [Act.put, List.setIfInBounds_toArray, List.set_cons_zero, List.set_cons_succ]
        refine wpAnyH_ready (rs := [14, 40]) (by kernel_rfl) (by simp) ?_
        refine (AllReadyH.cons (o := { dst := some 35, op := Op.load 3 (Operand.tmp 34), type := 3, pos := "l16_texture.go:200", after := #[{ on := 13, ground := Ground.data }], guard := none }) rfl (fun K hK => ?_) (AllReadyH.cons (o := { dst := some 61, op := Op.load 3 (Operand.tmp 60), type := 3, pos := "l16_texture.go:200", after := #[{ on := 39, ground := Ground.data }], guard := none }) rfl (fun K hK => ?_) AllReadyH.nil))
        · refine step_val (.int .i64 S1) WX (by rfl) (by have e9 := HS5.out.c1; go_simp) ?_
          simp only [Act.put, List.setIfInBounds_toArray, List.set_cons_zero, List.set_cons_succ]
          refine hK.out _ _ hH (fun hH' => ?_)
          clear hK K hH' 
          refine wpAnyH_take (i := 25) (oi := { dst := some 46, op := Op.binOp BinOp.add 3 (Operand.tmp 35) (Operand.tmp 45) 3, type := 3, pos := "l16_texture.go:200", after := #[{ on := 14, ground := Ground.data }, { on := 24, ground := Ground.data }], guard := none }) (v := .int .i64 N1) rfl (by kernel_rfl) (by kernel_rfl) (by kernel_rfl) (fun _ _ _ h => h) (Or.inl ⟨by rfl, fun w0 hSw => by (go_simp)⟩) hH ?_
          simp only [Act.put, List.setIfInBounds_toArray, List.set_cons_zero, List.set_cons_succ]
          refine wpAnyH_ready (rs := [40]) (by kernel_rfl) (by simp) ?_
          refine (AllReadyH.cons (o := { dst := some 61, op := Op.load 3 (Operand.tmp 60), type := 3, pos := "l16_texture.go:200", after := #[{ on := 39, ground := Ground.data }], guard := none }) rfl (fun K hK => ?_) AllReadyH.nil)
          refine step_val (.int .i64 S3) WX (by rfl) (by have e9 := HS5.out.c3; go_simp) ?_
          simp only [Act.put, List.setIfInBounds_toArray, List.set_cons_zero, List.set_cons_succ]
          refine hK.out _ _ hH (fun hH' => ?_)
          clear hK K hH' 
          refine wpAnyH_take (i := 51) (oi := { dst := some 72, op := Op.binOp BinOp.add 3 (Operand.tmp 61) (Operand.tmp 71) 3, type := 3, pos := "l16_texture.go:200", after := #[{ on := 40, ground := Ground.data }, { on := 50, ground := Ground.data }], guard := none }) (v := .int .i64 N3) rfl (by kernel_rfl) (by kernel_rfl) (by kernel_rfl) (fun _ _ _ h => h) (Or.inl ⟨by rfl, fun w0 hSw => by (go_simp)⟩) hH ?_
          simp only [Act.put, List.setIfInBounds_toArray, List.set_cons_zero, List.set_cons_succ]
          refine wpAnyH_take (i := 52) (oi := { dst := some 73, op := Op.build 25 #[(0, Operand.tmp 33), (1, Operand.tmp 46), (2, Operand.tmp 59), (3, Operand.tmp 72)], type := 25, pos := "l16_texture.go:200", after := #[{ on := 12, ground := Ground.data }, { on := 25, ground := Ground.data }, { on := 38, ground := Ground.data }, { on := 51, ground := Ground.data }], guard := none }) (v := .agg #[.int .i64 N0, .int .i64 N1, .int .i64 N2, .int .i64 N3]) rfl (by kernel_rfl) (by kernel_rfl) (by kernel_rfl) (fun _ _ _ h => h) (Or.inl ⟨by rfl, fun w0 hSw => by (go_simp)⟩) hH ?_
          simp only [Act.put, List.setIfInBounds_toArray, List.set_cons_zero, List.set_cons_succ]
          refine wpAnyH_ready (rs := [53]) (by kernel_rfl) (by simp) ?_
          refine (AllReadyH.cons (o := { dst := none, op := Op.store 25 (Operand.tmp 9) (Operand.tmp 73), type := 0, pos := "l16_texture.go:200", after := #[{ on := 52, ground := Ground.data }, { on := 0, ground := Ground.phase }, { on := 1, ground := Ground.phase }, { on := 2, ground := Ground.phase }, { on := 3, ground := Ground.phase }, { on := 4, ground := Ground.phase }, { on := 5, ground := Ground.phase }, { on := 6, ground := Ground.phase }, { on := 7, ground := Ground.phase }, { on := 8, ground := Ground.phase }, { on := 9, ground := Ground.phase }, { on := 10, ground := Ground.phase }, { on := 11, ground := Ground.phase }, { on := 12, ground := Ground.phase }, { on := 13, ground := Ground.phase }, { on := 14, ground := Ground.phase }, { on := 15, ground := Ground.phase }, { on := 16, ground := Ground.phase }, { on := 17, ground := Ground.phase }, { on := 18, ground := Ground.phase }, { on := 19, ground := Ground.phase }, { on := 20, ground := Ground.phase }, { on := 21, ground := Ground.phase }, { on := 22, ground := Ground.phase }, { on := 23, ground := Ground.phase }, { on := 24, ground := Ground.phase }, { on := 25, ground := Ground.phase }, { on := 26, ground := Ground.phase }, { on := 27, ground := Ground.phase }, { on := 28, ground := Ground.phase }, { on := 29, ground := Ground.phase }, { on := 30, ground := Ground.phase }, { on := 31, ground := Ground.phase }, { on := 32, ground := Ground.phase }, { on := 33, ground := Ground.phase }, { on := 34, ground := Ground.phase }, { on := 35, ground := Ground.phase }, { on := 36, ground := Ground.phase }, { on := 37, ground := Ground.phase }, { on := 38, ground := Ground.phase }, { on := 39, ground := Ground.phase }, { on := 40, ground := Ground.phase }, { on := 41, ground := Ground.phase }, { on := 42, ground := Ground.phase }, { on := 43, ground := Ground.phase }, { on := 44, ground := Ground.phase }, { on := 45, ground := Ground.phase }, { on := 46, ground := Ground.phase }, { on := 47, ground := Ground.phase }, { on := 48, ground := Ground.phase }, { on := 49, ground := Ground.phase }, { on := 50, ground := Ground.phase }, { on := 51, ground := Ground.phase }, { on := 52, ground := Ground.phase }], guard := none }) rfl (fun K hK => ?_) AllReadyH.nil)
          refine step_skip V9 (by rfl) (by (have f0 := HS5.out.c0); (have f1 := HS5.out.c1); (have f2 := HS5.out.c2); (have f3 := HS5.out.c3); (have f4 := HS5.out.f); rw [← HV9.out]; unfold set4; go_simp) ?_
          simp only [Act.put]
          refine hK.out _ _ HSN.out (fun hH' => ?_)
          clear hK K hH hH' 
          refine wpAnyH_done (by kernel_rfl) ?_ _
          clear HS5 HSN HV9
          go_wp2
          go_roundw
          case rel => exact ⟨k + 1, by omega, by go_num, HMN, RN, BN⟩
          case measure => simp [intOf]; omega
        · refine step_val (.int .i64 S3) WX (by rfl) (by have e9 := HS5.out.c3; go_simp) ?_
          simp only [Act.put, List.setIfInBounds_toArray, List.set_cons_zero, List.set_cons_succ]
          refine hK.out _ _ hH (fun hH' => ?_)
          clear hK K hH' 
          refine wpAnyH_take (i := 51) (oi := { dst := some 72, op := Op.binOp BinOp.add 3 (Operand.tmp 61) (Operand.tmp 71) 3, type := 3, pos := "l16_texture.go:200", after := #[{ on := 40, ground := Ground.data }, { on := 50, ground := Ground.data }], guard := none }) (v := .int .i64 N3) rfl (by kernel_rfl) (by kernel_rfl) (by kernel_rfl) (fun _ _ _ h => h) (Or.inl ⟨by rfl, fun w0 hSw => by (go_simp)⟩) hH ?_
          simp only [Act.put, List.setIfInBounds_toArray, List.set_cons_zero, List.set_cons_succ]
          refine wpAnyH_ready (rs := [14]) (by kernel_rfl) (by simp) ?_
          refine (AllReadyH.cons (o := { dst := some 35, op := Op.load 3 (Operand.tmp 34), type := 3, pos := "l16_texture.go:200", after := #[{ on := 13, ground := Ground.data }], guard := none }) rfl (fun K hK => ?_) AllReadyH.nil)
          refine step_val (.int .i64 S1) WX (by rfl) (by have e9 := HS5.out.c1; go_simp) ?_
          simp only [Act.put, List.setIfInBounds_toArray, List.set_cons_zero, List.set_cons_succ]
          refine hK.out _ _ hH (fun hH' => ?_)
          clear hK K hH' 
          refine wpAnyH_take (i := 25) (oi := { dst := some 46, op := Op.binOp BinOp.add 3 (Operand.tmp 35) (Operand.tmp 45) 3, type := 3, pos := "l16_texture.go:200", after := #[{ on := 14, ground := Ground.data }, { on := 24, ground := Ground.data }], guard := none }) (v := .int .i64 N1) rfl (by kernel_rfl) (by kernel_rfl) (by kernel_rfl) (fun _ _ _ h => h) (Or.inl ⟨by rfl, fun w0 hSw => by (go_simp)⟩) hH ?_
          simp only [Act.put, List.setIfInBounds_toArray, List.set_cons_zero, List.set_cons_succ]
          refine wpAnyH_take (i := 52) (oi := { dst := some 73, op := Op.build 25 #[(0, Operand.tmp 33), (1, Operand.tmp 46), (2, Operand.tmp 59), (3, Operand.tmp 72)], type := 25, pos := "l16_texture.go:200", after := #[{ on := 12, ground := Ground.data }, { on := 25, ground := Ground.data }, { on := 38, ground := Ground.data }, { on := 51, ground := Ground.data }], guard := none }) (v := .agg #[.int .i64 N0, .int .i64 N1, .int .i64 N2, .int .i64 N3]) rfl (by kernel_rfl) (by kernel_rfl) (by kernel_rfl) (fun _ _ _ h => h) (Or.inl ⟨by rfl, fun w0 hSw => by (go_simp)⟩) hH ?_
          simp only [Act.put, List.setIfInBounds_toArray, List.set_cons_zero, List.set_cons_succ]
          refine wpAnyH_ready (rs := [53]) (by kernel_rfl) (by simp) ?_
          refine (AllReadyH.cons (o := { dst := none, op := Op.store 25 (Operand.tmp 9) (Operand.tmp 73), type := 0, pos := "l16_texture.go:200", after := #[{ on := 52, ground := Ground.data }, { on := 0, ground := Ground.phase }, { on := 1, ground := Ground.phase }, { on := 2, ground := Ground.phase }, { on := 3, ground := Ground.phase }, { on := 4, ground := Ground.phase }, { on := 5, ground := Ground.phase }, { on := 6, ground := Ground.phase }, { on := 7, ground := Ground.phase }, { on := 8, ground := Ground.phase }, { on := 9, ground := Ground.phase }, { on := 10, ground := Ground.phase }, { on := 11, ground := Ground.phase }, { on := 12, ground := Ground.phase }, { on := 13, ground := Ground.phase }, { on := 14, ground := Ground.phase }, { on := 15, ground := Ground.phase }, { on := 16, ground := Ground.phase }, { on := 17, ground := Ground.phase }, { on := 18, ground := Ground.phase }, { on := 19, ground := Ground.phase }, { on := 20, ground := Ground.phase }, { on := 21, ground := Ground.phase }, { on := 22, ground := Ground.phase }, { on := 23, ground := Ground.phase }, { on := 24, ground := Ground.phase }, { on := 25, ground := Ground.phase }, { on := 26, ground := Ground.phase }, { on := 27, ground := Ground.phase }, { on := 28, ground := Ground.phase }, { on := 29, ground := Ground.phase }, { on := 30, ground := Ground.phase }, { on := 31, ground := Ground.phase }, { on := 32, ground := Ground.phase }, { on := 33, ground := Ground.phase }, { on := 34, ground := Ground.phase }, { on := 35, ground := Ground.phase }, { on := 36, ground := Ground.phase }, { on := 37, ground := Ground.phase }, { on := 38, ground := Ground.phase }, { on := 39, ground := Ground.phase }, { on := 40, ground := Ground.phase }, { on := 41, ground := Ground.phase }, { on := 42, ground := Ground.phase }, { on := 43, ground := Ground.phase }, { on := 44, ground := Ground.phase }, { on := 45, ground := Ground.phase }, { on := 46, ground := Ground.phase }, { on := 47, ground := Ground.phase }, { on := 48, ground := Ground.phase }, { on := 49, ground := Ground.phase }, { on := 50, ground := Ground.phase }, { on := 51, ground := Ground.phase }, { on := 52, ground := Ground.phase }], guard := none }) rfl (fun K hK => ?_) AllReadyH.nil)
          refine step_skip V9 (by rfl) (by (have f0 := HS5.out.c0); (have f1 := HS5.out.c1); (have f2 := HS5.out.c2); (have f3 := HS5.out.c3); (have f4 := HS5.out.f); rw [← HV9.out]; unfold set4; go_simp) ?_
          simp only [Act.put]
          refine hK.out _ _ HSN.out (fun hH' => ?_)
          clear hK K hH hH' 
          refine wpAnyH_done (by kernel_rfl) ?_ _
          clear HS5 HSN HV9
          go_wp2
          go_roundw
          case rel => exact ⟨k + 1, by omega, by go_num, HMN, RN, BN⟩
          case measure => simp [intOf]; omega
      · refine step_val (.int .i64 S1) WX (by rfl) (by have e9 := HS5.out.c1; go_simp) ?_
        simp only [Act.put, List.setIfInBounds_toArray, List.set_cons_zero, List.set_cons_succ]
        refine hK.out _ _ hH (fun hH' => ?_)
        clear hK K hH' 
        refine wpAnyH_take (i := 25) (oi := { dst := some 46, op := Op.binOp BinOp.add 3 (Operand.tmp 35) (Operand.tmp 45) 3, type := 3, pos := "l16_texture.go:200", after := #[{ on := 14, ground := Ground.data }, { on := 24, ground := Ground.data }], guard := none }) (v := .int .i64 N1) rfl (by kernel_rfl) (by kernel_rfl) (by kernel_rfl) (fun _ _ _ h => h) (Or.inl ⟨by rfl, fun w0 hSw => by (go_simp)⟩) hH ?_
        simp only [Act.put, List.setIfInBounds_toArray, List.set_cons_zero, List.set_cons_succ]
        refine wpAnyH_ready (rs := [1, 40]) (by kernel_rfl) (by simp) ?_
        refine (AllReadyH.cons (o := { dst := some 22, op := Op.load 3 (Operand.tmp 21), type := 3, pos := "l16_texture.go:200", after := #[{ on := 0, ground := Ground.data }], guard := none }) rfl (fun K hK => ?_) (AllReadyH.cons (o := { dst := some 61, op := Op.load 3 (Operand.tmp 60), type := 3, pos := "l16_texture.go:200", after := #[{ on := 39, ground := Ground.data }], guard := none }) rfl (fun K hK => ?_) AllReadyH.nil))
        · refine step_val (.int .i64 S0) WX (by rfl) (by have e9 := HS5.out.c0; go_simp) ?_
          simp only [Act.put, List.setIfInBounds_toArray, List.set_cons_zero, List.set_cons_succ]
          refine hK.out _ _ hH (fun hH' => ?_)
          clear hK K hH' 
          refine wpAnyH_take (i := 12) (oi := { dst := some 33, op := Op.binOp BinOp.add 3 (Operand.tmp 22) (Operand.tmp 32) 3, type := 3, pos := "l16_texture.go:200", after := #[{ on := 1, ground := Ground.data }, { on := 11, ground := Ground.data }], guard := none }) (v := .int .i64 N0) rfl (by kernel_rfl) (by kernel_rfl) (by kernel_rfl) (fun _ _ _ h => h) (Or.inl ⟨by rfl, fun w0 hSw => by (go_simp)⟩) hH ?_
          simp only [Act.put, List.setIfInBounds_toArray, List.set_cons_zero, List.set_cons_succ]
          refine wpAnyH_ready (rs := [40]) (by kernel_rfl) (by simp) ?_
          refine (AllReadyH.cons (o := { dst := some 61, op := Op.load 3 (Operand.tmp 60), type := 3, pos := "l16_texture.go:200", after := #[{ on := 39, ground := Ground.data }], guard := none }) rfl (fun K hK => ?_) AllReadyH.nil)
          refine step_val (.int .i64 S3) WX (by rfl) (by have e9 := HS5.out.c3; go_simp) ?_
          simp only [Act.put, List.setIfInBounds_toArray, List.set_cons_zero, List.set_cons_succ]
          refine hK.out _ _ hH (fun hH' => ?_)
          clear hK K hH' 
          refine wpAnyH_take (i := 51) (oi := { dst := some 72, op := Op.binOp BinOp.add 3 (Operand.tmp 61) (Operand.tmp 71) 3, type := 3, pos := "l16_texture.go:200", after := #[{ on := 40, ground := Ground.data }, { on := 50, ground := Ground.data }], guard := none }) (v := .int .i64 N3) rfl (by kernel_rfl) (by kernel_rfl) (by kernel_rfl) (fun _ _ _ h => h) (Or.inl ⟨by rfl, fun w0 hSw => by (go_simp)⟩) hH ?_
          simp only [Act.put, List.setIfInBounds_toArray, List.set_cons_zero, List.set_cons_succ]
          refine wpAnyH_take (i := 52) (oi := { dst := some 73, op := Op.build 25 #[(0, Operand.tmp 33), (1, Operand.tmp 46), (2, Operand.tmp 59), (3, Operand.tmp 72)], type := 25, pos := "l16_texture.go:200", after := #[{ on := 12, ground := Ground.data }, { on := 25, ground := Ground.data }, { on := 38, ground := Ground.data }, { on := 51, ground := Ground.data }], guard := none }) (v := .agg #[.int .i64 N0, .int .i64 N1, .int .i64 N2, .int .i64 N3]) rfl (by kernel_rfl) (by kernel_rfl) (by kernel_rfl) (fun _ _ _ h => h) (Or.inl ⟨by rfl, fun w0 hSw => by (go_simp)⟩) hH ?_
          simp only [Act.put, List.setIfInBounds_toArray, List.set_cons_zero, List.set_cons_succ]
          refine wpAnyH_ready (rs := [53]) (by kernel_rfl) (by simp) ?_
          refine (AllReadyH.cons (o := { dst := none, op := Op.store 25 (Operand.tmp 9) (Operand.tmp 73), type := 0, pos := "l16_texture.go:200", after := #[{ on := 52, ground := Ground.data }, { on := 0, ground := Ground.phase }, { on := 1, ground := Ground.phase }, { on := 2, ground := Ground.phase }, { on := 3, ground := Ground.phase }, { on := 4, ground := Ground.phase }, { on := 5, ground := Ground.phase }, { on := 6, ground := Ground.phase }, { on := 7, ground := Ground.phase }, { on := 8, ground := Ground.phase }, { on := 9, ground := Ground.phase }, { on := 10, ground := Ground.phase }, { on := 11, ground := Ground.phase }, { on := 12, ground := Ground.phase }, { on := 13, ground := Ground.phase }, { on := 14, ground := Ground.phase }, { on := 15, ground := Ground.phase }, { on := 16, ground := Ground.phase }, { on := 17, ground := Ground.phase }, { on := 18, ground := Ground.phase }, { on := 19, ground := Ground.phase }, { on := 20, ground := Ground.phase }, { on := 21, ground := Ground.phase }, { on := 22, ground := Ground.phase }, { on := 23, ground := Ground.phase }, { on := 24, ground := Ground.phase }, { on := 25, ground := Ground.phase }, { on := 26, ground := Ground.phase }, { on := 27, ground := Ground.phase }, { on := 28, ground := Ground.phase }, { on := 29, ground := Ground.phase }, { on := 30, ground := Ground.phase }, { on := 31, ground := Ground.phase }, { on := 32, ground := Ground.phase }, { on := 33, ground := Ground.phase }, { on := 34, ground := Ground.phase }, { on := 35, ground := Ground.phase }, { on := 36, ground := Ground.phase }, { on := 37, ground := Ground.phase }, { on := 38, ground := Ground.phase }, { on := 39, ground := Ground.phase }, { on := 40, ground := Ground.phase }, { on := 41, ground := Ground.phase }, { on := 42, ground := Ground.phase }, { on := 43, ground := Ground.phase }, { on := 44, ground := Ground.phase }, { on := 45, ground := Ground.phase }, { on := 46, ground := Ground.phase }, { on := 47, ground := Ground.phase }, { on := 48, ground := Ground.phase }, { on := 49, ground := Ground.phase }, { on := 50, ground := Ground.phase }, { on := 51, ground := Ground.phase }, { on := 52, ground := Ground.phase }], guard := none }) rfl (fun K hK => ?_) AllReadyH.nil)
          refine step_skip V9 (by rfl) (by (have f0 := HS5.out.c0); (have f1 := HS5.out.c1); (have f2 := HS5.out.c2); (have f3 := HS5.out.c3); (have f4 := HS5.out.f); rw [← HV9.out]; unfold set4; go_simp) ?_
          simp only [Act.put]
          refine hK.out _ _ HSN.out (fun hH' => ?_)
          clear hK K hH hH' 
          refine wpAnyH_done (by kernel_rfl) ?_ _
          clear HS5 HSN HV9
          go_wp2
          go_roundw
          case rel => exact ⟨k + 1, by omega, by go_num, HMN, RN, BN⟩
          case measure => simp [intOf]; omega
        · refine step_val (.int .i64 S3) WX (by rfl) (by have e9 := HS5.out.c3; go_simp) ?_
          simp only [Act.put, List.setIfInBounds_toArray, List.set_cons_zero, List.set_cons_succ]
          refine hK.out _ _ hH (fun hH' => ?_)
          clear hK K hH' 
          refine wpAnyH_take (i := 51) (oi := { dst := some 72, op := Op.binOp BinOp.add 3 (Operand.tmp 61) (Operand.tmp 71) 3, type := 3, pos := "l16_texture.go:200", after := #[{ on := 40, ground := Ground.data }, { on := 50, ground := Ground.data }], guard := none }) (v := .int .i64 N3) rfl (by kernel_rfl) (by kernel_rfl) (by kernel_rfl) (fun _ _ _ h => h) (Or.inl ⟨by rfl, fun w0 hSw => by (go_simp)⟩) hH ?_
          simp only [Act.put, List.setIfInBounds_toArray, List.set_cons_zero, List.set_cons_succ]
          refine wpAnyH_ready (rs := [1]) (by kernel_rfl) (by simp) ?_
          refine (AllReadyH.cons (o := { dst := some 22, op := Op.load 3 (Operand.tmp 21), type := 3, pos := "l16_texture.go:200", after := #[{ on := 0, ground := Ground.data }], guard := none }) rfl (fun K hK => ?_) AllReadyH.nil)
          refine step_val (.int .i64 S0) WX (by rfl) (by have e9 := HS5.out.c0; go_simp) ?_
          simp only [Act.put, List.setIfInBounds_toArray, List.set_cons_zero, List.set_cons_succ]
          refine hK.out _ _ hH (fun hH' => ?_)
          clear hK K hH' 
          refine wpAnyH_take (i := 12) (oi := { dst := some 33, op := Op.binOp BinOp.add 3 (Operand.tmp 22) (Operand.tmp 32) 3, type := 3, pos := "l16_texture.go:200", after := #[{ on := 1, ground := Ground.data }, { on := 11, ground := Ground.data }], guard := none }) (v := .int .i64 N0) rfl (by kernel_rfl) (by kernel_rfl) (by kernel_rfl) (fun _ _ _ h => h) (Or.inl ⟨by rfl, fun w0 hSw => by (go_simp)⟩) hH ?_
          simp only [Act.put, List.setIfInBounds_toArray, List.set_cons_zero, List.set_cons_succ]
          refine wpAnyH_take (i := 52) (oi := { dst := some 73, op := Op.build 25 #[(0, Operand.tmp 33), (1, Operand.tmp 46), (2, Operand.tmp 59), (3, Operand.tmp 72)], type := 25, pos := "l16_texture.go:200", after := #[{ on := 12, ground := Ground.data }, { on := 25, ground := Ground.data }, { on := 38, ground := Ground.data }, { on := 51, ground := Ground.data }], guard := none }) (v := .agg #[.int .i64 N0, .int .i64 N1, .int .i64 N2, .int .i64 N3]) rfl (by kernel_rfl) (by kernel_rfl) (by kernel_rfl) (fun _ _ _ h => h) (Or.inl ⟨by rfl, fun w0 hSw => by (go_simp)⟩) hH ?_
          simp only [Act.put, List.setIfInBounds_toArray, List.set_cons_zero, List.set_cons_succ]
          refine wpAnyH_ready (rs := [53]) (by kernel_rfl) (by simp) ?_
          refine (AllReadyH.cons (o := { dst := none, op := Op.store 25 (Operand.tmp 9) (Operand.tmp 73), type := 0, pos := "l16_texture.go:200", after := #[{ on := 52, ground := Ground.data }, { on := 0, ground := Ground.phase }, { on := 1, ground := Ground.phase }, { on := 2, ground := Ground.phase }, { on := 3, ground := Ground.phase }, { on := 4, ground := Ground.phase }, { on := 5, ground := Ground.phase }, { on := 6, ground := Ground.phase }, { on := 7, ground := Ground.phase }, { on := 8, ground := Ground.phase }, { on := 9, ground := Ground.phase }, { on := 10, ground := Ground.phase }, { on := 11, ground := Ground.phase }, { on := 12, ground := Ground.phase }, { on := 13, ground := Ground.phase }, { on := 14, ground := Ground.phase }, { on := 15, ground := Ground.phase }, { on := 16, ground := Ground.phase }, { on := 17, ground := Ground.phase }, { on := 18, ground := Ground.phase }, { on := 19, ground := Ground.phase }, { on := 20, ground := Ground.phase }, { on := 21, ground := Ground.phase }, { on := 22, ground := Ground.phase }, { on := 23, ground := Ground.phase }, { on := 24, ground := Ground.phase }, { on := 25, ground := Ground.phase }, { on := 26, ground := Ground.phase }, { on := 27, ground := Ground.phase }, { on := 28, ground := Ground.phase }, { on := 29, ground := Ground.phase }, { on := 30, ground := Ground.phase }, { on := 31, ground := Ground.phase }, { on := 32, ground := Ground.phase }, { on := 33, ground := Ground.phase }, { on := 34, ground := Ground.phase }, { on := 35, ground := Ground.phase }, { on := 36, ground := Ground.phase }, { on := 37, ground := Ground.phase }, { on := 38, ground := Ground.phase }, { on := 39, ground := Ground.phase }, { on := 40, ground := Ground.phase }, { on := 41, ground := Ground.phase }, { on := 42, ground := Ground.phase }, { on := 43, ground := Ground.phase }, { on := 44, ground := Ground.phase }, { on := 45, ground := Ground.phase }, { on := 46, ground := Ground.phase }, { on := 47, ground := Ground.phase }, { on := 48, ground := Ground.phase }, { on := 49, ground := Ground.phase }, { on := 50, ground := Ground.phase }, { on := 51, ground := Ground.phase }, { on := 52, ground := Ground.phase }], guard := none }) rfl (fun K hK => ?_) AllReadyH.nil)
          refine step_skip V9 (by rfl) (by (have f0 := HS5.out.c0); (have f1 := HS5.out.c1); (have f2 := HS5.out.c2); (have f3 := HS5.out.c3); (have f4 := HS5.out.f); rw [← HV9.out]; unfold set4; go_simp) ?_
          simp only [Act.put]
          refine hK.out _ _ HSN.out (fun hH' => ?_)
          clear hK K hH hH' 
          refine wpAnyH_done (by kernel_rfl) ?_ _
          clear HS5 HSN HV9
          go_wp2
          go_roundw
          case rel => exact ⟨k + 1, by omega, by go_num, HMN, RN, BN⟩
          case measure => simp [intOf]; omega
      · refine step_val (.int .i64 S3) WX (by rfl) (by have e9 := HS5.out.c3; go_simp) ?_
        simp only [Act.put, List.setIfInBounds_toArray, List.set_cons_zero, List.set_cons_succ]
        refine hK.out _ _ hH (fun hH' => ?_)
        clear hK K hH' 
        refine wpAnyH_take (i := 51) (oi := { dst := some 72, op := Op.binOp BinOp.add 3 (Operand.tmp 61) (Operand.tmp 71) 3, type := 3, pos := "l16_texture.go:200", after := #[{ on := 40, ground := Ground.data }, { on := 50, ground := Ground.data }], guard := none }) (v := .int .i64 N3) rfl (by kernel_rfl) (by kernel_rfl) (by kernel_rfl) (fun _ _ _ h => h) (Or.inl ⟨by rfl, fun w0 hSw => by (go_simp)⟩) hH ?_
        simp only [Act.put, List.setIfInBounds_toArray, List.set_cons_zero, List.set_cons_succ]
        refine wpAnyH_ready (rs := [1, 14]) (by kernel_rfl) (by simp) ?_
        refine (AllReadyH.cons (o := { dst := some 22, op := Op.load 3 (Operand.tmp 21), type := 3, pos := "l16_texture.go:200", after := #[{ on := 0, ground := Ground.data }], guard := none }) rfl (fun K hK => ?_) (AllReadyH.cons (o := { dst := some 35, op := Op.load 3 (Operand.tmp 34), type := 3, pos := "l16_texture.go:200", after := #[{ on := 13, ground := Ground.data }], guard := none }) rfl (fun K hK => ?_) AllReadyH.nil))
        · refine step_val (.int .i64 S0) WX (by rfl) (by have e9 := HS5.out.c0; go_simp) ?_
          simp only [Act.put, List.setIfInBounds_toArray, List.set_cons_zero, List.set_cons_succ]
          refine hK.out _ _ hH (fun hH' => ?_)
          clear hK K hH' 
          refine wpAnyH_take (i := 12) (oi := { dst := some 33, op := Op.binOp BinOp.add 3 (Operand.tmp 22) (Operand.tmp 32) 3, type := 3, pos := "l16_texture.go:200", after := #[{ on := 1, ground := Ground.data }, { on := 11, ground := Ground.data }], guard := none }) (v := .int .i64 N0) rfl (by kernel_rfl) (by kernel_rfl) (by kernel_rfl) (fun _ _ _ h => h) (Or.inl ⟨by rfl, fun w0 hSw => by (go_simp)⟩) hH ?_
          simp only [Act.put, List.setIfInBounds_toArray, List.set_cons_zero, List.set_cons_succ]
          refine wpAnyH_ready (rs := [14]) (by kernel_rfl) (by simp) ?_
          refine (AllReadyH.cons (o := { dst := some 35, op := Op.load 3 (Operand.tmp 34), type := 3, pos := "l16_texture.go:200", after := #[{ on := 13, ground := Ground.data }], guard := none }) rfl (fun K hK => ?_) AllReadyH.nil)
          refine step_val (.int .i64 S1) WX (by rfl) (by have e9 := HS5.out.c1; go_simp) ?_
          simp only [Act.put, List.setIfInBounds_toArray, List.set_cons_zero, List.set_cons_succ]
          refine hK.out _ _ hH (fun hH' => ?_)
          clear hK K hH' 
          refine wpAnyH_take (i := 25) (oi := { dst := some 46, op := Op.binOp BinOp.add 3 (Operand.tmp 35) (Operand.tmp 45) 3, type := 3, pos := "l16_texture.go:200", after := #[{ on := 14, ground := Ground.data }, { on := 24, ground := Ground.data }], guard := none }) (v := .int .i64 N1) rfl (by kernel_rfl) (by kernel_rfl) (by kernel_rfl) (fun _ _ _ h => h) (Or.inl ⟨by rfl, fun w0 hSw => by (go_simp)⟩) hH ?_
          simp only [Act.put, List.setIfInBounds_toArray, List.set_cons_zero, List.set_cons_succ]
          refine wpAnyH_take (i := 52) (oi := { dst := some 73, op := Op.build 25 #[(0, Operand.tmp 33), (1, Operand.tmp 46), (2, Operand.tmp 59), (3, Operand.tmp 72)], type := 25, pos := "l16_texture.go:200", after := #[{ on := 12, ground := Ground.data }, { on := 25, ground := Ground.data }, { on := 38, ground := Ground.data }, { on := 51, ground := Ground.data }], guard := none }) (v := .agg #[.int .i64 N0, .int .i64 N1, .int .i64 N2, .int .i64 N3]) rfl (by kernel_rfl) (by kernel_rfl) (by kernel_rfl) (fun _ _ _ h => h) (Or.inl ⟨by rfl, fun w0 hSw => by (go_simp)⟩) hH ?_
          simp only [Act.put, List.setIfInBounds_toArray, List.set_cons_zero, List.set_cons_succ]
          refine wpAnyH_ready (rs := [53]) (by kernel_rfl) (by simp) ?_
          refine (AllReadyH.cons (o := { dst := none, op := Op.store 25 (Operand.tmp 9) (Operand.tmp 73), type := 0, pos := "l16_texture.go:200", after := #[{ on := 52, ground := Ground.data }, { on := 0, ground := Ground.phase }, { on := 1, ground := Ground.phase }, { on := 2, ground := Ground.phase }, { on := 3, ground := Ground.phase }, { on := 4, ground := Ground.phase }, { on := 5, ground := Ground.phase }, { on := 6, ground := Ground.phase }, { on := 7, ground := Ground.phase }, { on := 8, ground := Ground.phase }, { on := 9, ground := Ground.phase }, { on := 10, ground := Ground.phase }, { on := 11, ground := Ground.phase }, { on := 12, ground := Ground.phase }, { on := 13, ground := Ground.phase }, { on := 14, ground := Ground.phase }, { on := 15, ground := Ground.phase }, { on := 16, ground := Ground.phase }, { on := 17, ground := Ground.phase }, { on := 18, ground := Ground.phase }, { on := 19, ground := Ground.phase }, { on := 20, ground := Ground.phase }, { on := 21, ground := Ground.phase }, { on := 22, ground := Ground.phase }, { on := 23, ground := Ground.phase }, { on := 24, ground := Ground.phase }, { on := 25, ground := Ground.phase }, { on := 26, ground := Ground.phase }, { on := 27, ground := Ground.phase }, { on := 28, ground := Ground.phase }, { on := 29, ground := Ground.phase }, { on := 30, ground := Ground.phase }, { on := 31, ground := Ground.phase }, { on := 32, ground := Ground.phase }, { on := 33, ground := Ground.phase }, { on := 34, ground := Ground.phase }, { on := 35, ground := Ground.phase }, { on := 36, ground := Ground.phase }, { on := 37, ground := Ground.phase }, { on := 38, ground := Ground.phase }, { on := 39, ground := Ground.phase }, { on := 40, ground := Ground.phase }, { on := 41, ground := Ground.phase }, { on := 42, ground := Ground.phase }, { on := 43, ground := Ground.phase }, { on := 44, ground := Ground.phase }, { on := 45, ground := Ground.phase }, { on := 46, ground := Ground.phase }, { on := 47, ground := Ground.phase }, { on := 48, ground := Ground.phase }, { on := 49, ground := Ground.phase }, { on := 50, ground := Ground.phase }, { on := 51, ground := Ground.phase }, { on := 52, ground := Ground.phase }], guard := none }) rfl (fun K hK => ?_) AllReadyH.nil)
          refine step_skip V9 (by rfl) (by (have f0 := HS5.out.c0); (have f1 := HS5.out.c1); (have f2 := HS5.out.c2); (have f3 := HS5.out.c3); (have f4 := HS5.out.f); rw [← HV9.out]; unfold set4; go_simp) ?_
          simp only [Act.put]
          refine hK.out _ _ HSN.out (fun hH' => ?_)
          clear hK K hH hH' 
          refine wpAnyH_done (by kernel_rfl) ?_ _
          clear HS5 HSN HV9
          go_wp2
          go_roundw
          case rel => exact ⟨k + 1, by omega, by go_num, HMN, RN, BN⟩
          case measure => simp [intOf]; omega
        · refine step_val (.int .i64 S1) WX (by rfl) (by have e9 := HS5.out.c1; go_simp) ?_
          simp only [Act.put, List.setIfInBounds_toArray, List.set_cons_zero, List.set_cons_succ]
          refine hK.out _ _ hH (fun hH' => ?_)
          clear hK K hH' 
          refine wpAnyH_take (i := 25) (oi := { dst := some 46, op := Op.binOp BinOp.add 3 (Operand.tmp 35) (Operand.tmp 45) 3, type := 3, pos := "l16_texture.go:200", after := #[{ on := 14, ground := Ground.data }, { on := 24, ground := Ground.data }], guard := none }) (v := .int .i64 N1) rfl (by kernel_rfl) (by kernel_rfl) (by kernel_rfl) (fun _ _ _ h => h) (Or.inl ⟨by rfl, fun w0 hSw => by (go_simp)⟩) hH ?_
          simp only [Act.put, List.setIfInBounds_toArray, List.set_cons_zero, List.set_cons_succ]
          refine wpAnyH_ready (rs := [1]) (by kernel_rfl) (by simp) ?_
          refine (AllReadyH.cons (o := { dst := some 22, op := Op.load 3 (Operand.tmp 21), type := 3, pos := "l16_texture.go:200", after := #[{ on := 0, ground := Ground.data }], guard := none }) rfl (fun K hK => ?_) AllReadyH.nil)
          refine step_val (.int .i64 S0) WX (by rfl) (by have e9 := HS5.out.c0; go_simp) ?_
          simp only [Act.put, List.setIfInBounds_toArray, List.set_cons_zero, List.set_cons_succ]
          refine hK.out _ _ hH (fun hH' => ?_)
          clear hK K hH' 
          refine wpAnyH_take (i := 12) (oi := { dst := some 33, op := Op.binOp BinOp.add 3 (Operand.tmp 22) (Operand.tmp 32) 3, type := 3, pos := "l16_texture.go:200", after := #[{ on := 1, ground := Ground.data }, { on := 11, ground := Ground.data }], guard := none }) (v := .int .i64 N0) rfl (by kernel_rfl) (by kernel_rfl) (by kernel_rfl) (fun _ _ _ h => h) (Or.inl ⟨by rfl, fun w0 hSw => by (go_simp)⟩) hH ?_
          simp only [Act.put, List.setIfInBounds_toArray, List.set_cons_zero, List.set_cons_succ]
          refine wpAnyH_take (i := 52) (oi := { dst := some 73, op := Op.build 25 #[(0, Operand.tmp 33), (1, Operand.tmp 46), (2, Operand.tmp 59), (3, Operand.tmp 72)], type := 25, pos := "l16_texture.go:200", after := #[{ on := 12, ground := Ground.data }, { on := 25, ground := Ground.data }, { on := 38, ground := Ground.data }, { on := 51, ground := Ground.data }], guard := none }) (v := .agg #[.int .i64 N0, .int .i64 N1, .int .i64 N2, .int .i64 N3]) rfl (by kernel_rfl) (by kernel_rfl) (by kernel_rfl) (fun _ _ _ h => h) (Or.inl ⟨by rfl, fun w0 hSw => by (go_simp)⟩) hH ?_
          simp only [Act.put, List.setIfInBounds_toArray, List.set_cons_zero, List.set_cons_succ]
          refine wpAnyH_ready (rs := [53]) (by kernel_rfl) (by simp) ?_
          refine (AllReadyH.cons (o := { dst := none, op := Op.store 25 (Operand.tmp 9) (Operand.tmp 73), type := 0, pos := "l16_texture.go:200", after := #[{ on := 52, ground := Ground.data }, { on := 0, ground := Ground.phase }, { on := 1, ground := Ground.phase }, { on := 2, ground := Ground.phase }, { on := 3, ground := Ground.phase }, { on := 4, ground := Ground.phase }, { on := 5, ground := Ground.phase }, { on := 6, ground := Ground.phase }, { on := 7, ground := Ground.phase }, { on := 8, ground := Ground.phase }, { on := 9, ground := Ground.phase }, { on := 10, ground := Ground.phase }, { on := 11, ground := Ground.phase }, { on := 12, ground := Ground.phase }, { on := 13, ground := Ground.phase }, { on := 14, ground := Ground.phase }, { on := 15, ground := Ground.phase }, { on := 16, ground := Ground.phase }, { on := 17, ground := Ground.phase }, { on := 18, ground := Ground.phase }, { on := 19, ground := Ground.phase }, { on := 20, ground := Ground.phase }, { on := 21, ground := Ground.phase }, { on := 22, ground := Ground.phase }, { on := 23, ground := Ground.phase }, { on := 24, ground := Ground.phase }, { on := 25, ground := Ground.phase }, { on := 26, ground := Ground.phase }, { on := 27, ground := Ground.phase }, { on := 28, ground := Ground.phase }, { on := 29, ground := Ground.phase }, { on := 30, ground := Ground.phase }, { on := 31, ground := Ground.phase }, { on := 32, ground := Ground.phase }, { on := 33, ground := Ground.phase }, { on := 34, ground := Ground.phase }, { on := 35, ground := Ground.phase }, { on := 36, ground := Ground.phase }, { on := 37, ground := Ground.phase }, { on := 38, ground := Ground.phase }, { on := 39, ground := Ground.phase }, { on := 40, ground := Ground.phase }, { on := 41, ground := Ground.phase }, { on := 42, ground := Ground.phase }, { on := 43, ground := Ground.phase }, { on := 44, ground := Ground.phase }, { on := 45, ground := Ground.phase }, { on := 46, ground := Ground.phase }, { on := 47, ground := Ground.phase }, { on := 48, ground := Ground.phase }, { on := 49, ground := Ground.phase }, { on := 50, ground := Ground.phase }, { on := 51, ground := Ground.phase }, { on := 52, ground := Ground.phase }], guard := none }) rfl (fun K hK => ?_) AllReadyH.nil)
          refine step_skip V9 (by rfl) (by (have f0 := HS5.out.c0); (have f1 := HS5.out.c1); (have f2 := HS5.out.c2); (have f3 := HS5.out.c3); (have f4 := HS5.out.f); rw [← HV9.out]; unfold set4; go_simp) ?_
          simp only [Act.put]
          refine hK.out _ _ HSN.out (fun hH' => ?_)
          clear hK K hH hH' 
          refine wpAnyH_done (by kernel_rfl) ?_ _
          clear HS5 HSN HV9
          go_wp2
          go_roundw
          case rel => exact ⟨k + 1, by omega, by go_num, HMN, RN, BN⟩
          case measure => simp [intOf]; omega
    · refine step_val (.int .i64 S3) WX (by rfl) (by have e9 := HS5.out.c3; go_simp) ?_
      simp only [Act.put, List.setIfInBounds_toArray, List.set_cons_zero, List.set_cons_succ]
      refine hK.out _ _ hH (fun hH' => ?_)
      clear hK K hH' 
      refine wpAnyH_take (i := 51) (oi := { dst := some 72, op := Op.binOp BinOp.add 3 (Operand.tmp 61) (Operand.tmp 71) 3, type := 3, pos := "l16_texture.go:200", after := #[{ on := 40, ground := Ground.data }, { on := 50, ground := Ground.data }], guard := none }) (v := .int .i64 N3) rfl (by kernel_rfl) (by kernel_rfl) (by kernel_rfl) (fun _ _ _ h => h) (Or.inl ⟨by rfl, fun w0 hSw => by (go_simp)⟩) hH ?_
      simp only [Act.put, List.setIfInBounds_toArray, List.set_cons_zero, List.set_cons_succ]
      refine wpAnyH_ready (rs := [1, 14, 27]) (by kernel_rfl) (by simp) ?_
      refine (AllReadyH.cons (o := { dst := some 22, op := Op.load 3 (Operand.tmp 21), type := 3, pos := "l16_texture.go:200", after := #[{ on := 0, ground := Ground.data }], guard := none }) rfl (fun K hK => ?_) (AllReadyH.cons (o := { dst := some 35, op := Op.load 3 (Operand.tmp 34), type := 3, pos := "l16_texture.go:200", after := #[{ on := 13, ground := Ground.data }], guard := none }) rfl (fun K hK => ?_) (AllReadyH.cons (o := { dst := some 48, op := Op.load 3 (Operand.tmp 47), type := 3, pos := "l16_texture.go:200", after := #[{ on := 26, ground := Ground.data }], guard := none }) rfl (fun K hK => ?_) AllReadyH.nil)))
      · refine step_val (.int .i64 S0) WX (by rfl) (by have e9 := HS5.out.c0; go_simp) ?_
        simp only [Act.put, List.setIfInBounds_toArray, List.set_cons_zero, List.set_cons_succ]
        refine hK.out _ _ hH (fun hH' => ?_)
        clear hK K hH' 
        refine wpAnyH_take (i := 12) (oi := { dst := some 33, op := Op.binOp BinOp.add 3 (Operand.tmp 22) (Operand.tmp 32) 3, type := 3, pos := "l16_texture.go:200", after := #[{ on := 1, ground := Ground.data }, { on := 11, ground := Ground.data }], guard := none }) (v := .int .i64 N0) rfl (by kernel_rfl) (by kernel_rfl) (by kernel_rfl) (fun _ _ _ h => h) (Or.inl ⟨by rfl, fun w0 hSw => by (go_simp)⟩) hH ?_
        simp only [Act.put, List.setIfInBounds_toArray, List.set_cons_zero, List.set_cons_succ]
        refine wpAnyH_ready (rs := [14, 27]) (by kernel_rfl) (by simp) ?_
        refine (AllReadyH.cons (o := { dst := some 35, op := Op.load 3 (Operand.tmp 34), type := 3, pos := "l16_texture.go:200", after := #[{ on := 13, ground := Ground.data }], guard := none }) rfl (fun K hK => ?_) (AllReadyH.cons (o := { dst := some 48, op := Op.load 3 (Operand.tmp 47), type := 3, pos := "l16_texture.go:200", after := #[{ on := 26, ground := Ground.data }], guard := none }) rfl (fun K hK => ?_) AllReadyH.nil))
        · refine step_val (.int .i64 S1) WX (by rfl) (by have e9 := HS5.out.c1; go_simp) ?_
          simp only [Act.put, List.setIfInBounds_toArray, List.set_cons_zero, List.set_cons_succ]
          refine hK.out _ _ hH (fun hH' => ?_)
          clear hK K hH' 
          refine wpAnyH_take (i := 25) (oi := { dst := some 46, op := Op.binOp BinOp.add 3 (Operand.tmp 35) (Operand.tmp 45) 3, type := 3, pos := "l16_texture.go:200", after := #[{ on := 14, ground := Ground.data }, { on := 24, ground := Ground.data }], guard := none }) (v := .int .i64 N1) rfl (by kernel_rfl) (by kernel_rfl) (by kernel_rfl) (fun _ _ _ h => h) (Or.inl ⟨by rfl, fun w0 hSw => by (go_simp)⟩) hH ?_
          simp only [Act.put, List.setIfInBounds_toArray, List.set_cons_zero, List.set_cons_succ]
          refine wpAnyH_ready (rs := [27]) (by kernel_rfl) (by simp) ?_
          refine (AllReadyH.cons (o := { dst := some 48, op := Op.load 3 (Operand.tmp 47), type := 3, pos := "l16_texture.go:200", after := #[{ on := 26, ground := Ground.data }], guard := none }) rfl (fun K hK => ?_) AllReadyH.nil)
          refine step_val (.int .i64 S2) WX (by rfl) (by have e9 := HS5.out.c2; go_simp) ?_
          simp only [Act.put, List.setIfInBounds_toArray, List.set_cons_zero, List.set_cons_succ]
          refine hK.out _ _ hH (fun hH' => ?_)
          clear hK K hH' 
          refine wpAnyH_take (i := 38) (oi := { dst := some 59, op := Op.binOp BinOp.add 3 (Operand.tmp 48) (Operand.tmp 58) 3, type := 3, pos := "l16_texture.go:200", after := #[{ on := 27, ground := Ground.data }, { on := 37, ground := Ground.data }], guard := none }) (v := .int .i64 N2) rfl (by kernel_rfl) (by kernel_rfl) (by kernel_rfl) (fun _ _ _ h => h) (Or.inl ⟨by rfl, fun w0 hSw => by (go_simp)⟩) hH ?_
          simp only [Act.put, List.setIfInBounds_toArray, List.set_cons_zero, List.set_cons_succ]
          refine wpAnyH_take (i := 52) (oi := { dst := some 73, op := Op.build 25 #[(0, Operand.tmp 33), (1, Operand.tmp 46), (2, Operand.tmp 59), (3, Operand.tmp 72)], type := 25, pos := "l16_texture.go:200", after := #[{ on := 12, ground := Ground.data }, { on := 25, ground := Ground.data }, { on := 38, ground := Ground.data }, { on := 51, ground := Ground.data }], guard := none }) (v := .agg #[.int .i64 N0, .int .i64 N1, .int .i64 N2, .int .i64 N3]) rfl (by kernel_rfl) (by kernel_rfl) (by kernel_rfl) (fun _ _ _ h => h) (Or.inl ⟨by rfl, fun w0 hSw => by (go_simp)⟩) hH ?_
          simp only [Act.put, List.setIfInBounds_toArray, List.set_cons_zero, List.set_cons_succ]
          refine wpAnyH_ready (rs := [53]) (by kernel_rfl) (by simp) ?_
          refine (AllReadyH.cons (o := { dst := none, op := Op.store 25 (Operand.tmp 9) (Operand.tmp 73), type := 0, pos := "l16_texture.go:200", after := #[{ on := 52, ground := Ground.data }, { on := 0, ground := Ground.phase }, { on := 1, ground := Ground.phase }, { on := 2, ground := Ground.phase }, { on := 3, ground := Ground.phase }, { on := 4, ground := Ground.phase }, { on := 5, ground := Ground.phase }, { on := 6, ground := Ground.phase }, { on := 7, ground := Ground.phase }, { on := 8, ground := Ground.phase }, { on := 9, ground := Ground.phase }, { on := 10, ground := Ground.phase }, { on := 11, ground := Ground.phase }, { on := 12, ground := Ground.phase }, { on := 13, ground := Ground.phase }, { on := 14, ground := Ground.phase }, { on := 15, ground := Ground.phase }, { on := 16, ground := Ground.phase }, { on := 17, ground := Ground.phase }, { on := 18, ground := Ground.phase }, { on := 19, ground := Ground.phase }, { on := 20, ground := Ground.phase }, { on := 21, ground := Ground.phase }, { on := 22, ground := Ground.phase }, { on := 23, ground := Ground.phase }, { on := 24, ground := Ground.phase }, { on := 25, ground := Ground.phase }, { on := 26, ground := Ground.phase }, { on := 27, ground := Ground.phase }, { on := 28, ground := Ground.phase }, { on := 29, ground := Ground.phase }, { on := 30, ground := Ground.phase }, { on := 31, ground := Ground.phase }, { on := 32, ground := Ground.phase }, { on := 33, ground := Ground.phase }, { on := 34, ground := Ground.phase }, { on := 35, ground := Ground.phase }, { on := 36, ground := Ground.phase }, { on := 37, ground := Ground.phase }, { on := 38, ground := Ground.phase }, { on := 39, ground := Ground.phase }, { on := 40, ground := Ground.phase }, { on := 41, ground := Ground.phase }, { on := 42, ground := Ground.phase }, { on := 43, ground := Ground.phase }, { on := 44, ground := Ground.phase }, { on := 45, ground := Ground.phase }, { on := 46, ground := Ground.phase }, { on := 47, ground := Ground.phase }, { on := 48, ground := Ground.phase }, { on := 49, ground := Ground.phase }, { on := 50, ground := Ground.phase }, { on := 51, ground := Ground.phase }, { on := 52, ground := Ground.phase }], guard := none }) rfl (fun K hK => ?_) AllReadyH.nil)
          refine step_skip V9 (by rfl) (by (have f0 := HS5.out.c0); (have f1 := HS5.out.c1); (have f2 := HS5.out.c2); (have f3 := HS5.out.c3); (have f4 := HS5.out.f); rw [← HV9.out]; unfold set4; go_simp) ?_
          simp only [Act.put]
          refine hK.out _ _ HSN.out (fun hH' => ?_)
          clear hK K hH hH' 
          refine wpAnyH_done (by kernel_rfl) ?_ _
          clear HS5 HSN HV9
          go_wp2
          go_roundw
          case rel => exact ⟨k + 1, by omega, by go_num, HMN, RN, BN⟩
          case measure => simp [intOf]; omega
        · refine step_val (.int .i64 S2) WX (by rfl) (by have e9 := HS5.out.c2; go_simp) ?_
          simp only [Act.put, List.setIfInBounds_toArray, List.set_cons_zero, List.set_cons_succ]
          refine hK.out _ _ hH (fun hH' => ?_)
          clear hK K hH' 
          refine wpAnyH_take (i := 38) (oi := { dst := some 59, op := Op.binOp BinOp.add 3 (Operand.tmp 48) (Operand.tmp 58) 3, type := 3, pos := "l16_texture.go:200", after := #[{ on := 27, ground := Ground.data }, { on := 37, ground := Ground.data }], guard := none }) (v := .int .i64 N2) rfl (by kernel_rfl) (by kernel_rfl) (by kernel_rfl) (fun _ _ _ h => h) (Or.inl ⟨by rfl, fun w0 hSw => by (go_simp)⟩) hH ?_
          simp only [Act.put, List.setIfInBounds_toArray, List.set_cons_zero, List.set_cons_succ]
          refine wpAnyH_ready (rs := [14]) (by kernel_rfl) (by simp) ?_
          refine (AllReadyH.cons (o := { dst := some 35, op := Op.load 3 (Operand.tmp 34), type := 3, pos := "l16_texture.go:200", after := #[{ on := 13, ground := Ground.data }], guard := none }) rfl (fun K hK => ?_) AllReadyH.nil)
          refine step_val (.int .i64 S1) WX (by rfl) (by have e9 := HS5.out.c1; go_simp) ?_
          simp only [Act.put, List.setIfInBounds_toArray, List.set_cons_zero, List.set_cons_succ]
          refine hK.out _ _ hH (fun hH' => ?_)
          clear hK K hH' 
          refine wpAnyH_take (i := 25) (oi := { dst := some 46, op := Op.binOp BinOp.add 3 (Operand.tmp 35) (Operand.tmp 45) 3, type := 3, pos := "l16_texture.go:200", after := #[{ on := 14, ground := Ground.data }, { on := 24, ground := Ground.data }], guard := none }) (v := .int .i64 N1) rfl (by kernel_rfl) (by kernel_rfl) (by kernel_rfl) (fun _ _ _ h => h) (Or.inl ⟨by rfl, fun w0 hSw => by (go_simp)⟩) hH ?_
          simp only [Act.put, List.setIfInBounds_toArray, List.set_cons_zero, List.set_cons_succ]
          refine wpAnyH_take (i := 52) (oi := { dst := some 73, op := Op.build 25 #[(0, Operand.tmp 33), (1, Operand.tmp 46), (2, Operand.tmp 59), (3, Operand.tmp 72)], type := 25, pos := "l16_texture.go:200", after := #[{ on := 12, ground := Ground.data }, { on := 25, ground := Ground.data }, { on := 38, ground := Ground.data }, { on := 51, ground := Ground.data }], guard := none }) (v := .agg #[.int .i64 N0, .int .i64 N1, .int .i64 N2, .int .i64 N3]) rfl (by kernel_rfl) (by kernel_rfl) (by kernel_rfl) (fun _ _ _ h => h) (Or.inl ⟨by rfl, fun w0 hSw => by (go_simp)⟩) hH ?_
          simp only [Act.put, List.setIfInBounds_toArray, List.set_cons_zero, List.set_cons_succ]
          refine wpAnyH_ready (rs := [53]) (by kernel_rfl) (by simp) ?_
          refine (AllReadyH.cons (o := { dst := none, op := Op.store 25 (Operand.tmp 9) (Operand.tmp 73), type := 0, pos := "l16_texture.go:200", after := #[{ on := 52, ground := Ground.data }, { on := 0, ground := Ground.phase }, { on := 1, ground := Ground.phase }, { on := 2, ground := Ground.phase }, { on := 3, ground := Ground.phase }, { on := 4, ground := Ground.phase }, { on := 5, ground := Ground.phase }, { on := 6, ground := Ground.phase }, { on := 7, ground := Ground.phase }, { on := 8, ground := Ground.phase }, { on := 9, ground := Ground.phase }, { on := 10, ground := Ground.phase }, { on := 11, ground := Ground.phase }, { on := 12, ground := Ground.phase }, { on := 13, ground := Ground.phase }, { on := 14, ground := Ground.phase }, { on := 15, ground := Ground.phase }, { on := 16, ground := Ground.phase }, { on := 17, ground := Ground.phase }, { on := 18, ground := Ground.phase }, { on := 19, ground := Ground.phase }, { on := 20, ground := Ground.phase }, { on := 21, ground := Ground.phase }, { on := 22, ground := Ground.phase }, { on := 23, ground := Ground.phase }, { on := 24, ground := Ground.phase }, { on := 25, ground := Ground.phase }, { on := 26, ground := Ground.phase }, { on := 27, ground := Ground.phase }, { on := 28, ground := Ground.phase }, { on := 29, ground := Ground.phase }, { on := 30, ground := Ground.phase }, { on := 31, ground := Ground.phase }, { on := 32, ground := Ground.phase }, { on := 33, ground := Ground.phase }, { on := 34, ground := Ground.phase }, { on := 35, ground := Ground.phase }, { on := 36, ground := Ground.phase }, { on := 37, ground := Ground.phase }, { on := 38, ground := Ground.phase }, { on := 39, ground := Ground.phase }, { on := 40, ground := Ground.phase }, { on := 41, ground := Ground.phase }, { on := 42, ground := Ground.phase }, { on := 43, ground := Ground.phase }, { on := 44, ground := Ground.phase }, { on := 45, ground := Ground.phase }, { on := 46, ground := Ground.phase }, { on := 47, ground := Ground.phase }, { on := 48, ground := Ground.phase }, { on := 49, ground := Ground.phase }, { on := 50, ground := Ground.phase }, { on := 51, ground := Ground.phase }, { on := 52, ground := Ground.phase }], guard := none }) rfl (fun K hK => ?_) AllReadyH.nil)
          refine step_skip V9 (by rfl) (by (have f0 := HS5.out.c0); (have f1 := HS5.out.c1); (have f2 := HS5.out.c2); (have f3 := HS5.out.c3); (have f4 := HS5.out.f); rw [← HV9.out]; unfold set4; go_simp) ?_
          simp only [Act.put]
          refine hK.out _ _ HSN.out (fun hH' => ?_)
          clear hK K hH hH' 
          refine wpAnyH_done (by kernel_rfl) ?_ _
          clear HS5 HSN HV9
          go_wp2
          go_roundw
          case rel => exact ⟨k + 1, by omega, by go_num, HMN, RN, BN⟩
          case measure => simp [intOf]; omega
      · refine step_val (.int .i64 S1) WX (by rfl) (by have e9 := HS5.out.c1; go_simp) ?_
        simp only [Act.put, List.setIfInBounds_toArray, List.set_cons_zero, List.set_cons_succ]
        refine hK.out _ _ hH (fun hH' => ?_)
        clear hK K hH' 
        refine wpAnyH_take (i := 25) (oi := { dst := some 46, op := Op.binOp BinOp.add 3 (Operand.tmp 35) (Operand.tmp 45) 3, type := 3, pos := "l16_texture.go:200", after := #[{ on := 14, ground := Ground.data }, { on := 24, ground := Ground.data }], guard := none }) (v := .int .i64 N1) rfl (by kernel_rfl) (by kernel_rfl) (by kernel_rfl) (fun _ _ _ h => h) (Or.inl ⟨by rfl, fun w0 hSw => by (go_simp)⟩) hH ?_
        simp only [Act.put, List.setIfInBounds_toArray, List.set_cons_zero, List.set_cons_succ]
        refine wpAnyH_ready (rs := [1, 27]) (by kernel_rfl) (by simp) ?_
        refine (AllReadyH.cons (o := { dst := some 22, op := Op.load 3 (Operand.tmp 21), type := 3, pos := "l16_texture.go:200", after := #[{ on := 0, ground := Ground.data }], guard := none }) rfl (fun K hK => ?_) (AllReadyH.cons (o := { dst := some 48, op := Op.load 3 (Operand.tmp 47), type := 3, pos := "l16_texture.go:200", after := #[{ on := 26, ground := Ground.data }], guard := none }) rfl (fun K hK => ?_) AllReadyH.nil))
        · refine step_val (.int .i64 S0) WX (by rfl) (by have e9 := HS5.out.c0; go_simp) ?_
          simp only [Act.put, List.setIfInBounds_toArray, List.set_cons_zero, List.set_cons_succ]
          refine hK.out _ _ hH (fun hH' => ?_)
          clear hK K hH' 
          refine wpAnyH_take (i := 12) (oi := { dst := some 33, op := Op.binOp BinOp.add 3 (Operand.tmp 22) (Operand.tmp 32) 3, type := 3, pos := "l16_texture.go:200", after := #[{ on := 1, ground := Ground.data }, { on := 11, ground := Ground.data }], guard := none }) (v := .int .i64 N0) rfl (by kernel_rfl) (by kernel_rfl) (by kernel_rfl) (fun _ _ _ h => h) (Or.inl ⟨by rfl, fun w0 hSw => by (go_simp)⟩) hH ?_
          simp only [Act.put, List.setIfInBounds_toArray, List.set_cons_zero, List.set_cons_succ]
          refine wpAnyH_ready (rs := [27]) (by kernel_rfl) (by simp) ?_
          refine (AllReadyH.cons (o := { dst := some 48, op := Op.load 3 (Operand.tmp 47), type := 3, pos := "l16_texture.go:200", after := #[{ on := 26, ground := Ground.data }], guard := none }) rfl (fun K hK => ?_) AllReadyH.nil)
          refine step_val (.int .i64 S2) WX (by rfl) (by have e9 := HS5.out.c2; go_simp) ?_
          simp only [Act.put, List.setIfInBounds_toArray, List.set_cons_zero, List.set_cons_succ]
          refine hK.out _ _ hH (fun hH' => ?_)
          clear hK K hH' 
          refine wpAnyH_take (i := 38) (oi := { dst := some 59, op := Op.binOp BinOp.add 3 (Operand.tmp 48) (Operand.tmp 58) 3, type := 3, pos := "l16_texture.go:200", after := #[{ on := 27, ground := Ground.data }, { on := 37, ground := Ground.data }], guard := none }) (v := .int .i64 N2) rfl (by kernel_rfl) (by kernel_rfl) (by kernel_rfl) (fun _ _ _ h => h) (Or.inl ⟨by rfl, fun w0 hSw => by (go_simp)⟩) hH ?_
          simp only [Act.put, List.setIfInBounds_toArray, List.set_cons_zero, List.set_cons_succ]
          refine wpAnyH_take (i := 52) (oi := { dst := some 73, op := Op.build 25 #[(0, Operand.tmp 33), (1, Operand.tmp 46), (2, Operand.tmp 59), (3, Operand.tmp 72)], type := 25, pos := "l16_texture.go:200", after := #[{ on := 12, ground := Ground.data }, { on := 25, ground := Ground.data }, { on := 38, ground := Ground.data }, { on := 51, ground := Ground.data }], guard := none }) (v := .agg #[.int .i64 N0, .int .i64 N1, .int .i64 N2, .int .i64 N3]) rfl (by kernel_rfl) (by kernel_rfl) (by kernel_rfl) (fun _ _ _ h => h) (Or.inl ⟨by rfl, fun w0 hSw => by (go_simp)⟩) hH ?_
          simp only [Act.put, List.setIfInBounds_toArray, List.set_cons_zero, List.set_cons_succ]
          refine wpAnyH_ready (rs := [53]) (by kernel_rfl) (by simp) ?_
          refine (AllReadyH.cons (o := { dst := none, op := Op.store 25 (Operand.tmp 9) (Operand.tmp 73), type := 0, pos := "l16_texture.go:200", after := #[{ on := 52, ground := Ground.data }, { on := 0, ground := Ground.phase }, { on := 1, ground := Ground.phase }, { on := 2, ground := Ground.phase }, { on := 3, ground := Ground.phase }, { on := 4, ground := Ground.phase }, { on := 5, ground := Ground.phase }, { on := 6, ground := Ground.phase }, { on := 7, ground := Ground.phase }, { on := 8, ground := Ground.phase }, { on := 9, ground := Ground.phase }, { on := 10, ground := Ground.phase }, { on := 11, ground := Ground.phase }, { on := 12, ground := Ground.phase }, { on := 13, ground := Ground.phase }, { on := 14, ground := Ground.phase }, { on := 15, ground := Ground.phase }, { on := 16, ground := Ground.phase }, { on := 17, ground := Ground.phase }, { on := 18, ground := Ground.phase }, { on := 19, ground := Ground.phase }, { on := 20, ground := Ground.phase }, { on := 21, ground := Ground.phase }, { on := 22, ground := Ground.phase }, { on := 23, ground := Ground.phase }, { on := 24, ground := Ground.phase }, { on := 25, ground := Ground.phase }, { on := 26, ground := Ground.phase }, { on := 27, ground := Ground.phase }, { on := 28, ground := Ground.phase }, { on := 29, ground := Ground.phase }, { on := 30, ground := Ground.phase }, { on := 31, ground := Ground.phase }, { on := 32, ground := Ground.phase }, { on := 33, ground := Ground.phase }, { on := 34, ground := Ground.phase }, { on := 35, ground := Ground.phase }, { on := 36, ground := Ground.phase }, { on := 37, ground := Ground.phase }, { on := 38, ground := Ground.phase }, { on := 39, ground := Ground.phase }, { on := 40, ground := Ground.phase }, { on := 41, ground := Ground.phase }, { on := 42, ground := Ground.phase }, { on := 43, ground := Ground.phase }, { on := 44, ground := Ground.phase }, { on := 45, ground := Ground.phase }, { on := 46, ground := Ground.phase }, { on := 47, ground := Ground.phase }, { on := 48, ground := Ground.phase }, { on := 49, ground := Ground.phase }, { on := 50, ground := Ground.phase }, { on := 51, ground := Ground.phase }, { on := 52, ground := Ground.phase }], guard := none }) rfl (fun K hK => ?_) AllReadyH.nil)
          refine step_skip V9 (by rfl) (by (have f0 := HS5.out.c0); (have f1 := HS5.out.c1); (have f2 := HS5.out.c2); (have f3 := HS5.out.c3); (have f4 := HS5.out.f); rw [← HV9.out]; unfold set4; go_simp) ?_
          simp only [Act.put]
          refine hK.out _ _ HSN.out (fun hH' => ?_)
          clear hK K hH hH' 
          refine wpAnyH_done (by kernel_rfl) ?_ _
          clear HS5 HSN HV9
          go_wp2
          go_roundw
          case rel => exact ⟨k + 1, by omega, by go_num, HMN, RN, BN⟩
          case measure => simp [intOf]; omega
        · refine step_val (.int .i64 S2) WX (by rfl) (by have e9 := HS5.out.c2; go_simp) ?_
          simp only [Act.put, List.setIfInBounds_toArray, List.set_cons_zero, List.set_cons_succ]
          refine hK.out _ _ hH (fun hH' => ?_)
          clear hK K hH' 
          refine wpAnyH_take (i := 38) (oi := { dst := some 59, op := Op.binOp BinOp.add 3 (Operand.tmp 48) (Operand.tmp 58) 3, type := 3, pos := "l16_texture.go:200", after := #[{ on := 27, ground := Ground.data }, { on := 37, ground := Ground.data }], guard := none }) (v := .int .i64 N2) rfl (by kernel_rfl) (by kernel_rfl) (by kernel_rfl) (fun _ _ _ h => h) (Or.inl ⟨by rfl, fun w0 hSw => by (go_simp)⟩) hH ?_
          simp only [Act.put, List.setIfInBounds_toArray, List.set_cons_zero, List.set_cons_succ]
          refine wpAnyH_ready (rs := [1]) (by kernel_rfl) (by simp) ?_
          refine (AllReadyH.cons (o := { dst := some 22, op := Op.load 3 (Operand.tmp 21), type := 3, pos := "l16_texture.go:200", after := #[{ on := 0, ground := Ground.data }], guard := none }) rfl (fun K hK => ?_) AllReadyH.nil)
          refine step_val (.int .i64 S0) WX (by rfl) (by have e9 := HS5.out.c0; go_simp) ?_
          simp only [Act.put, List.setIfInBounds_toArray, List.set_cons_zero, List.set_cons_succ]
          refine hK.out _ _ hH (fun hH' => ?_)
          clear hK K hH' 
          refine wpAnyH_take (i := 12) (oi := { dst := some 33, op := Op.binOp BinOp.add 3 (Operand.tmp 22) (Operand.tmp 32) 3, type := 3, pos := "l16_texture.go:200", after := #[{ on := 1, ground := Ground.data }, { on := 11, ground := Ground.data }], guard := none }) (v := .int .i64 N0) rfl (by kernel_rfl) (by kernel_rfl) (by kernel_rfl) (fun _ _ _ h => h) (Or.inl ⟨by rfl, fun w0 hSw => by (go_simp)⟩) hH ?_
          simp only [Act.put, List.setIfInBounds_toArray, List.set_cons_zero, List.set_cons_succ]
          refine wpAnyH_take (i := 52) (oi := { dst := some 73, op := Op.build 25 #[(0, Operand.tmp 33), (1, Operand.tmp 46), (2, Operand.tmp 59), (3, Operand.tmp 72)], type := 25, pos := "l16_texture.go:200", after := #[{ on := 12, ground := Ground.data }, { on := 25, ground := Ground.data }, { on := 38, ground := Ground.data }, { on := 51, ground := Ground.data }], guard := none }) (v := .agg #[.int .i64 N0, .int .i64 N1, .int .i64 N2, .int .i64 N3]) rfl (by kernel_rfl) (by kernel_rfl) (by kernel_rfl) (fun _ _ _ h => h) (Or.inl ⟨by rfl, fun w0 hSw => by (go_simp)⟩) hH ?_
          simp only [Act.put, List.setIfInBounds_toArray, List.set_cons_zero, List.set_cons_succ]
          refine wpAnyH_ready (rs := [53]) (by kernel_rfl) (by simp) ?_
          refine (AllReadyH.cons (o := { dst := none, op := Op.store 25 (Operand.tmp 9) (Operand.tmp 73), type := 0, pos := "l16_texture.go:200", after := #[{ on := 52, ground := Ground.data }, { on := 0, ground := Ground.phase }, { on := 1, ground := Ground.phase }, { on := 2, ground := Ground.phase }, { on := 3, ground := Ground.phase }, { on := 4, ground := Ground.phase }, { on := 5, ground := Ground.phase }, { on := 6, ground := Ground.phase }, { on := 7, ground := Ground.phase }, { on := 8, ground := Ground.phase }, { on := 9, ground := Ground.phase }, { on := 10, ground := Ground.phase }, { on := 11, ground := Ground.phase }, { on := 12, ground := Ground.phase }, { on := 13, ground := Ground.phase }, { on := 14, ground := Ground.phase }, { on := 15, ground := Ground.phase }, { on := 16, ground := Ground.phase }, { on := 17, ground := Ground.phase }, { on := 18, ground := Ground.phase }, { on := 19, ground := Ground.phase }, { on := 20, ground := Ground.phase }, { on := 21, ground := Ground.phase }, { on := 22, ground := Ground.phase }, { on := 23, ground := Ground.phase }, { on := 24, ground := Ground.phase }, { on := 25, ground := Ground.phase }, { on := 26, ground := Ground.phase }, { on := 27, ground := Ground.phase }, { on := 28, ground := Ground.phase }, { on := 29, ground := Ground.phase }, { on := 30, ground := Ground.phase }, { on := 31, ground := Ground.phase }, { on := 32, ground := Ground.phase }, { on := 33, ground := Ground.phase }, { on := 34, ground := Ground.phase }, { on := 35, ground := Ground.phase }, { on := 36, ground := Ground.phase }, { on := 37, ground := Ground.phase }, { on := 38, ground := Ground.phase }, { on := 39, ground := Ground.phase }, { on := 40, ground := Ground.phase }, { on := 41, ground := Ground.phase }, { on := 42, ground := Ground.phase }, { on := 43, ground := Ground.phase }, { on := 44, ground := Ground.phase }, { on := 45, ground := Ground.phase }, { on := 46, ground := Ground.phase }, { on := 47, ground := Ground.phase }, { on := 48, ground := Ground.phase }, { on := 49, ground := Ground.phase }, { on := 50, ground := Ground.phase }, { on := 51, ground := Ground.phase }, { on := 52, ground := Ground.phase }], guard := none }) rfl (fun K hK => ?_) AllReadyH.nil)
          refine step_skip V9 (by rfl) (by (have f0 := HS5.out.c0); (have f1 := HS5.out.c1); (have f2 := HS5.out.c2); (have f3 := HS5.out.c3); (have f4 := HS5.out.f); rw [← HV9.out]; unfold set4; go_simp) ?_
          simp only [Act.put]
          refine hK.out _ _ HSN.out (fun hH' => ?_)
          clear hK K hH hH' 
          refine wpAnyH_done (by kernel_rfl) ?_ _
          clear HS5 HSN HV9
          go_wp2
          go_roundw
          case rel => exact ⟨k + 1, by omega, by go_num, HMN, RN, BN⟩
          case measure => simp [intOf]; omega
      · refine step_val (.int .i64 S2) WX (by rfl) (by have e9 := HS5.out.c2; go_simp) ?_
        simp only [Act.put, List.setIfInBounds_toArray, List.set_cons_zero, List.set_cons_succ]
        refine hK.out _ _ hH (fun hH' => ?_)
        clear hK K hH' 
        refine wpAnyH_take (i := 38) (oi := { dst := some 59, op := Op.binOp BinOp.add 3 (Operand.tmp 48) (Operand.tmp 58) 3, type := 3, pos := "l16_texture.go:200", after := #[{ on := 27, ground := Ground.data }, { on := 37, ground := Ground.data }], guard := none }) (v := .int .i64 N2) rfl (by kernel_rfl) (by kernel_rfl) (by kernel_rfl) (fun _ _ _ h => h) (Or.inl ⟨by rfl, fun w0 hSw => by (go_simp)⟩) hH ?_
        simp only [Act.put, List.setIfInBounds_toArray, List.set_cons_zero, List.set_cons_succ]
        refine wpAnyH_ready (rs := [1, 14]) (by kernel_rfl) (by simp) ?_
        refine (AllReadyH.cons (o := { dst := some 22, op := Op.load 3 (Operand.tmp 21), type := 3, pos := "l16_texture.go:200", after := #[{ on := 0, ground := Ground.data }], guard := none }) rfl (fun K hK => ?_) (AllReadyH.cons (o := { dst := some 35, op := Op.load 3 (Operand.tmp 34), type := 3, pos := "l16_texture.go:200", after := #[{ on := 13, ground := Ground.data }], guard := none }) rfl (fun K hK => ?_) AllReadyH.nil))
        · refine step_val (.int .i64 S0) WX (by rfl) (by have e9 := HS5.out.c0; go_simp) ?_
          simp only [Act.put, List.setIfInBounds_toArray, List.set_cons_zero, List.set_cons_succ]
          refine hK.out _ _ hH (fun hH' => ?_)
          clear hK K hH' 
          refine wpAnyH_take (i := 12) (oi := { dst := some 33, op := Op.binOp BinOp.add 3 (Operand.tmp 22) (Operand.tmp 32) 3, type := 3, pos := "l16_texture.go:200", after := #[{ on := 1, ground := Ground.data }, { on := 11, ground := Ground.data }], guard := none }) (v := .int .i64 N0) rfl (by kernel_rfl) (by kernel_rfl) (by kernel_rfl) (fun _ _ _ h => h) (Or.inl ⟨by rfl, fun w0 hSw => by (go_simp)⟩) hH ?_
          simp only [Act.put, List.setIfInBounds_toArray, List.set_cons_zero, List.set_cons_succ]
          refine wpAnyH_ready (rs := [14]) (by kernel_rfl) (by simp) ?_
          refine (AllReadyH.cons (o := { dst := some 35, op := Op.load 3 (Operand.tmp 34), type := 3, pos := "l16_texture.go:200", after := #[{ on := 13, ground := Ground.data }], guard := none }) rfl (fun K hK => ?_) AllReadyH.nil)
          refine step_val (.int .i64 S1) WX (by rfl) (by have e9 := HS5.out.c1; go_simp) ?_
          simp only [Act.put, List.setIfInBounds_toArray, List.set_cons_zero, List.set_cons_succ]
          refine hK.out _ _ hH (fun hH' => ?_)
          clear hK K hH' 
          refine wpAnyH_take (i := 25) (oi := { dst := some 46, op := Op.binOp BinOp.add 3 (Operand.tmp 35) (Operand.tmp 45) 3, type := 3, pos := "l16_texture.go:200", after := #[{ on := 14, ground := Ground.data }, { on := 24, ground := Ground.data }], guard := none }) (v := .int .i64 N1) rfl (by kernel_rfl) (by kernel_rfl) (by kernel_rfl) (fun _ _ _ h => h) (Or.inl ⟨by rfl, fun w0 hSw => by (go_simp)⟩) hH ?_
          simp only [Act.put, List.setIfInBounds_toArray, List.set_cons_zero, List.set_cons_succ]
          refine wpAnyH_take (i := 52) (oi := { dst := some 73, op := Op.build 25 #[(0, Operand.tmp 33), (1, Operand.tmp 46), (2, Operand.tmp 59), (3, Operand.tmp 72)], type := 25, pos := "l16_texture.go:200", after := #[{ on := 12, ground := Ground.data }, { on := 25, ground := Ground.data }, { on := 38, ground := Ground.data }, { on := 51, ground := Ground.data }], guard := none }) (v := .agg #[.int .i64 N0, .int .i64 N1, .int .i64 N2, .int .i64 N3]) rfl (by kernel_rfl) (by kernel_rfl) (by kernel_rfl) (fun _ _ _ h => h) (Or.inl ⟨by rfl, fun w0 hSw => by (go_simp)⟩) hH ?_
          simp only [Act.put, List.setIfInBounds_toArray, List.set_cons_zero, List.set_cons_succ]
          refine wpAnyH_ready (rs := [53]) (by kernel_rfl) (by simp) ?_
          refine (AllReadyH.cons (o := { dst := none, op := Op.store 25 (Operand.tmp 9) (Operand.tmp 73), type := 0, pos := "l16_texture.go:200", after := #[{ on := 52, ground := Ground.data }, { on := 0, ground := Ground.phase }, { on := 1, ground := Ground.phase }, { on := 2, ground := Ground.phase }, { on := 3, ground := Ground.phase }, { on := 4, ground := Ground.phase }, { on := 5, ground := Ground.phase }, { on := 6, ground := Ground.phase }, { on := 7, ground := Ground.phase }, { on := 8, ground := Ground.phase }, { on := 9, ground := Ground.phase }, { on := 10, ground := Ground.phase }, { on := 11, ground := Ground.phase }, { on := 12, ground := Ground.phase }, { on := 13, ground := Ground.phase }, { on := 14, ground := Ground.phase }, { on := 15, ground := Ground.phase }, { on := 16, ground := Ground.phase }, { on := 17, ground := Ground.phase }, { on := 18, ground := Ground.phase }, { on := 19, ground := Ground.phase }, { on := 20, ground := Ground.phase }, { on := 21, ground := Ground.phase }, { on := 22, ground := Ground.phase }, { on := 23, ground := Ground.phase }, { on := 24, ground := Ground.phase }, { on := 25, ground := Ground.phase }, { on := 26, ground := Ground.phase }, { on := 27, ground := Ground.phase }, { on := 28, ground := Ground.phase }, { on := 29, ground := Ground.phase }, { on := 30, ground := Ground.phase }, { on := 31, ground := Ground.phase }, { on := 32, ground := Ground.phase }, { on := 33, ground := Ground.phase }, { on := 34, ground := Ground.phase }, { on := 35, ground := Ground.phase }, { on := 36, ground := Ground.phase }, { on := 37, ground := Ground.phase }, { on := 38, ground := Ground.phase }, { on := 39, ground := Ground.phase }, { on := 40, ground := Ground.phase }, { on := 41, ground := Ground.phase }, { on := 42, ground := Ground.phase }, { on := 43, ground := Ground.phase }, { on := 44, ground := Ground.phase }, { on := 45, ground := Ground.phase }, { on := 46, ground := Ground.phase }, { on := 47, ground := Ground.phase }, { on := 48, ground := Ground.phase }, { on := 49, ground := Ground.phase }, { on := 50, ground := Ground.phase }, { on := 51, ground := Ground.phase }, { on := 52, ground := Ground.phase }], guard := none }) rfl (fun K hK => ?_) AllReadyH.nil)
          refine step_skip V9 (by rfl) (by (have f0 := HS5.out.c0); (have f1 := HS5.out.c1); (have f2 := HS5.out.c2); (have f3 := HS5.out.c3); (have f4 := HS5.out.f); rw [← HV9.out]; unfold set4; go_simp) ?_
          simp only [Act.put]
          refine hK.out _ _ HSN.out (fun hH' => ?_)
          clear hK K hH hH' 
          refine wpAnyH_done (by kernel_rfl) ?_ _
          clear HS5 HSN HV9
          go_wp2
          go_roundw
          case rel => exact ⟨k + 1, by omega, by go_num, HMN, RN, BN⟩
          case measure => simp [intOf]; omega
        · refine step_val (.int .i64 S1) WX (by rfl) (by have e9 := HS5.out.c1; go_simp) ?_
          simp only [Act.put, List.setIfInBounds_toArray, List.set_cons_zero, List.set_cons_succ]
          refine hK.out _ _ hH (fun hH' => ?_)
          clear hK K hH' 
          refine wpAnyH_take (i := 25) (oi := { dst := some 46, op := Op.binOp BinOp.add 3 (Operand.tmp 35) (Operand.tmp 45) 3, type := 3, pos := "l16_texture.go:200", after := #[{ on := 14, ground := Ground.data }, { on := 24, ground := Ground.data }], guard := none }) (v := .int .i64 N1) rfl (by kernel_rfl) (by kernel_rfl) (by kernel_rfl) (fun _ _ _ h => h) (Or.inl ⟨by rfl, fun w0 hSw => by (go_simp)⟩) hH ?_
          simp only [Act.put, List.setIfInBounds_toArray, List.set_cons_zero, List.set_cons_succ]
          refine wpAnyH_ready (rs := [1]) (by kernel_rfl) (by simp) ?_
          refine (AllReadyH.cons (o := { dst := some 22, op := Op.load 3 (Operand.tmp 21), type := 3, pos := "l16_texture.go:200", after := #[{ on := 0, ground := Ground.data }], guard := none }) rfl (fun K hK => ?_) AllReadyH.nil)
          refine step_val (.int .i64 S0) WX (by rfl) (by have e9 := HS5.out.c0; go_simp) ?_
          simp only [Act.put, List.setIfInBounds_toArray, List.set_cons_zero, List.set_cons_succ]
          refine hK.out _ _ hH (fun hH' => ?_)
          clear hK K hH' 
          refine wpAnyH_take (i := 12) (oi := { dst := some 33, op := Op.binOp BinOp.add 3 (Operand.tmp 22) (Operand.tmp 32) 3, type := 3, pos := "l16_texture.go:200", after := #[{ on := 1, ground := Ground.data }, { on := 11, ground := Ground.data }], guard := none }) (v := .int .i64 N0) rfl (by kernel_rfl) (by kernel_rfl) (by kernel_rfl) (fun _ _ _ h => h) (Or.inl ⟨by rfl, fun w0 hSw => by (go_simp)⟩) hH ?_
          simp only [Act.put, List.setIfInBounds_toArray, List.set_cons_zero, List.set_cons_succ]
          refine wpAnyH_take (i := 52) (oi := { dst := some 73, op := Op.build 25 #[(0, Operand.tmp 33), (1, Operand.tmp 46), (2, Operand.tmp 59), (3, Operand.tmp 72)], type := 25, pos := "l16_texture.go:200", after := #[{ on := 12, ground := Ground.data }, { on := 25, ground := Ground.data }, { on := 38, ground := Ground.data }, { on := 51, ground := Ground.data }], guard := none }) (v := .agg #[.int .i64 N0, .int .i64 N1, .int .i64 N2, .int .i64 N3]) rfl (by kernel_rfl) (by kernel_rfl) (by kernel_rfl) (fun _ _ _ h => h) (Or.inl ⟨by rfl, fun w0 hSw => by (go_simp)⟩) hH ?_
          simp only [Act.put, List.setIfInBounds_toArray, List.set_cons_zero, List.set_cons_succ]
          refine wpAnyH_ready (rs := [53]) (by kernel_rfl) (by simp) ?_
          refine (AllReadyH.cons (o := { dst := none, op := Op.store 25 (Operand.tmp 9) (Operand.tmp 73), type := 0, pos := "l16_texture.go:200", after := #[{ on := 52, ground := Ground.data }, { on := 0, ground := Ground.phase }, { on := 1, ground := Ground.phase }, { on := 2, ground := Ground.phase }, { on := 3, ground := Ground.phase }, { on := 4, ground := Ground.phase }, { on := 5, ground := Ground.phase }, { on := 6, ground := Ground.phase }, { on := 7, ground := Ground.phase }, { on := 8, ground := Ground.phase }, { on := 9, ground := Ground.phase }, { on := 10, ground := Ground.phase }, { on := 11, ground := Ground.phase }, { on := 12, ground := Ground.phase }, { on := 13, ground := Ground.phase }, { on := 14, ground := Ground.phase }, { on := 15, ground := Ground.phase }, { on := 16, ground := Ground.phase }, { on := 17, ground := Ground.phase }, { on := 18, ground := Ground.phase }, { on := 19, ground := Ground.phase }, { on := 20, ground := Ground.phase }, { on := 21, ground := Ground.phase }, { on := 22, ground := Ground.phase }, { on := 23, ground := Ground.phase }, { on := 24, ground := Ground.phase }, { on := 25, ground := Ground.phase }, { on := 26, ground := Ground.phase }, { on := 27, ground := Ground.phase }, { on := 28, ground := Ground.phase }, { on := 29, ground := Ground.phase }, { on := 30, ground := Ground.phase }, { on := 31, ground := Ground.phase }, { on := 32, ground := Ground.phase }, { on := 33, ground := Ground.phase }, { on := 34, ground := Ground.phase }, { on := 35, ground := Ground.phase }, { on := 36, ground := Ground.phase }, { on := 37, ground := Ground.phase }, { on := 38, ground := Ground.phase }, { on := 39, ground := Ground.phase }, { on := 40, ground := Ground.phase }, { on := 41, ground := Ground.phase }, { on := 42, ground := Ground.phase }, { on := 43, ground := Ground.phase }, { on := 44, ground := Ground.phase }, { on := 45, ground := Ground.phase }, { on := 46, ground := Ground.phase }, { on := 47, ground := Ground.phase }, { on := 48, ground := Ground.phase }, { on := 49, ground := Ground.phase }, { on := 50, ground := Ground.phase }, { on := 51, ground := Ground.phase }, { on := 52, ground := Ground.phase }], guard := none }) rfl (fun K hK => ?_) AllReadyH.nil)
          refine step_skip V9 (by rfl) (by (have f0 := HS5.out.c0); (have f1 := HS5.out.c1); (have f2 := HS5.out.c2); (have f3 := HS5.out.c3); (have f4 := HS5.out.f); rw [← HV9.out]; unfold set4; go_simp) ?_
          simp only [Act.put]
          refine hK.out _ _ HSN.out (fun hH' => ?_)
          clear hK K hH hH' 
          refine wpAnyH_done (by kernel_rfl) ?_ _
          clear HS5 HSN HV9
          go_wp2
          go_roundw
          case rel => exact ⟨k + 1, by omega, by go_num, HMN, RN, BN⟩
          case measure => simp [intOf]; omega
end Go.Proofs.Ythkngcdfnemhaaa
