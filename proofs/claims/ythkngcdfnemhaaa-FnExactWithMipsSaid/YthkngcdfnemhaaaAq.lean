/- The program's blend of colors. -/
import Derived.Test.YthkngcdfnemhaaaAp
namespace Go.Proofs.Ythkngcdfnemhaaa
open Go.ChangeShapes Go.WideShapes Go.ChangeAt Go.RowKit
set_option linter.unusedVariables false
/-- A sum of parts. -/
def sm (f t : Nat → Int) : Nat → Int
  | 0 => 0
  | k + 1 => sm f t k + f k * t k
/-- How many parts there are. -/
def al (t : Nat → Int) : Nat → Int
  | 0 => 0
  | k + 1 => al t k + t k
theorem al_bnd (t : Nat → Int) (n : Nat) (ht : ∀ i, i < n → 0 ≤ t i ∧ t i ≤ 65536) : ∀ k, k ≤ n → 0 ≤ al t k ∧ al t k ≤ 65536 * k
  | 0, _ => ⟨Int.le_refl _, by simp [al]⟩
  | k + 1, h => by
    have h1 := al_bnd t n ht k (by omega)
    have h2 := ht k (by omega)
    rw [al]
    omega
theorem prod_bnd {a b : Int} (a0 : 0 ≤ a) (a1 : a ≤ 255) (b0 : 0 ≤ b) (b1 : b ≤ 65536) : 0 ≤ a * b ∧ a * b ≤ 16711680 := by
  have h0 : 0 ≤ a * b := Int.mul_nonneg a0 b0
  have h1 : a * b ≤ 255 * 65536 := Int.mul_le_mul a1 b1 b0 (by decide)
  omega
theorem sm_bnd (f t : Nat → Int) (n : Nat) (hf : ∀ i, i < n → 0 ≤ f i ∧ f i ≤ 255) (ht : ∀ i, i < n → 0 ≤ t i ∧ t i ≤ 65536) : ∀ k, k ≤ n → 0 ≤ sm f t k ∧ sm f t k ≤ 16711680 * k
  | 0, _ => ⟨Int.le_refl _, by simp [sm]⟩
  | k + 1, h => by
    have h1 := sm_bnd f t n hf ht k (by omega)
    have h2 := hf k (by omega)
    have h3 := ht k (by omega)
    have h4 := prod_bnd h2.1 h2.2 h3.1 h3.2
    rw [sm]
    omega
/-- What blend answers. -/
def blC (n : Nat) (C : Nat → Col) (t : Nat → Int) : Col := ⟨(sm (fun i => (C i).r) t n + al t n / 2) / al t n, (sm (fun i => (C i).g) t n + al t n / 2) / al t n, (sm (fun i => (C i).b) t n + al t n / 2) / al t n, (sm (fun i => (C i).a) t n + al t n / 2) / al t n⟩
/-- A row of portions. -/
def PRow (w : World) (v : Value) (n : Nat) (C : Nat → Col) (t : Nat → Int) : Prop := ∃ g o c, v = .slice (some ⟨g, o, none⟩) n c ∧ ∀ i, i < n → w.cell? ⟨g, o + i * 5, none⟩ = some (.int .i64 (C i).r) ∧ w.cell? ⟨g, o + i * 5 + 1, none⟩ = some (.int .i64 (C i).g) ∧ w.cell? ⟨g, o + i * 5 + 2, none⟩ = some (.int .i64 (C i).b) ∧ w.cell? ⟨g, o + i * 5 + 3, none⟩ = some (.int .i64 (C i).a) ∧ w.cell? ⟨g, o + i * 5 + 4, none⟩ = some (.int .i64 (t i))
/-- A color whose parts are in 0..255. -/
def Col.ok (c : Col) : Prop := (0 ≤ c.r ∧ c.r ≤ 255) ∧ (0 ≤ c.g ∧ c.g ≤ 255) ∧ (0 ≤ c.b ∧ c.b ≤ 255) ∧ (0 ≤ c.a ∧ c.a ≤ 255)
set_option maxRecDepth 100000 in
set_option maxHeartbeats 4000000 in
theorem pblend (n : Nat) (C : Nat → Col) (t : Nat → Int) (v : Value) (w : World) (R : PRow w v n C t) (n4 : n ≤ 4) (hC : ∀ i, i < n → (C i).ok) (ht : ∀ i, i < n → 0 ≤ t i ∧ t i ≤ 65536) (ha : 1 ≤ al t n) : Calls Try.prog 71 #[v] w fun e w' => e = .returned (colV (blC n C t)) ∧ Below w.heap.size w w' := by
  obtain ⟨g, o, cp, rfl, hx⟩ := R
  have HX := Hid.mk hx
  have HC := Hid.mk hC
  have HT := Hid.mk ht
  have HAB := Hid.mk (al_bnd t n ht)
  have HS0 := Hid.mk (sm_bnd (fun i => (C i).r) t n (fun i hi => (hC i hi).1) ht)
  have HS1 := Hid.mk (sm_bnd (fun i => (C i).g) t n (fun i hi => (hC i hi).2.1) ht)
  have HS2 := Hid.mk (sm_bnd (fun i => (C i).b) t n (fun i hi => (hC i hi).2.2.1) ht)
  have HS3 := Hid.mk (sm_bnd (fun i => (C i).a) t n (fun i hi => (hC i hi).2.2.2) ht)
  have HAN := Hid.mk ha
  have HB0 : Hid (Below w.heap.size w ((w.alloc (.cells #[.int .i64 0, .int .i64 0, .int .i64 0, .int .i64 0] 25)).alloc (.cells #[.int .i64 0, .int .i64 0, .int .i64 0, .int .i64 0] 25))) := b2_
  have HR0 : Hid (C4 ((w.alloc (.cells #[.int .i64 0, .int .i64 0, .int .i64 0, .int .i64 0] 25)).alloc (.cells #[.int .i64 0, .int .i64 0, .int .i64 0, .int .i64 0] 25)) w.heap.size (.int .i64 0) (.int .i64 0) (.int .i64 0) (.int .i64 0)) := (C4.new w 25 (.int .i64 0) (.int .i64 0) (.int .i64 0) (.int .i64 0)).next alloc_b
  have HM0 : Hid (C4 ((w.alloc (.cells #[.int .i64 0, .int .i64 0, .int .i64 0, .int .i64 0] 25)).alloc (.cells #[.int .i64 0, .int .i64 0, .int .i64 0, .int .i64 0] 25)) (w.heap.size + 1) (.int .i64 0) (.int .i64 0) (.int .i64 0) (.int .i64 0)) := by
    have h := C4.new (w.alloc (.cells #[.int .i64 0, .int .i64 0, .int .i64 0, .int .i64 0] 25)) 25 (.int .i64 0) (.int .i64 0) (.int .i64 0) (.int .i64 0)
    rwa [World.size_alloc] at h
  clear hx hC ht ha
  unfold colV blC
  go_enter Try.func71, Try.ntmps71
  go_wp2
  go_loopw [4, 10] (fun a i wr => ∃ k : Nat, k ≤ n ∧ i = .int .i64 k ∧ a = .int .i64 (al t k) ∧ Hid (C4 wr (w.heap.size + 1) (.int .i64 (sm (fun i => (C i).r) t k)) (.int .i64 (sm (fun i => (C i).g) t k)) (.int .i64 (sm (fun i => (C i).b) t k)) (.int .i64 (sm (fun i => (C i).a) t k))) ∧ Hid (C4 wr w.heap.size (.int .i64 0) (.int .i64 0) (.int .i64 0) (.int .i64 0)) ∧ Hid (Below w.heap.size w wr)) (fun _ i _ => n - (intOf i).toNat)
  case atStart => exact ⟨0, Nat.zero_le _, rfl, rfl, HM0, HR0, HB0⟩
  case round =>
    obtain ⟨k, hk, rfl, rfl, HM, HR, HB⟩ := hrel
    clear HB0 HR0 HM0
    obtain ⟨al0, al1⟩ := HAB.out k hk
    have ss0 := HS0.out k hk
    have ss1 := HS1.out k hk
    have ss2 := HS2.out k hk
    have ss3 := HS3.out k hk
    by_cases hkn : k < n
    case neg =>
      obtain rfl : n = k := by omega
      have i1 : ¬ (n : Int) < (n : Int) := by omega
      have A1 := HAN.out
      obtain ⟨Q0, hQ0⟩ : ∃ Q, (sm (fun i => (C i).r) t n + al t n / 2) / al t n = Q := ⟨_, rfl⟩
      obtain ⟨Q1, hQ1⟩ : ∃ Q, (sm (fun i => (C i).g) t n + al t n / 2) / al t n = Q := ⟨_, rfl⟩
      obtain ⟨Q2, hQ2⟩ : ∃ Q, (sm (fun i => (C i).b) t n + al t n / 2) / al t n = Q := ⟨_, rfl⟩
      obtain ⟨Q3, hQ3⟩ : ∃ Q, (sm (fun i => (C i).a) t n + al t n / 2) / al t n = Q := ⟨_, rfl⟩
      have HQ := Hid.mk (And.intro hQ0 (And.intro hQ1 (And.intro hQ2 hQ3)))
      generalize sm (fun i => (C i).r) t n = S0 at HM ss0 hQ0
      generalize sm (fun i => (C i).g) t n = S1 at HM ss1 hQ1
      generalize sm (fun i => (C i).b) t n = S2 at HM ss2 hQ2
      generalize sm (fun i => (C i).a) t n = S3 at HM ss3 hQ3
      have HAL := Hid.mk (Eq.refl (al t n))
      generalize al t n = A at al0 al1 A1 hQ0 hQ1 hQ2 hQ3 ⊢
      obtain ⟨H, hH⟩ : ∃ H, A / 2 = H := ⟨_, rfl⟩
      rw [hH] at hQ0 hQ1 hQ2 hQ3
      have dh : A.tdiv 2 = H := by rw [Int.tdiv_eq_ediv_of_nonneg (by omega), hH]
      have h0 : 0 ≤ H ∧ H ≤ 200000 := by omega
      have wh : IntKind.i64.wrap H = H := (IntKind.wrap_i64 _).trans (by omega)
      have nz : ¬ A = 0 := by omega
      have dq0 : (S0 + H).tdiv A = Q0 := by rw [Int.tdiv_eq_ediv_of_nonneg (by omega), hQ0]
      have dq1 : (S1 + H).tdiv A = Q1 := by rw [Int.tdiv_eq_ediv_of_nonneg (by omega), hQ1]
      have dq2 : (S2 + H).tdiv A = Q2 := by rw [Int.tdiv_eq_ediv_of_nonneg (by omega), hQ2]
      have dq3 : (S3 + H).tdiv A = Q3 := by rw [Int.tdiv_eq_ediv_of_nonneg (by omega), hQ3]
      have q0 : 0 ≤ Q0 ∧ Q0 ≤ S0 + H := ⟨by rw [← hQ0]; exact Int.ediv_nonneg (by omega) (by omega), by rw [← hQ0]; exact Int.ediv_le_self _ (by omega)⟩
      have q1 : 0 ≤ Q1 ∧ Q1 ≤ S1 + H := ⟨by rw [← hQ1]; exact Int.ediv_nonneg (by omega) (by omega), by rw [← hQ1]; exact Int.ediv_le_self _ (by omega)⟩
      have q2 : 0 ≤ Q2 ∧ Q2 ≤ S2 + H := ⟨by rw [← hQ2]; exact Int.ediv_nonneg (by omega) (by omega), by rw [← hQ2]; exact Int.ediv_le_self _ (by omega)⟩
      have q3 : 0 ≤ Q3 ∧ Q3 ≤ S3 + H := ⟨by rw [← hQ3]; exact Int.ediv_nonneg (by omega) (by omega), by rw [← hQ3]; exact Int.ediv_le_self _ (by omega)⟩
      have wq0 : IntKind.i64.wrap Q0 = Q0 := (IntKind.wrap_i64 _).trans (by omega)
      have wq1 : IntKind.i64.wrap Q1 = Q1 := (IntKind.wrap_i64 _).trans (by omega)
      have wq2 : IntKind.i64.wrap Q2 = Q2 := (IntKind.wrap_i64 _).trans (by omega)
      have wq3 : IntKind.i64.wrap Q3 = Q3 := (IntKind.wrap_i64 _).trans (by omega)
      clear hH hQ0 hQ1 hQ2 hQ3
      go_wp2
      generalize hWW : wr.drew = WX
      have M2 := HM.out.next (below_drew (Below.refl _ _))
      have R2 := HR.out.next (below_drew (Below.refl _ _))
      have BX := below_drew HB.out
      rw [hWW] at M2 R2 BX
      refine wp_region_held_drew (S := fun v => C4 v (w.heap.size + 1) (.int .i64 S0) (.int .i64 S1) (.int .i64 S2) (.int .i64 S3)) (by kernel_rfl) (by rw [hWW]; exact M2) (fun hH => ?_)
      rw [hWW] at hH ⊢
      clear hWW
      refine wpAnyH_take (i := 0) (oi := { dst := some 61, op := Op.fieldAddr 25 (Operand.tmp 3) 0, type := 0, pos := "l16_texture.go:327", after := #[], guard := none }) (v := .pointer (some ⟨w.heap.size + 1, 0, none⟩)) rfl (by kernel_rfl) (by kernel_rfl) (by kernel_rfl) (fun _ _ _ h => h) (Or.inl ⟨by rfl, fun w0 hSw => by (go_simp)⟩) hH ?_
      simp only [Act.put, List.setIfInBounds_toArray, List.set_cons_zero, List.set_cons_succ]
      refine wpAnyH_take (i := 1) (oi := { dst := some 62, op := Op.load 3 (Operand.tmp 61), type := 3, pos := "l16_texture.go:327", after := #[{ on := 0, ground := Ground.data }], guard := none }) (v := .int .i64 S0) rfl (by kernel_rfl) (by kernel_rfl) (by kernel_rfl) (fun _ _ _ h => h) (Or.inl ⟨by rfl, fun w0 hSw => by ((have e9 := hSw.c0); go_simp)⟩) hH ?_
      simp only [Act.put, List.setIfInBounds_toArray, List.set_cons_zero, List.set_cons_succ]
      refine wpAnyH_take (i := 2) (oi := { dst := some 63, op := Op.move (Operand.tmp 7), type := 3, pos := "l16_texture.go:327", after := #[], guard := none }) (v := .int .i64 H) rfl (by kernel_rfl) (by kernel_rfl) (by kernel_rfl) (fun _ _ _ h => h) (Or.inl ⟨by rfl, fun w0 hSw => by (go_simp)⟩) hH ?_
      simp only [Act.put, List.setIfInBounds_toArray, List.set_cons_zero, List.set_cons_succ]
      refine wpAnyH_take (i := 3) (oi := { dst := some 64, op := Op.binOp BinOp.add 3 (Operand.tmp 62) (Operand.tmp 63) 3, type := 3, pos := "l16_texture.go:327", after := #[{ on := 1, ground := Ground.data }, { on := 2, ground := Ground.data }], guard := none }) (v := .int .i64 (S0 + H)) rfl (by kernel_rfl) (by kernel_rfl) (by kernel_rfl) (fun _ _ _ h => h) (Or.inl ⟨by rfl, fun w0 hSw => by (go_simp <;> first | (intro h; exfalso; omega) | exact (IntKind.wrap_i64 _).trans (by omega) | omega)⟩) hH ?_
      simp only [Act.put, List.setIfInBounds_toArray, List.set_cons_zero, List.set_cons_succ]
      refine wpAnyH_take (i := 4) (oi := { dst := some 65, op := Op.move (Operand.tmp 4), type := 3, pos := "l16_texture.go:327", after := #[], guard := none }) (v := .int .i64 A) rfl (by kernel_rfl) (by kernel_rfl) (by kernel_rfl) (fun _ _ _ h => h) (Or.inl ⟨by rfl, fun w0 hSw => by (go_simp)⟩) hH ?_
      simp only [Act.put, List.setIfInBounds_toArray, List.set_cons_zero, List.set_cons_succ]
      refine wpAnyH_take (i := 5) (oi := { dst := some 66, op := Op.binOp BinOp.quo 3 (Operand.tmp 64) (Operand.tmp 65) 3, type := 3, pos := "l16_texture.go:327", after := #[{ on := 3, ground := Ground.data }, { on := 4, ground := Ground.data }], guard := none }) (v := .int .i64 Q0) rfl (by kernel_rfl) (by kernel_rfl) (by kernel_rfl) (fun _ _ _ h => h) (Or.inl ⟨by rfl, fun w0 hSw => by (go_simp)⟩) hH ?_
      simp only [Act.put, List.setIfInBounds_toArray, List.set_cons_zero, List.set_cons_succ]
      refine wpAnyH_take (i := 6) (oi := { dst := some 67, op := Op.fieldAddr 25 (Operand.tmp 3) 1, type := 0, pos := "l16_texture.go:327", after := #[], guard := none }) (v := .pointer (some ⟨w.heap.size + 1, 1, none⟩)) rfl (by kernel_rfl) (by kernel_rfl) (by kernel_rfl) (fun _ _ _ h => h) (Or.inl ⟨by rfl, fun w0 hSw => by (go_simp)⟩) hH ?_
      simp only [Act.put, List.setIfInBounds_toArray, List.set_cons_zero, List.set_cons_succ]
      refine wpAnyH_take (i := 7) (oi := { dst := some 68, op := Op.load 3 (Operand.tmp 67), type := 3, pos := "l16_texture.go:327", after := #[{ on := 6, ground := Ground.data }], guard := none }) (v := .int .i64 S1) rfl (by kernel_rfl) (by kernel_rfl) (by kernel_rfl) (fun _ _ _ h => h) (Or.inl ⟨by rfl, fun w0 hSw => by ((have e9 := hSw.c1); go_simp)⟩) hH ?_
      simp only [Act.put, List.setIfInBounds_toArray, List.set_cons_zero, List.set_cons_succ]
      refine wpAnyH_take (i := 8) (oi := { dst := some 69, op := Op.move (Operand.tmp 7), type := 3, pos := "l16_texture.go:327", after := #[], guard := none }) (v := .int .i64 H) rfl (by kernel_rfl) (by kernel_rfl) (by kernel_rfl) (fun _ _ _ h => h) (Or.inl ⟨by rfl, fun w0 hSw => by (go_simp)⟩) hH ?_
      simp only [Act.put, List.setIfInBounds_toArray, List.set_cons_zero, List.set_cons_succ]
      refine wpAnyH_take (i := 9) (oi := { dst := some 70, op := Op.binOp BinOp.add 3 (Operand.tmp 68) (Operand.tmp 69) 3, type := 3, pos := "l16_texture.go:327", after := #[{ on := 7, ground := Ground.data }, { on := 8, ground := Ground.data }], guard := none }) (v := .int .i64 (S1 + H)) rfl (by kernel_rfl) (by kernel_rfl) (by kernel_rfl) (fun _ _ _ h => h) (Or.inl ⟨by rfl, fun w0 hSw => by (go_simp <;> first | (intro h; exfalso; omega) | exact (IntKind.wrap_i64 _).trans (by omega) | omega)⟩) hH ?_
      simp only [Act.put, List.setIfInBounds_toArray, List.set_cons_zero, List.set_cons_succ]
      refine wpAnyH_take (i := 10) (oi := { dst := some 71, op := Op.move (Operand.tmp 4), type := 3, pos := "l16_texture.go:327", after := #[], guard := none }) (v := .int .i64 A) rfl (by kernel_rfl) (by kernel_rfl) (by kernel_rfl) (fun _ _ _ h => h) (Or.inl ⟨by rfl, fun w0 hSw => by (go_simp)⟩) hH ?_
      simp only [Act.put, List.setIfInBounds_toArray, List.set_cons_zero, List.set_cons_succ]
      refine wpAnyH_take (i := 11) (oi := { dst := some 72, op := Op.binOp BinOp.quo 3 (Operand.tmp 70) (Operand.tmp 71) 3, type := 3, pos := "l16_texture.go:327", after := #[{ on := 9, ground := Ground.data }, { on := 10, ground := Ground.data }], guard := none }) (v := .int .i64 Q1) rfl (by kernel_rfl) (by kernel_rfl) (by kernel_rfl) (fun _ _ _ h => h) (Or.inl ⟨by rfl, fun w0 hSw => by (go_simp)⟩) hH ?_
      simp only [Act.put, List.setIfInBounds_toArray, List.set_cons_zero, List.set_cons_succ]
      refine wpAnyH_take (i := 12) (oi := { dst := some 73, op := Op.fieldAddr 25 (Operand.tmp 3) 2, type := 0, pos := "l16_texture.go:327", after := #[], guard := none }) (v := .pointer (some ⟨w.heap.size + 1, 2, none⟩)) rfl (by kernel_rfl) (by kernel_rfl) (by kernel_rfl) (fun _ _ _ h => h) (Or.inl ⟨by rfl, fun w0 hSw => by (go_simp)⟩) hH ?_
      simp only [Act.put, List.setIfInBounds_toArray, List.set_cons_zero, List.set_cons_succ]
      refine wpAnyH_take (i := 13) (oi := { dst := some 74, op := Op.load 3 (Operand.tmp 73), type := 3, pos := "l16_texture.go:327", after := #[{ on := 12, ground := Ground.data }], guard := none }) (v := .int .i64 S2) rfl (by kernel_rfl) (by kernel_rfl) (by kernel_rfl) (fun _ _ _ h => h) (Or.inl ⟨by rfl, fun w0 hSw => by ((have e9 := hSw.c2); go_simp)⟩) hH ?_
      simp only [Act.put, List.setIfInBounds_toArray, List.set_cons_zero, List.set_cons_succ]
      refine wpAnyH_take (i := 14) (oi := { dst := some 75, op := Op.move (Operand.tmp 7), type := 3, pos := "l16_texture.go:327", after := #[], guard := none }) (v := .int .i64 H) rfl (by kernel_rfl) (by kernel_rfl) (by kernel_rfl) (fun _ _ _ h => h) (Or.inl ⟨by rfl, fun w0 hSw => by (go_simp)⟩) hH ?_
      simp only [Act.put, List.setIfInBounds_toArray, List.set_cons_zero, List.set_cons_succ]
      refine wpAnyH_take (i := 15) (oi := { dst := some 76, op := Op.binOp BinOp.add 3 (Operand.tmp 74) (Operand.tmp 75) 3, type := 3, pos := "l16_texture.go:327", after := #[{ on := 13, ground := Ground.data }, { on := 14, ground := Ground.data }], guard := none }) (v := .int .i64 (S2 + H)) rfl (by kernel_rfl) (by kernel_rfl) (by kernel_rfl) (fun _ _ _ h => h) (Or.inl ⟨by rfl, fun w0 hSw => by (go_simp <;> first | (intro h; exfalso; omega) | exact (IntKind.wrap_i64 _).trans (by omega) | omega)⟩) hH ?_
      simp only [Act.put, List.setIfInBounds_toArray, List.set_cons_zero, List.set_cons_succ]
      refine wpAnyH_take (i := 16) (oi := { dst := some 77, op := Op.move (Operand.tmp 4), type := 3, pos := "l16_texture.go:327", after := #[], guard := none }) (v := .int .i64 A) rfl (by kernel_rfl) (by kernel_rfl) (by kernel_rfl) (fun _ _ _ h => h) (Or.inl ⟨by rfl, fun w0 hSw => by (go_simp)⟩) hH ?_
      simp only [Act.put, List.setIfInBounds_toArray, List.set_cons_zero, List.set_cons_succ]
      refine wpAnyH_take (i := 17) (oi := { dst := some 78, op := Op.binOp BinOp.quo 3 (Operand.tmp 76) (Operand.tmp 77) 3, type := 3, pos := "l16_texture.go:327", after := #[{ on := 15, ground := Ground.data }, { on := 16, ground := Ground.data }], guard := none }) (v := .int .i64 Q2) rfl (by kernel_rfl) (by kernel_rfl) (by kernel_rfl) (fun _ _ _ h => h) (Or.inl ⟨by rfl, fun w0 hSw => by (go_simp)⟩) hH ?_
      simp only [Act.put, List.setIfInBounds_toArray, List.set_cons_zero, List.set_cons_succ]
      refine wpAnyH_take (i := 18) (oi := { dst := some 79, op := Op.fieldAddr 25 (Operand.tmp 3) 3, type := 0, pos := "l16_texture.go:327", after := #[], guard := none }) (v := .pointer (some ⟨w.heap.size + 1, 3, none⟩)) rfl (by kernel_rfl) (by kernel_rfl) (by kernel_rfl) (fun _ _ _ h => h) (Or.inl ⟨by rfl, fun w0 hSw => by (go_simp)⟩) hH ?_
      simp only [Act.put, List.setIfInBounds_toArray, List.set_cons_zero, List.set_cons_succ]
      refine wpAnyH_take (i := 19) (oi := { dst := some 80, op := Op.load 3 (Operand.tmp 79), type := 3, pos := "l16_texture.go:327", after := #[{ on := 18, ground := Ground.data }], guard := none }) (v := .int .i64 S3) rfl (by kernel_rfl) (by kernel_rfl) (by kernel_rfl) (fun _ _ _ h => h) (Or.inl ⟨by rfl, fun w0 hSw => by ((have e9 := hSw.c3); go_simp)⟩) hH ?_
      simp only [Act.put, List.setIfInBounds_toArray, List.set_cons_zero, List.set_cons_succ]
      refine wpAnyH_take (i := 20) (oi := { dst := some 81, op := Op.move (Operand.tmp 7), type := 3, pos := "l16_texture.go:327", after := #[], guard := none }) (v := .int .i64 H) rfl (by kernel_rfl) (by kernel_rfl) (by kernel_rfl) (fun _ _ _ h => h) (Or.inl ⟨by rfl, fun w0 hSw => by (go_simp)⟩) hH ?_
      simp only [Act.put, List.setIfInBounds_toArray, List.set_cons_zero, List.set_cons_succ]
      refine wpAnyH_take (i := 21) (oi := { dst := some 82, op := Op.binOp BinOp.add 3 (Operand.tmp 80) (Operand.tmp 81) 3, type := 3, pos := "l16_texture.go:327", after := #[{ on := 19, ground := Ground.data }, { on := 20, ground := Ground.data }], guard := none }) (v := .int .i64 (S3 + H)) rfl (by kernel_rfl) (by kernel_rfl) (by kernel_rfl) (fun _ _ _ h => h) (Or.inl ⟨by rfl, fun w0 hSw => by (go_simp <;> first | (intro h; exfalso; omega) | exact (IntKind.wrap_i64 _).trans (by omega) | omega)⟩) hH ?_
      simp only [Act.put, List.setIfInBounds_toArray, List.set_cons_zero, List.set_cons_succ]
      refine wpAnyH_take (i := 22) (oi := { dst := some 83, op := Op.move (Operand.tmp 4), type := 3, pos := "l16_texture.go:327", after := #[], guard := none }) (v := .int .i64 A) rfl (by kernel_rfl) (by kernel_rfl) (by kernel_rfl) (fun _ _ _ h => h) (Or.inl ⟨by rfl, fun w0 hSw => by (go_simp)⟩) hH ?_
      simp only [Act.put, List.setIfInBounds_toArray, List.set_cons_zero, List.set_cons_succ]
      refine wpAnyH_take (i := 23) (oi := { dst := some 84, op := Op.binOp BinOp.quo 3 (Operand.tmp 82) (Operand.tmp 83) 3, type := 3, pos := "l16_texture.go:327", after := #[{ on := 21, ground := Ground.data }, { on := 22, ground := Ground.data }], guard := none }) (v := .int .i64 Q3) rfl (by kernel_rfl) (by kernel_rfl) (by kernel_rfl) (fun _ _ _ h => h) (Or.inl ⟨by rfl, fun w0 hSw => by (go_simp)⟩) hH ?_
      simp only [Act.put, List.setIfInBounds_toArray, List.set_cons_zero, List.set_cons_succ]
      refine wpAnyH_take (i := 24) (oi := { dst := some 85, op := Op.build 25 #[(0, Operand.tmp 66), (1, Operand.tmp 72), (2, Operand.tmp 78), (3, Operand.tmp 84)], type := 25, pos := "l16_texture.go:327", after := #[{ on := 5, ground := Ground.data }, { on := 11, ground := Ground.data }, { on := 17, ground := Ground.data }, { on := 23, ground := Ground.data }], guard := none }) (v := .agg #[.int .i64 Q0, .int .i64 Q1, .int .i64 Q2, .int .i64 Q3]) rfl (by kernel_rfl) (by kernel_rfl) (by kernel_rfl) (fun _ _ _ h => h) (Or.inl ⟨by rfl, fun w0 hSw => by (go_simp)⟩) hH ?_
      simp only [Act.put, List.setIfInBounds_toArray, List.set_cons_zero, List.set_cons_succ]
      refine wpAnyH_ready (rs := [25]) (by kernel_rfl) (by simp) ?_
      refine (AllReadyH.cons (o := { dst := none, op := Op.store 25 (Operand.tmp 2) (Operand.tmp 85), type := 0, pos := "l16_texture.go:327", after := #[{ on := 24, ground := Ground.data }, { on := 0, ground := Ground.phase }, { on := 1, ground := Ground.phase }, { on := 2, ground := Ground.phase }, { on := 3, ground := Ground.phase }, { on := 4, ground := Ground.phase }, { on := 5, ground := Ground.phase }, { on := 6, ground := Ground.phase }, { on := 7, ground := Ground.phase }, { on := 8, ground := Ground.phase }, { on := 9, ground := Ground.phase }, { on := 10, ground := Ground.phase }, { on := 11, ground := Ground.phase }, { on := 12, ground := Ground.phase }, { on := 13, ground := Ground.phase }, { on := 14, ground := Ground.phase }, { on := 15, ground := Ground.phase }, { on := 16, ground := Ground.phase }, { on := 17, ground := Ground.phase }, { on := 18, ground := Ground.phase }, { on := 19, ground := Ground.phase }, { on := 20, ground := Ground.phase }, { on := 21, ground := Ground.phase }, { on := 22, ground := Ground.phase }, { on := 23, ground := Ground.phase }, { on := 24, ground := Ground.phase }], guard := none }) rfl (fun K hK => ?_) AllReadyH.nil)
      have D8 := R2
      have s0 := D8.c0
      have s1 := D8.c1
      have s2 := D8.c2
      have s3 := D8.c3
      have sf := D8.f
      refine step_skip (set4 WX w.heap.size (.int .i64 Q0) (.int .i64 Q1) (.int .i64 Q2) (.int .i64 Q3)) (by rfl) (by unfold set4; go_simp) ?_
      have D9 := D8.put (.int .i64 Q0) (.int .i64 Q1) (.int .i64 Q2) (.int .i64 Q3)
      have O9 := only_set4 WX w.heap.size (.int .i64 Q0) (.int .i64 Q1) (.int .i64 Q2) (.int .i64 Q3)
      have B9 : Below w.heap.size w (set4 WX w.heap.size (.int .i64 Q0) (.int .i64 Q1) (.int .i64 Q2) (.int .i64 Q3)) := BX.trans (O9.below (Nat.le_refl _) BX.size)
      refine hK.out _ _ (M2.block (O9.block _ M2.hi (by omega)) O9.size) (fun hH' => ?_)
      clear hK K hH hH' s0 s1 s2 s3 sf D8
      refine wpAnyH_done (by kernel_rfl) ?_ _
      clear O9
      go_wp2
      generalize set4 WX w.heap.size (.int .i64 Q0) (.int .i64 Q1) (.int .i64 Q2) (.int .i64 Q3) = V at D9 B9 ⊢
      have r0 := D9.c0
      have r1 := D9.c1
      have r2 := D9.c2
      have r3 := D9.c3
      exact bodyPost_ret (v := .agg #[.int .i64 Q0, .int .i64 Q1, .int .i64 Q2, .int .i64 Q3]) (by simp [results, Try.results71, go_sem, r0, r1, r2, r3]) rfl ⟨by rw [HQ.out.1, HQ.out.2.1, HQ.out.2.2.1, HQ.out.2.2.2], B9⟩
    have i1 : (k : Int) < (n : Int) := by omega
    have i0 : (0 : Int) ≤ (k : Int) := by omega
    obtain ⟨p0, p1, p2, p3, p4⟩ := HX.out k hkn
    have hg := World.block_lt_of_cell? _ _ p0
    have p0 := (HB.out.cell (p := ⟨g, o + k * 5, none⟩) hg).trans p0
    have p1 := (HB.out.cell (p := ⟨g, o + k * 5 + 1, none⟩) hg).trans p1
    have p2 := (HB.out.cell (p := ⟨g, o + k * 5 + 2, none⟩) hg).trans p2
    have p3 := (HB.out.cell (p := ⟨g, o + k * 5 + 3, none⟩) hg).trans p3
    have p4 := (HB.out.cell (p := ⟨g, o + k * 5 + 4, none⟩) hg).trans p4
    obtain ⟨o0, o1, o2, o3⟩ := HC.out k hkn
    obtain ⟨t0, t1⟩ := HT.out k hkn
    obtain ⟨N0, hN0⟩ : ∃ N, sm (fun i => (C i).r) t (k + 1) = N := ⟨_, rfl⟩
    obtain ⟨N1, hN1⟩ : ∃ N, sm (fun i => (C i).g) t (k + 1) = N := ⟨_, rfl⟩
    obtain ⟨N2, hN2⟩ : ∃ N, sm (fun i => (C i).b) t (k + 1) = N := ⟨_, rfl⟩
    obtain ⟨N3, hN3⟩ : ∃ N, sm (fun i => (C i).a) t (k + 1) = N := ⟨_, rfl⟩
    obtain ⟨A1, hA1⟩ : ∃ N, al t (k + 1) = N := ⟨_, rfl⟩
    have HNN := Hid.mk (And.intro hN0 (And.intro hN1 (And.intro hN2 (And.intro hN3 hA1))))
    have HE : Hid (N0 = sm (fun i => (C i).r) t k + (C k).r * t k ∧ N1 = sm (fun i => (C i).g) t k + (C k).g * t k ∧ N2 = sm (fun i => (C i).b) t k + (C k).b * t k ∧ N3 = sm (fun i => (C i).a) t k + (C k).a * t k ∧ A1 = al t k + t k) := ⟨hN0.symm, hN1.symm, hN2.symm, hN3.symm, hA1.symm⟩
    clear hN0 hN1 hN2 hN3 hA1
    generalize sm (fun i => (C i).r) t k = S0 at HM ss0 HE
    generalize sm (fun i => (C i).g) t k = S1 at HM ss1 HE
    generalize sm (fun i => (C i).b) t k = S2 at HM ss2 HE
    generalize sm (fun i => (C i).a) t k = S3 at HM ss3 HE
    generalize al t k = A at al0 al1 HE ⊢
    generalize t k = tt at p4 t0 t1 HE
    generalize (C k).r = c0 at p0 o0 HE
    generalize (C k).g = c1 at p1 o1 HE
    generalize (C k).b = c2 at p2 o2 HE
    generalize (C k).a = c3 at p3 o3 HE
    obtain ⟨E0, E1, E2, E3, EA⟩ := HE.out
    have b0 := prod_bnd o0.1 o0.2 t0 t1
    have b1 := prod_bnd o1.1 o1.2 t0 t1
    have b2 := prod_bnd o2.1 o2.2 t0 t1
    have b3 := prod_bnd o3.1 o3.2 t0 t1
    have m0 : IntKind.i64.wrap (c0 * tt) = c0 * tt := (IntKind.wrap_i64 _).trans (by omega)
    have m1 : IntKind.i64.wrap (c1 * tt) = c1 * tt := (IntKind.wrap_i64 _).trans (by omega)
    have m2 : IntKind.i64.wrap (c2 * tt) = c2 * tt := (IntKind.wrap_i64 _).trans (by omega)
    have m3 : IntKind.i64.wrap (c3 * tt) = c3 * tt := (IntKind.wrap_i64 _).trans (by omega)
    have a0 : IntKind.i64.wrap (S0 + c0 * tt) = N0 := by rw [E0]; exact (IntKind.wrap_i64 _).trans (by omega)
    have a1 : IntKind.i64.wrap (S1 + c1 * tt) = N1 := by rw [E1]; exact (IntKind.wrap_i64 _).trans (by omega)
    have a2 : IntKind.i64.wrap (S2 + c2 * tt) = N2 := by rw [E2]; exact (IntKind.wrap_i64 _).trans (by omega)
    have a3 : IntKind.i64.wrap (S3 + c3 * tt) = N3 := by rw [E3]; exact (IntKind.wrap_i64 _).trans (by omega)
    have aa : IntKind.i64.wrap (A + tt) = A1 := by rw [EA]; exact (IntKind.wrap_i64 _).trans (by omega)
    clear E0 E1 E2 E3 EA HE b0 b1 b2 b3 ss0 ss1 ss2 ss3 o0 o1 o2 o3
    have MS := HM.out
    have O9 := only_set4 wr (w.heap.size + 1) (.int .i64 N0) (.int .i64 N1) (.int .i64 N2) (.int .i64 N3)
    have MN := (MS.put (.int .i64 N0) (.int .i64 N1) (.int .i64 N2) (.int .i64 N3)).next (alloc_b (o := (.cells #[.int .i64 c0, .int .i64 c1, .int .i64 c2, .int .i64 c3, .int .i64 tt] 96)))
    have RS := HR.out
    have RN := Hid.mk ((RS.block (O9.block _ RS.hi (by omega)) O9.size).next (alloc_b (o := (.cells #[.int .i64 c0, .int .i64 c1, .int .i64 c2, .int .i64 c3, .int .i64 tt] 96))))
    have BN0 := HB.out.trans (O9.below (by omega) HB.out.size)
    have BN := Hid.mk (BN0.alloc BN0.size (.cells #[.int .i64 c0, .int .i64 c1, .int .i64 c2, .int .i64 c3, .int .i64 tt] 96))
    have HMN := Hid.mk MN
    unfold set4 at RN BN HMN
    have s0 := MS.c0
    have s1 := MS.c1
    have s2 := MS.c2
    have s3 := MS.c3
    have sf := MS.f
    have sh := MS.hi
    clear MS RS MN O9 BN0 HM HR HB
    go_wp2
    go_roundw
    case rel => exact ⟨k + 1, by omega, by go_num, by rw [HNN.out.2.2.2.2], by rw [HNN.out.1, HNN.out.2.1, HNN.out.2.2.1, HNN.out.2.2.2.1]; exact HMN, RN, BN⟩
    case measure => simp [intOf]; omega
end Go.Proofs.Ythkngcdfnemhaaa
