/- Hits compared: by when, then by number. -/
import Derived.Test.YtngmaeinehfimaaMd
import Derived.Test.YtngmaeinehfimaaLj
import Derived.Sort.Grow
import Derived.Deep.Draws
namespace Go.Proofs.Ytngmaeinehfimaa
open Go.ChangeShapes Go.WideShapes Go.ChangeAt Go.RowKit
set_option linter.unusedVariables false
/-- What a call leaves that turns nothing that was there: blocks of its own, and draws. -/
structure Gr (w w' : World) : Prop where
  b : Below w.heap.size w w'
  d : w.drawn ≤ w'.drawn
theorem Gr.refl (w : World) : Gr w w := ⟨Below.refl _ _, Nat.le_refl _⟩
theorem Gr.trans {a b c : World} (h : Gr a b) (k : Gr b c) : Gr a c := ⟨h.b.trans (k.b.mono h.b.size), Nat.le_trans h.d k.d⟩
theorem Gr.alloc {a b : World} (h : Gr a b) (o : Obj) : Gr a (b.alloc o) := ⟨h.b.alloc h.b.size o, h.d⟩
theorem Gr.drew {a b : World} (h : Gr a b) : Gr a b.drew := ⟨below_drew h.b, Nat.le_trans h.d (Nat.le_succ _)⟩
theorem Gr.setCell {a b : World} (h : Gr a b) {p : Addr} (hp : a.heap.size ≤ p.block) (v : Value) : Gr a (b.setCell p v) := by
  refine ⟨h.b.setCell hp v, Nat.le_trans h.d (Nat.le_of_eq ?_)⟩
  simp
theorem Gr.grow {w w' : World} (h : Gr w w') : ∃ q os, w' = Go.Sort.grow (w.drewN q) os := by
  refine ⟨w'.drawn - w.drawn, w'.heap.extract w.heap.size w'.heap.size, ?_⟩
  have h1 := h.b.os
  have h2 := h.b.tape
  have h3 := h.b.output
  have h4 : w'.heap = w.heap ++ w'.heap.extract w.heap.size w'.heap.size := by
    apply Array.ext_getElem?
    intro k
    by_cases hk : k < w.heap.size
    · rw [h.b.block k hk, Array.getElem?_append_left hk]
    · rw [Array.getElem?_append_right (by omega)]
      have hs := h.b.size
      by_cases hk2 : k < w'.heap.size
      · rw [Array.getElem?_extract, if_pos (by omega), show w.heap.size + (k - w.heap.size) = k from by omega]
      · rw [Array.getElem?_eq_none (by omega), Array.getElem?_eq_none (by simp; omega)]
  have h5 : w'.drawn = w.drawn + (w'.drawn - w.drawn) := by have := h.d; omega
  generalize w'.heap.extract w.heap.size w'.heap.size = os at h4 ⊢
  generalize w'.drawn - w.drawn = q at h5 ⊢
  clear h
  cases w
  cases w'
  simp only [Go.Sort.grow, World.drewN] at *
  subst h1 h2 h3 h4 h5
  rfl
set_option maxHeartbeats 2000000 in
theorem pcompareG (n d m e : Int) (w : World) (h : MB n d) (k : MB m e) : Calls Try.prog 83 #[.agg #[.int .i64 n, .int .i64 d], .agg #[.int .i64 m, .int .i64 e]] w fun r w' => r = .returned (.int .i64 (cmS (n * e) (m * d))) ∧ Gr w w' := by
  have b1 := mb_mul h k
  have b2 := mb_mul k h
  have HC := Hid.mk (pcmp (n * e) (m * d))
  generalize cmS (n * e) (m * d) = s at HC ⊢
  have e1 : IntKind.i64.wrap (n * e) = n * e := (IntKind.wrap_i64 _).trans (by omega)
  have e2 : IntKind.i64.wrap (m * d) = m * d := (IntKind.wrap_i64 _).trans (by omega)
  clear h k
  go_enter Try.func83, Try.ntmps83
  go_wp2_with (go_at_call 93; refine (HC.out _).mono ?_; rintro r w2 ⟨rfl, hw⟩; subst w2)
  go_ret
  exact ⟨rfl, ((Gr.refl _).alloc _).alloc _⟩
set_option maxHeartbeats 2000000 in
theorem pmoment (b n d : Int) (w : World) : Calls Try.prog 97 #[.agg #[.int .i64 b, .int .i64 n, .int .i64 d]] w fun r w' => r = .returned (.agg #[.int .i64 n, .int .i64 d]) ∧ Gr w w' := by
  go_enter Try.func97, Try.ntmps97
  go_wp2
  exact bodyPost_ret (v := .agg #[.int .i64 n, .int .i64 d]) (by simp [results, Try.results97, go_sem]) rfl ⟨rfl, ((Gr.refl _).alloc _).alloc _⟩
set_option maxHeartbeats 2000000 in
theorem por (a b : Int) (g : Nat) (w : World) (h0 : w.cell? ⟨g, 0, none⟩ = some (.int .i64 a)) (h1 : w.cell? ⟨g, 1, none⟩ = some (.int .i64 b)) : Calls Try.prog 92 #[.slice (some ⟨g, 0, none⟩) 2 2] w fun r w' => r = .returned (.int .i64 (if a = 0 then b else a)) ∧ Gr w w' := by
  by_cases ha : a = 0
  · subst ha
    rw [if_pos rfl]
    by_cases hb : b = 0
    · subst hb
      go_enter Try.func92, Try.ntmps92
      go_wp2
      go_loopw [8] (fun i wr => ∃ k : Nat, k ≤ 2 ∧ i = .int .i64 k ∧ wr = w) (fun i _ => 2 - (intOf i).toNat)
      case atStart => exact ⟨0, by omega, rfl, rfl⟩
      case round =>
        obtain ⟨k, hk, rfl, rfl⟩ := hrel
        match k, hk with
        | 0, _ =>
          go_wp2
          go_roundw
          case rel => exact ⟨1, by omega, by go_num, trivial⟩
          case measure => simp [intOf]
        | 1, _ =>
          go_wp2
          go_roundw
          case rel => exact ⟨2, by omega, by go_num, trivial⟩
          case measure => simp [intOf]
        | 2, _ =>
          go_wp2
          go_ret
          exact ⟨rfl, Gr.refl _⟩
    · have hb2 : (b == 0) = false := by simp [hb]
      go_enter Try.func92, Try.ntmps92
      go_wp2
      go_loopw [8] (fun i wr => ∃ k : Nat, k ≤ 1 ∧ i = .int .i64 k ∧ wr = w) (fun i _ => 2 - (intOf i).toNat)
      case atStart => exact ⟨0, by omega, rfl, rfl⟩
      case round =>
        obtain ⟨k, hk, rfl, rfl⟩ := hrel
        match k, hk with
        | 0, _ =>
          go_wp2
          go_roundw
          case rel => exact ⟨1, by omega, by go_num, trivial⟩
          case measure => simp [intOf]
        | 1, _ =>
          go_wp2
          go_ret
          exact ⟨rfl, Gr.refl _⟩
  · rw [if_neg ha]
    have ha2 : (a == 0) = false := by simp [ha]
    go_enter Try.func92, Try.ntmps92
    go_wp2
    refine wp_loop_rounds 1 ?_
    rw [rounds_succ]
    go_wp2
    go_ret
    exact ⟨rfl, Gr.refl _⟩
/-- How two hits compare. -/
def cfI (b1 n1 d1 b2 n2 d2 : Int) : Int := if cmS (n1 * d2) (n2 * d1) = 0 then cmS b1 b2 else cmS (n1 * d2) (n2 * d1)
set_option maxRecDepth 100000 in
set_option maxHeartbeats 4000000 in
theorem pcmpH (b1 n1 d1 b2 n2 d2 : Int) (w : World) (h : MB n1 d1) (k : MB n2 d2) : Calls Try.prog 76 #[.agg #[.int .i64 b1, .int .i64 n1, .int .i64 d1], .agg #[.int .i64 b2, .int .i64 n2, .int .i64 d2]] w fun r w' => r = .returned (.int .i64 (cfI b1 n1 d1 b2 n2 d2)) ∧ Gr w w' := by
  have HC1 : Hid (∀ v : World, Calls Try.prog 83 #[.agg #[.int .i64 n1, .int .i64 d1], .agg #[.int .i64 n2, .int .i64 d2]] v fun r w' => r = .returned (.int .i64 (cmS (n1 * d2) (n2 * d1))) ∧ Gr v w') := fun v => pcompareG n1 d1 n2 d2 v h k
  have HC2 : Hid (∀ v : World, Calls Try.prog 93 #[.int .i64 b1, .int .i64 b2] v fun r w' => r = .returned (.int .i64 (cmS b1 b2)) ∧ Gr v w') := fun v => (pcmp b1 b2 v).mono fun r w' ⟨h1, h2⟩ => ⟨h1, by rw [h2]; exact Gr.refl _⟩
  unfold cfI
  generalize cmS (n1 * d2) (n2 * d1) = s1 at HC1 ⊢
  generalize cmS b1 b2 = s2 at HC2 ⊢
  have HOR : Hid (∀ (g : Nat) (v : World), v.cell? ⟨g, 0, none⟩ = some (.int .i64 s1) → v.cell? ⟨g, 1, none⟩ = some (.int .i64 s2) → Calls Try.prog 92 #[.slice (some ⟨g, 0, none⟩) 2 2] v fun r w' => r = .returned (.int .i64 (if s1 = 0 then s2 else s1)) ∧ Gr v w') := fun g v h0 h1 => por s1 s2 g v h0 h1
  generalize (if s1 = 0 then s2 else s1) = s3 at HOR ⊢
  clear h k
  obtain ⟨W0, hW0⟩ : ∃ W0, ((w.alloc (.cells #[.int .i64 b1, .int .i64 n1, .int .i64 d1] 45)).alloc (.cells #[.int .i64 b2, .int .i64 n2, .int .i64 d2] 45)) = W0 := ⟨_, rfl⟩
  have GW : Gr w W0 := by rw [← hW0]; exact ((Gr.refl _).alloc _).alloc _
  have X1 : C3 W0 w.heap.size (.int .i64 b1) (.int .i64 n1) (.int .i64 d1) := by rw [← hW0]; exact (C3.new w _ _ _ _).next alloc_b
  have X2 : C3 W0 (w.heap.size + 1) (.int .i64 b2) (.int .i64 n2) (.int .i64 d2) := by
    have h := C3.new (w.alloc (.cells #[.int .i64 b1, .int .i64 n1, .int .i64 d1] 45)) 45 (.int .i64 b2) (.int .i64 n2) (.int .i64 d2)
    rw [hW0] at h
    simpa only [World.size_alloc] using h
  go_enter Try.func76, Try.ntmps76
  go_wp2
  generalize hWW : W0.drew = WX
  have GX : Gr w WX := by rw [← hWW]; exact GW.drew
  have BX : Below W0.heap.size W0 WX := by rw [← hWW]; exact below_drew (Below.refl _ _)
  replace X1 := X1.next BX
  replace X2 := X2.next BX
  clear hW0 GW BX
  refine wp_region_held_drew (S := fun v => Gr WX v) (by kernel_rfl) (by rw [hWW]; exact Gr.refl _) (fun hH => ?_)
  rw [hWW] at hH ⊢
  clear hWW
  refine wpAnyH_take (i := 0) (oi := { dst := some 5, op := Op.load 45 (Operand.tmp 2), type := 45, pos := "l18_rays.go:171", after := #[], guard := none }) (v := .agg #[.int .i64 b1, .int .i64 n1, .int .i64 d1]) rfl (by kernel_rfl) (by kernel_rfl) (by kernel_rfl) (fun _ _ _ h => h) (Or.inl ⟨by rfl, fun w0 hSw => by ((have e0 := cell_nx X1.c0 hSw.b); (have e1 := cell_nx X1.c1 hSw.b); (have e2 := cell_nx X1.c2 hSw.b); go_simp)⟩) hH ?_
  simp only [Act.put, List.setIfInBounds_toArray, List.set_cons_zero, List.set_cons_succ]
  refine wpAnyH_take (i := 2) (oi := { dst := some 7, op := Op.load 45 (Operand.tmp 3), type := 45, pos := "l18_rays.go:171", after := #[], guard := none }) (v := .agg #[.int .i64 b2, .int .i64 n2, .int .i64 d2]) rfl (by kernel_rfl) (by kernel_rfl) (by kernel_rfl) (fun _ _ _ h => h) (Or.inl ⟨by rfl, fun w0 hSw => by ((have e0 := cell_nx X2.c0 hSw.b); (have e1 := cell_nx X2.c1 hSw.b); (have e2 := cell_nx X2.c2 hSw.b); go_simp)⟩) hH ?_
  simp only [Act.put, List.setIfInBounds_toArray, List.set_cons_zero, List.set_cons_succ]
  refine wpAnyH_take (i := 5) (oi := { dst := some 10, op := Op.fieldAddr 45 (Operand.tmp 2) 0, type := 0, pos := "l18_rays.go:171", after := #[], guard := none }) (v := .pointer (some ⟨w.heap.size, 0, none⟩)) rfl (by kernel_rfl) (by kernel_rfl) (by kernel_rfl) (fun _ _ _ h => h) (Or.inl ⟨by rfl, fun w0 hSw => by (go_simp)⟩) hH ?_
  simp only [Act.put, List.setIfInBounds_toArray, List.set_cons_zero, List.set_cons_succ]
  refine wpAnyH_take (i := 6) (oi := { dst := some 11, op := Op.load 3 (Operand.tmp 10), type := 3, pos := "l18_rays.go:171", after := #[{ on := 5, ground := Ground.data }], guard := none }) (v := .int .i64 b1) rfl (by kernel_rfl) (by kernel_rfl) (by kernel_rfl) (fun _ _ _ h => h) (Or.inl ⟨by rfl, fun w0 hSw => by ((have e0 := cell_nx X1.c0 hSw.b); go_simp)⟩) hH ?_
  simp only [Act.put, List.setIfInBounds_toArray, List.set_cons_zero, List.set_cons_succ]
  refine wpAnyH_take (i := 7) (oi := { dst := some 12, op := Op.fieldAddr 45 (Operand.tmp 3) 0, type := 0, pos := "l18_rays.go:171", after := #[], guard := none }) (v := .pointer (some ⟨w.heap.size + 1, 0, none⟩)) rfl (by kernel_rfl) (by kernel_rfl) (by kernel_rfl) (fun _ _ _ h => h) (Or.inl ⟨by rfl, fun w0 hSw => by (go_simp)⟩) hH ?_
  simp only [Act.put, List.setIfInBounds_toArray, List.set_cons_zero, List.set_cons_succ]
  refine wpAnyH_take (i := 8) (oi := { dst := some 13, op := Op.load 3 (Operand.tmp 12), type := 3, pos := "l18_rays.go:171", after := #[{ on := 7, ground := Ground.data }], guard := none }) (v := .int .i64 b2) rfl (by kernel_rfl) (by kernel_rfl) (by kernel_rfl) (fun _ _ _ h => h) (Or.inl ⟨by rfl, fun w0 hSw => by ((have e0 := cell_nx X2.c0 hSw.b); go_simp)⟩) hH ?_
  simp only [Act.put, List.setIfInBounds_toArray, List.set_cons_zero, List.set_cons_succ]
  refine wpAnyH_ready (rs := [1]) (by kernel_rfl) (by simp) ?_
  refine (AllReadyH.cons (o := { dst := some 6, op := Op.call { callee := Callee.value (Operand.func 97), args := #[Operand.tmp 5], argTypes := #[45] }, type := 85, pos := "l18_rays.go:171", after := #[{ on := 0, ground := Ground.data }], guard := none }) rfl (fun K hK => ?_) AllReadyH.nil)
  refine step_callW 97 #[.agg #[.int .i64 b1, .int .i64 n1, .int .i64 d1]] (fun z v w9 => z = .agg #[.int .i64 n1, .int .i64 d1] ∧ Gr v w9) (by rfl) (by go_simp) ((pmoment b1 n1 d1 _).mono fun e w9 ⟨h1, h2⟩ => ⟨_, h1, rfl, h2⟩) ?_
  rintro z9 w9 ⟨rfl, B9⟩
  simp only [Act.put, List.setIfInBounds_toArray, List.set_cons_zero, List.set_cons_succ]
  refine hK.out _ _ (hH.trans B9) (fun hH' => ?_)
  clear hK K
  replace hH := hH'
  clear hH' B9
  refine wpAnyH_ready (rs := [3]) (by kernel_rfl) (by simp) ?_
  refine (AllReadyH.cons (o := { dst := some 8, op := Op.call { callee := Callee.value (Operand.func 97), args := #[Operand.tmp 7], argTypes := #[45] }, type := 85, pos := "l18_rays.go:171", after := #[{ on := 2, ground := Ground.data }, { on := 1, ground := Ground.chain }], guard := none }) rfl (fun K hK => ?_) AllReadyH.nil)
  refine step_callW 97 #[.agg #[.int .i64 b2, .int .i64 n2, .int .i64 d2]] (fun z v w9 => z = .agg #[.int .i64 n2, .int .i64 d2] ∧ Gr v w9) (by rfl) (by go_simp) ((pmoment b2 n2 d2 _).mono fun e w9 ⟨h1, h2⟩ => ⟨_, h1, rfl, h2⟩) ?_
  rintro z9 w9 ⟨rfl, B9⟩
  simp only [Act.put, List.setIfInBounds_toArray, List.set_cons_zero, List.set_cons_succ]
  refine hK.out _ _ (hH.trans B9) (fun hH' => ?_)
  clear hK K
  replace hH := hH'
  clear hH' B9
  refine wpAnyH_ready (rs := [4]) (by kernel_rfl) (by simp) ?_
  refine (AllReadyH.cons (o := { dst := some 9, op := Op.call { callee := Callee.value (Operand.func 83), args := #[Operand.tmp 6, Operand.tmp 8], argTypes := #[85, 85] }, type := 3, pos := "l18_rays.go:171", after := #[{ on := 1, ground := Ground.data }, { on := 3, ground := Ground.data }, { on := 3, ground := Ground.chain }], guard := none }) rfl (fun K hK => ?_) AllReadyH.nil)
  refine step_callW 83 #[.agg #[.int .i64 n1, .int .i64 d1], .agg #[.int .i64 n2, .int .i64 d2]] (fun z v w9 => z = .int .i64 s1 ∧ Gr v w9) (by rfl) (by go_simp) ((HC1.out _).mono fun e w9 ⟨h1, h2⟩ => ⟨_, h1, rfl, h2⟩) ?_
  rintro z9 w9 ⟨rfl, B9⟩
  simp only [Act.put, List.setIfInBounds_toArray, List.set_cons_zero, List.set_cons_succ]
  refine hK.out _ _ (hH.trans B9) (fun hH' => ?_)
  clear hK K
  replace hH := hH'
  clear hH' B9
  refine wpAnyH_ready (rs := [9]) (by kernel_rfl) (by simp) ?_
  refine (AllReadyH.cons (o := { dst := some 14, op := Op.call { callee := Callee.value (Operand.func 93), args := #[Operand.tmp 11, Operand.tmp 13], argTypes := #[3, 3] }, type := 3, pos := "l18_rays.go:171", after := #[{ on := 6, ground := Ground.data }, { on := 8, ground := Ground.data }, { on := 4, ground := Ground.chain }], guard := none }) rfl (fun K hK => ?_) AllReadyH.nil)
  refine step_callW 93 #[.int .i64 b1, .int .i64 b2] (fun z v w9 => z = .int .i64 s2 ∧ Gr v w9) (by rfl) (by go_simp) ((HC2.out _).mono fun e w9 ⟨h1, h2⟩ => ⟨_, h1, rfl, h2⟩) ?_
  rintro z9 w9 ⟨rfl, B9⟩
  simp only [Act.put, List.setIfInBounds_toArray, List.set_cons_zero, List.set_cons_succ]
  refine hK.out _ _ (hH.trans B9) (fun hH' => ?_)
  clear hK K
  replace hH := hH'
  clear hH' B9
  refine wpAnyH_ready (rs := [10]) (by kernel_rfl) (by simp) ?_
  refine (AllReadyH.cons (o := { dst := some 15, op := Op.buildSlice 22 2 #[(0, Operand.tmp 9), (1, Operand.tmp 14)], type := 22, pos := "l18_rays.go:171", after := #[{ on := 4, ground := Ground.data }, { on := 9, ground := Ground.data }], guard := none }) rfl (fun K hK => ?_) AllReadyH.nil)
  obtain ⟨u, hu⟩ : ∃ u, w9.alloc (.cells #[.int .i64 s1, .int .i64 s2] 3) = u := ⟨_, rfl⟩
  have CU : C2 u w9.heap.size (.int .i64 s1) (.int .i64 s2) := by rw [← hu]; exact C2.new w9 _ _ _
  refine step_val (.slice (some ⟨w9.heap.size, 0, none⟩) 2 2) u rfl (by rw [← hu]; go_simp) ?_
  simp only [Act.put, List.setIfInBounds_toArray, List.set_cons_zero, List.set_cons_succ]
  refine hK.out _ _ (hH.trans (by rw [← hu]; exact (Gr.refl _).alloc _)) (fun hH' => ?_)
  clear hK K hu
  replace hH := hH'
  clear hH'
  refine wpAnyH_ready (rs := [11]) (by kernel_rfl) (by simp) ?_
  refine (AllReadyH.cons (o := { dst := some 16, op := Op.call { callee := Callee.value (Operand.func 92), args := #[Operand.tmp 15], argTypes := #[22] }, type := 3, pos := "l18_rays.go:171", after := #[{ on := 10, ground := Ground.data }, { on := 9, ground := Ground.chain }], guard := none }) rfl (fun K hK => ?_) AllReadyH.nil)
  refine step_callW 92 #[.slice (some ⟨w9.heap.size, 0, none⟩) 2 2] (fun z v w9 => z = .int .i64 s3 ∧ Gr v w9) (by rfl) (by go_simp) ((HOR.out _ u CU.c0 CU.c1).mono fun e w9 ⟨h1, h2⟩ => ⟨_, h1, rfl, h2⟩) ?_
  rintro z9 w9 ⟨rfl, B9⟩
  simp only [Act.put, List.setIfInBounds_toArray, List.set_cons_zero, List.set_cons_succ]
  refine hK.out _ _ (hH.trans B9) (fun hH' => ?_)
  clear hK K
  replace hH := hH'
  clear hH' B9
  refine wpAnyH_take (i := 12) (oi := { dst := some 4, op := Op.assign (Operand.tmp 16), type := 3, pos := "l18_rays.go:171", after := #[{ on := 11, ground := Ground.data }, { on := 11, ground := Ground.chain }, { on := 0, ground := Ground.phase }, { on := 1, ground := Ground.phase }, { on := 2, ground := Ground.phase }, { on := 3, ground := Ground.phase }, { on := 4, ground := Ground.phase }, { on := 5, ground := Ground.phase }, { on := 6, ground := Ground.phase }, { on := 7, ground := Ground.phase }, { on := 8, ground := Ground.phase }, { on := 9, ground := Ground.phase }, { on := 10, ground := Ground.phase }, { on := 11, ground := Ground.phase }], guard := none }) (v := .int .i64 s3) rfl (by kernel_rfl) (by kernel_rfl) (by kernel_rfl) (fun _ _ _ h => h) (Or.inl ⟨by rfl, fun w0 hSw => by (go_simp)⟩) hH ?_
  simp only [Act.put, List.setIfInBounds_toArray, List.set_cons_zero, List.set_cons_succ]
  refine wpAnyH_done (by kernel_rfl) ?_ _
  go_wp2
  go_ret
  exact ⟨rfl, GX.trans hH⟩
theorem cfI_lt {x y : TupH} : cfI x.1 x.2.1 x.2.2 y.1 y.2.1 y.2.2 < 0 ↔ ltH x y := by
  unfold cfI ltH geH cmS
  generalize x.2.1 * y.2.2 = p
  generalize y.2.1 * x.2.2 = q
  constructor
  · intro h
    split at h <;> split at h <;> (try split at h) <;> omega
  · intro h
    split <;> split <;> (try split) <;> omega
end Go.Proofs.Ytngmaeinehfimaa
