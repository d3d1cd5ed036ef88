/- What a command leaves of things: do of the program. -/
import Derived.Test.YtnbpncjbfnhkjaaVd
namespace Go.Proofs.Ytnbpncjbfnhkjaa
open Go.ChangeShapes Go.WideShapes Go.ChangeAt Go.RowKit
set_option linter.unusedVariables false
theorem C5.far {w : World} {b : Nat} {v0 v1 v2 v3 v4 : Value} (h : C5 w b v0 v1 v2 v3 v4) (g j : Nat) (x : Value) (hg : b ≠ g) : C5 (w.setCell ⟨g, j, none⟩ x) b v0 v1 v2 v3 v4 := h.block (Below.heap_setCell w ⟨g, j, none⟩ x b hg) (by simp)
theorem step_skip {P : Program} {ops : Array Oper} {o : Oper} {a : Act} {w : World} {K : Act → World → Prop} {Q : Exit → Act → World → Prop} {E : Prop} (w' : World) (hgd : o.guard = none) (hrun : (execOp a.eval o).run P w = .ok .skip w') (hK : K (a.put o.dst undef) w') : if Region.wanted o (yielded ops a.tmps) = true then Oper.wp P o a w K Q else E := by
  have hw : Region.wanted o (yielded ops a.tmps) = true := by simp [Region.wanted, hgd]
  rw [if_pos hw]
  unfold Oper.wp
  rw [hrun, Oper.upon_skip]
  exact hK
/-- A function at one number. -/
def upd {α : Type} (S : Nat → α) (i : Nat) (v : α) : Nat → α := fun x => if x = i then v else S x
def doS (k o : Int) (i : Nat) (S : Nat → Int) : Nat → Int := if k = 4 then upd S i o else S
def doW (k f : Int) (i : Nat) (U : Nat → Bool) : Nat → Bool := if k = 2 ∨ k = 3 then upd U i true else if k = 4 ∧ f = 0 then upd U i false else U
set_option maxRecDepth 100000 in
set_option maxHeartbeats 8000000 in
theorem pdo (b i : Nat) (k f o m : Int) (S : Nat → Int) (U : Nat → Bool) (w : World) (hi : i < 8) (R : RowT w b 8 S U) : Calls Try.prog 33 #[.pointer (some ⟨b, 0, none⟩), .agg #[.int .i64 k, .int .i64 (i : Int), .int .i64 f, .int .i64 o, .int .i64 m]] w fun e w' => e = .returned (.tuple #[]) ∧ RowT w' b 8 (doS k o i S) (doW k f i U) ∧ Only b w w' := by
  have i0 : (0 : Int) ≤ (i : Int) := by omega
  have i1 : (i : Int) < 8 := by omega
  have hb := R.hi
  have PX : C5 (w.alloc (.cells #[.int .i64 k, .int .i64 (i : Int), .int .i64 f, .int .i64 o, .int .i64 m] 35)) w.heap.size (.int .i64 k) (.int .i64 (i : Int)) (.int .i64 f) (.int .i64 o) (.int .i64 m) := C5.new w 35 (.int .i64 k) (.int .i64 (i : Int)) (.int .i64 f) (.int .i64 o) (.int .i64 m)
  have RX : RowT (w.alloc (.cells #[.int .i64 k, .int .i64 (i : Int), .int .i64 f, .int .i64 o, .int .i64 m] 35)) b 8 S U := R.next alloc_b
  have OX : Only b w (w.alloc (.cells #[.int .i64 k, .int .i64 (i : Int), .int .i64 f, .int .i64 o, .int .i64 m] 35)) := Only.ofBelow alloc_b
  clear R
  by_cases k23 : k = 2 ∨ k = 3
  · have hs : doS k o i S = S := by unfold doS; rw [if_neg (by omega)]
    have hu : doW k f i U = upd U i true := by unfold doW; rw [if_pos k23]
    rw [hs, hu]
    rcases k23 with rfl | rfl
    · go_enter Try.func33, Try.ntmps33
      go_wp2
      replace PX := PX.next (below_drew (Below.refl _ _))
      replace RX : RowT ((w.alloc (.cells #[.int .i64 2, .int .i64 (i : Int), .int .i64 f, .int .i64 o, .int .i64 m] 35))).drew b 8 _ _ := RX.next (below_drew (Below.refl _ _))
      replace OX : Only b w ((w.alloc (.cells #[.int .i64 2, .int .i64 (i : Int), .int .i64 f, .int .i64 o, .int .i64 m] 35))).drew := (OX).drewN 1
      generalize hX1 : ((w.alloc (.cells #[.int .i64 2, .int .i64 (i : Int), .int .i64 f, .int .i64 o, .int .i64 m] 35))).drew = X1 at PX RX OX
      refine wp_region_held_drew (S := fun v => C5 v w.heap.size (.int .i64 2) (.int .i64 (i : Int)) (.int .i64 f) (.int .i64 o) (.int .i64 m)) (by kernel_rfl) (by rw [hX1]; exact PX) (fun hH => ?_)
      rw [hX1] at hH ⊢
      clear hX1
      refine wpAnyH_take (i := 0) (oi := { dst := some 9, op := Op.move (Operand.tmp 0), type := 85, pos := "l19_commands.go:214", after := #[], guard := none }) (v := .pointer (some ⟨b, 0, none⟩)) rfl (by kernel_rfl) (by kernel_rfl) (by kernel_rfl) (fun _ _ _ h => h) (Or.inl ⟨by rfl, fun w0 hSw => by (go_simp)⟩) hH ?_
      simp only [Act.put, List.setIfInBounds_toArray, List.set_cons_zero, List.set_cons_succ]
      refine wpAnyH_take (i := 1) (oi := { dst := some 10, op := Op.fieldAddr 35 (Operand.tmp 3) 1, type := 0, pos := "l19_commands.go:214", after := #[], guard := none }) (v := .pointer (some ⟨w.heap.size, 1, none⟩)) rfl (by kernel_rfl) (by kernel_rfl) (by kernel_rfl) (fun _ _ _ h => h) (Or.inl ⟨by rfl, fun w0 hSw => by (go_simp)⟩) hH ?_
      simp only [Act.put, List.setIfInBounds_toArray, List.set_cons_zero, List.set_cons_succ]
      refine wpAnyH_take (i := 2) (oi := { dst := some 11, op := Op.load 3 (Operand.tmp 10), type := 3, pos := "l19_commands.go:214", after := #[{ on := 1, ground := Ground.data }], guard := none }) (v := .int .i64 (i : Int)) rfl (by kernel_rfl) (by kernel_rfl) (by kernel_rfl) (fun _ _ _ h => h) (Or.inl ⟨by rfl, fun w0 hSw => by ((have e9 := hSw.c1); go_simp)⟩) hH ?_
      simp only [Act.put, List.setIfInBounds_toArray, List.set_cons_zero, List.set_cons_succ]
      refine wpAnyH_take (i := 3) (oi := { dst := some 12, op := Op.nilCheck (Operand.tmp 9), type := 0, pos := "l19_commands.go:214", after := #[{ on := 0, ground := Ground.data }], guard := none }) (v := .pointer (some ⟨b, 0, none⟩)) rfl (by kernel_rfl) (by kernel_rfl) (by kernel_rfl) (fun _ _ _ h => h) (Or.inl ⟨by rfl, fun w0 hSw => by (go_simp)⟩) hH ?_
      simp only [Act.put, List.setIfInBounds_toArray, List.set_cons_zero, List.set_cons_succ]
      refine wpAnyH_take (i := 4) (oi := { dst := some 13, op := Op.indexAddr 58 (Operand.tmp 12) (Operand.tmp 11), type := 0, pos := "l19_commands.go:214", after := #[{ on := 3, ground := Ground.data }, { on := 2, ground := Ground.data }, { on := 0, ground := Ground.phase }, { on := 1, ground := Ground.phase }, { on := 2, ground := Ground.phase }], guard := none }) (v := .pointer (some ⟨b, i * 2, none⟩)) rfl (by kernel_rfl) (by kernel_rfl) (by kernel_rfl) (fun _ _ _ h => h) (Or.inl ⟨by rfl, fun w0 hSw => by (go_simp)⟩) hH ?_
      simp only [Act.put, List.setIfInBounds_toArray, List.set_cons_zero, List.set_cons_succ]
      refine wpAnyH_take (i := 5) (oi := { dst := some 14, op := Op.fieldAddr 56 (Operand.tmp 13) 1, type := 0, pos := "l19_commands.go:214", after := #[{ on := 4, ground := Ground.data }, { on := 0, ground := Ground.phase }, { on := 1, ground := Ground.phase }, { on := 2, ground := Ground.phase }], guard := none }) (v := .pointer (some ⟨b, i * 2 + 1, none⟩)) rfl (by kernel_rfl) (by kernel_rfl) (by kernel_rfl) (fun _ _ _ h => h) (Or.inl ⟨by rfl, fun w0 hSw => by (go_simp)⟩) hH ?_
      simp only [Act.put, List.setIfInBounds_toArray, List.set_cons_zero, List.set_cons_succ]
      refine wpAnyH_ready (rs := [6]) (by kernel_rfl) (by simp) ?_
      refine (AllReadyH.cons (o := { dst := none, op := Op.store 4 (Operand.tmp 14) (Operand.const (Value.bool true)), type := 0, pos := "l19_commands.go:214", after := #[{ on := 5, ground := Ground.data }, { on := 0, ground := Ground.phase }, { on := 1, ground := Ground.phase }, { on := 2, ground := Ground.phase }], guard := none }) rfl (fun K hK => ?_) AllReadyH.nil)
      refine step_skip (X1.setCell ⟨b, i * 2 + 1, none⟩ (.bool true)) (by rfl) (by (have e8 := RX.c1 i hi; have e9 := RX.free (i * 2 + 1); go_simp)) ?_
      simp only [Act.put]
      refine hK.out _ _ (hH.far b _ _ (by omega)) (fun hH' => ?_)
      clear hK K
      replace hH := hH'
      clear hH'
      refine wpAnyH_done (by kernel_rfl) ?_ _
      go_wp2
      go_end0
      exact ⟨rfl, RX.set1 i true, (OX).setCell _ _⟩
    · go_enter Try.func33, Try.ntmps33
      go_wp2
      replace PX := PX.next (below_drew (Below.refl _ _))
      replace RX : RowT ((w.alloc (.cells #[.int .i64 3, .int .i64 (i : Int), .int .i64 f, .int .i64 o, .int .i64 m] 35))).drew b 8 _ _ := RX.next (below_drew (Below.refl _ _))
      replace OX : Only b w ((w.alloc (.cells #[.int .i64 3, .int .i64 (i : Int), .int .i64 f, .int .i64 o, .int .i64 m] 35))).drew := (OX).drewN 1
      generalize hX1 : ((w.alloc (.cells #[.int .i64 3, .int .i64 (i : Int), .int .i64 f, .int .i64 o, .int .i64 m] 35))).drew = X1 at PX RX OX
      refine wp_region_held_drew (S := fun v => C5 v w.heap.size (.int .i64 3) (.int .i64 (i : Int)) (.int .i64 f) (.int .i64 o) (.int .i64 m)) (by kernel_rfl) (by rw [hX1]; exact PX) (fun hH => ?_)
      rw [hX1] at hH ⊢
      clear hX1
      refine wpAnyH_take (i := 0) (oi := { dst := some 9, op := Op.move (Operand.tmp 0), type := 85, pos := "l19_commands.go:214", after := #[], guard := none }) (v := .pointer (some ⟨b, 0, none⟩)) rfl (by kernel_rfl) (by kernel_rfl) (by kernel_rfl) (fun _ _ _ h => h) (Or.inl ⟨by rfl, fun w0 hSw => by (go_simp)⟩) hH ?_
      simp only [Act.put, List.setIfInBounds_toArray, List.set_cons_zero, List.set_cons_succ]
      refine wpAnyH_take (i := 1) (oi := { dst := some 10, op := Op.fieldAddr 35 (Operand.tmp 3) 1, type := 0, pos := "l19_commands.go:214", after := #[], guard := none }) (v := .pointer (some ⟨w.heap.size, 1, none⟩)) rfl (by kernel_rfl) (by kernel_rfl) (by kernel_rfl) (fun _ _ _ h => h) (Or.inl ⟨by rfl, fun w0 hSw => by (go_simp)⟩) hH ?_
      simp only [Act.put, List.setIfInBounds_toArray, List.set_cons_zero, List.set_cons_succ]
      refine wpAnyH_take (i := 2) (oi := { dst := some 11, op := Op.load 3 (Operand.tmp 10), type := 3, pos := "l19_commands.go:214", after := #[{ on := 1, ground := Ground.data }], guard := none }) (v := .int .i64 (i : Int)) rfl (by kernel_rfl) (by kernel_rfl) (by kernel_rfl) (fun _ _ _ h => h) (Or.inl ⟨by rfl, fun w0 hSw => by ((have e9 := hSw.c1); go_simp)⟩) hH ?_
      simp only [Act.put, List.setIfInBounds_toArray, List.set_cons_zero, List.set_cons_succ]
      refine wpAnyH_take (i := 3) (oi := { dst := some 12, op := Op.nilCheck (Operand.tmp 9), type := 0, pos := "l19_commands.go:214", after := #[{ on := 0, ground := Ground.data }], guard := none }) (v := .pointer (some ⟨b, 0, none⟩)) rfl (by kernel_rfl) (by kernel_rfl) (by kernel_rfl) (fun _ _ _ h => h) (Or.inl ⟨by rfl, fun w0 hSw => by (go_simp)⟩) hH ?_
      simp only [Act.put, List.setIfInBounds_toArray, List.set_cons_zero, List.set_cons_succ]
      refine wpAnyH_take (i := 4) (oi := { dst := some 13, op := Op.indexAddr 58 (Operand.tmp 12) (Operand.tmp 11), type := 0, pos := "l19_commands.go:214", after := #[{ on := 3, ground := Ground.data }, { on := 2, ground := Ground.data }, { on := 0, ground := Ground.phase }, { on := 1, ground := Ground.phase }, { on := 2, ground := Ground.phase }], guard := none }) (v := .pointer (some ⟨b, i * 2, none⟩)) rfl (by kernel_rfl) (by kernel_rfl) (by kernel_rfl) (fun _ _ _ h => h) (Or.inl ⟨by rfl, fun w0 hSw => by (go_simp)⟩) hH ?_
      simp only [Act.put, List.setIfInBounds_toArray, List.set_cons_zero, List.set_cons_succ]
      refine wpAnyH_take (i := 5) (oi := { dst := some 14, op := Op.fieldAddr 56 (Operand.tmp 13) 1, type := 0, pos := "l19_commands.go:214", after := #[{ on := 4, ground := Ground.data }, { on := 0, ground := Ground.phase }, { on := 1, ground := Ground.phase }, { on := 2, ground := Ground.phase }], guard := none }) (v := .pointer (some ⟨b, i * 2 + 1, none⟩)) rfl (by kernel_rfl) (by kernel_rfl) (by kernel_rfl) (fun _ _ _ h => h) (Or.inl ⟨by rfl, fun w0 hSw => by (go_simp)⟩) hH ?_
      simp only [Act.put, List.setIfInBounds_toArray, List.set_cons_zero, List.set_cons_succ]
      refine wpAnyH_ready (rs := [6]) (by kernel_rfl) (by simp) ?_
      refine (AllReadyH.cons (o := { dst := none, op := Op.store 4 (Operand.tmp 14) (Operand.const (Value.bool true)), type := 0, pos := "l19_commands.go:214", after := #[{ on := 5, ground := Ground.data }, { on := 0, ground := Ground.phase }, { on := 1, ground := Ground.phase }, { on := 2, ground := Ground.phase }], guard := none }) rfl (fun K hK => ?_) AllReadyH.nil)
      refine step_skip (X1.setCell ⟨b, i * 2 + 1, none⟩ (.bool true)) (by rfl) (by (have e8 := RX.c1 i hi; have e9 := RX.free (i * 2 + 1); go_simp)) ?_
      simp only [Act.put]
      refine hK.out _ _ (hH.far b _ _ (by omega)) (fun hH' => ?_)
      clear hK K
      replace hH := hH'
      clear hH'
      refine wpAnyH_done (by kernel_rfl) ?_ _
      go_wp2
      go_end0
      exact ⟨rfl, RX.set1 i true, (OX).setCell _ _⟩
  by_cases k4 : k = 4
  · subst k4
    have hs : doS 4 o i S = upd S i o := by unfold doS; rw [if_pos rfl]
    rw [hs]
    clear k23
    go_enter Try.func33, Try.ntmps33
    go_wp2
    replace PX := PX.next (below_drew (Below.refl _ _))
    replace RX : RowT ((w.alloc (.cells #[.int .i64 4, .int .i64 (i : Int), .int .i64 f, .int .i64 o, .int .i64 m] 35))).drew b 8 _ _ := RX.next (below_drew (Below.refl _ _))
    replace OX : Only b w ((w.alloc (.cells #[.int .i64 4, .int .i64 (i : Int), .int .i64 f, .int .i64 o, .int .i64 m] 35))).drew := (OX).drewN 1
    generalize hX1 : ((w.alloc (.cells #[.int .i64 4, .int .i64 (i : Int), .int .i64 f, .int .i64 o, .int .i64 m] 35))).drew = X1 at PX RX OX
    refine wp_region_held_drew (S := fun v => C5 v w.heap.size (.int .i64 4) (.int .i64 (i : Int)) (.int .i64 f) (.int .i64 o) (.int .i64 m)) (by kernel_rfl) (by rw [hX1]; exact PX) (fun hH => ?_)
    rw [hX1] at hH ⊢
    clear hX1
    refine wpAnyH_take (i := 0) (oi := { dst := some 17, op := Op.move (Operand.tmp 0), type := 85, pos := "l19_commands.go:216", after := #[], guard := none }) (v := .pointer (some ⟨b, 0, none⟩)) rfl (by kernel_rfl) (by kernel_rfl) (by kernel_rfl) (fun _ _ _ h => h) (Or.inl ⟨by rfl, fun w0 hSw => by (go_simp)⟩) hH ?_
    simp only [Act.put, List.setIfInBounds_toArray, List.set_cons_zero, List.set_cons_succ]
    refine wpAnyH_take (i := 1) (oi := { dst := some 18, op := Op.fieldAddr 35 (Operand.tmp 3) 1, type := 0, pos := "l19_commands.go:216", after := #[], guard := none }) (v := .pointer (some ⟨w.heap.size, 1, none⟩)) rfl (by kernel_rfl) (by kernel_rfl) (by kernel_rfl) (fun _ _ _ h => h) (Or.inl ⟨by rfl, fun w0 hSw => by (go_simp)⟩) hH ?_
    simp only [Act.put, List.setIfInBounds_toArray, List.set_cons_zero, List.set_cons_succ]
    refine wpAnyH_take (i := 2) (oi := { dst := some 19, op := Op.load 3 (Operand.tmp 18), type := 3, pos := "l19_commands.go:216", after := #[{ on := 1, ground := Ground.data }], guard := none }) (v := .int .i64 (i : Int)) rfl (by kernel_rfl) (by kernel_rfl) (by kernel_rfl) (fun _ _ _ h => h) (Or.inl ⟨by rfl, fun w0 hSw => by ((have e9 := hSw.c1); go_simp)⟩) hH ?_
    simp only [Act.put, List.setIfInBounds_toArray, List.set_cons_zero, List.set_cons_succ]
    refine wpAnyH_take (i := 3) (oi := { dst := some 20, op := Op.fieldAddr 35 (Operand.tmp 3) 3, type := 0, pos := "l19_commands.go:216", after := #[], guard := none }) (v := .pointer (some ⟨w.heap.size, 3, none⟩)) rfl (by kernel_rfl) (by kernel_rfl) (by kernel_rfl) (fun _ _ _ h => h) (Or.inl ⟨by rfl, fun w0 hSw => by (go_simp)⟩) hH ?_
    simp only [Act.put, List.setIfInBounds_toArray, List.set_cons_zero, List.set_cons_succ]
    refine wpAnyH_take (i := 4) (oi := { dst := some 21, op := Op.load 3 (Operand.tmp 20), type := 3, pos := "l19_commands.go:216", after := #[{ on := 3, ground := Ground.data }], guard := none }) (v := .int .i64 o) rfl (by kernel_rfl) (by kernel_rfl) (by kernel_rfl) (fun _ _ _ h => h) (Or.inl ⟨by rfl, fun w0 hSw => by ((have e9 := hSw.c3); go_simp)⟩) hH ?_
    simp only [Act.put, List.setIfInBounds_toArray, List.set_cons_zero, List.set_cons_succ]
    refine wpAnyH_take (i := 5) (oi := { dst := some 22, op := Op.nilCheck (Operand.tmp 17), type := 0, pos := "l19_commands.go:216", after := #[{ on := 0, ground := Ground.data }], guard := none }) (v := .pointer (some ⟨b, 0, none⟩)) rfl (by kernel_rfl) (by kernel_rfl) (by kernel_rfl) (fun _ _ _ h => h) (Or.inl ⟨by rfl, fun w0 hSw => by (go_simp)⟩) hH ?_
    simp only [Act.put, List.setIfInBounds_toArray, List.set_cons_zero, List.set_cons_succ]
    refine wpAnyH_take (i := 6) (oi := { dst := some 23, op := Op.indexAddr 58 (Operand.tmp 22) (Operand.tmp 19), type := 0, pos := "l19_commands.go:216", after := #[{ on := 5, ground := Ground.data }, { on := 2, ground := Ground.data }, { on := 0, ground := Ground.phase }, { on := 1, ground := Ground.phase }, { on := 2, ground := Ground.phase }, { on := 3, ground := Ground.phase }, { on := 4, ground := Ground.phase }], guard := none }) (v := .pointer (some ⟨b, i * 2, none⟩)) rfl (by kernel_rfl) (by kernel_rfl) (by kernel_rfl) (fun _ _ _ h => h) (Or.inl ⟨by rfl, fun w0 hSw => by (go_simp)⟩) hH ?_
    simp only [Act.put, List.setIfInBounds_toArray, List.set_cons_zero, List.set_cons_succ]
    refine wpAnyH_take (i := 7) (oi := { dst := some 24, op := Op.fieldAddr 56 (Operand.tmp 23) 0, type := 0, pos := "l19_commands.go:216", after := #[{ on := 6, ground := Ground.data }, { on := 0, ground := Ground.phase }, { on := 1, ground := Ground.phase }, { on := 2, ground := Ground.phase }, { on := 3, ground := Ground.phase }, { on := 4, ground := Ground.phase }], guard := none }) (v := .pointer (some ⟨b, i * 2, none⟩)) rfl (by kernel_rfl) (by kernel_rfl) (by kernel_rfl) (fun _ _ _ h => h) (Or.inl ⟨by rfl, fun w0 hSw => by (go_simp)⟩) hH ?_
    simp only [Act.put, List.setIfInBounds_toArray, List.set_cons_zero, List.set_cons_succ]
    refine wpAnyH_ready (rs := [8]) (by kernel_rfl) (by simp) ?_
    refine (AllReadyH.cons (o := { dst := none, op := Op.store 3 (Operand.tmp 24) (Operand.tmp 21), type := 0, pos := "l19_commands.go:216", after := #[{ on := 7, ground := Ground.data }, { on := 4, ground := Ground.data }, { on := 0, ground := Ground.phase }, { on := 1, ground := Ground.phase }, { on := 2, ground := Ground.phase }, { on := 3, ground := Ground.phase }, { on := 4, ground := Ground.phase }], guard := none }) rfl (fun K hK => ?_) AllReadyH.nil)
    refine step_skip (X1.setCell ⟨b, i * 2, none⟩ (.int .i64 o)) (by rfl) (by (have e8 := RX.c0 i hi; have e9 := RX.free (i * 2); go_simp)) ?_
    simp only [Act.put]
    refine hK.out _ _ (hH.far b _ _ (by omega)) (fun hH' => ?_)
    clear hK K
    replace hH := hH'
    clear hH'
    refine wpAnyH_done (by kernel_rfl) ?_ _
    replace RX := RX.set0 i o
    replace OX := (OX).setCell (i * 2) (.int .i64 o)
    obtain ⟨X2, hX2⟩ : ∃ z, (X1.setCell ⟨b, i * 2, none⟩ (.int .i64 o)) = z := ⟨_, rfl⟩
    rw [hX2] at hH RX OX ⊢
    clear hX2
    have p2 := hH.c2
    by_cases hf : f = 0
    · subst hf
      have hu : Hid (doW 4 0 i U = upd U i false) := by show _ = _; unfold doW; rw [if_neg (by decide), if_pos ⟨rfl, rfl⟩]
      go_wp2
      replace hH := hH.next (below_drew (Below.refl _ _))
      replace RX : RowT (X2).drew b 8 _ _ := RX.next (below_drew (Below.refl _ _))
      replace OX : Only b w (X2).drew := (OX).drewN 1
      generalize hX3 : (X2).drew = X3 at hH RX OX
      refine wp_region_held_drew (S := fun v => C5 v w.heap.size (.int .i64 4) (.int .i64 (i : Int)) (.int .i64 0) (.int .i64 o) (.int .i64 m)) (by kernel_rfl) (by rw [hX3]; exact hH) (fun hH9 => ?_)
      rw [hX3] at hH9 ⊢
      clear hX3
      clear hH
      have hH := hH9
      refine wpAnyH_take (i := 0) (oi := { dst := some 28, op := Op.move (Operand.tmp 0), type := 85, pos := "l19_commands.go:218", after := #[], guard := none }) (v := .pointer (some ⟨b, 0, none⟩)) rfl (by kernel_rfl) (by kernel_rfl) (by kernel_rfl) (fun _ _ _ h => h) (Or.inl ⟨by rfl, fun w0 hSw => by (go_simp)⟩) hH ?_
      simp only [Act.put, List.setIfInBounds_toArray, List.set_cons_zero, List.set_cons_succ]
      refine wpAnyH_take (i := 1) (oi := { dst := some 29, op := Op.fieldAddr 35 (Operand.tmp 3) 1, type := 0, pos := "l19_commands.go:218", after := #[], guard := none }) (v := .pointer (some ⟨w.heap.size, 1, none⟩)) rfl (by kernel_rfl) (by kernel_rfl) (by kernel_rfl) (fun _ _ _ h => h) (Or.inl ⟨by rfl, fun w0 hSw => by (go_simp)⟩) hH ?_
      simp only [Act.put, List.setIfInBounds_toArray, List.set_cons_zero, List.set_cons_succ]
      refine wpAnyH_take (i := 2) (oi := { dst := some 30, op := Op.load 3 (Operand.tmp 29), type := 3, pos := "l19_commands.go:218", after := #[{ on := 1, ground := Ground.data }], guard := none }) (v := .int .i64 (i : Int)) rfl (by kernel_rfl) (by kernel_rfl) (by kernel_rfl) (fun _ _ _ h => h) (Or.inl ⟨by rfl, fun w0 hSw => by ((have e9 := hSw.c1); go_simp)⟩) hH ?_
      simp only [Act.put, List.setIfInBounds_toArray, List.set_cons_zero, List.set_cons_succ]
      refine wpAnyH_take (i := 3) (oi := { dst := some 31, op := Op.nilCheck (Operand.tmp 28), type := 0, pos := "l19_commands.go:218", after := #[{ on := 0, ground := Ground.data }], guard := none }) (v := .pointer (some ⟨b, 0, none⟩)) rfl (by kernel_rfl) (by kernel_rfl) (by kernel_rfl) (fun _ _ _ h => h) (Or.inl ⟨by rfl, fun w0 hSw => by (go_simp)⟩) hH ?_
      simp only [Act.put, List.setIfInBounds_toArray, List.set_cons_zero, List.set_cons_succ]
      refine wpAnyH_take (i := 4) (oi := { dst := some 32, op := Op.indexAddr 58 (Operand.tmp 31) (Operand.tmp 30), type := 0, pos := "l19_commands.go:218", after := #[{ on := 3, ground := Ground.data }, { on := 2, ground := Ground.data }, { on := 0, ground := Ground.phase }, { on := 1, ground := Ground.phase }, { on := 2, ground := Ground.phase }], guard := none }) (v := .pointer (some ⟨b, i * 2, none⟩)) rfl (by kernel_rfl) (by kernel_rfl) (by kernel_rfl) (fun _ _ _ h => h) (Or.inl ⟨by rfl, fun w0 hSw => by (go_simp)⟩) hH ?_
      simp only [Act.put, List.setIfInBounds_toArray, List.set_cons_zero, List.set_cons_succ]
      refine wpAnyH_take (i := 5) (oi := { dst := some 33, op := Op.fieldAddr 56 (Operand.tmp 32) 1, type := 0, pos := "l19_commands.go:218", after := #[{ on := 4, ground := Ground.data }, { on := 0, ground := Ground.phase }, { on := 1, ground := Ground.phase }, { on := 2, ground := Ground.phase }], guard := none }) (v := .pointer (some ⟨b, i * 2 + 1, none⟩)) rfl (by kernel_rfl) (by kernel_rfl) (by kernel_rfl) (fun _ _ _ h => h) (Or.inl ⟨by rfl, fun w0 hSw => by (go_simp)⟩) hH ?_
      simp only [Act.put, List.setIfInBounds_toArray, List.set_cons_zero, List.set_cons_succ]
      refine wpAnyH_ready (rs := [6]) (by kernel_rfl) (by simp) ?_
      refine (AllReadyH.cons (o := { dst := none, op := Op.store 4 (Operand.tmp 33) (Operand.const (Value.bool false)), type := 0, pos := "l19_commands.go:218", after := #[{ on := 5, ground := Ground.data }, { on := 0, ground := Ground.phase }, { on := 1, ground := Ground.phase }, { on := 2, ground := Ground.phase }], guard := none }) rfl (fun K hK => ?_) AllReadyH.nil)
      refine step_skip (X3.setCell ⟨b, i * 2 + 1, none⟩ (.bool false)) (by rfl) (by (have e8 := RX.c1 i hi; have e9 := RX.free (i * 2 + 1); go_simp)) ?_
      simp only [Act.put]
      refine hK.out _ _ (hH.far b _ _ (by omega)) (fun hH' => ?_)
      clear hK K
      replace hH := hH'
      clear hH'
      refine wpAnyH_done (by kernel_rfl) ?_ _
      go_wp2
      go_end0
      exact ⟨rfl, by rw [hu.out]; exact RX.set1 i false, (OX).setCell _ _⟩
    · have hfb : (f == 0) = false := by simpa using hf
      have hu : Hid (doW 4 f i U = U) := by show _ = _; unfold doW; rw [if_neg (by decide), if_neg (by omega)]
      go_wp2
      go_end0
      exact ⟨rfl, by rw [hu.out]; exact RX, OX⟩
  have hs : doS k o i S = S := by unfold doS; rw [if_neg k4]
  have hu : doW k f i U = U := by unfold doW; rw [if_neg k23, if_neg (by omega)]
  rw [hs, hu]
  have n2 : ¬ k = 2 := by omega
  have n3 : ¬ k = 3 := by omega
  go_enter Try.func33, Try.ntmps33
  go_wp2
  go_end0
  exact ⟨rfl, RX, OX⟩
end Go.Proofs.Ytnbpncjbfnhkjaa
