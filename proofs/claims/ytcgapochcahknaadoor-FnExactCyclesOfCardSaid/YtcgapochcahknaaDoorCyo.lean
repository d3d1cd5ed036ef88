/- The program's CyclesOf. -/
import Derived.Test.YtcgapochcahknaaDoorCyp
namespace Go.Proofs.YtcgapochcahknaaDoor
open Go.ChangeShapes Go.WideShapes Go.ChangeAt Go.RowKit
set_option linter.unusedVariables false
set_option maxRecDepth 100000 in
set_option maxHeartbeats 4000000 in
theorem pcyclesof (b off cap : Nat) (c : Rc) (w : World) (G : Forms w) (R : Ir w b off c) (hX : c.wd) (hn : c.n ≤ 1048576) : Calls Tryd.prog 25 #[.slice (some ⟨b, off, none⟩) c.n cap] w fun e w' => e = .returned (.tuple #[.int .i64 (if c.row then ((c.rw.cyc id : Nat) : Int) else 0), .bool c.row]) ∧ Below w.heap.size w w' := by
  have h46 := rowof b off cap c w G R hX hn
  have HRN : Hid (c.row = true → c.n ≤ 64) := fun h => (Rc.row_n h).2
  have H49 : Hid (c.n ≤ 64 → ∀ u v w1, RowA w1 u v c → ∀ q w2, Below w1.heap.size w1 w2 → ARow w2 q (upl c.n) → Calls Tryd.prog 49 #[.agg #[u, v], q] w2 fun e w' => e = .returned (.int .i64 ((c.rw.cyc id : Nat) : Int)) ∧ Below w2.heap.size w2 w') := fun h u v w1 r q w2 k a => pcycles c id (upl c.n) u v q w2 (r.next k) a h (upl_len _) (fun k h => h) (fun k h => upl_at _ _ h)
  clear R hX G hn
  generalize c.rw.cyc id = cy at H49 ⊢
  generalize hr : c.row = rw at h46 HRN ⊢
  obtain ⟨n, hn2⟩ : ∃ n, c.n = n := ⟨_, rfl⟩
  rw [hn2] at h46 HRN H49 ⊢
  clear hn2 hr
  cases rw
  case false =>
    simp only [Bool.false_eq_true, if_false]
    go_enter Tryd.func25, Tryd.ntmps25
    go_wp2_with (go_at_call 46; refine h46.mono ?_; rintro e w1 ⟨ua, ul, uc, va, vl, vc, rfl, _, B1⟩)
    go_ret2
    exact ⟨rfl, B1.alloc B1.size _⟩
  simp only [if_true]
  have hn : n ≤ 64 := HRN.out rfl
  clear HRN
  go_enter Tryd.func25, Tryd.ntmps25
  go_wp2_with (go_at_call 46; refine h46.mono ?_; rintro e w1 ⟨ua, ul, uc, va, vl, vc, rfl, hra, B1⟩)
  have HB1 : Hid (Below w.heap.size w w1) := B1
  have HBB : Hid (Below w1.heap.size w1 (w1.alloc (.cells #[.slice ua ul uc, .slice va vl vc] 65)).drew) := below_drew alloc_b
  have H49 : Hid (∀ q w2, Below w1.heap.size w1 w2 → ARow w2 q (upl n) → Calls Tryd.prog 49 #[.agg #[.slice ua ul uc, .slice va vl vc], q] w2 fun e w' => e = .returned (.int .i64 (cy : Int)) ∧ Below w2.heap.size w2 w') := H49.out hn _ _ w1 (hra (by first | trivial | rfl))
  have HX0 : (w1.alloc (.cells #[.slice ua ul uc, .slice va vl vc] 65)).drew.cell? ⟨w1.heap.size, 0, none⟩ = some (.slice ua ul uc) := by simp
  have HX1 : (w1.alloc (.cells #[.slice ua ul uc, .slice va vl vc] 65)).drew.cell? ⟨w1.heap.size, 1, none⟩ = some (.slice va vl vc) := by simp
  clear hra B1
  generalize hWW : (w1.alloc (.cells #[.slice ua ul uc, .slice va vl vc] 65)).drew = WX at HBB HX0 HX1
  have hH0 : Below WX.heap.size WX WX := Below.refl _ _
  refine wp_region_held_drew (S := fun v => Below WX.heap.size WX v) (by kernel_rfl) (by rw [hWW]; exact hH0) (fun hH => ?_)
  rw [hWW] at hH ⊢
  clear hWW hH0
  refine wpAnyH_take (i := 0) (oi := { dst := some 13, op := Op.load 65 (Operand.tmp 4), type := 65, pos := "l14_schedule.go:99", after := #[], guard := none }) (v := .agg #[.slice ua ul uc, .slice va vl vc]) rfl (by kernel_rfl) (by kernel_rfl) (by kernel_rfl) (fun _ _ _ h => h) (Or.inl ⟨by rfl, fun w0 hSw => by ((have c0 := cell_nx HX0 hSw); (have c1 := cell_nx HX1 hSw); go_simp)⟩) hH ?_
  simp only [Act.put, List.setIfInBounds_toArray, List.set_cons_zero, List.set_cons_succ]
  refine wpAnyH_take (i := 1) (oi := { dst := some 14, op := Op.move (Operand.tmp 0), type := 24, pos := "l14_schedule.go:99", after := #[], guard := none }) (v := .slice (some ⟨b, off, none⟩) n cap) rfl (by kernel_rfl) (by kernel_rfl) (by kernel_rfl) (fun _ _ _ h => h) (Or.inl ⟨by rfl, fun w0 hSw => by (go_simp)⟩) hH ?_
  simp only [Act.put, List.setIfInBounds_toArray, List.set_cons_zero, List.set_cons_succ]
  refine wpAnyH_take (i := 2) (oi := { dst := some 15, op := Op.call { callee := Callee.builtin Builtin.len, args := #[Operand.tmp 14], argTypes := #[24] }, type := 3, pos := "l14_schedule.go:99", after := #[{ on := 1, ground := Ground.data }], guard := none }) (v := .int .i64 (n : Int)) rfl (by kernel_rfl) (by kernel_rfl) (by kernel_rfl) (fun _ _ _ h => h) (Or.inl ⟨by rfl, fun w0 hSw => by (go_simp)⟩) hH ?_
  simp only [Act.put, List.setIfInBounds_toArray, List.set_cons_zero, List.set_cons_succ]
  refine wpAnyH_ready (rs := [3]) (by kernel_rfl) (by simp) ?_
  refine (AllReadyH.cons (o := { dst := some 16, op := Op.call { callee := Callee.value (Operand.func 50), args := #[Operand.tmp 15], argTypes := #[3] }, type := 45, pos := "l14_schedule.go:99", after := #[{ on := 2, ground := Ground.data }], guard := none }) rfl (fun K hK => ?_) AllReadyH.nil)
  refine step_callC 50 #[.int .i64 (n : Int)] (fun z v w' => Ri v.heap.size w' z (upl n) ∧ Below v.heap.size v w') (by rfl) (by go_simp) ((rising n _ (by omega)).mono fun e w' ⟨_, h1, h2, h3⟩ => ⟨_, h1, h2, h3⟩) ?_
  rintro z8 w8 ⟨R8, B8⟩
  simp only [Act.put, List.setIfInBounds_toArray, List.set_cons_zero, List.set_cons_succ]
  refine hK.out _ _ (hH.trans (B8.mono hH.size)) (fun hH' => ?_)
  clear hK K
  replace hH := hH'
  clear hH' 
  refine wpAnyH_ready (rs := [4]) (by kernel_rfl) (by simp) ?_
  refine (AllReadyH.cons (o := { dst := some 17, op := Op.call { callee := Callee.value (Operand.func 49), args := #[Operand.tmp 13, Operand.tmp 16], argTypes := #[65, 45] }, type := 3, pos := "l14_schedule.go:99", after := #[{ on := 0, ground := Ground.data }, { on := 3, ground := Ground.data }, { on := 3, ground := Ground.chain }], guard := none }) rfl (fun K hK => ?_) AllReadyH.nil)
  refine step_callC 49 #[.agg #[.slice ua ul uc, .slice va vl vc], z8] (fun z v w' => z = .int .i64 (cy : Int) ∧ Below v.heap.size v w') (by rfl) (by go_simp) ((H49.out z8 w8 (HBB.out.trans (hH.mono HBB.out.size)) R8.own.arow).mono fun e w' ⟨h1, h2⟩ => ⟨_, h1, rfl, h2⟩) ?_
  rintro z9 w9 ⟨rfl, B9⟩
  simp only [Act.put, List.setIfInBounds_toArray, List.set_cons_zero, List.set_cons_succ]
  refine hK.out _ _ (hH.trans (B9.mono hH.size)) (fun hH' => ?_)
  clear hK K
  replace hH := hH'
  clear hH' 
  refine wpAnyH_take (i := 5) (oi := { dst := some 2, op := Op.assign (Operand.tmp 17), type := 3, pos := "l14_schedule.go:99", after := #[{ on := 4, ground := Ground.data }, { on := 4, ground := Ground.chain }, { on := 0, ground := Ground.phase }, { on := 1, ground := Ground.phase }, { on := 2, ground := Ground.phase }, { on := 3, ground := Ground.phase }, { on := 4, ground := Ground.phase }], guard := none }) (v := .int .i64 (cy : Int)) rfl (by kernel_rfl) (by kernel_rfl) (by kernel_rfl) (fun _ _ _ h => h) (Or.inl ⟨by rfl, fun w0 hSw => by (go_simp)⟩) hH ?_
  simp only [Act.put, List.setIfInBounds_toArray, List.set_cons_zero, List.set_cons_succ]
  refine wpAnyH_take (i := 6) (oi := { dst := some 3, op := Op.assign (Operand.const (Value.bool true)), type := 4, pos := "l14_schedule.go:99", after := #[{ on := 5, ground := Ground.chain }, { on := 0, ground := Ground.phase }, { on := 1, ground := Ground.phase }, { on := 2, ground := Ground.phase }, { on := 3, ground := Ground.phase }, { on := 4, ground := Ground.phase }, { on := 5, ground := Ground.phase }], guard := none }) (v := .bool true) rfl (by kernel_rfl) (by kernel_rfl) (by kernel_rfl) (fun _ _ _ h => h) (Or.inl ⟨by rfl, fun w0 hSw => by (go_simp)⟩) hH ?_
  simp only [Act.put, List.setIfInBounds_toArray, List.set_cons_zero, List.set_cons_succ]
  refine wpAnyH_done (by kernel_rfl) ?_ _
  go_wp2
  go_ret2
  exact ⟨rfl, HB1.out.trans ((HBB.out.trans (hH.mono HBB.out.size)).mono HB1.out.size)⟩
end Go.Proofs.YtcgapochcahknaaDoor
