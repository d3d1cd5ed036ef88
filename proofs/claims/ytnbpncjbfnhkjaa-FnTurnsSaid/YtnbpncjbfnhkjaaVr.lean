/- Lists of commands held alike; drawn lists of commands. -/
import Derived.Test.YtnbpncjbfnhkjaaVq
namespace Go.Proofs.Ytnbpncjbfnhkjaa
open Go.ChangeShapes Go.WideShapes Go.ChangeAt Go.RowKit
set_option linter.unusedVariables false
section
variable {H : Type} {enc : TypeId × Value → H} {P : Program} {W : World} {base : Nat}
theorem view_ints {t e : TypeId} {k : IntKind} {v : Value} {d : DataW H} {p : List MemPlace} (ht : P.underlying t = some (.slice e)) (he : P.underlying e = some (.int k)) (hc : P.cellsOf e = 1)
    (hok : Value.okWide P W .any base t v) (h : DataW.Trod enc P W 0 (fun _ => true) true t v d p) (hlt : ∀ x ∈ p, x.block < W.heap.size) :
    ∃ (a : Option Addr) (len cap : Nat) (f : Nat → Int), v = .slice a len cap ∧ len ≤ 9223372036854775807 ∧ Arg W a len (fun i => .int k (f i)) ∧ ∀ i, (Lit.int k (f i)).wf = true := by
  obtain ⟨a0, len, cap, rfl⟩ := okWide_slice ht hok
  obtain ⟨fuel, hf⟩ := h
  rcases open_ints ht he hc hf with ⟨hcs, hx⟩ | ⟨a, len', cap', zs, hcs, _, hl, hm, hz, hx, hcell, hwz⟩
  · simp [Value.cells] at hcs
    obtain ⟨rfl, rfl, rfl⟩ := hcs
    exact ⟨_, 0, 0, fun _ => 0, rfl, by omega, Or.inl rfl, fun _ => zero_wf k⟩
  · simp [Value.cells] at hcs
    obtain ⟨rfl, rfl, rfl⟩ := hcs
    simp only [Prod.mk.injEq] at hx
    obtain ⟨rfl, rfl⟩ := hx
    simp only [if_true] at hz
    refine ⟨_, len, cap, fun i => zs.getD i 0, rfl, by unfold maxLen at hm; omega, ?_, fun i => ?_⟩
    · by_cases hl0 : len = 0
      · exact Or.inl hl0
      · obtain ⟨b, off, spot⟩ := a
        have hspot : spot = none := by simpa [Addr.add] using World.cell?_spot (hcell 0 (by omega))
        subst hspot
        have hbW : b < W.heap.size := hlt (.cell b off) (MemPlace.mem_row.2 ⟨0, by omega, by simp⟩)
        exact Or.inr ⟨b, off, rfl, hbW, fun j hj => by rw [← add_plain]; exact hcell j (by omega)⟩
    · show (Lit.int k (zs.getD i 0)).wf = true
      by_cases hi : i < zs.length
      · have e : zs.getD i 0 = zs[i] := by simp [List.getD, hi]
        rw [e]
        exact hwz _ (List.getElem_mem hi)
      · have e : zs.getD i 0 = 0 := by simp [List.getD, List.getElem?_eq_none (Nat.le_of_not_lt hi)]
        rw [e]
        exact zero_wf k
end
set_option maxRecDepth 100000 in
set_option maxHeartbeats 4000000 in
theorem msame (ada adb : Option Addr) (n ca cb : Nat) (K T F O M : Nat → Int) (w : World) (A : ArgC w ada n K T F O M) (A' : ArgC w adb n K T F O M) (hn : n ≤ 1048576) : Calls Try.prog 13 #[.slice ada n ca, .slice adb n cb] w fun e w' => e = .returned (.bool true) ∧ Below w.heap.size w w' := by
  have HX := A.hid
  have HY := A'.hid
  clear A A'
  go_enter Try.func13, Try.ntmps13
  go_wp2
  go_loopw [13] (fun i wr => ∃ j : Nat, j ≤ n ∧ i = .int .i64 j ∧ Below w.heap.size w wr) (fun i _ => n - (intOf i).toNat)
  case atStart => exact ⟨0, Nat.zero_le _, rfl, Below.refl _ _⟩
  case round =>
    obtain ⟨j, hj, rfl, B⟩ := hrel
    by_cases hjn : j < n
    case neg =>
      obtain rfl : n = j := by omega
      have i1 : ¬ ((n : Nat) : Int) < (n : Int) := by omega
      clear HX HY
      go_wp2
      go_ret
      exact ⟨rfl, B⟩
    obtain ⟨ga, oa, rfl, hga, a0, a1, a2, a3, a4⟩ := HX.out j hjn
    obtain ⟨gb, ob, rfl, hgb, b0, b1, b2, b3, b4⟩ := HY.out j hjn
    replace a0 := (B.cell (p := ⟨ga, oa + j * 5, none⟩) hga).trans a0
    replace a1 := (B.cell (p := ⟨ga, oa + j * 5 + 1, none⟩) hga).trans a1
    replace a2 := (B.cell (p := ⟨ga, oa + j * 5 + 2, none⟩) hga).trans a2
    replace a3 := (B.cell (p := ⟨ga, oa + j * 5 + 3, none⟩) hga).trans a3
    replace a4 := (B.cell (p := ⟨ga, oa + j * 5 + 4, none⟩) hga).trans a4
    replace b0 := (B.cell (p := ⟨gb, ob + j * 5, none⟩) hgb).trans b0
    replace b1 := (B.cell (p := ⟨gb, ob + j * 5 + 1, none⟩) hgb).trans b1
    replace b2 := (B.cell (p := ⟨gb, ob + j * 5 + 2, none⟩) hgb).trans b2
    replace b3 := (B.cell (p := ⟨gb, ob + j * 5 + 3, none⟩) hgb).trans b3
    replace b4 := (B.cell (p := ⟨gb, ob + j * 5 + 4, none⟩) hgb).trans b4
    generalize K j = xk at a0 b0
    generalize T j = xt at a1 b1
    generalize F j = xf at a2 b2
    generalize O j = xo at a3 b3
    generalize M j = xm at a4 b4
    have i1 : (j : Int) < (n : Int) := by omega
    have i0 : (0 : Int) ≤ (j : Int) := by omega
    clear HX HY
    go_wp2
    have BX : Below wr.heap.size wr wr.drew := below_drew (Below.refl _ _)
    replace a0 := cell_nx a0 BX
    replace a1 := cell_nx a1 BX
    replace a2 := cell_nx a2 BX
    replace a3 := cell_nx a3 BX
    replace a4 := cell_nx a4 BX
    replace b0 := cell_nx b0 BX
    replace b1 := cell_nx b1 BX
    replace b2 := cell_nx b2 BX
    replace b3 := cell_nx b3 BX
    replace b4 := cell_nx b4 BX
    generalize hWW : wr.drew = WX at BX a0 a1 a2 a3 a4 b0 b1 b2 b3 b4
    refine wp_region_held_drew (S := fun v => Below WX.heap.size WX v) (by kernel_rfl) (by rw [hWW]; exact Below.refl _ _) (fun hH => ?_)
    rw [hWW] at hH ⊢
    clear hWW
    refine wpAnyH_take (i := 0) (oi := { dst := some 16, op := Op.move (Operand.tmp 0), type := 23, pos := "l30_laws.go:315", after := #[], guard := none }) (v := .slice (some ⟨ga, oa, none⟩) n ca) rfl (by kernel_rfl) (by kernel_rfl) (by kernel_rfl) (fun _ _ _ h => h) (Or.inl ⟨by rfl, fun w0 hSw => by (go_simp)⟩) hH ?_
    simp only [Act.put, List.setIfInBounds_toArray, List.set_cons_zero, List.set_cons_succ]
    refine wpAnyH_take (i := 1) (oi := { dst := some 17, op := Op.move (Operand.tmp 5), type := 3, pos := "l30_laws.go:315", after := #[], guard := none }) (v := .int .i64 (j : Int)) rfl (by kernel_rfl) (by kernel_rfl) (by kernel_rfl) (fun _ _ _ h => h) (Or.inl ⟨by rfl, fun w0 hSw => by (go_simp)⟩) hH ?_
    simp only [Act.put, List.setIfInBounds_toArray, List.set_cons_zero, List.set_cons_succ]
    refine wpAnyH_take (i := 2) (oi := { dst := some 18, op := Op.indexAddr 23 (Operand.tmp 16) (Operand.tmp 17), type := 0, pos := "l30_laws.go:315", after := #[{ on := 0, ground := Ground.data }, { on := 1, ground := Ground.data }], guard := none }) (v := .pointer (some ⟨ga, oa + j * 5, none⟩)) rfl (by kernel_rfl) (by kernel_rfl) (by kernel_rfl) (fun _ _ _ h => h) (Or.inl ⟨by rfl, fun w0 hSw => by (go_simp)⟩) hH ?_
    simp only [Act.put, List.setIfInBounds_toArray, List.set_cons_zero, List.set_cons_succ]
    refine wpAnyH_take (i := 3) (oi := { dst := some 19, op := Op.load 35 (Operand.tmp 18), type := 35, pos := "l30_laws.go:315", after := #[{ on := 2, ground := Ground.data }], guard := none }) (v := .agg #[.int .i64 xk, .int .i64 xt, .int .i64 xf, .int .i64 xo, .int .i64 xm]) rfl (by kernel_rfl) (by kernel_rfl) (by kernel_rfl) (fun _ _ _ h => h) (Or.inl ⟨by rfl, fun w0 hSw => by ((have e0 := cell_nx a0 hSw); (have e1 := cell_nx a1 hSw); (have e2 := cell_nx a2 hSw); (have e3 := cell_nx a3 hSw); (have e4 := cell_nx a4 hSw); go_simp)⟩) hH ?_
    simp only [Act.put, List.setIfInBounds_toArray, List.set_cons_zero, List.set_cons_succ]
    refine wpAnyH_take (i := 4) (oi := { dst := some 20, op := Op.move (Operand.tmp 1), type := 23, pos := "l30_laws.go:315", after := #[], guard := none }) (v := .slice (some ⟨gb, ob, none⟩) n cb) rfl (by kernel_rfl) (by kernel_rfl) (by kernel_rfl) (fun _ _ _ h => h) (Or.inl ⟨by rfl, fun w0 hSw => by (go_simp)⟩) hH ?_
    simp only [Act.put, List.setIfInBounds_toArray, List.set_cons_zero, List.set_cons_succ]
    refine wpAnyH_take (i := 5) (oi := { dst := some 21, op := Op.move (Operand.tmp 5), type := 3, pos := "l30_laws.go:315", after := #[], guard := none }) (v := .int .i64 (j : Int)) rfl (by kernel_rfl) (by kernel_rfl) (by kernel_rfl) (fun _ _ _ h => h) (Or.inl ⟨by rfl, fun w0 hSw => by (go_simp)⟩) hH ?_
    simp only [Act.put, List.setIfInBounds_toArray, List.set_cons_zero, List.set_cons_succ]
    refine wpAnyH_take (i := 6) (oi := { dst := some 22, op := Op.indexAddr 23 (Operand.tmp 20) (Operand.tmp 21), type := 0, pos := "l30_laws.go:315", after := #[{ on := 4, ground := Ground.data }, { on := 5, ground := Ground.data }], guard := none }) (v := .pointer (some ⟨gb, ob + j * 5, none⟩)) rfl (by kernel_rfl) (by kernel_rfl) (by kernel_rfl) (fun _ _ _ h => h) (Or.inl ⟨by rfl, fun w0 hSw => by (go_simp)⟩) hH ?_
    simp only [Act.put, List.setIfInBounds_toArray, List.set_cons_zero, List.set_cons_succ]
    refine wpAnyH_take (i := 7) (oi := { dst := some 23, op := Op.load 35 (Operand.tmp 22), type := 35, pos := "l30_laws.go:315", after := #[{ on := 6, ground := Ground.data }], guard := none }) (v := .agg #[.int .i64 xk, .int .i64 xt, .int .i64 xf, .int .i64 xo, .int .i64 xm]) rfl (by kernel_rfl) (by kernel_rfl) (by kernel_rfl) (fun _ _ _ h => h) (Or.inl ⟨by rfl, fun w0 hSw => by ((have e0 := cell_nx b0 hSw); (have e1 := cell_nx b1 hSw); (have e2 := cell_nx b2 hSw); (have e3 := cell_nx b3 hSw); (have e4 := cell_nx b4 hSw); go_simp)⟩) hH ?_
    simp only [Act.put, List.setIfInBounds_toArray, List.set_cons_zero, List.set_cons_succ]
    refine wpAnyH_take (i := 8) (oi := { dst := some 24, op := Op.binOp BinOp.neq 35 (Operand.tmp 19) (Operand.tmp 23) 35, type := 4, pos := "l30_laws.go:315", after := #[{ on := 3, ground := Ground.data }, { on := 7, ground := Ground.data }], guard := none }) (v := .bool false) rfl (by kernel_rfl) (by kernel_rfl) (by kernel_rfl) (fun _ _ _ h => h) (Or.inl ⟨by rfl, fun w0 hSw => by (go_simp)⟩) hH ?_
    simp only [Act.put, List.setIfInBounds_toArray, List.set_cons_zero, List.set_cons_succ]
    refine wpAnyH_done (by kernel_rfl) ?_ _
    go_wp2
    go_roundw
    case rel => exact ⟨j + 1, by omega, by go_num, B.trans (BX.mono B.size)⟩
    case measure => simp [intOf]; omega
set_option maxRecDepth 100000 in
set_option maxHeartbeats 2000000 in
theorem mdraw0 (s : Option Addr) (n c : Nat) (f : Nat → Int) (w : World) (hA : Arg w s n (fun i => .int .u8 (f i))) (hf : ∀ i, 0 ≤ f i ∧ f i < 256) (hn : n ≤ 1048576) : Calls Try.prog 30 #[.slice s n c] w fun e w' => (∃ v L, e = .returned v ∧ CR w.heap.size w' v L ∧ L.length ≤ 64) ∧ Below w.heap.size w w' := by
  have C0 : Cur w.heap.size 0 (w.alloc (.cells #[.slice s n c, .int .i64 0, .int .u64 0] 82)) := ⟨s, n, c, f, 0, 0, heap_alloc_new w _, hn, Int.le_refl _, Int.le_refl _, Int.le_refl _, by decide, by
    rcases hA with h | ⟨o, off, h1, h2, h3⟩
    · exact Or.inl h
    · exact Or.inr ⟨o, off, h1, h2, fun i hi => cell_nx (h3 i hi) alloc_b⟩, hf⟩
  have HL := Hid.mk (mlist w.heap.size 0 (w.alloc (.cells #[.slice s n c, .int .i64 0, .int .u64 0] 82)) C0 (by decide))
  have HB0 : Hid (Below w.heap.size w (w.alloc (.cells #[.slice s n c, .int .i64 0, .int .u64 0] 82))) := alloc_b
  clear C0 hA hf
  go_enter Try.func30, Try.ntmps30
  go_wp2_with (first | (go_at_call 47; refine HL.out.mono ?_; rintro e w2 ⟨⟨v, L, rfl, R2, h2⟩, B2⟩))
  go_ret
  exact ⟨⟨_, L, rfl, R2.low (by omega), h2⟩, HB0.out.trans B2⟩
set_option maxRecDepth 100000 in
theorem mdraw (s : Option Addr) (n c : Nat) (f : Nat → Int) (w : World) (hA : Arg w s n (fun i => .int .u8 (f i))) (hf : ∀ i, 0 ≤ f i ∧ f i < 256) (hn : n ≤ 1048576) : Calls Try.prog 8 #[.slice s n c] w fun e w' => (∃ v L, e = .returned v ∧ CR w.heap.size w' v L ∧ L.length ≤ 64) ∧ Below w.heap.size w w' := by
  have HD := Hid.mk (mdraw0 s n c f w hA hf hn)
  clear hA hf
  go_enter Try.func8, Try.ntmps8
  go_wp2_with (first | (go_at_call 30; refine HD.out.mono ?_; rintro e w2 ⟨⟨v, L, rfl, R2, h2⟩, B2⟩))
  go_ret
  exact ⟨⟨_, L, rfl, R2, h2⟩, B2⟩
end Go.Proofs.Ytnbpncjbfnhkjaa
