/- A level taken back, and reading it by any policy; CacheRead of both sides. -/
import Derived.Test.YtfhpjcojccfcoaaLo
import Derived.Test.YtfhpjcojccfcoaaMc
namespace Go.Proofs.Ytfhpjcojccfcoaa
open Go.ChangeShapes Go.WideShapes Go.ChangeAt Go.RowKit
set_option linter.unusedVariables false
set_option maxRecDepth 100000 in
set_option maxHeartbeats 1000000 in
theorem pleft (s y l p c d : Int) (ad oa : Option Addr) (m cap on oc lb : Nat) (v2 v3 v4 : Value) (w : World) (D : C5 w lb (.slice oa on oc) v2 v3 v4 (.int .i64 d)) : Calls Try.prog 68 #[.pointer (some ⟨lb, 0, none⟩), .agg #[.int .i64 s, .int .i64 y, .int .i64 l, .int .i64 p, .slice ad m cap, .int .i64 c]] w fun e w' => e = .returned (.agg #[.int .i64 s, .int .i64 y, .int .i64 l, .int .i64 p, .slice oa on oc, .int .i64 d]) ∧ Below w.heap.size w w' := by
  have HD := Hid.mk D
  have hlb := D.hi
  clear D
  go_enter Try.func68, Try.ntmps68
  go_wp2
  generalize hWW : World.drew ((w.alloc (.cells #[.int .i64 s, .int .i64 y, .int .i64 l, .int .i64 p, .slice ad m cap, .int .i64 c] 42)).alloc (.cells #[.int .i64 0, .int .i64 0, .int .i64 0, .int .i64 0, .slice none 0 0, .int .i64 0] 42)) = WX
  have B1 : Below w.heap.size w WX := by rw [← hWW]; exact below_drew (((Below.refl _ _).alloc (Nat.le_refl _) _).alloc (by rw [World.size_alloc]; omega) _)
  have CX : C6 WX w.heap.size (.int .i64 s) (.int .i64 y) (.int .i64 l) (.int .i64 p) (.slice ad m cap) (.int .i64 c) := by rw [← hWW]; exact ((C6.new w 42 (.int .i64 s) (.int .i64 y) (.int .i64 l) (.int .i64 p) (.slice ad m cap) (.int .i64 c)).next alloc_b).next (below_drew (Below.refl _ _))
  have HZ : C6 WX (w.heap.size + 1) (.int .i64 0) (.int .i64 0) (.int .i64 0) (.int .i64 0) (.slice none 0 0) (.int .i64 0) := by
    rw [← hWW]
    have h := (C6.new (w.alloc (.cells #[.int .i64 s, .int .i64 y, .int .i64 l, .int .i64 p, .slice ad m cap, .int .i64 c] 42)) 42 (.int .i64 0) (.int .i64 0) (.int .i64 0) (.int .i64 0) (.slice none 0 0) (.int .i64 0)).next (below_drew (Below.refl _ _))
    rwa [World.size_alloc] at h
  have DX := HD.out.next B1
  have O1 : Only w.heap.size WX (WX.setCell ⟨w.heap.size, 4, none⟩ (.slice oa on oc)) := (Only.refl _ _).setCell _ _
  have O2 : Only w.heap.size WX ((WX.setCell ⟨w.heap.size, 4, none⟩ (.slice oa on oc)).setCell ⟨w.heap.size, 5, none⟩ (.int .i64 d)) := O1.setCell _ _
  have C1 := CX.s4 (.slice oa on oc)
  have C2 := C1.s5 (.int .i64 d)
  have D1 := DX.block (O1.block lb DX.hi (by omega)) O1.size
  have D2 := DX.block (O2.block lb DX.hi (by omega)) O2.size
  have Z2 := HZ.block (O2.block _ HZ.hi (by omega)) O2.size
  have BX2 : Below w.heap.size w ((WX.setCell ⟨w.heap.size, 4, none⟩ (.slice oa on oc)).setCell ⟨w.heap.size, 5, none⟩ (.int .i64 d)) := B1.trans ⟨O2.os, O2.tape, O2.output, O2.size, fun b hb => O2.block b (by have := CX.hi; omega) (by omega)⟩
  have HS0 : Hid (WX.cell? ⟨lb, 0, none⟩ = some (.slice oa on oc) ∧ WX.cell? ⟨lb, 4, none⟩ = some (.int .i64 d)) := ⟨DX.c0, DX.c4⟩
  have HS1 : Hid (((WX.setCell ⟨w.heap.size, 4, none⟩ (.slice oa on oc))).cell? ⟨lb, 0, none⟩ = some (.slice oa on oc) ∧ ((WX.setCell ⟨w.heap.size, 4, none⟩ (.slice oa on oc))).cell? ⟨lb, 4, none⟩ = some (.int .i64 d)) := ⟨D1.c0, D1.c4⟩
  have HS2 : Hid ((((WX.setCell ⟨w.heap.size, 4, none⟩ (.slice oa on oc)).setCell ⟨w.heap.size, 5, none⟩ (.int .i64 d))).cell? ⟨lb, 0, none⟩ = some (.slice oa on oc) ∧ (((WX.setCell ⟨w.heap.size, 4, none⟩ (.slice oa on oc)).setCell ⟨w.heap.size, 5, none⟩ (.int .i64 d))).cell? ⟨lb, 4, none⟩ = some (.int .i64 d)) := ⟨D2.c0, D2.c4⟩
  clear O1 O2 D1 D2 DX HD B1
  refine wp_region_held_drew (S := fun u => u.cell? ⟨lb, 0, none⟩ = some (.slice oa on oc) ∧ u.cell? ⟨lb, 4, none⟩ = some (.int .i64 d)) (by kernel_rfl) (by rw [hWW]; exact HS0.out) (fun hH => ?_)
  rw [hWW] at hH ⊢
  clear hWW HS0
  refine wpAnyH_take (i := 0) (oi := { dst := some 5, op := Op.move (Operand.tmp 0), type := 83, pos := "l15_memory.go:310", after := #[], guard := none }) (v := .pointer (some ⟨lb, 0, none⟩)) rfl (by kernel_rfl) (by kernel_rfl) (by kernel_rfl) (fun _ _ _ h => h) (Or.inl ⟨by rfl, fun w0 hSw => by (go_simp)⟩) hH ?_
  simp only [Act.put, List.setIfInBounds_toArray, List.set_cons_zero, List.set_cons_succ]
  refine wpAnyH_take (i := 1) (oi := { dst := some 6, op := Op.nilCheck (Operand.tmp 5), type := 0, pos := "l15_memory.go:310", after := #[{ on := 0, ground := Ground.data }], guard := none }) (v := .pointer (some ⟨lb, 0, none⟩)) rfl (by kernel_rfl) (by kernel_rfl) (by kernel_rfl) (fun _ _ _ h => h) (Or.inl ⟨by rfl, fun w0 hSw => by (go_simp)⟩) hH ?_
  simp only [Act.put, List.setIfInBounds_toArray, List.set_cons_zero, List.set_cons_succ]
  refine wpAnyH_take (i := 2) (oi := { dst := some 7, op := Op.fieldAddr 92 (Operand.tmp 6) 0, type := 0, pos := "l15_memory.go:310", after := #[{ on := 1, ground := Ground.data }], guard := none }) (v := .pointer (some ⟨lb, 0, none⟩)) rfl (by kernel_rfl) (by kernel_rfl) (by kernel_rfl) (fun _ _ _ h => h) (Or.inl ⟨by rfl, fun w0 hSw => by (go_simp)⟩) hH ?_
  simp only [Act.put, List.setIfInBounds_toArray, List.set_cons_zero, List.set_cons_succ]
  refine wpAnyH_take (i := 3) (oi := { dst := some 8, op := Op.fieldAddr 88 (Operand.tmp 7) 0, type := 0, pos := "l15_memory.go:310", after := #[{ on := 2, ground := Ground.data }], guard := none }) (v := .pointer (some ⟨lb, 0, none⟩)) rfl (by kernel_rfl) (by kernel_rfl) (by kernel_rfl) (fun _ _ _ h => h) (Or.inl ⟨by rfl, fun w0 hSw => by (go_simp)⟩) hH ?_
  simp only [Act.put, List.setIfInBounds_toArray, List.set_cons_zero, List.set_cons_succ]
  refine wpAnyH_take (i := 4) (oi := { dst := some 9, op := Op.load 40 (Operand.tmp 8), type := 40, pos := "l15_memory.go:310", after := #[{ on := 3, ground := Ground.data }], guard := none }) (v := .slice oa on oc) rfl (by kernel_rfl) (by kernel_rfl) (by kernel_rfl) (fun _ _ _ h => h) (Or.inl ⟨by rfl, fun w0 hSw => by ((have e4 := hSw.1); go_simp)⟩) hH ?_
  simp only [Act.put, List.setIfInBounds_toArray, List.set_cons_zero, List.set_cons_succ]
  refine wpAnyH_take (i := 5) (oi := { dst := some 10, op := Op.move (Operand.tmp 0), type := 83, pos := "l15_memory.go:310", after := #[{ on := 10, ground := Ground.gcOnly Departure.lateStores }], guard := none }) (v := .pointer (some ⟨lb, 0, none⟩)) rfl (by kernel_rfl) (by kernel_rfl) (by kernel_rfl) (fun _ _ _ h => h) (Or.inl ⟨by rfl, fun w0 hSw => by (go_simp)⟩) hH ?_
  simp only [Act.put, List.setIfInBounds_toArray, List.set_cons_zero, List.set_cons_succ]
  refine wpAnyH_take (i := 6) (oi := { dst := some 11, op := Op.nilCheck (Operand.tmp 10), type := 0, pos := "l15_memory.go:310", after := #[{ on := 5, ground := Ground.data }, { on := 10, ground := Ground.gcOnly Departure.lateStores }], guard := none }) (v := .pointer (some ⟨lb, 0, none⟩)) rfl (by kernel_rfl) (by kernel_rfl) (by kernel_rfl) (fun _ _ _ h => h) (Or.inl ⟨by rfl, fun w0 hSw => by (go_simp)⟩) hH ?_
  simp only [Act.put, List.setIfInBounds_toArray, List.set_cons_zero, List.set_cons_succ]
  refine wpAnyH_take (i := 7) (oi := { dst := some 12, op := Op.fieldAddr 92 (Operand.tmp 11) 3, type := 0, pos := "l15_memory.go:310", after := #[{ on := 6, ground := Ground.data }, { on := 10, ground := Ground.gcOnly Departure.lateStores }], guard := none }) (v := .pointer (some ⟨lb, 4, none⟩)) rfl (by kernel_rfl) (by kernel_rfl) (by kernel_rfl) (fun _ _ _ h => h) (Or.inl ⟨by rfl, fun w0 hSw => by (go_simp)⟩) hH ?_
  simp only [Act.put, List.setIfInBounds_toArray, List.set_cons_zero, List.set_cons_succ]
  refine wpAnyH_take (i := 8) (oi := { dst := some 13, op := Op.load 3 (Operand.tmp 12), type := 3, pos := "l15_memory.go:310", after := #[{ on := 7, ground := Ground.data }, { on := 10, ground := Ground.gcOnly Departure.lateStores }], guard := none }) (v := .int .i64 d) rfl (by kernel_rfl) (by kernel_rfl) (by kernel_rfl) (fun _ _ _ h => h) (Or.inl ⟨by rfl, fun w0 hSw => by ((have e4 := hSw.2); go_simp)⟩) hH ?_
  simp only [Act.put, List.setIfInBounds_toArray, List.set_cons_zero, List.set_cons_succ]
  refine wpAnyH_take (i := 9) (oi := { dst := some 14, op := Op.fieldAddr 42 (Operand.tmp 3) 4, type := 0, pos := "l15_memory.go:310", after := #[{ on := 0, ground := Ground.phase }, { on := 1, ground := Ground.phase }, { on := 2, ground := Ground.phase }, { on := 3, ground := Ground.phase }, { on := 4, ground := Ground.phase }, { on := 5, ground := Ground.textOnly Departure.lateStores }, { on := 6, ground := Ground.textOnly Departure.lateStores }, { on := 7, ground := Ground.textOnly Departure.lateStores }, { on := 8, ground := Ground.textOnly Departure.lateStores }], guard := none }) (v := .pointer (some ⟨w.heap.size, 4, none⟩)) rfl (by kernel_rfl) (by kernel_rfl) (by kernel_rfl) (fun _ _ _ h => h) (Or.inl ⟨by rfl, fun w0 hSw => by (go_simp)⟩) hH ?_
  simp only [Act.put, List.setIfInBounds_toArray, List.set_cons_zero, List.set_cons_succ]
  refine wpAnyH_ready (rs := [10]) (by kernel_rfl) (by simp) ?_
  refine (AllReadyH.cons (o := { dst := none, op := Op.store 40 (Operand.tmp 14) (Operand.tmp 9), type := 0, pos := "l15_memory.go:310", after := #[{ on := 9, ground := Ground.data }, { on := 4, ground := Ground.data }, { on := 0, ground := Ground.phase }, { on := 1, ground := Ground.phase }, { on := 2, ground := Ground.phase }, { on := 3, ground := Ground.phase }, { on := 4, ground := Ground.phase }, { on := 5, ground := Ground.textOnly Departure.lateStores }, { on := 6, ground := Ground.textOnly Departure.lateStores }, { on := 7, ground := Ground.textOnly Departure.lateStores }, { on := 8, ground := Ground.textOnly Departure.lateStores }], guard := none }) rfl (fun K hK => ?_) AllReadyH.nil)
  refine step_skip (WX.setCell ⟨w.heap.size, 4, none⟩ (.slice oa on oc)) (by rfl) (by have f4 := CX.f 4; have c4 := CX.c4; go_simp) ?_
  refine hK.out _ _ HS1.out (fun hH' => ?_)
  clear hK K
  replace hH := hH'
  clear hH'
  refine wpAnyH_take (i := 11) (oi := { dst := some 15, op := Op.fieldAddr 42 (Operand.tmp 3) 5, type := 0, pos := "l15_memory.go:310", after := #[{ on := 0, ground := Ground.phase }, { on := 1, ground := Ground.phase }, { on := 2, ground := Ground.phase }, { on := 3, ground := Ground.phase }, { on := 4, ground := Ground.phase }, { on := 5, ground := Ground.phase }, { on := 6, ground := Ground.phase }, { on := 7, ground := Ground.phase }, { on := 8, ground := Ground.phase }, { on := 9, ground := Ground.phase }, { on := 10, ground := Ground.phase }], guard := none }) (v := .pointer (some ⟨w.heap.size, 5, none⟩)) rfl (by kernel_rfl) (by kernel_rfl) (by kernel_rfl) (fun _ _ _ h => h) (Or.inl ⟨by rfl, fun w0 hSw => by (go_simp)⟩) hH ?_
  simp only [Act.put, List.setIfInBounds_toArray, List.set_cons_zero, List.set_cons_succ]
  refine wpAnyH_ready (rs := [12]) (by kernel_rfl) (by simp) ?_
  refine (AllReadyH.cons (o := { dst := none, op := Op.store 3 (Operand.tmp 15) (Operand.tmp 13), type := 0, pos := "l15_memory.go:310", after := #[{ on := 11, ground := Ground.data }, { on := 8, ground := Ground.data }, { on := 10, ground := Ground.chain }, { on := 0, ground := Ground.phase }, { on := 1, ground := Ground.phase }, { on := 2, ground := Ground.phase }, { on := 3, ground := Ground.phase }, { on := 4, ground := Ground.phase }, { on := 5, ground := Ground.phase }, { on := 6, ground := Ground.phase }, { on := 7, ground := Ground.phase }, { on := 8, ground := Ground.phase }, { on := 9, ground := Ground.phase }, { on := 10, ground := Ground.phase }], guard := none }) rfl (fun K hK => ?_) AllReadyH.nil)
  refine step_skip ((WX.setCell ⟨w.heap.size, 4, none⟩ (.slice oa on oc)).setCell ⟨w.heap.size, 5, none⟩ (.int .i64 d)) (by rfl) (by have f4 := C1.f 5; have c4 := C1.c5; go_simp) ?_
  refine hK.out _ _ HS2.out (fun hH' => ?_)
  clear hK K
  replace hH := hH'
  clear hH'
  refine wpAnyH_done (by kernel_rfl) ?_ _
  have r0 := C2.c0
  have r1 := C2.c1
  have r2 := C2.c2
  have r3 := C2.c3
  have r4 := C2.c4
  have r5 := C2.c5
  have rf := C2.f
  have q0 := Z2.c0
  have q1 := Z2.c1
  have q2 := Z2.c2
  have q3 := Z2.c3
  have q4 := Z2.c4
  have q5 := Z2.c5
  have qf := Z2.f
  have FN := Z2.put (.int .i64 s) (.int .i64 y) (.int .i64 l) (.int .i64 p) (.slice oa on oc) (.int .i64 d)
  have ON := only_set6 ((WX.setCell ⟨w.heap.size, 4, none⟩ (.slice oa on oc)).setCell ⟨w.heap.size, 5, none⟩ (.int .i64 d)) (w.heap.size + 1) (.int .i64 s) (.int .i64 y) (.int .i64 l) (.int .i64 p) (.slice oa on oc) (.int .i64 d)
  have BN : Below w.heap.size w (set6 ((WX.setCell ⟨w.heap.size, 4, none⟩ (.slice oa on oc)).setCell ⟨w.heap.size, 5, none⟩ (.int .i64 d)) (w.heap.size + 1) (.int .i64 s) (.int .i64 y) (.int .i64 l) (.int .i64 p) (.slice oa on oc) (.int .i64 d)) := BX2.trans ⟨ON.os, ON.tape, ON.output, ON.size, fun b hb => ON.block b (by have := Z2.hi; omega) (by omega)⟩
  clear HS1 HS2 hH CX C1 C2 Z2 HZ ON BX2
  go_wp2
  clear r0 r1 r2 r3 r4 r5 rf q0 q1 q2 q3 q4 q5 qf
  show bodyPost _ _ _ _ _ (set6 ((WX.setCell ⟨w.heap.size, 4, none⟩ (.slice oa on oc)).setCell ⟨w.heap.size, 5, none⟩ (.int .i64 d)) (w.heap.size + 1) (.int .i64 s) (.int .i64 y) (.int .i64 l) (.int .i64 p) (.slice oa on oc) (.int .i64 d))
  generalize set6 ((WX.setCell ⟨w.heap.size, 4, none⟩ (.slice oa on oc)).setCell ⟨w.heap.size, 5, none⟩ (.int .i64 d)) (w.heap.size + 1) (.int .i64 s) (.int .i64 y) (.int .i64 l) (.int .i64 p) (.slice oa on oc) (.int .i64 d) = V at FN BN ⊢
  have r0 := FN.c0
  have r1 := FN.c1
  have r2 := FN.c2
  have r3 := FN.c3
  have r4 := FN.c4
  have r5 := FN.c5
  have rf := FN.f
  exact bodyPost_ret (v := .agg #[.int .i64 s, .int .i64 y, .int .i64 l, .int .i64 p, .slice oa on oc, .int .i64 d]) (by simp [results, Try.results68, go_sem, r0, r1, r2, r3, r4, r5]) rfl ⟨rfl, BN⟩
theorem pread (B lb gm m y l p cp : Nat) (U : Nat → Value) (L : Nat → List Int) (coin pl : Int) (w : World) (C : C5 w lb (.slice (some ⟨gm, 0, none⟩) m cp) (.int .i64 (y : Int)) (.int .i64 (l : Int)) (polV (p : Int)) (.int .i64 coin)) (K : Kx B w lb gm m U L) (ok : Cs.ok ⟨L, coin⟩ m y) (m1 : 1 ≤ m) (m2 : m ≤ 64) (y1 : 1 ≤ y) (y2 : y ≤ 8) (l1 : 16 ≤ l) (l2 : l ≤ 256) (p1 : 1 ≤ p) (p2 : p ≤ 3) (a0 : 0 ≤ pl) (a1 : pl ≤ 1000000) (cpm : m ≤ cp) : Calls Try.prog 67 #[.pointer (some ⟨lb, 0, none⟩), .int .i64 pl] w fun e w' => e = .returned (.tuple #[.bool (Cs.hit ⟨L, coin⟩ m y l p pl), .int .i64 (Cs.out ⟨L, coin⟩ m y l p pl)]) ∧ C5 w' lb (.slice (some ⟨gm, 0, none⟩) m cp) (.int .i64 (y : Int)) (.int .i64 (l : Int)) (polV (p : Int)) (.int .i64 (Cs.rd ⟨L, coin⟩ m y l p pl).coin) ∧ ∃ U', Kx B w' lb gm m U' (Cs.rd ⟨L, coin⟩ m y l p pl).L ∧ Fr lb gm m U U' w w' := by
  obtain ⟨n0, n1, hs, hsI⟩ := place_set (m := m) (line := (l : Int)) (p := pl) (by omega) (by omega) a0 a1
  obtain ⟨d1, _, _⟩ := div_line a0 a1 (show 1 ≤ (l : Int) by omega)
  have hms := tmod_small (s := (m : Int)) n0
  rw [hsI] at hms
  have hset := ok.1 _ hs
  have h8 : (L ((pl / (l : Int) % (m : Int)).toNat)).length ≤ 8 := by have h9 : (L ((pl / (l : Int) % (m : Int)).toNat)).length ≤ y := hset.1; omega
  have hco : 0 ≤ coin ∧ coin < 65536 := ok.2
  have hp : p = 1 ∨ p = 2 ∨ p = 3 := by omega
  rcases hp with rfl | rfl | rfl
  · exact pread1 B lb gm m cp y l _ U L coin pl _ w C K hs m2 cpm d1 (by omega) hms n0 n1 h8 y1 y2 a0 a1 hco
  · exact pread2 B lb gm m cp y l _ U L coin pl _ w C K hs m2 cpm d1 (by omega) hms n0 n1 h8 y1 y2 a0 a1 hco
  · exact pread3 B lb gm m cp y l _ U L coin pl _ w C K hs m2 cpm d1 (by omega) hms n0 n1 h8 y1 y2 a0 a1 hco
end Go.Proofs.Ytfhpjcojccfcoaa
