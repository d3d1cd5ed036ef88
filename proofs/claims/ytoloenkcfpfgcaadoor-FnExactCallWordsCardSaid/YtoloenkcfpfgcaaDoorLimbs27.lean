/- Contract of the model's l1Scaled over any numbers, by what they stand for; conditions: powers up to 1000, at most 100,000 limbs. -/
import Derived.Test.YtoloenkcfpfgcaaDoorLimbs22
import Derived.Test.YtoloenkcfpfgcaaDoorScaled
import Derived.Deep.RegionHeld3
namespace Go.Proofs.YtoloenkcfpfgcaaDoor
open Go.ChangeShapes Go.WideShapes Go.ChangeAt Go.RowKit

set_option maxRecDepth 100000 in
set_option maxHeartbeats 4000000 in
theorem num_scaled_dn {w : World} {K L : Nat} {a b : Value} {A B : Int} (HA : Num w K a A) (HB : Num w L b B) (hK : 2 ≤ K) (hKL : K + 101 ≤ 100000) (E : Nat) (hE : E ≤ 1000) (e : Int) (he : e = -(E : Int)) (hE0 : 0 < E) :
    Calls Tryd.prog 82 #[a, b, .int .i64 e] w fun r w' => ∃ v, r = .returned (.tuple #[v, b]) ∧ Num w' (K + 101) v (A * 2 ^ E) ∧ Below w.heap.size w w' := by
  obtain ⟨VA, gA, pA, lA, cA, rfl⟩ := HA.parts
  obtain ⟨VB, gB, pB, lB, cB, rfl⟩ := HB.parts
  have e1 : (E : Int) ≤ 1000 := by omega
  have e0 : e < 0 := by omega
  have en : ¬ (0 : Int) ≤ e := by omega
  have e2 : -1000 ≤ e := by omega
  have hne : IntKind.i64.wrap (E : Int) = (E : Int) := wr64 _ (by omega) (by omega)
  have hne2 : -e = (E : Int) := by omega
  clear he
  go_enter Tryd.func82, Tryd.ntmps82
  go_wp2
  obtain ⟨W, hW⟩ : ∃ W, W = ((((w.alloc (.cells #[.int .i64 VA, .bool gA, .slice pA lA cA] 50)).alloc (.cells #[.int .i64 VB, .bool gB, .slice pB lB cB] 50)).alloc (.cells #[.int .i64 0, .bool false, .slice none 0 0] 50)).alloc (.cells #[.int .i64 0, .bool false, .slice none 0 0] 50)) := ⟨_, rfl⟩
  have B0 : Three W w.heap.size (.int .i64 VA) (.bool gA) (.slice pA lA cA) := by show W.heap[_]? = _; rw [hW, Below.heap_alloc _ _ _ (by first | (simp; done) | (simp; omega)), Below.heap_alloc _ _ _ (by first | (simp; done) | (simp; omega)), Below.heap_alloc _ _ _ (by first | (simp; done) | (simp; omega))]; exact heap_alloc_new _ _
  have B1 : Three W (w.heap.size + 1) (.int .i64 VB) (.bool gB) (.slice pB lB cB) := by
    show W.heap[_]? = _
    rw [hW, Below.heap_alloc _ _ _ (by first | (simp; done) | (simp; omega)), Below.heap_alloc _ _ _ (by first | (simp; done) | (simp; omega))]
    exact heap_alloc_eq (by simp)
  have B2 : Three W (w.heap.size + 1 + 1) (.int .i64 0) (.bool false) (.slice none 0 0) := by
    show W.heap[_]? = _
    rw [hW, Below.heap_alloc _ _ _ (by first | (simp; done) | (simp; omega))]
    exact heap_alloc_eq (by simp)
  have B3 : Three W (w.heap.size + 1 + 1 + 1) (.int .i64 0) (.bool false) (.slice none 0 0) := by
    show W.heap[_]? = _
    rw [hW]
    exact heap_alloc_eq (by simp)
  have hBW : Below w.heap.size w W := by rw [hW]; repeat (first | (with_reducible refine Below.alloc ?_ (by first | omega | (simp; try omega)) _) | (with_reducible exact Below.refl _ _))
  have hSW : W.heap.size = w.heap.size + 1 + 1 + 1 + 1 := by rw [hW]; simp
  rw [← hW]
  clear hW
  obtain ⟨⟨g0, g1, g2⟩, _, _, _⟩ := blk3 B0
  obtain ⟨⟨i0, i1, i2⟩, _, _, _⟩ := blk3 B1
  have NX := HA.next hBW
  go_region_held3 (fun v => v.cell? ⟨w.heap.size, 0, none⟩ = some (.int .i64 VA) ∧ v.cell? ⟨w.heap.size, 1, none⟩ = some (.bool gA) ∧ v.cell? ⟨w.heap.size, 2, none⟩ = some (.slice pA lA cA) ∧ v.cell? ⟨w.heap.size + 1, 0, none⟩ = some (.int .i64 VB) ∧ v.cell? ⟨w.heap.size + 1, 1, none⟩ = some (.bool gB) ∧ v.cell? ⟨w.heap.size + 1, 2, none⟩ = some (.slice pB lB cB)) (first | with_reducible exact ⟨g0, g1, g2, i0, i1, i2⟩ | with_reducible exact ⟨s0, s1, s2, s3, s4, s5⟩ | with_reducible exact ⟨t0, t1, t2, t3, t4, t5⟩ | (with_reducible refine ⟨cell_set3 ?_ t0, cell_set3 ?_ t1, cell_set3 ?_ t2, cell_set3 ?_ t3, cell_set3 ?_ t4, cell_set3 ?_ t5⟩ <;> omega) | (with_reducible refine ⟨cell_set3 ?_ (cell_set3 ?_ t0), cell_set3 ?_ (cell_set3 ?_ t1), cell_set3 ?_ (cell_set3 ?_ t2), cell_set3 ?_ (cell_set3 ?_ t3), cell_set3 ?_ (cell_set3 ?_ t4), cell_set3 ?_ (cell_set3 ?_ t5)⟩ <;> omega) | (go_keep; done)) (first | (go_at_call 39; (try rw [hne]); refine (num_power E hE _).mono ?_; rintro e w4 ⟨v4, rfl, N4, hb4⟩; obtain ⟨V4, g4, p4, l4, c4, rfl⟩ := N4.parts; (have hb4' : Below W.heap.size W w4 := ⟨hb4.os, hb4.tape, hb4.output, hb4.size, hb4.block⟩); have NX4 := NX.next hb4'; obtain ⟨⟨s0, s1, s2⟩, _, _, _⟩ := blk3 (B0.next hb4'); obtain ⟨⟨s3, s4, s5⟩, _, _, _⟩ := blk3 (B1.next hb4')) | (go_at_call 37; refine (num_mul_any (w := w4) NX4 N4 hK (by decide) (by omega)).mono ?_; rintro e w5 ⟨v5, rfl, N5, hb5⟩; obtain ⟨V5, g5, p5, l5, c5, rfl⟩ := N5.parts; have Z2 := (B2.next hb4').next hb5; have Z3 := (B3.next hb4').next hb5; obtain ⟨⟨x0, x1, x2⟩, y0, y1, y2⟩ := blk3 Z2; obtain ⟨⟨x3, x4, x5⟩, y3, y4, y5⟩ := blk3 Z3; obtain ⟨⟨t0, t1, t2⟩, _, _, _⟩ := blk3 ((B0.next hb4').next hb5); obtain ⟨⟨t3, t4, t5⟩, _, _, _⟩ := blk3 ((B1.next hb4').next hb5)))
  all_goals go_wp2
  all_goals
    have bel := (hBW.trans (hb4'.mono hBW.size)).trans (hb5.mono (Nat.le_trans hBW.size hb4'.size))
    first | (exact bodyPost_ret (v := .tuple #[.agg #[.int .i64 V5, .bool g5, .slice p5 l5 c5], .agg #[.int .i64 VB, .bool gB, .slice pB lB cB]]) (by simp [results, Tryd.results82, go_sem, x0, x1, x2, x3, x4, x5]) rfl ⟨_, rfl, ((N5.set3 Z2 (.int .i64 V5) (.bool g5) (.slice p5 l5 c5)).set3 (Z3.other (by omega) (.int .i64 V5) (.bool g5) (.slice p5 l5 c5)) (.int .i64 VB) (.bool gB) (.slice pB lB cB)), below_set3 (below_set3 bel (by omega) (.int .i64 V5) (.bool g5) (.slice p5 l5 c5)) (by omega) (.int .i64 VB) (.bool gB) (.slice pB lB cB)⟩) | (exact bodyPost_ret (v := .tuple #[.agg #[.int .i64 V5, .bool g5, .slice p5 l5 c5], .agg #[.int .i64 VB, .bool gB, .slice pB lB cB]]) (by simp [results, Tryd.results82, go_sem, x0, x1, x2, x3, x4, x5]) rfl ⟨_, rfl, ((N5.set3 Z3 (.int .i64 VB) (.bool gB) (.slice pB lB cB)).set3 (Z2.other (by omega) (.int .i64 VB) (.bool gB) (.slice pB lB cB)) (.int .i64 V5) (.bool g5) (.slice p5 l5 c5)), below_set3 (below_set3 bel (by omega) (.int .i64 VB) (.bool gB) (.slice pB lB cB)) (by omega) (.int .i64 V5) (.bool g5) (.slice p5 l5 c5)⟩)

set_option maxRecDepth 100000 in
set_option maxHeartbeats 4000000 in
theorem num_scaled_up {w : World} {K L : Nat} {a b : Value} {A B : Int} (HA : Num w K a A) (HB : Num w L b B) (hK : 2 ≤ L) (hKL : L + 101 ≤ 100000) (E : Nat) (hE : E ≤ 1000) :
    Calls Tryd.prog 82 #[a, b, .int .i64 (E : Int)] w fun r w' => ∃ v, r = .returned (.tuple #[a, v]) ∧ Num w' (L + 101) v (B * 2 ^ E) ∧ Below w.heap.size w w' := by
  obtain ⟨VA, gA, pA, lA, cA, rfl⟩ := HA.parts
  obtain ⟨VB, gB, pB, lB, cB, rfl⟩ := HB.parts
  have e1 : (E : Int) ≤ 1000 := by omega
  go_enter Tryd.func82, Tryd.ntmps82
  go_wp2
  obtain ⟨W, hW⟩ : ∃ W, W = ((((w.alloc (.cells #[.int .i64 VA, .bool gA, .slice pA lA cA] 50)).alloc (.cells #[.int .i64 VB, .bool gB, .slice pB lB cB] 50)).alloc (.cells #[.int .i64 0, .bool false, .slice none 0 0] 50)).alloc (.cells #[.int .i64 0, .bool false, .slice none 0 0] 50)) := ⟨_, rfl⟩
  have B0 : Three W w.heap.size (.int .i64 VA) (.bool gA) (.slice pA lA cA) := by show W.heap[_]? = _; rw [hW, Below.heap_alloc _ _ _ (by first | (simp; done) | (simp; omega)), Below.heap_alloc _ _ _ (by first | (simp; done) | (simp; omega)), Below.heap_alloc _ _ _ (by first | (simp; done) | (simp; omega))]; exact heap_alloc_new _ _
  have B1 : Three W (w.heap.size + 1) (.int .i64 VB) (.bool gB) (.slice pB lB cB) := by
    show W.heap[_]? = _
    rw [hW, Below.heap_alloc _ _ _ (by first | (simp; done) | (simp; omega)), Below.heap_alloc _ _ _ (by first | (simp; done) | (simp; omega))]
    exact heap_alloc_eq (by simp)
  have B2 : Three W (w.heap.size + 1 + 1) (.int .i64 0) (.bool false) (.slice none 0 0) := by
    show W.heap[_]? = _
    rw [hW, Below.heap_alloc _ _ _ (by first | (simp; done) | (simp; omega))]
    exact heap_alloc_eq (by simp)
  have B3 : Three W (w.heap.size + 1 + 1 + 1) (.int .i64 0) (.bool false) (.slice none 0 0) := by
    show W.heap[_]? = _
    rw [hW]
    exact heap_alloc_eq (by simp)
  have hBW : Below w.heap.size w W := by rw [hW]; repeat (first | (with_reducible refine Below.alloc ?_ (by first | omega | (simp; try omega)) _) | (with_reducible exact Below.refl _ _))
  have hSW : W.heap.size = w.heap.size + 1 + 1 + 1 + 1 := by rw [hW]; simp
  rw [← hW]
  clear hW
  obtain ⟨⟨g0, g1, g2⟩, _, _, _⟩ := blk3 B0
  obtain ⟨⟨i0, i1, i2⟩, _, _, _⟩ := blk3 B1
  have NX := HB.next hBW
  go_region_held3 (fun v => v.cell? ⟨w.heap.size, 0, none⟩ = some (.int .i64 VA) ∧ v.cell? ⟨w.heap.size, 1, none⟩ = some (.bool gA) ∧ v.cell? ⟨w.heap.size, 2, none⟩ = some (.slice pA lA cA) ∧ v.cell? ⟨w.heap.size + 1, 0, none⟩ = some (.int .i64 VB) ∧ v.cell? ⟨w.heap.size + 1, 1, none⟩ = some (.bool gB) ∧ v.cell? ⟨w.heap.size + 1, 2, none⟩ = some (.slice pB lB cB)) (first | with_reducible exact ⟨g0, g1, g2, i0, i1, i2⟩ | with_reducible exact ⟨s0, s1, s2, s3, s4, s5⟩ | with_reducible exact ⟨t0, t1, t2, t3, t4, t5⟩ | (with_reducible refine ⟨cell_set3 ?_ t0, cell_set3 ?_ t1, cell_set3 ?_ t2, cell_set3 ?_ t3, cell_set3 ?_ t4, cell_set3 ?_ t5⟩ <;> omega) | (with_reducible refine ⟨cell_set3 ?_ (cell_set3 ?_ t0), cell_set3 ?_ (cell_set3 ?_ t1), cell_set3 ?_ (cell_set3 ?_ t2), cell_set3 ?_ (cell_set3 ?_ t3), cell_set3 ?_ (cell_set3 ?_ t4), cell_set3 ?_ (cell_set3 ?_ t5)⟩ <;> omega) | (go_keep; done)) (first | (go_at_call 39; (try rw [hne]); refine (num_power E hE _).mono ?_; rintro e w4 ⟨v4, rfl, N4, hb4⟩; obtain ⟨V4, g4, p4, l4, c4, rfl⟩ := N4.parts; (have hb4' : Below W.heap.size W w4 := ⟨hb4.os, hb4.tape, hb4.output, hb4.size, hb4.block⟩); have NX4 := NX.next hb4'; obtain ⟨⟨s0, s1, s2⟩, _, _, _⟩ := blk3 (B0.next hb4'); obtain ⟨⟨s3, s4, s5⟩, _, _, _⟩ := blk3 (B1.next hb4')) | (go_at_call 37; refine (num_mul_any (w := w4) NX4 N4 hK (by decide) (by omega)).mono ?_; rintro e w5 ⟨v5, rfl, N5, hb5⟩; obtain ⟨V5, g5, p5, l5, c5, rfl⟩ := N5.parts; have Z2 := (B2.next hb4').next hb5; have Z3 := (B3.next hb4').next hb5; obtain ⟨⟨x0, x1, x2⟩, y0, y1, y2⟩ := blk3 Z2; obtain ⟨⟨x3, x4, x5⟩, y3, y4, y5⟩ := blk3 Z3; obtain ⟨⟨t0, t1, t2⟩, _, _, _⟩ := blk3 ((B0.next hb4').next hb5); obtain ⟨⟨t3, t4, t5⟩, _, _, _⟩ := blk3 ((B1.next hb4').next hb5)))
  all_goals go_wp2
  all_goals
    have bel := (hBW.trans (hb4'.mono hBW.size)).trans (hb5.mono (Nat.le_trans hBW.size hb4'.size))
    first | (exact bodyPost_ret (v := .tuple #[.agg #[.int .i64 VA, .bool gA, .slice pA lA cA], .agg #[.int .i64 V5, .bool g5, .slice p5 l5 c5]]) (by simp [results, Tryd.results82, go_sem, x0, x1, x2, x3, x4, x5]) rfl ⟨_, rfl, ((N5.set3 Z2 (.int .i64 VA) (.bool gA) (.slice pA lA cA)).set3 (Z3.other (by omega) (.int .i64 VA) (.bool gA) (.slice pA lA cA)) (.int .i64 V5) (.bool g5) (.slice p5 l5 c5)), below_set3 (below_set3 bel (by omega) (.int .i64 VA) (.bool gA) (.slice pA lA cA)) (by omega) (.int .i64 V5) (.bool g5) (.slice p5 l5 c5)⟩) | (exact bodyPost_ret (v := .tuple #[.agg #[.int .i64 VA, .bool gA, .slice pA lA cA], .agg #[.int .i64 V5, .bool g5, .slice p5 l5 c5]]) (by simp [results, Tryd.results82, go_sem, x0, x1, x2, x3, x4, x5]) rfl ⟨_, rfl, ((N5.set3 Z3 (.int .i64 V5) (.bool g5) (.slice p5 l5 c5)).set3 (Z2.other (by omega) (.int .i64 V5) (.bool g5) (.slice p5 l5 c5)) (.int .i64 VA) (.bool gA) (.slice pA lA cA)), below_set3 (below_set3 bel (by omega) (.int .i64 V5) (.bool g5) (.slice p5 l5 c5)) (by omega) (.int .i64 VA) (.bool gA) (.slice pA lA cA)⟩)

end Go.Proofs.YtoloenkcfpfgcaaDoor
