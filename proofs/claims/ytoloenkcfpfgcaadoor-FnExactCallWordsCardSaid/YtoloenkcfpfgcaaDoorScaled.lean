/- Contract of the model's l1Scaled where all numbers are small and the step is below 1. -/
import Derived.Test.YtoloenkcfpfgcaaDoorSmall2
namespace Go.Proofs.YtoloenkcfpfgcaaDoor
open Go.ChangeShapes Go.WideShapes Go.ChangeAt Go.RowKit

theorem cell_set3 {w : World} {b k i : Nat} {x' y' z' v : Value} (hk : k ≠ b) (h : w.cell? ⟨k, i, none⟩ = some v) :
    (((w.setCell ⟨b, 0, none⟩ x').setCell ⟨b, 1, none⟩ y').setCell ⟨b, 2, none⟩ z').cell? ⟨k, i, none⟩ = some v := by
  rw [← h]; exact World.cell?_of_block (set3_ne hk)
theorem heap_alloc_at {w : World} {o : Obj} {k : Nat} (h : k = w.heap.size) : (w.alloc o).heap[k]? = some o := by
  subst h; exact heap_alloc_new _ _
set_option maxHeartbeats 2000000 in
theorem zScaled (N D e P : Int) (e0 : -50 ≤ e) (e1 : e < 0) (hP : (2 : Int) ^ (-e).toNat = P) (p0 : 0 < P) (p1 : P ≤ 1125899906842624) (n0 : 0 ≤ N) (n1 : N < 1000000000000000000) (m0 : 0 ≤ N * P) (m1 : N * P < 1000000000000000000) (w : World) :
    Calls Tryd.prog 82 #[.agg #[.int .i64 N, .bool false, .slice none 0 0], .agg #[.int .i64 D, .bool false, .slice none 0 0], .int .i64 e] w fun r w' =>
      r = .returned (.tuple #[.agg #[.int .i64 (N * P), .bool false, .slice none 0 0], .agg #[.int .i64 D, .bool false, .slice none 0 0]]) ∧ Below w.heap.size w w' := by
  have hne : IntKind.i64.wrap (-e) = -e := wr64 _ (by omega) (by omega)
  go_enter Tryd.func82, Tryd.ntmps82
  go_wp2
  obtain ⟨W, hW⟩ : ∃ W, W = ((((w.alloc (.cells #[.int .i64 N, .bool false, .slice none 0 0] 50)).alloc (.cells #[.int .i64 D, .bool false, .slice none 0 0] 50)).alloc (.cells #[.int .i64 0, .bool false, .slice none 0 0] 50)).alloc (.cells #[.int .i64 0, .bool false, .slice none 0 0] 50)) := ⟨_, rfl⟩
  have B0 : W.heap[w.heap.size]? = some (.cells #[.int .i64 N, .bool false, .slice none 0 0] 50 (0, 0)) := by rw [hW, Below.heap_alloc _ _ _ (by first | (simp; done) | (simp; omega)), Below.heap_alloc _ _ _ (by first | (simp; done) | (simp; omega)), Below.heap_alloc _ _ _ (by first | (simp; done) | (simp; omega))]; exact heap_alloc_new _ _
  have B1 : W.heap[w.heap.size + 1]? = some (.cells #[.int .i64 D, .bool false, .slice none 0 0] 50 (0, 0)) := by
    rw [hW, Below.heap_alloc _ _ _ (by first | (simp; done) | (simp; omega)), Below.heap_alloc _ _ _ (by first | (simp; done) | (simp; omega))]
    exact heap_alloc_at (by simp)
  have B2 : W.heap[w.heap.size + 1 + 1]? = some (.cells #[.int .i64 0, .bool false, .slice none 0 0] 50 (0, 0)) := by
    rw [hW, Below.heap_alloc _ _ _ (by first | (simp; done) | (simp; omega))]
    exact heap_alloc_at (by simp)
  have B3 : W.heap[w.heap.size + 1 + 1 + 1]? = some (.cells #[.int .i64 0, .bool false, .slice none 0 0] 50 (0, 0)) := by
    rw [hW]
    exact heap_alloc_at (by simp)
  have hBW : Below w.heap.size w W := by rw [hW]; repeat (first | (with_reducible refine Below.setCell ?_ (by first | omega | (simp; try omega)) _) | (with_reducible refine Below.alloc ?_ (by first | omega | (simp; try omega)) _) | (with_reducible apply Below.drew) | (with_reducible apply below_drewN) | (with_reducible exact Below.refl _ _))
  have hSW : W.heap.size = w.heap.size + 1 + 1 + 1 + 1 := by rw [hW]; simp
  rw [← hW]
  clear hW
  obtain ⟨⟨g0, g1, g2⟩, _, _, _⟩ := blk3 B0
  obtain ⟨⟨i0, i1, i2⟩, _, _, _⟩ := blk3 B1
  go_region_held3 (fun v => v.cell? ⟨w.heap.size, 0, none⟩ = some (.int .i64 N) ∧ v.cell? ⟨w.heap.size, 1, none⟩ = some (.bool false) ∧ v.cell? ⟨w.heap.size, 2, none⟩ = some (.slice none 0 0) ∧ v.cell? ⟨w.heap.size + 1, 0, none⟩ = some (.int .i64 D) ∧ v.cell? ⟨w.heap.size + 1, 1, none⟩ = some (.bool false) ∧ v.cell? ⟨w.heap.size + 1, 2, none⟩ = some (.slice none 0 0)) (first | with_reducible exact ⟨g0, g1, g2, i0, i1, i2⟩ | with_reducible exact ⟨s0, s1, s2, s3, s4, s5⟩ | with_reducible exact ⟨t0, t1, t2, t3, t4, t5⟩ | (with_reducible refine ⟨cell_set3 ?_ t0, cell_set3 ?_ t1, cell_set3 ?_ t2, cell_set3 ?_ t3, cell_set3 ?_ t4, cell_set3 ?_ t5⟩ <;> omega) | (with_reducible refine ⟨cell_set3 ?_ (cell_set3 ?_ t0), cell_set3 ?_ (cell_set3 ?_ t1), cell_set3 ?_ (cell_set3 ?_ t2), cell_set3 ?_ (cell_set3 ?_ t3), cell_set3 ?_ (cell_set3 ?_ t4), cell_set3 ?_ (cell_set3 ?_ t5)⟩ <;> omega) | (go_keep; done)) (first | (go_at_call 39; (try rw [hne]); refine (zPower _ (by omega) (by omega) _).mono ?_; rw [hP]; rintro e w4 ⟨rfl, hb4⟩; obtain ⟨hc4, hf4⟩ := bcell hb4; have hz4 := hb4.size; (try simp at hz4); obtain ⟨⟨s0, s1, s2⟩, _, _, _⟩ := blk3 ((hb4.block _ (by first | (simp; done) | (simp; omega))).trans B0); obtain ⟨⟨s3, s4, s5⟩, _, _, _⟩ := blk3 ((hb4.block _ (by first | (simp; done) | (simp; omega))).trans B1)) | (go_at_call 37; refine (zMul _ _ (by omega) (by omega) (by omega) (by omega) (by omega) (by omega) _).mono ?_; rintro e w5 ⟨rfl, hb5⟩; obtain ⟨hc5, hf5⟩ := bcell hb5; have hz5 := hb5.size; (try simp at hz5); obtain ⟨⟨x0, x1, x2⟩, y0, y1, y2⟩ := blk3 ((hb5.block _ (by omega)).trans ((hb4.block _ (by first | (simp; done) | (simp; omega))).trans B2)); obtain ⟨⟨x3, x4, x5⟩, y3, y4, y5⟩ := blk3 ((hb5.block _ (by omega)).trans ((hb4.block _ (by first | (simp; done) | (simp; omega))).trans B3)); obtain ⟨⟨t0, t1, t2⟩, _, _, _⟩ := blk3 ((hb5.block _ (by omega)).trans ((hb4.block _ (by first | (simp; done) | (simp; omega))).trans B0)); obtain ⟨⟨t3, t4, t5⟩, _, _, _⟩ := blk3 ((hb5.block _ (by omega)).trans ((hb4.block _ (by first | (simp; done) | (simp; omega))).trans B1))))
  all_goals go_wp2
  all_goals exact bodyPost_ret (v := .tuple #[.agg #[.int .i64 (N * P), .bool false, .slice none 0 0], .agg #[.int .i64 D, .bool false, .slice none 0 0]]) (by simp [results, Tryd.results82, go_sem, x0, x1, x2, x3, x4, x5]) rfl ⟨rfl, by repeat (first | (with_reducible refine Below.setCell ?_ (by first | omega | (simp; try omega)) _) | (with_reducible refine Below.alloc ?_ (by first | omega | (simp; try omega)) _) | (with_reducible apply Below.drew) | (with_reducible apply below_drewN) | (with_reducible exact Below.refl _ _) | (with_reducible refine Below.trans ?_ (hb5.mono (by first | omega | (simp; try omega)))) | (with_reducible refine Below.trans ?_ (hb4.mono (by first | omega | (simp; try omega)))) | (with_reducible exact hBW))⟩
end Go.Proofs.YtoloenkcfpfgcaaDoor
