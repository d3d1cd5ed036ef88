/- Contract of the model's l1Small and l1Exact over every number of 64 bits. -/
import Derived.Test.YtfogppgpbcelgaaDoorWords
namespace Go.Proofs.YtfogppgpbcelgaaDoor
open Go.ChangeShapes Go.WideShapes Go.ChangeAt Go.RowKit
set_option linter.unusedVariables false
theorem num3X (w : World) (o : Obj) (neg : Bool) (U : Int) (u0 : 1000000000000000000 ≤ U) (u1 : U < 10000000000000000000) (N : Int) (hN : N = if neg then -U else U) :
    Num ((w.alloc o).alloc (.cells #[.int .u32 (U % 1000000000), .int .u32 (U / 1000000000 % 1000000000), .int .u32 (U / 1000000000 / 1000000000)] 22)) 3 (.agg #[.int .i64 0, .bool neg, .slice (some ⟨w.heap.size + 1, 0, none⟩) 3 3]) N := by
  obtain ⟨u, rfl⟩ := Int.eq_ofNat_of_zero_le (by omega : 0 ≤ U)
  have hh : ((w.alloc o).alloc (.cells #[.int .u32 ((u : Int) % 1000000000), .int .u32 ((u : Int) / 1000000000 % 1000000000), .int .u32 ((u : Int) / 1000000000 / 1000000000)] 22)).heap[w.heap.size + 1]? = some (.cells #[.int .u32 ((u : Int) % 1000000000), .int .u32 ((u : Int) / 1000000000 % 1000000000), .int .u32 ((u : Int) / 1000000000 / 1000000000)] 22 (0, 0)) := heap_alloc_eq (by simp)
  obtain ⟨⟨c0, c1, c2⟩, _⟩ := blk3 hh
  refine Or.inr ⟨neg, w.heap.size + 1, 3, 3, limb3 u, rfl, by omega, by omega, by omega, by omega, fun i hi => ?_, by simp, fun i => ?_, ?_, ?_⟩
  · rcases (by omega : i = 0 ∨ i = 1 ∨ i = 2) with rfl | rfl | rfl
    · rw [c0]; rfl
    · rw [c1]; rfl
    · rw [c2]; rfl
  · unfold limb3; split; omega; split; omega; split <;> omega
  · simp [limb3]; omega
  · rw [limb3_val, hN]; rfl
set_option maxHeartbeats 1000000 in
theorem gSmall_posX (v : Int) (u0 : 1000000000000000000 ≤ v) (u1 : v ≤ 9223372036854775807) (w : World) :
    Calls Tryd.prog 32 #[.int .i64 v] w fun e w' => ∃ x, e = .returned x ∧ Num w' 3 x v ∧ Below w.heap.size w w' := by
  go_enter Tryd.func32, Tryd.ntmps32
  have hd : decide (v < 0) = false := by simp; omega
  go_wp2
  exact bodyPost_ret (v := .agg #[.int .i64 0, .bool false, .slice (some ⟨w.heap.size + 1, 0, none⟩) 3 3]) (by simp [results, Tryd.results32, go_sem]) rfl ⟨_, rfl, num3X w _ false v u0 (by omega) v rfl, by repeat (first | (with_reducible refine Below.alloc ?_ (by first | omega | (simp; try omega)) _) | (with_reducible exact Below.refl _ _))⟩
set_option maxHeartbeats 1000000 in
theorem gSmall_negX (v : Int) (u0 : v ≤ -1000000000000000000) (u1 : -9223372036854775808 < v) (w : World) :
    Calls Tryd.prog 32 #[.int .i64 v] w fun e w' => ∃ x, e = .returned x ∧ Num w' 3 x v ∧ Below w.heap.size w w' := by
  obtain ⟨U, hU⟩ : ∃ U, -v = U := ⟨_, rfl⟩
  go_enter Tryd.func32, Tryd.ntmps32
  go_wp2
  exact bodyPost_ret (v := .agg #[.int .i64 0, .bool true, .slice (some ⟨w.heap.size + 1, 0, none⟩) 3 3]) (by simp [results, Tryd.results32, go_sem]) rfl ⟨_, rfl, num3X w _ true U (by omega) (by omega) v (by rw [← hU]; simp), by repeat (first | (with_reducible refine Below.alloc ?_ (by first | omega | (simp; try omega)) _) | (with_reducible exact Below.refl _ _))⟩
set_option maxHeartbeats 1000000 in
theorem gSmall_min (w : World) :
    Calls Tryd.prog 32 #[.int .i64 (-9223372036854775808)] w fun e w' => ∃ x, e = .returned x ∧ Num w' 3 x (-9223372036854775808) ∧ Below w.heap.size w w' := by
  obtain ⟨U, hU⟩ : ∃ U, IntKind.u64.wrap (wrap64 9223372036854775808) = U := ⟨_, rfl⟩
  have hU2 : U = 9223372036854775808 := by rw [← hU, IntKind.wrap_u64]; unfold wrap64; omega
  have HU : Hid (U = 9223372036854775808) := hU2
  have U0 : 1000000000000000000 ≤ U := by omega
  have U1 : U < 10000000000000000000 := by omega
  clear hU2
  go_enter Tryd.func32, Tryd.ntmps32
  go_wp2
  exact bodyPost_ret (v := .agg #[.int .i64 0, .bool true, .slice (some ⟨w.heap.size + 1, 0, none⟩) 3 3]) (by simp [results, Tryd.results32, go_sem]) rfl ⟨_, rfl, num3X w _ true U U0 U1 (-9223372036854775808) (by have := HU.out; simp; omega), by repeat (first | (with_reducible refine Below.alloc ?_ (by first | omega | (simp; try omega)) _) | (with_reducible exact Below.refl _ _))⟩
/-- l1Small of any int. -/
theorem num_i64 (v : Int) (v0 : -9223372036854775808 ≤ v) (v1 : v ≤ 9223372036854775807) (w : World) :
    Calls Tryd.prog 32 #[.int .i64 v] w fun e w' => ∃ x, e = .returned x ∧ Num w' 3 x v ∧ Below w.heap.size w w' := by
  by_cases hm : v = -9223372036854775808
  · subst hm; exact gSmall_min w
  by_cases h0 : v ≤ -1000000000000000000
  · exact gSmall_negX v h0 (by omega) w
  by_cases h1 : 1000000000000000000 ≤ v
  · exact gSmall_posX v h1 v1 w
  · exact (zSmall v (by omega) (by omega) w).mono fun e w' ⟨h2, hb⟩ => ⟨_, h2, num_small w' 3 v (by omega) (by omega), hb⟩
theorem Num.set7 {w : World} {K : Nat} {v : Value} {N : Int} (h : Num w K v N) {j : Nat} {g : Bool} (hj : w.cell? ⟨j, 1, none⟩ = some (.bool g)) (x0 x1 x2 x3 x4 x5 x6 : Value) : Num (((((((w.setCell ⟨j, 0, none⟩ x0).setCell ⟨j, 1, none⟩ x1).setCell ⟨j, 2, none⟩ x2).setCell ⟨j, 3, none⟩ x3).setCell ⟨j, 4, none⟩ x4).setCell ⟨j, 5, none⟩ x5).setCell ⟨j, 6, none⟩ x6) K v N := by
  rcases h with h | ⟨neg, b, t, cb, f, hv, t3, tK, tc, t1, hf, hl, f9, top, hN⟩
  · exact Or.inl h
  · refine Or.inr ⟨neg, b, t, cb, f, hv, t3, tK, tc, t1, fun k hk => ?_, by simpa using hl, f9, top, hN⟩
    have hbj : b ≠ j := by
      intro e
      have h1 := hf 1 (by omega)
      rw [e, hj] at h1
      cases h1
    have hne : ∀ i : Nat, (⟨j, i, none⟩ : Addr) ≠ ⟨b, k, none⟩ := fun i e => by injection e with e1 _; exact hbj e1.symm
    rw [World.cell?_setCell_other (h := hne 6), World.cell?_setCell_other (h := hne 5), World.cell?_setCell_other (h := hne 4), World.cell?_setCell_other (h := hne 3), World.cell?_setCell_other (h := hne 2), World.cell?_setCell_other (h := hne 1), World.cell?_setCell_other (h := hne 0)]
    exact hf k hk
set_option maxHeartbeats 2000000 in
theorem num_exact (m E : Int) (h0 : -9223372036854775808 ≤ m) (h1 : m ≤ 9223372036854775807) (w : World) :
    Calls Tryd.prog 15 #[.int .i64 m, .int .i64 E] w fun e w' => ∃ V g p l c, e = .returned (.agg #[.int .i64 V, .bool g, .slice p l c, .int .i64 1, .bool false, .slice none 0 0, .int .i64 E]) ∧ Num w' 3 (.agg #[.int .i64 V, .bool g, .slice p l c]) m ∧ Below w.heap.size w w' := by
  go_enter Tryd.func15, Tryd.ntmps15
  go_wp2_with (first | (go_at_call 32; (with_reducible show Calls Tryd.prog 32 #[Value.int IntKind.i64 m] _ _); refine (num_i64 m h0 h1 _).mono ?_; rintro e w1 ⟨x, rfl, NX, hb1⟩; obtain ⟨V, g, p, l, c, rfl⟩ := NX.parts; have hz1 := hb1.size; (try simp at hz1)) | (go_at_call 32; (with_reducible show Calls Tryd.prog 32 #[Value.int IntKind.i64 1] _ _); refine (zSmall 1 (by decide) (by decide) _).mono ?_; rintro e w2 ⟨rfl, hb2⟩; have hz2 := hb2.size; obtain ⟨⟨x0, x1, x2, x3, x4, x5, x6⟩, y0, y1, y2, y3, y4, y5, y6⟩ := blk7 ((hb2.block _ (by omega)).trans ((hb1.block _ (by simp)).trans (heap_alloc_new _ _)))))
  have NY := NX.next hb2
  exact bodyPost_ret (v := .agg #[.int .i64 V, .bool g, .slice p l c, .int .i64 1, .bool false, .slice none 0 0, .int .i64 E]) (by simp [results, Tryd.results15, go_sem, x0, x1, x2, x3, x4, x5, x6]) rfl ⟨V, g, p, l, c, rfl, NY.set7 x1 _ _ _ _ _ _ _, by repeat (first | (with_reducible refine Below.setCell ?_ (by first | omega | (simp; try omega)) _) | (with_reducible refine Below.alloc ?_ (by first | omega | (simp; try omega)) _) | (with_reducible exact Below.refl _ _) | (with_reducible refine Below.trans ?_ (hb2.mono (by first | omega | (simp; try omega)))) | (with_reducible refine Below.trans ?_ (hb1.mono (by first | omega | (simp; try omega)))))⟩
end Go.Proofs.YtfogppgpbcelgaaDoor
