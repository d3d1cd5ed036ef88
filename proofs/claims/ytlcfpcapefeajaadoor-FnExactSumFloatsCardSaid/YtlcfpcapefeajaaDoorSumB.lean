/- Contract of the program's sumOf: the one of the higher top is lifted, the other is lowered to its power. -/
import Derived.Test.YtlcfpcapefeajaaDoorSum
namespace Go.Proofs.YtlcfpcapefeajaaDoor
open Go.ChangeShapes Go.WideShapes Go.ChangeAt Go.RowKit
set_option linter.unusedVariables false
theorem set4 {w : World} {b : Nat} {x y z u x' y' z' u' : Value} {t : TypeId} (h : w.heap[b]? = some (.cells #[x, y, z, u] t (0, 0))) :
    ((((w.setCell ⟨b, 0, none⟩ x').setCell ⟨b, 1, none⟩ y').setCell ⟨b, 2, none⟩ z').setCell ⟨b, 3, none⟩ u').heap[b]? = some (.cells #[x', y', z', u'] t (0, 0)) := by
  have hb : b < w.heap.size := lt_of_block h
  have e : w.heap[b] = .cells #[x, y, z, u] t (0, 0) := by
    have := Array.getElem?_eq_getElem hb
    rw [this] at h; exact Option.some.inj h
  simp [World.setCell, Array.getElem?_modify, h]
theorem set4_ne {w : World} {b k : Nat} {x' y' z' u' : Value} (hk : k ≠ b) :
    ((((w.setCell ⟨b, 0, none⟩ x').setCell ⟨b, 1, none⟩ y').setCell ⟨b, 2, none⟩ z').setCell ⟨b, 3, none⟩ u').heap[k]? = w.heap[k]? := by
  rw [Below.heap_setCell _ _ _ _ hk, Below.heap_setCell _ _ _ _ hk, Below.heap_setCell _ _ _ _ hk, Below.heap_setCell _ _ _ _ hk]
theorem sum_nilx (nx ny : Bool) (p Y q : Int) (w : World) :
    Calls Tryd.prog 94 #[.agg #[.bool nx, .int .u64 0, .int .i64 p, .bool false], .agg #[.bool ny, .int .u64 Y, .int .i64 q, .bool false]] w fun e w' => e = .returned (.agg #[.bool ny, .int .u64 Y, .int .i64 q, .bool false]) ∧ Below w.heap.size w w' := by
  go_enter Tryd.func94, Tryd.ntmps94
  go_wp2
  exact bodyPost_ret (v := .agg #[.bool ny, .int .u64 Y, .int .i64 q, .bool false]) (by simp [results, Tryd.results94, go_sem]) rfl ⟨rfl, by repeat (first | (with_reducible refine Below.setCell ?_ (by first | omega | (simp; try omega)) _) | (with_reducible refine Below.alloc ?_ (by first | omega | (simp; try omega)) _) | (with_reducible exact Below.refl _ _))⟩
theorem sum_nily (nx ny : Bool) (X p q : Int) (h : ¬ X = 0) (w : World) :
    Calls Tryd.prog 94 #[.agg #[.bool nx, .int .u64 X, .int .i64 p, .bool false], .agg #[.bool ny, .int .u64 0, .int .i64 q, .bool false]] w fun e w' => e = .returned (.agg #[.bool nx, .int .u64 X, .int .i64 p, .bool false]) ∧ Below w.heap.size w w' := by
  go_enter Tryd.func94, Tryd.ntmps94
  go_wp2
  exact bodyPost_ret (v := .agg #[.bool nx, .int .u64 X, .int .i64 p, .bool false]) (by simp [results, Tryd.results94, go_sem]) rfl ⟨rfl, by repeat (first | (with_reducible refine Below.setCell ?_ (by first | omega | (simp; try omega)) _) | (with_reducible refine Below.alloc ?_ (by first | omega | (simp; try omega)) _) | (with_reducible exact Below.refl _ _))⟩
set_option maxHeartbeats 4000000 in
theorem sum_keep_same (nx : Bool) (X p Y q LX LY Bl P kept : Int) (more : Bool) (w : World) (hX : ¬ X = 0) (hY : ¬ Y = 0) (l0 : 0 ≤ LX) (l1 : LX ≤ 64) (k0 : 0 ≤ LY) (k1 : LY ≤ 64) (p0 : -10000 ≤ p) (p1 : p ≤ 10000) (q0 : -10000 ≤ q) (q1 : q ≤ 10000) (hsw : ¬ LX + p < LY + q)
    (HX : Hid (∀ v : World, Calls Tryd.prog 80 #[.int .u64 X] v fun e w' => e = .returned (.int .i64 LX) ∧ w' = v)) (HY : Hid (∀ v : World, Calls Tryd.prog 80 #[.int .u64 Y] v fun e w' => e = .returned (.int .i64 LY) ∧ w' = v))
    (HL : Hid (∀ v : World, Calls Tryd.prog 107 #[.agg #[.bool nx, .int .u64 X, .int .i64 p, .bool false], .int .i64 62] v fun e w' => e = .returned (.agg #[.bool nx, .int .u64 Bl, .int .i64 P, .bool false]) ∧ Below v.heap.size v w'))
    (HW : Hid (∀ v : World, Calls Tryd.prog 108 #[.agg #[.bool nx, .int .u64 Y, .int .i64 q, .bool false], .int .i64 P] v fun e w' => e = .returned (.agg #[.bool nx, .int .u64 kept, .int .i64 P, .bool more]) ∧ Below v.heap.size v w'))
    (x0 : 0 ≤ Bl + kept) (x1 : Bl + kept < 18446744073709551616) :
    Calls Tryd.prog 94 #[.agg #[.bool nx, .int .u64 X, .int .i64 p, .bool false], .agg #[.bool nx, .int .u64 Y, .int .i64 q, .bool false]] w fun e w' => e = .returned (.agg #[.bool nx, .int .u64 (Bl + kept), .int .i64 P, .bool more]) ∧ Below w.heap.size w w' := by
  go_enter Tryd.func94, Tryd.ntmps94
  go_upto_region 5 with (fail)
  obtain ⟨W, hW⟩ : ∃ W, W = ((w.alloc (.cells #[.bool nx, .int .u64 X, .int .i64 p, .bool false] 72)).alloc (.cells #[.bool nx, .int .u64 Y, .int .i64 q, .bool false] 72)).alloc (.cells #[.bool false, .int .u64 0, .int .i64 0, .bool false] 72) := ⟨_, rfl⟩
  obtain ⟨k, hk⟩ : ∃ k, k = w.heap.size := ⟨_, rfl⟩
  have XW : W.heap[k]? = some (.cells #[.bool nx, .int .u64 X, .int .i64 p, .bool false] 72 (0, 0)) := by rw [hW, hk, Below.heap_alloc _ _ _ (by simp; omega), Below.heap_alloc _ _ _ (by simp)]; exact heap_alloc_new _ _
  have YW : W.heap[k + 1]? = some (.cells #[.bool nx, .int .u64 Y, .int .i64 q, .bool false] 72 (0, 0)) := by rw [hW, hk, Below.heap_alloc _ _ _ (by simp)]; exact heap_alloc_at (by simp)
  have ZW : W.heap[k + 1 + 1]? = some (.cells #[.bool false, .int .u64 0, .int .i64 0, .bool false] 72 (0, 0)) := by rw [hW, hk]; exact heap_alloc_at (by simp)
  have bW : Below w.heap.size w W := by rw [hW]; exact (((Below.refl _ _).alloc (by omega) _).alloc (by simp) _).alloc (by simp; omega) _
  have zW : k + 1 + 1 < W.heap.size := by rw [hW, hk]; simp
  rw [← hW, ← hk]
  have hkw : w.heap.size ≤ k := by omega
  clear hW hk
  obtain ⟨⟨a0, a1, a2, a3⟩, a4, a5, a6, a7⟩ := blk4 XW
  obtain ⟨⟨c0, c1, c2, c3⟩, c4, c5, c6, c7⟩ := blk4 YW
  go_quiet (first | (go_at_call 80; (with_reducible show Calls Tryd.prog 80 #[Value.int IntKind.u64 X] _ _); exact Calls.quiet_of_same ((Hid.out HX) _)) | (go_at_call 80; exact Calls.quiet_of_same ((Hid.out HY) _)))
  obtain ⟨V, hV⟩ : ∃ V, V = W.drewN nq := ⟨_, rfl⟩
  have XV : V.heap[k]? = some (.cells #[.bool nx, .int .u64 X, .int .i64 p, .bool false] 72 (0, 0)) := by rw [hV]; exact XW
  have YV : V.heap[k + 1]? = some (.cells #[.bool nx, .int .u64 Y, .int .i64 q, .bool false] 72 (0, 0)) := by rw [hV]; exact YW
  have ZV : V.heap[k + 1 + 1]? = some (.cells #[.bool false, .int .u64 0, .int .i64 0, .bool false] 72 (0, 0)) := by rw [hV]; exact ZW
  have bV : Below w.heap.size w V := by rw [hV]; exact below_drewN bW nq
  have zV : k + 1 + 1 < V.heap.size := by rw [hV]; exact zW
  rw [← hV]
  clear hV a0 a1 a2 a3 a4 a5 a6 a7 c0 c1 c2 c3 c4 c5 c6 c7 XW YW ZW zW bW
  obtain ⟨⟨a0, a1, a2, a3⟩, a4, a5, a6, a7⟩ := blk4 XV
  obtain ⟨⟨c0, c1, c2, c3⟩, c4, c5, c6, c7⟩ := blk4 YV
  obtain ⟨⟨d0, d1, d2, d3⟩, d4, d5, d6, d7⟩ := blk4 ZV
  have kn : k ≠ k + 1 := by omega
  have kn' : k + 1 ≠ k := by omega
  go_wp2_with (first | (go_at_call 107; refine ((Hid.out HL) _).mono ?_; rintro e w1 ⟨rfl, hb1⟩; (have hz1 := hb1.size); (try simp at hz1); (have X1 := (hb1.block k (by first | omega | (simp; omega))).trans XV); (have Y1 := (hb1.block (k + 1) (by first | omega | (simp; omega))).trans YV); (have Z1 := (hb1.block (k + 1 + 1) (by first | omega | (simp; omega))).trans ZV); obtain ⟨⟨g0, g1, g2, g3⟩, g4, g5, g6, g7⟩ := blk4 Z1; obtain ⟨⟨e0, e1, e2, e3⟩, e4, e5, e6, e7⟩ := blk4 X1; obtain ⟨⟨f0, f1, f2, f3⟩, f4, f5, f6, f7⟩ := blk4 Y1) | (go_at_call 108; refine ((Hid.out HW) _).mono ?_; rintro e w2 ⟨rfl, hb2⟩; (have hz2 := hb2.size); (try simp at hz2); (have X2 := (hb2.block k (by first | omega | (simp; omega))).trans (set4 X1)); (have Y2 := (hb2.block (k + 1) (by first | omega | (simp; omega))).trans ((set4_ne (by omega)).trans Y1)); (have Z2 := (hb2.block (k + 1 + 1) (by first | omega | (simp; omega))).trans ((set4_ne (by omega)).trans Z1)); obtain ⟨⟨m0, m1, m2, m3⟩, m4, m5, m6, m7⟩ := blk4 Z2; obtain ⟨⟨u0, u1, u2, u3⟩, u4, u5, u6, u7⟩ := blk4 X2; obtain ⟨⟨v0, v1, v2, v3⟩, v4, v5, v6, v7⟩ := blk4 Y2))
  exact bodyPost_ret (v := .agg #[.bool nx, .int .u64 (Bl + kept), .int .i64 P, .bool more]) (by simp [results, Tryd.results94, go_sem, m0, m1, m2, m3]) rfl ⟨rfl, by repeat (first | (with_reducible refine Below.setCell ?_ (by first | omega | (simp; try omega)) _) | (with_reducible refine Below.trans ?_ (hb3.mono (by first | omega | (simp; try omega)))) | (with_reducible refine Below.trans ?_ (hb2.mono (by first | omega | (simp; try omega)))) | (with_reducible refine Below.trans ?_ (hb1.mono (by first | omega | (simp; try omega)))) | (with_reducible exact bV) | (with_reducible refine Below.alloc ?_ (by first | omega | (simp; try omega)) _) | (with_reducible exact Below.refl _ _))⟩
set_option maxHeartbeats 4000000 in
theorem sum_keep_diff (nx : Bool) (ny rn rm : Bool) (rz : Int) (hnn : (nx == ny) = false) (X p Y q LX LY Bl P kept : Int) (more : Bool) (w : World) (hX : ¬ X = 0) (hY : ¬ Y = 0) (l0 : 0 ≤ LX) (l1 : LX ≤ 64) (k0 : 0 ≤ LY) (k1 : LY ≤ 64) (p0 : -10000 ≤ p) (p1 : p ≤ 10000) (q0 : -10000 ≤ q) (q1 : q ≤ 10000) (hsw : ¬ LX + p < LY + q)
    (HX : Hid (∀ v : World, Calls Tryd.prog 80 #[.int .u64 X] v fun e w' => e = .returned (.int .i64 LX) ∧ w' = v)) (HY : Hid (∀ v : World, Calls Tryd.prog 80 #[.int .u64 Y] v fun e w' => e = .returned (.int .i64 LY) ∧ w' = v))
    (HL : Hid (∀ v : World, Calls Tryd.prog 107 #[.agg #[.bool nx, .int .u64 X, .int .i64 p, .bool false], .int .i64 62] v fun e w' => e = .returned (.agg #[.bool nx, .int .u64 Bl, .int .i64 P, .bool false]) ∧ Below v.heap.size v w'))
    (HW : Hid (∀ v : World, Calls Tryd.prog 108 #[.agg #[.bool ny, .int .u64 Y, .int .i64 q, .bool false], .int .i64 P] v fun e w' => e = .returned (.agg #[.bool ny, .int .u64 kept, .int .i64 P, .bool more]) ∧ Below v.heap.size v w'))
    (HD : Hid (∀ v : World, Calls Tryd.prog 109 #[.agg #[.bool nx, .int .u64 Bl, .int .i64 P, .bool false], .agg #[.bool ny, .int .u64 kept, .int .i64 P, .bool more]] v fun e w' => e = .returned (.agg #[.bool rn, .int .u64 rz, .int .i64 P, .bool rm]) ∧ Below v.heap.size v w')) :
    Calls Tryd.prog 94 #[.agg #[.bool nx, .int .u64 X, .int .i64 p, .bool false], .agg #[.bool ny, .int .u64 Y, .int .i64 q, .bool false]] w fun e w' => e = .returned (.agg #[.bool rn, .int .u64 rz, .int .i64 P, .bool rm]) ∧ Below w.heap.size w w' := by
  go_enter Tryd.func94, Tryd.ntmps94
  go_upto_region 5 with (fail)
  obtain ⟨W, hW⟩ : ∃ W, W = ((w.alloc (.cells #[.bool nx, .int .u64 X, .int .i64 p, .bool false] 72)).alloc (.cells #[.bool ny, .int .u64 Y, .int .i64 q, .bool false] 72)).alloc (.cells #[.bool false, .int .u64 0, .int .i64 0, .bool false] 72) := ⟨_, rfl⟩
  obtain ⟨k, hk⟩ : ∃ k, k = w.heap.size := ⟨_, rfl⟩
  have XW : W.heap[k]? = some (.cells #[.bool nx, .int .u64 X, .int .i64 p, .bool false] 72 (0, 0)) := by rw [hW, hk, Below.heap_alloc _ _ _ (by simp; omega), Below.heap_alloc _ _ _ (by simp)]; exact heap_alloc_new _ _
  have YW : W.heap[k + 1]? = some (.cells #[.bool ny, .int .u64 Y, .int .i64 q, .bool false] 72 (0, 0)) := by rw [hW, hk, Below.heap_alloc _ _ _ (by simp)]; exact heap_alloc_at (by simp)
  have ZW : W.heap[k + 1 + 1]? = some (.cells #[.bool false, .int .u64 0, .int .i64 0, .bool false] 72 (0, 0)) := by rw [hW, hk]; exact heap_alloc_at (by simp)
  have bW : Below w.heap.size w W := by rw [hW]; exact (((Below.refl _ _).alloc (by omega) _).alloc (by simp) _).alloc (by simp; omega) _
  have zW : k + 1 + 1 < W.heap.size := by rw [hW, hk]; simp
  rw [← hW, ← hk]
  have hkw : w.heap.size ≤ k := by omega
  clear hW hk
  obtain ⟨⟨a0, a1, a2, a3⟩, a4, a5, a6, a7⟩ := blk4 XW
  obtain ⟨⟨c0, c1, c2, c3⟩, c4, c5, c6, c7⟩ := blk4 YW
  go_quiet (first | (go_at_call 80; (with_reducible show Calls Tryd.prog 80 #[Value.int IntKind.u64 X] _ _); exact Calls.quiet_of_same ((Hid.out HX) _)) | (go_at_call 80; exact Calls.quiet_of_same ((Hid.out HY) _)))
  obtain ⟨V, hV⟩ : ∃ V, V = W.drewN nq := ⟨_, rfl⟩
  have XV : V.heap[k]? = some (.cells #[.bool nx, .int .u64 X, .int .i64 p, .bool false] 72 (0, 0)) := by rw [hV]; exact XW
  have YV : V.heap[k + 1]? = some (.cells #[.bool ny, .int .u64 Y, .int .i64 q, .bool false] 72 (0, 0)) := by rw [hV]; exact YW
  have ZV : V.heap[k + 1 + 1]? = some (.cells #[.bool false, .int .u64 0, .int .i64 0, .bool false] 72 (0, 0)) := by rw [hV]; exact ZW
  have bV : Below w.heap.size w V := by rw [hV]; exact below_drewN bW nq
  have zV : k + 1 + 1 < V.heap.size := by rw [hV]; exact zW
  rw [← hV]
  clear hV a0 a1 a2 a3 a4 a5 a6 a7 c0 c1 c2 c3 c4 c5 c6 c7 XW YW ZW zW bW
  obtain ⟨⟨a0, a1, a2, a3⟩, a4, a5, a6, a7⟩ := blk4 XV
  obtain ⟨⟨c0, c1, c2, c3⟩, c4, c5, c6, c7⟩ := blk4 YV
  obtain ⟨⟨d0, d1, d2, d3⟩, d4, d5, d6, d7⟩ := blk4 ZV
  have kn : k ≠ k + 1 := by omega
  have kn' : k + 1 ≠ k := by omega
  go_wp2_with (first | (go_at_call 107; refine ((Hid.out HL) _).mono ?_; rintro e w1 ⟨rfl, hb1⟩; (have hz1 := hb1.size); (try simp at hz1); (have X1 := (hb1.block k (by first | omega | (simp; omega))).trans XV); (have Y1 := (hb1.block (k + 1) (by first | omega | (simp; omega))).trans YV); (have Z1 := (hb1.block (k + 1 + 1) (by first | omega | (simp; omega))).trans ZV); obtain ⟨⟨g0, g1, g2, g3⟩, g4, g5, g6, g7⟩ := blk4 Z1; obtain ⟨⟨e0, e1, e2, e3⟩, e4, e5, e6, e7⟩ := blk4 X1; obtain ⟨⟨f0, f1, f2, f3⟩, f4, f5, f6, f7⟩ := blk4 Y1) | (go_at_call 108; refine ((Hid.out HW) _).mono ?_; rintro e w2 ⟨rfl, hb2⟩; (have hz2 := hb2.size); (try simp at hz2); (have X2 := (hb2.block k (by first | omega | (simp; omega))).trans (set4 X1)); (have Y2 := (hb2.block (k + 1) (by first | omega | (simp; omega))).trans ((set4_ne (by omega)).trans Y1)); (have Z2 := (hb2.block (k + 1 + 1) (by first | omega | (simp; omega))).trans ((set4_ne (by omega)).trans Z1)); obtain ⟨⟨m0, m1, m2, m3⟩, m4, m5, m6, m7⟩ := blk4 Z2; obtain ⟨⟨u0, u1, u2, u3⟩, u4, u5, u6, u7⟩ := blk4 X2; obtain ⟨⟨v0, v1, v2, v3⟩, v4, v5, v6, v7⟩ := blk4 Y2) | (go_at_call 109; refine ((Hid.out HD) _).mono ?_; rintro e w3 ⟨rfl, hb3⟩; (have hz3 := hb3.size); (try simp at hz3); (have Z3 := (hb3.block (k + 1 + 1) (by first | omega | (simp; omega))).trans ((set4_ne (by omega)).trans Z2)); obtain ⟨⟨n0, n1, n2, n3⟩, n4, n5, n6, n7⟩ := blk4 Z3))
  exact bodyPost_ret (v := .agg #[.bool rn, .int .u64 rz, .int .i64 P, .bool rm]) (by simp [results, Tryd.results94, go_sem, n0, n1, n2, n3]) rfl ⟨rfl, by repeat (first | (with_reducible refine Below.setCell ?_ (by first | omega | (simp; try omega)) _) | (with_reducible refine Below.trans ?_ (hb3.mono (by first | omega | (simp; try omega)))) | (with_reducible refine Below.trans ?_ (hb2.mono (by first | omega | (simp; try omega)))) | (with_reducible refine Below.trans ?_ (hb1.mono (by first | omega | (simp; try omega)))) | (with_reducible exact bV) | (with_reducible refine Below.alloc ?_ (by first | omega | (simp; try omega)) _) | (with_reducible exact Below.refl _ _))⟩
set_option maxHeartbeats 4000000 in
theorem sum_swap_same (nx : Bool) (X p Y q LX LY Bl P kept : Int) (more : Bool) (w : World) (hX : ¬ X = 0) (hY : ¬ Y = 0) (l0 : 0 ≤ LX) (l1 : LX ≤ 64) (k0 : 0 ≤ LY) (k1 : LY ≤ 64) (p0 : -10000 ≤ p) (p1 : p ≤ 10000) (q0 : -10000 ≤ q) (q1 : q ≤ 10000) (hsw : LX + p < LY + q)
    (HX : Hid (∀ v : World, Calls Tryd.prog 80 #[.int .u64 X] v fun e w' => e = .returned (.int .i64 LX) ∧ w' = v)) (HY : Hid (∀ v : World, Calls Tryd.prog 80 #[.int .u64 Y] v fun e w' => e = .returned (.int .i64 LY) ∧ w' = v))
    (HL : Hid (∀ v : World, Calls Tryd.prog 107 #[.agg #[.bool nx, .int .u64 Y, .int .i64 q, .bool false], .int .i64 62] v fun e w' => e = .returned (.agg #[.bool nx, .int .u64 Bl, .int .i64 P, .bool false]) ∧ Below v.heap.size v w'))
    (HW : Hid (∀ v : World, Calls Tryd.prog 108 #[.agg #[.bool nx, .int .u64 X, .int .i64 p, .bool false], .int .i64 P] v fun e w' => e = .returned (.agg #[.bool nx, .int .u64 kept, .int .i64 P, .bool more]) ∧ Below v.heap.size v w'))
    (x0 : 0 ≤ Bl + kept) (x1 : Bl + kept < 18446744073709551616) :
    Calls Tryd.prog 94 #[.agg #[.bool nx, .int .u64 X, .int .i64 p, .bool false], .agg #[.bool nx, .int .u64 Y, .int .i64 q, .bool false]] w fun e w' => e = .returned (.agg #[.bool nx, .int .u64 (Bl + kept), .int .i64 P, .bool more]) ∧ Below w.heap.size w w' := by
  go_enter Tryd.func94, Tryd.ntmps94
  go_upto_region 5 with (fail)
  obtain ⟨W, hW⟩ : ∃ W, W = ((w.alloc (.cells #[.bool nx, .int .u64 X, .int .i64 p, .bool false] 72)).alloc (.cells #[.bool nx, .int .u64 Y, .int .i64 q, .bool false] 72)).alloc (.cells #[.bool false, .int .u64 0, .int .i64 0, .bool false] 72) := ⟨_, rfl⟩
  obtain ⟨k, hk⟩ : ∃ k, k = w.heap.size := ⟨_, rfl⟩
  have XW : W.heap[k]? = some (.cells #[.bool nx, .int .u64 X, .int .i64 p, .bool false] 72 (0, 0)) := by rw [hW, hk, Below.heap_alloc _ _ _ (by simp; omega), Below.heap_alloc _ _ _ (by simp)]; exact heap_alloc_new _ _
  have YW : W.heap[k + 1]? = some (.cells #[.bool nx, .int .u64 Y, .int .i64 q, .bool false] 72 (0, 0)) := by rw [hW, hk, Below.heap_alloc _ _ _ (by simp)]; exact heap_alloc_at (by simp)
  have ZW : W.heap[k + 1 + 1]? = some (.cells #[.bool false, .int .u64 0, .int .i64 0, .bool false] 72 (0, 0)) := by rw [hW, hk]; exact heap_alloc_at (by simp)
  have bW : Below w.heap.size w W := by rw [hW]; exact (((Below.refl _ _).alloc (by omega) _).alloc (by simp) _).alloc (by simp; omega) _
  have zW : k + 1 + 1 < W.heap.size := by rw [hW, hk]; simp
  rw [← hW, ← hk]
  have hkw : w.heap.size ≤ k := by omega
  clear hW hk
  obtain ⟨⟨a0, a1, a2, a3⟩, a4, a5, a6, a7⟩ := blk4 XW
  obtain ⟨⟨c0, c1, c2, c3⟩, c4, c5, c6, c7⟩ := blk4 YW
  go_quiet (first | (go_at_call 80; (with_reducible show Calls Tryd.prog 80 #[Value.int IntKind.u64 X] _ _); exact Calls.quiet_of_same ((Hid.out HX) _)) | (go_at_call 80; exact Calls.quiet_of_same ((Hid.out HY) _)))
  obtain ⟨V, hV⟩ : ∃ V, V = W.drewN nq := ⟨_, rfl⟩
  have XV : V.heap[k]? = some (.cells #[.bool nx, .int .u64 X, .int .i64 p, .bool false] 72 (0, 0)) := by rw [hV]; exact XW
  have YV : V.heap[k + 1]? = some (.cells #[.bool nx, .int .u64 Y, .int .i64 q, .bool false] 72 (0, 0)) := by rw [hV]; exact YW
  have ZV : V.heap[k + 1 + 1]? = some (.cells #[.bool false, .int .u64 0, .int .i64 0, .bool false] 72 (0, 0)) := by rw [hV]; exact ZW
  have bV : Below w.heap.size w V := by rw [hV]; exact below_drewN bW nq
  have zV : k + 1 + 1 < V.heap.size := by rw [hV]; exact zW
  rw [← hV]
  clear hV a0 a1 a2 a3 a4 a5 a6 a7 c0 c1 c2 c3 c4 c5 c6 c7 XW YW ZW zW bW
  obtain ⟨⟨a0, a1, a2, a3⟩, a4, a5, a6, a7⟩ := blk4 XV
  obtain ⟨⟨c0, c1, c2, c3⟩, c4, c5, c6, c7⟩ := blk4 YV
  obtain ⟨⟨d0, d1, d2, d3⟩, d4, d5, d6, d7⟩ := blk4 ZV
  have kn : k ≠ k + 1 := by omega
  have kn' : k + 1 ≠ k := by omega
  go_wp2_with (first | (go_at_call 107; refine ((Hid.out HL) _).mono ?_; rintro e w1 ⟨rfl, hb1⟩; (have hz1 := hb1.size); (try simp at hz1); (have X1 := (hb1.block k (by first | omega | (simp; omega))).trans ((set4_ne (by omega)).trans (set4 XV))); (have Y1 := (hb1.block (k + 1) (by first | omega | (simp; omega))).trans (set4 ((set4_ne (by omega)).trans YV))); (have Z1 := (hb1.block (k + 1 + 1) (by first | omega | (simp; omega))).trans ((set4_ne (by omega)).trans ((set4_ne (by omega)).trans ZV))); obtain ⟨⟨g0, g1, g2, g3⟩, g4, g5, g6, g7⟩ := blk4 Z1; obtain ⟨⟨e0, e1, e2, e3⟩, e4, e5, e6, e7⟩ := blk4 X1; obtain ⟨⟨f0, f1, f2, f3⟩, f4, f5, f6, f7⟩ := blk4 Y1) | (go_at_call 108; refine ((Hid.out HW) _).mono ?_; rintro e w2 ⟨rfl, hb2⟩; (have hz2 := hb2.size); (try simp at hz2); (have X2 := (hb2.block k (by first | omega | (simp; omega))).trans (set4 X1)); (have Y2 := (hb2.block (k + 1) (by first | omega | (simp; omega))).trans ((set4_ne (by omega)).trans Y1)); (have Z2 := (hb2.block (k + 1 + 1) (by first | omega | (simp; omega))).trans ((set4_ne (by omega)).trans Z1)); obtain ⟨⟨m0, m1, m2, m3⟩, m4, m5, m6, m7⟩ := blk4 Z2; obtain ⟨⟨u0, u1, u2, u3⟩, u4, u5, u6, u7⟩ := blk4 X2; obtain ⟨⟨v0, v1, v2, v3⟩, v4, v5, v6, v7⟩ := blk4 Y2))
  exact bodyPost_ret (v := .agg #[.bool nx, .int .u64 (Bl + kept), .int .i64 P, .bool more]) (by simp [results, Tryd.results94, go_sem, m0, m1, m2, m3]) rfl ⟨rfl, by repeat (first | (with_reducible refine Below.setCell ?_ (by first | omega | (simp; try omega)) _) | (with_reducible refine Below.trans ?_ (hb3.mono (by first | omega | (simp; try omega)))) | (with_reducible refine Below.trans ?_ (hb2.mono (by first | omega | (simp; try omega)))) | (with_reducible refine Below.trans ?_ (hb1.mono (by first | omega | (simp; try omega)))) | (with_reducible exact bV) | (with_reducible refine Below.alloc ?_ (by first | omega | (simp; try omega)) _) | (with_reducible exact Below.refl _ _))⟩
set_option maxHeartbeats 4000000 in
theorem sum_swap_diff (nx : Bool) (ny rn rm : Bool) (rz : Int) (hnn : (nx == ny) = false) (X p Y q LX LY Bl P kept : Int) (more : Bool) (w : World) (hX : ¬ X = 0) (hY : ¬ Y = 0) (l0 : 0 ≤ LX) (l1 : LX ≤ 64) (k0 : 0 ≤ LY) (k1 : LY ≤ 64) (p0 : -10000 ≤ p) (p1 : p ≤ 10000) (q0 : -10000 ≤ q) (q1 : q ≤ 10000) (hsw : LX + p < LY + q)
    (HX : Hid (∀ v : World, Calls Tryd.prog 80 #[.int .u64 X] v fun e w' => e = .returned (.int .i64 LX) ∧ w' = v)) (HY : Hid (∀ v : World, Calls Tryd.prog 80 #[.int .u64 Y] v fun e w' => e = .returned (.int .i64 LY) ∧ w' = v))
    (HL : Hid (∀ v : World, Calls Tryd.prog 107 #[.agg #[.bool ny, .int .u64 Y, .int .i64 q, .bool false], .int .i64 62] v fun e w' => e = .returned (.agg #[.bool ny, .int .u64 Bl, .int .i64 P, .bool false]) ∧ Below v.heap.size v w'))
    (HW : Hid (∀ v : World, Calls Tryd.prog 108 #[.agg #[.bool nx, .int .u64 X, .int .i64 p, .bool false], .int .i64 P] v fun e w' => e = .returned (.agg #[.bool nx, .int .u64 kept, .int .i64 P, .bool more]) ∧ Below v.heap.size v w'))
    (HD : Hid (∀ v : World, Calls Tryd.prog 109 #[.agg #[.bool ny, .int .u64 Bl, .int .i64 P, .bool false], .agg #[.bool nx, .int .u64 kept, .int .i64 P, .bool more]] v fun e w' => e = .returned (.agg #[.bool rn, .int .u64 rz, .int .i64 P, .bool rm]) ∧ Below v.heap.size v w')) :
    Calls Tryd.prog 94 #[.agg #[.bool nx, .int .u64 X, .int .i64 p, .bool false], .agg #[.bool ny, .int .u64 Y, .int .i64 q, .bool false]] w fun e w' => e = .returned (.agg #[.bool rn, .int .u64 rz, .int .i64 P, .bool rm]) ∧ Below w.heap.size w w' := by
  have hnm : (ny == nx) = false := by rw [← hnn]; cases nx <;> cases ny <;> rfl
  go_enter Tryd.func94, Tryd.ntmps94
  go_upto_region 5 with (fail)
  obtain ⟨W, hW⟩ : ∃ W, W = ((w.alloc (.cells #[.bool nx, .int .u64 X, .int .i64 p, .bool false] 72)).alloc (.cells #[.bool ny, .int .u64 Y, .int .i64 q, .bool false] 72)).alloc (.cells #[.bool false, .int .u64 0, .int .i64 0, .bool false] 72) := ⟨_, rfl⟩
  obtain ⟨k, hk⟩ : ∃ k, k = w.heap.size := ⟨_, rfl⟩
  have XW : W.heap[k]? = some (.cells #[.bool nx, .int .u64 X, .int .i64 p, .bool false] 72 (0, 0)) := by rw [hW, hk, Below.heap_alloc _ _ _ (by simp; omega), Below.heap_alloc _ _ _ (by simp)]; exact heap_alloc_new _ _
  have YW : W.heap[k + 1]? = some (.cells #[.bool ny, .int .u64 Y, .int .i64 q, .bool false] 72 (0, 0)) := by rw [hW, hk, Below.heap_alloc _ _ _ (by simp)]; exact heap_alloc_at (by simp)
  have ZW : W.heap[k + 1 + 1]? = some (.cells #[.bool false, .int .u64 0, .int .i64 0, .bool false] 72 (0, 0)) := by rw [hW, hk]; exact heap_alloc_at (by simp)
  have bW : Below w.heap.size w W := by rw [hW]; exact (((Below.refl _ _).alloc (by omega) _).alloc (by simp) _).alloc (by simp; omega) _
  have zW : k + 1 + 1 < W.heap.size := by rw [hW, hk]; simp
  rw [← hW, ← hk]
  have hkw : w.heap.size ≤ k := by omega
  clear hW hk
  obtain ⟨⟨a0, a1, a2, a3⟩, a4, a5, a6, a7⟩ := blk4 XW
  obtain ⟨⟨c0, c1, c2, c3⟩, c4, c5, c6, c7⟩ := blk4 YW
  go_quiet (first | (go_at_call 80; (with_reducible show Calls Tryd.prog 80 #[Value.int IntKind.u64 X] _ _); exact Calls.quiet_of_same ((Hid.out HX) _)) | (go_at_call 80; exact Calls.quiet_of_same ((Hid.out HY) _)))
  obtain ⟨V, hV⟩ : ∃ V, V = W.drewN nq := ⟨_, rfl⟩
  have XV : V.heap[k]? = some (.cells #[.bool nx, .int .u64 X, .int .i64 p, .bool false] 72 (0, 0)) := by rw [hV]; exact XW
  have YV : V.heap[k + 1]? = some (.cells #[.bool ny, .int .u64 Y, .int .i64 q, .bool false] 72 (0, 0)) := by rw [hV]; exact YW
  have ZV : V.heap[k + 1 + 1]? = some (.cells #[.bool false, .int .u64 0, .int .i64 0, .bool false] 72 (0, 0)) := by rw [hV]; exact ZW
  have bV : Below w.heap.size w V := by rw [hV]; exact below_drewN bW nq
  have zV : k + 1 + 1 < V.heap.size := by rw [hV]; exact zW
  rw [← hV]
  clear hV a0 a1 a2 a3 a4 a5 a6 a7 c0 c1 c2 c3 c4 c5 c6 c7 XW YW ZW zW bW
  obtain ⟨⟨a0, a1, a2, a3⟩, a4, a5, a6, a7⟩ := blk4 XV
  obtain ⟨⟨c0, c1, c2, c3⟩, c4, c5, c6, c7⟩ := blk4 YV
  obtain ⟨⟨d0, d1, d2, d3⟩, d4, d5, d6, d7⟩ := blk4 ZV
  have kn : k ≠ k + 1 := by omega
  have kn' : k + 1 ≠ k := by omega
  go_wp2_with (first | (go_at_call 107; refine ((Hid.out HL) _).mono ?_; rintro e w1 ⟨rfl, hb1⟩; (have hz1 := hb1.size); (try simp at hz1); (have X1 := (hb1.block k (by first | omega | (simp; omega))).trans ((set4_ne (by omega)).trans (set4 XV))); (have Y1 := (hb1.block (k + 1) (by first | omega | (simp; omega))).trans (set4 ((set4_ne (by omega)).trans YV))); (have Z1 := (hb1.block (k + 1 + 1) (by first | omega | (simp; omega))).trans ((set4_ne (by omega)).trans ((set4_ne (by omega)).trans ZV))); obtain ⟨⟨g0, g1, g2, g3⟩, g4, g5, g6, g7⟩ := blk4 Z1; obtain ⟨⟨e0, e1, e2, e3⟩, e4, e5, e6, e7⟩ := blk4 X1; obtain ⟨⟨f0, f1, f2, f3⟩, f4, f5, f6, f7⟩ := blk4 Y1) | (go_at_call 108; refine ((Hid.out HW) _).mono ?_; rintro e w2 ⟨rfl, hb2⟩; (have hz2 := hb2.size); (try simp at hz2); (have X2 := (hb2.block k (by first | omega | (simp; omega))).trans (set4 X1)); (have Y2 := (hb2.block (k + 1) (by first | omega | (simp; omega))).trans ((set4_ne (by omega)).trans Y1)); (have Z2 := (hb2.block (k + 1 + 1) (by first | omega | (simp; omega))).trans ((set4_ne (by omega)).trans Z1)); obtain ⟨⟨m0, m1, m2, m3⟩, m4, m5, m6, m7⟩ := blk4 Z2; obtain ⟨⟨u0, u1, u2, u3⟩, u4, u5, u6, u7⟩ := blk4 X2; obtain ⟨⟨v0, v1, v2, v3⟩, v4, v5, v6, v7⟩ := blk4 Y2) | (go_at_call 109; refine ((Hid.out HD) _).mono ?_; rintro e w3 ⟨rfl, hb3⟩; (have hz3 := hb3.size); (try simp at hz3); (have Z3 := (hb3.block (k + 1 + 1) (by first | omega | (simp; omega))).trans ((set4_ne (by omega)).trans Z2)); obtain ⟨⟨n0, n1, n2, n3⟩, n4, n5, n6, n7⟩ := blk4 Z3))
  exact bodyPost_ret (v := .agg #[.bool rn, .int .u64 rz, .int .i64 P, .bool rm]) (by simp [results, Tryd.results94, go_sem, n0, n1, n2, n3]) rfl ⟨rfl, by repeat (first | (with_reducible refine Below.setCell ?_ (by first | omega | (simp; try omega)) _) | (with_reducible refine Below.trans ?_ (hb3.mono (by first | omega | (simp; try omega)))) | (with_reducible refine Below.trans ?_ (hb2.mono (by first | omega | (simp; try omega)))) | (with_reducible refine Below.trans ?_ (hb1.mono (by first | omega | (simp; try omega)))) | (with_reducible exact bV) | (with_reducible refine Below.alloc ?_ (by first | omega | (simp; try omega)) _) | (with_reducible exact Below.refl _ _))⟩
end Go.Proofs.YtlcfpcapefeajaaDoor
