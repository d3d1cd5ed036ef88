/- Contracts of the program's lowerTo, differenceOf and sumOf. Contract of the program's sumOf: the one of the higher top is lifted, the other is lowered to its power. Contract of the model's l1Plus: the sum of two numbers, with the lesser power. What sumOf's two parts come to: the lifted one and the lowered one, against the sum of both with the lesser power. -/
import Derived.Test.YtoloenkcfpfgcaaDoorRootI
import Derived.Deep.QuietTactic
import Derived.BigQuiet
import Derived.Test.YtoloenkcfpfgcaaDoorToFloat
namespace Go.Proofs.YtoloenkcfpfgcaaDoor
open Go.ChangeShapes Go.WideShapes Go.ChangeAt Go.RowKit
set_option linter.unusedVariables false
set_option maxHeartbeats 2000000 in
theorem lower99 (neg : Bool) (z p P s kept c : Int) (w : World) (hs : P - p = s) (p0 : -10000 ≤ p) (p1 : p ≤ 10000) (q0 : -10000 ≤ P) (q1 : P ≤ 10000)
    (hc : ∀ v : World, Calls Tryd.prog 75 #[.agg #[.bool neg, .int .u64 z, .int .i64 p, .bool false], .int .i64 s] v fun e w' => e = .returned (.tuple #[.int .u64 kept, .int .i64 c]) ∧ Below v.heap.size v w') :
    Calls Tryd.prog 85 #[.agg #[.bool neg, .int .u64 z, .int .i64 p, .bool false], .int .i64 P] w fun e w' => e = .returned (.agg #[.bool neg, .int .u64 kept, .int .i64 P, .bool (c != 0)]) ∧ Below w.heap.size w w' := by
  have HC : Hid (∀ v : World, Calls Tryd.prog 75 #[.agg #[.bool neg, .int .u64 z, .int .i64 p, .bool false], .int .i64 s] v fun e w' => e = .returned (.tuple #[.int .u64 kept, .int .i64 c]) ∧ Below v.heap.size v w') := hc
  clear hc
  go_enter Tryd.func85, Tryd.ntmps85
  go_wp2_with (go_at_call 75; refine ((Hid.out HC) _).mono ?_; rintro e w1 ⟨rfl, hb1⟩; have hz1 := hb1.size; (try simp at hz1); (have A1 := (hb1.block w.heap.size (by simp; omega)).trans ((Below.heap_alloc _ _ _ (by simp)).trans (heap_alloc_new _ _))); (have R1 := (hb1.block (w.heap.size + 1) (by simp)).trans (heap_alloc_at (by simp))); obtain ⟨⟨x0, x1, x2, x3⟩, _⟩ := blk4 A1; obtain ⟨⟨u0, u1, u2, u3⟩, y0, y1, y2, y3⟩ := blk4 R1)
  exact bodyPost_ret (v := .agg #[.bool neg, .int .u64 kept, .int .i64 P, .bool (c != 0)]) (by simp [results, Tryd.results85, go_sem, u0, u1, u2, u3]) rfl ⟨rfl, by repeat (first | (with_reducible refine Below.setCell ?_ (by first | omega | (simp; try omega)) _) | (with_reducible refine Below.alloc ?_ (by first | omega | (simp; try omega)) _) | (with_reducible exact Below.refl _ _) | (with_reducible refine Below.trans ?_ (hb1.mono (by first | omega | (simp; try omega)))))⟩
set_option maxHeartbeats 2000000 in
theorem diff_ge (nx ny : Bool) (X Y P Q : Int) (my : Bool) (w : World) (y0 : 0 ≤ Y) (h : Y ≤ X) (x1 : X < 18446744073709551616) (hm : my = true → Y < X) :
    Calls Tryd.prog 86 #[.agg #[.bool nx, .int .u64 X, .int .i64 P, .bool false], .agg #[.bool ny, .int .u64 Y, .int .i64 Q, .bool my]] w fun e w' => e = .returned (.agg #[.bool nx, .int .u64 (if my then X - Y - 1 else X - Y), .int .i64 P, .bool my]) ∧ Below w.heap.size w w' := by
  have hn : ¬ X < Y := by omega
  cases my
  · go_enter Tryd.func86, Tryd.ntmps86
    go_wp2
    exact bodyPost_ret (v := .agg #[.bool nx, .int .u64 (X - Y), .int .i64 P, .bool false]) (by simp [results, Tryd.results86, go_sem]) rfl ⟨rfl, by repeat (first | (with_reducible refine Below.setCell ?_ (by first | omega | (simp; try omega)) _) | (with_reducible refine Below.alloc ?_ (by first | omega | (simp; try omega)) _) | (with_reducible exact Below.refl _ _))⟩
  · have hm' := hm rfl
    clear hm
    go_enter Tryd.func86, Tryd.ntmps86
    go_wp2
    exact bodyPost_ret (v := .agg #[.bool nx, .int .u64 (X - Y - 1), .int .i64 P, .bool true]) (by simp [results, Tryd.results86, go_sem]) rfl ⟨rfl, by repeat (first | (with_reducible refine Below.setCell ?_ (by first | omega | (simp; try omega)) _) | (with_reducible refine Below.alloc ?_ (by first | omega | (simp; try omega)) _) | (with_reducible exact Below.refl _ _))⟩
set_option maxHeartbeats 2000000 in
theorem diff_lt (nx ny : Bool) (X Y P Q : Int) (w : World) (x0 : 0 ≤ X) (h : X < Y) (y1 : Y < 18446744073709551616) :
    Calls Tryd.prog 86 #[.agg #[.bool nx, .int .u64 X, .int .i64 P, .bool false], .agg #[.bool ny, .int .u64 Y, .int .i64 Q, .bool false]] w fun e w' => e = .returned (.agg #[.bool ny, .int .u64 (Y - X), .int .i64 Q, .bool false]) ∧ Below w.heap.size w w' := by
  go_enter Tryd.func86, Tryd.ntmps86
  go_wp2
  exact bodyPost_ret (v := .agg #[.bool ny, .int .u64 (Y - X), .int .i64 Q, .bool false]) (by simp [results, Tryd.results86, go_sem]) rfl ⟨rfl, by repeat (first | (with_reducible refine Below.setCell ?_ (by first | omega | (simp; try omega)) _) | (with_reducible refine Below.alloc ?_ (by first | omega | (simp; try omega)) _) | (with_reducible exact Below.refl _ _))⟩
end Go.Proofs.YtoloenkcfpfgcaaDoor
namespace Go.Proofs.YtoloenkcfpfgcaaDoor
open Go.ChangeShapes Go.WideShapes Go.ChangeAt Go.RowKit
set_option linter.unusedVariables false
theorem set4 {w : World} {b : Nat} {x y z u x' y' z' u' : Value} {t : TypeId} (h : w.heap[b]? = some (.cells #[x, y, z, u] t (0, 0))) :
    ((((w.setCell ⟨b, 0, none⟩ x').setCell ⟨b, 1, none⟩ y').setCell ⟨b, 2, none⟩ z').setCell ⟨b, 3, none⟩ u').heap[b]? = some (.cells #[x', y', z', u'] t (0, 0)) := by
  have hb : b < w.heap.size := lt_of_block h
  have e : w.heap[b] = .cells #[x, y, z, u] t (0, 0) := by
    have := Array.getElem?_eq_getElem hb
    rw [this] at h; exact Option.some.inj h
  simp [World.setCell, Array.getElem?_modify, h]
theorem sum_nilx (nx ny : Bool) (p Y q : Int) (w : World) :
    Calls Tryd.prog 72 #[.agg #[.bool nx, .int .u64 0, .int .i64 p, .bool false], .agg #[.bool ny, .int .u64 Y, .int .i64 q, .bool false]] w fun e w' => e = .returned (.agg #[.bool ny, .int .u64 Y, .int .i64 q, .bool false]) ∧ Below w.heap.size w w' := by
  go_enter Tryd.func72, Tryd.ntmps72
  go_wp2
  exact bodyPost_ret (v := .agg #[.bool ny, .int .u64 Y, .int .i64 q, .bool false]) (by simp [results, Tryd.results72, go_sem]) rfl ⟨rfl, by repeat (first | (with_reducible refine Below.setCell ?_ (by first | omega | (simp; try omega)) _) | (with_reducible refine Below.alloc ?_ (by first | omega | (simp; try omega)) _) | (with_reducible exact Below.refl _ _))⟩
theorem sum_nily (nx ny : Bool) (X p q : Int) (h : ¬ X = 0) (w : World) :
    Calls Tryd.prog 72 #[.agg #[.bool nx, .int .u64 X, .int .i64 p, .bool false], .agg #[.bool ny, .int .u64 0, .int .i64 q, .bool false]] w fun e w' => e = .returned (.agg #[.bool nx, .int .u64 X, .int .i64 p, .bool false]) ∧ Below w.heap.size w w' := by
  go_enter Tryd.func72, Tryd.ntmps72
  go_wp2
  exact bodyPost_ret (v := .agg #[.bool nx, .int .u64 X, .int .i64 p, .bool false]) (by simp [results, Tryd.results72, go_sem]) rfl ⟨rfl, by repeat (first | (with_reducible refine Below.setCell ?_ (by first | omega | (simp; try omega)) _) | (with_reducible refine Below.alloc ?_ (by first | omega | (simp; try omega)) _) | (with_reducible exact Below.refl _ _))⟩
set_option maxHeartbeats 4000000 in
theorem sum_keep_same (nx : Bool) (X p Y q LX LY Bl P kept : Int) (more : Bool) (w : World) (hX : ¬ X = 0) (hY : ¬ Y = 0) (l0 : 0 ≤ LX) (l1 : LX ≤ 64) (k0 : 0 ≤ LY) (k1 : LY ≤ 64) (p0 : -10000 ≤ p) (p1 : p ≤ 10000) (q0 : -10000 ≤ q) (q1 : q ≤ 10000) (hsw : ¬ LX + p < LY + q)
    (HX : Hid (∀ v : World, Calls Tryd.prog 74 #[.int .u64 X] v fun e w' => e = .returned (.int .i64 LX) ∧ w' = v)) (HY : Hid (∀ v : World, Calls Tryd.prog 74 #[.int .u64 Y] v fun e w' => e = .returned (.int .i64 LY) ∧ w' = v))
    (HL : Hid (∀ v : World, Calls Tryd.prog 78 #[.agg #[.bool nx, .int .u64 X, .int .i64 p, .bool false], .int .i64 62] v fun e w' => e = .returned (.agg #[.bool nx, .int .u64 Bl, .int .i64 P, .bool false]) ∧ Below v.heap.size v w'))
    (HW : Hid (∀ v : World, Calls Tryd.prog 85 #[.agg #[.bool nx, .int .u64 Y, .int .i64 q, .bool false], .int .i64 P] v fun e w' => e = .returned (.agg #[.bool nx, .int .u64 kept, .int .i64 P, .bool more]) ∧ Below v.heap.size v w'))
    (x0 : 0 ≤ Bl + kept) (x1 : Bl + kept < 18446744073709551616) :
    Calls Tryd.prog 72 #[.agg #[.bool nx, .int .u64 X, .int .i64 p, .bool false], .agg #[.bool nx, .int .u64 Y, .int .i64 q, .bool false]] w fun e w' => e = .returned (.agg #[.bool nx, .int .u64 (Bl + kept), .int .i64 P, .bool more]) ∧ Below w.heap.size w w' := by
  go_enter Tryd.func72, Tryd.ntmps72
  go_upto_region 5 with (fail)
  obtain ⟨W, hW⟩ : ∃ W, W = ((w.alloc (.cells #[.bool nx, .int .u64 X, .int .i64 p, .bool false] 72)).alloc (.cells #[.bool nx, .int .u64 Y, .int .i64 q, .bool false] 72)).alloc (.cells #[.bool false, .int .u64 0, .int .i64 0, .bool false] 72) := ⟨_, rfl⟩
  obtain ⟨k, hk⟩ : ∃ k, k = w.heap.size := ⟨_, rfl⟩
  have XW : W.heap[k]? = some (.cells #[.bool nx, .int .u64 X, .int .i64 p, .bool false] 72 (0, 0)) := by rw [hW, hk, Below.heap_alloc _ _ _ (by simp; omega), Below.heap_alloc _ _ _ (by simp)]; exact heap_alloc_new _ _
  have YW : W.heap[k + 1]? = some (.cells #[.bool nx, .int .u64 Y, .int .i64 q, .bool false] 72 (0, 0)) := by rw [hW, hk, Below.heap_alloc _ _ _ (by simp)]; exact heap_alloc_at (by simp)
  have ZW : W.heap[k + 1 + 1]? = some (.cells #[.bool false, .int .u64 0, .int .i64 0, .bool false] 72 (0, 0)) := by rw [hW, hk]; exact heap_alloc_at (by simp)
  have bW : Below w.heap.size w W := by rw [hW]; exact (((Below.refl _ _).alloc (by omega) _).alloc (by simp) _).alloc (by simp; omega) _
  have zW : k + 1 + 1 < W.heap.size := by rw [hW, hk]; simp
  rw [← hW, ← hk]
  have hkw : w.heap.size ≤ k := by omega
  clear hW hk
  obtain ⟨⟨a0, a1, a2, a3⟩, a4, a5, a6, a7⟩ := blk4 XW
  obtain ⟨⟨c0, c1, c2, c3⟩, c4, c5, c6, c7⟩ := blk4 YW
  go_quiet (first | (go_at_call 74; (with_reducible show Calls Tryd.prog 74 #[Value.int IntKind.u64 X] _ _); exact Calls.quiet_of_same ((Hid.out HX) _)) | (go_at_call 74; exact Calls.quiet_of_same ((Hid.out HY) _)))
  obtain ⟨V, hV⟩ : ∃ V, V = W.drewN nq := ⟨_, rfl⟩
  have XV : V.heap[k]? = some (.cells #[.bool nx, .int .u64 X, .int .i64 p, .bool false] 72 (0, 0)) := by rw [hV]; exact XW
  have YV : V.heap[k + 1]? = some (.cells #[.bool nx, .int .u64 Y, .int .i64 q, .bool false] 72 (0, 0)) := by rw [hV]; exact YW
  have ZV : V.heap[k + 1 + 1]? = some (.cells #[.bool false, .int .u64 0, .int .i64 0, .bool false] 72 (0, 0)) := by rw [hV]; exact ZW
  have bV : Below w.heap.size w V := by rw [hV]; exact below_drewN bW nq
  have zV : k + 1 + 1 < V.heap.size := by rw [hV]; exact zW
  rw [← hV]
  clear hV a0 a1 a2 a3 a4 a5 a6 a7 c0 c1 c2 c3 c4 c5 c6 c7 XW YW ZW zW bW
  obtain ⟨⟨a0, a1, a2, a3⟩, a4, a5, a6, a7⟩ := blk4 XV
  obtain ⟨⟨c0, c1, c2, c3⟩, c4, c5, c6, c7⟩ := blk4 YV
  obtain ⟨⟨d0, d1, d2, d3⟩, d4, d5, d6, d7⟩ := blk4 ZV
  have kn : k ≠ k + 1 := by omega
  have kn' : k + 1 ≠ k := by omega
  go_wp2_with (first | (go_at_call 78; refine ((Hid.out HL) _).mono ?_; rintro e w1 ⟨rfl, hb1⟩; (have hz1 := hb1.size); (try simp at hz1); (have X1 := (hb1.block k (by first | omega | (simp; omega))).trans XV); (have Y1 := (hb1.block (k + 1) (by first | omega | (simp; omega))).trans YV); (have Z1 := (hb1.block (k + 1 + 1) (by first | omega | (simp; omega))).trans ZV); obtain ⟨⟨g0, g1, g2, g3⟩, g4, g5, g6, g7⟩ := blk4 Z1; obtain ⟨⟨e0, e1, e2, e3⟩, e4, e5, e6, e7⟩ := blk4 X1; obtain ⟨⟨f0, f1, f2, f3⟩, f4, f5, f6, f7⟩ := blk4 Y1) | (go_at_call 85; refine ((Hid.out HW) _).mono ?_; rintro e w2 ⟨rfl, hb2⟩; (have hz2 := hb2.size); (try simp at hz2); (have X2 := (hb2.block k (by first | omega | (simp; omega))).trans (set4 X1)); (have Y2 := (hb2.block (k + 1) (by first | omega | (simp; omega))).trans ((set4_ne (by omega)).trans Y1)); (have Z2 := (hb2.block (k + 1 + 1) (by first | omega | (simp; omega))).trans ((set4_ne (by omega)).trans Z1)); obtain ⟨⟨m0, m1, m2, m3⟩, m4, m5, m6, m7⟩ := blk4 Z2; obtain ⟨⟨u0, u1, u2, u3⟩, u4, u5, u6, u7⟩ := blk4 X2; obtain ⟨⟨v0, v1, v2, v3⟩, v4, v5, v6, v7⟩ := blk4 Y2))
  exact bodyPost_ret (v := .agg #[.bool nx, .int .u64 (Bl + kept), .int .i64 P, .bool more]) (by simp [results, Tryd.results72, go_sem, m0, m1, m2, m3]) rfl ⟨rfl, by repeat (first | (with_reducible refine Below.setCell ?_ (by first | omega | (simp; try omega)) _) | (with_reducible refine Below.trans ?_ (hb3.mono (by first | omega | (simp; try omega)))) | (with_reducible refine Below.trans ?_ (hb2.mono (by first | omega | (simp; try omega)))) | (with_reducible refine Below.trans ?_ (hb1.mono (by first | omega | (simp; try omega)))) | (with_reducible exact bV) | (with_reducible refine Below.alloc ?_ (by first | omega | (simp; try omega)) _) | (with_reducible exact Below.refl _ _))⟩
set_option maxHeartbeats 4000000 in
theorem sum_keep_diff (nx : Bool) (ny rn rm : Bool) (rz : Int) (hnn : (nx == ny) = false) (X p Y q LX LY Bl P kept : Int) (more : Bool) (w : World) (hX : ¬ X = 0) (hY : ¬ Y = 0) (l0 : 0 ≤ LX) (l1 : LX ≤ 64) (k0 : 0 ≤ LY) (k1 : LY ≤ 64) (p0 : -10000 ≤ p) (p1 : p ≤ 10000) (q0 : -10000 ≤ q) (q1 : q ≤ 10000) (hsw : ¬ LX + p < LY + q)
    (HX : Hid (∀ v : World, Calls Tryd.prog 74 #[.int .u64 X] v fun e w' => e = .returned (.int .i64 LX) ∧ w' = v)) (HY : Hid (∀ v : World, Calls Tryd.prog 74 #[.int .u64 Y] v fun e w' => e = .returned (.int .i64 LY) ∧ w' = v))
    (HL : Hid (∀ v : World, Calls Tryd.prog 78 #[.agg #[.bool nx, .int .u64 X, .int .i64 p, .bool false], .int .i64 62] v fun e w' => e = .returned (.agg #[.bool nx, .int .u64 Bl, .int .i64 P, .bool false]) ∧ Below v.heap.size v w'))
    (HW : Hid (∀ v : World, Calls Tryd.prog 85 #[.agg #[.bool ny, .int .u64 Y, .int .i64 q, .bool false], .int .i64 P] v fun e w' => e = .returned (.agg #[.bool ny, .int .u64 kept, .int .i64 P, .bool more]) ∧ Below v.heap.size v w'))
    (HD : Hid (∀ v : World, Calls Tryd.prog 86 #[.agg #[.bool nx, .int .u64 Bl, .int .i64 P, .bool false], .agg #[.bool ny, .int .u64 kept, .int .i64 P, .bool more]] v fun e w' => e = .returned (.agg #[.bool rn, .int .u64 rz, .int .i64 P, .bool rm]) ∧ Below v.heap.size v w')) :
    Calls Tryd.prog 72 #[.agg #[.bool nx, .int .u64 X, .int .i64 p, .bool false], .agg #[.bool ny, .int .u64 Y, .int .i64 q, .bool false]] w fun e w' => e = .returned (.agg #[.bool rn, .int .u64 rz, .int .i64 P, .bool rm]) ∧ Below w.heap.size w w' := by
  go_enter Tryd.func72, Tryd.ntmps72
  go_upto_region 5 with (fail)
  obtain ⟨W, hW⟩ : ∃ W, W = ((w.alloc (.cells #[.bool nx, .int .u64 X, .int .i64 p, .bool false] 72)).alloc (.cells #[.bool ny, .int .u64 Y, .int .i64 q, .bool false] 72)).alloc (.cells #[.bool false, .int .u64 0, .int .i64 0, .bool false] 72) := ⟨_, rfl⟩
  obtain ⟨k, hk⟩ : ∃ k, k = w.heap.size := ⟨_, rfl⟩
  have XW : W.heap[k]? = some (.cells #[.bool nx, .int .u64 X, .int .i64 p, .bool false] 72 (0, 0)) := by rw [hW, hk, Below.heap_alloc _ _ _ (by simp; omega), Below.heap_alloc _ _ _ (by simp)]; exact heap_alloc_new _ _
  have YW : W.heap[k + 1]? = some (.cells #[.bool ny, .int .u64 Y, .int .i64 q, .bool false] 72 (0, 0)) := by rw [hW, hk, Below.heap_alloc _ _ _ (by simp)]; exact heap_alloc_at (by simp)
  have ZW : W.heap[k + 1 + 1]? = some (.cells #[.bool false, .int .u64 0, .int .i64 0, .bool false] 72 (0, 0)) := by rw [hW, hk]; exact heap_alloc_at (by simp)
  have bW : Below w.heap.size w W := by rw [hW]; exact (((Below.refl _ _).alloc (by omega) _).alloc (by simp) _).alloc (by simp; omega) _
  have zW : k + 1 + 1 < W.heap.size := by rw [hW, hk]; simp
  rw [← hW, ← hk]
  have hkw : w.heap.size ≤ k := by omega
  clear hW hk
  obtain ⟨⟨a0, a1, a2, a3⟩, a4, a5, a6, a7⟩ := blk4 XW
  obtain ⟨⟨c0, c1, c2, c3⟩, c4, c5, c6, c7⟩ := blk4 YW
  go_quiet (first | (go_at_call 74; (with_reducible show Calls Tryd.prog 74 #[Value.int IntKind.u64 X] _ _); exact Calls.quiet_of_same ((Hid.out HX) _)) | (go_at_call 74; exact Calls.quiet_of_same ((Hid.out HY) _)))
  obtain ⟨V, hV⟩ : ∃ V, V = W.drewN nq := ⟨_, rfl⟩
  have XV : V.heap[k]? = some (.cells #[.bool nx, .int .u64 X, .int .i64 p, .bool false] 72 (0, 0)) := by rw [hV]; exact XW
  have YV : V.heap[k + 1]? = some (.cells #[.bool ny, .int .u64 Y, .int .i64 q, .bool false] 72 (0, 0)) := by rw [hV]; exact YW
  have ZV : V.heap[k + 1 + 1]? = some (.cells #[.bool false, .int .u64 0, .int .i64 0, .bool false] 72 (0, 0)) := by rw [hV]; exact ZW
  have bV : Below w.heap.size w V := by rw [hV]; exact below_drewN bW nq
  have zV : k + 1 + 1 < V.heap.size := by rw [hV]; exact zW
  rw [← hV]
  clear hV a0 a1 a2 a3 a4 a5 a6 a7 c0 c1 c2 c3 c4 c5 c6 c7 XW YW ZW zW bW
  obtain ⟨⟨a0, a1, a2, a3⟩, a4, a5, a6, a7⟩ := blk4 XV
  obtain ⟨⟨c0, c1, c2, c3⟩, c4, c5, c6, c7⟩ := blk4 YV
  obtain ⟨⟨d0, d1, d2, d3⟩, d4, d5, d6, d7⟩ := blk4 ZV
  have kn : k ≠ k + 1 := by omega
  have kn' : k + 1 ≠ k := by omega
  go_wp2_with (first | (go_at_call 78; refine ((Hid.out HL) _).mono ?_; rintro e w1 ⟨rfl, hb1⟩; (have hz1 := hb1.size); (try simp at hz1); (have X1 := (hb1.block k (by first | omega | (simp; omega))).trans XV); (have Y1 := (hb1.block (k + 1) (by first | omega | (simp; omega))).trans YV); (have Z1 := (hb1.block (k + 1 + 1) (by first | omega | (simp; omega))).trans ZV); obtain ⟨⟨g0, g1, g2, g3⟩, g4, g5, g6, g7⟩ := blk4 Z1; obtain ⟨⟨e0, e1, e2, e3⟩, e4, e5, e6, e7⟩ := blk4 X1; obtain ⟨⟨f0, f1, f2, f3⟩, f4, f5, f6, f7⟩ := blk4 Y1) | (go_at_call 85; refine ((Hid.out HW) _).mono ?_; rintro e w2 ⟨rfl, hb2⟩; (have hz2 := hb2.size); (try simp at hz2); (have X2 := (hb2.block k (by first | omega | (simp; omega))).trans (set4 X1)); (have Y2 := (hb2.block (k + 1) (by first | omega | (simp; omega))).trans ((set4_ne (by omega)).trans Y1)); (have Z2 := (hb2.block (k + 1 + 1) (by first | omega | (simp; omega))).trans ((set4_ne (by omega)).trans Z1)); obtain ⟨⟨m0, m1, m2, m3⟩, m4, m5, m6, m7⟩ := blk4 Z2; obtain ⟨⟨u0, u1, u2, u3⟩, u4, u5, u6, u7⟩ := blk4 X2; obtain ⟨⟨v0, v1, v2, v3⟩, v4, v5, v6, v7⟩ := blk4 Y2) | (go_at_call 86; refine ((Hid.out HD) _).mono ?_; rintro e w3 ⟨rfl, hb3⟩; (have hz3 := hb3.size); (try simp at hz3); (have Z3 := (hb3.block (k + 1 + 1) (by first | omega | (simp; omega))).trans ((set4_ne (by omega)).trans Z2)); obtain ⟨⟨n0, n1, n2, n3⟩, n4, n5, n6, n7⟩ := blk4 Z3))
  exact bodyPost_ret (v := .agg #[.bool rn, .int .u64 rz, .int .i64 P, .bool rm]) (by simp [results, Tryd.results72, go_sem, n0, n1, n2, n3]) rfl ⟨rfl, by repeat (first | (with_reducible refine Below.setCell ?_ (by first | omega | (simp; try omega)) _) | (with_reducible refine Below.trans ?_ (hb3.mono (by first | omega | (simp; try omega)))) | (with_reducible refine Below.trans ?_ (hb2.mono (by first | omega | (simp; try omega)))) | (with_reducible refine Below.trans ?_ (hb1.mono (by first | omega | (simp; try omega)))) | (with_reducible exact bV) | (with_reducible refine Below.alloc ?_ (by first | omega | (simp; try omega)) _) | (with_reducible exact Below.refl _ _))⟩
set_option maxHeartbeats 4000000 in
theorem sum_swap_same (nx : Bool) (X p Y q LX LY Bl P kept : Int) (more : Bool) (w : World) (hX : ¬ X = 0) (hY : ¬ Y = 0) (l0 : 0 ≤ LX) (l1 : LX ≤ 64) (k0 : 0 ≤ LY) (k1 : LY ≤ 64) (p0 : -10000 ≤ p) (p1 : p ≤ 10000) (q0 : -10000 ≤ q) (q1 : q ≤ 10000) (hsw : LX + p < LY + q)
    (HX : Hid (∀ v : World, Calls Tryd.prog 74 #[.int .u64 X] v fun e w' => e = .returned (.int .i64 LX) ∧ w' = v)) (HY : Hid (∀ v : World, Calls Tryd.prog 74 #[.int .u64 Y] v fun e w' => e = .returned (.int .i64 LY) ∧ w' = v))
    (HL : Hid (∀ v : World, Calls Tryd.prog 78 #[.agg #[.bool nx, .int .u64 Y, .int .i64 q, .bool false], .int .i64 62] v fun e w' => e = .returned (.agg #[.bool nx, .int .u64 Bl, .int .i64 P, .bool false]) ∧ Below v.heap.size v w'))
    (HW : Hid (∀ v : World, Calls Tryd.prog 85 #[.agg #[.bool nx, .int .u64 X, .int .i64 p, .bool false], .int .i64 P] v fun e w' => e = .returned (.agg #[.bool nx, .int .u64 kept, .int .i64 P, .bool more]) ∧ Below v.heap.size v w'))
    (x0 : 0 ≤ Bl + kept) (x1 : Bl + kept < 18446744073709551616) :
    Calls Tryd.prog 72 #[.agg #[.bool nx, .int .u64 X, .int .i64 p, .bool false], .agg #[.bool nx, .int .u64 Y, .int .i64 q, .bool false]] w fun e w' => e = .returned (.agg #[.bool nx, .int .u64 (Bl + kept), .int .i64 P, .bool more]) ∧ Below w.heap.size w w' := by
  go_enter Tryd.func72, Tryd.ntmps72
  go_upto_region 5 with (fail)
  obtain ⟨W, hW⟩ : ∃ W, W = ((w.alloc (.cells #[.bool nx, .int .u64 X, .int .i64 p, .bool false] 72)).alloc (.cells #[.bool nx, .int .u64 Y, .int .i64 q, .bool false] 72)).alloc (.cells #[.bool false, .int .u64 0, .int .i64 0, .bool false] 72) := ⟨_, rfl⟩
  obtain ⟨k, hk⟩ : ∃ k, k = w.heap.size := ⟨_, rfl⟩
  have XW : W.heap[k]? = some (.cells #[.bool nx, .int .u64 X, .int .i64 p, .bool false] 72 (0, 0)) := by rw [hW, hk, Below.heap_alloc _ _ _ (by simp; omega), Below.heap_alloc _ _ _ (by simp)]; exact heap_alloc_new _ _
  have YW : W.heap[k + 1]? = some (.cells #[.bool nx, .int .u64 Y, .int .i64 q, .bool false] 72 (0, 0)) := by rw [hW, hk, Below.heap_alloc _ _ _ (by simp)]; exact heap_alloc_at (by simp)
  have ZW : W.heap[k + 1 + 1]? = some (.cells #[.bool false, .int .u64 0, .int .i64 0, .bool false] 72 (0, 0)) := by rw [hW, hk]; exact heap_alloc_at (by simp)
  have bW : Below w.heap.size w W := by rw [hW]; exact (((Below.refl _ _).alloc (by omega) _).alloc (by simp) _).alloc (by simp; omega) _
  have zW : k + 1 + 1 < W.heap.size := by rw [hW, hk]; simp
  rw [← hW, ← hk]
  have hkw : w.heap.size ≤ k := by omega
  clear hW hk
  obtain ⟨⟨a0, a1, a2, a3⟩, a4, a5, a6, a7⟩ := blk4 XW
  obtain ⟨⟨c0, c1, c2, c3⟩, c4, c5, c6, c7⟩ := blk4 YW
  go_quiet (first | (go_at_call 74; (with_reducible show Calls Tryd.prog 74 #[Value.int IntKind.u64 X] _ _); exact Calls.quiet_of_same ((Hid.out HX) _)) | (go_at_call 74; exact Calls.quiet_of_same ((Hid.out HY) _)))
  obtain ⟨V, hV⟩ : ∃ V, V = W.drewN nq := ⟨_, rfl⟩
  have XV : V.heap[k]? = some (.cells #[.bool nx, .int .u64 X, .int .i64 p, .bool false] 72 (0, 0)) := by rw [hV]; exact XW
  have YV : V.heap[k + 1]? = some (.cells #[.bool nx, .int .u64 Y, .int .i64 q, .bool false] 72 (0, 0)) := by rw [hV]; exact YW
  have ZV : V.heap[k + 1 + 1]? = some (.cells #[.bool false, .int .u64 0, .int .i64 0, .bool false] 72 (0, 0)) := by rw [hV]; exact ZW
  have bV : Below w.heap.size w V := by rw [hV]; exact below_drewN bW nq
  have zV : k + 1 + 1 < V.heap.size := by rw [hV]; exact zW
  rw [← hV]
  clear hV a0 a1 a2 a3 a4 a5 a6 a7 c0 c1 c2 c3 c4 c5 c6 c7 XW YW ZW zW bW
  obtain ⟨⟨a0, a1, a2, a3⟩, a4, a5, a6, a7⟩ := blk4 XV
  obtain ⟨⟨c0, c1, c2, c3⟩, c4, c5, c6, c7⟩ := blk4 YV
  obtain ⟨⟨d0, d1, d2, d3⟩, d4, d5, d6, d7⟩ := blk4 ZV
  have kn : k ≠ k + 1 := by omega
  have kn' : k + 1 ≠ k := by omega
  go_wp2_with (first | (go_at_call 78; refine ((Hid.out HL) _).mono ?_; rintro e w1 ⟨rfl, hb1⟩; (have hz1 := hb1.size); (try simp at hz1); (have X1 := (hb1.block k (by first | omega | (simp; omega))).trans ((set4_ne (by omega)).trans (set4 XV))); (have Y1 := (hb1.block (k + 1) (by first | omega | (simp; omega))).trans (set4 ((set4_ne (by omega)).trans YV))); (have Z1 := (hb1.block (k + 1 + 1) (by first | omega | (simp; omega))).trans ((set4_ne (by omega)).trans ((set4_ne (by omega)).trans ZV))); obtain ⟨⟨g0, g1, g2, g3⟩, g4, g5, g6, g7⟩ := blk4 Z1; obtain ⟨⟨e0, e1, e2, e3⟩, e4, e5, e6, e7⟩ := blk4 X1; obtain ⟨⟨f0, f1, f2, f3⟩, f4, f5, f6, f7⟩ := blk4 Y1) | (go_at_call 85; refine ((Hid.out HW) _).mono ?_; rintro e w2 ⟨rfl, hb2⟩; (have hz2 := hb2.size); (try simp at hz2); (have X2 := (hb2.block k (by first | omega | (simp; omega))).trans (set4 X1)); (have Y2 := (hb2.block (k + 1) (by first | omega | (simp; omega))).trans ((set4_ne (by omega)).trans Y1)); (have Z2 := (hb2.block (k + 1 + 1) (by first | omega | (simp; omega))).trans ((set4_ne (by omega)).trans Z1)); obtain ⟨⟨m0, m1, m2, m3⟩, m4, m5, m6, m7⟩ := blk4 Z2; obtain ⟨⟨u0, u1, u2, u3⟩, u4, u5, u6, u7⟩ := blk4 X2; obtain ⟨⟨v0, v1, v2, v3⟩, v4, v5, v6, v7⟩ := blk4 Y2))
  exact bodyPost_ret (v := .agg #[.bool nx, .int .u64 (Bl + kept), .int .i64 P, .bool more]) (by simp [results, Tryd.results72, go_sem, m0, m1, m2, m3]) rfl ⟨rfl, by repeat (first | (with_reducible refine Below.setCell ?_ (by first | omega | (simp; try omega)) _) | (with_reducible refine Below.trans ?_ (hb3.mono (by first | omega | (simp; try omega)))) | (with_reducible refine Below.trans ?_ (hb2.mono (by first | omega | (simp; try omega)))) | (with_reducible refine Below.trans ?_ (hb1.mono (by first | omega | (simp; try omega)))) | (with_reducible exact bV) | (with_reducible refine Below.alloc ?_ (by first | omega | (simp; try omega)) _) | (with_reducible exact Below.refl _ _))⟩
set_option maxHeartbeats 4000000 in
theorem sum_swap_diff (nx : Bool) (ny rn rm : Bool) (rz : Int) (hnn : (nx == ny) = false) (X p Y q LX LY Bl P kept : Int) (more : Bool) (w : World) (hX : ¬ X = 0) (hY : ¬ Y = 0) (l0 : 0 ≤ LX) (l1 : LX ≤ 64) (k0 : 0 ≤ LY) (k1 : LY ≤ 64) (p0 : -10000 ≤ p) (p1 : p ≤ 10000) (q0 : -10000 ≤ q) (q1 : q ≤ 10000) (hsw : LX + p < LY + q)
    (HX : Hid (∀ v : World, Calls Tryd.prog 74 #[.int .u64 X] v fun e w' => e = .returned (.int .i64 LX) ∧ w' = v)) (HY : Hid (∀ v : World, Calls Tryd.prog 74 #[.int .u64 Y] v fun e w' => e = .returned (.int .i64 LY) ∧ w' = v))
    (HL : Hid (∀ v : World, Calls Tryd.prog 78 #[.agg #[.bool ny, .int .u64 Y, .int .i64 q, .bool false], .int .i64 62] v fun e w' => e = .returned (.agg #[.bool ny, .int .u64 Bl, .int .i64 P, .bool false]) ∧ Below v.heap.size v w'))
    (HW : Hid (∀ v : World, Calls Tryd.prog 85 #[.agg #[.bool nx, .int .u64 X, .int .i64 p, .bool false], .int .i64 P] v fun e w' => e = .returned (.agg #[.bool nx, .int .u64 kept, .int .i64 P, .bool more]) ∧ Below v.heap.size v w'))
    (HD : Hid (∀ v : World, Calls Tryd.prog 86 #[.agg #[.bool ny, .int .u64 Bl, .int .i64 P, .bool false], .agg #[.bool nx, .int .u64 kept, .int .i64 P, .bool more]] v fun e w' => e = .returned (.agg #[.bool rn, .int .u64 rz, .int .i64 P, .bool rm]) ∧ Below v.heap.size v w')) :
    Calls Tryd.prog 72 #[.agg #[.bool nx, .int .u64 X, .int .i64 p, .bool false], .agg #[.bool ny, .int .u64 Y, .int .i64 q, .bool false]] w fun e w' => e = .returned (.agg #[.bool rn, .int .u64 rz, .int .i64 P, .bool rm]) ∧ Below w.heap.size w w' := by
  have hnm : (ny == nx) = false := by rw [← hnn]; cases nx <;> cases ny <;> rfl
  go_enter Tryd.func72, Tryd.ntmps72
  go_upto_region 5 with (fail)
  obtain ⟨W, hW⟩ : ∃ W, W = ((w.alloc (.cells #[.bool nx, .int .u64 X, .int .i64 p, .bool false] 72)).alloc (.cells #[.bool ny, .int .u64 Y, .int .i64 q, .bool false] 72)).alloc (.cells #[.bool false, .int .u64 0, .int .i64 0, .bool false] 72) := ⟨_, rfl⟩
  obtain ⟨k, hk⟩ : ∃ k, k = w.heap.size := ⟨_, rfl⟩
  have XW : W.heap[k]? = some (.cells #[.bool nx, .int .u64 X, .int .i64 p, .bool false] 72 (0, 0)) := by rw [hW, hk, Below.heap_alloc _ _ _ (by simp; omega), Below.heap_alloc _ _ _ (by simp)]; exact heap_alloc_new _ _
  have YW : W.heap[k + 1]? = some (.cells #[.bool ny, .int .u64 Y, .int .i64 q, .bool false] 72 (0, 0)) := by rw [hW, hk, Below.heap_alloc _ _ _ (by simp)]; exact heap_alloc_at (by simp)
  have ZW : W.heap[k + 1 + 1]? = some (.cells #[.bool false, .int .u64 0, .int .i64 0, .bool false] 72 (0, 0)) := by rw [hW, hk]; exact heap_alloc_at (by simp)
  have bW : Below w.heap.size w W := by rw [hW]; exact (((Below.refl _ _).alloc (by omega) _).alloc (by simp) _).alloc (by simp; omega) _
  have zW : k + 1 + 1 < W.heap.size := by rw [hW, hk]; simp
  rw [← hW, ← hk]
  have hkw : w.heap.size ≤ k := by omega
  clear hW hk
  obtain ⟨⟨a0, a1, a2, a3⟩, a4, a5, a6, a7⟩ := blk4 XW
  obtain ⟨⟨c0, c1, c2, c3⟩, c4, c5, c6, c7⟩ := blk4 YW
  go_quiet (first | (go_at_call 74; (with_reducible show Calls Tryd.prog 74 #[Value.int IntKind.u64 X] _ _); exact Calls.quiet_of_same ((Hid.out HX) _)) | (go_at_call 74; exact Calls.quiet_of_same ((Hid.out HY) _)))
  obtain ⟨V, hV⟩ : ∃ V, V = W.drewN nq := ⟨_, rfl⟩
  have XV : V.heap[k]? = some (.cells #[.bool nx, .int .u64 X, .int .i64 p, .bool false] 72 (0, 0)) := by rw [hV]; exact XW
  have YV : V.heap[k + 1]? = some (.cells #[.bool ny, .int .u64 Y, .int .i64 q, .bool false] 72 (0, 0)) := by rw [hV]; exact YW
  have ZV : V.heap[k + 1 + 1]? = some (.cells #[.bool false, .int .u64 0, .int .i64 0, .bool false] 72 (0, 0)) := by rw [hV]; exact ZW
  have bV : Below w.heap.size w V := by rw [hV]; exact below_drewN bW nq
  have zV : k + 1 + 1 < V.heap.size := by rw [hV]; exact zW
  rw [← hV]
  clear hV a0 a1 a2 a3 a4 a5 a6 a7 c0 c1 c2 c3 c4 c5 c6 c7 XW YW ZW zW bW
  obtain ⟨⟨a0, a1, a2, a3⟩, a4, a5, a6, a7⟩ := blk4 XV
  obtain ⟨⟨c0, c1, c2, c3⟩, c4, c5, c6, c7⟩ := blk4 YV
  obtain ⟨⟨d0, d1, d2, d3⟩, d4, d5, d6, d7⟩ := blk4 ZV
  have kn : k ≠ k + 1 := by omega
  have kn' : k + 1 ≠ k := by omega
  go_wp2_with (first | (go_at_call 78; refine ((Hid.out HL) _).mono ?_; rintro e w1 ⟨rfl, hb1⟩; (have hz1 := hb1.size); (try simp at hz1); (have X1 := (hb1.block k (by first | omega | (simp; omega))).trans ((set4_ne (by omega)).trans (set4 XV))); (have Y1 := (hb1.block (k + 1) (by first | omega | (simp; omega))).trans (set4 ((set4_ne (by omega)).trans YV))); (have Z1 := (hb1.block (k + 1 + 1) (by first | omega | (simp; omega))).trans ((set4_ne (by omega)).trans ((set4_ne (by omega)).trans ZV))); obtain ⟨⟨g0, g1, g2, g3⟩, g4, g5, g6, g7⟩ := blk4 Z1; obtain ⟨⟨e0, e1, e2, e3⟩, e4, e5, e6, e7⟩ := blk4 X1; obtain ⟨⟨f0, f1, f2, f3⟩, f4, f5, f6, f7⟩ := blk4 Y1) | (go_at_call 85; refine ((Hid.out HW) _).mono ?_; rintro e w2 ⟨rfl, hb2⟩; (have hz2 := hb2.size); (try simp at hz2); (have X2 := (hb2.block k (by first | omega | (simp; omega))).trans (set4 X1)); (have Y2 := (hb2.block (k + 1) (by first | omega | (simp; omega))).trans ((set4_ne (by omega)).trans Y1)); (have Z2 := (hb2.block (k + 1 + 1) (by first | omega | (simp; omega))).trans ((set4_ne (by omega)).trans Z1)); obtain ⟨⟨m0, m1, m2, m3⟩, m4, m5, m6, m7⟩ := blk4 Z2; obtain ⟨⟨u0, u1, u2, u3⟩, u4, u5, u6, u7⟩ := blk4 X2; obtain ⟨⟨v0, v1, v2, v3⟩, v4, v5, v6, v7⟩ := blk4 Y2) | (go_at_call 86; refine ((Hid.out HD) _).mono ?_; rintro e w3 ⟨rfl, hb3⟩; (have hz3 := hb3.size); (try simp at hz3); (have Z3 := (hb3.block (k + 1 + 1) (by first | omega | (simp; omega))).trans ((set4_ne (by omega)).trans Z2)); obtain ⟨⟨n0, n1, n2, n3⟩, n4, n5, n6, n7⟩ := blk4 Z3))
  exact bodyPost_ret (v := .agg #[.bool rn, .int .u64 rz, .int .i64 P, .bool rm]) (by simp [results, Tryd.results72, go_sem, n0, n1, n2, n3]) rfl ⟨rfl, by repeat (first | (with_reducible refine Below.setCell ?_ (by first | omega | (simp; try omega)) _) | (with_reducible refine Below.trans ?_ (hb3.mono (by first | omega | (simp; try omega)))) | (with_reducible refine Below.trans ?_ (hb2.mono (by first | omega | (simp; try omega)))) | (with_reducible refine Below.trans ?_ (hb1.mono (by first | omega | (simp; try omega)))) | (with_reducible exact bV) | (with_reducible refine Below.alloc ?_ (by first | omega | (simp; try omega)) _) | (with_reducible exact Below.refl _ _))⟩
end Go.Proofs.YtoloenkcfpfgcaaDoor
namespace Go.Proofs.YtoloenkcfpfgcaaDoor
open Go.ChangeShapes Go.WideShapes Go.ChangeAt Go.RowKit
set_option linter.unusedVariables false
theorem set7h {w : World} {b : Nat} {x0 x1 x2 x3 x4 x5 x6 y0 y1 y2 y3 y4 y5 y6 : Value} {t : TypeId} (h : w.heap[b]? = some (.cells #[x0, x1, x2, x3, x4, x5, x6] t (0, 0))) :
    (((((((w.setCell ⟨b, 0, none⟩ y0).setCell ⟨b, 1, none⟩ y1).setCell ⟨b, 2, none⟩ y2).setCell ⟨b, 3, none⟩ y3).setCell ⟨b, 4, none⟩ y4).setCell ⟨b, 5, none⟩ y5).setCell ⟨b, 6, none⟩ y6).heap[b]? = some (.cells #[y0, y1, y2, y3, y4, y5, y6] t (0, 0)) := by
  have hb : b < w.heap.size := lt_of_block h
  have e : w.heap[b] = .cells #[x0, x1, x2, x3, x4, x5, x6] t (0, 0) := by
    have := Array.getElem?_eq_getElem hb
    rw [this] at h; exact Option.some.inj h
  simp [World.setCell, Array.getElem?_modify, h]
theorem set7_ne {w : World} {b k : Nat} {y0 y1 y2 y3 y4 y5 y6 : Value} (hk : k ≠ b) :
    (((((((w.setCell ⟨b, 0, none⟩ y0).setCell ⟨b, 1, none⟩ y1).setCell ⟨b, 2, none⟩ y2).setCell ⟨b, 3, none⟩ y3).setCell ⟨b, 4, none⟩ y4).setCell ⟨b, 5, none⟩ y5).setCell ⟨b, 6, none⟩ y6).heap[k]? = w.heap[k]? := by
  rw [Below.heap_setCell _ _ _ _ hk, Below.heap_setCell _ _ _ _ hk, Below.heap_setCell _ _ _ _ hk, Below.heap_setCell _ _ _ _ hk, Below.heap_setCell _ _ _ _ hk, Below.heap_setCell _ _ _ _ hk, Below.heap_setCell _ _ _ _ hk]
theorem cell_set7 {w : World} {b k i : Nat} {y0 y1 y2 y3 y4 y5 y6 v : Value} (hk : k ≠ b) (h : w.cell? ⟨k, i, none⟩ = some v) :
    (((((((w.setCell ⟨b, 0, none⟩ y0).setCell ⟨b, 1, none⟩ y1).setCell ⟨b, 2, none⟩ y2).setCell ⟨b, 3, none⟩ y3).setCell ⟨b, 4, none⟩ y4).setCell ⟨b, 5, none⟩ y5).setCell ⟨b, 6, none⟩ y6).cell? ⟨k, i, none⟩ = some v := by
  rw [← h]; exact World.cell?_of_block (set7_ne hk)
set_option maxRecDepth 100000 in
set_option maxHeartbeats 4000000 in
theorem plus84_le (m n p q : Int) (d : Nat) (m0 : -1000000000000000000 < m) (m1 : m < 1000000000000000000) (n0 : -1000000000000000000 < n) (n1 : n < 1000000000000000000) (p0 : -1000 ≤ p) (p1 : p ≤ 1000) (q0 : -1000 ≤ q) (q1 : q ≤ 1000) (hd : q - p = (d : Int)) (d1 : d ≤ 1000) (w : World) :
    Calls Tryd.prog 33 #[.agg #[.int .i64 m, .bool false, .slice none 0 0, .int .i64 1, .bool false, .slice none 0 0, .int .i64 p], .agg #[.int .i64 n, .bool false, .slice none 0 0, .int .i64 1, .bool false, .slice none 0 0, .int .i64 q]] w fun e w' => ∃ V g pp l c, e = .returned (.agg #[.int .i64 V, .bool g, .slice pp l c, .int .i64 1, .bool false, .slice none 0 0, .int .i64 p]) ∧ Num w' 200 (.agg #[.int .i64 V, .bool g, .slice pp l c]) (m + n * 2 ^ d) ∧ Below w.heap.size w w' := by
  have hpq : ¬ q < p := by omega
  have hne : IntKind.i64.wrap (d : Int) = (d : Int) := wr64 _ (by omega) (by omega)
  go_enter Tryd.func33, Tryd.ntmps33
  go_upto_region 5 with (fail)
  obtain ⟨W0, hW0⟩ : ∃ W0, W0 = ((w.alloc (.cells #[.int .i64 m, .bool false, .slice none 0 0, .int .i64 1, .bool false, .slice none 0 0, .int .i64 p] 52)).alloc (.cells #[.int .i64 n, .bool false, .slice none 0 0, .int .i64 1, .bool false, .slice none 0 0, .int .i64 q] 52)).alloc (.cells #[.int .i64 0, .bool false, .slice none 0 0, .int .i64 0, .bool false, .slice none 0 0, .int .i64 0] 52) := ⟨_, rfl⟩
  obtain ⟨k, hk⟩ : ∃ k, k = w.heap.size := ⟨_, rfl⟩
  have X0 : W0.heap[k]? = some (.cells #[.int .i64 m, .bool false, .slice none 0 0, .int .i64 1, .bool false, .slice none 0 0, .int .i64 p] 52 (0, 0)) := by rw [hW0, hk, Below.heap_alloc _ _ _ (by first | (simp; done) | (simp; omega)), Below.heap_alloc _ _ _ (by first | (simp; done) | (simp; omega))]; exact heap_alloc_new _ _
  have Y0 : W0.heap[k + 1]? = some (.cells #[.int .i64 n, .bool false, .slice none 0 0, .int .i64 1, .bool false, .slice none 0 0, .int .i64 q] 52 (0, 0)) := by rw [hW0, hk, Below.heap_alloc _ _ _ (by first | (simp; done) | (simp; omega))]; exact heap_alloc_at (by simp)
  have Z0 : W0.heap[k + 1 + 1]? = some (.cells #[.int .i64 0, .bool false, .slice none 0 0, .int .i64 0, .bool false, .slice none 0 0, .int .i64 0] 52 (0, 0)) := by rw [hW0, hk]; exact heap_alloc_at (by simp)
  have bW0 : Below w.heap.size w W0 := by rw [hW0]; exact (((Below.refl _ _).alloc (by omega) _).alloc (by simp) _).alloc (by simp; omega) _
  have zW0 : k + 1 + 1 < W0.heap.size := by rw [hW0, hk]; first | (simp; done) | (simp; omega)
  rw [← hW0, ← hk]
  have hkw : w.heap.size ≤ k := by omega
  clear hW0 hk
  obtain ⟨W, hW⟩ : ∃ W, W = W0 := ⟨_, rfl⟩
  have XW : W.heap[k]? = some (.cells #[.int .i64 m, .bool false, .slice none 0 0, .int .i64 1, .bool false, .slice none 0 0, .int .i64 p] 52 (0, 0)) := by rw [hW]; exact X0
  have YW : W.heap[k + 1]? = some (.cells #[.int .i64 n, .bool false, .slice none 0 0, .int .i64 1, .bool false, .slice none 0 0, .int .i64 q] 52 (0, 0)) := by rw [hW]; exact Y0
  have ZW : W.heap[k + 1 + 1]? = some (.cells #[.int .i64 0, .bool false, .slice none 0 0, .int .i64 0, .bool false, .slice none 0 0, .int .i64 0] 52 (0, 0)) := by rw [hW]; exact Z0
  have bW : Below w.heap.size w W := by rw [hW]; repeat (first | (with_reducible exact bW0) | (with_reducible refine Below.setCell ?_ (by first | omega | (simp; try omega)) _))
  have zW : k + 1 + 1 < W.heap.size := by rw [hW]; first | exact zW0 | (simp; exact zW0)
  rw [← hW]
  clear hW X0 Y0 Z0 bW0 zW0
  obtain ⟨⟨a0, a1, a2, _, _, _, a6⟩, _⟩ := blk7 XW; obtain ⟨⟨aa0, aa1, aa2, _, _, _, aa6⟩, _⟩ := blk7 YW
  go_region_held3 (fun v => v.cell? ⟨k, 0, none⟩ = some (.int .i64 m) ∧ v.cell? ⟨k, 1, none⟩ = some (.bool false) ∧ v.cell? ⟨k, 2, none⟩ = some (.slice none 0 0) ∧ v.cell? ⟨k, 6, none⟩ = some (.int .i64 p) ∧ v.cell? ⟨k + 1, 0, none⟩ = some (.int .i64 n) ∧ v.cell? ⟨k + 1, 1, none⟩ = some (.bool false) ∧ v.cell? ⟨k + 1, 2, none⟩ = some (.slice none 0 0) ∧ v.cell? ⟨k + 1, 6, none⟩ = some (.int .i64 q)) (first | with_reducible exact ⟨a0, a1, a2, a6, aa0, aa1, aa2, aa6⟩ | with_reducible exact ⟨s0, s1, s2, s6, ss0, ss1, ss2, ss6⟩ | with_reducible exact ⟨t0, t1, t2, t6, tt0, tt1, tt2, tt6⟩ | with_reducible exact ⟨u0, u1, u2, u6, uu0, uu1, uu2, uu6⟩ | with_reducible exact ⟨v0, v1, v2, v6, vv0, vv1, vv2, vv6⟩ | (with_reducible refine ⟨cell_set7 ?_ v0, cell_set7 ?_ v1, cell_set7 ?_ v2, cell_set7 ?_ v6, cell_set7 ?_ vv0, cell_set7 ?_ vv1, cell_set7 ?_ vv2, cell_set7 ?_ vv6⟩ <;> omega) | (go_keep; done)) (first | (go_at_call 39; (first | rw [hne] | (rw [hd]; rw [hne]) | rw [hd] | skip); (with_reducible show Calls Tryd.prog 39 #[Value.int IntKind.i64 (d : Int)] _ _); refine (num_power d d1 _).mono ?_; rintro e w4 ⟨v4, rfl, N4, hb4⟩; obtain ⟨V4, g4, p4, l4, c4, rfl⟩ := N4.parts; (have hb4' : Below W.heap.size W w4 := ⟨hb4.os, hb4.tape, hb4.output, hb4.size, hb4.block⟩); (have X4 := ((hb4').block k (by omega)).trans XW); (have Y4 := ((hb4').block (k + 1) (by omega)).trans YW); (have Z4 := ((hb4').block (k + 1 + 1) (by omega)).trans ZW); (have z4 : k + 1 + 1 < w4.heap.size := Nat.lt_of_lt_of_le zW (hb4').size); obtain ⟨⟨s0, s1, s2, _, _, _, s6⟩, _⟩ := blk7 X4; obtain ⟨⟨ss0, ss1, ss2, _, _, _, ss6⟩, _⟩ := blk7 Y4) | (go_at_call 37; refine (num_mul_any (w := w4) (num_small w4 3 n (by omega) (by omega)) N4 (by decide) (by decide) (by decide)).mono ?_; rintro e w5 ⟨v5, rfl, N5, hb5⟩; obtain ⟨V5, g5, p5, l5, c5, rfl⟩ := N5.parts; (have X5 := ((hb5).block k (by omega)).trans X4); (have Y5 := ((hb5).block (k + 1) (by omega)).trans Y4); (have Z5 := ((hb5).block (k + 1 + 1) (by omega)).trans Z4); (have z5 : k + 1 + 1 < w5.heap.size := Nat.lt_of_lt_of_le z4 (hb5).size); obtain ⟨⟨t0, t1, t2, _, _, _, t6⟩, _⟩ := blk7 X5; obtain ⟨⟨tt0, tt1, tt2, _, _, _, tt6⟩, _⟩ := blk7 Y5) | (go_at_call 41; refine (num_add (w := w5) (num_small w5 3 m (by omega) (by omega)) N5 (by decide) (by decide) (by decide)).mono ?_; rintro e w6 ⟨v6, rfl, N6, hb6⟩; obtain ⟨V6, g6, p6, l6, c6, rfl⟩ := N6.parts; (have X6 := ((hb6).block k (by omega)).trans X5); (have Y6 := ((hb6).block (k + 1) (by omega)).trans Y5); (have Z6 := ((hb6).block (k + 1 + 1) (by omega)).trans Z5); (have z6 : k + 1 + 1 < w6.heap.size := Nat.lt_of_lt_of_le z5 (hb6).size); obtain ⟨⟨u0, u1, u2, _, _, _, u6⟩, _⟩ := blk7 X6; obtain ⟨⟨uu0, uu1, uu2, _, _, _, uu6⟩, _⟩ := blk7 Y6) | (go_at_call 38; refine (zSmall 1 (by decide) (by decide) w6).mono ?_; rintro e w7 ⟨rfl, hb7⟩; (have X7 := ((hb7).block k (by omega)).trans X6); (have Y7 := ((hb7).block (k + 1) (by omega)).trans Y6); (have Z7 := ((hb7).block (k + 1 + 1) (by omega)).trans Z6); (have z7 : k + 1 + 1 < w7.heap.size := Nat.lt_of_lt_of_le z6 (hb7).size); obtain ⟨⟨v0, v1, v2, _, _, _, v6⟩, _⟩ := blk7 X7; obtain ⟨⟨vv0, vv1, vv2, _, _, _, vv6⟩, _⟩ := blk7 Y7; obtain ⟨⟨x0, x1, x2, x3, x4, x5, x6⟩, y0, y1, y2, y3, y4, y5, y6⟩ := blk7 Z7))
  all_goals go_wp2
  all_goals
    have bel := (((bW.trans (hb4'.mono bW.size)).trans (hb5.mono (Nat.le_trans bW.size hb4'.size))).trans (hb6.mono (Nat.le_trans bW.size (Nat.le_trans hb4'.size hb5.size)))).trans (hb7.mono (Nat.le_trans bW.size (Nat.le_trans hb4'.size (Nat.le_trans hb5.size hb6.size))))
    exact bodyPost_ret (v := .agg #[.int .i64 V6, .bool g6, .slice p6 l6 c6, .int .i64 1, .bool false, .slice none 0 0, .int .i64 p]) (by simp [results, Tryd.results33, go_sem, x0, x1, x2, x3, x4, x5, x6]) rfl ⟨V6, g6, p6, l6, c6, rfl, ((N6.next hb7).mono (by decide)).set7 x1 _ _ _ _ _ _ _, by repeat (first | (with_reducible exact bel) | (with_reducible refine Below.setCell ?_ (by first | omega | (simp; try omega)) _))⟩
set_option maxRecDepth 100000 in
set_option maxHeartbeats 4000000 in
theorem plus84_gt (m n p q : Int) (d : Nat) (m0 : -1000000000000000000 < m) (m1 : m < 1000000000000000000) (n0 : -1000000000000000000 < n) (n1 : n < 1000000000000000000) (p0 : -1000 ≤ p) (p1 : p ≤ 1000) (q0 : -1000 ≤ q) (q1 : q ≤ 1000) (hd : p - q = (d : Int)) (d1 : d ≤ 1000) (d0 : 0 < d) (w : World) :
    Calls Tryd.prog 33 #[.agg #[.int .i64 m, .bool false, .slice none 0 0, .int .i64 1, .bool false, .slice none 0 0, .int .i64 p], .agg #[.int .i64 n, .bool false, .slice none 0 0, .int .i64 1, .bool false, .slice none 0 0, .int .i64 q]] w fun e w' => ∃ V g pp l c, e = .returned (.agg #[.int .i64 V, .bool g, .slice pp l c, .int .i64 1, .bool false, .slice none 0 0, .int .i64 q]) ∧ Num w' 200 (.agg #[.int .i64 V, .bool g, .slice pp l c]) (n + m * 2 ^ d) ∧ Below w.heap.size w w' := by
  have hpq : q < p := by omega
  have hne : IntKind.i64.wrap (d : Int) = (d : Int) := wr64 _ (by omega) (by omega)
  go_enter Tryd.func33, Tryd.ntmps33
  go_upto_region 5 with (fail)
  obtain ⟨W0, hW0⟩ : ∃ W0, W0 = (((w.alloc (.cells #[.int .i64 n, .bool false, .slice none 0 0, .int .i64 1, .bool false, .slice none 0 0, .int .i64 q] 52)).alloc (.cells #[.int .i64 m, .bool false, .slice none 0 0, .int .i64 1, .bool false, .slice none 0 0, .int .i64 p] 52)).alloc (.cells #[.int .i64 0, .bool false, .slice none 0 0, .int .i64 0, .bool false, .slice none 0 0, .int .i64 0] 52)).alloc (.cells #[.int .i64 m, .bool false, .slice none 0 0, .int .i64 1, .bool false, .slice none 0 0, .int .i64 p] 52) := ⟨_, rfl⟩
  obtain ⟨k, hk⟩ : ∃ k, k = w.heap.size := ⟨_, rfl⟩
  have X0 : W0.heap[k]? = some (.cells #[.int .i64 n, .bool false, .slice none 0 0, .int .i64 1, .bool false, .slice none 0 0, .int .i64 q] 52 (0, 0)) := by rw [hW0, hk, Below.heap_alloc _ _ _ (by first | (simp; done) | (simp; omega)), Below.heap_alloc _ _ _ (by first | (simp; done) | (simp; omega)), Below.heap_alloc _ _ _ (by first | (simp; done) | (simp; omega))]; exact heap_alloc_new _ _
  have Y0 : W0.heap[k + 1]? = some (.cells #[.int .i64 m, .bool false, .slice none 0 0, .int .i64 1, .bool false, .slice none 0 0, .int .i64 p] 52 (0, 0)) := by rw [hW0, hk, Below.heap_alloc _ _ _ (by first | (simp; done) | (simp; omega)), Below.heap_alloc _ _ _ (by first | (simp; done) | (simp; omega))]; exact heap_alloc_at (by simp)
  have Z0 : W0.heap[k + 1 + 1]? = some (.cells #[.int .i64 0, .bool false, .slice none 0 0, .int .i64 0, .bool false, .slice none 0 0, .int .i64 0] 52 (0, 0)) := by rw [hW0, hk, Below.heap_alloc _ _ _ (by first | (simp; done) | (simp; omega))]; exact heap_alloc_at (by simp)
  have bW0 : Below w.heap.size w W0 := by rw [hW0]; exact ((((Below.refl _ _).alloc (by omega) _).alloc (by simp) _).alloc (by simp; omega) _).alloc (by simp; omega) _
  have zW0 : k + 1 + 1 < W0.heap.size := by rw [hW0, hk]; first | (simp; done) | (simp; omega)
  rw [← hW0, ← hk]
  have hkw : w.heap.size ≤ k := by omega
  clear hW0 hk
  obtain ⟨W, hW⟩ : ∃ W, W = W0 := ⟨_, rfl⟩
  have XW : W.heap[k]? = some (.cells #[.int .i64 n, .bool false, .slice none 0 0, .int .i64 1, .bool false, .slice none 0 0, .int .i64 q] 52 (0, 0)) := by rw [hW]; exact X0
  have YW : W.heap[k + 1]? = some (.cells #[.int .i64 m, .bool false, .slice none 0 0, .int .i64 1, .bool false, .slice none 0 0, .int .i64 p] 52 (0, 0)) := by rw [hW]; exact Y0
  have ZW : W.heap[k + 1 + 1]? = some (.cells #[.int .i64 0, .bool false, .slice none 0 0, .int .i64 0, .bool false, .slice none 0 0, .int .i64 0] 52 (0, 0)) := by rw [hW]; exact Z0
  have bW : Below w.heap.size w W := by rw [hW]; repeat (first | (with_reducible exact bW0) | (with_reducible refine Below.setCell ?_ (by first | omega | (simp; try omega)) _))
  have zW : k + 1 + 1 < W.heap.size := by rw [hW]; first | exact zW0 | (simp; exact zW0)
  rw [← hW]
  clear hW X0 Y0 Z0 bW0 zW0
  obtain ⟨⟨a0, a1, a2, _, _, _, a6⟩, _⟩ := blk7 XW; obtain ⟨⟨aa0, aa1, aa2, _, _, _, aa6⟩, _⟩ := blk7 YW
  go_region_held3 (fun v => v.cell? ⟨k, 0, none⟩ = some (.int .i64 n) ∧ v.cell? ⟨k, 1, none⟩ = some (.bool false) ∧ v.cell? ⟨k, 2, none⟩ = some (.slice none 0 0) ∧ v.cell? ⟨k, 6, none⟩ = some (.int .i64 q) ∧ v.cell? ⟨k + 1, 0, none⟩ = some (.int .i64 m) ∧ v.cell? ⟨k + 1, 1, none⟩ = some (.bool false) ∧ v.cell? ⟨k + 1, 2, none⟩ = some (.slice none 0 0) ∧ v.cell? ⟨k + 1, 6, none⟩ = some (.int .i64 p)) (first | with_reducible exact ⟨a0, a1, a2, a6, aa0, aa1, aa2, aa6⟩ | with_reducible exact ⟨s0, s1, s2, s6, ss0, ss1, ss2, ss6⟩ | with_reducible exact ⟨t0, t1, t2, t6, tt0, tt1, tt2, tt6⟩ | with_reducible exact ⟨u0, u1, u2, u6, uu0, uu1, uu2, uu6⟩ | with_reducible exact ⟨v0, v1, v2, v6, vv0, vv1, vv2, vv6⟩ | (with_reducible refine ⟨cell_set7 ?_ v0, cell_set7 ?_ v1, cell_set7 ?_ v2, cell_set7 ?_ v6, cell_set7 ?_ vv0, cell_set7 ?_ vv1, cell_set7 ?_ vv2, cell_set7 ?_ vv6⟩ <;> omega) | (go_keep; done)) (first | (go_at_call 39; (first | rw [hne] | (rw [hd]; rw [hne]) | rw [hd] | skip); (with_reducible show Calls Tryd.prog 39 #[Value.int IntKind.i64 (d : Int)] _ _); refine (num_power d d1 _).mono ?_; rintro e w4 ⟨v4, rfl, N4, hb4⟩; obtain ⟨V4, g4, p4, l4, c4, rfl⟩ := N4.parts; (have hb4' : Below W.heap.size W w4 := ⟨hb4.os, hb4.tape, hb4.output, hb4.size, hb4.block⟩); (have X4 := ((hb4').block k (by omega)).trans XW); (have Y4 := ((hb4').block (k + 1) (by omega)).trans YW); (have Z4 := ((hb4').block (k + 1 + 1) (by omega)).trans ZW); (have z4 : k + 1 + 1 < w4.heap.size := Nat.lt_of_lt_of_le zW (hb4').size); obtain ⟨⟨s0, s1, s2, _, _, _, s6⟩, _⟩ := blk7 X4; obtain ⟨⟨ss0, ss1, ss2, _, _, _, ss6⟩, _⟩ := blk7 Y4) | (go_at_call 37; refine (num_mul_any (w := w4) (num_small w4 3 m (by omega) (by omega)) N4 (by decide) (by decide) (by decide)).mono ?_; rintro e w5 ⟨v5, rfl, N5, hb5⟩; obtain ⟨V5, g5, p5, l5, c5, rfl⟩ := N5.parts; (have X5 := ((hb5).block k (by omega)).trans X4); (have Y5 := ((hb5).block (k + 1) (by omega)).trans Y4); (have Z5 := ((hb5).block (k + 1 + 1) (by omega)).trans Z4); (have z5 : k + 1 + 1 < w5.heap.size := Nat.lt_of_lt_of_le z4 (hb5).size); obtain ⟨⟨t0, t1, t2, _, _, _, t6⟩, _⟩ := blk7 X5; obtain ⟨⟨tt0, tt1, tt2, _, _, _, tt6⟩, _⟩ := blk7 Y5) | (go_at_call 41; refine (num_add (w := w5) (num_small w5 3 n (by omega) (by omega)) N5 (by decide) (by decide) (by decide)).mono ?_; rintro e w6 ⟨v6, rfl, N6, hb6⟩; obtain ⟨V6, g6, p6, l6, c6, rfl⟩ := N6.parts; (have X6 := ((hb6).block k (by omega)).trans X5); (have Y6 := ((hb6).block (k + 1) (by omega)).trans Y5); (have Z6 := ((hb6).block (k + 1 + 1) (by omega)).trans Z5); (have z6 : k + 1 + 1 < w6.heap.size := Nat.lt_of_lt_of_le z5 (hb6).size); obtain ⟨⟨u0, u1, u2, _, _, _, u6⟩, _⟩ := blk7 X6; obtain ⟨⟨uu0, uu1, uu2, _, _, _, uu6⟩, _⟩ := blk7 Y6) | (go_at_call 38; refine (zSmall 1 (by decide) (by decide) w6).mono ?_; rintro e w7 ⟨rfl, hb7⟩; (have X7 := ((hb7).block k (by omega)).trans X6); (have Y7 := ((hb7).block (k + 1) (by omega)).trans Y6); (have Z7 := ((hb7).block (k + 1 + 1) (by omega)).trans Z6); (have z7 : k + 1 + 1 < w7.heap.size := Nat.lt_of_lt_of_le z6 (hb7).size); obtain ⟨⟨v0, v1, v2, _, _, _, v6⟩, _⟩ := blk7 X7; obtain ⟨⟨vv0, vv1, vv2, _, _, _, vv6⟩, _⟩ := blk7 Y7; obtain ⟨⟨x0, x1, x2, x3, x4, x5, x6⟩, y0, y1, y2, y3, y4, y5, y6⟩ := blk7 Z7))
  all_goals go_wp2
  all_goals
    have bel := (((bW.trans (hb4'.mono bW.size)).trans (hb5.mono (Nat.le_trans bW.size hb4'.size))).trans (hb6.mono (Nat.le_trans bW.size (Nat.le_trans hb4'.size hb5.size)))).trans (hb7.mono (Nat.le_trans bW.size (Nat.le_trans hb4'.size (Nat.le_trans hb5.size hb6.size))))
    exact bodyPost_ret (v := .agg #[.int .i64 V6, .bool g6, .slice p6 l6 c6, .int .i64 1, .bool false, .slice none 0 0, .int .i64 q]) (by simp [results, Tryd.results33, go_sem, x0, x1, x2, x3, x4, x5, x6]) rfl ⟨V6, g6, p6, l6, c6, rfl, ((N6.next hb7).mono (by decide)).set7 x1 _ _ _ _ _ _ _, by repeat (first | (with_reducible exact bel) | (with_reducible refine Below.setCell ?_ (by first | omega | (simp; try omega)) _))⟩
end Go.Proofs.YtoloenkcfpfgcaaDoor
namespace Go.Proofs.YtoloenkcfpfgcaaDoor
open Go.ChangeShapes Go.WideShapes Go.ChangeAt Go.RowKit
set_option linter.unusedVariables false
theorem quot_g (A B : Nat) (E P : Int) : sa (A * 2 ^ E.toNat) P / sb (B * 2 ^ (-E).toNat) P = A * 2 ^ (E - P).toNat / (B * 2 ^ (P - E).toNat) ∧ (sa (A * 2 ^ E.toNat) P % sb (B * 2 ^ (-E).toNat) P = 0 ↔ A * 2 ^ (E - P).toNat % (B * 2 ^ (P - E).toNat) = 0) := by
  unfold sa sb
  obtain ⟨c, hc⟩ : ∃ c, E.toNat + (-P).toNat = (E - P).toNat + c := ⟨E.toNat + (-P).toNat - (E - P).toNat, by omega⟩
  have hc2 : (-E).toNat + P.toNat = (P - E).toNat + c := by omega
  have e1 : A * 2 ^ E.toNat * 2 ^ (-P).toNat = A * 2 ^ (E - P).toNat * 2 ^ c := by rw [Nat.mul_assoc, ← Nat.pow_add, hc, Nat.pow_add, Nat.mul_assoc]
  have e2 : B * 2 ^ (-E).toNat * 2 ^ P.toNat = B * 2 ^ (P - E).toNat * 2 ^ c := by rw [Nat.mul_assoc, ← Nat.pow_add, hc2, Nat.pow_add, Nat.mul_assoc]
  rw [e1, e2, Nat.mul_div_mul_right _ _ (p2 c), Nat.mul_mod_mul_right]
  refine ⟨rfl, ?_⟩
  rw [Nat.mul_eq_zero]
  have := p2 c
  omega
theorem sum_facts (nb ns : Bool) (B S : Nat) (pb ps : Int) (b0 : 0 < B) (b1 : B < 281474976710656) (s0 : 0 < S) (s1 : S < 281474976710656) (htop : (Lib.bitLen S : Int) + ps ≤ Lib.bitLen B + pb) (q0 : -1000 ≤ pb) (q1 : pb ≤ 700) (r0 : -1000 ≤ ps) (r1 : ps ≤ 700) (F : Int) (hF : F = pb ∧ pb ≤ ps ∨ F = ps ∧ ps ≤ pb) :
    ∃ (bl kp r : Nat) (P : Int) (more : Bool), (∀ v : World, Calls Tryd.prog 78 #[.agg #[.bool nb, .int .u64 (B : Int), .int .i64 pb, .bool false], .int .i64 62] v fun e w' => e = .returned (.agg #[.bool nb, .int .u64 (bl : Int), .int .i64 P, .bool false]) ∧ Below v.heap.size v w') ∧
      (∀ v : World, Calls Tryd.prog 85 #[.agg #[.bool ns, .int .u64 (S : Int), .int .i64 ps, .bool false], .int .i64 P] v fun e w' => e = .returned (.agg #[.bool ns, .int .u64 (kp : Int), .int .i64 P, .bool more]) ∧ Below v.heap.size v w') ∧
      2 ^ 61 ≤ bl ∧ bl < 2 ^ 62 ∧ kp < 2 ^ 62 ∧ (more = true → kp < 281474976710656) ∧ -2000 ≤ P ∧ P ≤ 700 ∧ more = decide (r ≠ 0) ∧ r < 2 ^ (P - F).toNat ∧
      B * 2 ^ (pb - F).toNat * 2 ^ (F - P).toNat = bl * 2 ^ (P - F).toNat ∧ S * 2 ^ (ps - F).toNat * 2 ^ (F - P).toNat = kp * 2 ^ (P - F).toNat + r := by
  obtain ⟨L0, lb0, lb1⟩ := bitLen_spec B (by omega) (by omega)
  have l48 := Lib.bitLen_le B 48 (by decide) (by omega)
  obtain ⟨M0, mb0, mb1⟩ := bitLen_spec S (by omega) (by omega)
  have m48 := Lib.bitLen_le S 48 (by decide) (by omega)
  obtain ⟨L, hL⟩ : ∃ L, Lib.bitLen B = L := ⟨_, rfl⟩
  obtain ⟨M, hM⟩ : ∃ M, Lib.bitLen S = M := ⟨_, rfl⟩
  rw [hL] at L0 lb0 lb1 l48 htop
  rw [hM] at M0 mb0 mb1 m48 htop
  obtain ⟨k, hk⟩ : ∃ k, L + k = 62 := ⟨62 - L, by omega⟩
  have Zlo : 2 ^ 61 ≤ B * 2 ^ k := by
    have h : 2 ^ (L - 1) * 2 ^ k ≤ B * 2 ^ k := Nat.mul_le_mul_right _ lb0
    rw [← Nat.pow_add, show L - 1 + k = 61 by omega] at h
    exact h
  have Zhi : B * 2 ^ k < 2 ^ 62 := by
    have h : B * 2 ^ k < 2 ^ L * 2 ^ k := Nat.mul_lt_mul_of_pos_right lb1 (p2 _)
    rw [← Nat.pow_add, hk] at h
    exact h
  obtain ⟨bl, hbl⟩ : ∃ Z, B * 2 ^ k = Z := ⟨_, rfl⟩
  rw [hbl] at Zlo Zhi
  obtain ⟨P, hP⟩ : ∃ P : Int, pb - (k : Int) = P := ⟨_, rfl⟩
  have HL : ∀ v : World, Calls Tryd.prog 78 #[.agg #[.bool nb, .int .u64 (B : Int), .int .i64 pb, .bool false], .int .i64 62] v fun e w' => e = .returned (.agg #[.bool nb, .int .u64 (bl : Int), .int .i64 P, .bool false]) ∧ Below v.heap.size v w' := by
    intro v
    have h := lift86 nb false (B : Int) pb (k : Int) (bl : Int) (L : Int) 62 v (by rw [show ((B : Nat) : Int).toNat = B by omega, hL]) (by omega) (by omega) (by omega) (by omega) (by omega) (by omega) (by omega) (by decide) (by rw [show ((k : Nat) : Int).toNat = k by omega, ← hbl]; exact (cast_pow B k).symm) (by omega) (by omega) (by omega) (by omega)
    rw [hP] at h
    exact h
  by_cases hc : P ≤ ps
  · obtain ⟨u, hu⟩ : ∃ u : Nat, ps - P = (u : Int) := ⟨(ps - P).toNat, by omega⟩
    have Khi : S * 2 ^ u < 2 ^ 62 := by
      have h : S * 2 ^ u < 2 ^ M * 2 ^ u := Nat.mul_lt_mul_of_pos_right mb1 (p2 _)
      rw [← Nat.pow_add] at h
      exact Nat.lt_of_lt_of_le h (Nat.pow_le_pow_right (by decide) (by omega))
    obtain ⟨kp, hkp⟩ : ∃ Z, S * 2 ^ u = Z := ⟨_, rfl⟩
    rw [hkp] at Khi
    refine ⟨bl, kp, 0, P, false, HL, fun v => ?_, Zlo, Zhi, Khi, by simp, by omega, by omega, by decide, p2 _, ?_, ?_⟩
    · exact lower99 ns (S : Int) ps P (P - ps) (kp : Int) 0 v rfl (by omega) (by omega) (by omega) (by omega) (fun v => by
        have h := cutBits_up ns (S : Int) ps (P - ps) false (by omega) (by omega) v
        rw [show (-(P - ps)).toNat = u by omega, ← cast_pow, hkp, Int.emod_eq_of_lt (by omega) (by omega)] at h
        exact h)
    · rw [show (P - F).toNat = 0 by omega, Nat.mul_assoc, ← Nat.pow_add, show (pb - F).toNat + (F - P).toNat = k by omega, hbl]; simp
    · rw [show (P - F).toNat = 0 by omega, Nat.mul_assoc, ← Nat.pow_add, show (ps - F).toNat + (F - P).toNat = u by omega, hkp]; simp
  · obtain ⟨d, hd⟩ : ∃ d : Nat, P - ps = (d : Int) := ⟨(P - ps).toNat, by omega⟩
    have hFp : F = ps := by omega
    have hkl : S / 2 ^ d ≤ S := Nat.div_le_self _ _
    have hr : S % 2 ^ d < 2 ^ d := Nat.mod_lt _ (p2 _)
    have hm : S / 2 ^ d * 2 ^ d + S % 2 ^ d = S := by rw [Nat.mul_comm]; exact Nat.div_add_mod S (2 ^ d)
    have k1 : (S : Int) / 2 ^ d = ((S / 2 ^ d : Nat) : Int) := by push_cast; rfl
    have k2 : (S : Int) % 2 ^ d = ((S % 2 ^ d : Nat) : Int) := by push_cast; rfl
    obtain ⟨kp, hkp⟩ : ∃ Z, S / 2 ^ d = Z := ⟨_, rfl⟩
    obtain ⟨r, hrr⟩ : ∃ Z, S % 2 ^ d = Z := ⟨_, rfl⟩
    rw [hkp] at hkl hm k1
    rw [hrr] at hr hm k2
    obtain ⟨c, hcc⟩ : ∃ c, cutI (r : Int) (2 ^ (d - 1)) false = c := ⟨_, rfl⟩
    have hmore : (c != 0) = decide (r ≠ 0) := by
      rw [← hcc]; unfold cutI
      by_cases z : r = 0
      · subst z; simp
      · rw [decide_eq_true z]
        repeat' split
        · omega
        all_goals decide
    refine ⟨bl, kp, r, P, decide (r ≠ 0), HL, fun v => ?_, Zlo, Zhi, by omega, fun _ => by omega, by omega, by omega, rfl, ?_, ?_, ?_⟩
    · have h := lower99 ns (S : Int) ps P (P - ps) (kp : Int) c v rfl (by omega) (by omega) (by omega) (by omega) (fun v => by
        have h := cutBits_dn ns (S : Int) ps (P - ps) false (by omega) (by omega) (by omega) (by omega) v
        rw [show (P - ps).toNat = d by omega, k1, k2, hcc] at h
        exact h)
      rw [hmore] at h
      exact h
    · rw [show (P - F).toNat = d by omega]; exact hr
    · rw [show (P - F).toNat = d by omega, show (F - P).toNat = 0 by omega, show (pb - F).toNat = k + d by omega, Nat.pow_add, ← Nat.mul_assoc, hbl]; simp
    · rw [show (P - F).toNat = d by omega, show (F - P).toNat = 0 by omega, show (ps - F).toNat = 0 by omega, hm]; simp
end Go.Proofs.YtoloenkcfpfgcaaDoor
