/- The model's question whether an instruction is as said, for some of the ops; conditions: n from 1 to 600, the bounds of a word. -/
import Derived.Test.YtcgapochcahknaaDoorLgm
namespace Go.Proofs.YtcgapochcahknaaDoor
open Go.ChangeShapes Go.WideShapes Go.ChangeAt Go.RowKit
set_option linter.unusedVariables false
set_option maxRecDepth 100000 in
set_option maxHeartbeats 4000000 in
theorem lg31_6 (d a b c x n : Int) (w : World) (x0 : 0 ≤ x) (x1 : x < 4294967296) (n0 : 1 ≤ n) (n1 : n ≤ 600) : Calls Tryd.prog 38 #[.agg #[.int .i64 6, .int .i64 d, .int .i64 a, .int .i64 b, .int .i64 c, .int .u32 x], .int .i64 n] w fun e w' => e = .returned (.bool (goodI 6 d a b c x n)) ∧ Below w.heap.size w w' := by
  have hf := fun v => fields47_6 v
  have hm := fun v => name51_6 v
  have BW : Below w.heap.size w (w.alloc (.cells #[.int .i64 6, .int .i64 d, .int .i64 a, .int .i64 b, .int .i64 c, .int .u32 x] 35)) := (Below.refl _ _).alloc (Nat.le_refl _) _
  have ql : w.heap.size < (w.alloc (.cells #[.int .i64 6, .int .i64 d, .int .i64 a, .int .i64 b, .int .i64 c, .int .u32 x] 35)).heap.size := by simp
  have HB : Hid (∀ v, Below (w.alloc (.cells #[.int .i64 6, .int .i64 d, .int .i64 a, .int .i64 b, .int .i64 c, .int .u32 x] 35)).heap.size (w.alloc (.cells #[.int .i64 6, .int .i64 d, .int .i64 a, .int .i64 b, .int .i64 c, .int .u32 x] 35)) v → Below w.heap.size w v) := fun v k => BW.trans (k.mono BW.size)
  have HC : Hid (∀ v, Below (w.alloc (.cells #[.int .i64 6, .int .i64 d, .int .i64 a, .int .i64 b, .int .i64 c, .int .u32 x] 35)).heap.size (w.alloc (.cells #[.int .i64 6, .int .i64 d, .int .i64 a, .int .i64 b, .int .i64 c, .int .u32 x] 35)) v → v.cell? ⟨w.heap.size, 0, none⟩ = some (.int .i64 6) ∧ v.cell? ⟨w.heap.size, 1, none⟩ = some (.int .i64 d) ∧ v.cell? ⟨w.heap.size, 2, none⟩ = some (.int .i64 a) ∧ v.cell? ⟨w.heap.size, 3, none⟩ = some (.int .i64 b) ∧ v.cell? ⟨w.heap.size, 4, none⟩ = some (.int .i64 c) ∧ v.cell? ⟨w.heap.size, 5, none⟩ = some (.int .u32 x)) := fun v k => ⟨(k.cell (p := ⟨w.heap.size, 0, none⟩) ql).trans (by simp), (k.cell (p := ⟨w.heap.size, 1, none⟩) ql).trans (by simp), (k.cell (p := ⟨w.heap.size, 2, none⟩) ql).trans (by simp), (k.cell (p := ⟨w.heap.size, 3, none⟩) ql).trans (by simp), (k.cell (p := ⟨w.heap.size, 4, none⟩) ql).trans (by simp), (k.cell (p := ⟨w.heap.size, 5, none⟩) ql).trans (by simp)⟩
  clear BW ql
  rw [goodI_6 d a b c x n x0 x1]
  have r0 := fun v => reg52 0 v
  rw [show rg 0 = true from rfl] at r0
  by_cases zb : b = 0
  case neg =>
    have yb : (b == 0) = false := by simpa using zb
    have nb : (b != 0) = true := by simp [zb]
    clear zb
    have HQ : Hid ((rg d && rg a && (b == 0) && (c == 0) && decide (x ≤ 999)) = false) := by show _ = _; simp [yb]
    rw [HQ.out]
    go_enter Tryd.func38, Tryd.ntmps38
    go_wp2_with (first | (go_at_call 67; refine (hf _).mono ?_; rintro e w0 ⟨rfl, hw⟩; subst w0) | (go_at_call 68; refine (hm _).mono ?_; rintro e w1 ⟨rfl, b1⟩; (obtain ⟨d0, d1, d2, d3, d4, d5⟩ := HC.out _ b1)))
    go_ret
    exact ⟨rfl, HB.out _ b1⟩
  subst zb
  by_cases zc : c = 0
  case neg =>
    have yc : (c == 0) = false := by simpa using zc
    have nc : (c != 0) = true := by simp [zc]
    clear zc
    have HQ : Hid ((rg d && rg a && ((0 : Int) == 0) && (c == 0) && decide (x ≤ 999)) = false) := by show _ = _; simp [yc]
    rw [HQ.out]
    go_enter Tryd.func38, Tryd.ntmps38
    go_wp2_with (first | (go_at_call 67; refine (hf _).mono ?_; rintro e w0 ⟨rfl, hw⟩; subst w0) | (go_at_call 68; refine (hm _).mono ?_; rintro e w1 ⟨rfl, b1⟩; (obtain ⟨d0, d1, d2, d3, d4, d5⟩ := HC.out _ b1)))
    go_ret
    exact ⟨rfl, HB.out _ b1⟩
  subst zc
  by_cases zx : x ≤ 999
  case neg =>
    have nx : 999 < x := by omega
    have HQ : Hid ((rg d && rg a && ((0 : Int) == 0) && ((0 : Int) == 0) && decide (x ≤ 999)) = false) := by show _ = _; simp [zx]
    clear zx
    rw [HQ.out]
    go_enter Tryd.func38, Tryd.ntmps38
    go_wp2_with (first | (go_at_call 67; refine (hf _).mono ?_; rintro e w0 ⟨rfl, hw⟩; subst w0) | (go_at_call 68; refine (hm _).mono ?_; rintro e w1 ⟨rfl, b1⟩; (obtain ⟨d0, d1, d2, d3, d4, d5⟩ := HC.out _ b1)))
    go_ret
    exact ⟨rfl, HB.out _ b1⟩
  have zx1 : ¬ 999 < x := by omega
  have rd := fun v => reg52 d v
  have ra := fun v => reg52 a v
  cases hd : rg d
  case false =>
    rw [hd] at rd
    have HQ : Hid ((false && rg a && ((0 : Int) == 0) && ((0 : Int) == 0) && decide (x ≤ 999)) = false) := by show _ = _; simp
    rw [HQ.out]
    go_enter Tryd.func38, Tryd.ntmps38
    go_wp2_with (first | (go_at_call 67; refine (hf _).mono ?_; rintro e w0 ⟨rfl, hw⟩; subst w0) | (go_at_call 68; refine (hm _).mono ?_; rintro e w1 ⟨rfl, b1⟩; (obtain ⟨d0, d1, d2, d3, d4, d5⟩ := HC.out _ b1)) | (go_at_call 69; (with_reducible show Calls _ 69 #[.int .i64 d] _ _); refine (rd _).mono ?_; rintro e w2 ⟨rfl, hw⟩; subst w2) | (go_at_call 69; (with_reducible show Calls _ 69 #[.int .i64 a] _ _); refine (ra _).mono ?_; rintro e w2 ⟨rfl, hw⟩; subst w2) | (go_at_call 69; (with_reducible show Calls _ 69 #[.int .i64 0] _ _); refine (r0 _).mono ?_; rintro e w2 ⟨rfl, hw⟩; subst w2))
    go_ret
    exact ⟨rfl, HB.out _ b1⟩
  rw [hd] at rd
  clear hd
  cases ha : rg a
  case false =>
    rw [ha] at ra
    have HQ : Hid ((true && false && ((0 : Int) == 0) && ((0 : Int) == 0) && decide (x ≤ 999)) = false) := by show _ = _; simp
    rw [HQ.out]
    go_enter Tryd.func38, Tryd.ntmps38
    go_wp2_with (first | (go_at_call 67; refine (hf _).mono ?_; rintro e w0 ⟨rfl, hw⟩; subst w0) | (go_at_call 68; refine (hm _).mono ?_; rintro e w1 ⟨rfl, b1⟩; (obtain ⟨d0, d1, d2, d3, d4, d5⟩ := HC.out _ b1)) | (go_at_call 69; (with_reducible show Calls _ 69 #[.int .i64 d] _ _); refine (rd _).mono ?_; rintro e w2 ⟨rfl, hw⟩; subst w2) | (go_at_call 69; (with_reducible show Calls _ 69 #[.int .i64 a] _ _); refine (ra _).mono ?_; rintro e w2 ⟨rfl, hw⟩; subst w2) | (go_at_call 69; (with_reducible show Calls _ 69 #[.int .i64 0] _ _); refine (r0 _).mono ?_; rintro e w2 ⟨rfl, hw⟩; subst w2))
    go_ret
    exact ⟨rfl, HB.out _ b1⟩
  rw [ha] at ra
  clear ha
  have HQ : Hid ((true && true && ((0 : Int) == 0) && ((0 : Int) == 0) && decide (x ≤ 999)) = true) := by show _ = _; simp [zx]
  rw [HQ.out]
  go_enter Tryd.func38, Tryd.ntmps38
  go_wp2_with (first | (go_at_call 67; refine (hf _).mono ?_; rintro e w0 ⟨rfl, hw⟩; subst w0) | (go_at_call 68; refine (hm _).mono ?_; rintro e w1 ⟨rfl, b1⟩; (obtain ⟨d0, d1, d2, d3, d4, d5⟩ := HC.out _ b1)) | (go_at_call 69; (with_reducible show Calls _ 69 #[.int .i64 d] _ _); refine (rd _).mono ?_; rintro e w2 ⟨rfl, hw⟩; subst w2) | (go_at_call 69; (with_reducible show Calls _ 69 #[.int .i64 a] _ _); refine (ra _).mono ?_; rintro e w2 ⟨rfl, hw⟩; subst w2) | (go_at_call 69; (with_reducible show Calls _ 69 #[.int .i64 0] _ _); refine (r0 _).mono ?_; rintro e w2 ⟨rfl, hw⟩; subst w2))
  go_ret
  exact ⟨rfl, HB.out _ b1⟩
set_option maxRecDepth 100000 in
set_option maxHeartbeats 4000000 in
theorem lg31_7 (d a b c x n : Int) (w : World) (x0 : 0 ≤ x) (x1 : x < 4294967296) (n0 : 1 ≤ n) (n1 : n ≤ 600) : Calls Tryd.prog 38 #[.agg #[.int .i64 7, .int .i64 d, .int .i64 a, .int .i64 b, .int .i64 c, .int .u32 x], .int .i64 n] w fun e w' => e = .returned (.bool (goodI 7 d a b c x n)) ∧ Below w.heap.size w w' := by
  have hf := fun v => fields47_7 v
  have hm := fun v => name51_7 v
  have BW : Below w.heap.size w (w.alloc (.cells #[.int .i64 7, .int .i64 d, .int .i64 a, .int .i64 b, .int .i64 c, .int .u32 x] 35)) := (Below.refl _ _).alloc (Nat.le_refl _) _
  have ql : w.heap.size < (w.alloc (.cells #[.int .i64 7, .int .i64 d, .int .i64 a, .int .i64 b, .int .i64 c, .int .u32 x] 35)).heap.size := by simp
  have HB : Hid (∀ v, Below (w.alloc (.cells #[.int .i64 7, .int .i64 d, .int .i64 a, .int .i64 b, .int .i64 c, .int .u32 x] 35)).heap.size (w.alloc (.cells #[.int .i64 7, .int .i64 d, .int .i64 a, .int .i64 b, .int .i64 c, .int .u32 x] 35)) v → Below w.heap.size w v) := fun v k => BW.trans (k.mono BW.size)
  have HC : Hid (∀ v, Below (w.alloc (.cells #[.int .i64 7, .int .i64 d, .int .i64 a, .int .i64 b, .int .i64 c, .int .u32 x] 35)).heap.size (w.alloc (.cells #[.int .i64 7, .int .i64 d, .int .i64 a, .int .i64 b, .int .i64 c, .int .u32 x] 35)) v → v.cell? ⟨w.heap.size, 0, none⟩ = some (.int .i64 7) ∧ v.cell? ⟨w.heap.size, 1, none⟩ = some (.int .i64 d) ∧ v.cell? ⟨w.heap.size, 2, none⟩ = some (.int .i64 a) ∧ v.cell? ⟨w.heap.size, 3, none⟩ = some (.int .i64 b) ∧ v.cell? ⟨w.heap.size, 4, none⟩ = some (.int .i64 c) ∧ v.cell? ⟨w.heap.size, 5, none⟩ = some (.int .u32 x)) := fun v k => ⟨(k.cell (p := ⟨w.heap.size, 0, none⟩) ql).trans (by simp), (k.cell (p := ⟨w.heap.size, 1, none⟩) ql).trans (by simp), (k.cell (p := ⟨w.heap.size, 2, none⟩) ql).trans (by simp), (k.cell (p := ⟨w.heap.size, 3, none⟩) ql).trans (by simp), (k.cell (p := ⟨w.heap.size, 4, none⟩) ql).trans (by simp), (k.cell (p := ⟨w.heap.size, 5, none⟩) ql).trans (by simp)⟩
  clear BW ql
  rw [goodI_7 d a b c x n x0 x1]
  have r0 := fun v => reg52 0 v
  rw [show rg 0 = true from rfl] at r0
  by_cases zd : d = 0
  case neg =>
    have yd : (d == 0) = false := by simpa using zd
    have nd : (d != 0) = true := by simp [zd]
    clear zd
    have HQ : Hid (((d == 0) && rg a && rg b && (c == 0) && decide (x ≤ 999)) = false) := by show _ = _; simp [yd]
    rw [HQ.out]
    go_enter Tryd.func38, Tryd.ntmps38
    go_wp2_with (first | (go_at_call 67; refine (hf _).mono ?_; rintro e w0 ⟨rfl, hw⟩; subst w0) | (go_at_call 68; refine (hm _).mono ?_; rintro e w1 ⟨rfl, b1⟩; (obtain ⟨d0, d1, d2, d3, d4, d5⟩ := HC.out _ b1)))
    go_ret
    exact ⟨rfl, HB.out _ b1⟩
  subst zd
  by_cases zc : c = 0
  case neg =>
    have yc : (c == 0) = false := by simpa using zc
    have nc : (c != 0) = true := by simp [zc]
    clear zc
    have HQ : Hid ((((0 : Int) == 0) && rg a && rg b && (c == 0) && decide (x ≤ 999)) = false) := by show _ = _; simp [yc]
    rw [HQ.out]
    go_enter Tryd.func38, Tryd.ntmps38
    go_wp2_with (first | (go_at_call 67; refine (hf _).mono ?_; rintro e w0 ⟨rfl, hw⟩; subst w0) | (go_at_call 68; refine (hm _).mono ?_; rintro e w1 ⟨rfl, b1⟩; (obtain ⟨d0, d1, d2, d3, d4, d5⟩ := HC.out _ b1)))
    go_ret
    exact ⟨rfl, HB.out _ b1⟩
  subst zc
  by_cases zx : x ≤ 999
  case neg =>
    have nx : 999 < x := by omega
    have HQ : Hid ((((0 : Int) == 0) && rg a && rg b && ((0 : Int) == 0) && decide (x ≤ 999)) = false) := by show _ = _; simp [zx]
    clear zx
    rw [HQ.out]
    go_enter Tryd.func38, Tryd.ntmps38
    go_wp2_with (first | (go_at_call 67; refine (hf _).mono ?_; rintro e w0 ⟨rfl, hw⟩; subst w0) | (go_at_call 68; refine (hm _).mono ?_; rintro e w1 ⟨rfl, b1⟩; (obtain ⟨d0, d1, d2, d3, d4, d5⟩ := HC.out _ b1)))
    go_ret
    exact ⟨rfl, HB.out _ b1⟩
  have zx1 : ¬ 999 < x := by omega
  have ra := fun v => reg52 a v
  have rb := fun v => reg52 b v
  cases ha : rg a
  case false =>
    rw [ha] at ra
    have HQ : Hid ((((0 : Int) == 0) && false && rg b && ((0 : Int) == 0) && decide (x ≤ 999)) = false) := by show _ = _; simp
    rw [HQ.out]
    go_enter Tryd.func38, Tryd.ntmps38
    go_wp2_with (first | (go_at_call 67; refine (hf _).mono ?_; rintro e w0 ⟨rfl, hw⟩; subst w0) | (go_at_call 68; refine (hm _).mono ?_; rintro e w1 ⟨rfl, b1⟩; (obtain ⟨d0, d1, d2, d3, d4, d5⟩ := HC.out _ b1)) | (go_at_call 69; (with_reducible show Calls _ 69 #[.int .i64 a] _ _); refine (ra _).mono ?_; rintro e w2 ⟨rfl, hw⟩; subst w2) | (go_at_call 69; (with_reducible show Calls _ 69 #[.int .i64 b] _ _); refine (rb _).mono ?_; rintro e w2 ⟨rfl, hw⟩; subst w2) | (go_at_call 69; (with_reducible show Calls _ 69 #[.int .i64 0] _ _); refine (r0 _).mono ?_; rintro e w2 ⟨rfl, hw⟩; subst w2))
    go_ret
    exact ⟨rfl, HB.out _ b1⟩
  rw [ha] at ra
  clear ha
  cases hb : rg b
  case false =>
    rw [hb] at rb
    have HQ : Hid ((((0 : Int) == 0) && true && false && ((0 : Int) == 0) && decide (x ≤ 999)) = false) := by show _ = _; simp
    rw [HQ.out]
    go_enter Tryd.func38, Tryd.ntmps38
    go_wp2_with (first | (go_at_call 67; refine (hf _).mono ?_; rintro e w0 ⟨rfl, hw⟩; subst w0) | (go_at_call 68; refine (hm _).mono ?_; rintro e w1 ⟨rfl, b1⟩; (obtain ⟨d0, d1, d2, d3, d4, d5⟩ := HC.out _ b1)) | (go_at_call 69; (with_reducible show Calls _ 69 #[.int .i64 a] _ _); refine (ra _).mono ?_; rintro e w2 ⟨rfl, hw⟩; subst w2) | (go_at_call 69; (with_reducible show Calls _ 69 #[.int .i64 b] _ _); refine (rb _).mono ?_; rintro e w2 ⟨rfl, hw⟩; subst w2) | (go_at_call 69; (with_reducible show Calls _ 69 #[.int .i64 0] _ _); refine (r0 _).mono ?_; rintro e w2 ⟨rfl, hw⟩; subst w2))
    go_ret
    exact ⟨rfl, HB.out _ b1⟩
  rw [hb] at rb
  clear hb
  have HQ : Hid ((((0 : Int) == 0) && true && true && ((0 : Int) == 0) && decide (x ≤ 999)) = true) := by show _ = _; simp [zx]
  rw [HQ.out]
  go_enter Tryd.func38, Tryd.ntmps38
  go_wp2_with (first | (go_at_call 67; refine (hf _).mono ?_; rintro e w0 ⟨rfl, hw⟩; subst w0) | (go_at_call 68; refine (hm _).mono ?_; rintro e w1 ⟨rfl, b1⟩; (obtain ⟨d0, d1, d2, d3, d4, d5⟩ := HC.out _ b1)) | (go_at_call 69; (with_reducible show Calls _ 69 #[.int .i64 a] _ _); refine (ra _).mono ?_; rintro e w2 ⟨rfl, hw⟩; subst w2) | (go_at_call 69; (with_reducible show Calls _ 69 #[.int .i64 b] _ _); refine (rb _).mono ?_; rintro e w2 ⟨rfl, hw⟩; subst w2) | (go_at_call 69; (with_reducible show Calls _ 69 #[.int .i64 0] _ _); refine (r0 _).mono ?_; rintro e w2 ⟨rfl, hw⟩; subst w2))
  go_ret
  exact ⟨rfl, HB.out _ b1⟩
set_option maxRecDepth 100000 in
set_option maxHeartbeats 4000000 in
theorem lg31_8 (d a b c x n : Int) (w : World) (x0 : 0 ≤ x) (x1 : x < 4294967296) (n0 : 1 ≤ n) (n1 : n ≤ 600) : Calls Tryd.prog 38 #[.agg #[.int .i64 8, .int .i64 d, .int .i64 a, .int .i64 b, .int .i64 c, .int .u32 x], .int .i64 n] w fun e w' => e = .returned (.bool (goodI 8 d a b c x n)) ∧ Below w.heap.size w w' := by
  have hf := fun v => fields47_8 v
  have hm := fun v => name51_8 v
  have BW : Below w.heap.size w (w.alloc (.cells #[.int .i64 8, .int .i64 d, .int .i64 a, .int .i64 b, .int .i64 c, .int .u32 x] 35)) := (Below.refl _ _).alloc (Nat.le_refl _) _
  have ql : w.heap.size < (w.alloc (.cells #[.int .i64 8, .int .i64 d, .int .i64 a, .int .i64 b, .int .i64 c, .int .u32 x] 35)).heap.size := by simp
  have HB : Hid (∀ v, Below (w.alloc (.cells #[.int .i64 8, .int .i64 d, .int .i64 a, .int .i64 b, .int .i64 c, .int .u32 x] 35)).heap.size (w.alloc (.cells #[.int .i64 8, .int .i64 d, .int .i64 a, .int .i64 b, .int .i64 c, .int .u32 x] 35)) v → Below w.heap.size w v) := fun v k => BW.trans (k.mono BW.size)
  have HC : Hid (∀ v, Below (w.alloc (.cells #[.int .i64 8, .int .i64 d, .int .i64 a, .int .i64 b, .int .i64 c, .int .u32 x] 35)).heap.size (w.alloc (.cells #[.int .i64 8, .int .i64 d, .int .i64 a, .int .i64 b, .int .i64 c, .int .u32 x] 35)) v → v.cell? ⟨w.heap.size, 0, none⟩ = some (.int .i64 8) ∧ v.cell? ⟨w.heap.size, 1, none⟩ = some (.int .i64 d) ∧ v.cell? ⟨w.heap.size, 2, none⟩ = some (.int .i64 a) ∧ v.cell? ⟨w.heap.size, 3, none⟩ = some (.int .i64 b) ∧ v.cell? ⟨w.heap.size, 4, none⟩ = some (.int .i64 c) ∧ v.cell? ⟨w.heap.size, 5, none⟩ = some (.int .u32 x)) := fun v k => ⟨(k.cell (p := ⟨w.heap.size, 0, none⟩) ql).trans (by simp), (k.cell (p := ⟨w.heap.size, 1, none⟩) ql).trans (by simp), (k.cell (p := ⟨w.heap.size, 2, none⟩) ql).trans (by simp), (k.cell (p := ⟨w.heap.size, 3, none⟩) ql).trans (by simp), (k.cell (p := ⟨w.heap.size, 4, none⟩) ql).trans (by simp), (k.cell (p := ⟨w.heap.size, 5, none⟩) ql).trans (by simp)⟩
  clear BW ql
  rw [goodI_8 d a b c x n x0 x1]
  have r0 := fun v => reg52 0 v
  rw [show rg 0 = true from rfl] at r0
  by_cases zd : d = 0
  case neg =>
    have yd : (d == 0) = false := by simpa using zd
    have nd : (d != 0) = true := by simp [zd]
    clear zd
    have HQ : Hid (((d == 0) && inB a (n - 1) && (b == 0) && (c == 0) && (x == 0)) = false) := by show _ = _; simp [yd]
    rw [HQ.out]
    go_enter Tryd.func38, Tryd.ntmps38
    go_wp2_with (first | (go_at_call 67; refine (hf _).mono ?_; rintro e w0 ⟨rfl, hw⟩; subst w0) | (go_at_call 68; refine (hm _).mono ?_; rintro e w1 ⟨rfl, b1⟩; (obtain ⟨d0, d1, d2, d3, d4, d5⟩ := HC.out _ b1)))
    go_ret
    exact ⟨rfl, HB.out _ b1⟩
  subst zd
  by_cases zb : b = 0
  case neg =>
    have yb : (b == 0) = false := by simpa using zb
    have nb : (b != 0) = true := by simp [zb]
    clear zb
    have HQ : Hid ((((0 : Int) == 0) && inB a (n - 1) && (b == 0) && (c == 0) && (x == 0)) = false) := by show _ = _; simp [yb]
    rw [HQ.out]
    go_enter Tryd.func38, Tryd.ntmps38
    go_wp2_with (first | (go_at_call 67; refine (hf _).mono ?_; rintro e w0 ⟨rfl, hw⟩; subst w0) | (go_at_call 68; refine (hm _).mono ?_; rintro e w1 ⟨rfl, b1⟩; (obtain ⟨d0, d1, d2, d3, d4, d5⟩ := HC.out _ b1)))
    go_ret
    exact ⟨rfl, HB.out _ b1⟩
  subst zb
  by_cases zc : c = 0
  case neg =>
    have yc : (c == 0) = false := by simpa using zc
    have nc : (c != 0) = true := by simp [zc]
    clear zc
    have HQ : Hid ((((0 : Int) == 0) && inB a (n - 1) && ((0 : Int) == 0) && (c == 0) && (x == 0)) = false) := by show _ = _; simp [yc]
    rw [HQ.out]
    go_enter Tryd.func38, Tryd.ntmps38
    go_wp2_with (first | (go_at_call 67; refine (hf _).mono ?_; rintro e w0 ⟨rfl, hw⟩; subst w0) | (go_at_call 68; refine (hm _).mono ?_; rintro e w1 ⟨rfl, b1⟩; (obtain ⟨d0, d1, d2, d3, d4, d5⟩ := HC.out _ b1)))
    go_ret
    exact ⟨rfl, HB.out _ b1⟩
  subst zc
  by_cases zx : x = 0
  case neg =>
    have yx : (x == 0) = false := by simpa using zx
    have nx : (x != 0) = true := by simp [zx]
    clear zx
    have HQ : Hid ((((0 : Int) == 0) && inB a (n - 1) && ((0 : Int) == 0) && ((0 : Int) == 0) && (x == 0)) = false) := by show _ = _; simp [yx]
    rw [HQ.out]
    go_enter Tryd.func38, Tryd.ntmps38
    go_wp2_with (first | (go_at_call 67; refine (hf _).mono ?_; rintro e w0 ⟨rfl, hw⟩; subst w0) | (go_at_call 68; refine (hm _).mono ?_; rintro e w1 ⟨rfl, b1⟩; (obtain ⟨d0, d1, d2, d3, d4, d5⟩ := HC.out _ b1)))
    go_ret
    exact ⟨rfl, HB.out _ b1⟩
  subst zx
  rw [inBn]
  by_cases a0 : 0 ≤ a
  case neg =>
    have a1 : a < 0 := by omega
    have HQ : Hid ((((0 : Int) == 0) && (decide (0 ≤ a) && decide (a < n)) && ((0 : Int) == 0) && ((0 : Int) == 0) && ((0 : Int) == 0)) = false) := by show _ = _; simp [a0]
    rw [HQ.out]
    go_enter Tryd.func38, Tryd.ntmps38
    go_wp2_with (first | (go_at_call 67; refine (hf _).mono ?_; rintro e w0 ⟨rfl, hw⟩; subst w0) | (go_at_call 68; refine (hm _).mono ?_; rintro e w1 ⟨rfl, b1⟩; (obtain ⟨d0, d1, d2, d3, d4, d5⟩ := HC.out _ b1)))
    go_ret
    exact ⟨rfl, HB.out _ b1⟩
  have HQ : Hid ((((0 : Int) == 0) && (decide (0 ≤ a) && decide (a < n)) && ((0 : Int) == 0) && ((0 : Int) == 0) && ((0 : Int) == 0)) = decide (a < n)) := by show _ = _; simp [a0]
  rw [HQ.out]
  go_enter Tryd.func38, Tryd.ntmps38
  go_wp2_with (first | (go_at_call 67; refine (hf _).mono ?_; rintro e w0 ⟨rfl, hw⟩; subst w0) | (go_at_call 68; refine (hm _).mono ?_; rintro e w1 ⟨rfl, b1⟩; (obtain ⟨d0, d1, d2, d3, d4, d5⟩ := HC.out _ b1)))
  go_ret
  exact ⟨rfl, HB.out _ b1⟩
end Go.Proofs.YtcgapochcahknaaDoor
