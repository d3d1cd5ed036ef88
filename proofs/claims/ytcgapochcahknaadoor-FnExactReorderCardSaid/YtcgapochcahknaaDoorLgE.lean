/- The model's question whether an instruction is as said, for some of the ops; conditions: n from 1 to 600, the bounds of a word. -/
import Derived.Test.YtcgapochcahknaaDoorLgm
namespace Go.Proofs.YtcgapochcahknaaDoor
open Go.ChangeShapes Go.WideShapes Go.ChangeAt Go.RowKit
set_option linter.unusedVariables false
set_option maxRecDepth 100000 in
set_option maxHeartbeats 4000000 in
theorem lg31_3 (d a b c x n : Int) (w : World) (x0 : 0 ≤ x) (x1 : x < 4294967296) (n0 : 1 ≤ n) (n1 : n ≤ 600) : Calls Tryd.prog 38 #[.agg #[.int .i64 3, .int .i64 d, .int .i64 a, .int .i64 b, .int .i64 c, .int .u32 x], .int .i64 n] w fun e w' => e = .returned (.bool (goodI 3 d a b c x n)) ∧ Below w.heap.size w w' := by
  have hf := fun v => fields47_3 v
  have hm := fun v => name51_3 v
  have BW : Below w.heap.size w (w.alloc (.cells #[.int .i64 3, .int .i64 d, .int .i64 a, .int .i64 b, .int .i64 c, .int .u32 x] 35)) := (Below.refl _ _).alloc (Nat.le_refl _) _
  have ql : w.heap.size < (w.alloc (.cells #[.int .i64 3, .int .i64 d, .int .i64 a, .int .i64 b, .int .i64 c, .int .u32 x] 35)).heap.size := by simp
  have HB : Hid (∀ v, Below (w.alloc (.cells #[.int .i64 3, .int .i64 d, .int .i64 a, .int .i64 b, .int .i64 c, .int .u32 x] 35)).heap.size (w.alloc (.cells #[.int .i64 3, .int .i64 d, .int .i64 a, .int .i64 b, .int .i64 c, .int .u32 x] 35)) v → Below w.heap.size w v) := fun v k => BW.trans (k.mono BW.size)
  have HC : Hid (∀ v, Below (w.alloc (.cells #[.int .i64 3, .int .i64 d, .int .i64 a, .int .i64 b, .int .i64 c, .int .u32 x] 35)).heap.size (w.alloc (.cells #[.int .i64 3, .int .i64 d, .int .i64 a, .int .i64 b, .int .i64 c, .int .u32 x] 35)) v → v.cell? ⟨w.heap.size, 0, none⟩ = some (.int .i64 3) ∧ v.cell? ⟨w.heap.size, 1, none⟩ = some (.int .i64 d) ∧ v.cell? ⟨w.heap.size, 2, none⟩ = some (.int .i64 a) ∧ v.cell? ⟨w.heap.size, 3, none⟩ = some (.int .i64 b) ∧ v.cell? ⟨w.heap.size, 4, none⟩ = some (.int .i64 c) ∧ v.cell? ⟨w.heap.size, 5, none⟩ = some (.int .u32 x)) := fun v k => ⟨(k.cell (p := ⟨w.heap.size, 0, none⟩) ql).trans (by simp), (k.cell (p := ⟨w.heap.size, 1, none⟩) ql).trans (by simp), (k.cell (p := ⟨w.heap.size, 2, none⟩) ql).trans (by simp), (k.cell (p := ⟨w.heap.size, 3, none⟩) ql).trans (by simp), (k.cell (p := ⟨w.heap.size, 4, none⟩) ql).trans (by simp), (k.cell (p := ⟨w.heap.size, 5, none⟩) ql).trans (by simp)⟩
  clear BW ql
  rw [goodI_3 d a b c x n x0 x1]
  have r0 := fun v => reg52 0 v
  rw [show rg 0 = true from rfl] at r0
  by_cases zc : c = 0
  case neg =>
    have yc : (c == 0) = false := by simpa using zc
    have nc : (c != 0) = true := by simp [zc]
    clear zc
    have HQ : Hid ((rg d && rg a && rg b && (c == 0) && decide (x ≤ 999) && signOk x) = false) := by show _ = _; simp [yc]
    rw [HQ.out]
    go_enter Tryd.func38, Tryd.ntmps38
    go_wp2_with (first | (go_at_call 67; refine (hf _).mono ?_; rintro e w0 ⟨rfl, hw⟩; subst w0) | (go_at_call 68; refine (hm _).mono ?_; rintro e w1 ⟨rfl, b1⟩; (obtain ⟨d0, d1, d2, d3, d4, d5⟩ := HC.out _ b1)))
    go_ret
    exact ⟨rfl, HB.out _ b1⟩
  subst zc
  by_cases zx : x ≤ 999
  case neg =>
    have nx : 999 < x := by omega
    have HQ : Hid ((rg d && rg a && rg b && ((0 : Int) == 0) && decide (x ≤ 999) && signOk x) = false) := by show _ = _; simp [zx]
    clear zx
    rw [HQ.out]
    go_enter Tryd.func38, Tryd.ntmps38
    go_wp2_with (first | (go_at_call 67; refine (hf _).mono ?_; rintro e w0 ⟨rfl, hw⟩; subst w0) | (go_at_call 68; refine (hm _).mono ?_; rintro e w1 ⟨rfl, b1⟩; (obtain ⟨d0, d1, d2, d3, d4, d5⟩ := HC.out _ b1)))
    go_ret
    exact ⟨rfl, HB.out _ b1⟩
  have zx1 : ¬ 999 < x := by omega
  have rd := fun v => reg52 d v
  have ra := fun v => reg52 a v
  have rb := fun v => reg52 b v
  cases hd : rg d
  case false =>
    rw [hd] at rd
    have HQ : Hid ((false && rg a && rg b && ((0 : Int) == 0) && decide (x ≤ 999) && signOk x) = false) := by show _ = _; simp
    rw [HQ.out]
    go_enter Tryd.func38, Tryd.ntmps38
    go_wp2_with (first | (go_at_call 67; refine (hf _).mono ?_; rintro e w0 ⟨rfl, hw⟩; subst w0) | (go_at_call 68; refine (hm _).mono ?_; rintro e w1 ⟨rfl, b1⟩; (obtain ⟨d0, d1, d2, d3, d4, d5⟩ := HC.out _ b1)) | (go_at_call 69; (with_reducible show Calls _ 69 #[.int .i64 d] _ _); refine (rd _).mono ?_; rintro e w2 ⟨rfl, hw⟩; subst w2) | (go_at_call 69; (with_reducible show Calls _ 69 #[.int .i64 a] _ _); refine (ra _).mono ?_; rintro e w2 ⟨rfl, hw⟩; subst w2) | (go_at_call 69; (with_reducible show Calls _ 69 #[.int .i64 b] _ _); refine (rb _).mono ?_; rintro e w2 ⟨rfl, hw⟩; subst w2) | (go_at_call 69; (with_reducible show Calls _ 69 #[.int .i64 0] _ _); refine (r0 _).mono ?_; rintro e w2 ⟨rfl, hw⟩; subst w2))
    go_ret
    exact ⟨rfl, HB.out _ b1⟩
  rw [hd] at rd
  clear hd
  cases ha : rg a
  case false =>
    rw [ha] at ra
    have HQ : Hid ((true && false && rg b && ((0 : Int) == 0) && decide (x ≤ 999) && signOk x) = false) := by show _ = _; simp
    rw [HQ.out]
    go_enter Tryd.func38, Tryd.ntmps38
    go_wp2_with (first | (go_at_call 67; refine (hf _).mono ?_; rintro e w0 ⟨rfl, hw⟩; subst w0) | (go_at_call 68; refine (hm _).mono ?_; rintro e w1 ⟨rfl, b1⟩; (obtain ⟨d0, d1, d2, d3, d4, d5⟩ := HC.out _ b1)) | (go_at_call 69; (with_reducible show Calls _ 69 #[.int .i64 d] _ _); refine (rd _).mono ?_; rintro e w2 ⟨rfl, hw⟩; subst w2) | (go_at_call 69; (with_reducible show Calls _ 69 #[.int .i64 a] _ _); refine (ra _).mono ?_; rintro e w2 ⟨rfl, hw⟩; subst w2) | (go_at_call 69; (with_reducible show Calls _ 69 #[.int .i64 b] _ _); refine (rb _).mono ?_; rintro e w2 ⟨rfl, hw⟩; subst w2) | (go_at_call 69; (with_reducible show Calls _ 69 #[.int .i64 0] _ _); refine (r0 _).mono ?_; rintro e w2 ⟨rfl, hw⟩; subst w2))
    go_ret
    exact ⟨rfl, HB.out _ b1⟩
  rw [ha] at ra
  clear ha
  cases hb : rg b
  case false =>
    rw [hb] at rb
    have HQ : Hid ((true && true && false && ((0 : Int) == 0) && decide (x ≤ 999) && signOk x) = false) := by show _ = _; simp
    rw [HQ.out]
    go_enter Tryd.func38, Tryd.ntmps38
    go_wp2_with (first | (go_at_call 67; refine (hf _).mono ?_; rintro e w0 ⟨rfl, hw⟩; subst w0) | (go_at_call 68; refine (hm _).mono ?_; rintro e w1 ⟨rfl, b1⟩; (obtain ⟨d0, d1, d2, d3, d4, d5⟩ := HC.out _ b1)) | (go_at_call 69; (with_reducible show Calls _ 69 #[.int .i64 d] _ _); refine (rd _).mono ?_; rintro e w2 ⟨rfl, hw⟩; subst w2) | (go_at_call 69; (with_reducible show Calls _ 69 #[.int .i64 a] _ _); refine (ra _).mono ?_; rintro e w2 ⟨rfl, hw⟩; subst w2) | (go_at_call 69; (with_reducible show Calls _ 69 #[.int .i64 b] _ _); refine (rb _).mono ?_; rintro e w2 ⟨rfl, hw⟩; subst w2) | (go_at_call 69; (with_reducible show Calls _ 69 #[.int .i64 0] _ _); refine (r0 _).mono ?_; rintro e w2 ⟨rfl, hw⟩; subst w2))
    go_ret
    exact ⟨rfl, HB.out _ b1⟩
  rw [hb] at rb
  clear hb
  have zx2 : 0 ≤ x / 4 := by omega
  have zx3 : x / 4 ≤ 249 := by omega
  have zx4 : 0 ≤ x % 4 := by omega
  have zx5 : x % 4 < 4 := by omega
  have hst := fun v => strong54 (sgnW x) v
  have HT : Hid (signOk x = (decide (0 < st (sgnW x)) && !(x % 4 == 0))) := rfl
  by_cases k30 : x / 4 < 30
  case neg =>
    have k31 : 30 ≤ x / 4 := by omega
    have HQ : Hid ((true && true && true && ((0 : Int) == 0) && decide (x ≤ 999) && signOk x) = false) := by
      show _ = _
      rw [HT.out, show st (sgnW x) = 0 by unfold sgnW; rw [textAt_beyond _ _ (by show 30 ≤ _; omega)]; exact st_empty]
      simp
    rw [HQ.out]
    go_enter Tryd.func38, Tryd.ntmps38
    go_wp2_with (first | (go_at_call 67; refine (hf _).mono ?_; rintro e w0 ⟨rfl, hw⟩; subst w0) | (go_at_call 68; refine (hm _).mono ?_; rintro e w1 ⟨rfl, b1⟩; (obtain ⟨d0, d1, d2, d3, d4, d5⟩ := HC.out _ b1)) | (go_at_call 69; (with_reducible show Calls _ 69 #[.int .i64 d] _ _); refine (rd _).mono ?_; rintro e w2 ⟨rfl, hw⟩; subst w2) | (go_at_call 69; (with_reducible show Calls _ 69 #[.int .i64 a] _ _); refine (ra _).mono ?_; rintro e w2 ⟨rfl, hw⟩; subst w2) | (go_at_call 69; (with_reducible show Calls _ 69 #[.int .i64 b] _ _); refine (rb _).mono ?_; rintro e w2 ⟨rfl, hw⟩; subst w2) | (go_at_call 69; (with_reducible show Calls _ 69 #[.int .i64 0] _ _); refine (r0 _).mono ?_; rintro e w2 ⟨rfl, hw⟩; subst w2) | (go_at_call 70; (with_reducible show Calls _ 70 #[] w1 _); refine (signs53 _).mono ?_; rintro e w3 ⟨rfl, O3, b3⟩))
    go_ret
    exact ⟨rfl, HB.out _ (b1.trans (b3.mono b1.size))⟩
  unfold sgnW at hst HT
  have HZ : Hid ((true && true && true && ((0 : Int) == 0) && decide (x ≤ 999) && signOk x) = (decide (0 < st (textAt signsL (x / 4).toNat)) && !(x % 4 == 0))) := by show _ = _; rw [HT.out]; simp [zx]
  clear HT
  generalize hsg : textAt signsL (x / 4).toNat = sg at hst HZ
  have HSG : Hid (textAt signsL (x / 4).toNat = sg) := hsg
  clear hsg
  generalize hZ : st sg = Z at hst HZ
  clear hZ
  by_cases zz : 0 < Z
  case neg =>
    have zz1 : Z ≤ 0 := by omega
    have HQ : Hid ((true && true && true && ((0 : Int) == 0) && decide (x ≤ 999) && signOk x) = false) := by show _ = _; rw [HZ.out]; simp [zz]
    rw [HQ.out]
    go_enter Tryd.func38, Tryd.ntmps38
    go_wp2_with (first | (go_at_call 67; refine (hf _).mono ?_; rintro e w0 ⟨rfl, hw⟩; subst w0) | (go_at_call 68; refine (hm _).mono ?_; rintro e w1 ⟨rfl, b1⟩; (obtain ⟨d0, d1, d2, d3, d4, d5⟩ := HC.out _ b1)) | (go_at_call 69; (with_reducible show Calls _ 69 #[.int .i64 d] _ _); refine (rd _).mono ?_; rintro e w2 ⟨rfl, hw⟩; subst w2) | (go_at_call 69; (with_reducible show Calls _ 69 #[.int .i64 a] _ _); refine (ra _).mono ?_; rintro e w2 ⟨rfl, hw⟩; subst w2) | (go_at_call 69; (with_reducible show Calls _ 69 #[.int .i64 b] _ _); refine (rb _).mono ?_; rintro e w2 ⟨rfl, hw⟩; subst w2) | (go_at_call 69; (with_reducible show Calls _ 69 #[.int .i64 0] _ _); refine (r0 _).mono ?_; rintro e w2 ⟨rfl, hw⟩; subst w2) | (go_at_call 70; (with_reducible show Calls _ 70 #[] w1 _); refine (signs53 _).mono ?_; rintro e w3 ⟨rfl, O3, b3⟩) | (go_at_call 70; (with_reducible show Calls _ 70 #[] w3 _); refine (signs53 _).mono ?_; rintro e w4 ⟨rfl, O4, b4⟩; (have cc : World.cell? w4 ⟨w3.heap.size, (x / 4).toNat, none⟩ = some (.string sg) := by rw [O4.cell (x / 4).toNat (by omega), HSG.out])) | (go_at_call 71; refine (hst _).mono ?_; rintro e w5 ⟨rfl, hw⟩; subst w5))
    go_ret
    exact ⟨rfl, HB.out _ ((b1.trans (b3.mono b1.size)).trans (b4.mono (by have := b1.size; have := b3.size; omega)))⟩
  have HQ : Hid ((true && true && true && ((0 : Int) == 0) && decide (x ≤ 999) && signOk x) = decide (0 < x % 4)) := by show _ = _; rw [HZ.out, decide_eq_true zz, Bool.true_and, Bool.eq_iff_iff]; simp; omega
  rw [HQ.out]
  go_enter Tryd.func38, Tryd.ntmps38
  go_wp2_with (first | (go_at_call 67; refine (hf _).mono ?_; rintro e w0 ⟨rfl, hw⟩; subst w0) | (go_at_call 68; refine (hm _).mono ?_; rintro e w1 ⟨rfl, b1⟩; (obtain ⟨d0, d1, d2, d3, d4, d5⟩ := HC.out _ b1)) | (go_at_call 69; (with_reducible show Calls _ 69 #[.int .i64 d] _ _); refine (rd _).mono ?_; rintro e w2 ⟨rfl, hw⟩; subst w2) | (go_at_call 69; (with_reducible show Calls _ 69 #[.int .i64 a] _ _); refine (ra _).mono ?_; rintro e w2 ⟨rfl, hw⟩; subst w2) | (go_at_call 69; (with_reducible show Calls _ 69 #[.int .i64 b] _ _); refine (rb _).mono ?_; rintro e w2 ⟨rfl, hw⟩; subst w2) | (go_at_call 69; (with_reducible show Calls _ 69 #[.int .i64 0] _ _); refine (r0 _).mono ?_; rintro e w2 ⟨rfl, hw⟩; subst w2) | (go_at_call 70; (with_reducible show Calls _ 70 #[] w1 _); refine (signs53 _).mono ?_; rintro e w3 ⟨rfl, O3, b3⟩) | (go_at_call 70; (with_reducible show Calls _ 70 #[] w3 _); refine (signs53 _).mono ?_; rintro e w4 ⟨rfl, O4, b4⟩; (have cc : World.cell? w4 ⟨w3.heap.size, (x / 4).toNat, none⟩ = some (.string sg) := by rw [O4.cell (x / 4).toNat (by omega), HSG.out])) | (go_at_call 71; refine (hst _).mono ?_; rintro e w5 ⟨rfl, hw⟩; subst w5))
  go_ret
  exact ⟨rfl, HB.out _ ((b1.trans (b3.mono b1.size)).trans (b4.mono (by have := b1.size; have := b3.size; omega)))⟩
end Go.Proofs.YtcgapochcahknaaDoor
