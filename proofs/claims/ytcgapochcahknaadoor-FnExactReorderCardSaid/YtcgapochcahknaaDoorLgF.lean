/- The model's question whether an instruction is as said, for some of the ops; conditions: n from 1 to 600, the bounds of a word. -/
import Derived.Test.YtcgapochcahknaaDoorLgm
namespace Go.Proofs.YtcgapochcahknaaDoor
open Go.ChangeShapes Go.WideShapes Go.ChangeAt Go.RowKit
set_option linter.unusedVariables false
set_option maxRecDepth 100000 in
set_option maxHeartbeats 4000000 in
theorem lg31_4 (d a b c x n : Int) (w : World) (x0 : 0 ≤ x) (x1 : x < 4294967296) (n0 : 1 ≤ n) (n1 : n ≤ 600) : Calls Tryd.prog 38 #[.agg #[.int .i64 4, .int .i64 d, .int .i64 a, .int .i64 b, .int .i64 c, .int .u32 x], .int .i64 n] w fun e w' => e = .returned (.bool (goodI 4 d a b c x n)) ∧ Below w.heap.size w w' := by
  have hf := fun v => fields47_4 v
  have hm := fun v => name51_4 v
  have BW : Below w.heap.size w (w.alloc (.cells #[.int .i64 4, .int .i64 d, .int .i64 a, .int .i64 b, .int .i64 c, .int .u32 x] 35)) := (Below.refl _ _).alloc (Nat.le_refl _) _
  have ql : w.heap.size < (w.alloc (.cells #[.int .i64 4, .int .i64 d, .int .i64 a, .int .i64 b, .int .i64 c, .int .u32 x] 35)).heap.size := by simp
  have HB : Hid (∀ v, Below (w.alloc (.cells #[.int .i64 4, .int .i64 d, .int .i64 a, .int .i64 b, .int .i64 c, .int .u32 x] 35)).heap.size (w.alloc (.cells #[.int .i64 4, .int .i64 d, .int .i64 a, .int .i64 b, .int .i64 c, .int .u32 x] 35)) v → Below w.heap.size w v) := fun v k => BW.trans (k.mono BW.size)
  have HC : Hid (∀ v, Below (w.alloc (.cells #[.int .i64 4, .int .i64 d, .int .i64 a, .int .i64 b, .int .i64 c, .int .u32 x] 35)).heap.size (w.alloc (.cells #[.int .i64 4, .int .i64 d, .int .i64 a, .int .i64 b, .int .i64 c, .int .u32 x] 35)) v → v.cell? ⟨w.heap.size, 0, none⟩ = some (.int .i64 4) ∧ v.cell? ⟨w.heap.size, 1, none⟩ = some (.int .i64 d) ∧ v.cell? ⟨w.heap.size, 2, none⟩ = some (.int .i64 a) ∧ v.cell? ⟨w.heap.size, 3, none⟩ = some (.int .i64 b) ∧ v.cell? ⟨w.heap.size, 4, none⟩ = some (.int .i64 c) ∧ v.cell? ⟨w.heap.size, 5, none⟩ = some (.int .u32 x)) := fun v k => ⟨(k.cell (p := ⟨w.heap.size, 0, none⟩) ql).trans (by simp), (k.cell (p := ⟨w.heap.size, 1, none⟩) ql).trans (by simp), (k.cell (p := ⟨w.heap.size, 2, none⟩) ql).trans (by simp), (k.cell (p := ⟨w.heap.size, 3, none⟩) ql).trans (by simp), (k.cell (p := ⟨w.heap.size, 4, none⟩) ql).trans (by simp), (k.cell (p := ⟨w.heap.size, 5, none⟩) ql).trans (by simp)⟩
  clear BW ql
  rw [goodI_4 d a b c x n x0 x1]
  have r0 := fun v => reg52 0 v
  rw [show rg 0 = true from rfl] at r0
  by_cases zx : x ≤ 999
  case neg =>
    have nx : 999 < x := by omega
    have HQ : Hid ((rg d && rg a && rg b && rg c && decide (x ≤ 999) && callOk a b c x) = false) := by show _ = _; simp [zx]
    clear zx
    rw [HQ.out]
    go_enter Tryd.func38, Tryd.ntmps38
    go_wp2_with (first | (go_at_call 67; refine (hf _).mono ?_; rintro e w0 ⟨rfl, hw⟩; subst w0) | (go_at_call 68; refine (hm _).mono ?_; rintro e w1 ⟨rfl, b1⟩; (obtain ⟨d0, d1, d2, d3, d4, d5⟩ := HC.out _ b1)))
    go_ret
    exact ⟨rfl, HB.out _ b1⟩
  have zx1 : ¬ 999 < x := by omega
  have rd := fun v => reg52 d v
  have ra := fun v => reg52 a v
  have rb := fun v => reg52 b v
  have rc := fun v => reg52 c v
  cases hd : rg d
  case false =>
    rw [hd] at rd
    have HQ : Hid ((false && rg a && rg b && rg c && decide (x ≤ 999) && callOk a b c x) = false) := by show _ = _; simp
    rw [HQ.out]
    go_enter Tryd.func38, Tryd.ntmps38
    go_wp2_with (first | (go_at_call 67; refine (hf _).mono ?_; rintro e w0 ⟨rfl, hw⟩; subst w0) | (go_at_call 68; refine (hm _).mono ?_; rintro e w1 ⟨rfl, b1⟩; (obtain ⟨d0, d1, d2, d3, d4, d5⟩ := HC.out _ b1)) | (go_at_call 69; (with_reducible show Calls _ 69 #[.int .i64 d] _ _); refine (rd _).mono ?_; rintro e w2 ⟨rfl, hw⟩; subst w2) | (go_at_call 69; (with_reducible show Calls _ 69 #[.int .i64 a] _ _); refine (ra _).mono ?_; rintro e w2 ⟨rfl, hw⟩; subst w2) | (go_at_call 69; (with_reducible show Calls _ 69 #[.int .i64 b] _ _); refine (rb _).mono ?_; rintro e w2 ⟨rfl, hw⟩; subst w2) | (go_at_call 69; (with_reducible show Calls _ 69 #[.int .i64 c] _ _); refine (rc _).mono ?_; rintro e w2 ⟨rfl, hw⟩; subst w2) | (go_at_call 69; (with_reducible show Calls _ 69 #[.int .i64 0] _ _); refine (r0 _).mono ?_; rintro e w2 ⟨rfl, hw⟩; subst w2))
    go_ret
    exact ⟨rfl, HB.out _ b1⟩
  rw [hd] at rd
  clear hd
  cases ha : rg a
  case false =>
    rw [ha] at ra
    have HQ : Hid ((true && false && rg b && rg c && decide (x ≤ 999) && callOk a b c x) = false) := by show _ = _; simp
    rw [HQ.out]
    go_enter Tryd.func38, Tryd.ntmps38
    go_wp2_with (first | (go_at_call 67; refine (hf _).mono ?_; rintro e w0 ⟨rfl, hw⟩; subst w0) | (go_at_call 68; refine (hm _).mono ?_; rintro e w1 ⟨rfl, b1⟩; (obtain ⟨d0, d1, d2, d3, d4, d5⟩ := HC.out _ b1)) | (go_at_call 69; (with_reducible show Calls _ 69 #[.int .i64 d] _ _); refine (rd _).mono ?_; rintro e w2 ⟨rfl, hw⟩; subst w2) | (go_at_call 69; (with_reducible show Calls _ 69 #[.int .i64 a] _ _); refine (ra _).mono ?_; rintro e w2 ⟨rfl, hw⟩; subst w2) | (go_at_call 69; (with_reducible show Calls _ 69 #[.int .i64 b] _ _); refine (rb _).mono ?_; rintro e w2 ⟨rfl, hw⟩; subst w2) | (go_at_call 69; (with_reducible show Calls _ 69 #[.int .i64 c] _ _); refine (rc _).mono ?_; rintro e w2 ⟨rfl, hw⟩; subst w2) | (go_at_call 69; (with_reducible show Calls _ 69 #[.int .i64 0] _ _); refine (r0 _).mono ?_; rintro e w2 ⟨rfl, hw⟩; subst w2))
    go_ret
    exact ⟨rfl, HB.out _ b1⟩
  rw [ha] at ra
  clear ha
  cases hb : rg b
  case false =>
    rw [hb] at rb
    have HQ : Hid ((true && true && false && rg c && decide (x ≤ 999) && callOk a b c x) = false) := by show _ = _; simp
    rw [HQ.out]
    go_enter Tryd.func38, Tryd.ntmps38
    go_wp2_with (first | (go_at_call 67; refine (hf _).mono ?_; rintro e w0 ⟨rfl, hw⟩; subst w0) | (go_at_call 68; refine (hm _).mono ?_; rintro e w1 ⟨rfl, b1⟩; (obtain ⟨d0, d1, d2, d3, d4, d5⟩ := HC.out _ b1)) | (go_at_call 69; (with_reducible show Calls _ 69 #[.int .i64 d] _ _); refine (rd _).mono ?_; rintro e w2 ⟨rfl, hw⟩; subst w2) | (go_at_call 69; (with_reducible show Calls _ 69 #[.int .i64 a] _ _); refine (ra _).mono ?_; rintro e w2 ⟨rfl, hw⟩; subst w2) | (go_at_call 69; (with_reducible show Calls _ 69 #[.int .i64 b] _ _); refine (rb _).mono ?_; rintro e w2 ⟨rfl, hw⟩; subst w2) | (go_at_call 69; (with_reducible show Calls _ 69 #[.int .i64 c] _ _); refine (rc _).mono ?_; rintro e w2 ⟨rfl, hw⟩; subst w2) | (go_at_call 69; (with_reducible show Calls _ 69 #[.int .i64 0] _ _); refine (r0 _).mono ?_; rintro e w2 ⟨rfl, hw⟩; subst w2))
    go_ret
    exact ⟨rfl, HB.out _ b1⟩
  rw [hb] at rb
  clear hb
  cases hc : rg c
  case false =>
    rw [hc] at rc
    have HQ : Hid ((true && true && true && false && decide (x ≤ 999) && callOk a b c x) = false) := by show _ = _; simp
    rw [HQ.out]
    go_enter Tryd.func38, Tryd.ntmps38
    go_wp2_with (first | (go_at_call 67; refine (hf _).mono ?_; rintro e w0 ⟨rfl, hw⟩; subst w0) | (go_at_call 68; refine (hm _).mono ?_; rintro e w1 ⟨rfl, b1⟩; (obtain ⟨d0, d1, d2, d3, d4, d5⟩ := HC.out _ b1)) | (go_at_call 69; (with_reducible show Calls _ 69 #[.int .i64 d] _ _); refine (rd _).mono ?_; rintro e w2 ⟨rfl, hw⟩; subst w2) | (go_at_call 69; (with_reducible show Calls _ 69 #[.int .i64 a] _ _); refine (ra _).mono ?_; rintro e w2 ⟨rfl, hw⟩; subst w2) | (go_at_call 69; (with_reducible show Calls _ 69 #[.int .i64 b] _ _); refine (rb _).mono ?_; rintro e w2 ⟨rfl, hw⟩; subst w2) | (go_at_call 69; (with_reducible show Calls _ 69 #[.int .i64 c] _ _); refine (rc _).mono ?_; rintro e w2 ⟨rfl, hw⟩; subst w2) | (go_at_call 69; (with_reducible show Calls _ 69 #[.int .i64 0] _ _); refine (r0 _).mono ?_; rintro e w2 ⟨rfl, hw⟩; subst w2))
    go_ret
    exact ⟨rfl, HB.out _ b1⟩
  rw [hc] at rc
  clear hc
  have zx2 : 0 ≤ x / 4 := by omega
  have zx3 : x / 4 ≤ 249 := by omega
  have zx4 : 0 ≤ x % 4 := by omega
  have zx5 : x % 4 < 4 := by omega
  have har := fun v => arity56 (calW x) v
  have HT : Hid (callOk a b c x = (decide (1 ≤ ar (calW x)) && (x % 4 == 1 || x % 4 == 2) && (decide (1 < ar (calW x)) || b == 0) && (decide (2 < ar (calW x)) || c == 0))) := rfl
  by_cases k11 : x / 4 < 11
  case neg =>
    have k12 : 11 ≤ x / 4 := by omega
    have HQ : Hid ((true && true && true && true && decide (x ≤ 999) && callOk a b c x) = false) := by
      show _ = _
      rw [HT.out, show ar (calW x) = -1 by unfold calW; rw [textAt_beyond _ _ (by show 11 ≤ _; omega)]; exact ar_empty]
      simp
    rw [HQ.out]
    go_enter Tryd.func38, Tryd.ntmps38
    go_wp2_with (first | (go_at_call 67; refine (hf _).mono ?_; rintro e w0 ⟨rfl, hw⟩; subst w0) | (go_at_call 68; refine (hm _).mono ?_; rintro e w1 ⟨rfl, b1⟩; (obtain ⟨d0, d1, d2, d3, d4, d5⟩ := HC.out _ b1)) | (go_at_call 69; (with_reducible show Calls _ 69 #[.int .i64 d] _ _); refine (rd _).mono ?_; rintro e w2 ⟨rfl, hw⟩; subst w2) | (go_at_call 69; (with_reducible show Calls _ 69 #[.int .i64 a] _ _); refine (ra _).mono ?_; rintro e w2 ⟨rfl, hw⟩; subst w2) | (go_at_call 69; (with_reducible show Calls _ 69 #[.int .i64 b] _ _); refine (rb _).mono ?_; rintro e w2 ⟨rfl, hw⟩; subst w2) | (go_at_call 69; (with_reducible show Calls _ 69 #[.int .i64 c] _ _); refine (rc _).mono ?_; rintro e w2 ⟨rfl, hw⟩; subst w2) | (go_at_call 69; (with_reducible show Calls _ 69 #[.int .i64 0] _ _); refine (r0 _).mono ?_; rintro e w2 ⟨rfl, hw⟩; subst w2) | (go_at_call 61; (with_reducible show Calls _ 61 #[] w1 _); refine (calls55 _).mono ?_; rintro e w3 ⟨rfl, O3, b3⟩; (obtain ⟨e0, e1, e2, e3, e4, e5⟩ := HC.out _ (b1.trans (b3.mono b1.size)))))
    go_ret
    exact ⟨rfl, HB.out _ (b1.trans (b3.mono b1.size))⟩
  have k11' : ¬ 11 ≤ x / 4 := by omega
  unfold calW at har HT
  have hle := ar_le (textAt callsL (x / 4).toNat)
  have HZ : Hid ((true && true && true && true && decide (x ≤ 999) && callOk a b c x) = (decide (1 ≤ ar (textAt callsL (x / 4).toNat)) && (x % 4 == 1 || x % 4 == 2) && (decide (1 < ar (textAt callsL (x / 4).toNat)) || b == 0) && (decide (2 < ar (textAt callsL (x / 4).toNat)) || c == 0))) := by show _ = _; rw [HT.out]; simp [zx]
  clear HT
  generalize hsg : textAt callsL (x / 4).toNat = sg at har HZ hle
  have HSG : Hid (textAt callsL (x / 4).toNat = sg) := hsg
  clear hsg
  generalize hZ : ar sg = Z at har HZ hle
  clear hZ
  rcases (by omega : x % 4 = 0 ∨ x % 4 = 3 ∨ x % 4 = 1 ∨ x % 4 = 2) with kd | kd | kd | kd
  · have HQ : Hid ((true && true && true && true && decide (x ≤ 999) && callOk a b c x) = false) := by show _ = _; rw [HZ.out, kd]; simp
    rw [HQ.out]
    go_enter Tryd.func38, Tryd.ntmps38
    go_wp2_with (first | (go_at_call 67; refine (hf _).mono ?_; rintro e w0 ⟨rfl, hw⟩; subst w0) | (go_at_call 68; refine (hm _).mono ?_; rintro e w1 ⟨rfl, b1⟩; (obtain ⟨d0, d1, d2, d3, d4, d5⟩ := HC.out _ b1)) | (go_at_call 69; (with_reducible show Calls _ 69 #[.int .i64 d] _ _); refine (rd _).mono ?_; rintro e w2 ⟨rfl, hw⟩; subst w2) | (go_at_call 69; (with_reducible show Calls _ 69 #[.int .i64 a] _ _); refine (ra _).mono ?_; rintro e w2 ⟨rfl, hw⟩; subst w2) | (go_at_call 69; (with_reducible show Calls _ 69 #[.int .i64 b] _ _); refine (rb _).mono ?_; rintro e w2 ⟨rfl, hw⟩; subst w2) | (go_at_call 69; (with_reducible show Calls _ 69 #[.int .i64 c] _ _); refine (rc _).mono ?_; rintro e w2 ⟨rfl, hw⟩; subst w2) | (go_at_call 69; (with_reducible show Calls _ 69 #[.int .i64 0] _ _); refine (r0 _).mono ?_; rintro e w2 ⟨rfl, hw⟩; subst w2) | (go_at_call 61; (with_reducible show Calls _ 61 #[] w1 _); refine (calls55 _).mono ?_; rintro e w3 ⟨rfl, O3, b3⟩; (obtain ⟨e0, e1, e2, e3, e4, e5⟩ := HC.out _ (b1.trans (b3.mono b1.size)))))
    go_ret
    exact ⟨rfl, HB.out _ (b1.trans (b3.mono b1.size))⟩
  · have HQ : Hid ((true && true && true && true && decide (x ≤ 999) && callOk a b c x) = false) := by show _ = _; rw [HZ.out, kd]; simp
    rw [HQ.out]
    go_enter Tryd.func38, Tryd.ntmps38
    go_wp2_with (first | (go_at_call 67; refine (hf _).mono ?_; rintro e w0 ⟨rfl, hw⟩; subst w0) | (go_at_call 68; refine (hm _).mono ?_; rintro e w1 ⟨rfl, b1⟩; (obtain ⟨d0, d1, d2, d3, d4, d5⟩ := HC.out _ b1)) | (go_at_call 69; (with_reducible show Calls _ 69 #[.int .i64 d] _ _); refine (rd _).mono ?_; rintro e w2 ⟨rfl, hw⟩; subst w2) | (go_at_call 69; (with_reducible show Calls _ 69 #[.int .i64 a] _ _); refine (ra _).mono ?_; rintro e w2 ⟨rfl, hw⟩; subst w2) | (go_at_call 69; (with_reducible show Calls _ 69 #[.int .i64 b] _ _); refine (rb _).mono ?_; rintro e w2 ⟨rfl, hw⟩; subst w2) | (go_at_call 69; (with_reducible show Calls _ 69 #[.int .i64 c] _ _); refine (rc _).mono ?_; rintro e w2 ⟨rfl, hw⟩; subst w2) | (go_at_call 69; (with_reducible show Calls _ 69 #[.int .i64 0] _ _); refine (r0 _).mono ?_; rintro e w2 ⟨rfl, hw⟩; subst w2) | (go_at_call 61; (with_reducible show Calls _ 61 #[] w1 _); refine (calls55 _).mono ?_; rintro e w3 ⟨rfl, O3, b3⟩; (obtain ⟨e0, e1, e2, e3, e4, e5⟩ := HC.out _ (b1.trans (b3.mono b1.size)))))
    go_ret
    exact ⟨rfl, HB.out _ (b1.trans (b3.mono b1.size))⟩
  · rw [kd] at HZ
    rcases (by omega : Z < 1 ∨ Z = 1 ∨ Z = 2 ∨ Z = 3) with z1 | rfl | rfl | rfl
    · have HQ : Hid ((true && true && true && true && decide (x ≤ 999) && callOk a b c x) = false) := by show _ = _; rw [HZ.out, decide_eq_false (show ¬ 1 ≤ Z by omega)]; rfl
      clear hle
      have z2 : ¬ 0 < Z := by omega
      rw [HQ.out]
      go_enter Tryd.func38, Tryd.ntmps38
      go_wp2_with (first | (go_at_call 67; refine (hf _).mono ?_; rintro e w0 ⟨rfl, hw⟩; subst w0) | (go_at_call 68; refine (hm _).mono ?_; rintro e w1 ⟨rfl, b1⟩; (obtain ⟨d0, d1, d2, d3, d4, d5⟩ := HC.out _ b1)) | (go_at_call 69; (with_reducible show Calls _ 69 #[.int .i64 d] _ _); refine (rd _).mono ?_; rintro e w2 ⟨rfl, hw⟩; subst w2) | (go_at_call 69; (with_reducible show Calls _ 69 #[.int .i64 a] _ _); refine (ra _).mono ?_; rintro e w2 ⟨rfl, hw⟩; subst w2) | (go_at_call 69; (with_reducible show Calls _ 69 #[.int .i64 b] _ _); refine (rb _).mono ?_; rintro e w2 ⟨rfl, hw⟩; subst w2) | (go_at_call 69; (with_reducible show Calls _ 69 #[.int .i64 c] _ _); refine (rc _).mono ?_; rintro e w2 ⟨rfl, hw⟩; subst w2) | (go_at_call 69; (with_reducible show Calls _ 69 #[.int .i64 0] _ _); refine (r0 _).mono ?_; rintro e w2 ⟨rfl, hw⟩; subst w2) | (go_at_call 61; (with_reducible show Calls _ 61 #[] w1 _); refine (calls55 _).mono ?_; rintro e w3 ⟨rfl, O3, b3⟩; (obtain ⟨e0, e1, e2, e3, e4, e5⟩ := HC.out _ (b1.trans (b3.mono b1.size)))) | (go_at_call 61; (with_reducible show Calls _ 61 #[] w3 _); refine (calls55 _).mono ?_; rintro e w4 ⟨rfl, O4, b4⟩; (obtain ⟨g0, g1, g2, g3, g4, g5⟩ := HC.out _ ((b1.trans (b3.mono b1.size)).trans (b4.mono (by have := b1.size; have := b3.size; omega)))); (have cc : World.cell? w4 ⟨w3.heap.size, (x / 4).toNat, none⟩ = some (.string sg) := by rw [O4.cell (x / 4).toNat (by omega), HSG.out])) | (go_at_call 60; refine (har _).mono ?_; rintro e w5 ⟨rfl, hw⟩; subst w5))
      go_ret
      exact ⟨rfl, HB.out _ ((b1.trans (b3.mono b1.size)).trans (b4.mono (by have := b1.size; have := b3.size; omega)))⟩
    · clear hle
      cases hb0 : (b == 0)
      · rw [hb0] at HZ
        have HQ : Hid ((true && true && true && true && decide (x ≤ 999) && callOk a b c x) = false) := by show _ = _; rw [HZ.out]; simp
        rw [HQ.out]
        go_enter Tryd.func38, Tryd.ntmps38
        go_wp2_with (first | (go_at_call 67; refine (hf _).mono ?_; rintro e w0 ⟨rfl, hw⟩; subst w0) | (go_at_call 68; refine (hm _).mono ?_; rintro e w1 ⟨rfl, b1⟩; (obtain ⟨d0, d1, d2, d3, d4, d5⟩ := HC.out _ b1)) | (go_at_call 69; (with_reducible show Calls _ 69 #[.int .i64 d] _ _); refine (rd _).mono ?_; rintro e w2 ⟨rfl, hw⟩; subst w2) | (go_at_call 69; (with_reducible show Calls _ 69 #[.int .i64 a] _ _); refine (ra _).mono ?_; rintro e w2 ⟨rfl, hw⟩; subst w2) | (go_at_call 69; (with_reducible show Calls _ 69 #[.int .i64 b] _ _); refine (rb _).mono ?_; rintro e w2 ⟨rfl, hw⟩; subst w2) | (go_at_call 69; (with_reducible show Calls _ 69 #[.int .i64 c] _ _); refine (rc _).mono ?_; rintro e w2 ⟨rfl, hw⟩; subst w2) | (go_at_call 69; (with_reducible show Calls _ 69 #[.int .i64 0] _ _); refine (r0 _).mono ?_; rintro e w2 ⟨rfl, hw⟩; subst w2) | (go_at_call 61; (with_reducible show Calls _ 61 #[] w1 _); refine (calls55 _).mono ?_; rintro e w3 ⟨rfl, O3, b3⟩; (obtain ⟨e0, e1, e2, e3, e4, e5⟩ := HC.out _ (b1.trans (b3.mono b1.size)))) | (go_at_call 61; (with_reducible show Calls _ 61 #[] w3 _); refine (calls55 _).mono ?_; rintro e w4 ⟨rfl, O4, b4⟩; (obtain ⟨g0, g1, g2, g3, g4, g5⟩ := HC.out _ ((b1.trans (b3.mono b1.size)).trans (b4.mono (by have := b1.size; have := b3.size; omega)))); (have cc : World.cell? w4 ⟨w3.heap.size, (x / 4).toNat, none⟩ = some (.string sg) := by rw [O4.cell (x / 4).toNat (by omega), HSG.out])) | (go_at_call 60; refine (har _).mono ?_; rintro e w5 ⟨rfl, hw⟩; subst w5))
        go_ret
        exact ⟨rfl, HB.out _ ((b1.trans (b3.mono b1.size)).trans (b4.mono (by have := b1.size; have := b3.size; omega)))⟩
      · rw [hb0] at HZ
        have HQ : Hid ((true && true && true && true && decide (x ≤ 999) && callOk a b c x) = (c == 0)) := by show _ = _; rw [HZ.out]; simp
        rw [HQ.out]
        go_enter Tryd.func38, Tryd.ntmps38
        go_wp2_with (first | (go_at_call 67; refine (hf _).mono ?_; rintro e w0 ⟨rfl, hw⟩; subst w0) | (go_at_call 68; refine (hm _).mono ?_; rintro e w1 ⟨rfl, b1⟩; (obtain ⟨d0, d1, d2, d3, d4, d5⟩ := HC.out _ b1)) | (go_at_call 69; (with_reducible show Calls _ 69 #[.int .i64 d] _ _); refine (rd _).mono ?_; rintro e w2 ⟨rfl, hw⟩; subst w2) | (go_at_call 69; (with_reducible show Calls _ 69 #[.int .i64 a] _ _); refine (ra _).mono ?_; rintro e w2 ⟨rfl, hw⟩; subst w2) | (go_at_call 69; (with_reducible show Calls _ 69 #[.int .i64 b] _ _); refine (rb _).mono ?_; rintro e w2 ⟨rfl, hw⟩; subst w2) | (go_at_call 69; (with_reducible show Calls _ 69 #[.int .i64 c] _ _); refine (rc _).mono ?_; rintro e w2 ⟨rfl, hw⟩; subst w2) | (go_at_call 69; (with_reducible show Calls _ 69 #[.int .i64 0] _ _); refine (r0 _).mono ?_; rintro e w2 ⟨rfl, hw⟩; subst w2) | (go_at_call 61; (with_reducible show Calls _ 61 #[] w1 _); refine (calls55 _).mono ?_; rintro e w3 ⟨rfl, O3, b3⟩; (obtain ⟨e0, e1, e2, e3, e4, e5⟩ := HC.out _ (b1.trans (b3.mono b1.size)))) | (go_at_call 61; (with_reducible show Calls _ 61 #[] w3 _); refine (calls55 _).mono ?_; rintro e w4 ⟨rfl, O4, b4⟩; (obtain ⟨g0, g1, g2, g3, g4, g5⟩ := HC.out _ ((b1.trans (b3.mono b1.size)).trans (b4.mono (by have := b1.size; have := b3.size; omega)))); (have cc : World.cell? w4 ⟨w3.heap.size, (x / 4).toNat, none⟩ = some (.string sg) := by rw [O4.cell (x / 4).toNat (by omega), HSG.out])) | (go_at_call 60; refine (har _).mono ?_; rintro e w5 ⟨rfl, hw⟩; subst w5))
        go_ret
        exact ⟨rfl, HB.out _ ((b1.trans (b3.mono b1.size)).trans (b4.mono (by have := b1.size; have := b3.size; omega)))⟩
    · clear hle
      have HQ : Hid ((true && true && true && true && decide (x ≤ 999) && callOk a b c x) = (c == 0)) := by show _ = _; rw [HZ.out]; simp
      rw [HQ.out]
      go_enter Tryd.func38, Tryd.ntmps38
      go_wp2_with (first | (go_at_call 67; refine (hf _).mono ?_; rintro e w0 ⟨rfl, hw⟩; subst w0) | (go_at_call 68; refine (hm _).mono ?_; rintro e w1 ⟨rfl, b1⟩; (obtain ⟨d0, d1, d2, d3, d4, d5⟩ := HC.out _ b1)) | (go_at_call 69; (with_reducible show Calls _ 69 #[.int .i64 d] _ _); refine (rd _).mono ?_; rintro e w2 ⟨rfl, hw⟩; subst w2) | (go_at_call 69; (with_reducible show Calls _ 69 #[.int .i64 a] _ _); refine (ra _).mono ?_; rintro e w2 ⟨rfl, hw⟩; subst w2) | (go_at_call 69; (with_reducible show Calls _ 69 #[.int .i64 b] _ _); refine (rb _).mono ?_; rintro e w2 ⟨rfl, hw⟩; subst w2) | (go_at_call 69; (with_reducible show Calls _ 69 #[.int .i64 c] _ _); refine (rc _).mono ?_; rintro e w2 ⟨rfl, hw⟩; subst w2) | (go_at_call 69; (with_reducible show Calls _ 69 #[.int .i64 0] _ _); refine (r0 _).mono ?_; rintro e w2 ⟨rfl, hw⟩; subst w2) | (go_at_call 61; (with_reducible show Calls _ 61 #[] w1 _); refine (calls55 _).mono ?_; rintro e w3 ⟨rfl, O3, b3⟩; (obtain ⟨e0, e1, e2, e3, e4, e5⟩ := HC.out _ (b1.trans (b3.mono b1.size)))) | (go_at_call 61; (with_reducible show Calls _ 61 #[] w3 _); refine (calls55 _).mono ?_; rintro e w4 ⟨rfl, O4, b4⟩; (obtain ⟨g0, g1, g2, g3, g4, g5⟩ := HC.out _ ((b1.trans (b3.mono b1.size)).trans (b4.mono (by have := b1.size; have := b3.size; omega)))); (have cc : World.cell? w4 ⟨w3.heap.size, (x / 4).toNat, none⟩ = some (.string sg) := by rw [O4.cell (x / 4).toNat (by omega), HSG.out])) | (go_at_call 60; refine (har _).mono ?_; rintro e w5 ⟨rfl, hw⟩; subst w5))
      go_ret
      exact ⟨rfl, HB.out _ ((b1.trans (b3.mono b1.size)).trans (b4.mono (by have := b1.size; have := b3.size; omega)))⟩
    · clear hle
      have HQ : Hid ((true && true && true && true && decide (x ≤ 999) && callOk a b c x) = true) := by show _ = _; rw [HZ.out]; simp
      rw [HQ.out]
      go_enter Tryd.func38, Tryd.ntmps38
      go_wp2_with (first | (go_at_call 67; refine (hf _).mono ?_; rintro e w0 ⟨rfl, hw⟩; subst w0) | (go_at_call 68; refine (hm _).mono ?_; rintro e w1 ⟨rfl, b1⟩; (obtain ⟨d0, d1, d2, d3, d4, d5⟩ := HC.out _ b1)) | (go_at_call 69; (with_reducible show Calls _ 69 #[.int .i64 d] _ _); refine (rd _).mono ?_; rintro e w2 ⟨rfl, hw⟩; subst w2) | (go_at_call 69; (with_reducible show Calls _ 69 #[.int .i64 a] _ _); refine (ra _).mono ?_; rintro e w2 ⟨rfl, hw⟩; subst w2) | (go_at_call 69; (with_reducible show Calls _ 69 #[.int .i64 b] _ _); refine (rb _).mono ?_; rintro e w2 ⟨rfl, hw⟩; subst w2) | (go_at_call 69; (with_reducible show Calls _ 69 #[.int .i64 c] _ _); refine (rc _).mono ?_; rintro e w2 ⟨rfl, hw⟩; subst w2) | (go_at_call 69; (with_reducible show Calls _ 69 #[.int .i64 0] _ _); refine (r0 _).mono ?_; rintro e w2 ⟨rfl, hw⟩; subst w2) | (go_at_call 61; (with_reducible show Calls _ 61 #[] w1 _); refine (calls55 _).mono ?_; rintro e w3 ⟨rfl, O3, b3⟩; (obtain ⟨e0, e1, e2, e3, e4, e5⟩ := HC.out _ (b1.trans (b3.mono b1.size)))) | (go_at_call 61; (with_reducible show Calls _ 61 #[] w3 _); refine (calls55 _).mono ?_; rintro e w4 ⟨rfl, O4, b4⟩; (obtain ⟨g0, g1, g2, g3, g4, g5⟩ := HC.out _ ((b1.trans (b3.mono b1.size)).trans (b4.mono (by have := b1.size; have := b3.size; omega)))); (have cc : World.cell? w4 ⟨w3.heap.size, (x / 4).toNat, none⟩ = some (.string sg) := by rw [O4.cell (x / 4).toNat (by omega), HSG.out])) | (go_at_call 60; refine (har _).mono ?_; rintro e w5 ⟨rfl, hw⟩; subst w5))
      go_ret
      exact ⟨rfl, HB.out _ ((b1.trans (b3.mono b1.size)).trans (b4.mono (by have := b1.size; have := b3.size; omega)))⟩
  · rw [kd] at HZ
    rcases (by omega : Z < 1 ∨ Z = 1 ∨ Z = 2 ∨ Z = 3) with z1 | rfl | rfl | rfl
    · have HQ : Hid ((true && true && true && true && decide (x ≤ 999) && callOk a b c x) = false) := by show _ = _; rw [HZ.out, decide_eq_false (show ¬ 1 ≤ Z by omega)]; rfl
      clear hle
      have z2 : ¬ 0 < Z := by omega
      rw [HQ.out]
      go_enter Tryd.func38, Tryd.ntmps38
      go_wp2_with (first | (go_at_call 67; refine (hf _).mono ?_; rintro e w0 ⟨rfl, hw⟩; subst w0) | (go_at_call 68; refine (hm _).mono ?_; rintro e w1 ⟨rfl, b1⟩; (obtain ⟨d0, d1, d2, d3, d4, d5⟩ := HC.out _ b1)) | (go_at_call 69; (with_reducible show Calls _ 69 #[.int .i64 d] _ _); refine (rd _).mono ?_; rintro e w2 ⟨rfl, hw⟩; subst w2) | (go_at_call 69; (with_reducible show Calls _ 69 #[.int .i64 a] _ _); refine (ra _).mono ?_; rintro e w2 ⟨rfl, hw⟩; subst w2) | (go_at_call 69; (with_reducible show Calls _ 69 #[.int .i64 b] _ _); refine (rb _).mono ?_; rintro e w2 ⟨rfl, hw⟩; subst w2) | (go_at_call 69; (with_reducible show Calls _ 69 #[.int .i64 c] _ _); refine (rc _).mono ?_; rintro e w2 ⟨rfl, hw⟩; subst w2) | (go_at_call 69; (with_reducible show Calls _ 69 #[.int .i64 0] _ _); refine (r0 _).mono ?_; rintro e w2 ⟨rfl, hw⟩; subst w2) | (go_at_call 61; (with_reducible show Calls _ 61 #[] w1 _); refine (calls55 _).mono ?_; rintro e w3 ⟨rfl, O3, b3⟩; (obtain ⟨e0, e1, e2, e3, e4, e5⟩ := HC.out _ (b1.trans (b3.mono b1.size)))) | (go_at_call 61; (with_reducible show Calls _ 61 #[] w3 _); refine (calls55 _).mono ?_; rintro e w4 ⟨rfl, O4, b4⟩; (obtain ⟨g0, g1, g2, g3, g4, g5⟩ := HC.out _ ((b1.trans (b3.mono b1.size)).trans (b4.mono (by have := b1.size; have := b3.size; omega)))); (have cc : World.cell? w4 ⟨w3.heap.size, (x / 4).toNat, none⟩ = some (.string sg) := by rw [O4.cell (x / 4).toNat (by omega), HSG.out])) | (go_at_call 60; refine (har _).mono ?_; rintro e w5 ⟨rfl, hw⟩; subst w5))
      go_ret
      exact ⟨rfl, HB.out _ ((b1.trans (b3.mono b1.size)).trans (b4.mono (by have := b1.size; have := b3.size; omega)))⟩
    · clear hle
      cases hb0 : (b == 0)
      · rw [hb0] at HZ
        have HQ : Hid ((true && true && true && true && decide (x ≤ 999) && callOk a b c x) = false) := by show _ = _; rw [HZ.out]; simp
        rw [HQ.out]
        go_enter Tryd.func38, Tryd.ntmps38
        go_wp2_with (first | (go_at_call 67; refine (hf _).mono ?_; rintro e w0 ⟨rfl, hw⟩; subst w0) | (go_at_call 68; refine (hm _).mono ?_; rintro e w1 ⟨rfl, b1⟩; (obtain ⟨d0, d1, d2, d3, d4, d5⟩ := HC.out _ b1)) | (go_at_call 69; (with_reducible show Calls _ 69 #[.int .i64 d] _ _); refine (rd _).mono ?_; rintro e w2 ⟨rfl, hw⟩; subst w2) | (go_at_call 69; (with_reducible show Calls _ 69 #[.int .i64 a] _ _); refine (ra _).mono ?_; rintro e w2 ⟨rfl, hw⟩; subst w2) | (go_at_call 69; (with_reducible show Calls _ 69 #[.int .i64 b] _ _); refine (rb _).mono ?_; rintro e w2 ⟨rfl, hw⟩; subst w2) | (go_at_call 69; (with_reducible show Calls _ 69 #[.int .i64 c] _ _); refine (rc _).mono ?_; rintro e w2 ⟨rfl, hw⟩; subst w2) | (go_at_call 69; (with_reducible show Calls _ 69 #[.int .i64 0] _ _); refine (r0 _).mono ?_; rintro e w2 ⟨rfl, hw⟩; subst w2) | (go_at_call 61; (with_reducible show Calls _ 61 #[] w1 _); refine (calls55 _).mono ?_; rintro e w3 ⟨rfl, O3, b3⟩; (obtain ⟨e0, e1, e2, e3, e4, e5⟩ := HC.out _ (b1.trans (b3.mono b1.size)))) | (go_at_call 61; (with_reducible show Calls _ 61 #[] w3 _); refine (calls55 _).mono ?_; rintro e w4 ⟨rfl, O4, b4⟩; (obtain ⟨g0, g1, g2, g3, g4, g5⟩ := HC.out _ ((b1.trans (b3.mono b1.size)).trans (b4.mono (by have := b1.size; have := b3.size; omega)))); (have cc : World.cell? w4 ⟨w3.heap.size, (x / 4).toNat, none⟩ = some (.string sg) := by rw [O4.cell (x / 4).toNat (by omega), HSG.out])) | (go_at_call 60; refine (har _).mono ?_; rintro e w5 ⟨rfl, hw⟩; subst w5))
        go_ret
        exact ⟨rfl, HB.out _ ((b1.trans (b3.mono b1.size)).trans (b4.mono (by have := b1.size; have := b3.size; omega)))⟩
      · rw [hb0] at HZ
        have HQ : Hid ((true && true && true && true && decide (x ≤ 999) && callOk a b c x) = (c == 0)) := by show _ = _; rw [HZ.out]; simp
        rw [HQ.out]
        go_enter Tryd.func38, Tryd.ntmps38
        go_wp2_with (first | (go_at_call 67; refine (hf _).mono ?_; rintro e w0 ⟨rfl, hw⟩; subst w0) | (go_at_call 68; refine (hm _).mono ?_; rintro e w1 ⟨rfl, b1⟩; (obtain ⟨d0, d1, d2, d3, d4, d5⟩ := HC.out _ b1)) | (go_at_call 69; (with_reducible show Calls _ 69 #[.int .i64 d] _ _); refine (rd _).mono ?_; rintro e w2 ⟨rfl, hw⟩; subst w2) | (go_at_call 69; (with_reducible show Calls _ 69 #[.int .i64 a] _ _); refine (ra _).mono ?_; rintro e w2 ⟨rfl, hw⟩; subst w2) | (go_at_call 69; (with_reducible show Calls _ 69 #[.int .i64 b] _ _); refine (rb _).mono ?_; rintro e w2 ⟨rfl, hw⟩; subst w2) | (go_at_call 69; (with_reducible show Calls _ 69 #[.int .i64 c] _ _); refine (rc _).mono ?_; rintro e w2 ⟨rfl, hw⟩; subst w2) | (go_at_call 69; (with_reducible show Calls _ 69 #[.int .i64 0] _ _); refine (r0 _).mono ?_; rintro e w2 ⟨rfl, hw⟩; subst w2) | (go_at_call 61; (with_reducible show Calls _ 61 #[] w1 _); refine (calls55 _).mono ?_; rintro e w3 ⟨rfl, O3, b3⟩; (obtain ⟨e0, e1, e2, e3, e4, e5⟩ := HC.out _ (b1.trans (b3.mono b1.size)))) | (go_at_call 61; (with_reducible show Calls _ 61 #[] w3 _); refine (calls55 _).mono ?_; rintro e w4 ⟨rfl, O4, b4⟩; (obtain ⟨g0, g1, g2, g3, g4, g5⟩ := HC.out _ ((b1.trans (b3.mono b1.size)).trans (b4.mono (by have := b1.size; have := b3.size; omega)))); (have cc : World.cell? w4 ⟨w3.heap.size, (x / 4).toNat, none⟩ = some (.string sg) := by rw [O4.cell (x / 4).toNat (by omega), HSG.out])) | (go_at_call 60; refine (har _).mono ?_; rintro e w5 ⟨rfl, hw⟩; subst w5))
        go_ret
        exact ⟨rfl, HB.out _ ((b1.trans (b3.mono b1.size)).trans (b4.mono (by have := b1.size; have := b3.size; omega)))⟩
    · clear hle
      have HQ : Hid ((true && true && true && true && decide (x ≤ 999) && callOk a b c x) = (c == 0)) := by show _ = _; rw [HZ.out]; simp
      rw [HQ.out]
      go_enter Tryd.func38, Tryd.ntmps38
      go_wp2_with (first | (go_at_call 67; refine (hf _).mono ?_; rintro e w0 ⟨rfl, hw⟩; subst w0) | (go_at_call 68; refine (hm _).mono ?_; rintro e w1 ⟨rfl, b1⟩; (obtain ⟨d0, d1, d2, d3, d4, d5⟩ := HC.out _ b1)) | (go_at_call 69; (with_reducible show Calls _ 69 #[.int .i64 d] _ _); refine (rd _).mono ?_; rintro e w2 ⟨rfl, hw⟩; subst w2) | (go_at_call 69; (with_reducible show Calls _ 69 #[.int .i64 a] _ _); refine (ra _).mono ?_; rintro e w2 ⟨rfl, hw⟩; subst w2) | (go_at_call 69; (with_reducible show Calls _ 69 #[.int .i64 b] _ _); refine (rb _).mono ?_; rintro e w2 ⟨rfl, hw⟩; subst w2) | (go_at_call 69; (with_reducible show Calls _ 69 #[.int .i64 c] _ _); refine (rc _).mono ?_; rintro e w2 ⟨rfl, hw⟩; subst w2) | (go_at_call 69; (with_reducible show Calls _ 69 #[.int .i64 0] _ _); refine (r0 _).mono ?_; rintro e w2 ⟨rfl, hw⟩; subst w2) | (go_at_call 61; (with_reducible show Calls _ 61 #[] w1 _); refine (calls55 _).mono ?_; rintro e w3 ⟨rfl, O3, b3⟩; (obtain ⟨e0, e1, e2, e3, e4, e5⟩ := HC.out _ (b1.trans (b3.mono b1.size)))) | (go_at_call 61; (with_reducible show Calls _ 61 #[] w3 _); refine (calls55 _).mono ?_; rintro e w4 ⟨rfl, O4, b4⟩; (obtain ⟨g0, g1, g2, g3, g4, g5⟩ := HC.out _ ((b1.trans (b3.mono b1.size)).trans (b4.mono (by have := b1.size; have := b3.size; omega)))); (have cc : World.cell? w4 ⟨w3.heap.size, (x / 4).toNat, none⟩ = some (.string sg) := by rw [O4.cell (x / 4).toNat (by omega), HSG.out])) | (go_at_call 60; refine (har _).mono ?_; rintro e w5 ⟨rfl, hw⟩; subst w5))
      go_ret
      exact ⟨rfl, HB.out _ ((b1.trans (b3.mono b1.size)).trans (b4.mono (by have := b1.size; have := b3.size; omega)))⟩
    · clear hle
      have HQ : Hid ((true && true && true && true && decide (x ≤ 999) && callOk a b c x) = true) := by show _ = _; rw [HZ.out]; simp
      rw [HQ.out]
      go_enter Tryd.func38, Tryd.ntmps38
      go_wp2_with (first | (go_at_call 67; refine (hf _).mono ?_; rintro e w0 ⟨rfl, hw⟩; subst w0) | (go_at_call 68; refine (hm _).mono ?_; rintro e w1 ⟨rfl, b1⟩; (obtain ⟨d0, d1, d2, d3, d4, d5⟩ := HC.out _ b1)) | (go_at_call 69; (with_reducible show Calls _ 69 #[.int .i64 d] _ _); refine (rd _).mono ?_; rintro e w2 ⟨rfl, hw⟩; subst w2) | (go_at_call 69; (with_reducible show Calls _ 69 #[.int .i64 a] _ _); refine (ra _).mono ?_; rintro e w2 ⟨rfl, hw⟩; subst w2) | (go_at_call 69; (with_reducible show Calls _ 69 #[.int .i64 b] _ _); refine (rb _).mono ?_; rintro e w2 ⟨rfl, hw⟩; subst w2) | (go_at_call 69; (with_reducible show Calls _ 69 #[.int .i64 c] _ _); refine (rc _).mono ?_; rintro e w2 ⟨rfl, hw⟩; subst w2) | (go_at_call 69; (with_reducible show Calls _ 69 #[.int .i64 0] _ _); refine (r0 _).mono ?_; rintro e w2 ⟨rfl, hw⟩; subst w2) | (go_at_call 61; (with_reducible show Calls _ 61 #[] w1 _); refine (calls55 _).mono ?_; rintro e w3 ⟨rfl, O3, b3⟩; (obtain ⟨e0, e1, e2, e3, e4, e5⟩ := HC.out _ (b1.trans (b3.mono b1.size)))) | (go_at_call 61; (with_reducible show Calls _ 61 #[] w3 _); refine (calls55 _).mono ?_; rintro e w4 ⟨rfl, O4, b4⟩; (obtain ⟨g0, g1, g2, g3, g4, g5⟩ := HC.out _ ((b1.trans (b3.mono b1.size)).trans (b4.mono (by have := b1.size; have := b3.size; omega)))); (have cc : World.cell? w4 ⟨w3.heap.size, (x / 4).toNat, none⟩ = some (.string sg) := by rw [O4.cell (x / 4).toNat (by omega), HSG.out])) | (go_at_call 60; refine (har _).mono ?_; rintro e w5 ⟨rfl, hw⟩; subst w5))
      go_ret
      exact ⟨rfl, HB.out _ ((b1.trans (b3.mono b1.size)).trans (b4.mono (by have := b1.size; have := b3.size; omega)))⟩
end Go.Proofs.YtcgapochcahknaaDoor
