/- Ground for the laws of words: whole numbers of one power are exact; the sign of two words together; l1Half; what the program's product is. Contract of the model's l1Small and l1Exact over every number of 64 bits. Both sides' ToFloat answer alike (chapter 1's and part 7's text at this seat). -/
import Derived.Test.YtoloenkcfpfgcaaDoorLimbs39
import Derived.Test.YtoloenkcfpfgcaaDoorImpl
import Derived.Test.YtoloenkcfpfgcaaDoorSpec
import Derived.Test.YtoloenkcfpfgcaaDoorTold16
import Derived.WalkSmall
namespace Go.Proofs.YtoloenkcfpfgcaaDoor
open Go.ChangeShapes Go.WideShapes Go.ChangeAt Go.RowKit
set_option linter.unusedVariables false
theorem exact_z (z : Nat) (E : Int) : sa (z * 2 ^ E.toNat) E / sb (1 * 2 ^ (-E).toNat) E = z ∧ sa (z * 2 ^ E.toNat) E % sb (1 * 2 ^ (-E).toNat) E = 0 := by
  unfold sa sb
  have h : 0 < 2 ^ (-E).toNat * 2 ^ E.toNat := Nat.mul_pos (p2 _) (p2 _)
  rw [Nat.one_mul, Nat.mul_assoc, Nat.mul_comm (2 ^ E.toNat)]
  exact ⟨Nat.mul_div_cancel _ h, Nat.mul_mod_left _ _⟩
theorem big_gen (z k A B : Nat) (hz : z ≤ 2 ^ A) (hk : k ≤ B) : z * 2 ^ k ≤ 2 ^ (A + B) := by
  rw [Nat.pow_add]; exact Nat.mul_le_mul hz (Nat.pow_le_pow_right (by decide) hk)
theorem huge (A B : Nat) (hA : A = 64) (hB : B = 1000) : 2 ^ (A + B) < 1000000000 ^ 60 := by
  subst hA hB; decide +kernel
theorem big_lt (z k : Nat) (hz : z < 18446744073709551616) (hk : k ≤ 1000) : z * 2 ^ k < 1000000000 ^ 60 := by
  obtain ⟨A, hA⟩ : ∃ A, A = 64 := ⟨_, rfl⟩
  obtain ⟨B, hB⟩ : ∃ B, B = 1000 := ⟨_, rfl⟩
  exact Nat.lt_of_le_of_lt (big_gen z k A B (by rw [hA]; omega) (by omega)) (huge A B hA hB)
/-- A whole number times a power of 2: both sides round it alike, to a word. -/
theorem whole_both_w (n : Bool) (z : Nat) (E mode X : Int) (m0 : 0 ≤ mode) (m4 : mode ≤ 4) (z0 : 0 < z) (z1 : z < 18446744073709551616) (e0 : -1000 ≤ E) (e1 : E ≤ 800) (hX : X.natAbs = z) (hn : decide (X < 0) = n) :
    ∃ R : Int, 0 ≤ R ∧ R < 4294967296 ∧
      (∀ v : World, Forms v → Calls Tryd.prog 55 #[.agg #[.bool n, .int .u64 (z : Int), .int .i64 E, .bool false], .int .i64 0, .int .i64 mode] v fun e w' => e = .returned (.int .u32 R) ∧ Below v.heap.size v w') ∧
      (∀ (v : World) (K L : Nat) (VP VQ : Int) (gP gQ : Bool) (pP pQ : Option Addr) (lP cP lQ cQ : Nat), Num v K (.agg #[.int .i64 VP, .bool gP, .slice pP lP cP]) X → Num v L (.agg #[.int .i64 VQ, .bool gQ, .slice pQ lQ cQ]) 1 → 2 ≤ K → K ≤ 9000 →
        Calls Tryd.prog 35 #[.agg #[.int .i64 VP, .bool gP, .slice pP lP cP, .int .i64 VQ, .bool gQ, .slice pQ lQ cQ, .int .i64 E], .agg #[.int .i64 24, .int .i64 (-149), .int .i64 104], .int .i64 mode] v fun e w' => e = .returned (.int .i64 R) ∧ Below v.heap.size v w') :=
  both_w n z E false mode m0 m4 z0 z1 (by omega) e1 X 1 E (by omega) e0 (by omega) (z * 2 ^ E.toNat) (1 * 2 ^ (-E).toNat) z 1 hX.symm rfl rfl rfl (by decide) (big_lt z _ z1 (by omega)) (big_lt 1 _ (by decide) (by omega)) hn (exact_z z E).1 (by rw [(exact_z z E).2]; rfl) (fun h => by cases h)
/-- The same, to a half. -/
theorem whole_both_h (n : Bool) (z : Nat) (E mode X : Int) (m0 : 0 ≤ mode) (m4 : mode ≤ 4) (z0 : 0 < z) (z1 : z < 18446744073709551616) (e0 : -1000 ≤ E) (e1 : E ≤ 800) (hX : X.natAbs = z) (hn : decide (X < 0) = n) :
    ∃ R : Int, 0 ≤ R ∧ R < 4294967296 ∧
      (∀ v : World, Forms v → Calls Tryd.prog 55 #[.agg #[.bool n, .int .u64 (z : Int), .int .i64 E, .bool false], .int .i64 1, .int .i64 mode] v fun e w' => e = .returned (.int .u32 R) ∧ Below v.heap.size v w') ∧
      (∀ (v : World) (K L : Nat) (VP VQ : Int) (gP gQ : Bool) (pP pQ : Option Addr) (lP cP lQ cQ : Nat), Num v K (.agg #[.int .i64 VP, .bool gP, .slice pP lP cP]) X → Num v L (.agg #[.int .i64 VQ, .bool gQ, .slice pQ lQ cQ]) 1 → 2 ≤ K → K ≤ 9000 →
        Calls Tryd.prog 35 #[.agg #[.int .i64 VP, .bool gP, .slice pP lP cP, .int .i64 VQ, .bool gQ, .slice pQ lQ cQ, .int .i64 E], .agg #[.int .i64 11, .int .i64 (-24), .int .i64 5], .int .i64 mode] v fun e w' => e = .returned (.int .i64 R) ∧ Below v.heap.size v w') :=
  both_h n z E false mode m0 m4 z0 z1 (by omega) e1 X 1 E (by omega) e0 (by omega) (z * 2 ^ E.toNat) (1 * 2 ^ (-E).toNat) z 1 hX.symm rfl rfl rfl (by decide) (big_lt z _ z1 (by omega)) (big_lt 1 _ (by decide) (by omega)) hn (exact_z z E).1 (by rw [(exact_z z E).2]; rfl) (fun h => by cases h)
theorem xor_top (a b : Nat) : (a ^^^ b) / 2147483648 = (a / 2147483648) ^^^ (b / 2147483648) := by
  have h := Nat.shiftRight_xor_distrib (a := a) (b := b) (i := 31)
  simp only [Nat.shiftRight_eq_div_pow] at h
  exact h
/-- The sign of two words together. -/
theorem xor_sign (a b : Int) (a0 : 0 ≤ a) (a1 : a < 4294967296) (b0 : 0 ≤ b) (b1 : b < 4294967296) :
    0 ≤ bits .xor .u32 a b ∧ bits .xor .u32 a b < 4294967296 ∧ bits .xor .u32 a b / 2147483648 * 2147483648 = if (decide (2147483648 ≤ a) != decide (2147483648 ≤ b)) = true then 2147483648 else 0 := by
  obtain ⟨A, rfl⟩ := Int.eq_ofNat_of_zero_le a0
  obtain ⟨B, rfl⟩ := Int.eq_ofNat_of_zero_le b0
  have h : bits .xor .u32 (A : Int) (B : Int) = ((A ^^^ B : Nat) : Int) := by
    have := u32_xor_nat A B (by omega) (by omega)
    exact this
  have l : A ^^^ B < 2 ^ 32 := Nat.xor_lt_two_pow (by omega) (by omega)
  have t := xor_top A B
  rw [h]
  refine ⟨by omega, by omega, ?_⟩
  have ha : A / 2147483648 = 0 ∨ A / 2147483648 = 1 := by omega
  have hb : B / 2147483648 = 0 ∨ B / 2147483648 = 1 := by omega
  rcases ha with ha | ha <;> rcases hb with hb | hb <;> rw [ha, hb] at t
  · have e1 : ¬ (2147483648 : Int) ≤ (A : Int) := by omega
    have e2 : ¬ (2147483648 : Int) ≤ (B : Int) := by omega
    simp only [e1, e2, decide_false, bne_self_eq_false, Bool.false_eq_true, if_false]
    have : (0 : Nat) ^^^ 0 = 0 := rfl
    omega
  · have e1 : ¬ (2147483648 : Int) ≤ (A : Int) := by omega
    have e2 : (2147483648 : Int) ≤ (B : Int) := by omega
    have : (0 : Nat) ^^^ 1 = 1 := rfl
    rw [if_pos (by simp [e1, e2])]
    omega
  · have e1 : (2147483648 : Int) ≤ (A : Int) := by omega
    have e2 : ¬ (2147483648 : Int) ≤ (B : Int) := by omega
    have : (1 : Nat) ^^^ 0 = 1 := rfl
    rw [if_pos (by simp [e1, e2])]
    omega
  · have e1 : (2147483648 : Int) ≤ (A : Int) := by omega
    have e2 : (2147483648 : Int) ≤ (B : Int) := by omega
    have : (1 : Nat) ^^^ 1 = 0 := rfl
    rw [if_neg (by simp [e1, e2])]
    omega
theorem Forms.next {w w' : World} (G : Forms w) (hb : Below w.heap.size w w') : Forms w' := by
  have h : 1 < w.heap.size := G.pos
  have e : ∀ i : Nat, w'.cell? ⟨1, i, none⟩ = w.cell? ⟨1, i, none⟩ := fun i => hb.cell (p := ⟨1, i, none⟩) h
  exact ⟨(e 0).trans G.c0, (e 1).trans G.c1, (e 2).trans G.c2, (e 3).trans G.c3, (e 4).trans G.c4, (e 5).trans G.c5, (e 6).trans G.c6, (e 7).trans G.c7⟩
end Go.Proofs.YtoloenkcfpfgcaaDoor
namespace Go.Proofs.YtoloenkcfpfgcaaDoor
open Go.ChangeShapes Go.WideShapes Go.ChangeAt Go.RowKit
set_option linter.unusedVariables false
theorem num3X (w : World) (o : Obj) (neg : Bool) (U : Int) (u0 : 1000000000000000000 ≤ U) (u1 : U < 10000000000000000000) (N : Int) (hN : N = if neg then -U else U) :
    Num ((w.alloc o).alloc (.cells #[.int .u32 (U % 1000000000), .int .u32 (U / 1000000000 % 1000000000), .int .u32 (U / 1000000000 / 1000000000)] 23)) 3 (.agg #[.int .i64 0, .bool neg, .slice (some ⟨w.heap.size + 1, 0, none⟩) 3 3]) N := by
  obtain ⟨u, rfl⟩ := Int.eq_ofNat_of_zero_le (by omega : 0 ≤ U)
  have hh : ((w.alloc o).alloc (.cells #[.int .u32 ((u : Int) % 1000000000), .int .u32 ((u : Int) / 1000000000 % 1000000000), .int .u32 ((u : Int) / 1000000000 / 1000000000)] 23)).heap[w.heap.size + 1]? = some (.cells #[.int .u32 ((u : Int) % 1000000000), .int .u32 ((u : Int) / 1000000000 % 1000000000), .int .u32 ((u : Int) / 1000000000 / 1000000000)] 23 (0, 0)) := heap_alloc_eq (by simp)
  obtain ⟨⟨c0, c1, c2⟩, _⟩ := blk3 hh
  refine Or.inr ⟨neg, w.heap.size + 1, 3, 3, limb3 u, rfl, by omega, by omega, by omega, by omega, fun i hi => ?_, by simp, fun i => ?_, ?_, ?_⟩
  · rcases (by omega : i = 0 ∨ i = 1 ∨ i = 2) with rfl | rfl | rfl
    · rw [c0]; rfl
    · rw [c1]; rfl
    · rw [c2]; rfl
  · unfold limb3; split; omega; split; omega; split <;> omega
  · simp [limb3]; omega
  · rw [limb3_val, hN]; rfl
set_option maxHeartbeats 1000000 in
theorem gSmall_posX (v : Int) (u0 : 1000000000000000000 ≤ v) (u1 : v ≤ 9223372036854775807) (w : World) :
    Calls Tryd.prog 38 #[.int .i64 v] w fun e w' => ∃ x, e = .returned x ∧ Num w' 3 x v ∧ Below w.heap.size w w' := by
  go_enter Tryd.func38, Tryd.ntmps38
  have hd : decide (v < 0) = false := by simp; omega
  go_wp2
  exact bodyPost_ret (v := .agg #[.int .i64 0, .bool false, .slice (some ⟨w.heap.size + 1, 0, none⟩) 3 3]) (by simp [results, Tryd.results38, go_sem]) rfl ⟨_, rfl, num3X w _ false v u0 (by omega) v rfl, by repeat (first | (with_reducible refine Below.alloc ?_ (by first | omega | (simp; try omega)) _) | (with_reducible exact Below.refl _ _))⟩
set_option maxHeartbeats 1000000 in
theorem gSmall_negX (v : Int) (u0 : v ≤ -1000000000000000000) (u1 : -9223372036854775808 < v) (w : World) :
    Calls Tryd.prog 38 #[.int .i64 v] w fun e w' => ∃ x, e = .returned x ∧ Num w' 3 x v ∧ Below w.heap.size w w' := by
  obtain ⟨U, hU⟩ : ∃ U, -v = U := ⟨_, rfl⟩
  go_enter Tryd.func38, Tryd.ntmps38
  go_wp2
  exact bodyPost_ret (v := .agg #[.int .i64 0, .bool true, .slice (some ⟨w.heap.size + 1, 0, none⟩) 3 3]) (by simp [results, Tryd.results38, go_sem]) rfl ⟨_, rfl, num3X w _ true U (by omega) (by omega) v (by rw [← hU]; simp), by repeat (first | (with_reducible refine Below.alloc ?_ (by first | omega | (simp; try omega)) _) | (with_reducible exact Below.refl _ _))⟩
set_option maxHeartbeats 1000000 in
theorem gSmall_min (w : World) :
    Calls Tryd.prog 38 #[.int .i64 (-9223372036854775808)] w fun e w' => ∃ x, e = .returned x ∧ Num w' 3 x (-9223372036854775808) ∧ Below w.heap.size w w' := by
  obtain ⟨U, hU⟩ : ∃ U, IntKind.u64.wrap (wrap64 9223372036854775808) = U := ⟨_, rfl⟩
  have hU2 : U = 9223372036854775808 := by rw [← hU, IntKind.wrap_u64]; unfold wrap64; omega
  have HU : Hid (U = 9223372036854775808) := hU2
  have U0 : 1000000000000000000 ≤ U := by omega
  have U1 : U < 10000000000000000000 := by omega
  clear hU2
  go_enter Tryd.func38, Tryd.ntmps38
  go_wp2
  exact bodyPost_ret (v := .agg #[.int .i64 0, .bool true, .slice (some ⟨w.heap.size + 1, 0, none⟩) 3 3]) (by simp [results, Tryd.results38, go_sem]) rfl ⟨_, rfl, num3X w _ true U U0 U1 (-9223372036854775808) (by have := HU.out; simp; omega), by repeat (first | (with_reducible refine Below.alloc ?_ (by first | omega | (simp; try omega)) _) | (with_reducible exact Below.refl _ _))⟩
/-- l1Small of any int. -/
theorem num_i64 (v : Int) (v0 : -9223372036854775808 ≤ v) (v1 : v ≤ 9223372036854775807) (w : World) :
    Calls Tryd.prog 38 #[.int .i64 v] w fun e w' => ∃ x, e = .returned x ∧ Num w' 3 x v ∧ Below w.heap.size w w' := by
  by_cases hm : v = -9223372036854775808
  · subst hm; exact gSmall_min w
  by_cases h0 : v ≤ -1000000000000000000
  · exact gSmall_negX v h0 (by omega) w
  by_cases h1 : 1000000000000000000 ≤ v
  · exact gSmall_posX v h1 v1 w
  · exact (zSmall v (by omega) (by omega) w).mono fun e w' ⟨h2, hb⟩ => ⟨_, h2, num_small w' 3 v (by omega) (by omega), hb⟩
theorem Num.set7 {w : World} {K : Nat} {v : Value} {N : Int} (h : Num w K v N) {j : Nat} {g : Bool} (hj : w.cell? ⟨j, 1, none⟩ = some (.bool g)) (x0 x1 x2 x3 x4 x5 x6 : Value) : Num (((((((w.setCell ⟨j, 0, none⟩ x0).setCell ⟨j, 1, none⟩ x1).setCell ⟨j, 2, none⟩ x2).setCell ⟨j, 3, none⟩ x3).setCell ⟨j, 4, none⟩ x4).setCell ⟨j, 5, none⟩ x5).setCell ⟨j, 6, none⟩ x6) K v N := by
  rcases h with h | ⟨neg, b, t, cb, f, hv, t3, tK, tc, t1, hf, hl, f9, top, hN⟩
  · exact Or.inl h
  · refine Or.inr ⟨neg, b, t, cb, f, hv, t3, tK, tc, t1, fun k hk => ?_, by simpa using hl, f9, top, hN⟩
    have hbj : b ≠ j := by
      intro e
      have h1 := hf 1 (by omega)
      rw [e, hj] at h1
      cases h1
    have hne : ∀ i : Nat, (⟨j, i, none⟩ : Addr) ≠ ⟨b, k, none⟩ := fun i e => by injection e with e1 _; exact hbj e1.symm
    rw [World.cell?_setCell_other (h := hne 6), World.cell?_setCell_other (h := hne 5), World.cell?_setCell_other (h := hne 4), World.cell?_setCell_other (h := hne 3), World.cell?_setCell_other (h := hne 2), World.cell?_setCell_other (h := hne 1), World.cell?_setCell_other (h := hne 0)]
    exact hf k hk
set_option maxHeartbeats 2000000 in
theorem num_exact (m E : Int) (h0 : -9223372036854775808 ≤ m) (h1 : m ≤ 9223372036854775807) (w : World) :
    Calls Tryd.prog 32 #[.int .i64 m, .int .i64 E] w fun e w' => ∃ V g p l c, e = .returned (.agg #[.int .i64 V, .bool g, .slice p l c, .int .i64 1, .bool false, .slice none 0 0, .int .i64 E]) ∧ Num w' 3 (.agg #[.int .i64 V, .bool g, .slice p l c]) m ∧ Below w.heap.size w w' := by
  go_enter Tryd.func32, Tryd.ntmps32
  go_wp2_with (first | (go_at_call 38; (with_reducible show Calls Tryd.prog 38 #[Value.int IntKind.i64 m] _ _); refine (num_i64 m h0 h1 _).mono ?_; rintro e w1 ⟨x, rfl, NX, hb1⟩; obtain ⟨V, g, p, l, c, rfl⟩ := NX.parts; have hz1 := hb1.size; (try simp at hz1)) | (go_at_call 38; (with_reducible show Calls Tryd.prog 38 #[Value.int IntKind.i64 1] _ _); refine (zSmall 1 (by decide) (by decide) _).mono ?_; rintro e w2 ⟨rfl, hb2⟩; have hz2 := hb2.size; obtain ⟨⟨x0, x1, x2, x3, x4, x5, x6⟩, y0, y1, y2, y3, y4, y5, y6⟩ := blk7 ((hb2.block _ (by omega)).trans ((hb1.block _ (by simp)).trans (heap_alloc_new _ _)))))
  have NY := NX.next hb2
  exact bodyPost_ret (v := .agg #[.int .i64 V, .bool g, .slice p l c, .int .i64 1, .bool false, .slice none 0 0, .int .i64 E]) (by simp [results, Tryd.results32, go_sem, x0, x1, x2, x3, x4, x5, x6]) rfl ⟨V, g, p, l, c, rfl, NY.set7 x1 _ _ _ _ _ _ _, by repeat (first | (with_reducible refine Below.setCell ?_ (by first | omega | (simp; try omega)) _) | (with_reducible refine Below.alloc ?_ (by first | omega | (simp; try omega)) _) | (with_reducible exact Below.refl _ _) | (with_reducible refine Below.trans ?_ (hb2.mono (by first | omega | (simp; try omega)))) | (with_reducible refine Below.trans ?_ (hb1.mono (by first | omega | (simp; try omega)))))⟩
end Go.Proofs.YtoloenkcfpfgcaaDoor
namespace Go.Proofs.YtoloenkcfpfgcaaDoor.fnExactToFloat
open Go.ChangeShapes Go.WideShapes Go.ChangeAt Go.RowKit
set_option linter.unusedVariables false
theorem i_mode (num power mode : Int) (hm : ¬ (0 ≤ mode ∧ mode ≤ 4)) (w : World) : Calls Tryd.prog 45 #[.int .i64 num, .int .i64 power, .int .i64 mode] w fun e w' => e = .returned (.int .u32 0) ∧ Below w.heap.size w w' := by
  have hg := goodMode_any mode w
  rw [decide_eq_false hm] at hg
  go_enter Tryd.func45, Tryd.ntmps45
  go_wp2_with (go_at_call 48; refine hg.mono ?_; rintro e w' ⟨rfl, hw⟩; subst w')
  go_ret
  exact ⟨rfl, Below.refl _ _⟩
theorem s_mode (num power mode : Int) (hm : ¬ (0 ≤ mode ∧ mode ≤ 4)) (w : World) : Calls Tryd.prog 43 #[.int .i64 num, .int .i64 power, .int .i64 mode] w fun e w' => e = .returned (.int .u32 0) ∧ Below w.heap.size w w' := by
  have hg := sGood_any mode w
  rw [decide_eq_false hm] at hg
  go_enter Tryd.func43, Tryd.ntmps43
  go_wp2_with (go_at_call 70; refine hg.mono ?_; rintro e w' ⟨rfl, hw⟩; subst w')
  go_ret
  exact ⟨rfl, Below.refl _ _⟩
theorem i_bad (num power mode : Int) (hm : 0 ≤ mode ∧ mode ≤ 4) (h : num = 0 ∨ power < -400 ∨ 400 < power) (w : World) : Calls Tryd.prog 45 #[.int .i64 num, .int .i64 power, .int .i64 mode] w fun e w' => e = .returned (.int .u32 0) ∧ Below w.heap.size w w' := by
  have hg := goodMode_any mode w
  rw [decide_eq_true hm] at hg
  by_cases h0 : num = 0
  · subst h0
    go_enter Tryd.func45, Tryd.ntmps45
    go_wp2_with (go_at_call 48; refine hg.mono ?_; rintro e w' ⟨rfl, hw⟩; subst w')
    go_ret
    exact ⟨rfl, Below.refl _ _⟩
  · have n0 : (num == 0) = false := by simpa using h0
    by_cases h1 : power < -400
    · clear h
      go_enter Tryd.func45, Tryd.ntmps45
      go_wp2_with (go_at_call 48; refine hg.mono ?_; rintro e w' ⟨rfl, hw⟩; subst w')
      go_ret
      exact ⟨rfl, Below.refl _ _⟩
    · have h2 : 400 < power := by omega
      clear h
      go_enter Tryd.func45, Tryd.ntmps45
      go_wp2_with (go_at_call 48; refine hg.mono ?_; rintro e w' ⟨rfl, hw⟩; subst w')
      go_ret
      exact ⟨rfl, Below.refl _ _⟩
theorem s_bad (num power mode : Int) (hm : 0 ≤ mode ∧ mode ≤ 4) (h : num = 0 ∨ power < -400 ∨ 400 < power) (w : World) : Calls Tryd.prog 43 #[.int .i64 num, .int .i64 power, .int .i64 mode] w fun e w' => e = .returned (.int .u32 0) ∧ Below w.heap.size w w' := by
  have hg := sGood_any mode w
  rw [decide_eq_true hm] at hg
  by_cases h1 : power < -400
  · clear h
    go_enter Tryd.func43, Tryd.ntmps43
    go_wp2_with (go_at_call 70; refine hg.mono ?_; rintro e w' ⟨rfl, hw⟩; subst w')
    go_ret
    exact ⟨rfl, Below.refl _ _⟩
  · by_cases h2 : 400 < power
    · clear h
      go_enter Tryd.func43, Tryd.ntmps43
      go_wp2_with (go_at_call 70; refine hg.mono ?_; rintro e w' ⟨rfl, hw⟩; subst w')
      go_ret
      exact ⟨rfl, Below.refl _ _⟩
    · obtain rfl : num = 0 := by omega
      clear h
      go_enter Tryd.func43, Tryd.ntmps43
      go_wp2_with (go_at_call 70; refine hg.mono ?_; rintro e w' ⟨rfl, hw⟩; subst w')
      go_ret
      exact ⟨rfl, Below.refl _ _⟩
theorem i_num (num power mode R z : Int) (hm : 0 ≤ mode ∧ mode ≤ 4) (h0 : ¬ num = 0) (a0 : -9223372036854775808 ≤ num) (a1 : num ≤ 9223372036854775807) (p0 : -400 ≤ power) (p1 : power ≤ 400) (hz : z = if num < 0 then -num else num) (w : World) (G : Forms w)
    (hR : ∀ v : World, Forms v → Calls Tryd.prog 55 #[.agg #[.bool (decide (num < 0)), .int .u64 z, .int .i64 power, .bool false], .int .i64 0, .int .i64 mode] v fun e w' => e = .returned (.int .u32 R) ∧ Below v.heap.size v w') :
    Calls Tryd.prog 45 #[.int .i64 num, .int .i64 power, .int .i64 mode] w fun e w' => e = .returned (.int .u32 R) ∧ Below w.heap.size w w' := by
  have hg := goodMode_any mode w
  rw [decide_eq_true hm] at hg
  have n0 : (num == 0) = false := by simpa using h0
  have q1 : ¬ power < -400 := by omega
  have q2 : ¬ 400 < power := by omega
  by_cases hn : num < 0
  · rw [if_pos hn] at hz
    subst hz
    rw [decide_eq_true hn] at hR
    have e1 : IntKind.u64.wrap num = num + 18446744073709551616 := by rw [IntKind.wrap_u64]; omega
    have e2 : IntKind.u64.wrap (-(num + 18446744073709551616)) = -num := by rw [IntKind.wrap_u64]; omega
    go_enter Tryd.func45, Tryd.ntmps45
    go_wp2_with (first | (go_at_call 48; refine hg.mono ?_; rintro e w' ⟨rfl, hw⟩; subst w') | (go_at_call 55; refine (hR _ (G.next (by repeat (first | (with_reducible refine Below.alloc ?_ (by first | omega | (simp; try omega)) _) | (with_reducible exact Below.refl _ _))))).mono ?_; rintro e w2 ⟨rfl, hb2⟩))
    go_ret
    exact ⟨rfl, by repeat (first | (with_reducible exact hb2) | (with_reducible refine Below.trans ?_ (hb2.mono (by first | omega | (simp; try omega)))) | (with_reducible refine Below.alloc ?_ (by first | omega | (simp; try omega)) _) | (with_reducible exact Below.refl _ _))⟩
  · rw [if_neg hn] at hz
    subst hz
    rw [decide_eq_false hn] at hR
    have hd : decide (z < 0) = false := by simpa using hn
    go_enter Tryd.func45, Tryd.ntmps45
    go_wp2_with (first | (go_at_call 48; refine hg.mono ?_; rintro e w' ⟨rfl, hw⟩; subst w') | (go_at_call 55; refine (hR _ (G.next (by repeat (first | (with_reducible refine Below.alloc ?_ (by first | omega | (simp; try omega)) _) | (with_reducible exact Below.refl _ _))))).mono ?_; rintro e w2 ⟨rfl, hb2⟩))
    go_ret
    exact ⟨rfl, by repeat (first | (with_reducible exact hb2) | (with_reducible refine Below.trans ?_ (hb2.mono (by first | omega | (simp; try omega)))) | (with_reducible refine Below.alloc ?_ (by first | omega | (simp; try omega)) _) | (with_reducible exact Below.refl _ _))⟩
theorem s_num (num power mode R : Int) (hm : 0 ≤ mode ∧ mode ≤ 4) (h0 : ¬ num = 0) (a0 : -9223372036854775808 ≤ num) (a1 : num ≤ 9223372036854775807) (p0 : -400 ≤ power) (p1 : power ≤ 400) (r0 : 0 ≤ R) (r1 : R < 4294967296) (w : World)
    (hT : ∀ (v : World) (V : Int) (g : Bool) (p : Option Addr) (l c : Nat), Num v 3 (.agg #[.int .i64 V, .bool g, .slice p l c]) num → Calls Tryd.prog 35 #[.agg #[.int .i64 V, .bool g, .slice p l c, .int .i64 1, .bool false, .slice none 0 0, .int .i64 power], .agg #[.int .i64 24, .int .i64 (-149), .int .i64 104], .int .i64 mode] v fun e w' => e = .returned (.int .i64 R) ∧ Below v.heap.size v w') :
    Calls Tryd.prog 43 #[.int .i64 num, .int .i64 power, .int .i64 mode] w fun e w' => e = .returned (.int .u32 R) ∧ Below w.heap.size w w' := by
  have hg := sGood_any mode w
  rw [decide_eq_true hm] at hg
  have n0 : (num == 0) = false := by simpa using h0
  have q1 : ¬ power < -400 := by omega
  have q2 : ¬ 400 < power := by omega
  have HE : Hid (Calls Tryd.prog 32 #[.int .i64 num, .int .i64 power] w fun e w' => ∃ V g p l c, e = .returned (.agg #[.int .i64 V, .bool g, .slice p l c, .int .i64 1, .bool false, .slice none 0 0, .int .i64 power]) ∧ Num w' 3 (.agg #[.int .i64 V, .bool g, .slice p l c]) num ∧ Below w.heap.size w w') := num_exact num power a0 a1 w
  go_enter Tryd.func43, Tryd.ntmps43
  go_wp2_with (first | (go_at_call 70; refine hg.mono ?_; rintro e w' ⟨rfl, hw⟩; subst w') | (go_at_call 32; refine (Hid.out HE).mono ?_; rintro e w1 ⟨V, g, p, l, c, rfl, NV, hb1⟩) | (go_at_call 36; refine (zWord w1).mono ?_; rintro e w2 ⟨rfl, hb2⟩) | (go_at_call 35; refine (hT w2 V g p l c (NV.next hb2)).mono ?_; rintro e w3 ⟨rfl, hb3⟩))
  go_ret
  exact ⟨rfl, (hb1.trans (hb2.mono hb1.size)).trans (hb3.mono (Nat.le_trans hb1.size hb2.size))⟩
/-- Both sides answer alike: one number for each three ints. -/
theorem both (num power mode : Int) (a0 : -9223372036854775808 ≤ num) (a1 : num ≤ 9223372036854775807) : ∃ R : Int,
    (∀ w : World, Calls Tryd.prog 43 #[.int .i64 num, .int .i64 power, .int .i64 mode] w fun e w' => e = .returned (.int .u32 R) ∧ Below w.heap.size w w') ∧
    (∀ w : World, Forms w → Calls Tryd.prog 45 #[.int .i64 num, .int .i64 power, .int .i64 mode] w fun e w' => e = .returned (.int .u32 R) ∧ Below w.heap.size w w') := by
  by_cases hm : 0 ≤ mode ∧ mode ≤ 4
  case neg => exact ⟨0, fun w => s_mode num power mode hm w, fun w _ => i_mode num power mode hm w⟩
  by_cases hb : num = 0 ∨ power < -400 ∨ 400 < power
  · exact ⟨0, fun w => s_bad num power mode hm hb w, fun w _ => i_bad num power mode hm hb w⟩
  obtain ⟨z, hz⟩ : ∃ z, num.natAbs = z := ⟨_, rfl⟩
  obtain ⟨R, r0, r1, hi, hs⟩ := whole_both_w (decide (num < 0)) z power mode num hm.1 hm.2 (by omega) (by omega) (by omega) (by omega) hz rfl
  refine ⟨R, fun w => s_num num power mode R hm (by omega) a0 a1 (by omega) (by omega) r0 r1 w (fun v V g p l c NV => ?_), fun w G => i_num num power mode R (z : Int) hm (by omega) a0 a1 (by omega) (by omega) (by split <;> omega) w G hi⟩
  exact hs v 3 3 V 1 g false p none l c 0 0 NV (num_small v 3 1 (by decide) (by decide)) (by decide) (by decide)
end Go.Proofs.YtoloenkcfpfgcaaDoor.fnExactToFloat
