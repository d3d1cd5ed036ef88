/- Ground for the laws of words: whole numbers of one power are exact; the sign of two words together; l1Half; what the program's product is. -/
import Derived.Test.YtfogppgpbcelgaaDoorLimbs39
import Derived.Test.YtfogppgpbcelgaaDoorImpl
import Derived.Test.YtfogppgpbcelgaaDoorSpec
import Derived.Test.YtfogppgpbcelgaaDoorTold16
namespace Go.Proofs.YtfogppgpbcelgaaDoor
open Go.ChangeShapes Go.WideShapes Go.ChangeAt Go.RowKit
set_option linter.unusedVariables false
theorem exact_z (z : Nat) (E : Int) : sa (z * 2 ^ E.toNat) E / sb (1 * 2 ^ (-E).toNat) E = z ∧ sa (z * 2 ^ E.toNat) E % sb (1 * 2 ^ (-E).toNat) E = 0 := by
  unfold sa sb
  have h : 0 < 2 ^ (-E).toNat * 2 ^ E.toNat := Nat.mul_pos (p2 _) (p2 _)
  rw [Nat.one_mul, Nat.mul_assoc, Nat.mul_comm (2 ^ E.toNat)]
  exact ⟨Nat.mul_div_cancel _ h, Nat.mul_mod_left _ _⟩
theorem big_gen (z k A B : Nat) (hz : z ≤ 2 ^ A) (hk : k ≤ B) : z * 2 ^ k ≤ 2 ^ (A + B) := by
  rw [Nat.pow_add]; exact Nat.mul_le_mul hz (Nat.pow_le_pow_right (by decide) hk)
theorem huge (A B : Nat) (hA : A = 64) (hB : B = 1000) : 2 ^ (A + B) < 1000000000 ^ 60 := by
  subst hA hB; decide +kernel
theorem big_lt (z k : Nat) (hz : z < 18446744073709551616) (hk : k ≤ 1000) : z * 2 ^ k < 1000000000 ^ 60 := by
  obtain ⟨A, hA⟩ : ∃ A, A = 64 := ⟨_, rfl⟩
  obtain ⟨B, hB⟩ : ∃ B, B = 1000 := ⟨_, rfl⟩
  exact Nat.lt_of_le_of_lt (big_gen z k A B (by rw [hA]; omega) (by omega)) (huge A B hA hB)
/-- A whole number times a power of 2: both sides round it alike, to a word. -/
theorem whole_both_w (n : Bool) (z : Nat) (E mode X : Int) (m0 : 0 ≤ mode) (m4 : mode ≤ 4) (z0 : 0 < z) (z1 : z < 18446744073709551616) (e0 : -1000 ≤ E) (e1 : E ≤ 800) (hX : X.natAbs = z) (hn : decide (X < 0) = n) :
    ∃ R : Int, 0 ≤ R ∧ R < 4294967296 ∧
      (∀ v : World, Forms v → Calls Tryd.prog 18 #[.agg #[.bool n, .int .u64 (z : Int), .int .i64 E, .bool false], .int .i64 0, .int .i64 mode] v fun e w' => e = .returned (.int .u32 R) ∧ Below v.heap.size v w') ∧
      (∀ (v : World) (K L : Nat) (VP VQ : Int) (gP gQ : Bool) (pP pQ : Option Addr) (lP cP lQ cQ : Nat), Num v K (.agg #[.int .i64 VP, .bool gP, .slice pP lP cP]) X → Num v L (.agg #[.int .i64 VQ, .bool gQ, .slice pQ lQ cQ]) 1 → 2 ≤ K → K ≤ 9000 →
        Calls Tryd.prog 14 #[.agg #[.int .i64 VP, .bool gP, .slice pP lP cP, .int .i64 VQ, .bool gQ, .slice pQ lQ cQ, .int .i64 E], .agg #[.int .i64 24, .int .i64 (-149), .int .i64 104], .int .i64 mode] v fun e w' => e = .returned (.int .i64 R) ∧ Below v.heap.size v w') :=
  both_w n z E false mode m0 m4 z0 z1 (by omega) e1 X 1 E (by omega) e0 (by omega) (z * 2 ^ E.toNat) (1 * 2 ^ (-E).toNat) z 1 hX.symm rfl rfl rfl (by decide) (big_lt z _ z1 (by omega)) (big_lt 1 _ (by decide) (by omega)) hn (exact_z z E).1 (by rw [(exact_z z E).2]; rfl) (fun h => by cases h)
/-- The same, to a half. -/
theorem whole_both_h (n : Bool) (z : Nat) (E mode X : Int) (m0 : 0 ≤ mode) (m4 : mode ≤ 4) (z0 : 0 < z) (z1 : z < 18446744073709551616) (e0 : -1000 ≤ E) (e1 : E ≤ 800) (hX : X.natAbs = z) (hn : decide (X < 0) = n) :
    ∃ R : Int, 0 ≤ R ∧ R < 4294967296 ∧
      (∀ v : World, Forms v → Calls Tryd.prog 18 #[.agg #[.bool n, .int .u64 (z : Int), .int .i64 E, .bool false], .int .i64 1, .int .i64 mode] v fun e w' => e = .returned (.int .u32 R) ∧ Below v.heap.size v w') ∧
      (∀ (v : World) (K L : Nat) (VP VQ : Int) (gP gQ : Bool) (pP pQ : Option Addr) (lP cP lQ cQ : Nat), Num v K (.agg #[.int .i64 VP, .bool gP, .slice pP lP cP]) X → Num v L (.agg #[.int .i64 VQ, .bool gQ, .slice pQ lQ cQ]) 1 → 2 ≤ K → K ≤ 9000 →
        Calls Tryd.prog 14 #[.agg #[.int .i64 VP, .bool gP, .slice pP lP cP, .int .i64 VQ, .bool gQ, .slice pQ lQ cQ, .int .i64 E], .agg #[.int .i64 11, .int .i64 (-24), .int .i64 5], .int .i64 mode] v fun e w' => e = .returned (.int .i64 R) ∧ Below v.heap.size v w') :=
  both_h n z E false mode m0 m4 z0 z1 (by omega) e1 X 1 E (by omega) e0 (by omega) (z * 2 ^ E.toNat) (1 * 2 ^ (-E).toNat) z 1 hX.symm rfl rfl rfl (by decide) (big_lt z _ z1 (by omega)) (big_lt 1 _ (by decide) (by omega)) hn (exact_z z E).1 (by rw [(exact_z z E).2]; rfl) (fun h => by cases h)
theorem xor_top (a b : Nat) : (a ^^^ b) / 2147483648 = (a / 2147483648) ^^^ (b / 2147483648) := by
  have h := Nat.shiftRight_xor_distrib (a := a) (b := b) (i := 31)
  simp only [Nat.shiftRight_eq_div_pow] at h
  exact h
/-- The sign of two words together. -/
theorem xor_sign (a b : Int) (a0 : 0 ≤ a) (a1 : a < 4294967296) (b0 : 0 ≤ b) (b1 : b < 4294967296) :
    0 ≤ bits .xor .u32 a b ∧ bits .xor .u32 a b < 4294967296 ∧ bits .xor .u32 a b / 2147483648 * 2147483648 = if (decide (2147483648 ≤ a) != decide (2147483648 ≤ b)) = true then 2147483648 else 0 := by
  obtain ⟨A, rfl⟩ := Int.eq_ofNat_of_zero_le a0
  obtain ⟨B, rfl⟩ := Int.eq_ofNat_of_zero_le b0
  have h : bits .xor .u32 (A : Int) (B : Int) = ((A ^^^ B : Nat) : Int) := by
    have := u32_xor_nat A B (by omega) (by omega)
    exact this
  have l : A ^^^ B < 2 ^ 32 := Nat.xor_lt_two_pow (by omega) (by omega)
  have t := xor_top A B
  rw [h]
  refine ⟨by omega, by omega, ?_⟩
  have ha : A / 2147483648 = 0 ∨ A / 2147483648 = 1 := by omega
  have hb : B / 2147483648 = 0 ∨ B / 2147483648 = 1 := by omega
  rcases ha with ha | ha <;> rcases hb with hb | hb <;> rw [ha, hb] at t
  · have e1 : ¬ (2147483648 : Int) ≤ (A : Int) := by omega
    have e2 : ¬ (2147483648 : Int) ≤ (B : Int) := by omega
    simp only [e1, e2, decide_false, bne_self_eq_false, Bool.false_eq_true, if_false]
    have : (0 : Nat) ^^^ 0 = 0 := rfl
    omega
  · have e1 : ¬ (2147483648 : Int) ≤ (A : Int) := by omega
    have e2 : (2147483648 : Int) ≤ (B : Int) := by omega
    have : (0 : Nat) ^^^ 1 = 1 := rfl
    rw [if_pos (by simp [e1, e2])]
    omega
  · have e1 : (2147483648 : Int) ≤ (A : Int) := by omega
    have e2 : ¬ (2147483648 : Int) ≤ (B : Int) := by omega
    have : (1 : Nat) ^^^ 0 = 1 := rfl
    rw [if_pos (by simp [e1, e2])]
    omega
  · have e1 : (2147483648 : Int) ≤ (A : Int) := by omega
    have e2 : (2147483648 : Int) ≤ (B : Int) := by omega
    have : (1 : Nat) ^^^ 1 = 0 := rfl
    rw [if_neg (by simp [e1, e2])]
    omega
theorem Forms.next {w w' : World} (G : Forms w) (hb : Below w.heap.size w w') : Forms w' := by
  have h : 0 < w.heap.size := G.pos
  have e : ∀ i : Nat, w'.cell? ⟨0, i, none⟩ = w.cell? ⟨0, i, none⟩ := fun i => hb.cell (p := ⟨0, i, none⟩) h
  exact ⟨(e 0).trans G.c0, (e 1).trans G.c1, (e 2).trans G.c2, (e 3).trans G.c3, (e 4).trans G.c4, (e 5).trans G.c5, (e 6).trans G.c6, (e 7).trans G.c7⟩
end Go.Proofs.YtfogppgpbcelgaaDoor
