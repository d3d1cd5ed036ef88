/- Plain mathematics: what rows of limbs of nine digits are worth, and that sums, differences, products, order and left off noughts of rows are those of what they are worth. -/
import Derived.Test.YtamoakodlmjbiaaDoorLimbs5
namespace Go.Proofs.YtamoakodlmjbiaaDoor

/-- What the first n limbs are worth. -/
def val (f : Nat → Nat) : Nat → Nat
  | 0 => 0
  | n + 1 => val f n + f n * 1000000000 ^ n
theorem bpos (n : Nat) : 0 < 1000000000 ^ n := Nat.pow_pos (by decide)
theorem val_lt (f : Nat → Nat) : ∀ n, (∀ i, i < n → f i < 1000000000) → val f n < 1000000000 ^ n
  | 0, _ => by simp [val]
  | n + 1, h => by
    have a := val_lt f n (fun i hi => h i (by omega))
    have b : f n + 1 ≤ 1000000000 := h n (by omega)
    have c : (f n + 1) * 1000000000 ^ n ≤ 1000000000 * 1000000000 ^ n := Nat.mul_le_mul_right _ b
    rw [Nat.add_mul, Nat.one_mul] at c
    simp only [val, Nat.pow_succ]
    rw [Nat.mul_comm (1000000000 ^ n)]
    omega
theorem val_congr (f g : Nat → Nat) : ∀ n, (∀ i, i < n → f i = g i) → val f n = val g n
  | 0, _ => rfl
  | n + 1, h => by simp only [val]; rw [val_congr f g n (fun i hi => h i (by omega)), h n (by omega)]
theorem val_add (x y : Nat → Nat) : ∀ k, val (addDig x y) k + carry x y k * 1000000000 ^ k = val x k + val y k
  | 0 => by simp [val, carry]
  | k + 1 => by
    have ih := val_add x y k
    have e : addDig x y k + 1000000000 * carry x y (k + 1) = carry x y k + x k + y k := by
      unfold addDig; simp only [carry]; omega
    have e2 : addDig x y k * 1000000000 ^ k + carry x y (k + 1) * 1000000000 ^ (k + 1) = carry x y k * 1000000000 ^ k + x k * 1000000000 ^ k + y k * 1000000000 ^ k := by
      rw [← Nat.add_mul, ← Nat.add_mul, ← e, Nat.pow_succ, Nat.add_mul]
      rw [Nat.mul_comm (1000000000 ^ k), ← Nat.mul_assoc, Nat.mul_comm (carry x y (k + 1))]
    simp only [val]
    omega
theorem val_sub (x y : Nat → Nat) (hx : ∀ i, x i < 1000000000) (hy : ∀ i, y i < 1000000000) : ∀ k, val (subDig x y) k + val y k = val x k + borrow x y k * 1000000000 ^ k
  | 0 => by simp [val, borrow]
  | k + 1 => by
    have ih := val_sub x y hx hy k
    have b1 := borrow_le x y k
    have xk := hx k
    have yk := hy k
    have e : subDig x y k + borrow x y k + y k = x k + 1000000000 * borrow x y (k + 1) := by
      unfold subDig
      simp only [borrow]
      split <;> omega
    have e2 : subDig x y k * 1000000000 ^ k + borrow x y k * 1000000000 ^ k + y k * 1000000000 ^ k = x k * 1000000000 ^ k + borrow x y (k + 1) * 1000000000 ^ (k + 1) := by
      rw [← Nat.add_mul, ← Nat.add_mul, e, Nat.add_mul, Nat.pow_succ]
      rw [Nat.mul_comm (1000000000 ^ k), ← Nat.mul_assoc (borrow x y (k + 1)), Nat.mul_comm (borrow x y (k + 1))]
    simp only [val]
    omega
theorem val_mul (n : Nat) (d : Nat → Nat) (M : Nat) : ∀ k, k ≤ n → val (mulDig n d M) k + mcarry d M k * 1000000000 ^ k = val d k * M
  | 0, _ => by simp [val, mcarry]
  | k + 1, h => by
    have ih := val_mul n d M k (by omega)
    have e : mulDig n d M k + 1000000000 * mcarry d M (k + 1) = d k * M + mcarry d M k := by
      unfold mulDig
      rw [if_pos (by omega)]
      simp only [mcarry]
      omega
    have e2 : mulDig n d M k * 1000000000 ^ k + mcarry d M (k + 1) * 1000000000 ^ (k + 1) = d k * 1000000000 ^ k * M + mcarry d M k * 1000000000 ^ k := by
      rw [show d k * 1000000000 ^ k * M = d k * M * 1000000000 ^ k by rw [Nat.mul_assoc, Nat.mul_comm (1000000000 ^ k), ← Nat.mul_assoc]]
      rw [← Nat.add_mul, ← e, Nat.add_mul, Nat.pow_succ]
      rw [Nat.mul_comm (1000000000 ^ k), ← Nat.mul_assoc (mcarry d M (k + 1)), Nat.mul_comm (mcarry d M (k + 1))]
    simp only [val, Nat.add_mul]
    omega
theorem val_mul_all (n : Nat) (d : Nat → Nat) (M : Nat) : val (mulDig n d M) (n + 1) = val d n * M := by
  have h := val_mul n d M n (Nat.le_refl _)
  simp only [val]
  rw [show mulDig n d M n = mcarry d M n by unfold mulDig; rw [if_neg (by omega)]]
  exact h
theorem val_trim (f : Nat → Nat) : ∀ n, val f (trim f n) = val f n
  | 0 => rfl
  | n + 1 => by
    unfold trim
    by_cases h : f n = 0
    · rw [if_pos h, val_trim f n]; simp [val, h]
    · rw [if_neg h]
theorem trim_le (f : Nat → Nat) : ∀ n, trim f n ≤ n
  | 0 => Nat.le_refl _
  | n + 1 => by
    unfold trim
    by_cases h : f n = 0
    · rw [if_pos h]; have := trim_le f n; omega
    · rw [if_neg h]; omega
theorem trim_top (f : Nat → Nat) : ∀ n, trim f n = 0 ∨ f (trim f n - 1) ≠ 0
  | 0 => Or.inl rfl
  | n + 1 => by
    unfold trim
    by_cases h : f n = 0
    · rw [if_pos h]; exact trim_top f n
    · rw [if_neg h]; right; simpa using h
theorem cmpZ_shift (x y c : Int) : cmpZ (x + c) (y + c) = cmpZ x y := by
  unfold cmpZ
  simp only [Int.add_lt_add_iff_right]
theorem cmp_val (d e : Nat → Nat) : ∀ n, (∀ i, i < n → d i < 1000000000) → (∀ i, i < n → e i < 1000000000) → cmpTop d e n = cmpZ (val d n) (val e n)
  | 0, _, _ => by simp [cmpTop, val, cmpZ]
  | n + 1, hd, he => by
    have ih := cmp_val d e n (fun i hi => hd i (by omega)) (fun i hi => he i (by omega))
    have a := val_lt d n (fun i hi => hd i (by omega))
    have b := val_lt e n (fun i hi => he i (by omega))
    simp only [cmpTop, val]
    by_cases h1 : d n < e n
    · have c : (d n + 1) * 1000000000 ^ n ≤ e n * 1000000000 ^ n := Nat.mul_le_mul_right _ h1
      rw [Nat.add_mul, Nat.one_mul] at c
      rw [if_pos h1]; unfold cmpZ; rw [if_pos (by omega)]
    · rw [if_neg h1]
      by_cases h2 : e n < d n
      · have c : (e n + 1) * 1000000000 ^ n ≤ d n * 1000000000 ^ n := Nat.mul_le_mul_right _ h2
        rw [Nat.add_mul, Nat.one_mul] at c
        rw [if_pos h2]; unfold cmpZ; rw [if_neg (by omega), if_pos (by omega)]
      · rw [if_neg h2, ih, show d n = e n by omega, Int.natCast_add, Int.natCast_add, cmpZ_shift]
end Go.Proofs.YtamoakodlmjbiaaDoor
