/- Plain mathematics of the product of two rows of limbs, and the model's l1Minus; conditions: each limb below 10^9. -/
import Derived.Test.YtamoakodlmjbiaaDoorLimbs6
namespace Go.Proofs.YtamoakodlmjbiaaDoor
open Go.ChangeShapes Go.WideShapes Go.ChangeAt Go.RowKit

/-- A limb put into a row. -/
def put (g : Nat → Nat) (p v j : Nat) : Nat := if j = p then v else g j
theorem val_put (g : Nat → Nat) (p v : Nat) : val (put g p v) (p + 1) = val g p + v * 1000000000 ^ p := by
  simp only [val]
  rw [val_congr (put g p v) g p (fun i hi => by unfold put; rw [if_neg (by omega)])]
  simp [put]
theorem mul_inner (f g y : Nat → Nat) (i k X C s : Nat) (hs : s = g (i + k) + X * y k + C) (hg : g (i + k) = f (i + k))
    (h : val g (i + k) + C * 1000000000 ^ (i + k) = val f (i + k) + X * val y k * 1000000000 ^ i) :
    val (put g (i + k) (s % 1000000000)) (i + (k + 1)) + s / 1000000000 * 1000000000 ^ (i + (k + 1)) = val f (i + (k + 1)) + X * val y (k + 1) * 1000000000 ^ i := by
  rw [show i + (k + 1) = (i + k) + 1 from rfl, val_put]
  have e : s % 1000000000 + s / 1000000000 * 1000000000 = s := by omega
  have e2 : s % 1000000000 * 1000000000 ^ (i + k) + s / 1000000000 * 1000000000 ^ (i + k + 1) = s * 1000000000 ^ (i + k) := by
    rw [Nat.pow_succ, Nat.mul_comm (1000000000 ^ (i + k)) 1000000000, ← Nat.mul_assoc, ← Nat.add_mul, e]
  have e3 : s * 1000000000 ^ (i + k) = f (i + k) * 1000000000 ^ (i + k) + X * y k * 1000000000 ^ (i + k) + C * 1000000000 ^ (i + k) := by
    rw [hs, hg, Nat.add_mul, Nat.add_mul]
  have e4 : X * (y k * 1000000000 ^ k) * 1000000000 ^ i = X * y k * 1000000000 ^ (i + k) := by
    rw [Nat.pow_add, Nat.mul_comm (1000000000 ^ i), ← Nat.mul_assoc X, Nat.mul_assoc (X * y k)]
  simp only [val]
  rw [Nat.mul_add X, Nat.add_mul (X * val y k), e4]
  omega
theorem mul_outer (f g x y : Nat → Nat) (i m C : Nat) (hf : val f (i + m) = val x i * val y m)
    (h : val g (i + m) + C * 1000000000 ^ (i + m) = val f (i + m) + x i * val y m * 1000000000 ^ i) :
    val (put g (i + m) C) (i + 1 + m) = val x (i + 1) * val y m := by
  rw [show i + 1 + m = (i + m) + 1 by omega, val_put, h, hf]
  simp only [val]
  rw [Nat.add_mul, Nat.mul_right_comm]
theorem mul_bound (a b c X : Nat) (ha : a < 1000000000) (hb : b < 1000000000) (hc : c < 1000000000) (hX : X < 1000000000) : a + X * b + c < 1000000000000000000 ∧ (a + X * b + c) / 1000000000 < 1000000000 := by
  have p : X * b ≤ 999999999 * 999999999 := Nat.mul_le_mul (by omega) (by omega)
  omega
theorem val_zeros (f : Nat → Nat) (n : Nat) : ∀ k, (∀ j, n ≤ j → j < n + k → f j = 0) → val f (n + k) = val f n
  | 0, _ => rfl
  | k + 1, h => by
    have := val_zeros f n k (fun j h1 h2 => h j h1 (by omega))
    rw [← Nat.add_assoc]
    simp only [val]
    rw [this, h (n + k) (by omega) (by omega)]
    simp
end Go.Proofs.YtamoakodlmjbiaaDoor
