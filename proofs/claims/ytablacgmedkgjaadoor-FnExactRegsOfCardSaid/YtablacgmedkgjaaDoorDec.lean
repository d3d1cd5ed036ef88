/- What is read out of bytes as code, told without a program. -/
import Derived.Test.YtablacgmedkgjaaDoorEnc
namespace Go.Proofs.YtablacgmedkgjaaDoor
open Go.ChangeShapes Go.WideShapes Go.ChangeAt Go.RowKit
set_option linter.unusedVariables false
/-- Bytes, and noughts behind them. -/
def fz (f : Nat → Int) (N : Nat) (i : Nat) : Int := if i < N then f i else 0
/-- The number of w bytes from p on, the lowest first. -/
def num (s : Nat → Int) : Nat → Nat → Int
  | _, 0 => 0
  | p, w + 1 => s p + 256 * num s (p + 1) w
def Bt (s : Nat → Int) : Prop := ∀ i, 0 ≤ s i ∧ s i < 256
theorem fz_bt {f : Nat → Int} {N : Nat} (h : ∀ i, 0 ≤ f i ∧ f i < 256) : Bt (fz f N) := fun i => by
  unfold fz
  split
  · exact h i
  · omega
theorem num_range {s : Nat → Int} (h : Bt s) : ∀ (w p : Nat), w ≤ 4 → 0 ≤ num s p w ∧ num s p w < 4294967296 := by
  intro w p hw
  have a := h p
  have b := h (p + 1)
  have c := h (p + 1 + 1)
  have d := h (p + 1 + 1 + 1)
  rcases (by omega : w = 0 ∨ w = 1 ∨ w = 2 ∨ w = 3 ∨ w = 4) with rfl | rfl | rfl | rfl | rfl <;> simp only [num] <;> omega
/-- Where a field stands of an op at p. -/
def qs (o : Int) (p : Nat) : Nat → Nat
  | 0 => p + 1
  | j + 1 => qs o p j + (if nmd o j then fldW j else 0)
def pvl (s : Nat → Int) (o : Int) (p j : Nat) : Int := if nmd o j then num s (qs o p j) (fldW j) else 0
def pp (s : Nat → Int) : Nat → Nat
  | 0 => 6
  | k + 1 => qs (s (pp s k)) (pp s k) 5
def pO (s : Nat → Int) (k : Nat) : Int := s (pp s k)
def pF (s : Nat → Int) (j k : Nat) : Int := pvl s (pO s k) (pp s k) j
theorem pvl_range {s : Nat → Int} (h : Bt s) (o : Int) (p j : Nat) : 0 ≤ pvl s o p j ∧ pvl s o p j < 4294967296 := by
  unfold pvl
  split
  · exact num_range h _ _ (by unfold fldW; split <;> omega)
  · omega
theorem qs_le (o : Int) (p : Nat) : ∀ j, p + 1 ≤ qs o p j ∧ qs o p j ≤ p + 1 + 4 * j
  | 0 => by simp [qs]
  | j + 1 => by
    have := qs_le o p j
    unfold qs
    split
    · unfold fldW; split <;> omega
    · omega
theorem qs_mono (o : Int) (p : Nat) : ∀ i j, i ≤ j → qs o p i ≤ qs o p j
  | i, 0, h => by
    obtain rfl : i = 0 := by omega
    exact Nat.le_refl _
  | i, j + 1, h => by
    by_cases e : i = j + 1
    · subst e; exact Nat.le_refl _
    · have := qs_mono o p i j (by omega)
      rw [qs]; omega
theorem pp_mono (s : Nat → Int) : ∀ i j, i ≤ j → pp s i ≤ pp s j
  | i, 0, h => by
    obtain rfl : i = 0 := by omega
    exact Nat.le_refl _
  | i, j + 1, h => by
    by_cases e : i = j + 1
    · subst e; exact Nat.le_refl _
    · have := pp_mono s i j (by omega)
      have h2 := (qs_le (s (pp s j)) (pp s j) 5).1
      rw [pp]; omega
end Go.Proofs.YtablacgmedkgjaaDoor
