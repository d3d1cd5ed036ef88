/- The model's ReachedOf. -/
import Derived.Test.YtcgapochcahknaaDoorRbs
import Derived.Test.YtcgapochcahknaaDoorEnc
namespace Go.Proofs.YtcgapochcahknaaDoor
open Go.ChangeShapes Go.WideShapes Go.ChangeAt Go.RowKit
set_option linter.unusedVariables false
theorem goodC_bds {O D A B C X : Nat → Int} {n : Nat} (h : goodC O D A B C X n = true) : n ≤ 600 ∧ 1 ≤ n ∧ ∀ k, k < n → Bds (O k) (D k) (A k) (B k) (C k) (X k) := by
  unfold goodC at h
  simp only [Bool.and_eq_true, decide_eq_true_eq] at h
  obtain ⟨⟨h1, h2⟩, h3, _⟩ := h
  exact ⟨h2, h1, fun k hk => bds_of (allB_at _ n k h3 hk) (by omega)⟩
/-- How many answers ReachedOf gives. -/
def rcN (O D A B C X : Nat → Int) (n : Nat) : Nat := if goodC O D A B C X n then n else 0
theorem BRow.bel {w w' : World} {lo hi p : Nat} {v : Value} {f : Nat → Bool} {n : Nat} (h : BRow w lo hi v f n) (b : Only p w w') (hp : p < lo) : BRow w' lo hi v f n := by
  rcases h with h | ⟨g, c, hv, h1, h2, O⟩
  · exact Or.inl h
  · exact Or.inr ⟨g, c, hv, h1, h2, O.but b (by omega)⟩
end Go.Proofs.YtcgapochcahknaaDoor
