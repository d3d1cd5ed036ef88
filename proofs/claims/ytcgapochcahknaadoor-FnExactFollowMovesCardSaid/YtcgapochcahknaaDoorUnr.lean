/- The model's l12Unreached. -/
import Derived.Test.YtcgapochcahknaaDoorTkm
namespace Go.Proofs.YtcgapochcahknaaDoor
open Go.ChangeShapes Go.WideShapes Go.ChangeAt Go.RowKit
set_option linter.unusedVariables false
/-- What is not reached. -/
noncomputable def unB (O A B C : Nat → Int) (n : Nat) : Nat → Bool := fun i => !rchB O A B C n i
def Tgs (O A B C : Nat → Int) (n : Nat) : Prop := ∀ k, k < n → (O k = 8 → 0 ≤ A k ∧ A k < n) ∧ (O k = 9 → (0 ≤ B k ∧ B k < n) ∧ 0 ≤ C k ∧ C k < n)
end Go.Proofs.YtcgapochcahknaaDoor
