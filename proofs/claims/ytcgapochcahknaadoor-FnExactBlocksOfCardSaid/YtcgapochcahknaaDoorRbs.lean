/- Rows of bools as the laws hold them (eqBoolS, markBoolS, heldBoolS); conditions: at most 2^20 long. -/
import Derived.Test.YtcgapochcahknaaDoorRcm
import Derived.BigQuiet
namespace Go.Proofs.YtcgapochcahknaaDoor
open Go.ChangeShapes Go.WideShapes Go.ChangeAt Go.RowKit
set_option linter.unusedVariables false
/-- A row of whole numbers in a block from lo to hi, or none. -/
def BRow (w : World) (lo hi : Nat) (v : Value) (f : Nat → Bool) (n : Nat) : Prop := (n = 0 ∧ ∃ a c, v = .slice a 0 c) ∨ ∃ g c, v = .slice (some ⟨g, 0, none⟩) n c ∧ lo ≤ g ∧ g < hi ∧ Own w g n (fun i => .bool (f i))
theorem BRow.next {w w' : World} {lo hi : Nat} {v : Value} {f : Nat → Bool} {n : Nat} (h : BRow w lo hi v f n) (b : Below w.heap.size w w') : BRow w' lo hi v f n := by
  rcases h with h | ⟨g, c, hv, h1, h2, O⟩
  · exact Or.inl h
  · exact Or.inr ⟨g, c, hv, h1, h2, O.next b⟩
theorem BRow.but {w w' : World} {lo hi p : Nat} {v : Value} {f : Nat → Bool} {n : Nat} (h : BRow w lo hi v f n) (b : Only p w w') (hp : hi ≤ p) : BRow w' lo hi v f n := by
  rcases h with h | ⟨g, c, hv, h1, h2, O⟩
  · exact Or.inl h
  · exact Or.inr ⟨g, c, hv, h1, h2, O.but b (by omega)⟩
end Go.Proofs.YtcgapochcahknaaDoor
