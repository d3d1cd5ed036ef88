/- Contracts of the program's productOf, and of MulWords, the program's and the model's, by the kinds of the two words. -/
import Derived.Test.YtpildklndfgojaaDoorWords
namespace Go.Proofs.YtpildklndfgojaaDoor
open Go.ChangeShapes Go.WideShapes Go.ChangeAt Go.RowKit
set_option linter.unusedVariables false
theorem blk4 {w : World} {b : Nat} {x0 x1 x2 x3 : Value} {t : TypeId} (h : w.heap[b]? = some (.cells #[x0, x1, x2, x3] t (0, 0))) :
    (w.cell? ⟨b, 0, none⟩ = some x0 ∧ w.cell? ⟨b, 1, none⟩ = some x1 ∧ w.cell? ⟨b, 2, none⟩ = some x2 ∧ w.cell? ⟨b, 3, none⟩ = some x3) ∧ (w.frozen? ⟨b, 0, none⟩ = false ∧ w.frozen? ⟨b, 1, none⟩ = false ∧ w.frozen? ⟨b, 2, none⟩ = false ∧ w.frozen? ⟨b, 3, none⟩ = false) := by
  refine ⟨⟨?_, ?_, ?_, ?_⟩, ?_, ?_, ?_, ?_⟩ <;> simp [World.cell?, World.frozen?, h]
theorem kind_bd (r : Int) : 0 ≤ kindI r ∧ kindI r ≤ 3 := by unfold kindI; repeat' split
                                                            all_goals omega
/-- A word's kind, and what the model's questions answer of it. -/
theorem kind_tests (r : Int) (h0 : 0 ≤ r) : decide (2139095040 < r) = decide (kindI r = 3) ∧ decide (r = 2139095040) = decide (kindI r = 2) ∧ decide (r = 0) = decide (kindI r = 0) := by
  unfold kindI
  refine ⟨?_, ?_, ?_⟩ <;> rw [Bool.eq_iff_iff] <;> simp only [decide_eq_true_eq] <;> (repeat' split) <;> omega
theorem or_inf (neg : Bool) : bits .or .u32 (if neg = true then 2147483648 else 0) 2139095040 = sgn_w neg 2139095040 := by
  cases neg
  · have h := u32_or_nat 0 2139095040 (by decide) (by decide)
    simpa [sgn_w] using h
  · have h := u32_or_nat 2147483648 2139095040 (by decide) (by decide)
    have e : (2147483648 : Nat) ||| 2139095040 = 4286578688 := by decide
    rw [e] at h
    simpa [sgn_w] using h
end Go.Proofs.YtpildklndfgojaaDoor
