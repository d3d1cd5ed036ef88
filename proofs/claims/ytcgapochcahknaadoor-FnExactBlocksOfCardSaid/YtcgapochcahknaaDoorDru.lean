/- The model's DropUnreached. -/
import Derived.Test.YtcgapochcahknaaDoorUnr
import Derived.Test.YtcgapochcahknaaDoorRco
namespace Go.Proofs.YtcgapochcahknaaDoor
open Go.ChangeShapes Go.WideShapes Go.ChangeAt Go.RowKit
set_option linter.unusedVariables false
theorem okF_at {o d a b c x n : Int} (h : okF o d a b c x n 5 = true) (f : Nat) (hf : f < 5) : inB (val d a b c x f) (gv o f n) = true := by
  cases hv : inB (val d a b c x f) (gv o f n)
  · rw [okF_stop o d a b c x n f hv 5 hf] at h; cases h
  · rfl
theorem tgs_of {O D A B C X : Nat → Int} {n : Nat} (h : goodC O D A B C X n = true) : Tgs O A B C n := by
  unfold goodC at h
  simp only [Bool.and_eq_true, decide_eq_true_eq] at h
  obtain ⟨⟨h1, h2⟩, h3, _⟩ := h
  intro k hk
  have hg := allB_at _ n k h3 hk
  have hf : okF (O k) (D k) (A k) (B k) (C k) (X k) (n : Int) 5 = true := by
    unfold gdI goodI at hg
    rw [Bool.and_eq_true] at hg
    exact hg.1
  have f1 := okF_at hf 1 (by omega)
  have f2 := okF_at hf 2 (by omega)
  have f3 := okF_at hf 3 (by omega)
  refine ⟨fun h8 => ?_, fun h9 => ?_⟩
  · rw [h8] at f1
    simp [gv, nmd, isN, val, inB] at f1
    omega
  · rw [h9] at f2 f3
    simp [gv, nmd, isN, val, inB] at f2 f3
    omega
theorem tkN_pos (O : Nat → Int) (Z : Nat → Bool) (n : Nat) (h : 1 ≤ n) : 1 ≤ tkN O Z n := by
  unfold tkN
  split
  · rename_i ht
    unfold takB at ht
    simp only [Bool.and_eq_true, decide_eq_true_eq] at ht
    omega
  · exact h
/-- How many instructions DropUnreached answers. -/
noncomputable def duN (O D A B C X : Nat → Int) (n : Nat) : Nat := if goodC O D A B C X n then tkN O (unB O A B C n) n else 0
end Go.Proofs.YtcgapochcahknaaDoor
