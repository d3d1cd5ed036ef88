/- The program's ReachedOf: what the model answers. -/
import Derived.Test.YtcgapochcahknaaDoorRci
import Derived.Test.YtcgapochcahknaaDoorRco
import Derived.Test.YtcgapochcahknaaDoorDru
import Derived.Lib.SliceRun
namespace Go.Proofs.YtcgapochcahknaaDoor
open Go.ChangeShapes Go.WideShapes Go.ChangeAt Go.RowKit
set_option linter.unusedVariables false
theorem sucs_of {O D A B C X : Nat → Int} {n : Nat} (h : goodC O D A B C X n = true) : Sucs O A B C n := by
  have hT := tgs_of h
  have hl : lastB (O (n - 1)) = true := by
    unfold goodC at h
    simp only [Bool.and_eq_true] at h
    exact h.2.2
  have hn : 1 ≤ n := (goodC_bds h).2.1
  intro k hk t ht
  unfold sucL tgL at ht
  rcases List.mem_append.1 ht with h1 | h1
  · split at h1
    · rename_i e
      have := (hT k hk).1 e
      simp at h1
      subst h1
      exact this
    · split at h1
      · rename_i e
        have := (hT k hk).2 e
        simp at h1
        rcases h1 with rfl | rfl
        · exact this.1
        · exact this.2
      · cases h1
  · split at h1
    · cases h1
    · rename_i e
      simp at h1
      subst h1
      refine ⟨by omega, ?_⟩
      by_cases ek : k = n - 1
      · subst ek
        unfold lastB at hl
        simp at hl
        omega
      · omega
def blL (f : Nat → Bool) (n : Nat) : List Value := (List.range n).map fun i => .bool (f i)
end Go.Proofs.YtcgapochcahknaaDoor
