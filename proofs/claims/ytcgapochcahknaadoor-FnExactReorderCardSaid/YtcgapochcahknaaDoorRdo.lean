/- The model's ReadsOf. -/
import Derived.Test.YtcgapochcahknaaDoorRdt
import Derived.Test.YtcgapochcahknaaDoorGd
import Derived.Test.YtcgapochcahknaaDoorEnc
namespace Go.Proofs.YtcgapochcahknaaDoor
open Go.ChangeShapes Go.WideShapes Go.ChangeAt Go.RowKit
set_option linter.unusedVariables false
/-- What ReadsOf answers. -/
def rdL (o d a b c x : Int) : List Int := if goodI o d a b c x 600 then srt (opsL o a b c x) else []
theorem good_call1 {o d a b c x n : Int} (hg : goodI o d a b c x n = true) (h4 : o = 4) : 1 ≤ ar (calW x) := by
  have hs : swOk o a b c x = true := by
    unfold goodI at hg
    simp only [Bool.and_eq_true] at hg
    exact hg.2
  rw [h4] at hs
  unfold swOk callOk at hs
  simp only [Bool.and_eq_true, decide_eq_true_eq, show ¬ (4 : Int) = 3 by decide, if_false, if_true] at hs
  exact hs.1.1.1
end Go.Proofs.YtcgapochcahknaaDoor
