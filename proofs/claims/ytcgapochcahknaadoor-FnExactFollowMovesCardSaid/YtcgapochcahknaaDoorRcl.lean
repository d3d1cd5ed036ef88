/- The walk of the law FnExactReachedOf, given what the program's ReachedOf answers. -/
import Derived.Test.YtcgapochcahknaaDoorRco
import Derived.Test.YtcgapochcahknaaDoorRwm
namespace Go.Proofs.YtcgapochcahknaaDoor
open Go.ChangeShapes Go.WideShapes Go.ChangeAt Go.RowKit
set_option linter.unusedVariables false
set_option maxRecDepth 100000 in
theorem sz8 (a : Option Addr) (n cap : Nat) (w : World) (hn : n ≤ 9223372036854775807) : Calls Tryd.prog 9 #[.slice a n cap, .int .i64 1048576] w fun r w' => (∃ z : Int, r = .returned (.int .i64 z) ∧ (z < 0 ∨ 0 ≤ z ∧ n ≤ 1048576)) ∧ w' = w := by
  by_cases big : 1048576 < n
  · have h : (1048576 : Int) - (n : Int) < 0 := by omega
    go_enter Tryd.func9, Tryd.ntmps9
    go_wp2
    go_ret
    exact ⟨⟨-1, rfl, Or.inl (by decide)⟩, rfl⟩
  · have h : 0 ≤ (1048576 : Int) - (n : Int) := by omega
    go_enter Tryd.func9, Tryd.ntmps9
    go_wp2
    go_ret
    exact ⟨⟨_, rfl, Or.inr ⟨h, by omega⟩⟩, rfl⟩
end Go.Proofs.YtcgapochcahknaaDoor
