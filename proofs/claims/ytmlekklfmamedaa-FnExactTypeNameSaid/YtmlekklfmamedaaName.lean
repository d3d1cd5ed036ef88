/- Contracts of TypeName of the program and of the model. -/
import Derived.Test.YtmlekklfmamedaaRows
import Derived.WalkKit
import Derived.ProofKit
namespace Go.Proofs.Ytmlekklfmamedaa
open Go.ChangeShapes Go.WideShapes Go.ChangeAt Go.RowKit
set_option linter.unusedVariables false
def nameT (a : Int) : ByteArray := if a = 0 then ⟨#[110, 111, 110, 101]⟩ else if a = 1 then ⟨#[105, 110, 116]⟩ else if a = 2 then ⟨#[102, 108, 111, 97, 116]⟩ else if a = 3 then ⟨#[98, 111, 111, 108]⟩ else ⟨#[]⟩
theorem s4 (a : Int) (w : World) : Calls Try.prog 4 #[.int .i64 a] w fun e w' => e = .returned (.string (nameT a)) ∧ w' = w := by
  by_cases h0 : a = 0
  · subst h0
    go_enter Try.func4, Try.ntmps4
    go_wp2
    go_ret
    exact ⟨rfl, rfl⟩
  by_cases h1 : a = 1
  · subst h1
    go_enter Try.func4, Try.ntmps4
    go_wp2
    go_ret
    exact ⟨rfl, rfl⟩
  by_cases h2 : a = 2
  · subst h2
    go_enter Try.func4, Try.ntmps4
    go_wp2
    go_ret
    exact ⟨rfl, rfl⟩
  by_cases h3 : a = 3
  · subst h3
    go_enter Try.func4, Try.ntmps4
    go_wp2
    go_ret
    exact ⟨rfl, rfl⟩
  have hn : nameT a = ⟨#[]⟩ := by unfold nameT; rw [if_neg h0, if_neg h1, if_neg h2, if_neg h3]
  rw [hn]
  go_enter Try.func4, Try.ntmps4
  go_wp2
  go_ret
  exact ⟨rfl, rfl⟩
theorem s5 (a : Int) (w : World) : Calls Try.prog 5 #[.int .i64 a] w fun e w' => e = .returned (.string (nameT a)) ∧ w' = w := by
  by_cases h0 : a = 0
  · subst h0
    go_enter Try.func5, Try.ntmps5
    go_wp2
    go_ret
    exact ⟨rfl, rfl⟩
  by_cases h1 : a = 1
  · subst h1
    go_enter Try.func5, Try.ntmps5
    go_wp2
    go_ret
    exact ⟨rfl, rfl⟩
  by_cases h2 : a = 2
  · subst h2
    go_enter Try.func5, Try.ntmps5
    go_wp2
    go_ret
    exact ⟨rfl, rfl⟩
  by_cases h3 : a = 3
  · subst h3
    go_enter Try.func5, Try.ntmps5
    go_wp2
    go_ret
    exact ⟨rfl, rfl⟩
  have hn : nameT a = ⟨#[]⟩ := by unfold nameT; rw [if_neg h0, if_neg h1, if_neg h2, if_neg h3]
  rw [hn]
  go_enter Try.func5, Try.ntmps5
  go_wp2
  go_ret
  exact ⟨rfl, rfl⟩
end Go.Proofs.Ytmlekklfmamedaa
