/- Rows of commands as the laws take them: counted, as arguments; verdicts compared. -/
import Derived.Test.YtnbpncjbfnhkjaaVi
namespace Go.Proofs.Ytnbpncjbfnhkjaa
open Go.ChangeShapes Go.WideShapes Go.ChangeAt Go.RowKit
set_option linter.unusedVariables false
set_option maxHeartbeats 2000000 in
theorem szC (ad : Option Addr) (n c : Nat) (w : World) (hn : n ≤ 9223372036854775807) : Calls Try.prog 17 #[.slice ad n c, .int .i64 1048576] w fun e w' => e = .returned (.int .i64 (if n ≤ 1048576 then 1048576 - (n : Int) else -1)) ∧ w' = w := by
  by_cases h : n ≤ 1048576
  · rw [if_pos h]
    have h1 : ¬ (1048576 : Int) - (n : Int) < 0 := by omega
    go_enter Try.func17, Try.ntmps17
    go_wp2
    go_ret
    exact ⟨rfl, rfl⟩
  · rw [if_neg h]
    have h1 : (1048576 : Int) - (n : Int) < 0 := by omega
    go_enter Try.func17, Try.ntmps17
    go_wp2
    go_ret
    exact ⟨rfl, rfl⟩
theorem RowC.arg {w : World} {o n : Nat} {K T F O M : Nat → Int} (h : RowC w o n K T F O M) : ArgC w (some ⟨o, 0, none⟩) n K T F O M :=
  Or.inr ⟨o, 0, rfl, h.hi, fun i hi => ⟨by simpa using h.c0 i hi, by simpa using h.c1 i hi, by simpa using h.c2 i hi, by simpa using h.c3 i hi, by simpa using h.c4 i hi⟩⟩
set_option maxRecDepth 100000 in
set_option maxHeartbeats 2000000 in
theorem eqV (a b c d : Int) (w : World) : Calls Try.prog 19 #[.agg #[.int .i64 a, .int .i64 b, .int .i64 c, .int .i64 d], .agg #[.int .i64 a, .int .i64 b, .int .i64 c, .int .i64 d]] w fun e w' => e = .returned (.bool true) ∧ Below w.heap.size w w' := by
  go_enter Try.func19, Try.ntmps19
  go_wp2
  go_ret
  exact ⟨rfl, by repeat (first | (with_reducible refine below_drew ?_) | (with_reducible refine Below.alloc ?_ (by first | omega | (simp; try omega)) _) | (with_reducible exact Below.refl _ _))⟩
end Go.Proofs.Ytnbpncjbfnhkjaa
