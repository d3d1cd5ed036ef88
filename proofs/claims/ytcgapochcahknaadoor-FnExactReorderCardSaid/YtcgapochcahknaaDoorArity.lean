/- Contracts of the program's and the model's CallArity: both answer ar of the text; condition: the table of calls holds its names and numbers. -/
import Derived.Test.YtcgapochcahknaaDoorBase
import Derived.Deep.MidRow
namespace Go.Proofs.YtcgapochcahknaaDoor
open Go.ChangeShapes Go.WideShapes Go.ChangeAt Go.RowKit
set_option linter.unusedVariables false
def ar (s : ByteArray) : Int :=
  if s.toList = [97, 98, 115] then 1
  else if s.toList = [102, 108, 111, 97, 116] then 1
  else if s.toList = [102, 109, 97] then 3
  else if s.toList = [103, 114, 111, 117, 112] then 0
  else if s.toList = [105, 110, 116] then 1
  else if s.toList = [108, 111, 99, 97, 108] then 0
  else if s.toList = [109, 97, 120] then 2
  else if s.toList = [109, 105, 110] then 2
  else if s.toList = [115, 105, 122, 101] then 0
  else if s.toList = [115, 113, 114, 116] then 1
  else if s.toList = [116, 105, 100] then 0
  else -1
theorem ix0 (w : World) : (Instr.index 121 (.agg cellsT) (.int .i64 0)).run Tryd.prog w = .ok (.agg #[.string ⟨#[97, 98, 115]⟩, .int .i64 1]) w := by kernel_rfl
theorem ix1 (w : World) : (Instr.index 121 (.agg cellsT) (.int .i64 1)).run Tryd.prog w = .ok (.agg #[.string ⟨#[102, 108, 111, 97, 116]⟩, .int .i64 1]) w := by kernel_rfl
theorem ix2 (w : World) : (Instr.index 121 (.agg cellsT) (.int .i64 2)).run Tryd.prog w = .ok (.agg #[.string ⟨#[102, 109, 97]⟩, .int .i64 3]) w := by kernel_rfl
theorem ix3 (w : World) : (Instr.index 121 (.agg cellsT) (.int .i64 3)).run Tryd.prog w = .ok (.agg #[.string ⟨#[103, 114, 111, 117, 112]⟩, .int .i64 0]) w := by kernel_rfl
theorem ix4 (w : World) : (Instr.index 121 (.agg cellsT) (.int .i64 4)).run Tryd.prog w = .ok (.agg #[.string ⟨#[105, 110, 116]⟩, .int .i64 1]) w := by kernel_rfl
theorem ix5 (w : World) : (Instr.index 121 (.agg cellsT) (.int .i64 5)).run Tryd.prog w = .ok (.agg #[.string ⟨#[108, 111, 99, 97, 108]⟩, .int .i64 0]) w := by kernel_rfl
theorem ix6 (w : World) : (Instr.index 121 (.agg cellsT) (.int .i64 6)).run Tryd.prog w = .ok (.agg #[.string ⟨#[109, 97, 120]⟩, .int .i64 2]) w := by kernel_rfl
theorem ix7 (w : World) : (Instr.index 121 (.agg cellsT) (.int .i64 7)).run Tryd.prog w = .ok (.agg #[.string ⟨#[109, 105, 110]⟩, .int .i64 2]) w := by kernel_rfl
theorem ix8 (w : World) : (Instr.index 121 (.agg cellsT) (.int .i64 8)).run Tryd.prog w = .ok (.agg #[.string ⟨#[115, 105, 122, 101]⟩, .int .i64 0]) w := by kernel_rfl
theorem ix9 (w : World) : (Instr.index 121 (.agg cellsT) (.int .i64 9)).run Tryd.prog w = .ok (.agg #[.string ⟨#[115, 113, 114, 116]⟩, .int .i64 1]) w := by kernel_rfl
theorem ix10 (w : World) : (Instr.index 121 (.agg cellsT) (.int .i64 10)).run Tryd.prog w = .ok (.agg #[.string ⟨#[116, 105, 100]⟩, .int .i64 0]) w := by kernel_rfl
set_option maxRecDepth 100000 in
set_option maxHeartbeats 4000000 in
theorem arity56 (s : ByteArray) (w : World) : Calls Tryd.prog 60 #[.string s] w fun e w' => e = .returned (.int .i64 (ar s)) ∧ w' = w := by
  by_cases e0 : s.toList = [97, 98, 115]
  · rw [show ar s = 1 by unfold ar; rw [e0]; rfl]
    have f0 : (s.toList == [97, 98, 115]) = true := by rw [e0]; rfl
    have g0 : ([97, 98, 115] == s.toList) = true := by rw [e0]; rfl
    have f1 : (s.toList == [102, 108, 111, 97, 116]) = false := by rw [e0]; rfl
    have g1 : ([102, 108, 111, 97, 116] == s.toList) = false := by rw [e0]; rfl
    have f2 : (s.toList == [102, 109, 97]) = false := by rw [e0]; rfl
    have g2 : ([102, 109, 97] == s.toList) = false := by rw [e0]; rfl
    have f3 : (s.toList == [103, 114, 111, 117, 112]) = false := by rw [e0]; rfl
    have g3 : ([103, 114, 111, 117, 112] == s.toList) = false := by rw [e0]; rfl
    have f4 : (s.toList == [105, 110, 116]) = false := by rw [e0]; rfl
    have g4 : ([105, 110, 116] == s.toList) = false := by rw [e0]; rfl
    have f5 : (s.toList == [108, 111, 99, 97, 108]) = false := by rw [e0]; rfl
    have g5 : ([108, 111, 99, 97, 108] == s.toList) = false := by rw [e0]; rfl
    have f6 : (s.toList == [109, 97, 120]) = false := by rw [e0]; rfl
    have g6 : ([109, 97, 120] == s.toList) = false := by rw [e0]; rfl
    have f7 : (s.toList == [109, 105, 110]) = false := by rw [e0]; rfl
    have g7 : ([109, 105, 110] == s.toList) = false := by rw [e0]; rfl
    have f8 : (s.toList == [115, 105, 122, 101]) = false := by rw [e0]; rfl
    have g8 : ([115, 105, 122, 101] == s.toList) = false := by rw [e0]; rfl
    have f9 : (s.toList == [115, 113, 114, 116]) = false := by rw [e0]; rfl
    have g9 : ([115, 113, 114, 116] == s.toList) = false := by rw [e0]; rfl
    have f10 : (s.toList == [116, 105, 100]) = false := by rw [e0]; rfl
    have g10 : ([116, 105, 100] == s.toList) = false := by rw [e0]; rfl
    clear e0
    go_enter Tryd.func60, Tryd.ntmps60
    go_wp2
    go_ret
    exact ⟨rfl, rfl⟩
  by_cases e1 : s.toList = [102, 108, 111, 97, 116]
  · rw [show ar s = 1 by unfold ar; rw [e1]; rfl]
    have f0 : (s.toList == [97, 98, 115]) = false := by rw [e1]; rfl
    have g0 : ([97, 98, 115] == s.toList) = false := by rw [e1]; rfl
    have f1 : (s.toList == [102, 108, 111, 97, 116]) = true := by rw [e1]; rfl
    have g1 : ([102, 108, 111, 97, 116] == s.toList) = true := by rw [e1]; rfl
    have f2 : (s.toList == [102, 109, 97]) = false := by rw [e1]; rfl
    have g2 : ([102, 109, 97] == s.toList) = false := by rw [e1]; rfl
    have f3 : (s.toList == [103, 114, 111, 117, 112]) = false := by rw [e1]; rfl
    have g3 : ([103, 114, 111, 117, 112] == s.toList) = false := by rw [e1]; rfl
    have f4 : (s.toList == [105, 110, 116]) = false := by rw [e1]; rfl
    have g4 : ([105, 110, 116] == s.toList) = false := by rw [e1]; rfl
    have f5 : (s.toList == [108, 111, 99, 97, 108]) = false := by rw [e1]; rfl
    have g5 : ([108, 111, 99, 97, 108] == s.toList) = false := by rw [e1]; rfl
    have f6 : (s.toList == [109, 97, 120]) = false := by rw [e1]; rfl
    have g6 : ([109, 97, 120] == s.toList) = false := by rw [e1]; rfl
    have f7 : (s.toList == [109, 105, 110]) = false := by rw [e1]; rfl
    have g7 : ([109, 105, 110] == s.toList) = false := by rw [e1]; rfl
    have f8 : (s.toList == [115, 105, 122, 101]) = false := by rw [e1]; rfl
    have g8 : ([115, 105, 122, 101] == s.toList) = false := by rw [e1]; rfl
    have f9 : (s.toList == [115, 113, 114, 116]) = false := by rw [e1]; rfl
    have g9 : ([115, 113, 114, 116] == s.toList) = false := by rw [e1]; rfl
    have f10 : (s.toList == [116, 105, 100]) = false := by rw [e1]; rfl
    have g10 : ([116, 105, 100] == s.toList) = false := by rw [e1]; rfl
    clear e0 e1
    go_enter Tryd.func60, Tryd.ntmps60
    go_wp2
    go_ret
    exact ⟨rfl, rfl⟩
  by_cases e2 : s.toList = [102, 109, 97]
  · rw [show ar s = 3 by unfold ar; rw [e2]; rfl]
    have f0 : (s.toList == [97, 98, 115]) = false := by rw [e2]; rfl
    have g0 : ([97, 98, 115] == s.toList) = false := by rw [e2]; rfl
    have f1 : (s.toList == [102, 108, 111, 97, 116]) = false := by rw [e2]; rfl
    have g1 : ([102, 108, 111, 97, 116] == s.toList) = false := by rw [e2]; rfl
    have f2 : (s.toList == [102, 109, 97]) = true := by rw [e2]; rfl
    have g2 : ([102, 109, 97] == s.toList) = true := by rw [e2]; rfl
    have f3 : (s.toList == [103, 114, 111, 117, 112]) = false := by rw [e2]; rfl
    have g3 : ([103, 114, 111, 117, 112] == s.toList) = false := by rw [e2]; rfl
    have f4 : (s.toList == [105, 110, 116]) = false := by rw [e2]; rfl
    have g4 : ([105, 110, 116] == s.toList) = false := by rw [e2]; rfl
    have f5 : (s.toList == [108, 111, 99, 97, 108]) = false := by rw [e2]; rfl
    have g5 : ([108, 111, 99, 97, 108] == s.toList) = false := by rw [e2]; rfl
    have f6 : (s.toList == [109, 97, 120]) = false := by rw [e2]; rfl
    have g6 : ([109, 97, 120] == s.toList) = false := by rw [e2]; rfl
    have f7 : (s.toList == [109, 105, 110]) = false := by rw [e2]; rfl
    have g7 : ([109, 105, 110] == s.toList) = false := by rw [e2]; rfl
    have f8 : (s.toList == [115, 105, 122, 101]) = false := by rw [e2]; rfl
    have g8 : ([115, 105, 122, 101] == s.toList) = false := by rw [e2]; rfl
    have f9 : (s.toList == [115, 113, 114, 116]) = false := by rw [e2]; rfl
    have g9 : ([115, 113, 114, 116] == s.toList) = false := by rw [e2]; rfl
    have f10 : (s.toList == [116, 105, 100]) = false := by rw [e2]; rfl
    have g10 : ([116, 105, 100] == s.toList) = false := by rw [e2]; rfl
    clear e0 e1 e2
    go_enter Tryd.func60, Tryd.ntmps60
    go_wp2
    go_ret
    exact ⟨rfl, rfl⟩
  by_cases e3 : s.toList = [103, 114, 111, 117, 112]
  · rw [show ar s = 0 by unfold ar; rw [e3]; rfl]
    have f0 : (s.toList == [97, 98, 115]) = false := by rw [e3]; rfl
    have g0 : ([97, 98, 115] == s.toList) = false := by rw [e3]; rfl
    have f1 : (s.toList == [102, 108, 111, 97, 116]) = false := by rw [e3]; rfl
    have g1 : ([102, 108, 111, 97, 116] == s.toList) = false := by rw [e3]; rfl
    have f2 : (s.toList == [102, 109, 97]) = false := by rw [e3]; rfl
    have g2 : ([102, 109, 97] == s.toList) = false := by rw [e3]; rfl
    have f3 : (s.toList == [103, 114, 111, 117, 112]) = true := by rw [e3]; rfl
    have g3 : ([103, 114, 111, 117, 112] == s.toList) = true := by rw [e3]; rfl
    have f4 : (s.toList == [105, 110, 116]) = false := by rw [e3]; rfl
    have g4 : ([105, 110, 116] == s.toList) = false := by rw [e3]; rfl
    have f5 : (s.toList == [108, 111, 99, 97, 108]) = false := by rw [e3]; rfl
    have g5 : ([108, 111, 99, 97, 108] == s.toList) = false := by rw [e3]; rfl
    have f6 : (s.toList == [109, 97, 120]) = false := by rw [e3]; rfl
    have g6 : ([109, 97, 120] == s.toList) = false := by rw [e3]; rfl
    have f7 : (s.toList == [109, 105, 110]) = false := by rw [e3]; rfl
    have g7 : ([109, 105, 110] == s.toList) = false := by rw [e3]; rfl
    have f8 : (s.toList == [115, 105, 122, 101]) = false := by rw [e3]; rfl
    have g8 : ([115, 105, 122, 101] == s.toList) = false := by rw [e3]; rfl
    have f9 : (s.toList == [115, 113, 114, 116]) = false := by rw [e3]; rfl
    have g9 : ([115, 113, 114, 116] == s.toList) = false := by rw [e3]; rfl
    have f10 : (s.toList == [116, 105, 100]) = false := by rw [e3]; rfl
    have g10 : ([116, 105, 100] == s.toList) = false := by rw [e3]; rfl
    clear e0 e1 e2 e3
    go_enter Tryd.func60, Tryd.ntmps60
    go_wp2
    go_ret
    exact ⟨rfl, rfl⟩
  by_cases e4 : s.toList = [105, 110, 116]
  · rw [show ar s = 1 by unfold ar; rw [e4]; rfl]
    have f0 : (s.toList == [97, 98, 115]) = false := by rw [e4]; rfl
    have g0 : ([97, 98, 115] == s.toList) = false := by rw [e4]; rfl
    have f1 : (s.toList == [102, 108, 111, 97, 116]) = false := by rw [e4]; rfl
    have g1 : ([102, 108, 111, 97, 116] == s.toList) = false := by rw [e4]; rfl
    have f2 : (s.toList == [102, 109, 97]) = false := by rw [e4]; rfl
    have g2 : ([102, 109, 97] == s.toList) = false := by rw [e4]; rfl
    have f3 : (s.toList == [103, 114, 111, 117, 112]) = false := by rw [e4]; rfl
    have g3 : ([103, 114, 111, 117, 112] == s.toList) = false := by rw [e4]; rfl
    have f4 : (s.toList == [105, 110, 116]) = true := by rw [e4]; rfl
    have g4 : ([105, 110, 116] == s.toList) = true := by rw [e4]; rfl
    have f5 : (s.toList == [108, 111, 99, 97, 108]) = false := by rw [e4]; rfl
    have g5 : ([108, 111, 99, 97, 108] == s.toList) = false := by rw [e4]; rfl
    have f6 : (s.toList == [109, 97, 120]) = false := by rw [e4]; rfl
    have g6 : ([109, 97, 120] == s.toList) = false := by rw [e4]; rfl
    have f7 : (s.toList == [109, 105, 110]) = false := by rw [e4]; rfl
    have g7 : ([109, 105, 110] == s.toList) = false := by rw [e4]; rfl
    have f8 : (s.toList == [115, 105, 122, 101]) = false := by rw [e4]; rfl
    have g8 : ([115, 105, 122, 101] == s.toList) = false := by rw [e4]; rfl
    have f9 : (s.toList == [115, 113, 114, 116]) = false := by rw [e4]; rfl
    have g9 : ([115, 113, 114, 116] == s.toList) = false := by rw [e4]; rfl
    have f10 : (s.toList == [116, 105, 100]) = false := by rw [e4]; rfl
    have g10 : ([116, 105, 100] == s.toList) = false := by rw [e4]; rfl
    clear e0 e1 e2 e3 e4
    go_enter Tryd.func60, Tryd.ntmps60
    go_wp2
    go_ret
    exact ⟨rfl, rfl⟩
  by_cases e5 : s.toList = [108, 111, 99, 97, 108]
  · rw [show ar s = 0 by unfold ar; rw [e5]; rfl]
    have f0 : (s.toList == [97, 98, 115]) = false := by rw [e5]; rfl
    have g0 : ([97, 98, 115] == s.toList) = false := by rw [e5]; rfl
    have f1 : (s.toList == [102, 108, 111, 97, 116]) = false := by rw [e5]; rfl
    have g1 : ([102, 108, 111, 97, 116] == s.toList) = false := by rw [e5]; rfl
    have f2 : (s.toList == [102, 109, 97]) = false := by rw [e5]; rfl
    have g2 : ([102, 109, 97] == s.toList) = false := by rw [e5]; rfl
    have f3 : (s.toList == [103, 114, 111, 117, 112]) = false := by rw [e5]; rfl
    have g3 : ([103, 114, 111, 117, 112] == s.toList) = false := by rw [e5]; rfl
    have f4 : (s.toList == [105, 110, 116]) = false := by rw [e5]; rfl
    have g4 : ([105, 110, 116] == s.toList) = false := by rw [e5]; rfl
    have f5 : (s.toList == [108, 111, 99, 97, 108]) = true := by rw [e5]; rfl
    have g5 : ([108, 111, 99, 97, 108] == s.toList) = true := by rw [e5]; rfl
    have f6 : (s.toList == [109, 97, 120]) = false := by rw [e5]; rfl
    have g6 : ([109, 97, 120] == s.toList) = false := by rw [e5]; rfl
    have f7 : (s.toList == [109, 105, 110]) = false := by rw [e5]; rfl
    have g7 : ([109, 105, 110] == s.toList) = false := by rw [e5]; rfl
    have f8 : (s.toList == [115, 105, 122, 101]) = false := by rw [e5]; rfl
    have g8 : ([115, 105, 122, 101] == s.toList) = false := by rw [e5]; rfl
    have f9 : (s.toList == [115, 113, 114, 116]) = false := by rw [e5]; rfl
    have g9 : ([115, 113, 114, 116] == s.toList) = false := by rw [e5]; rfl
    have f10 : (s.toList == [116, 105, 100]) = false := by rw [e5]; rfl
    have g10 : ([116, 105, 100] == s.toList) = false := by rw [e5]; rfl
    clear e0 e1 e2 e3 e4 e5
    go_enter Tryd.func60, Tryd.ntmps60
    go_wp2
    go_ret
    exact ⟨rfl, rfl⟩
  by_cases e6 : s.toList = [109, 97, 120]
  · rw [show ar s = 2 by unfold ar; rw [e6]; rfl]
    have f0 : (s.toList == [97, 98, 115]) = false := by rw [e6]; rfl
    have g0 : ([97, 98, 115] == s.toList) = false := by rw [e6]; rfl
    have f1 : (s.toList == [102, 108, 111, 97, 116]) = false := by rw [e6]; rfl
    have g1 : ([102, 108, 111, 97, 116] == s.toList) = false := by rw [e6]; rfl
    have f2 : (s.toList == [102, 109, 97]) = false := by rw [e6]; rfl
    have g2 : ([102, 109, 97] == s.toList) = false := by rw [e6]; rfl
    have f3 : (s.toList == [103, 114, 111, 117, 112]) = false := by rw [e6]; rfl
    have g3 : ([103, 114, 111, 117, 112] == s.toList) = false := by rw [e6]; rfl
    have f4 : (s.toList == [105, 110, 116]) = false := by rw [e6]; rfl
    have g4 : ([105, 110, 116] == s.toList) = false := by rw [e6]; rfl
    have f5 : (s.toList == [108, 111, 99, 97, 108]) = false := by rw [e6]; rfl
    have g5 : ([108, 111, 99, 97, 108] == s.toList) = false := by rw [e6]; rfl
    have f6 : (s.toList == [109, 97, 120]) = true := by rw [e6]; rfl
    have g6 : ([109, 97, 120] == s.toList) = true := by rw [e6]; rfl
    have f7 : (s.toList == [109, 105, 110]) = false := by rw [e6]; rfl
    have g7 : ([109, 105, 110] == s.toList) = false := by rw [e6]; rfl
    have f8 : (s.toList == [115, 105, 122, 101]) = false := by rw [e6]; rfl
    have g8 : ([115, 105, 122, 101] == s.toList) = false := by rw [e6]; rfl
    have f9 : (s.toList == [115, 113, 114, 116]) = false := by rw [e6]; rfl
    have g9 : ([115, 113, 114, 116] == s.toList) = false := by rw [e6]; rfl
    have f10 : (s.toList == [116, 105, 100]) = false := by rw [e6]; rfl
    have g10 : ([116, 105, 100] == s.toList) = false := by rw [e6]; rfl
    clear e0 e1 e2 e3 e4 e5 e6
    go_enter Tryd.func60, Tryd.ntmps60
    go_wp2
    go_ret
    exact ⟨rfl, rfl⟩
  by_cases e7 : s.toList = [109, 105, 110]
  · rw [show ar s = 2 by unfold ar; rw [e7]; rfl]
    have f0 : (s.toList == [97, 98, 115]) = false := by rw [e7]; rfl
    have g0 : ([97, 98, 115] == s.toList) = false := by rw [e7]; rfl
    have f1 : (s.toList == [102, 108, 111, 97, 116]) = false := by rw [e7]; rfl
    have g1 : ([102, 108, 111, 97, 116] == s.toList) = false := by rw [e7]; rfl
    have f2 : (s.toList == [102, 109, 97]) = false := by rw [e7]; rfl
    have g2 : ([102, 109, 97] == s.toList) = false := by rw [e7]; rfl
    have f3 : (s.toList == [103, 114, 111, 117, 112]) = false := by rw [e7]; rfl
    have g3 : ([103, 114, 111, 117, 112] == s.toList) = false := by rw [e7]; rfl
    have f4 : (s.toList == [105, 110, 116]) = false := by rw [e7]; rfl
    have g4 : ([105, 110, 116] == s.toList) = false := by rw [e7]; rfl
    have f5 : (s.toList == [108, 111, 99, 97, 108]) = false := by rw [e7]; rfl
    have g5 : ([108, 111, 99, 97, 108] == s.toList) = false := by rw [e7]; rfl
    have f6 : (s.toList == [109, 97, 120]) = false := by rw [e7]; rfl
    have g6 : ([109, 97, 120] == s.toList) = false := by rw [e7]; rfl
    have f7 : (s.toList == [109, 105, 110]) = true := by rw [e7]; rfl
    have g7 : ([109, 105, 110] == s.toList) = true := by rw [e7]; rfl
    have f8 : (s.toList == [115, 105, 122, 101]) = false := by rw [e7]; rfl
    have g8 : ([115, 105, 122, 101] == s.toList) = false := by rw [e7]; rfl
    have f9 : (s.toList == [115, 113, 114, 116]) = false := by rw [e7]; rfl
    have g9 : ([115, 113, 114, 116] == s.toList) = false := by rw [e7]; rfl
    have f10 : (s.toList == [116, 105, 100]) = false := by rw [e7]; rfl
    have g10 : ([116, 105, 100] == s.toList) = false := by rw [e7]; rfl
    clear e0 e1 e2 e3 e4 e5 e6 e7
    go_enter Tryd.func60, Tryd.ntmps60
    go_wp2
    go_ret
    exact ⟨rfl, rfl⟩
  by_cases e8 : s.toList = [115, 105, 122, 101]
  · rw [show ar s = 0 by unfold ar; rw [e8]; rfl]
    have f0 : (s.toList == [97, 98, 115]) = false := by rw [e8]; rfl
    have g0 : ([97, 98, 115] == s.toList) = false := by rw [e8]; rfl
    have f1 : (s.toList == [102, 108, 111, 97, 116]) = false := by rw [e8]; rfl
    have g1 : ([102, 108, 111, 97, 116] == s.toList) = false := by rw [e8]; rfl
    have f2 : (s.toList == [102, 109, 97]) = false := by rw [e8]; rfl
    have g2 : ([102, 109, 97] == s.toList) = false := by rw [e8]; rfl
    have f3 : (s.toList == [103, 114, 111, 117, 112]) = false := by rw [e8]; rfl
    have g3 : ([103, 114, 111, 117, 112] == s.toList) = false := by rw [e8]; rfl
    have f4 : (s.toList == [105, 110, 116]) = false := by rw [e8]; rfl
    have g4 : ([105, 110, 116] == s.toList) = false := by rw [e8]; rfl
    have f5 : (s.toList == [108, 111, 99, 97, 108]) = false := by rw [e8]; rfl
    have g5 : ([108, 111, 99, 97, 108] == s.toList) = false := by rw [e8]; rfl
    have f6 : (s.toList == [109, 97, 120]) = false := by rw [e8]; rfl
    have g6 : ([109, 97, 120] == s.toList) = false := by rw [e8]; rfl
    have f7 : (s.toList == [109, 105, 110]) = false := by rw [e8]; rfl
    have g7 : ([109, 105, 110] == s.toList) = false := by rw [e8]; rfl
    have f8 : (s.toList == [115, 105, 122, 101]) = true := by rw [e8]; rfl
    have g8 : ([115, 105, 122, 101] == s.toList) = true := by rw [e8]; rfl
    have f9 : (s.toList == [115, 113, 114, 116]) = false := by rw [e8]; rfl
    have g9 : ([115, 113, 114, 116] == s.toList) = false := by rw [e8]; rfl
    have f10 : (s.toList == [116, 105, 100]) = false := by rw [e8]; rfl
    have g10 : ([116, 105, 100] == s.toList) = false := by rw [e8]; rfl
    clear e0 e1 e2 e3 e4 e5 e6 e7 e8
    go_enter Tryd.func60, Tryd.ntmps60
    go_wp2
    go_ret
    exact ⟨rfl, rfl⟩
  by_cases e9 : s.toList = [115, 113, 114, 116]
  · rw [show ar s = 1 by unfold ar; rw [e9]; rfl]
    have f0 : (s.toList == [97, 98, 115]) = false := by rw [e9]; rfl
    have g0 : ([97, 98, 115] == s.toList) = false := by rw [e9]; rfl
    have f1 : (s.toList == [102, 108, 111, 97, 116]) = false := by rw [e9]; rfl
    have g1 : ([102, 108, 111, 97, 116] == s.toList) = false := by rw [e9]; rfl
    have f2 : (s.toList == [102, 109, 97]) = false := by rw [e9]; rfl
    have g2 : ([102, 109, 97] == s.toList) = false := by rw [e9]; rfl
    have f3 : (s.toList == [103, 114, 111, 117, 112]) = false := by rw [e9]; rfl
    have g3 : ([103, 114, 111, 117, 112] == s.toList) = false := by rw [e9]; rfl
    have f4 : (s.toList == [105, 110, 116]) = false := by rw [e9]; rfl
    have g4 : ([105, 110, 116] == s.toList) = false := by rw [e9]; rfl
    have f5 : (s.toList == [108, 111, 99, 97, 108]) = false := by rw [e9]; rfl
    have g5 : ([108, 111, 99, 97, 108] == s.toList) = false := by rw [e9]; rfl
    have f6 : (s.toList == [109, 97, 120]) = false := by rw [e9]; rfl
    have g6 : ([109, 97, 120] == s.toList) = false := by rw [e9]; rfl
    have f7 : (s.toList == [109, 105, 110]) = false := by rw [e9]; rfl
    have g7 : ([109, 105, 110] == s.toList) = false := by rw [e9]; rfl
    have f8 : (s.toList == [115, 105, 122, 101]) = false := by rw [e9]; rfl
    have g8 : ([115, 105, 122, 101] == s.toList) = false := by rw [e9]; rfl
    have f9 : (s.toList == [115, 113, 114, 116]) = true := by rw [e9]; rfl
    have g9 : ([115, 113, 114, 116] == s.toList) = true := by rw [e9]; rfl
    have f10 : (s.toList == [116, 105, 100]) = false := by rw [e9]; rfl
    have g10 : ([116, 105, 100] == s.toList) = false := by rw [e9]; rfl
    clear e0 e1 e2 e3 e4 e5 e6 e7 e8 e9
    go_enter Tryd.func60, Tryd.ntmps60
    go_wp2
    go_ret
    exact ⟨rfl, rfl⟩
  by_cases e10 : s.toList = [116, 105, 100]
  · rw [show ar s = 0 by unfold ar; rw [e10]; rfl]
    have f0 : (s.toList == [97, 98, 115]) = false := by rw [e10]; rfl
    have g0 : ([97, 98, 115] == s.toList) = false := by rw [e10]; rfl
    have f1 : (s.toList == [102, 108, 111, 97, 116]) = false := by rw [e10]; rfl
    have g1 : ([102, 108, 111, 97, 116] == s.toList) = false := by rw [e10]; rfl
    have f2 : (s.toList == [102, 109, 97]) = false := by rw [e10]; rfl
    have g2 : ([102, 109, 97] == s.toList) = false := by rw [e10]; rfl
    have f3 : (s.toList == [103, 114, 111, 117, 112]) = false := by rw [e10]; rfl
    have g3 : ([103, 114, 111, 117, 112] == s.toList) = false := by rw [e10]; rfl
    have f4 : (s.toList == [105, 110, 116]) = false := by rw [e10]; rfl
    have g4 : ([105, 110, 116] == s.toList) = false := by rw [e10]; rfl
    have f5 : (s.toList == [108, 111, 99, 97, 108]) = false := by rw [e10]; rfl
    have g5 : ([108, 111, 99, 97, 108] == s.toList) = false := by rw [e10]; rfl
    have f6 : (s.toList == [109, 97, 120]) = false := by rw [e10]; rfl
    have g6 : ([109, 97, 120] == s.toList) = false := by rw [e10]; rfl
    have f7 : (s.toList == [109, 105, 110]) = false := by rw [e10]; rfl
    have g7 : ([109, 105, 110] == s.toList) = false := by rw [e10]; rfl
    have f8 : (s.toList == [115, 105, 122, 101]) = false := by rw [e10]; rfl
    have g8 : ([115, 105, 122, 101] == s.toList) = false := by rw [e10]; rfl
    have f9 : (s.toList == [115, 113, 114, 116]) = false := by rw [e10]; rfl
    have g9 : ([115, 113, 114, 116] == s.toList) = false := by rw [e10]; rfl
    have f10 : (s.toList == [116, 105, 100]) = true := by rw [e10]; rfl
    have g10 : ([116, 105, 100] == s.toList) = true := by rw [e10]; rfl
    clear e0 e1 e2 e3 e4 e5 e6 e7 e8 e9 e10
    go_enter Tryd.func60, Tryd.ntmps60
    go_wp2
    go_ret
    exact ⟨rfl, rfl⟩
  rw [show ar s = -1 by unfold ar; simp only [e0, e1, e2, e3, e4, e5, e6, e7, e8, e9, e10, if_false]]
  have f0 : (s.toList == [97, 98, 115]) = false := beq_eq_false_iff_ne.mpr e0
  have g0 : ([97, 98, 115] == s.toList) = false := beq_eq_false_iff_ne.mpr fun h => e0 h.symm
  have f1 : (s.toList == [102, 108, 111, 97, 116]) = false := beq_eq_false_iff_ne.mpr e1
  have g1 : ([102, 108, 111, 97, 116] == s.toList) = false := beq_eq_false_iff_ne.mpr fun h => e1 h.symm
  have f2 : (s.toList == [102, 109, 97]) = false := beq_eq_false_iff_ne.mpr e2
  have g2 : ([102, 109, 97] == s.toList) = false := beq_eq_false_iff_ne.mpr fun h => e2 h.symm
  have f3 : (s.toList == [103, 114, 111, 117, 112]) = false := beq_eq_false_iff_ne.mpr e3
  have g3 : ([103, 114, 111, 117, 112] == s.toList) = false := beq_eq_false_iff_ne.mpr fun h => e3 h.symm
  have f4 : (s.toList == [105, 110, 116]) = false := beq_eq_false_iff_ne.mpr e4
  have g4 : ([105, 110, 116] == s.toList) = false := beq_eq_false_iff_ne.mpr fun h => e4 h.symm
  have f5 : (s.toList == [108, 111, 99, 97, 108]) = false := beq_eq_false_iff_ne.mpr e5
  have g5 : ([108, 111, 99, 97, 108] == s.toList) = false := beq_eq_false_iff_ne.mpr fun h => e5 h.symm
  have f6 : (s.toList == [109, 97, 120]) = false := beq_eq_false_iff_ne.mpr e6
  have g6 : ([109, 97, 120] == s.toList) = false := beq_eq_false_iff_ne.mpr fun h => e6 h.symm
  have f7 : (s.toList == [109, 105, 110]) = false := beq_eq_false_iff_ne.mpr e7
  have g7 : ([109, 105, 110] == s.toList) = false := beq_eq_false_iff_ne.mpr fun h => e7 h.symm
  have f8 : (s.toList == [115, 105, 122, 101]) = false := beq_eq_false_iff_ne.mpr e8
  have g8 : ([115, 105, 122, 101] == s.toList) = false := beq_eq_false_iff_ne.mpr fun h => e8 h.symm
  have f9 : (s.toList == [115, 113, 114, 116]) = false := beq_eq_false_iff_ne.mpr e9
  have g9 : ([115, 113, 114, 116] == s.toList) = false := beq_eq_false_iff_ne.mpr fun h => e9 h.symm
  have f10 : (s.toList == [116, 105, 100]) = false := beq_eq_false_iff_ne.mpr e10
  have g10 : ([116, 105, 100] == s.toList) = false := beq_eq_false_iff_ne.mpr fun h => e10 h.symm
  clear e0 e1 e2 e3 e4 e5 e6 e7 e8 e9 e10
  go_enter Tryd.func60, Tryd.ntmps60
  go_wp2
  go_ret
  exact ⟨rfl, rfl⟩
/-- The name and the number at a place of the table. -/
def nm : Nat → List UInt8
  | 0 => [97, 98, 115]
  | 1 => [102, 108, 111, 97, 116]
  | 2 => [102, 109, 97]
  | 3 => [103, 114, 111, 117, 112]
  | 4 => [105, 110, 116]
  | 5 => [108, 111, 99, 97, 108]
  | 6 => [109, 97, 120]
  | 7 => [109, 105, 110]
  | 8 => [115, 105, 122, 101]
  | 9 => [115, 113, 114, 116]
  | 10 => [116, 105, 100]
  | _ => []
def nr : Nat → Int
  | 0 => 1
  | 1 => 1
  | 2 => 3
  | 3 => 0
  | 4 => 1
  | 5 => 0
  | 6 => 2
  | 7 => 2
  | 8 => 0
  | 9 => 1
  | 10 => 0
  | _ => 0
theorem ar_at (s : ByteArray) (k : Nat) (hk : k < 11) (h : s.toList = nm k) : ar s = nr k := by
  unfold ar
  rw [h]
  rcases (by omega : k = 0 ∨ k = 1 ∨ k = 2 ∨ k = 3 ∨ k = 4 ∨ k = 5 ∨ k = 6 ∨ k = 7 ∨ k = 8 ∨ k = 9 ∨ k = 10) with rfl | rfl | rfl | rfl | rfl | rfl | rfl | rfl | rfl | rfl | rfl <;> rfl
theorem ar_none (s : ByteArray) (h : ∀ j, j < 11 → s.toList ≠ nm j) : ar s = -1 := by
  unfold ar
  rw [if_neg (show ¬ s.toList = [97, 98, 115] from h 0 (by decide))]
  rw [if_neg (show ¬ s.toList = [102, 108, 111, 97, 116] from h 1 (by decide))]
  rw [if_neg (show ¬ s.toList = [102, 109, 97] from h 2 (by decide))]
  rw [if_neg (show ¬ s.toList = [103, 114, 111, 117, 112] from h 3 (by decide))]
  rw [if_neg (show ¬ s.toList = [105, 110, 116] from h 4 (by decide))]
  rw [if_neg (show ¬ s.toList = [108, 111, 99, 97, 108] from h 5 (by decide))]
  rw [if_neg (show ¬ s.toList = [109, 97, 120] from h 6 (by decide))]
  rw [if_neg (show ¬ s.toList = [109, 105, 110] from h 7 (by decide))]
  rw [if_neg (show ¬ s.toList = [115, 105, 122, 101] from h 8 (by decide))]
  rw [if_neg (show ¬ s.toList = [115, 113, 114, 116] from h 9 (by decide))]
  rw [if_neg (show ¬ s.toList = [116, 105, 100] from h 10 (by decide))]
theorem range_of {w : World} (G : Forms w) : w.rangeAt 0 0 cellsT.toList := by
  intro j v hv
  rw [Nat.zero_add]
  have hj : j < 22 := by
    rcases Nat.lt_or_ge j 22 with h | h
    · exact h
    · rw [List.getElem?_eq_none (by simpa [cellsT] using h)] at hv; cases hv
  rcases (by omega : j = 0 ∨ j = 1 ∨ j = 2 ∨ j = 3 ∨ j = 4 ∨ j = 5 ∨ j = 6 ∨ j = 7 ∨ j = 8 ∨ j = 9 ∨ j = 10 ∨ j = 11 ∨ j = 12 ∨ j = 13 ∨ j = 14 ∨ j = 15 ∨ j = 16 ∨ j = 17 ∨ j = 18 ∨ j = 19 ∨ j = 20 ∨ j = 21) with rfl | rfl | rfl | rfl | rfl | rfl | rfl | rfl | rfl | rfl | rfl | rfl | rfl | rfl | rfl | rfl | rfl | rfl | rfl | rfl | rfl | rfl
  · obtain rfl := Option.some.inj hv; exact G.c0
  · obtain rfl := Option.some.inj hv; exact G.c1
  · obtain rfl := Option.some.inj hv; exact G.c2
  · obtain rfl := Option.some.inj hv; exact G.c3
  · obtain rfl := Option.some.inj hv; exact G.c4
  · obtain rfl := Option.some.inj hv; exact G.c5
  · obtain rfl := Option.some.inj hv; exact G.c6
  · obtain rfl := Option.some.inj hv; exact G.c7
  · obtain rfl := Option.some.inj hv; exact G.c8
  · obtain rfl := Option.some.inj hv; exact G.c9
  · obtain rfl := Option.some.inj hv; exact G.c10
  · obtain rfl := Option.some.inj hv; exact G.c11
  · obtain rfl := Option.some.inj hv; exact G.c12
  · obtain rfl := Option.some.inj hv; exact G.c13
  · obtain rfl := Option.some.inj hv; exact G.c14
  · obtain rfl := Option.some.inj hv; exact G.c15
  · obtain rfl := Option.some.inj hv; exact G.c16
  · obtain rfl := Option.some.inj hv; exact G.c17
  · obtain rfl := Option.some.inj hv; exact G.c18
  · obtain rfl := Option.some.inj hv; exact G.c19
  · obtain rfl := Option.some.inj hv; exact G.c20
  · obtain rfl := Option.some.inj hv; exact G.c21
set_option maxRecDepth 100000 in
set_option maxHeartbeats 4000000 in
theorem arity64 (s : ByteArray) (w : World) (G : Forms w) : Calls Tryd.prog 101 #[.string s] w fun e w' => e = .returned (.int .i64 (ar s)) ∧ Below w.heap.size w w' := by
  obtain ⟨R, hR⟩ : ∃ R, ar s = R := ⟨_, rfl⟩
  rw [hR]
  have HR : Hid (ar s = R) := hR
  clear hR
  have RG : Hid (w.rangeAt 0 0 cellsT.toList) := range_of G
  have i0 := ix0
  have i1 := ix1
  have i2 := ix2
  have i3 := ix3
  have i4 := ix4
  have i5 := ix5
  have i6 := ix6
  have i7 := ix7
  have i8 := ix8
  have i9 := ix9
  have i10 := ix10
  go_enter Tryd.func101, Tryd.ntmps101
  go_wp2_with (refine wpList_load_mid rfl 121 _ rfl 0 0 rfl cellsT.toList _ (Hid.out RG) Tryd.underlying121 rfl (by kernel_rfl) ?_)
  go_loopw [6] (fun i wr => ∃ k : Nat, k ≤ 11 ∧ i = .int .i64 k ∧ Hid (∀ j, j < k → s.toList ≠ nm j) ∧ Below w.heap.size w wr) (fun i _ => 11 - (intOf i).toNat)
  case atStart => exact ⟨0, by omega, rfl, fun j hj => by omega, Below.refl _ _⟩
  case round =>
    obtain ⟨k, hk, rfl, HN, B⟩ := hrel
    by_cases hkn : k = 11
    · subst hkn
      obtain rfl : R = -1 := HR.out.symm.trans (ar_none s HN.out)
      rw [show ((11 : Nat) : Int) = 11 from rfl]
      go_wp2
      go_ret
      exact ⟨rfl, B⟩
    by_cases e : s.toList = nm k
    · have hr : R = nr k := HR.out.symm.trans (ar_at s k (by omega) e)
      rcases (by omega : k = 0 ∨ k = 1 ∨ k = 2 ∨ k = 3 ∨ k = 4 ∨ k = 5 ∨ k = 6 ∨ k = 7 ∨ k = 8 ∨ k = 9 ∨ k = 10) with rfl | rfl | rfl | rfl | rfl | rfl | rfl | rfl | rfl | rfl | rfl
      · have f : (s.toList == [97, 98, 115]) = true := by rw [e]; rfl
        have g : ([97, 98, 115] == s.toList) = true := by rw [e]; rfl
        rw [show ((0 : Nat) : Int) = 0 from rfl]
        obtain rfl : R = 1 := hr
        clear HN e
        go_wp2
        go_ret
        exact ⟨rfl, B.alloc B.size _⟩
      · have f : (s.toList == [102, 108, 111, 97, 116]) = true := by rw [e]; rfl
        have g : ([102, 108, 111, 97, 116] == s.toList) = true := by rw [e]; rfl
        rw [show ((1 : Nat) : Int) = 1 from rfl]
        obtain rfl : R = 1 := hr
        clear HN e
        go_wp2
        go_ret
        exact ⟨rfl, B.alloc B.size _⟩
      · have f : (s.toList == [102, 109, 97]) = true := by rw [e]; rfl
        have g : ([102, 109, 97] == s.toList) = true := by rw [e]; rfl
        rw [show ((2 : Nat) : Int) = 2 from rfl]
        obtain rfl : R = 3 := hr
        clear HN e
        go_wp2
        go_ret
        exact ⟨rfl, B.alloc B.size _⟩
      · have f : (s.toList == [103, 114, 111, 117, 112]) = true := by rw [e]; rfl
        have g : ([103, 114, 111, 117, 112] == s.toList) = true := by rw [e]; rfl
        rw [show ((3 : Nat) : Int) = 3 from rfl]
        obtain rfl : R = 0 := hr
        clear HN e
        go_wp2
        go_ret
        exact ⟨rfl, B.alloc B.size _⟩
      · have f : (s.toList == [105, 110, 116]) = true := by rw [e]; rfl
        have g : ([105, 110, 116] == s.toList) = true := by rw [e]; rfl
        rw [show ((4 : Nat) : Int) = 4 from rfl]
        obtain rfl : R = 1 := hr
        clear HN e
        go_wp2
        go_ret
        exact ⟨rfl, B.alloc B.size _⟩
      · have f : (s.toList == [108, 111, 99, 97, 108]) = true := by rw [e]; rfl
        have g : ([108, 111, 99, 97, 108] == s.toList) = true := by rw [e]; rfl
        rw [show ((5 : Nat) : Int) = 5 from rfl]
        obtain rfl : R = 0 := hr
        clear HN e
        go_wp2
        go_ret
        exact ⟨rfl, B.alloc B.size _⟩
      · have f : (s.toList == [109, 97, 120]) = true := by rw [e]; rfl
        have g : ([109, 97, 120] == s.toList) = true := by rw [e]; rfl
        rw [show ((6 : Nat) : Int) = 6 from rfl]
        obtain rfl : R = 2 := hr
        clear HN e
        go_wp2
        go_ret
        exact ⟨rfl, B.alloc B.size _⟩
      · have f : (s.toList == [109, 105, 110]) = true := by rw [e]; rfl
        have g : ([109, 105, 110] == s.toList) = true := by rw [e]; rfl
        rw [show ((7 : Nat) : Int) = 7 from rfl]
        obtain rfl : R = 2 := hr
        clear HN e
        go_wp2
        go_ret
        exact ⟨rfl, B.alloc B.size _⟩
      · have f : (s.toList == [115, 105, 122, 101]) = true := by rw [e]; rfl
        have g : ([115, 105, 122, 101] == s.toList) = true := by rw [e]; rfl
        rw [show ((8 : Nat) : Int) = 8 from rfl]
        obtain rfl : R = 0 := hr
        clear HN e
        go_wp2
        go_ret
        exact ⟨rfl, B.alloc B.size _⟩
      · have f : (s.toList == [115, 113, 114, 116]) = true := by rw [e]; rfl
        have g : ([115, 113, 114, 116] == s.toList) = true := by rw [e]; rfl
        rw [show ((9 : Nat) : Int) = 9 from rfl]
        obtain rfl : R = 1 := hr
        clear HN e
        go_wp2
        go_ret
        exact ⟨rfl, B.alloc B.size _⟩
      · have f : (s.toList == [116, 105, 100]) = true := by rw [e]; rfl
        have g : ([116, 105, 100] == s.toList) = true := by rw [e]; rfl
        rw [show ((10 : Nat) : Int) = 10 from rfl]
        obtain rfl : R = 0 := hr
        clear HN e
        go_wp2
        go_ret
        exact ⟨rfl, B.alloc B.size _⟩
    · have HM : Hid (∀ j, j < k + 1 → s.toList ≠ nm j) := fun j hj => by
        by_cases h : j = k
        · rw [h]; exact e
        · exact HN.out j (by omega)
      clear HN
      rcases (by omega : k = 0 ∨ k = 1 ∨ k = 2 ∨ k = 3 ∨ k = 4 ∨ k = 5 ∨ k = 6 ∨ k = 7 ∨ k = 8 ∨ k = 9 ∨ k = 10) with rfl | rfl | rfl | rfl | rfl | rfl | rfl | rfl | rfl | rfl | rfl
      · have f : (s.toList == [97, 98, 115]) = false := beq_eq_false_iff_ne.mpr e
        have g : ([97, 98, 115] == s.toList) = false := beq_eq_false_iff_ne.mpr fun h => e h.symm
        rw [show ((0 : Nat) : Int) = 0 from rfl]
        clear e
        go_wp2
        go_roundw
        case rel => exact ⟨1, by decide, rfl, HM, B.alloc B.size _⟩
        case measure => simp [intOf]
      · have f : (s.toList == [102, 108, 111, 97, 116]) = false := beq_eq_false_iff_ne.mpr e
        have g : ([102, 108, 111, 97, 116] == s.toList) = false := beq_eq_false_iff_ne.mpr fun h => e h.symm
        rw [show ((1 : Nat) : Int) = 1 from rfl]
        clear e
        go_wp2
        go_roundw
        case rel => exact ⟨2, by decide, rfl, HM, B.alloc B.size _⟩
        case measure => simp [intOf]
      · have f : (s.toList == [102, 109, 97]) = false := beq_eq_false_iff_ne.mpr e
        have g : ([102, 109, 97] == s.toList) = false := beq_eq_false_iff_ne.mpr fun h => e h.symm
        rw [show ((2 : Nat) : Int) = 2 from rfl]
        clear e
        go_wp2
        go_roundw
        case rel => exact ⟨3, by decide, rfl, HM, B.alloc B.size _⟩
        case measure => simp [intOf]
      · have f : (s.toList == [103, 114, 111, 117, 112]) = false := beq_eq_false_iff_ne.mpr e
        have g : ([103, 114, 111, 117, 112] == s.toList) = false := beq_eq_false_iff_ne.mpr fun h => e h.symm
        rw [show ((3 : Nat) : Int) = 3 from rfl]
        clear e
        go_wp2
        go_roundw
        case rel => exact ⟨4, by decide, rfl, HM, B.alloc B.size _⟩
        case measure => simp [intOf]
      · have f : (s.toList == [105, 110, 116]) = false := beq_eq_false_iff_ne.mpr e
        have g : ([105, 110, 116] == s.toList) = false := beq_eq_false_iff_ne.mpr fun h => e h.symm
        rw [show ((4 : Nat) : Int) = 4 from rfl]
        clear e
        go_wp2
        go_roundw
        case rel => exact ⟨5, by decide, rfl, HM, B.alloc B.size _⟩
        case measure => simp [intOf]
      · have f : (s.toList == [108, 111, 99, 97, 108]) = false := beq_eq_false_iff_ne.mpr e
        have g : ([108, 111, 99, 97, 108] == s.toList) = false := beq_eq_false_iff_ne.mpr fun h => e h.symm
        rw [show ((5 : Nat) : Int) = 5 from rfl]
        clear e
        go_wp2
        go_roundw
        case rel => exact ⟨6, by decide, rfl, HM, B.alloc B.size _⟩
        case measure => simp [intOf]
      · have f : (s.toList == [109, 97, 120]) = false := beq_eq_false_iff_ne.mpr e
        have g : ([109, 97, 120] == s.toList) = false := beq_eq_false_iff_ne.mpr fun h => e h.symm
        rw [show ((6 : Nat) : Int) = 6 from rfl]
        clear e
        go_wp2
        go_roundw
        case rel => exact ⟨7, by decide, rfl, HM, B.alloc B.size _⟩
        case measure => simp [intOf]
      · have f : (s.toList == [109, 105, 110]) = false := beq_eq_false_iff_ne.mpr e
        have g : ([109, 105, 110] == s.toList) = false := beq_eq_false_iff_ne.mpr fun h => e h.symm
        rw [show ((7 : Nat) : Int) = 7 from rfl]
        clear e
        go_wp2
        go_roundw
        case rel => exact ⟨8, by decide, rfl, HM, B.alloc B.size _⟩
        case measure => simp [intOf]
      · have f : (s.toList == [115, 105, 122, 101]) = false := beq_eq_false_iff_ne.mpr e
        have g : ([115, 105, 122, 101] == s.toList) = false := beq_eq_false_iff_ne.mpr fun h => e h.symm
        rw [show ((8 : Nat) : Int) = 8 from rfl]
        clear e
        go_wp2
        go_roundw
        case rel => exact ⟨9, by decide, rfl, HM, B.alloc B.size _⟩
        case measure => simp [intOf]
      · have f : (s.toList == [115, 113, 114, 116]) = false := beq_eq_false_iff_ne.mpr e
        have g : ([115, 113, 114, 116] == s.toList) = false := beq_eq_false_iff_ne.mpr fun h => e h.symm
        rw [show ((9 : Nat) : Int) = 9 from rfl]
        clear e
        go_wp2
        go_roundw
        case rel => exact ⟨10, by decide, rfl, HM, B.alloc B.size _⟩
        case measure => simp [intOf]
      · have f : (s.toList == [116, 105, 100]) = false := beq_eq_false_iff_ne.mpr e
        have g : ([116, 105, 100] == s.toList) = false := beq_eq_false_iff_ne.mpr fun h => e h.symm
        rw [show ((10 : Nat) : Int) = 10 from rfl]
        clear e
        go_wp2
        go_roundw
        case rel => exact ⟨11, by decide, rfl, HM, B.alloc B.size _⟩
        case measure => simp [intOf]
end Go.Proofs.YtcgapochcahknaaDoor
