/- Contracts of the program's and the model's Strength: both answer st of the text; no conditions. -/
import Derived.Test.YtcgapochcahknaaDoorRows
import Derived.WalkKit
import Derived.ProofKit
namespace Go.Proofs.YtcgapochcahknaaDoor
open Go.ChangeShapes Go.WideShapes Go.ChangeAt Go.RowKit
set_option linter.unusedVariables false
def st (s : ByteArray) : Int :=
  if (s.toList == [124, 124]) = true then 1
  else if (s.toList == [38, 38]) = true then 2
  else if (s.toList == [124]) = true then 3
  else if (s.toList == [94]) = true then 4
  else if (s.toList == [38]) = true then 5
  else if (s.toList == [61, 61]) = true then 6
  else if (s.toList == [33, 61]) = true then 6
  else if (s.toList == [60]) = true then 7
  else if (s.toList == [60, 61]) = true then 7
  else if (s.toList == [62]) = true then 7
  else if (s.toList == [62, 61]) = true then 7
  else if (s.toList == [60, 60]) = true then 8
  else if (s.toList == [62, 62]) = true then 8
  else if (s.toList == [43]) = true then 9
  else if (s.toList == [45]) = true then 9
  else if (s.toList == [42]) = true then 10
  else if (s.toList == [47]) = true then 10
  else if (s.toList == [37]) = true then 10
  else 0
set_option maxRecDepth 100000 in
set_option maxHeartbeats 2000000 in
theorem strong54 (s : ByteArray) (w : World) : Calls Tryd.prog 71 #[.string s] w fun e w' => e = .returned (.int .i64 (st s)) ∧ w' = w := by
  cases h0 : (s.toList == [124, 124])
  case true =>
    rw [show st s = 1 by unfold st; simp only [h0, if_true]]
    go_enter Tryd.func71, Tryd.ntmps71
    go_wp2
    go_ret
    exact ⟨rfl, rfl⟩
  cases h1 : (s.toList == [38, 38])
  case true =>
    rw [show st s = 2 by unfold st; simp only [h0, h1, if_true, if_false, Bool.false_eq_true]]
    go_enter Tryd.func71, Tryd.ntmps71
    go_wp2
    go_ret
    exact ⟨rfl, rfl⟩
  cases h2 : (s.toList == [124])
  case true =>
    rw [show st s = 3 by unfold st; simp only [h0, h1, h2, if_true, if_false, Bool.false_eq_true]]
    go_enter Tryd.func71, Tryd.ntmps71
    go_wp2
    go_ret
    exact ⟨rfl, rfl⟩
  cases h3 : (s.toList == [94])
  case true =>
    rw [show st s = 4 by unfold st; simp only [h0, h1, h2, h3, if_true, if_false, Bool.false_eq_true]]
    go_enter Tryd.func71, Tryd.ntmps71
    go_wp2
    go_ret
    exact ⟨rfl, rfl⟩
  cases h4 : (s.toList == [38])
  case true =>
    rw [show st s = 5 by unfold st; simp only [h0, h1, h2, h3, h4, if_true, if_false, Bool.false_eq_true]]
    go_enter Tryd.func71, Tryd.ntmps71
    go_wp2
    go_ret
    exact ⟨rfl, rfl⟩
  cases h5 : (s.toList == [61, 61])
  case true =>
    rw [show st s = 6 by unfold st; simp only [h0, h1, h2, h3, h4, h5, if_true, if_false, Bool.false_eq_true]]
    go_enter Tryd.func71, Tryd.ntmps71
    go_wp2
    go_ret
    exact ⟨rfl, rfl⟩
  cases h6 : (s.toList == [33, 61])
  case true =>
    rw [show st s = 6 by unfold st; simp only [h0, h1, h2, h3, h4, h5, h6, if_true, if_false, Bool.false_eq_true]]
    go_enter Tryd.func71, Tryd.ntmps71
    go_wp2
    go_ret
    exact ⟨rfl, rfl⟩
  cases h7 : (s.toList == [60])
  case true =>
    rw [show st s = 7 by unfold st; simp only [h0, h1, h2, h3, h4, h5, h6, h7, if_true, if_false, Bool.false_eq_true]]
    go_enter Tryd.func71, Tryd.ntmps71
    go_wp2
    go_ret
    exact ⟨rfl, rfl⟩
  cases h8 : (s.toList == [60, 61])
  case true =>
    rw [show st s = 7 by unfold st; simp only [h0, h1, h2, h3, h4, h5, h6, h7, h8, if_true, if_false, Bool.false_eq_true]]
    go_enter Tryd.func71, Tryd.ntmps71
    go_wp2
    go_ret
    exact ⟨rfl, rfl⟩
  cases h9 : (s.toList == [62])
  case true =>
    rw [show st s = 7 by unfold st; simp only [h0, h1, h2, h3, h4, h5, h6, h7, h8, h9, if_true, if_false, Bool.false_eq_true]]
    go_enter Tryd.func71, Tryd.ntmps71
    go_wp2
    go_ret
    exact ⟨rfl, rfl⟩
  cases h10 : (s.toList == [62, 61])
  case true =>
    rw [show st s = 7 by unfold st; simp only [h0, h1, h2, h3, h4, h5, h6, h7, h8, h9, h10, if_true, if_false, Bool.false_eq_true]]
    go_enter Tryd.func71, Tryd.ntmps71
    go_wp2
    go_ret
    exact ⟨rfl, rfl⟩
  cases h11 : (s.toList == [60, 60])
  case true =>
    rw [show st s = 8 by unfold st; simp only [h0, h1, h2, h3, h4, h5, h6, h7, h8, h9, h10, h11, if_true, if_false, Bool.false_eq_true]]
    go_enter Tryd.func71, Tryd.ntmps71
    go_wp2
    go_ret
    exact ⟨rfl, rfl⟩
  cases h12 : (s.toList == [62, 62])
  case true =>
    rw [show st s = 8 by unfold st; simp only [h0, h1, h2, h3, h4, h5, h6, h7, h8, h9, h10, h11, h12, if_true, if_false, Bool.false_eq_true]]
    go_enter Tryd.func71, Tryd.ntmps71
    go_wp2
    go_ret
    exact ⟨rfl, rfl⟩
  cases h13 : (s.toList == [43])
  case true =>
    rw [show st s = 9 by unfold st; simp only [h0, h1, h2, h3, h4, h5, h6, h7, h8, h9, h10, h11, h12, h13, if_true, if_false, Bool.false_eq_true]]
    go_enter Tryd.func71, Tryd.ntmps71
    go_wp2
    go_ret
    exact ⟨rfl, rfl⟩
  cases h14 : (s.toList == [45])
  case true =>
    rw [show st s = 9 by unfold st; simp only [h0, h1, h2, h3, h4, h5, h6, h7, h8, h9, h10, h11, h12, h13, h14, if_true, if_false, Bool.false_eq_true]]
    go_enter Tryd.func71, Tryd.ntmps71
    go_wp2
    go_ret
    exact ⟨rfl, rfl⟩
  cases h15 : (s.toList == [42])
  case true =>
    rw [show st s = 10 by unfold st; simp only [h0, h1, h2, h3, h4, h5, h6, h7, h8, h9, h10, h11, h12, h13, h14, h15, if_true, if_false, Bool.false_eq_true]]
    go_enter Tryd.func71, Tryd.ntmps71
    go_wp2
    go_ret
    exact ⟨rfl, rfl⟩
  cases h16 : (s.toList == [47])
  case true =>
    rw [show st s = 10 by unfold st; simp only [h0, h1, h2, h3, h4, h5, h6, h7, h8, h9, h10, h11, h12, h13, h14, h15, h16, if_true, if_false, Bool.false_eq_true]]
    go_enter Tryd.func71, Tryd.ntmps71
    go_wp2
    go_ret
    exact ⟨rfl, rfl⟩
  cases h17 : (s.toList == [37])
  case true =>
    rw [show st s = 10 by unfold st; simp only [h0, h1, h2, h3, h4, h5, h6, h7, h8, h9, h10, h11, h12, h13, h14, h15, h16, h17, if_true, if_false, Bool.false_eq_true]]
    go_enter Tryd.func71, Tryd.ntmps71
    go_wp2
    go_ret
    exact ⟨rfl, rfl⟩
  rw [show st s = 0 by unfold st; simp only [h0, h1, h2, h3, h4, h5, h6, h7, h8, h9, h10, h11, h12, h13, h14, h15, h16, h17, if_false, Bool.false_eq_true]]
  go_enter Tryd.func71, Tryd.ntmps71
  go_wp2
  go_ret
  exact ⟨rfl, rfl⟩
set_option maxRecDepth 100000 in
set_option maxHeartbeats 2000000 in
theorem strong58 (s : ByteArray) (w : World) : Calls Tryd.prog 74 #[.string s] w fun e w' => e = .returned (.int .i64 (st s)) ∧ w' = w := by
  cases h0 : (s.toList == [124, 124])
  case true =>
    rw [show st s = 1 by unfold st; simp only [h0, if_true]]
    go_enter Tryd.func74, Tryd.ntmps74
    go_wp2
    go_ret
    exact ⟨rfl, rfl⟩
  cases h1 : (s.toList == [38, 38])
  case true =>
    rw [show st s = 2 by unfold st; simp only [h0, h1, if_true, if_false, Bool.false_eq_true]]
    go_enter Tryd.func74, Tryd.ntmps74
    go_wp2
    go_ret
    exact ⟨rfl, rfl⟩
  cases h2 : (s.toList == [124])
  case true =>
    rw [show st s = 3 by unfold st; simp only [h0, h1, h2, if_true, if_false, Bool.false_eq_true]]
    go_enter Tryd.func74, Tryd.ntmps74
    go_wp2
    go_ret
    exact ⟨rfl, rfl⟩
  cases h3 : (s.toList == [94])
  case true =>
    rw [show st s = 4 by unfold st; simp only [h0, h1, h2, h3, if_true, if_false, Bool.false_eq_true]]
    go_enter Tryd.func74, Tryd.ntmps74
    go_wp2
    go_ret
    exact ⟨rfl, rfl⟩
  cases h4 : (s.toList == [38])
  case true =>
    rw [show st s = 5 by unfold st; simp only [h0, h1, h2, h3, h4, if_true, if_false, Bool.false_eq_true]]
    go_enter Tryd.func74, Tryd.ntmps74
    go_wp2
    go_ret
    exact ⟨rfl, rfl⟩
  cases h5 : (s.toList == [61, 61])
  case true =>
    rw [show st s = 6 by unfold st; simp only [h0, h1, h2, h3, h4, h5, if_true, if_false, Bool.false_eq_true]]
    go_enter Tryd.func74, Tryd.ntmps74
    go_wp2
    go_ret
    exact ⟨rfl, rfl⟩
  cases h6 : (s.toList == [33, 61])
  case true =>
    rw [show st s = 6 by unfold st; simp only [h0, h1, h2, h3, h4, h5, h6, if_true, if_false, Bool.false_eq_true]]
    go_enter Tryd.func74, Tryd.ntmps74
    go_wp2
    go_ret
    exact ⟨rfl, rfl⟩
  cases h7 : (s.toList == [60])
  case true =>
    rw [show st s = 7 by unfold st; simp only [h0, h1, h2, h3, h4, h5, h6, h7, if_true, if_false, Bool.false_eq_true]]
    go_enter Tryd.func74, Tryd.ntmps74
    go_wp2
    go_ret
    exact ⟨rfl, rfl⟩
  cases h8 : (s.toList == [60, 61])
  case true =>
    rw [show st s = 7 by unfold st; simp only [h0, h1, h2, h3, h4, h5, h6, h7, h8, if_true, if_false, Bool.false_eq_true]]
    go_enter Tryd.func74, Tryd.ntmps74
    go_wp2
    go_ret
    exact ⟨rfl, rfl⟩
  cases h9 : (s.toList == [62])
  case true =>
    rw [show st s = 7 by unfold st; simp only [h0, h1, h2, h3, h4, h5, h6, h7, h8, h9, if_true, if_false, Bool.false_eq_true]]
    go_enter Tryd.func74, Tryd.ntmps74
    go_wp2
    go_ret
    exact ⟨rfl, rfl⟩
  cases h10 : (s.toList == [62, 61])
  case true =>
    rw [show st s = 7 by unfold st; simp only [h0, h1, h2, h3, h4, h5, h6, h7, h8, h9, h10, if_true, if_false, Bool.false_eq_true]]
    go_enter Tryd.func74, Tryd.ntmps74
    go_wp2
    go_ret
    exact ⟨rfl, rfl⟩
  cases h11 : (s.toList == [60, 60])
  case true =>
    rw [show st s = 8 by unfold st; simp only [h0, h1, h2, h3, h4, h5, h6, h7, h8, h9, h10, h11, if_true, if_false, Bool.false_eq_true]]
    go_enter Tryd.func74, Tryd.ntmps74
    go_wp2
    go_ret
    exact ⟨rfl, rfl⟩
  cases h12 : (s.toList == [62, 62])
  case true =>
    rw [show st s = 8 by unfold st; simp only [h0, h1, h2, h3, h4, h5, h6, h7, h8, h9, h10, h11, h12, if_true, if_false, Bool.false_eq_true]]
    go_enter Tryd.func74, Tryd.ntmps74
    go_wp2
    go_ret
    exact ⟨rfl, rfl⟩
  cases h13 : (s.toList == [43])
  case true =>
    rw [show st s = 9 by unfold st; simp only [h0, h1, h2, h3, h4, h5, h6, h7, h8, h9, h10, h11, h12, h13, if_true, if_false, Bool.false_eq_true]]
    go_enter Tryd.func74, Tryd.ntmps74
    go_wp2
    go_ret
    exact ⟨rfl, rfl⟩
  cases h14 : (s.toList == [45])
  case true =>
    rw [show st s = 9 by unfold st; simp only [h0, h1, h2, h3, h4, h5, h6, h7, h8, h9, h10, h11, h12, h13, h14, if_true, if_false, Bool.false_eq_true]]
    go_enter Tryd.func74, Tryd.ntmps74
    go_wp2
    go_ret
    exact ⟨rfl, rfl⟩
  cases h15 : (s.toList == [42])
  case true =>
    rw [show st s = 10 by unfold st; simp only [h0, h1, h2, h3, h4, h5, h6, h7, h8, h9, h10, h11, h12, h13, h14, h15, if_true, if_false, Bool.false_eq_true]]
    go_enter Tryd.func74, Tryd.ntmps74
    go_wp2
    go_ret
    exact ⟨rfl, rfl⟩
  cases h16 : (s.toList == [47])
  case true =>
    rw [show st s = 10 by unfold st; simp only [h0, h1, h2, h3, h4, h5, h6, h7, h8, h9, h10, h11, h12, h13, h14, h15, h16, if_true, if_false, Bool.false_eq_true]]
    go_enter Tryd.func74, Tryd.ntmps74
    go_wp2
    go_ret
    exact ⟨rfl, rfl⟩
  cases h17 : (s.toList == [37])
  case true =>
    rw [show st s = 10 by unfold st; simp only [h0, h1, h2, h3, h4, h5, h6, h7, h8, h9, h10, h11, h12, h13, h14, h15, h16, h17, if_true, if_false, Bool.false_eq_true]]
    go_enter Tryd.func74, Tryd.ntmps74
    go_wp2
    go_ret
    exact ⟨rfl, rfl⟩
  rw [show st s = 0 by unfold st; simp only [h0, h1, h2, h3, h4, h5, h6, h7, h8, h9, h10, h11, h12, h13, h14, h15, h16, h17, if_false, Bool.false_eq_true]]
  go_enter Tryd.func74, Tryd.ntmps74
  go_wp2
  go_ret
  exact ⟨rfl, rfl⟩
end Go.Proofs.YtcgapochcahknaaDoor
