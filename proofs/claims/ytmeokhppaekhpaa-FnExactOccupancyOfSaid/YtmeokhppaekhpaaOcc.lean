/- OccupancyOf of both sides: at good arguments the least of the three bounds, 0 else. -/
import Derived.Test.YtmeokhppaekhpaaRows
import Derived.WalkKit
import Derived.ProofKit
namespace Go.Proofs.Ytmeokhppaekhpaa
open Go
set_option linter.unusedVariables false
/-- how many groups a core can have, of good arguments -/
def occ (p s z : Int) : Int := min (if 0 < p then min 8 (256 / (p * z)) else 8) (if 0 < s then 512 / (s * z) else 8)
/-- at any arguments -/
def occA (p s z : Int) : Int := if p < 0 ∨ 64 < p ∨ s < 0 ∨ 400 < s ∨ z < 1 ∨ 8 < z then 0 else occ p s z
theorem o4bad (p s z : Int) (h : p < 0 ∨ 64 < p ∨ s < 0 ∨ 400 < s ∨ z < 1 ∨ 8 < z) (w : World) : Calls Try.prog 4 #[.int .i64 p, .int .i64 s, .int .i64 z] w fun e w' => e = .returned (.int .i64 0) ∧ w' = w := by
  by_cases c1 : p < 0
  · clear h; go_enter Try.func4, Try.ntmps4
    go_wp2
    go_ret
    exact ⟨rfl, rfl⟩
  by_cases c2 : 64 < p
  · clear h; go_enter Try.func4, Try.ntmps4
    go_wp2
    go_ret
    exact ⟨rfl, rfl⟩
  by_cases c3 : s < 0
  · clear h; go_enter Try.func4, Try.ntmps4
    go_wp2
    go_ret
    exact ⟨rfl, rfl⟩
  by_cases c4 : 400 < s
  · clear h; go_enter Try.func4, Try.ntmps4
    go_wp2
    go_ret
    exact ⟨rfl, rfl⟩
  by_cases c5 : z < 1
  · clear h; go_enter Try.func4, Try.ntmps4
    go_wp2
    go_ret
    exact ⟨rfl, rfl⟩
  by_cases c6 : 8 < z
  · clear h; go_enter Try.func4, Try.ntmps4
    go_wp2
    go_ret
    exact ⟨rfl, rfl⟩
  exact absurd h (by omega)
theorem o5bad (p s z : Int) (h : p < 0 ∨ 64 < p ∨ s < 0 ∨ 400 < s ∨ z < 1 ∨ 8 < z) (w : World) : Calls Try.prog 5 #[.int .i64 p, .int .i64 s, .int .i64 z] w fun e w' => e = .returned (.int .i64 0) ∧ w' = w := by
  by_cases c1 : p < 0
  · clear h; go_enter Try.func5, Try.ntmps5
    go_wp2
    go_ret
    exact ⟨rfl, rfl⟩
  by_cases c2 : 64 < p
  · clear h; go_enter Try.func5, Try.ntmps5
    go_wp2
    go_ret
    exact ⟨rfl, rfl⟩
  by_cases c3 : s < 0
  · clear h; go_enter Try.func5, Try.ntmps5
    go_wp2
    go_ret
    exact ⟨rfl, rfl⟩
  by_cases c4 : 400 < s
  · clear h; go_enter Try.func5, Try.ntmps5
    go_wp2
    go_ret
    exact ⟨rfl, rfl⟩
  by_cases c5 : z < 1
  · clear h; go_enter Try.func5, Try.ntmps5
    go_wp2
    go_ret
    exact ⟨rfl, rfl⟩
  by_cases c6 : 8 < z
  · clear h; go_enter Try.func5, Try.ntmps5
    go_wp2
    go_ret
    exact ⟨rfl, rfl⟩
  exact absurd h (by omega)
theorem o4g00 (p s z : Int) (hp : p = 0) (hs : s = 0) (z1 : 1 ≤ z) (z8 : z ≤ 8) (w : World) : Calls Try.prog 4 #[.int .i64 p, .int .i64 s, .int .i64 z] w fun e w' => e = .returned (.int .i64 (occ p s z)) ∧ w' = w := by
  subst hp
  subst hs
  have e0 : occ 0 0 z = min (8) (8) := by unfold occ; simp only [if_false, Int.lt_irrefl, if_false]
  go_enter Try.func4, Try.ntmps4
  go_wp2
  all_goals go_ret
  all_goals (refine ⟨?_, rfl⟩; (try rw [e0]); change Ending.returned (Value.int IntKind.i64 _) = _; congr 2 <;> omega)
theorem o4g01 (p s z : Int) (hp : p = 0) (hs : 1 ≤ s ∧ s ≤ 400) (z1 : 1 ≤ z) (z8 : z ≤ 8) (w : World) : Calls Try.prog 4 #[.int .i64 p, .int .i64 s, .int .i64 z] w fun e w' => e = .returned (.int .i64 (occ p s z)) ∧ w' = w := by
  have y1 : 1 ≤ s * z := by
    have := Int.mul_le_mul hs.1 z1 (by omega) (by omega); simpa using this
  have y2 : s * z ≤ 3200 := by
    have := Int.mul_le_mul hs.2 z8 (by omega) (by omega); simpa using this
  have r1 : 0 ≤ 512 / (s * z) := Int.ediv_nonneg (by omega) (by omega)
  have r2 : 512 / (s * z) ≤ 512 := Int.ediv_le_self _ (by omega)
  subst hp
  have e0 : occ 0 s z = min (8) (512 / (s * z)) := by unfold occ; simp only [show (0 : Int) < s from by omega, if_true, Int.lt_irrefl, if_false]
  go_enter Try.func4, Try.ntmps4
  go_wp2
  all_goals go_ret
  all_goals (refine ⟨?_, rfl⟩; (try rw [e0]); change Ending.returned (Value.int IntKind.i64 _) = _; congr 2 <;> omega)
theorem o4g10 (p s z : Int) (hp : 1 ≤ p ∧ p ≤ 64) (hs : s = 0) (z1 : 1 ≤ z) (z8 : z ≤ 8) (w : World) : Calls Try.prog 4 #[.int .i64 p, .int .i64 s, .int .i64 z] w fun e w' => e = .returned (.int .i64 (occ p s z)) ∧ w' = w := by
  have x1 : 1 ≤ p * z := by
    have := Int.mul_le_mul hp.1 z1 (by omega) (by omega); simpa using this
  have x2 : p * z ≤ 512 := by
    have := Int.mul_le_mul hp.2 z8 (by omega) (by omega); simpa using this
  have q1 : 0 ≤ 256 / (p * z) := Int.ediv_nonneg (by omega) (by omega)
  have q2 : 256 / (p * z) ≤ 256 := Int.ediv_le_self _ (by omega)
  subst hs
  have e0 : occ p 0 z = min (min 8 (256 / (p * z))) (8) := by unfold occ; simp only [show (0 : Int) < p from by omega, if_true, Int.lt_irrefl, if_false]
  go_enter Try.func4, Try.ntmps4
  go_wp2
  all_goals go_ret
  all_goals (refine ⟨?_, rfl⟩; (try rw [e0]); change Ending.returned (Value.int IntKind.i64 _) = _; congr 2 <;> omega)
theorem o4g11 (p s z : Int) (hp : 1 ≤ p ∧ p ≤ 64) (hs : 1 ≤ s ∧ s ≤ 400) (z1 : 1 ≤ z) (z8 : z ≤ 8) (w : World) : Calls Try.prog 4 #[.int .i64 p, .int .i64 s, .int .i64 z] w fun e w' => e = .returned (.int .i64 (occ p s z)) ∧ w' = w := by
  have x1 : 1 ≤ p * z := by
    have := Int.mul_le_mul hp.1 z1 (by omega) (by omega); simpa using this
  have x2 : p * z ≤ 512 := by
    have := Int.mul_le_mul hp.2 z8 (by omega) (by omega); simpa using this
  have q1 : 0 ≤ 256 / (p * z) := Int.ediv_nonneg (by omega) (by omega)
  have q2 : 256 / (p * z) ≤ 256 := Int.ediv_le_self _ (by omega)
  have y1 : 1 ≤ s * z := by
    have := Int.mul_le_mul hs.1 z1 (by omega) (by omega); simpa using this
  have y2 : s * z ≤ 3200 := by
    have := Int.mul_le_mul hs.2 z8 (by omega) (by omega); simpa using this
  have r1 : 0 ≤ 512 / (s * z) := Int.ediv_nonneg (by omega) (by omega)
  have r2 : 512 / (s * z) ≤ 512 := Int.ediv_le_self _ (by omega)
  have e0 : occ p s z = min (min 8 (256 / (p * z))) (512 / (s * z)) := by unfold occ; simp only [show (0 : Int) < p from by omega, show (0 : Int) < s from by omega, if_true]
  go_enter Try.func4, Try.ntmps4
  go_wp2
  all_goals go_ret
  all_goals (refine ⟨?_, rfl⟩; (try rw [e0]); change Ending.returned (Value.int IntKind.i64 _) = _; congr 2 <;> omega)
theorem o5g00 (p s z : Int) (hp : p = 0) (hs : s = 0) (z1 : 1 ≤ z) (z8 : z ≤ 8) (w : World) : Calls Try.prog 5 #[.int .i64 p, .int .i64 s, .int .i64 z] w fun e w' => e = .returned (.int .i64 (occ p s z)) ∧ w' = w := by
  subst hp
  subst hs
  have e0 : occ 0 0 z = min (8) (8) := by unfold occ; simp only [if_false, Int.lt_irrefl, if_false]
  go_enter Try.func5, Try.ntmps5
  go_wp2
  all_goals go_ret
  all_goals (refine ⟨?_, rfl⟩; (try rw [e0]); change Ending.returned (Value.int IntKind.i64 _) = _; congr 2 <;> omega)
theorem o5g01 (p s z : Int) (hp : p = 0) (hs : 1 ≤ s ∧ s ≤ 400) (z1 : 1 ≤ z) (z8 : z ≤ 8) (w : World) : Calls Try.prog 5 #[.int .i64 p, .int .i64 s, .int .i64 z] w fun e w' => e = .returned (.int .i64 (occ p s z)) ∧ w' = w := by
  have y1 : 1 ≤ s * z := by
    have := Int.mul_le_mul hs.1 z1 (by omega) (by omega); simpa using this
  have y2 : s * z ≤ 3200 := by
    have := Int.mul_le_mul hs.2 z8 (by omega) (by omega); simpa using this
  have r1 : 0 ≤ 512 / (s * z) := Int.ediv_nonneg (by omega) (by omega)
  have r2 : 512 / (s * z) ≤ 512 := Int.ediv_le_self _ (by omega)
  subst hp
  have e0 : occ 0 s z = min (8) (512 / (s * z)) := by unfold occ; simp only [show (0 : Int) < s from by omega, if_true, Int.lt_irrefl, if_false]
  go_enter Try.func5, Try.ntmps5
  go_wp2
  all_goals go_ret
  all_goals (refine ⟨?_, rfl⟩; (try rw [e0]); change Ending.returned (Value.int IntKind.i64 _) = _; congr 2 <;> omega)
theorem o5g10 (p s z : Int) (hp : 1 ≤ p ∧ p ≤ 64) (hs : s = 0) (z1 : 1 ≤ z) (z8 : z ≤ 8) (w : World) : Calls Try.prog 5 #[.int .i64 p, .int .i64 s, .int .i64 z] w fun e w' => e = .returned (.int .i64 (occ p s z)) ∧ w' = w := by
  have x1 : 1 ≤ p * z := by
    have := Int.mul_le_mul hp.1 z1 (by omega) (by omega); simpa using this
  have x2 : p * z ≤ 512 := by
    have := Int.mul_le_mul hp.2 z8 (by omega) (by omega); simpa using this
  have q1 : 0 ≤ 256 / (p * z) := Int.ediv_nonneg (by omega) (by omega)
  have q2 : 256 / (p * z) ≤ 256 := Int.ediv_le_self _ (by omega)
  subst hs
  have e0 : occ p 0 z = min (min 8 (256 / (p * z))) (8) := by unfold occ; simp only [show (0 : Int) < p from by omega, if_true, Int.lt_irrefl, if_false]
  go_enter Try.func5, Try.ntmps5
  go_wp2
  all_goals go_ret
  all_goals (refine ⟨?_, rfl⟩; (try rw [e0]); change Ending.returned (Value.int IntKind.i64 _) = _; congr 2 <;> omega)
theorem o5g11 (p s z : Int) (hp : 1 ≤ p ∧ p ≤ 64) (hs : 1 ≤ s ∧ s ≤ 400) (z1 : 1 ≤ z) (z8 : z ≤ 8) (w : World) : Calls Try.prog 5 #[.int .i64 p, .int .i64 s, .int .i64 z] w fun e w' => e = .returned (.int .i64 (occ p s z)) ∧ w' = w := by
  have x1 : 1 ≤ p * z := by
    have := Int.mul_le_mul hp.1 z1 (by omega) (by omega); simpa using this
  have x2 : p * z ≤ 512 := by
    have := Int.mul_le_mul hp.2 z8 (by omega) (by omega); simpa using this
  have q1 : 0 ≤ 256 / (p * z) := Int.ediv_nonneg (by omega) (by omega)
  have q2 : 256 / (p * z) ≤ 256 := Int.ediv_le_self _ (by omega)
  have y1 : 1 ≤ s * z := by
    have := Int.mul_le_mul hs.1 z1 (by omega) (by omega); simpa using this
  have y2 : s * z ≤ 3200 := by
    have := Int.mul_le_mul hs.2 z8 (by omega) (by omega); simpa using this
  have r1 : 0 ≤ 512 / (s * z) := Int.ediv_nonneg (by omega) (by omega)
  have r2 : 512 / (s * z) ≤ 512 := Int.ediv_le_self _ (by omega)
  have e0 : occ p s z = min (min 8 (256 / (p * z))) (512 / (s * z)) := by unfold occ; simp only [show (0 : Int) < p from by omega, show (0 : Int) < s from by omega, if_true]
  go_enter Try.func5, Try.ntmps5
  go_wp2
  all_goals go_ret
  all_goals (refine ⟨?_, rfl⟩; (try rw [e0]); change Ending.returned (Value.int IntKind.i64 _) = _; congr 2 <;> omega)
/-- what is answered at any arguments -/
theorem o4 (p s z : Int) (w : World) : Calls Try.prog 4 #[.int .i64 p, .int .i64 s, .int .i64 z] w fun e w' => e = .returned (.int .i64 (occA p s z)) ∧ w' = w := by
  by_cases h : p < 0 ∨ 64 < p ∨ s < 0 ∨ 400 < s ∨ z < 1 ∨ 8 < z
  · unfold occA; rw [if_pos h]; exact o4bad p s z h w
  · unfold occA; rw [if_neg h]
    rcases Int.lt_or_le 0 p with a | a <;> rcases Int.lt_or_le 0 s with b | b
    · exact o4g11 p s z (by omega) (by omega) (by omega) (by omega) w
    · exact o4g10 p s z (by omega) (by omega) (by omega) (by omega) w
    · exact o4g01 p s z (by omega) (by omega) (by omega) (by omega) w
    · exact o4g00 p s z (by omega) (by omega) (by omega) (by omega) w
/-- what is answered at any arguments -/
theorem o5 (p s z : Int) (w : World) : Calls Try.prog 5 #[.int .i64 p, .int .i64 s, .int .i64 z] w fun e w' => e = .returned (.int .i64 (occA p s z)) ∧ w' = w := by
  by_cases h : p < 0 ∨ 64 < p ∨ s < 0 ∨ 400 < s ∨ z < 1 ∨ 8 < z
  · unfold occA; rw [if_pos h]; exact o5bad p s z h w
  · unfold occA; rw [if_neg h]
    rcases Int.lt_or_le 0 p with a | a <;> rcases Int.lt_or_le 0 s with b | b
    · exact o5g11 p s z (by omega) (by omega) (by omega) (by omega) w
    · exact o5g10 p s z (by omega) (by omega) (by omega) (by omega) w
    · exact o5g01 p s z (by omega) (by omega) (by omega) (by omega) w
    · exact o5g00 p s z (by omega) (by omega) (by omega) (by omega) w
end Go.Proofs.Ytmeokhppaekhpaa
