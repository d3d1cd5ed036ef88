/- The model's l10Writes. -/
import Derived.Test.YtcgapochcahknaaDoorSml
import Derived.Test.YtcgapochcahknaaDoorBnr
namespace Go.Proofs.YtcgapochcahknaaDoor
open Go.ChangeShapes Go.WideShapes Go.ChangeAt Go.RowKit
set_option linter.unusedVariables false
set_option maxRecDepth 100000
def fNw (o : Int) : Int := (if nmd o 0 then 16 else 0) + (if nmd o 1 then 8 else 0) + (if nmd o 2 then 4 else 0) + (if nmd o 3 then 2 else 0) + (if nmd o 4 then 1 else 0)
theorem fields47w (o : Int) (w : World) (h : 1 ≤ o ∧ o ≤ 13) : Calls Tryd.prog 67 #[.int .i64 o] w fun e w' => e = .returned (.int .i64 (fNw o)) ∧ w' = w := by
  rcases op_in o h with rfl | rfl | rfl | rfl | rfl | rfl | rfl | rfl | rfl | rfl | rfl | rfl | rfl
  · exact fields47_1 w
  · exact fields47_2 w
  · exact fields47_3 w
  · exact fields47_4 w
  · exact fields47_5 w
  · exact fields47_6 w
  · exact fields47_7 w
  · exact fields47_8 w
  · exact fields47_9 w
  · exact fields47_10 w
  · exact fields47_11 w
  · exact fields47_12 w
  · exact fields47_13 w
theorem fN_16w (o : Int) (h : 1 ≤ o ∧ o ≤ 13) : (Go.bits .and .i64 (fNw o) 16 == 0) = !nmd o 0 := by
  rcases op_in o h with rfl | rfl | rfl | rfl | rfl | rfl | rfl | rfl | rfl | rfl | rfl | rfl | rfl <;> decide +kernel
set_option maxRecDepth 100000 in
set_option maxHeartbeats 2000000 in
theorem writes63 (o d a b c x : Int) (w : World) (h : 1 ≤ o ∧ o ≤ 13) : Calls Tryd.prog 62 #[.agg #[.int .i64 o, .int .i64 d, .int .i64 a, .int .i64 b, .int .i64 c, .int .u32 x]] w fun e w' => e = .returned (.int .i64 (if nmd o 0 then d else -1)) ∧ Below w.heap.size w w' := by
  have h47 := fun v => fields47w o v h
  have hb := fN_16w o h
  clear h
  generalize fNw o = F at h47 hb
  cases hn : nmd o 0
  all_goals
    rw [hn] at hb
    simp only [Bool.not_true, Bool.not_false] at hb
    clear hn
    go_enter Tryd.func62, Tryd.ntmps62
    go_wp2_with (go_at_call 67; refine (h47 _).mono ?_; rintro e w1 ⟨rfl, hw⟩; subst w1)
    go_ret
    exact ⟨rfl, (Below.refl _ _).alloc (Nat.le_refl _) _⟩
end Go.Proofs.YtcgapochcahknaaDoor
