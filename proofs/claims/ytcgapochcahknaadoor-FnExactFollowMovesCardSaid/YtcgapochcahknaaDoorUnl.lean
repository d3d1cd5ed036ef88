/- The model's l12Unread: what is unread is taken out again and again. -/
import Derived.Test.YtcgapochcahknaaDoorUni
import Derived.Test.YtcgapochcahknaaDoorRdt
import Derived.Test.YtcgapochcahknaaDoorEnc
namespace Go.Proofs.YtcgapochcahknaaDoor
open Go.ChangeShapes Go.WideShapes Go.ChangeAt Go.RowKit
set_option linter.unusedVariables false
theorem fN_16 (o : Int) (h : 1 ≤ o ∧ o ≤ 13) : (Go.bits .and .i64 (fN o) 16 == 0) = !nmd o 0 := by
  rcases op_in o h with rfl | rfl | rfl | rfl | rfl | rfl | rfl | rfl | rfl | rfl | rfl | rfl | rfl <;> decide +kernel
set_option maxRecDepth 100000 in
set_option maxHeartbeats 2000000 in
theorem writes63 (o d a b c x : Int) (w : World) (h : 1 ≤ o ∧ o ≤ 13) : Calls Tryd.prog 62 #[.agg #[.int .i64 o, .int .i64 d, .int .i64 a, .int .i64 b, .int .i64 c, .int .u32 x]] w fun e w' => e = .returned (.int .i64 (if nmd o 0 then d else -1)) ∧ Below w.heap.size w w' := by
  have h47 := fun v => fields47 o v h
  have hb := fN_16 o h
  clear h
  generalize fN o = F at h47 hb
  cases hn : nmd o 0
  all_goals
    rw [hn] at hb
    simp only [Bool.not_true, Bool.not_false] at hb
    clear hn
    go_enter Tryd.func62, Tryd.ntmps62
    go_wp2_with (go_at_call 67; refine (h47 _).mono ?_; rintro e w1 ⟨rfl, hw⟩; subst w1)
    go_ret
    exact ⟨rfl, (Below.refl _ _).alloc (Nat.le_refl _) _⟩
/-- Whether one of the first k is taken out. -/
def anyB (Z : Nat → Bool) : Nat → Bool
  | 0 => false
  | k + 1 => anyB Z k || Z k
theorem anyB_none {Z : Nat → Bool} : ∀ {n : Nat}, anyB Z n = false → ∀ i, i < n → Z i = false
  | 0, _, i, hi => by omega
  | n + 1, h, i, hi => by
    rw [anyB, Bool.or_eq_false_iff] at h
    by_cases e : i = n
    · subst e; exact h.2
    · exact anyB_none h.1 i (by omega)
/-- How many instructions DropUnread answers. -/
def urN (O D A B C X : Nat → Int) (n : Nat) : Nat := if goodC O D A B C X n then (usN n ⟨O, D, A, B, C, X, n⟩).n else 0
end Go.Proofs.YtcgapochcahknaaDoor
