/- Contracts of the program's WholeOf and of what it calls last, as plain whole numbers; conditions: words of 32 bits, the table of forms as the program lays it. -/
import Derived.Test.YtpildklndfgojaaDoorCut
namespace Go.Proofs.YtpildklndfgojaaDoor
open Go.ChangeShapes Go.WideShapes Go.ChangeAt Go.RowKit
/-- Whether a mode takes the next one away from 0. -/
def goesB (mode : Int) (neg : Bool) (kept cut : Int) : Bool :=
  if mode = 0 then (cut == 3 || (cut == 2 && kept % 2 == 1)) else if mode = 1 then decide (2 ≤ cut)
  else if mode = 3 then (cut != 0 && !neg) else if mode = 4 then (cut != 0 && neg) else false
set_option maxHeartbeats 1000000 in
theorem goesAway_any (mode : Int) (neg : Bool) (kept cut : Int) (h0 : 0 ≤ kept) (h1 : kept < 18446744073709551616) (hc : cut = 0 ∨ cut = 1 ∨ cut = 2 ∨ cut = 3) (w : World) :
    Calls Tryd.prog 95 #[.int .i64 mode, .bool neg, .int .u64 kept, .int .i64 cut] w fun e w' => e = .returned (.bool (goesB mode neg kept cut)) ∧ w' = w := by
  obtain ⟨r, hr⟩ : ∃ r, goesB mode neg kept cut = r := ⟨_, rfl⟩
  rw [hr]
  unfold goesB at hr
  by_cases m0 : mode = 0
  · rw [if_pos m0] at hr
    by_cases ko : kept % 2 = 1
    all_goals
      rcases hc with rfl | rfl | rfl | rfl
      all_goals
        simp [ko] at hr
        subst hr
        go_enter Tryd.func95, Tryd.ntmps95
        go_wp2
        go_ret
        exact ⟨rfl, rfl⟩
  rw [if_neg m0] at hr
  by_cases m1 : mode = 1
  · rw [if_pos m1] at hr
    rcases hc with rfl | rfl | rfl | rfl
    all_goals
      simp at hr
      subst hr
      go_enter Tryd.func95, Tryd.ntmps95
      go_wp2
      go_ret
      exact ⟨rfl, rfl⟩
  rw [if_neg m1] at hr
  by_cases m3 : mode = 3
  · rw [if_pos m3] at hr
    rcases hc with rfl | rfl | rfl | rfl
    all_goals
      cases neg
      all_goals
        simp at hr
        subst hr
        go_enter Tryd.func95, Tryd.ntmps95
        go_wp2
        go_ret
        exact ⟨rfl, rfl⟩
  rw [if_neg m3] at hr
  by_cases m4 : mode = 4
  · rw [if_pos m4] at hr
    rcases hc with rfl | rfl | rfl | rfl
    all_goals
      cases neg
      all_goals
        simp at hr
        subst hr
        go_enter Tryd.func95, Tryd.ntmps95
        go_wp2
        go_ret
        exact ⟨rfl, rfl⟩
  rw [if_neg m4] at hr
  subst hr
  go_enter Tryd.func95, Tryd.ntmps95
  go_wp2
  go_ret
  exact ⟨rfl, rfl⟩

/-- A size with its sign, kept within 32 bits. -/
def wholeI (z : Int) (neg : Bool) : Int := if neg then (if 2147483648 < z then -2147483648 else -z) else (if 2147483647 < z then 2147483647 else z)
theorem exS_bd (r : Int) (h : 0 ≤ r) : 0 ≤ exS r ∧ exS r < 16777216 := by unfold exS; split <;> omega
theorem exP_bd (r : Int) (h : 0 ≤ r) (h1 : r ≤ 2139095040) : -149 ≤ exP r ∧ exP r ≤ 105 := by unfold exP; split <;> omega

theorem cutI_cases (r M : Int) (m : Bool) : cutI r M m = 0 ∨ cutI r M m = 1 ∨ cutI r M m = 2 ∨ cutI r M m = 3 := by
  unfold cutI; split
  · omega
  · split
    · omega
    · split <;> omega

end Go.Proofs.YtpildklndfgojaaDoor
