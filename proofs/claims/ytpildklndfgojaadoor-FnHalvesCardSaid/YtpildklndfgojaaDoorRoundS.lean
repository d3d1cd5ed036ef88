/- The model's RoundNumber at every number answers a word. -/
import Derived.Test.YtpildklndfgojaaDoorSmall3
import Derived.Test.YtpildklndfgojaaDoorCards
import Derived.Test.YtpildklndfgojaaDoorTie
import Derived.WalkSmall
namespace Go.Proofs.YtpildklndfgojaaDoor.fnExactRoundNumber
open Go.ChangeShapes Go.WideShapes Go.ChangeAt Go.RowKit
set_option linter.unusedVariables false
theorem s_mode (num power mode : Int) (hm : ¬ (0 ≤ mode ∧ mode ≤ 4)) (w : World) : Calls Tryd.prog 90 #[.int .i64 num, .int .i64 power, .int .i64 mode] w fun e w' => e = .returned (.int .u32 0) ∧ Below w.heap.size w w' := by
  have hg := sGood_any mode w
  rw [decide_eq_false hm] at hg
  go_enter Tryd.func90, Tryd.ntmps90
  go_wp2_with (go_at_call 12; refine hg.mono ?_; rintro e w' ⟨rfl, hw⟩; subst w')
  go_ret
  exact ⟨rfl, Below.refl _ _⟩
theorem s_bad (num power mode : Int) (hm : 0 ≤ mode ∧ mode ≤ 4) (h : num = 0 ∨ power < -400 ∨ 400 < power) (w : World) : Calls Tryd.prog 90 #[.int .i64 num, .int .i64 power, .int .i64 mode] w fun e w' => e = .returned (.int .u32 0) ∧ Below w.heap.size w w' := by
  have hg := sGood_any mode w
  rw [decide_eq_true hm] at hg
  by_cases h1 : power < -400
  · clear h
    go_enter Tryd.func90, Tryd.ntmps90
    go_wp2_with (go_at_call 12; refine hg.mono ?_; rintro e w' ⟨rfl, hw⟩; subst w')
    go_ret
    exact ⟨rfl, Below.refl _ _⟩
  · by_cases h2 : 400 < power
    · clear h
      go_enter Tryd.func90, Tryd.ntmps90
      go_wp2_with (go_at_call 12; refine hg.mono ?_; rintro e w' ⟨rfl, hw⟩; subst w')
      go_ret
      exact ⟨rfl, Below.refl _ _⟩
    · obtain rfl : num = 0 := by omega
      clear h
      go_enter Tryd.func90, Tryd.ntmps90
      go_wp2_with (go_at_call 12; refine hg.mono ?_; rintro e w' ⟨rfl, hw⟩; subst w')
      go_ret
      exact ⟨rfl, Below.refl _ _⟩
theorem s_num (num power mode R : Int) (hm : 0 ≤ mode ∧ mode ≤ 4) (h0 : ¬ num = 0) (a0 : -9223372036854775808 ≤ num) (a1 : num ≤ 9223372036854775807) (p0 : -400 ≤ power) (p1 : power ≤ 400) (r0 : 0 ≤ R) (r1 : R < 4294967296) (w : World)
    (hT : ∀ (v : World) (V : Int) (g : Bool) (p : Option Addr) (l c : Nat), Num v 3 (.agg #[.int .i64 V, .bool g, .slice p l c]) num → Calls Tryd.prog 35 #[.agg #[.int .i64 V, .bool g, .slice p l c, .int .i64 1, .bool false, .slice none 0 0, .int .i64 power], .agg #[.int .i64 24, .int .i64 (-149), .int .i64 104], .int .i64 mode] v fun e w' => e = .returned (.int .i64 R) ∧ Below v.heap.size v w') :
    Calls Tryd.prog 90 #[.int .i64 num, .int .i64 power, .int .i64 mode] w fun e w' => e = .returned (.int .u32 R) ∧ Below w.heap.size w w' := by
  have hg := sGood_any mode w
  rw [decide_eq_true hm] at hg
  have n0 : (num == 0) = false := by simpa using h0
  have q1 : ¬ power < -400 := by omega
  have q2 : ¬ 400 < power := by omega
  have HE : Hid (Calls Tryd.prog 36 #[.int .i64 num, .int .i64 power] w fun e w' => ∃ V g p l c, e = .returned (.agg #[.int .i64 V, .bool g, .slice p l c, .int .i64 1, .bool false, .slice none 0 0, .int .i64 power]) ∧ Num w' 3 (.agg #[.int .i64 V, .bool g, .slice p l c]) num ∧ Below w.heap.size w w') := num_exact num power a0 a1 w
  go_enter Tryd.func90, Tryd.ntmps90
  go_wp2_with (first | (go_at_call 12; refine hg.mono ?_; rintro e w' ⟨rfl, hw⟩; subst w') | (go_at_call 36; refine (Hid.out HE).mono ?_; rintro e w1 ⟨V, g, p, l, c, rfl, NV, hb1⟩) | (go_at_call 37; refine (zWord w1).mono ?_; rintro e w2 ⟨rfl, hb2⟩) | (go_at_call 35; refine (hT w2 V g p l c (NV.next hb2)).mono ?_; rintro e w3 ⟨rfl, hb3⟩))
  go_ret
  exact ⟨rfl, (hb1.trans (hb2.mono hb1.size)).trans (hb3.mono (Nat.le_trans hb1.size hb2.size))⟩
theorem specR (num power mode : Int) (a0 : -9223372036854775808 ≤ num) (a1 : num ≤ 9223372036854775807) : ∃ R : Int, 0 ≤ R ∧ R < 4294967296 ∧
    (∀ w : World, Calls Tryd.prog 90 #[.int .i64 num, .int .i64 power, .int .i64 mode] w fun e w' => e = .returned (.int .u32 R) ∧ Below w.heap.size w w') := by
  by_cases hm : 0 ≤ mode ∧ mode ≤ 4
  case neg => exact ⟨0, by decide, by decide, fun w => s_mode num power mode hm w⟩
  by_cases hb : num = 0 ∨ power < -400 ∨ 400 < power
  · exact ⟨0, by decide, by decide, fun w => s_bad num power mode hm hb w⟩
  obtain ⟨z, hz⟩ : ∃ z, num.natAbs = z := ⟨_, rfl⟩
  obtain ⟨R, r0, r1, hi, hs⟩ := whole_both_w (decide (num < 0)) z power mode num hm.1 hm.2 (by omega) (by omega) (by omega) (by omega) hz rfl
  refine ⟨R, r0, r1, fun w => s_num num power mode R hm (by omega) a0 a1 (by omega) (by omega) r0 r1 w (fun v V g p l c NV => ?_)⟩
  exact hs v 3 3 V 1 g false p none l c 0 0 NV (num_small v 3 1 (by decide) (by decide)) (by decide) (by decide)
end Go.Proofs.YtpildklndfgojaaDoor.fnExactRoundNumber
