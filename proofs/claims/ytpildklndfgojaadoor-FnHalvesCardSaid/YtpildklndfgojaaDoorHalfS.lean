/- HalfOf of the program and of the model: both answer alike. -/
import Derived.Test.YtpildklndfgojaaDoorWords
import Derived.Test.YtpildklndfgojaaDoorHalfA
import Derived.Test.YtpildklndfgojaaDoorCards
import Derived.Test.YtpildklndfgojaaDoorTie
import Derived.WalkSmall
namespace Go.Proofs.YtpildklndfgojaaDoor.fnExactHalfOf
open Go.ChangeShapes Go.WideShapes Go.ChangeAt Go.RowKit
set_option linter.unusedVariables false
theorem sH_bad (a mode : Int) (hm : ¬ (0 ≤ mode ∧ mode ≤ 4)) (w : World) : Calls Tryd.prog 15 #[.int .u32 a, .int .i64 mode] w fun e w' => e = .returned (.int .u32 0) ∧ Below w.heap.size w w' := by
  have hg := sGood_any mode w
  rw [decide_eq_false hm] at hg
  go_enter Tryd.func15, Tryd.ntmps15
  go_wp2_with (go_at_call 12; refine hg.mono ?_; rintro e w' ⟨rfl, hw⟩; subst w')
  go_ret
  exact ⟨rfl, Below.refl _ _⟩
theorem sgn_h_eq (a : Int) (h0 : 0 ≤ a) (h1 : a < 4294967296) (z : Int) : a / 2147483648 * 32768 + z = sgn_h (decide (2147483648 ≤ a)) z := by
  unfold sgn_h
  by_cases h : 2147483648 ≤ a
  · rw [decide_eq_true h, if_pos rfl]; omega
  · rw [decide_eq_false h, if_neg (by decide)]; omega
set_option maxHeartbeats 1000000 in
theorem sH_3 (a mode : Int) (hm : 0 ≤ mode ∧ mode ≤ 4) (h0 : 0 ≤ a) (h1 : a < 4294967296) (k : 2139095040 < a % 2147483648) (w : World) : Calls Tryd.prog 15 #[.int .u32 a, .int .i64 mode] w fun e w' => e = .returned (.int .u32 32256) ∧ Below w.heap.size w w' := by
  have hg := sGood_any mode w
  rw [decide_eq_true hm] at hg
  have hN := sNaN_any a h0 h1 w
  rw [decide_eq_true k] at hN
  go_enter Tryd.func15, Tryd.ntmps15
  go_wp2_with (first | (go_at_call 12; refine hg.mono ?_; rintro e w' ⟨rfl, hw⟩; subst w') | (go_at_call 42; refine hN.mono ?_; rintro e w' ⟨rfl, hw⟩; subst w'))
  go_ret
  exact ⟨rfl, Below.refl _ _⟩
set_option maxHeartbeats 1000000 in
theorem sH_2 (a mode : Int) (hm : 0 ≤ mode ∧ mode ≤ 4) (h0 : 0 ≤ a) (h1 : a < 4294967296) (k : a % 2147483648 = 2139095040) (w : World) : Calls Tryd.prog 15 #[.int .u32 a, .int .i64 mode] w fun e w' => e = .returned (.int .u32 (sgn_h (decide (2147483648 ≤ a)) 31744)) ∧ Below w.heap.size w w' := by
  have hg := sGood_any mode w
  rw [decide_eq_true hm] at hg
  have hN := sNaN_any a h0 h1 w
  rw [decide_eq_false (by omega)] at hN
  have hI := sInf_any a h0 h1 w
  rw [decide_eq_true k] at hI
  have e := sgn_h_eq a h0 h1 31744
  rw [← e]
  obtain ⟨q, hq⟩ : ∃ q, a / 2147483648 = q := ⟨_, rfl⟩
  have q0 : 0 ≤ q := by omega
  have q1 : q ≤ 1 := by omega
  rw [hq]
  clear e k
  go_enter Tryd.func15, Tryd.ntmps15
  go_wp2_with (first | (go_at_call 12; refine hg.mono ?_; rintro e w' ⟨rfl, hw⟩; subst w') | (go_at_call 42; refine hN.mono ?_; rintro e w' ⟨rfl, hw⟩; subst w') | (go_at_call 43; refine hI.mono ?_; rintro e w' ⟨rfl, hw⟩; subst w'))
  go_ret
  exact ⟨by first | rfl | (congr 2; omega), Below.refl _ _⟩
set_option maxHeartbeats 1000000 in
theorem sH_0 (a mode : Int) (hm : 0 ≤ mode ∧ mode ≤ 4) (h0 : 0 ≤ a) (h1 : a < 4294967296) (k : a % 2147483648 = 0) (w : World) : Calls Tryd.prog 15 #[.int .u32 a, .int .i64 mode] w fun e w' => e = .returned (.int .u32 (sgn_h (decide (2147483648 ≤ a)) 0)) ∧ Below w.heap.size w w' := by
  have hg := sGood_any mode w
  rw [decide_eq_true hm] at hg
  have hN := sNaN_any a h0 h1 w
  rw [decide_eq_false (by omega)] at hN
  have hI := sInf_any a h0 h1 w
  rw [decide_eq_false (by omega)] at hI
  have hZ := sNil_any a h0 h1 w
  rw [decide_eq_true k] at hZ
  have e := sgn_h_eq a h0 h1 0
  rw [← e, Int.add_zero]
  obtain ⟨q, hq⟩ : ∃ q, a / 2147483648 = q := ⟨_, rfl⟩
  have q0 : 0 ≤ q := by omega
  have q1 : q ≤ 1 := by omega
  rw [hq]
  clear e k
  go_enter Tryd.func15, Tryd.ntmps15
  go_wp2_with (first | (go_at_call 12; refine hg.mono ?_; rintro e w' ⟨rfl, hw⟩; subst w') | (go_at_call 42; refine hN.mono ?_; rintro e w' ⟨rfl, hw⟩; subst w') | (go_at_call 43; refine hI.mono ?_; rintro e w' ⟨rfl, hw⟩; subst w') | (go_at_call 44; refine hZ.mono ?_; rintro e w' ⟨rfl, hw⟩; subst w'))
  go_ret
  exact ⟨by first | rfl | (congr 2; omega), Below.refl _ _⟩
set_option maxHeartbeats 1000000 in
theorem sH_1 (a mode m E R : Int) (hm : 0 ≤ mode ∧ mode ≤ 4) (h0 : 0 ≤ a) (h1 : a < 4294967296) (k0 : 0 < a % 2147483648) (k1 : a % 2147483648 < 2139095040) (r0 : 0 ≤ R) (r1 : R < 4294967296) (w : World)
    (hmm : sgI (decide (2147483648 ≤ a)) (exS (a % 2147483648)) = m) (hE : exP (a % 2147483648) = E) (b0 : -16777216 < m) (b1 : m < 16777216)
    (hT : ∀ v : World, Calls Tryd.prog 35 #[.agg #[.int .i64 m, .bool false, .slice none 0 0, .int .i64 1, .bool false, .slice none 0 0, .int .i64 E], .agg #[.int .i64 11, .int .i64 (-24), .int .i64 5], .int .i64 mode] v fun e w' => e = .returned (.int .i64 R) ∧ Below v.heap.size v w') :
    Calls Tryd.prog 15 #[.int .u32 a, .int .i64 mode] w fun e w' => e = .returned (.int .u32 R) ∧ Below w.heap.size w w' := by
  have hg := sGood_any mode w
  rw [decide_eq_true hm] at hg
  have hN := sNaN_any a h0 h1 w
  rw [decide_eq_false (by omega)] at hN
  have hI := sInf_any a h0 h1 w
  rw [decide_eq_false (by omega)] at hI
  have hZ := sNil_any a h0 h1 w
  rw [decide_eq_false (by omega)] at hZ
  have hP := sParts_any a h0 h1 w
  rw [hmm, hE] at hP
  obtain ⟨q, hq⟩ : ∃ q, a / 2147483648 = q := ⟨_, rfl⟩
  have q0 : 0 ≤ q := by omega
  have q1 : q ≤ 1 := by omega
  clear hmm hE k0 k1
  go_enter Tryd.func15, Tryd.ntmps15
  go_wp2_with (first | (go_at_call 12; refine hg.mono ?_; rintro e w' ⟨rfl, hw⟩; subst w') | (go_at_call 42; refine hN.mono ?_; rintro e w' ⟨rfl, hw⟩; subst w') | (go_at_call 43; refine hI.mono ?_; rintro e w' ⟨rfl, hw⟩; subst w') | (go_at_call 44; refine hZ.mono ?_; rintro e w' ⟨rfl, hw⟩; subst w') | (go_at_call 45; refine hP.mono ?_; rintro e w' ⟨rfl, hw⟩; subst w') | (go_at_call 36; refine (zExact m E (by omega) (by omega) _).mono ?_; rintro e w1 ⟨rfl, hb1⟩) | (go_at_call 46; refine (zHalf w1).mono ?_; rintro e w2 ⟨rfl, hb2⟩) | (go_at_call 35; refine (hT w2).mono ?_; rintro e w3 ⟨rfl, hb3⟩))
  go_ret
  exact ⟨rfl, (hb1.trans (hb2.mono hb1.size)).trans (hb3.mono (Nat.le_trans hb1.size hb2.size))⟩
/-- Both sides answer alike: one number for each word and mode. -/
theorem both (a mode : Int) (h0 : 0 ≤ a) (h1 : a < 4294967296) : ∃ R : Int,
    (∀ w : World, Calls Tryd.prog 15 #[.int .u32 a, .int .i64 mode] w fun e w' => e = .returned (.int .u32 R) ∧ Below w.heap.size w w') ∧
    (∀ w : World, Forms w → Calls Tryd.prog 13 #[.int .u32 a, .int .i64 mode] w fun e w' => e = .returned (.int .u32 R) ∧ Below w.heap.size w w') := by
  by_cases hm : 0 ≤ mode ∧ mode ≤ 4
  case neg => exact ⟨0, fun w => sH_bad a mode hm w, fun w _ => iH_bad a mode hm w⟩
  by_cases c3 : 2139095040 < a % 2147483648
  · have hk : kindI (a % 2147483648) = 3 := by unfold kindI; rw [if_neg (by omega), if_neg (by omega), if_neg (by omega)]
    exact ⟨32256, fun w => sH_3 a mode hm h0 h1 c3 w, fun w G => iH_of a mode _ hm w (btw_3 a mode h0 h1 hk w G)⟩
  by_cases c2 : a % 2147483648 = 2139095040
  · have hk : kindI (a % 2147483648) = 2 := by unfold kindI; rw [if_neg (by omega), if_neg (by omega), if_pos c2]
    exact ⟨_, fun w => sH_2 a mode hm h0 h1 c2 w, fun w G => iH_of a mode _ hm w (btw_2 a mode h0 h1 hk w G)⟩
  by_cases c0 : a % 2147483648 = 0
  · have hk : kindI (a % 2147483648) = 0 := by unfold kindI; rw [if_pos c0]
    exact ⟨_, fun w => sH_0 a mode hm h0 h1 c0 w, fun w G => iH_of a mode _ hm w (btw_0 a mode h0 h1 hk w G)⟩
  have hk : kindI (a % 2147483648) = 1 := by unfold kindI; rw [if_neg c0, if_pos (by omega)]
  have sb := exS_bd (a % 2147483648) (by omega)
  have pb := exP_bd (a % 2147483648) (by omega) (by omega)
  have sp : 0 < exS (a % 2147483648) := by unfold exS; split <;> omega
  obtain ⟨S, hS⟩ : ∃ S, exS (a % 2147483648) = S := ⟨_, rfl⟩
  obtain ⟨E, hE⟩ : ∃ E, exP (a % 2147483648) = E := ⟨_, rfl⟩
  rw [hS] at sb sp
  rw [hE] at pb
  obtain ⟨z, rfl⟩ := Int.eq_ofNat_of_zero_le sb.1
  obtain ⟨n, hn⟩ : ∃ n, decide (2147483648 ≤ a) = n := ⟨_, rfl⟩
  obtain ⟨X, hX⟩ : ∃ X, sgI n (z : Int) = X := ⟨_, rfl⟩
  have hXa : X.natAbs = z := by rw [← hX]; unfold sgI; split <;> omega
  have hXn : decide (X < 0) = n := by rw [← hX]; unfold sgI; cases n <;> simp <;> omega
  obtain ⟨R, r0, r1, hi, hs⟩ := whole_both_h n z E mode X hm.1 hm.2 (by omega) (by omega) (by omega) (by omega) hXa hXn
  refine ⟨R, fun w => ?_, fun w G => ?_⟩
  · refine sH_1 a mode X E R hm h0 h1 (by omega) (by omega) r0 r1 w (by rw [hn, hS, hX]) hE (by omega) (by omega) (fun v => ?_)
    exact hs v 3 3 X 1 false false none none 0 0 0 0 (num_small v 3 X (by omega) (by omega)) (num_small v 3 1 (by decide) (by decide)) (by decide) (by decide)
  · refine iH_of a mode R hm w (btw_1 a mode R h0 h1 hk w G (fun v Gv => ?_))
    rw [hn, hS, hE]
    exact hi v Gv
end Go.Proofs.YtpildklndfgojaaDoor.fnExactHalfOf
