/- Contracts of the model's WholeOf, as plain whole numbers; condition: words of 32 bits. -/
import Derived.Test.YtoloenkcfpfgcaaDoorSpec
import Derived.Test.YtoloenkcfpfgcaaDoorWhole
namespace Go.Proofs.YtoloenkcfpfgcaaDoor
open Go.ChangeShapes Go.WideShapes Go.ChangeAt Go.RowKit

theorem sw_bad (a mode : Int) (hm : ¬ (0 ≤ mode ∧ mode ≤ 4)) (w : World) :
    Calls Tryd.prog 44 #[.int .u32 a, .int .i64 mode] w fun e w' => e = .returned (.int .i64 0) ∧ w' = w := by
  go_enter Tryd.func44, Tryd.ntmps44
  go_wp2_with (go_at_call 70; refine (sGood_any _ _).mono ?_; rintro e w' ⟨rfl, rfl⟩)
  go_ret
  exact ⟨rfl, rfl⟩
theorem sw_nan (a mode : Int) (h0 : 0 ≤ a) (h1 : a < 4294967296) (hm : 0 ≤ mode ∧ mode ≤ 4) (hk : 2139095040 < a % 2147483648) (w : World) :
    Calls Tryd.prog 44 #[.int .u32 a, .int .i64 mode] w fun e w' => e = .returned (.int .i64 0) ∧ w' = w := by
  go_enter Tryd.func44, Tryd.ntmps44
  go_wp2_with (first | (go_at_call 70; refine (sGood_any _ _).mono ?_; rintro e w' ⟨rfl, rfl⟩) | (go_at_call 13; refine (sNaN_any _ h0 h1 _).mono ?_; rintro e w' ⟨rfl, rfl⟩) | (go_at_call 26; refine (sNeg_any _ h0 h1 _).mono ?_; rintro e w' ⟨rfl, rfl⟩) | (go_at_call 28; refine (sInf_any _ h0 h1 _).mono ?_; rintro e w' ⟨rfl, rfl⟩) | (go_at_call 25; refine (sKey_any _ (by omega) (by omega) _).mono ?_; rintro e w' ⟨rfl, rfl⟩) | (go_at_call 30; refine (sParts_any _ h0 h1 _).mono ?_; rintro e w' ⟨rfl, rfl⟩))
  go_ret
  exact ⟨rfl, rfl⟩
theorem key_big : keyI 1325400064 = 1325400064 := by decide
set_option maxHeartbeats 1000000 in
theorem sw_far (a mode : Int) (h0 : 0 ≤ a) (h1 : a < 4294967296) (hm : 0 ≤ mode ∧ mode ≤ 4) (hk : a % 2147483648 ≤ 2139095040)
    (hf : 1325400064 ≤ keyI a ∨ keyI a < -1325400064) (w : World) :
    Calls Tryd.prog 44 #[.int .u32 a, .int .i64 mode] w fun e w' => e = .returned (.int .i64 (if 2147483648 ≤ a then -2147483648 else 2147483647)) ∧ w' = w := by
  have kb := key_big
  have nk : ¬ 2139095040 < a % 2147483648 := by omega
  by_cases hn : 2147483648 ≤ a
  all_goals
    by_cases hi : a % 2147483648 = 2139095040
    · go_enter Tryd.func44, Tryd.ntmps44
      go_wp2_with (first | (go_at_call 70; refine (sGood_any _ _).mono ?_; rintro e w' ⟨rfl, rfl⟩) | (go_at_call 13; refine (sNaN_any _ h0 h1 _).mono ?_; rintro e w' ⟨rfl, rfl⟩) | (go_at_call 26; refine (sNeg_any _ h0 h1 _).mono ?_; rintro e w' ⟨rfl, rfl⟩) | (go_at_call 28; refine (sInf_any _ h0 h1 _).mono ?_; rintro e w' ⟨rfl, rfl⟩) | (go_at_call 25; refine (sKey_any _ (by omega) (by omega) _).mono ?_; rintro e w' ⟨rfl, rfl⟩) | (go_at_call 30; refine (sParts_any _ h0 h1 _).mono ?_; rintro e w' ⟨rfl, rfl⟩))
      go_ret
      exact ⟨rfl, rfl⟩
    by_cases hg : 1325400064 ≤ keyI a
    · go_enter Tryd.func44, Tryd.ntmps44
      go_wp2_with (first | (go_at_call 70; refine (sGood_any _ _).mono ?_; rintro e w' ⟨rfl, rfl⟩) | (go_at_call 13; refine (sNaN_any _ h0 h1 _).mono ?_; rintro e w' ⟨rfl, rfl⟩) | (go_at_call 26; refine (sNeg_any _ h0 h1 _).mono ?_; rintro e w' ⟨rfl, rfl⟩) | (go_at_call 28; refine (sInf_any _ h0 h1 _).mono ?_; rintro e w' ⟨rfl, rfl⟩) | (go_at_call 25; refine (sKey_any _ (by omega) (by omega) _).mono ?_; rintro e w' ⟨rfl, rfl⟩) | (go_at_call 30; refine (sParts_any _ h0 h1 _).mono ?_; rintro e w' ⟨rfl, rfl⟩))
      go_ret
      exact ⟨rfl, rfl⟩
    · have hl : keyI a < -1325400064 := by omega
      go_enter Tryd.func44, Tryd.ntmps44
      go_wp2_with (first | (go_at_call 70; refine (sGood_any _ _).mono ?_; rintro e w' ⟨rfl, rfl⟩) | (go_at_call 13; refine (sNaN_any _ h0 h1 _).mono ?_; rintro e w' ⟨rfl, rfl⟩) | (go_at_call 26; refine (sNeg_any _ h0 h1 _).mono ?_; rintro e w' ⟨rfl, rfl⟩) | (go_at_call 28; refine (sInf_any _ h0 h1 _).mono ?_; rintro e w' ⟨rfl, rfl⟩) | (go_at_call 25; refine (sKey_any _ (by omega) (by omega) _).mono ?_; rintro e w' ⟨rfl, rfl⟩) | (go_at_call 30; refine (sParts_any _ h0 h1 _).mono ?_; rintro e w' ⟨rfl, rfl⟩))
      go_ret
      exact ⟨rfl, rfl⟩
set_option maxHeartbeats 1000000 in
theorem sw_up (a mode : Int) (h0 : 0 ≤ a) (h1 : a < 4294967296) (hm : 0 ≤ mode ∧ mode ≤ 4) (hk : a % 2147483648 ≤ 2139095040)
    (hf1 : keyI a < 1325400064) (hf2 : -1325400064 ≤ keyI a) (w : World)
    (S P K : Int) (hS : exS (a % 2147483648) = S) (hP : exP (a % 2147483648) = P) (s0 : 0 ≤ S) (s1 : S < 16777216) (hp0 : 0 ≤ P) (hp : P ≤ 8) (hK : S * 2 ^ P.toNat = K) (k0 : 0 ≤ K) (k1 : K ≤ 2147483648) (k2 : ¬ 2147483648 ≤ a → K ≤ 2147483647) :
    Calls Tryd.prog 44 #[.int .u32 a, .int .i64 mode] w fun e w' => e = .returned (.int .i64 (if 2147483648 ≤ a then -K else K)) ∧ w' = w := by
  have kb := key_big
  have nk : ¬ 2139095040 < a % 2147483648 := by omega
  have nf1 : ¬ 1325400064 ≤ keyI a := by omega
  have nf2 : ¬ keyI a < -1325400064 := by omega
  by_cases hi : a % 2147483648 = 2139095040
  · exfalso
    unfold keyI at hf1 hf2
    split at hf1 <;> omega
  by_cases hn : 2147483648 ≤ a
  · have hs : sgI true S = -S := rfl
    by_cases hz : S = 0
    · have hK0 : K = 0 := by rw [← hK, hz, Int.zero_mul]
      have hs0 : sgI true 0 = 0 := rfl
      rw [if_pos hn, hK0, show (-0 : Int) = 0 from rfl]
      clear hs hK
      subst hz
      go_enter Tryd.func44, Tryd.ntmps44
      go_wp2_with (first | (go_at_call 70; refine (sGood_any _ _).mono ?_; rintro e w' ⟨rfl, rfl⟩) | (go_at_call 13; refine (sNaN_any _ h0 h1 _).mono ?_; rintro e w' ⟨rfl, rfl⟩) | (go_at_call 26; refine (sNeg_any _ h0 h1 _).mono ?_; rintro e w' ⟨rfl, rfl⟩) | (go_at_call 28; refine (sInf_any _ h0 h1 _).mono ?_; rintro e w' ⟨rfl, rfl⟩) | (go_at_call 25; refine (sKey_any _ (by omega) (by omega) _).mono ?_; rintro e w' ⟨rfl, rfl⟩) | (go_at_call 30; refine (sParts_any _ h0 h1 _).mono ?_; rintro e w' ⟨rfl, rfl⟩))
      go_ret
      exact ⟨rfl, rfl⟩
    · have hneg : -S < 0 := by omega
      rw [if_pos hn]
      go_enter Tryd.func44, Tryd.ntmps44
      go_wp2_with (first | (go_at_call 70; refine (sGood_any _ _).mono ?_; rintro e w' ⟨rfl, rfl⟩) | (go_at_call 13; refine (sNaN_any _ h0 h1 _).mono ?_; rintro e w' ⟨rfl, rfl⟩) | (go_at_call 26; refine (sNeg_any _ h0 h1 _).mono ?_; rintro e w' ⟨rfl, rfl⟩) | (go_at_call 28; refine (sInf_any _ h0 h1 _).mono ?_; rintro e w' ⟨rfl, rfl⟩) | (go_at_call 25; refine (sKey_any _ (by omega) (by omega) _).mono ?_; rintro e w' ⟨rfl, rfl⟩) | (go_at_call 30; refine (sParts_any _ h0 h1 _).mono ?_; rintro e w' ⟨rfl, rfl⟩))
      go_ret
      exact ⟨rfl, rfl⟩
  · have hs : sgI false S = S := rfl
    have hd : decide (2147483648 ≤ a) = false := by simp; omega
    have k3 := k2 hn
    have hneg : ¬ S < 0 := by omega
    rw [if_neg hn]
    go_enter Tryd.func44, Tryd.ntmps44
    go_wp2_with (first | (go_at_call 70; refine (sGood_any _ _).mono ?_; rintro e w' ⟨rfl, rfl⟩) | (go_at_call 13; refine (sNaN_any _ h0 h1 _).mono ?_; rintro e w' ⟨rfl, rfl⟩) | (go_at_call 26; refine (sNeg_any _ h0 h1 _).mono ?_; rintro e w' ⟨rfl, rfl⟩) | (go_at_call 28; refine (sInf_any _ h0 h1 _).mono ?_; rintro e w' ⟨rfl, rfl⟩) | (go_at_call 25; refine (sKey_any _ (by omega) (by omega) _).mono ?_; rintro e w' ⟨rfl, rfl⟩) | (go_at_call 30; refine (sParts_any _ h0 h1 _).mono ?_; rintro e w' ⟨rfl, rfl⟩))
    go_ret
    exact ⟨rfl, rfl⟩

/-- The last step: a size of 32 bits at most gets its sign. -/
theorem whole_sign (n : Int) (a : Int) (k1 : n ≤ 2147483647) : wholeI n (decide (2147483648 ≤ a)) = if 2147483648 ≤ a then -n else n := by
  unfold wholeI
  by_cases h : 2147483648 ≤ a
  · simp only [h, decide_true, if_true]; rw [if_neg (by omega)]
  · simp only [h, decide_false, if_false, Bool.false_eq_true]; rw [if_neg (by omega)]
end Go.Proofs.YtoloenkcfpfgcaaDoor
