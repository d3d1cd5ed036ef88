/- Contracts of the model's WholeOf below its unit, mode by mode, as plain whole numbers; condition: words of 32 bits. -/
import Derived.Test.YtoloenkcfpfgcaaDoorSWhole
namespace Go.Proofs.YtoloenkcfpfgcaaDoor
open Go.ChangeShapes Go.WideShapes Go.ChangeAt Go.RowKit

set_option maxHeartbeats 4000000 in
theorem sw_tiny (a mode : Int) (hm : 0 ≤ mode ∧ mode ≤ 4) (h0 : 0 ≤ a) (h1 : a < 4294967296) (hk : a % 2147483648 ≤ 2139095040)
    (hf1 : keyI a < 1325400064) (hf2 : -1325400064 ≤ keyI a) (w : World)
    (S p : Int) (hS : exS (a % 2147483648) = S) (hP : exP (a % 2147483648) = -p) (s0 : 0 ≤ S) (s1 : S < 16777216) (hp0 : 40 ≤ p) (hp : p ≤ 149)
    (n : Int) (hn : (if 0 < S ∧ ((mode = 3 ∧ ¬ 2147483648 ≤ a) ∨ (mode = 4 ∧ 2147483648 ≤ a)) then 1 else 0) = n) :
    Calls Tryd.prog 44 #[.int .u32 a, .int .i64 mode] w fun e w' => e = .returned (.int .i64 (if 2147483648 ≤ a then -n else n)) ∧ w' = w := by
  have kb := key_big
  have nk : ¬ 2139095040 < a % 2147483648 := by omega
  have nf1 : ¬ 1325400064 ≤ keyI a := by omega
  have nf2 : ¬ keyI a < -1325400064 := by omega
  have hi : ¬ a % 2147483648 = 2139095040 := by
    intro hi
    unfold keyI at hf1 hf2
    split at hf1 <;> omega
  have np : ¬ 0 ≤ -p := by omega
  have np2 : ¬ -40 < -p := by omega
  have hsg : sgI true S = -S := rfl
  have hsg' : sgI false S = S := rfl
  by_cases hs : 2147483648 ≤ a
  · have hd : decide (2147483648 ≤ a) = true := by simp; omega
    rw [if_pos hs]
    by_cases hz : S = 0
    · rw [if_neg (by omega)] at hn
      subst hn
      subst hz
      have hsg0 : sgI true 0 = 0 := rfl
      clear hsg hsg'
      by_cases m3 : mode = 3
      · subst m3
        go_enter Tryd.func44, Tryd.ntmps44
        go_wp2_with (first | (go_at_call 70; refine (sGood_any _ _).mono ?_; rintro e w' ⟨rfl, rfl⟩) | (go_at_call 13; refine (sNaN_any _ h0 h1 _).mono ?_; rintro e w' ⟨rfl, rfl⟩) | (go_at_call 26; refine (sNeg_any _ h0 h1 _).mono ?_; rintro e w' ⟨rfl, rfl⟩) | (go_at_call 28; refine (sInf_any _ h0 h1 _).mono ?_; rintro e w' ⟨rfl, rfl⟩) | (go_at_call 25; refine (sKey_any _ (by omega) (by omega) _).mono ?_; rintro e w' ⟨rfl, rfl⟩) | (go_at_call 30; refine (sParts_any _ h0 h1 _).mono ?_; rintro e w' ⟨rfl, rfl⟩))
        go_ret
        exact ⟨rfl, rfl⟩
      by_cases m4 : mode = 4
      · subst m4
        go_enter Tryd.func44, Tryd.ntmps44
        go_wp2_with (first | (go_at_call 70; refine (sGood_any _ _).mono ?_; rintro e w' ⟨rfl, rfl⟩) | (go_at_call 13; refine (sNaN_any _ h0 h1 _).mono ?_; rintro e w' ⟨rfl, rfl⟩) | (go_at_call 26; refine (sNeg_any _ h0 h1 _).mono ?_; rintro e w' ⟨rfl, rfl⟩) | (go_at_call 28; refine (sInf_any _ h0 h1 _).mono ?_; rintro e w' ⟨rfl, rfl⟩) | (go_at_call 25; refine (sKey_any _ (by omega) (by omega) _).mono ?_; rintro e w' ⟨rfl, rfl⟩) | (go_at_call 30; refine (sParts_any _ h0 h1 _).mono ?_; rintro e w' ⟨rfl, rfl⟩))
        go_ret
        exact ⟨rfl, rfl⟩
      · have x3 : (mode == 3) = false := by simpa using m3
        have x4 : (mode == 4) = false := by simpa using m4
        go_enter Tryd.func44, Tryd.ntmps44
        go_wp2_with (first | (go_at_call 70; refine (sGood_any _ _).mono ?_; rintro e w' ⟨rfl, rfl⟩) | (go_at_call 13; refine (sNaN_any _ h0 h1 _).mono ?_; rintro e w' ⟨rfl, rfl⟩) | (go_at_call 26; refine (sNeg_any _ h0 h1 _).mono ?_; rintro e w' ⟨rfl, rfl⟩) | (go_at_call 28; refine (sInf_any _ h0 h1 _).mono ?_; rintro e w' ⟨rfl, rfl⟩) | (go_at_call 25; refine (sKey_any _ (by omega) (by omega) _).mono ?_; rintro e w' ⟨rfl, rfl⟩) | (go_at_call 30; refine (sParts_any _ h0 h1 _).mono ?_; rintro e w' ⟨rfl, rfl⟩))
        go_ret
        exact ⟨rfl, rfl⟩
    · have hlt : -S < 0 := by omega
      have hlt' : 0 < S := by omega
      by_cases m4 : mode = 4
      · rw [if_pos ⟨hlt', Or.inr ⟨m4, hs⟩⟩] at hn
        subst hn
        subst m4
        go_enter Tryd.func44, Tryd.ntmps44
        go_wp2_with (first | (go_at_call 70; refine (sGood_any _ _).mono ?_; rintro e w' ⟨rfl, rfl⟩) | (go_at_call 13; refine (sNaN_any _ h0 h1 _).mono ?_; rintro e w' ⟨rfl, rfl⟩) | (go_at_call 26; refine (sNeg_any _ h0 h1 _).mono ?_; rintro e w' ⟨rfl, rfl⟩) | (go_at_call 28; refine (sInf_any _ h0 h1 _).mono ?_; rintro e w' ⟨rfl, rfl⟩) | (go_at_call 25; refine (sKey_any _ (by omega) (by omega) _).mono ?_; rintro e w' ⟨rfl, rfl⟩) | (go_at_call 30; refine (sParts_any _ h0 h1 _).mono ?_; rintro e w' ⟨rfl, rfl⟩))
        go_ret
        exact ⟨rfl, rfl⟩
      · rw [if_neg (by omega)] at hn
        subst hn
        by_cases m3 : mode = 3
        · subst m3
          go_enter Tryd.func44, Tryd.ntmps44
          go_wp2_with (first | (go_at_call 70; refine (sGood_any _ _).mono ?_; rintro e w' ⟨rfl, rfl⟩) | (go_at_call 13; refine (sNaN_any _ h0 h1 _).mono ?_; rintro e w' ⟨rfl, rfl⟩) | (go_at_call 26; refine (sNeg_any _ h0 h1 _).mono ?_; rintro e w' ⟨rfl, rfl⟩) | (go_at_call 28; refine (sInf_any _ h0 h1 _).mono ?_; rintro e w' ⟨rfl, rfl⟩) | (go_at_call 25; refine (sKey_any _ (by omega) (by omega) _).mono ?_; rintro e w' ⟨rfl, rfl⟩) | (go_at_call 30; refine (sParts_any _ h0 h1 _).mono ?_; rintro e w' ⟨rfl, rfl⟩))
          go_ret
          exact ⟨rfl, rfl⟩
        · have x3 : (mode == 3) = false := by simpa using m3
          have x4 : (mode == 4) = false := by simpa using m4
          go_enter Tryd.func44, Tryd.ntmps44
          go_wp2_with (first | (go_at_call 70; refine (sGood_any _ _).mono ?_; rintro e w' ⟨rfl, rfl⟩) | (go_at_call 13; refine (sNaN_any _ h0 h1 _).mono ?_; rintro e w' ⟨rfl, rfl⟩) | (go_at_call 26; refine (sNeg_any _ h0 h1 _).mono ?_; rintro e w' ⟨rfl, rfl⟩) | (go_at_call 28; refine (sInf_any _ h0 h1 _).mono ?_; rintro e w' ⟨rfl, rfl⟩) | (go_at_call 25; refine (sKey_any _ (by omega) (by omega) _).mono ?_; rintro e w' ⟨rfl, rfl⟩) | (go_at_call 30; refine (sParts_any _ h0 h1 _).mono ?_; rintro e w' ⟨rfl, rfl⟩))
          go_ret
          exact ⟨rfl, rfl⟩
  · have hd : decide (2147483648 ≤ a) = false := by simp; omega
    rw [if_neg hs]
    have hlt : ¬ S < 0 := by omega
    by_cases hz : 0 < S
    · by_cases m3 : mode = 3
      · rw [if_pos ⟨hz, Or.inl ⟨m3, hs⟩⟩] at hn
        subst hn
        subst m3
        go_enter Tryd.func44, Tryd.ntmps44
        go_wp2_with (first | (go_at_call 70; refine (sGood_any _ _).mono ?_; rintro e w' ⟨rfl, rfl⟩) | (go_at_call 13; refine (sNaN_any _ h0 h1 _).mono ?_; rintro e w' ⟨rfl, rfl⟩) | (go_at_call 26; refine (sNeg_any _ h0 h1 _).mono ?_; rintro e w' ⟨rfl, rfl⟩) | (go_at_call 28; refine (sInf_any _ h0 h1 _).mono ?_; rintro e w' ⟨rfl, rfl⟩) | (go_at_call 25; refine (sKey_any _ (by omega) (by omega) _).mono ?_; rintro e w' ⟨rfl, rfl⟩) | (go_at_call 30; refine (sParts_any _ h0 h1 _).mono ?_; rintro e w' ⟨rfl, rfl⟩))
        go_ret
        exact ⟨rfl, rfl⟩
      · rw [if_neg (by omega)] at hn
        subst hn
        by_cases m4 : mode = 4
        · subst m4
          go_enter Tryd.func44, Tryd.ntmps44
          go_wp2_with (first | (go_at_call 70; refine (sGood_any _ _).mono ?_; rintro e w' ⟨rfl, rfl⟩) | (go_at_call 13; refine (sNaN_any _ h0 h1 _).mono ?_; rintro e w' ⟨rfl, rfl⟩) | (go_at_call 26; refine (sNeg_any _ h0 h1 _).mono ?_; rintro e w' ⟨rfl, rfl⟩) | (go_at_call 28; refine (sInf_any _ h0 h1 _).mono ?_; rintro e w' ⟨rfl, rfl⟩) | (go_at_call 25; refine (sKey_any _ (by omega) (by omega) _).mono ?_; rintro e w' ⟨rfl, rfl⟩) | (go_at_call 30; refine (sParts_any _ h0 h1 _).mono ?_; rintro e w' ⟨rfl, rfl⟩))
          go_ret
          exact ⟨rfl, rfl⟩
        · have x3 : (mode == 3) = false := by simpa using m3
          have x4 : (mode == 4) = false := by simpa using m4
          go_enter Tryd.func44, Tryd.ntmps44
          go_wp2_with (first | (go_at_call 70; refine (sGood_any _ _).mono ?_; rintro e w' ⟨rfl, rfl⟩) | (go_at_call 13; refine (sNaN_any _ h0 h1 _).mono ?_; rintro e w' ⟨rfl, rfl⟩) | (go_at_call 26; refine (sNeg_any _ h0 h1 _).mono ?_; rintro e w' ⟨rfl, rfl⟩) | (go_at_call 28; refine (sInf_any _ h0 h1 _).mono ?_; rintro e w' ⟨rfl, rfl⟩) | (go_at_call 25; refine (sKey_any _ (by omega) (by omega) _).mono ?_; rintro e w' ⟨rfl, rfl⟩) | (go_at_call 30; refine (sParts_any _ h0 h1 _).mono ?_; rintro e w' ⟨rfl, rfl⟩))
          go_ret
          exact ⟨rfl, rfl⟩
    · rw [if_neg (by omega)] at hn
      subst hn
      have x5 : decide (0 < S) = false := by simpa using hz
      go_enter Tryd.func44, Tryd.ntmps44
      go_wp2_with (first | (go_at_call 70; refine (sGood_any _ _).mono ?_; rintro e w' ⟨rfl, rfl⟩) | (go_at_call 13; refine (sNaN_any _ h0 h1 _).mono ?_; rintro e w' ⟨rfl, rfl⟩) | (go_at_call 26; refine (sNeg_any _ h0 h1 _).mono ?_; rintro e w' ⟨rfl, rfl⟩) | (go_at_call 28; refine (sInf_any _ h0 h1 _).mono ?_; rintro e w' ⟨rfl, rfl⟩) | (go_at_call 25; refine (sKey_any _ (by omega) (by omega) _).mono ?_; rintro e w' ⟨rfl, rfl⟩) | (go_at_call 30; refine (sParts_any _ h0 h1 _).mono ?_; rintro e w' ⟨rfl, rfl⟩))
      go_ret
      exact ⟨rfl, rfl⟩
end Go.Proofs.YtoloenkcfpfgcaaDoor
