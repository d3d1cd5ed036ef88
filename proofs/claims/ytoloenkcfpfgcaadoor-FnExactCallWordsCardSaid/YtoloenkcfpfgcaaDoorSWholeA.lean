/- Contracts of the model's WholeOf below its unit, mode by mode, as plain whole numbers; condition: words of 32 bits. -/
import Derived.Test.YtoloenkcfpfgcaaDoorSWhole
namespace Go.Proofs.YtoloenkcfpfgcaaDoor
open Go.ChangeShapes Go.WideShapes Go.ChangeAt Go.RowKit

set_option maxHeartbeats 4000000 in
theorem sw_dn0 (a : Int) (h0 : 0 ≤ a) (h1 : a < 4294967296) (hk : a % 2147483648 ≤ 2139095040)
    (hf1 : keyI a < 1325400064) (hf2 : -1325400064 ≤ keyI a) (w : World)
    (S p K Q T R H : Int) (hS : exS (a % 2147483648) = S) (hP : exP (a % 2147483648) = -p) (s0 : 0 ≤ S) (s1 : S < 16777216) (hp0 : 0 < p) (hp : p < 40)
    (hQ : (2 : Int) ^ p.toNat = Q) (hK : S / Q = K) (hT : K * Q = T) (hR : S - T = R) (hH : (2 : Int) ^ (p.toNat - 1) = H)
    (k0 : 0 ≤ K) (k1 : K ≤ S) (t0 : 0 ≤ T) (t1 : T ≤ S) (g0 : 0 < H) (g1 : H ≤ 549755813888) (n : Int) (hn : (if goesB 0 (decide (2147483648 ≤ a)) K (cutI R H false) then K + 1 else K) = n) :
    Calls Tryd.prog 44 #[.int .u32 a, .int .i64 0] w fun e w' => e = .returned (.int .i64 (if 2147483648 ≤ a then -n else n)) ∧ w' = w := by
  have kb := key_big
  have nk : ¬ 2139095040 < a % 2147483648 := by omega
  have nf1 : ¬ 1325400064 ≤ keyI a := by omega
  have nf2 : ¬ keyI a < -1325400064 := by omega
  have hi : ¬ a % 2147483648 = 2139095040 := by
    intro hi
    unfold keyI at hf1 hf2
    split at hf1 <;> omega
  have hr0 : 0 ≤ R := by omega
  by_cases r0 : R = 0
  · have hc : cutI R H false = 0 := by unfold cutI; rw [if_pos ⟨r0, rfl⟩]
    by_cases hs : 2147483648 ≤ a
    · have hd : decide (2147483648 ≤ a) = true := by simp; omega
      rw [hd, hc] at hn
      have hg : goesB 0 true K 0 = false := by unfold goesB; simp
      rw [hg] at hn; simp only [if_false, Bool.false_eq_true] at hn; subst hn
      rw [if_pos hs]
      have hsg : sgI true S = -S := rfl
      by_cases hz : S = 0
      · have hK0 : K = 0 := by omega
        have hT0 : T = 0 := by omega
        subst hz; subst hK0; subst hT0
        have hsg0 : sgI true 0 = 0 := rfl
        clear hsg hK hT hR hd hc; subst r0
        go_enter Tryd.func44, Tryd.ntmps44
        go_wp2_with (first | (go_at_call 70; refine (sGood_any _ _).mono ?_; rintro e w' ⟨rfl, rfl⟩) | (go_at_call 13; refine (sNaN_any _ h0 h1 _).mono ?_; rintro e w' ⟨rfl, rfl⟩) | (go_at_call 26; refine (sNeg_any _ h0 h1 _).mono ?_; rintro e w' ⟨rfl, rfl⟩) | (go_at_call 28; refine (sInf_any _ h0 h1 _).mono ?_; rintro e w' ⟨rfl, rfl⟩) | (go_at_call 25; refine (sKey_any _ (by omega) (by omega) _).mono ?_; rintro e w' ⟨rfl, rfl⟩) | (go_at_call 30; refine (sParts_any _ h0 h1 _).mono ?_; rintro e w' ⟨rfl, rfl⟩))
        go_ret
        exact ⟨rfl, rfl⟩
      · have hlt : -S < 0 := by omega
        go_enter Tryd.func44, Tryd.ntmps44
        go_wp2_with (first | (go_at_call 70; refine (sGood_any _ _).mono ?_; rintro e w' ⟨rfl, rfl⟩) | (go_at_call 13; refine (sNaN_any _ h0 h1 _).mono ?_; rintro e w' ⟨rfl, rfl⟩) | (go_at_call 26; refine (sNeg_any _ h0 h1 _).mono ?_; rintro e w' ⟨rfl, rfl⟩) | (go_at_call 28; refine (sInf_any _ h0 h1 _).mono ?_; rintro e w' ⟨rfl, rfl⟩) | (go_at_call 25; refine (sKey_any _ (by omega) (by omega) _).mono ?_; rintro e w' ⟨rfl, rfl⟩) | (go_at_call 30; refine (sParts_any _ h0 h1 _).mono ?_; rintro e w' ⟨rfl, rfl⟩))
        go_ret
        exact ⟨rfl, rfl⟩
    · have hd : decide (2147483648 ≤ a) = false := by simp; omega
      rw [hd, hc] at hn
      have hg : goesB 0 false K 0 = false := by unfold goesB; simp
      rw [hg] at hn; simp only [if_false, Bool.false_eq_true] at hn; subst hn
      rw [if_neg hs]
      have hsg : sgI false S = S := rfl
      have hlt : ¬ S < 0 := by omega
      go_enter Tryd.func44, Tryd.ntmps44
      go_wp2_with (first | (go_at_call 70; refine (sGood_any _ _).mono ?_; rintro e w' ⟨rfl, rfl⟩) | (go_at_call 13; refine (sNaN_any _ h0 h1 _).mono ?_; rintro e w' ⟨rfl, rfl⟩) | (go_at_call 26; refine (sNeg_any _ h0 h1 _).mono ?_; rintro e w' ⟨rfl, rfl⟩) | (go_at_call 28; refine (sInf_any _ h0 h1 _).mono ?_; rintro e w' ⟨rfl, rfl⟩) | (go_at_call 25; refine (sKey_any _ (by omega) (by omega) _).mono ?_; rintro e w' ⟨rfl, rfl⟩) | (go_at_call 30; refine (sParts_any _ h0 h1 _).mono ?_; rintro e w' ⟨rfl, rfl⟩))
      go_ret
      exact ⟨rfl, rfl⟩
  by_cases r1 : R = H
  · by_cases par : K % 2 = 1
    · have hc : cutI R H false = 2 := by unfold cutI; rw [if_neg (by omega), if_neg (by omega), if_pos ⟨r1, rfl⟩]
      by_cases hs : 2147483648 ≤ a
      · have hd : decide (2147483648 ≤ a) = true := by simp; omega
        rw [hd, hc] at hn
        have hg : goesB 0 true K 2 = true := by unfold goesB; simp [par]
        rw [hg] at hn; simp only [if_true] at hn; subst hn
        rw [if_pos hs]
        have hsg : sgI true S = -S := rfl
        by_cases hz : S = 0
        · have hK0 : K = 0 := by omega
          have hT0 : T = 0 := by omega
          omega
        · have hlt : -S < 0 := by omega
          go_enter Tryd.func44, Tryd.ntmps44
          go_wp2_with (first | (go_at_call 70; refine (sGood_any _ _).mono ?_; rintro e w' ⟨rfl, rfl⟩) | (go_at_call 13; refine (sNaN_any _ h0 h1 _).mono ?_; rintro e w' ⟨rfl, rfl⟩) | (go_at_call 26; refine (sNeg_any _ h0 h1 _).mono ?_; rintro e w' ⟨rfl, rfl⟩) | (go_at_call 28; refine (sInf_any _ h0 h1 _).mono ?_; rintro e w' ⟨rfl, rfl⟩) | (go_at_call 25; refine (sKey_any _ (by omega) (by omega) _).mono ?_; rintro e w' ⟨rfl, rfl⟩) | (go_at_call 30; refine (sParts_any _ h0 h1 _).mono ?_; rintro e w' ⟨rfl, rfl⟩))
          go_ret
          exact ⟨rfl, rfl⟩
      · have hd : decide (2147483648 ≤ a) = false := by simp; omega
        rw [hd, hc] at hn
        have hg : goesB 0 false K 2 = true := by unfold goesB; simp [par]
        rw [hg] at hn; simp only [if_true] at hn; subst hn
        rw [if_neg hs]
        have hsg : sgI false S = S := rfl
        have hlt : ¬ S < 0 := by omega
        go_enter Tryd.func44, Tryd.ntmps44
        go_wp2_with (first | (go_at_call 70; refine (sGood_any _ _).mono ?_; rintro e w' ⟨rfl, rfl⟩) | (go_at_call 13; refine (sNaN_any _ h0 h1 _).mono ?_; rintro e w' ⟨rfl, rfl⟩) | (go_at_call 26; refine (sNeg_any _ h0 h1 _).mono ?_; rintro e w' ⟨rfl, rfl⟩) | (go_at_call 28; refine (sInf_any _ h0 h1 _).mono ?_; rintro e w' ⟨rfl, rfl⟩) | (go_at_call 25; refine (sKey_any _ (by omega) (by omega) _).mono ?_; rintro e w' ⟨rfl, rfl⟩) | (go_at_call 30; refine (sParts_any _ h0 h1 _).mono ?_; rintro e w' ⟨rfl, rfl⟩))
        go_ret
        exact ⟨rfl, rfl⟩
    · have hc : cutI R H false = 2 := by unfold cutI; rw [if_neg (by omega), if_neg (by omega), if_pos ⟨r1, rfl⟩]
      by_cases hs : 2147483648 ≤ a
      · have hd : decide (2147483648 ≤ a) = true := by simp; omega
        rw [hd, hc] at hn
        have hg : goesB 0 true K 2 = false := by unfold goesB; simp [par]
        rw [hg] at hn; simp only [if_false, Bool.false_eq_true] at hn; subst hn
        rw [if_pos hs]
        have hsg : sgI true S = -S := rfl
        by_cases hz : S = 0
        · have hK0 : K = 0 := by omega
          have hT0 : T = 0 := by omega
          omega
        · have hlt : -S < 0 := by omega
          go_enter Tryd.func44, Tryd.ntmps44
          go_wp2_with (first | (go_at_call 70; refine (sGood_any _ _).mono ?_; rintro e w' ⟨rfl, rfl⟩) | (go_at_call 13; refine (sNaN_any _ h0 h1 _).mono ?_; rintro e w' ⟨rfl, rfl⟩) | (go_at_call 26; refine (sNeg_any _ h0 h1 _).mono ?_; rintro e w' ⟨rfl, rfl⟩) | (go_at_call 28; refine (sInf_any _ h0 h1 _).mono ?_; rintro e w' ⟨rfl, rfl⟩) | (go_at_call 25; refine (sKey_any _ (by omega) (by omega) _).mono ?_; rintro e w' ⟨rfl, rfl⟩) | (go_at_call 30; refine (sParts_any _ h0 h1 _).mono ?_; rintro e w' ⟨rfl, rfl⟩))
          go_ret
          exact ⟨rfl, rfl⟩
      · have hd : decide (2147483648 ≤ a) = false := by simp; omega
        rw [hd, hc] at hn
        have hg : goesB 0 false K 2 = false := by unfold goesB; simp [par]
        rw [hg] at hn; simp only [if_false, Bool.false_eq_true] at hn; subst hn
        rw [if_neg hs]
        have hsg : sgI false S = S := rfl
        have hlt : ¬ S < 0 := by omega
        go_enter Tryd.func44, Tryd.ntmps44
        go_wp2_with (first | (go_at_call 70; refine (sGood_any _ _).mono ?_; rintro e w' ⟨rfl, rfl⟩) | (go_at_call 13; refine (sNaN_any _ h0 h1 _).mono ?_; rintro e w' ⟨rfl, rfl⟩) | (go_at_call 26; refine (sNeg_any _ h0 h1 _).mono ?_; rintro e w' ⟨rfl, rfl⟩) | (go_at_call 28; refine (sInf_any _ h0 h1 _).mono ?_; rintro e w' ⟨rfl, rfl⟩) | (go_at_call 25; refine (sKey_any _ (by omega) (by omega) _).mono ?_; rintro e w' ⟨rfl, rfl⟩) | (go_at_call 30; refine (sParts_any _ h0 h1 _).mono ?_; rintro e w' ⟨rfl, rfl⟩))
        go_ret
        exact ⟨rfl, rfl⟩
  by_cases r2 : R < H
  · have hc : cutI R H false = 1 := by unfold cutI; rw [if_neg (by omega), if_pos r2]
    by_cases hs : 2147483648 ≤ a
    · have hd : decide (2147483648 ≤ a) = true := by simp; omega
      rw [hd, hc] at hn
      have hg : goesB 0 true K 1 = false := by unfold goesB; simp
      rw [hg] at hn; simp only [if_false, Bool.false_eq_true] at hn; subst hn
      rw [if_pos hs]
      have hsg : sgI true S = -S := rfl
      by_cases hz : S = 0
      · have hK0 : K = 0 := by omega
        have hT0 : T = 0 := by omega
        omega
      · have hlt : -S < 0 := by omega
        go_enter Tryd.func44, Tryd.ntmps44
        go_wp2_with (first | (go_at_call 70; refine (sGood_any _ _).mono ?_; rintro e w' ⟨rfl, rfl⟩) | (go_at_call 13; refine (sNaN_any _ h0 h1 _).mono ?_; rintro e w' ⟨rfl, rfl⟩) | (go_at_call 26; refine (sNeg_any _ h0 h1 _).mono ?_; rintro e w' ⟨rfl, rfl⟩) | (go_at_call 28; refine (sInf_any _ h0 h1 _).mono ?_; rintro e w' ⟨rfl, rfl⟩) | (go_at_call 25; refine (sKey_any _ (by omega) (by omega) _).mono ?_; rintro e w' ⟨rfl, rfl⟩) | (go_at_call 30; refine (sParts_any _ h0 h1 _).mono ?_; rintro e w' ⟨rfl, rfl⟩))
        go_ret
        exact ⟨rfl, rfl⟩
    · have hd : decide (2147483648 ≤ a) = false := by simp; omega
      rw [hd, hc] at hn
      have hg : goesB 0 false K 1 = false := by unfold goesB; simp
      rw [hg] at hn; simp only [if_false, Bool.false_eq_true] at hn; subst hn
      rw [if_neg hs]
      have hsg : sgI false S = S := rfl
      have hlt : ¬ S < 0 := by omega
      go_enter Tryd.func44, Tryd.ntmps44
      go_wp2_with (first | (go_at_call 70; refine (sGood_any _ _).mono ?_; rintro e w' ⟨rfl, rfl⟩) | (go_at_call 13; refine (sNaN_any _ h0 h1 _).mono ?_; rintro e w' ⟨rfl, rfl⟩) | (go_at_call 26; refine (sNeg_any _ h0 h1 _).mono ?_; rintro e w' ⟨rfl, rfl⟩) | (go_at_call 28; refine (sInf_any _ h0 h1 _).mono ?_; rintro e w' ⟨rfl, rfl⟩) | (go_at_call 25; refine (sKey_any _ (by omega) (by omega) _).mono ?_; rintro e w' ⟨rfl, rfl⟩) | (go_at_call 30; refine (sParts_any _ h0 h1 _).mono ?_; rintro e w' ⟨rfl, rfl⟩))
      go_ret
      exact ⟨rfl, rfl⟩
  · have hc : cutI R H false = 3 := by unfold cutI; rw [if_neg (by omega), if_neg r2, if_neg (by omega)]
    by_cases hs : 2147483648 ≤ a
    · have hd : decide (2147483648 ≤ a) = true := by simp; omega
      rw [hd, hc] at hn
      have hg : goesB 0 true K 3 = true := by unfold goesB; simp
      rw [hg] at hn; simp only [if_true] at hn; subst hn
      rw [if_pos hs]
      have hsg : sgI true S = -S := rfl
      by_cases hz : S = 0
      · have hK0 : K = 0 := by omega
        have hT0 : T = 0 := by omega
        omega
      · have hlt : -S < 0 := by omega
        go_enter Tryd.func44, Tryd.ntmps44
        go_wp2_with (first | (go_at_call 70; refine (sGood_any _ _).mono ?_; rintro e w' ⟨rfl, rfl⟩) | (go_at_call 13; refine (sNaN_any _ h0 h1 _).mono ?_; rintro e w' ⟨rfl, rfl⟩) | (go_at_call 26; refine (sNeg_any _ h0 h1 _).mono ?_; rintro e w' ⟨rfl, rfl⟩) | (go_at_call 28; refine (sInf_any _ h0 h1 _).mono ?_; rintro e w' ⟨rfl, rfl⟩) | (go_at_call 25; refine (sKey_any _ (by omega) (by omega) _).mono ?_; rintro e w' ⟨rfl, rfl⟩) | (go_at_call 30; refine (sParts_any _ h0 h1 _).mono ?_; rintro e w' ⟨rfl, rfl⟩))
        go_ret
        exact ⟨rfl, rfl⟩
    · have hd : decide (2147483648 ≤ a) = false := by simp; omega
      rw [hd, hc] at hn
      have hg : goesB 0 false K 3 = true := by unfold goesB; simp
      rw [hg] at hn; simp only [if_true] at hn; subst hn
      rw [if_neg hs]
      have hsg : sgI false S = S := rfl
      have hlt : ¬ S < 0 := by omega
      go_enter Tryd.func44, Tryd.ntmps44
      go_wp2_with (first | (go_at_call 70; refine (sGood_any _ _).mono ?_; rintro e w' ⟨rfl, rfl⟩) | (go_at_call 13; refine (sNaN_any _ h0 h1 _).mono ?_; rintro e w' ⟨rfl, rfl⟩) | (go_at_call 26; refine (sNeg_any _ h0 h1 _).mono ?_; rintro e w' ⟨rfl, rfl⟩) | (go_at_call 28; refine (sInf_any _ h0 h1 _).mono ?_; rintro e w' ⟨rfl, rfl⟩) | (go_at_call 25; refine (sKey_any _ (by omega) (by omega) _).mono ?_; rintro e w' ⟨rfl, rfl⟩) | (go_at_call 30; refine (sParts_any _ h0 h1 _).mono ?_; rintro e w' ⟨rfl, rfl⟩))
      go_ret
      exact ⟨rfl, rfl⟩
end Go.Proofs.YtoloenkcfpfgcaaDoor
