/- Contracts of the model's small functions on words of 32 bits: what each returns, as plain whole numbers; condition: words of 32 bits. -/
import Derived.Test.YtoloenkcfpfgcaaDoorImpl
namespace Go.Proofs.YtoloenkcfpfgcaaDoor
open Go.ChangeShapes Go.WideShapes Go.ChangeAt Go.RowKit

theorem bit_low (a : Int) (h0 : 0 ≤ a) (h1 : a < 4294967296) : bits .and .u32 a 2147483647 = a % 2147483648 := by go_bits2
theorem bit_frac (a : Int) (h0 : 0 ≤ a) (h1 : a < 4294967296) : bits .and .u32 a 8388607 = a % 8388608 := by go_bits2
theorem bit_exp (a : Int) (h0 : 0 ≤ a) (h1 : a < 4294967296) : bits .and .u32 (a / 8388608) 255 = a / 8388608 % 256 := by
  have g0 : 0 ≤ a / 8388608 := by omega
  have g1 : a / 8388608 < 4294967296 := by omega
  generalize a / 8388608 = b at *
  go_bits2

theorem sGood_any (m : Int) (w : World) : Calls Tryd.prog 70 #[.int .i64 m] w fun e w' => e = .returned (.bool (decide (0 ≤ m ∧ m ≤ 4))) ∧ w' = w := by
  by_cases h1 : (0 : Int) ≤ m
  · by_cases h2 : m ≤ 4
    · go_enter Tryd.func70, Tryd.ntmps70
      go_wp2
      go_ret
      exact ⟨by simp [h1, h2], rfl⟩
    · go_enter Tryd.func70, Tryd.ntmps70
      go_wp2
      go_ret
      exact ⟨by simp; omega, rfl⟩
  · go_enter Tryd.func70, Tryd.ntmps70
    go_wp2
    go_ret
    exact ⟨by simp; omega, rfl⟩
theorem sNaN_any (a : Int) (h0 : 0 ≤ a) (h1 : a < 4294967296) (w : World) :
    Calls Tryd.prog 13 #[.int .u32 a] w fun e w' => e = .returned (.bool (decide (2139095040 < a % 2147483648))) ∧ w' = w := by
  have hb := bit_low a h0 h1
  go_enter Tryd.func13, Tryd.ntmps13
  go_wp2
  go_ret
  exact ⟨rfl, rfl⟩
theorem sInf_any (a : Int) (h0 : 0 ≤ a) (h1 : a < 4294967296) (w : World) :
    Calls Tryd.prog 28 #[.int .u32 a] w fun e w' => e = .returned (.bool (decide (a % 2147483648 = 2139095040))) ∧ w' = w := by
  have hb := bit_low a h0 h1
  go_enter Tryd.func28, Tryd.ntmps28
  go_wp2
  go_ret
  exact ⟨by first | rfl | (simp; rfl), rfl⟩
theorem sNil_any (a : Int) (h0 : 0 ≤ a) (h1 : a < 4294967296) (w : World) :
    Calls Tryd.prog 27 #[.int .u32 a] w fun e w' => e = .returned (.bool (decide (a % 2147483648 = 0))) ∧ w' = w := by
  have hb := bit_low a h0 h1
  go_enter Tryd.func27, Tryd.ntmps27
  go_wp2
  go_ret
  exact ⟨by first | rfl | (simp; rfl), rfl⟩
theorem sNeg_any (a : Int) (h0 : 0 ≤ a) (h1 : a < 4294967296) (w : World) :
    Calls Tryd.prog 26 #[.int .u32 a] w fun e w' => e = .returned (.bool (decide (2147483648 ≤ a))) ∧ w' = w := by
  have hb : (a / 2147483648 == 1) = decide (2147483648 ≤ a) := by rw [Bool.eq_iff_iff]; simp; omega
  go_enter Tryd.func26, Tryd.ntmps26
  go_wp2
  go_ret
  exact ⟨by simp, rfl⟩
/-- The whole number by which words that are no NaN are in order. -/
def keyI (a : Int) : Int := if 2147483648 ≤ a then -(a % 2147483648) else a % 2147483648
theorem sKey_any (a : Int) (h0 : 0 ≤ a) (h1 : a < 4294967296) (w : World) :
    Calls Tryd.prog 25 #[.int .u32 a] w fun e w' => e = .returned (.int .i64 (keyI a)) ∧ w' = w := by
  have hb := bit_low a h0 h1
  by_cases hn : 2147483648 ≤ a
  · go_enter Tryd.func25, Tryd.ntmps25
    go_wp2_with (go_at_call 26; refine (sNeg_any _ (by omega) (by omega) _).mono ?_; rintro e w' ⟨rfl, rfl⟩)
    go_ret
    exact ⟨by unfold keyI; rw [if_pos hn]; first | rfl | simp, rfl⟩
  · go_enter Tryd.func25, Tryd.ntmps25
    go_wp2_with (go_at_call 26; refine (sNeg_any _ (by omega) (by omega) _).mono ?_; rintro e w' ⟨rfl, rfl⟩)
    go_ret
    exact ⟨by unfold keyI; rw [if_neg (by omega)]; first | rfl | simp, rfl⟩

/-- A size with its sign. -/
def sgI (neg : Bool) (S : Int) : Int := if neg then -S else S
theorem sParts_any (a : Int) (h0 : 0 ≤ a) (h1 : a < 4294967296) (w : World) :
    Calls Tryd.prog 30 #[.int .u32 a] w fun e w' => e = .returned (.tuple #[.int .i64 (sgI (decide (2147483648 ≤ a)) (exS (a % 2147483648))), .int .i64 (exP (a % 2147483648))]) ∧ w' = w := by
  have hb := bit_frac a h0 h1
  have hx := bit_exp a h0 h1
  by_cases k : 0 < a / 8388608 % 256
  · have e1 : exS (a % 2147483648) = a % 8388608 + 8388608 := by unfold exS; rw [if_pos (by omega)]; omega
    have e2 : exP (a % 2147483648) = a / 8388608 % 256 - 1 - 149 := by unfold exP; rw [if_pos (by omega)]; omega
    rw [e1, e2]
    by_cases hn : 2147483648 ≤ a
    · rw [show sgI (decide (2147483648 ≤ a)) (a % 8388608 + 8388608) = -(a % 8388608 + 8388608) by simp [sgI, hn]]
      go_enter Tryd.func30, Tryd.ntmps30
      go_wp2_with (go_at_call 26; refine (sNeg_any _ (by omega) (by omega) _).mono ?_; rintro e w' ⟨rfl, rfl⟩)
      go_ret2
      exact ⟨rfl, rfl⟩
    · rw [show sgI (decide (2147483648 ≤ a)) (a % 8388608 + 8388608) = a % 8388608 + 8388608 by simp [sgI]; omega]
      go_enter Tryd.func30, Tryd.ntmps30
      go_wp2_with (go_at_call 26; refine (sNeg_any _ (by omega) (by omega) _).mono ?_; rintro e w' ⟨rfl, rfl⟩)
      go_ret2
      exact ⟨rfl, rfl⟩
  · have e1 : exS (a % 2147483648) = a % 8388608 := by unfold exS; rw [if_neg (by omega)]; omega
    have e2 : exP (a % 2147483648) = a / 8388608 % 256 - 149 := by unfold exP; rw [if_neg (by omega)]; omega
    rw [e1, e2]
    by_cases hn : 2147483648 ≤ a
    · rw [show sgI (decide (2147483648 ≤ a)) (a % 8388608) = -(a % 8388608) by simp [sgI, hn]]
      go_enter Tryd.func30, Tryd.ntmps30
      go_wp2_with (go_at_call 26; refine (sNeg_any _ (by omega) (by omega) _).mono ?_; rintro e w' ⟨rfl, rfl⟩)
      go_ret2
      exact ⟨rfl, rfl⟩
    · rw [show sgI (decide (2147483648 ≤ a)) (a % 8388608) = a % 8388608 by simp [sgI]; omega]
      go_enter Tryd.func30, Tryd.ntmps30
      go_wp2_with (go_at_call 26; refine (sNeg_any _ (by omega) (by omega) _).mono ?_; rintro e w' ⟨rfl, rfl⟩)
      go_ret2
      exact ⟨rfl, rfl⟩
end Go.Proofs.YtoloenkcfpfgcaaDoor
