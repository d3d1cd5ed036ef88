/- Contracts of the program's rounding to a float of 32 or of 16 bits, as plain whole numbers; conditions: a size of 64 bits, the table of forms as the program lays it. -/
import Derived.Test.YtoloenkcfpfgcaaDoorWhole
import Derived.Test.YtoloenkcfpfgcaaDoorLen
namespace Go.Proofs.YtoloenkcfpfgcaaDoor
open Go.ChangeShapes Go.WideShapes Go.ChangeAt Go.RowKit

/-- Whether what lies beyond the greatest one becomes that one. -/
def keepB (mode : Int) (neg : Bool) : Bool := mode == 2 || (mode == 3 && neg) || (mode == 4 && !neg)

theorem bit_or_w (a : Int) (h0 : 0 ≤ a) (h1 : a < 2147483648) : bits .or .u32 a 2147483648 = a + 2147483648 := by
  obtain ⟨A, rfl⟩ := Int.eq_ofNat_of_zero_le h0
  have h := u32_or_nat A 2147483648 (by omega) (by omega)
  have e : A ||| 2147483648 = A + 2147483648 := by
    have h2 : A < 2 ^ 31 := by omega
    have := Nat.two_pow_add_eq_or_of_lt h2 1
    rw [Nat.or_comm, show (2147483648 : Nat) = 2 ^ 31 * 1 by decide, ← this]; omega
  rw [e] at h
  simpa using h
/-- A size with the sign's bit ahead. -/
def sgn_w (neg : Bool) (z : Int) : Int := if neg then z + 2147483648 else z
/-- What becomes of what lies beyond the greatest one. -/
def bey_w (mode : Int) (neg : Bool) : Int := sgn_w neg (if keepB mode neg then 2139095039 else 2139095040)
theorem withSign_w (z : Int) (neg : Bool) (h0 : 0 ≤ z) (h1 : z < 2147483648) (w : World) (c2 : w.cell? ⟨1, 2, none⟩ = some (.int .u32 2147483648)) :
    Calls Tryd.prog 73 #[.int .u32 z, .bool neg, .int .i64 0] w fun e w' => e = .returned (.int .u32 (sgn_w neg z)) ∧ w' = w := by
  have hb := bit_or_w z h0 h1
  cases neg
  all_goals
    go_enter Tryd.func73, Tryd.ntmps73
    go_wp2
    go_ret
    exact ⟨rfl, rfl⟩
theorem infOf_w (w : World) (c3 : w.cell? ⟨1, 3, none⟩ = some (.int .u32 2139095039)) :
    Calls Tryd.prog 54 #[.int .i64 0] w fun e w' => e = .returned (.int .u32 2139095040) ∧ w' = w := by
  go_enter Tryd.func54, Tryd.ntmps54
  go_wp2
  go_ret
  exact ⟨rfl, rfl⟩
theorem beyond_w (mode : Int) (neg : Bool) (w : World) (c2 : w.cell? ⟨1, 2, none⟩ = some (.int .u32 2147483648)) (c3 : w.cell? ⟨1, 3, none⟩ = some (.int .u32 2139095039)) :
    Calls Tryd.prog 77 #[.bool neg, .int .i64 0, .int .i64 mode] w fun e w' => e = .returned (.int .u32 (bey_w mode neg)) ∧ w' = w := by
  by_cases m2 : mode = 2
  · subst m2
    cases neg
    all_goals
      go_enter Tryd.func77, Tryd.ntmps77
      go_wp2_with (first | (go_at_call 73; refine (withSign_w _ _ (by decide) (by decide) _ c2).mono ?_; rintro e w' ⟨rfl, rfl⟩) | (go_at_call 54; refine (infOf_w _ c3).mono ?_; rintro e w' ⟨rfl, rfl⟩))
      go_ret
      exact ⟨rfl, rfl⟩
  by_cases m3 : mode = 3
  · subst m3
    cases neg
    all_goals
      go_enter Tryd.func77, Tryd.ntmps77
      go_wp2_with (first | (go_at_call 73; refine (withSign_w _ _ (by decide) (by decide) _ c2).mono ?_; rintro e w' ⟨rfl, rfl⟩) | (go_at_call 54; refine (infOf_w _ c3).mono ?_; rintro e w' ⟨rfl, rfl⟩))
      go_ret
      exact ⟨rfl, rfl⟩
  by_cases m4 : mode = 4
  · subst m4
    cases neg
    all_goals
      go_enter Tryd.func77, Tryd.ntmps77
      go_wp2_with (first | (go_at_call 73; refine (withSign_w _ _ (by decide) (by decide) _ c2).mono ?_; rintro e w' ⟨rfl, rfl⟩) | (go_at_call 54; refine (infOf_w _ c3).mono ?_; rintro e w' ⟨rfl, rfl⟩))
      go_ret
      exact ⟨rfl, rfl⟩
  have x2 : (mode == 2) = false := by simpa using m2
  have x3 : (mode == 3) = false := by simpa using m3
  have x4 : (mode == 4) = false := by simpa using m4
  have hk : bey_w mode neg = sgn_w neg 2139095040 := by unfold bey_w keepB; rw [x2, x3, x4]; rfl
  rw [hk]
  cases neg
  all_goals
      go_enter Tryd.func77, Tryd.ntmps77
      go_wp2_with (first | (go_at_call 73; refine (withSign_w _ _ (by decide) (by decide) _ c2).mono ?_; rintro e w' ⟨rfl, rfl⟩) | (go_at_call 54; refine (infOf_w _ c3).mono ?_; rintro e w' ⟨rfl, rfl⟩))
      go_ret
      exact ⟨rfl, rfl⟩

theorem bit_or_h (a : Int) (h0 : 0 ≤ a) (h1 : a < 32768) : bits .or .u32 a 32768 = a + 32768 := by
  obtain ⟨A, rfl⟩ := Int.eq_ofNat_of_zero_le h0
  have h := u32_or_nat A 32768 (by omega) (by omega)
  have e : A ||| 32768 = A + 32768 := by
    have h2 : A < 2 ^ 15 := by omega
    have := Nat.two_pow_add_eq_or_of_lt h2 1
    rw [Nat.or_comm, show (32768 : Nat) = 2 ^ 15 * 1 by decide, ← this]; omega
  rw [e] at h
  simpa using h
/-- A size with the sign's bit ahead. -/
def sgn_h (neg : Bool) (z : Int) : Int := if neg then z + 32768 else z
/-- What becomes of what lies beyond the greatest one. -/
def bey_h (mode : Int) (neg : Bool) : Int := sgn_h neg (if keepB mode neg then 31743 else 31744)
theorem withSign_h (z : Int) (neg : Bool) (h0 : 0 ≤ z) (h1 : z < 32768) (w : World) (c2 : w.cell? ⟨1, 6, none⟩ = some (.int .u32 32768)) :
    Calls Tryd.prog 73 #[.int .u32 z, .bool neg, .int .i64 1] w fun e w' => e = .returned (.int .u32 (sgn_h neg z)) ∧ w' = w := by
  have hb := bit_or_h z h0 h1
  cases neg
  all_goals
    go_enter Tryd.func73, Tryd.ntmps73
    go_wp2
    go_ret
    exact ⟨rfl, rfl⟩
theorem infOf_h (w : World) (c3 : w.cell? ⟨1, 7, none⟩ = some (.int .u32 31743)) :
    Calls Tryd.prog 54 #[.int .i64 1] w fun e w' => e = .returned (.int .u32 31744) ∧ w' = w := by
  go_enter Tryd.func54, Tryd.ntmps54
  go_wp2
  go_ret
  exact ⟨rfl, rfl⟩
theorem beyond_h (mode : Int) (neg : Bool) (w : World) (c2 : w.cell? ⟨1, 6, none⟩ = some (.int .u32 32768)) (c3 : w.cell? ⟨1, 7, none⟩ = some (.int .u32 31743)) :
    Calls Tryd.prog 77 #[.bool neg, .int .i64 1, .int .i64 mode] w fun e w' => e = .returned (.int .u32 (bey_h mode neg)) ∧ w' = w := by
  by_cases m2 : mode = 2
  · subst m2
    cases neg
    all_goals
      go_enter Tryd.func77, Tryd.ntmps77
      go_wp2_with (first | (go_at_call 73; refine (withSign_h _ _ (by decide) (by decide) _ c2).mono ?_; rintro e w' ⟨rfl, rfl⟩) | (go_at_call 54; refine (infOf_h _ c3).mono ?_; rintro e w' ⟨rfl, rfl⟩))
      go_ret
      exact ⟨rfl, rfl⟩
  by_cases m3 : mode = 3
  · subst m3
    cases neg
    all_goals
      go_enter Tryd.func77, Tryd.ntmps77
      go_wp2_with (first | (go_at_call 73; refine (withSign_h _ _ (by decide) (by decide) _ c2).mono ?_; rintro e w' ⟨rfl, rfl⟩) | (go_at_call 54; refine (infOf_h _ c3).mono ?_; rintro e w' ⟨rfl, rfl⟩))
      go_ret
      exact ⟨rfl, rfl⟩
  by_cases m4 : mode = 4
  · subst m4
    cases neg
    all_goals
      go_enter Tryd.func77, Tryd.ntmps77
      go_wp2_with (first | (go_at_call 73; refine (withSign_h _ _ (by decide) (by decide) _ c2).mono ?_; rintro e w' ⟨rfl, rfl⟩) | (go_at_call 54; refine (infOf_h _ c3).mono ?_; rintro e w' ⟨rfl, rfl⟩))
      go_ret
      exact ⟨rfl, rfl⟩
  have x2 : (mode == 2) = false := by simpa using m2
  have x3 : (mode == 3) = false := by simpa using m3
  have x4 : (mode == 4) = false := by simpa using m4
  have hk : bey_h mode neg = sgn_h neg 31744 := by unfold bey_h keepB; rw [x2, x3, x4]; rfl
  rw [hk]
  cases neg
  all_goals
      go_enter Tryd.func77, Tryd.ntmps77
      go_wp2_with (first | (go_at_call 73; refine (withSign_h _ _ (by decide) (by decide) _ c2).mono ?_; rintro e w' ⟨rfl, rfl⟩) | (go_at_call 54; refine (infOf_h _ c3).mono ?_; rintro e w' ⟨rfl, rfl⟩))
      go_ret
      exact ⟨rfl, rfl⟩
end Go.Proofs.YtoloenkcfpfgcaaDoor
