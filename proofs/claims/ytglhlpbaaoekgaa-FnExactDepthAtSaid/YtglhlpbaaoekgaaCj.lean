/- Quotients down, of both sides. -/
import Derived.Test.YtglhlpbaaoekgaaCi
namespace Go.Proofs.Ytglhlpbaaoekgaa
open Go.ChangeShapes Go.WideShapes Go.ChangeAt Go.RowKit
set_option linter.unusedVariables false
/-- What Go's quotient and rest are, against the quotient down. -/
theorem td_facts {a b : Int} (hb : 0 < b) : (0 ≤ a.tmod b ∧ a.tdiv b = a / b ∧ a.tmod b = a % b) ∨ (a.tmod b < 0 ∧ a.tdiv b = a / b + 1 ∧ a.tmod b = a % b - b) := by
  have e1 := Int.mul_tdiv_add_tmod a b
  have e2 := Int.mul_ediv_add_emod a b
  have m0 := Int.emod_nonneg a (show b ≠ 0 by omega)
  have m1 := Int.emod_lt_of_pos a hb
  by_cases ha : 0 ≤ a
  · exact Or.inl ⟨by rw [Int.tmod_eq_emod_of_nonneg ha]; exact m0, Int.tdiv_eq_ediv_of_nonneg ha, Int.tmod_eq_emod_of_nonneg ha⟩
  · have h := Int.tmod_eq_emod (a := a) (b := b)
    by_cases hd : b ∣ a
    · rw [if_pos (Or.inr hd)] at h
      have h0 : a % b = 0 := Int.emod_eq_zero_of_dvd hd
      refine Or.inl ⟨by rw [h]; omega, Int.tdiv_eq_ediv_of_dvd hd, by rw [h]; omega⟩
    · rw [if_neg (by rintro (h1 | h1); exact ha h1; exact hd h1)] at h
      have hn : (b.natAbs : Int) = b := by omega
      rw [hn] at h
      have hlt : a.tmod b < 0 := by rw [h]; omega
      refine Or.inr ⟨hlt, ?_, by omega⟩
      have e3 : b * (a.tdiv b) = b * (a / b + 1) := by rw [Int.mul_add, Int.mul_one]; omega
      exact Int.eq_of_mul_eq_mul_left (by omega) e3
theorem div_bnd {a b : Int} (hb : 0 < b) (ha : -1000000000000000 ≤ a ∧ a ≤ 1000000000000000) : -1000000000000001 ≤ a / b ∧ a / b ≤ 1000000000000000 := by
  by_cases h : 0 ≤ a
  · have h1 := Int.ediv_nonneg h (Int.le_of_lt hb)
    have h2 := Int.ediv_le_self b h
    omega
  · have h1 := Int.ediv_neg_of_neg_of_pos (show a < 0 by omega) hb
    have e2 := Int.mul_ediv_add_emod a b
    have m1 := Int.emod_lt_of_pos a hb
    have m0 := Int.emod_nonneg a (show b ≠ 0 by omega)
    refine ⟨?_, by omega⟩
    have h3 : a ≤ a / b := by
      have : b * (a / b) ≤ 1 * (a / b) := Int.mul_le_mul_of_nonpos_right (by omega) (by omega)
      by_cases hz : a ≤ a / b
      · exact hz
      · have e4 : a / b < a := by omega
        have : b * (a / b) + a % b = a := e2
        have k1 : b * (a / b) ≤ b * (a - 1) := Int.mul_le_mul_of_nonneg_left (by omega) (Int.le_of_lt hb)
        have k2 : b * (a - 1) = b * a - b := by rw [Int.mul_sub, Int.mul_one]
        have k3 : b * a ≤ 1 * a := Int.mul_le_mul_of_nonpos_right (by omega) (by omega)
        omega
    omega
set_option maxHeartbeats 2000000 in
theorem mfloorG (a b : Int) (w : World) (hb : 0 < b ∧ b ≤ 1000000000000000) (ha : -1000000000000000 ≤ a ∧ a ≤ 1000000000000000) : Calls Try.prog 96 #[.int .i64 a, .int .i64 b] w fun e w' => e = .returned (.int .i64 (a / b)) ∧ w' = w := by
  have hd := div_bnd hb.1 ha
  have nz : ¬ b = 0 := by omega
  have hf := td_facts (a := a) hb.1
  have m0 := Int.emod_nonneg a nz
  have m1 := Int.emod_lt_of_pos a hb.1
  generalize a / b = q at hd hf ⊢
  generalize a % b = m at m0 m1 hf
  obtain ⟨t, ht⟩ : ∃ t, a.tdiv b = t := ⟨_, rfl⟩
  obtain ⟨r, hr⟩ : ∃ r, a.tmod b = r := ⟨_, rfl⟩
  rw [ht, hr] at hf
  have w1 : IntKind.i64.wrap t = t := (IntKind.wrap_i64 _).trans (by omega)
  have w2 : IntKind.i64.wrap r = r := (IntKind.wrap_i64 _).trans (by omega)
  have w3 : IntKind.i64.wrap (t - 1) = t - 1 := (IntKind.wrap_i64 _).trans (by omega)
  rcases hf with ⟨h1, h2, h3⟩ | ⟨h1, h2, h3⟩
  · have h4 : ¬ r < 0 := by omega
    have HE := Hid.mk h2
    clear h2 h3 hd m0 m1 ha
    go_enter Try.func96, Try.ntmps96
    go_wp2
    go_ret
    exact ⟨by rw [HE.out]; rfl, rfl⟩
  · have HE : Hid (t - 1 = q) := by show _ = _; omega
    clear h2 h3 hd m0 m1 ha
    go_enter Try.func96, Try.ntmps96
    go_wp2
    go_ret
    exact ⟨by rw [← HE.out]; rfl, rfl⟩
set_option maxHeartbeats 2000000 in
theorem prest (a b : Int) (w : World) (hb : 0 < b ∧ b ≤ 1000000000000000) : Calls Try.prog 124 #[.int .i64 a, .int .i64 b] w fun e w' => e = .returned (.int .i64 (a % b)) ∧ w' = w := by
  have nz : ¬ b = 0 := by omega
  have hf := td_facts (a := a) hb.1
  have m0 := Int.emod_nonneg a nz
  have m1 := Int.emod_lt_of_pos a hb.1
  generalize a % b = m at m0 m1 hf ⊢
  obtain ⟨r, hr⟩ : ∃ r, a.tmod b = r := ⟨_, rfl⟩
  rw [hr] at hf
  have w2 : IntKind.i64.wrap r = r := (IntKind.wrap_i64 _).trans (by omega)
  have w3 : IntKind.i64.wrap (r + b) = r + b := (IntKind.wrap_i64 _).trans (by omega)
  rcases hf with ⟨h1, _, h3⟩ | ⟨h1, _, h3⟩
  · have h4 : ¬ r < 0 := by omega
    have HE := Hid.mk h3
    clear h3 m0 m1
    go_enter Try.func124, Try.ntmps124
    go_wp2
    go_ret
    exact ⟨by rw [HE.out]; rfl, rfl⟩
  · have HE : Hid (r + b = m) := by show _ = _; omega
    clear h3 m0 m1
    go_enter Try.func124, Try.ntmps124
    go_wp2
    go_ret
    exact ⟨by rw [← HE.out]; rfl, rfl⟩
set_option maxHeartbeats 2000000 in
theorem pquot (a b : Int) (w : World) (hb : 0 < b ∧ b ≤ 1000000000000000) (ha : -1000000000000000 ≤ a ∧ a ≤ 1000000000000000) : Calls Try.prog 97 #[.int .i64 a, .int .i64 b] w fun e w' => e = .returned (.int .i64 (a / b)) ∧ w' = w := by
  have HR := Hid.mk (fun w' : World => prest a b w' hb)
  have hd := div_bnd hb.1 ha
  have nz : ¬ b = 0 := by omega
  have m0 := Int.emod_nonneg a nz
  have m1 := Int.emod_lt_of_pos a hb.1
  have e2 := Int.mul_ediv_add_emod a b
  have hq : (a - a % b).tdiv b = a / b := by
    have e3 : a - a % b = b * (a / b) := by omega
    rw [e3]
    exact Int.mul_tdiv_cancel_left _ nz
  generalize a / b = q at hd hq ⊢
  generalize a % b = m at m0 m1 HR hq
  have w1 : IntKind.i64.wrap (a - m) = a - m := (IntKind.wrap_i64 _).trans (by omega)
  have w2 : IntKind.i64.wrap q = q := (IntKind.wrap_i64 _).trans (by omega)
  clear e2 hd m0 m1 ha
  go_enter Try.func97, Try.ntmps97
  go_wp2_with (go_at_call 124; refine (HR.out _).mono ?_; rintro e w9 ⟨rfl, hw⟩; subst w9)
  go_ret
  exact ⟨rfl, rfl⟩
end Go.Proofs.Ytglhlpbaaoekgaa
