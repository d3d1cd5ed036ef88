/- Places by an edge, of both sides. -/
import Derived.Test.YthkngcdfnemhaaaAj
namespace Go.Proofs.Ythkngcdfnemhaaa
open Go.ChangeShapes Go.WideShapes Go.ChangeAt Go.RowKit
set_option linter.unusedVariables false
/-- A number of 64 bits. -/
def I64 (x : Int) : Prop := -9223372036854775808 ≤ x ∧ x ≤ 9223372036854775807
theorem tmod_emod (x n : Int) (n0 : 1 ≤ n) : x.tmod n = x % n ∧ 0 ≤ x.tmod n ∨ x.tmod n + n = x % n ∧ x.tmod n < 0 := by
  have h1 := Int.emod_nonneg x (show n ≠ 0 by omega)
  have h2 := Int.emod_lt_of_pos x (show 0 < n by omega)
  rcases Int.le_total 0 x with hx | hx
  · exact Or.inl ⟨Int.tmod_eq_emod_of_nonneg hx, by rw [Int.tmod_eq_emod_of_nonneg hx]; exact h1⟩
  · have e := Int.tmod_eq_emod (a := x) (b := n)
    by_cases hd : 0 ≤ x ∨ n ∣ x
    · rw [if_pos hd] at e
      exact Or.inl ⟨by omega, by omega⟩
    · rw [if_neg hd] at e
      have : (n.natAbs : Int) = n := by omega
      exact Or.inr ⟨by omega, by omega⟩
/-- The place within a side that is read for one, by an edge; -1: the border's. -/
def edI (x n e : Int) : Int := if 0 ≤ x ∧ x < n then x else if e = 1 then (if x < 0 then 0 else n - 1) else if e = 2 then x % n else if e = 3 then (if n ≤ x % (2 * n) then 2 * n - 1 - x % (2 * n) else x % (2 * n)) else -1
theorem edI_bnd (x n e : Int) (n0 : 1 ≤ n) : -1 ≤ edI x n e ∧ edI x n e < n := by
  have h1 := Int.emod_nonneg x (show n ≠ 0 by omega)
  have h2 := Int.emod_lt_of_pos x (show 0 < n by omega)
  have h3 := Int.emod_nonneg x (show 2 * n ≠ 0 by omega)
  have h4 := Int.emod_lt_of_pos x (show 0 < 2 * n by omega)
  unfold edI
  repeat' split
  all_goals omega
theorem mmod (x n : Int) (w : World) (hx : I64 x) (n0 : 1 ≤ n) (n1 : n ≤ 64) : Calls Try.prog 88 #[.int .i64 x, .int .i64 n] w fun e w' => e = .returned (.int .i64 (x % n)) ∧ w' = w := by
  have nz : ¬ n = 0 := by omega
  have hb := tmod_emod x n n0
  have h1 := Int.emod_nonneg x (show n ≠ 0 by omega)
  have h2 := Int.emod_lt_of_pos x (show 0 < n by omega)
  obtain ⟨r, hr⟩ : ∃ r, x.tmod n = r := ⟨_, rfl⟩
  rw [hr] at hb
  obtain ⟨q, hq⟩ : ∃ q, x % n = q := ⟨_, rfl⟩
  rw [hq] at hb h1 h2 ⊢
  have hw : IntKind.i64.wrap r = r := (IntKind.wrap_i64 _).trans (by omega)
  have HQ := Hid.mk hq
  clear hq
  rcases hb with ⟨e1, e2⟩ | ⟨e1, e2⟩
  · have e3 : ¬ r < 0 := by omega
    have HE := Hid.mk e1
    clear e1
    go_enter Try.func88, Try.ntmps88
    go_wp2
    go_ret
    exact ⟨by rw [← HE.out]; rfl, rfl⟩
  · have HE := Hid.mk e1
    have hw2 : IntKind.i64.wrap (r + n) = r + n := (IntKind.wrap_i64 _).trans (by omega)
    clear e1
    go_enter Try.func88, Try.ntmps88
    go_wp2
    go_ret
    exact ⟨by rw [← HE.out]; rfl, rfl⟩
theorem pmod (x n : Int) (w : World) (hx : I64 x) (n0 : 1 ≤ n) (n1 : n ≤ 64) : Calls Try.prog 89 #[.int .i64 x, .int .i64 n] w fun e w' => e = .returned (.int .i64 (x % n)) ∧ w' = w := by
  have nz : ¬ n = 0 := by omega
  have hb := tmod_emod x n n0
  have h1 := Int.emod_nonneg x (show n ≠ 0 by omega)
  have h2 := Int.emod_lt_of_pos x (show 0 < n by omega)
  obtain ⟨r, hr⟩ : ∃ r, x.tmod n = r := ⟨_, rfl⟩
  rw [hr] at hb
  obtain ⟨q, hq⟩ : ∃ q, x % n = q := ⟨_, rfl⟩
  rw [hq] at hb h1 h2 ⊢
  have hw : IntKind.i64.wrap r = r := (IntKind.wrap_i64 _).trans (by omega)
  have HQ := Hid.mk hq
  clear hq
  rcases hb with ⟨e1, e2⟩ | ⟨e1, e2⟩
  · have e3 : ¬ r < 0 := by omega
    have HE := Hid.mk e1
    clear e1
    go_enter Try.func89, Try.ntmps89
    go_wp2
    go_ret
    exact ⟨by rw [← HE.out]; rfl, rfl⟩
  · have HE := Hid.mk e1
    have hw2 : IntKind.i64.wrap (r + n) = r + n := (IntKind.wrap_i64 _).trans (by omega)
    clear e1
    go_enter Try.func89, Try.ntmps89
    go_wp2
    go_ret
    exact ⟨by rw [← HE.out]; rfl, rfl⟩
theorem medge (x n e : Int) (w : World) (hx : I64 x) (n0 : 1 ≤ n) (n1 : n ≤ 16) : Calls Try.prog 80 #[.int .i64 x, .int .i64 n, .int .i64 e] w fun r w' => r = .returned (.int .i64 (edI x n e)) ∧ w' = w := by
  unfold edI
  by_cases h : 0 ≤ x ∧ x < n
  · rw [if_pos h]
    obtain ⟨h1, h2⟩ := h
    go_enter Try.func80, Try.ntmps80
    go_wp2
    go_ret
    exact ⟨rfl, rfl⟩
  rw [if_neg h]
  by_cases e1 : e = 1
  · subst e1
    rw [if_pos rfl]
    by_cases x0 : x < 0
    · rw [if_pos x0]
      have x1 : ¬ 0 ≤ x := by omega
      have x2 : decide (0 ≤ x) = false := decide_eq_false x1
      clear h
      go_enter Try.func80, Try.ntmps80
      go_wp2
      go_ret
      exact ⟨rfl, rfl⟩
    · rw [if_neg x0]
      have x1 : 0 ≤ x := by omega
      have x2 : ¬ x < n := fun q => h ⟨x1, q⟩
      clear h
      go_enter Try.func80, Try.ntmps80
      go_wp2
      go_ret
      exact ⟨rfl, rfl⟩
  rw [if_neg e1]
  by_cases e2 : e = 2
  · subst e2
    rw [if_pos rfl]
    have HM : Hid (∀ w : World, Calls Try.prog 88 #[.int .i64 x, .int .i64 n] w fun e w' => e = .returned (.int .i64 (x % n)) ∧ w' = w) := fun w => mmod x n w hx n0 (by omega)
    generalize x % n = q at HM ⊢
    by_cases x0 : 0 ≤ x
    · have x2 : ¬ x < n := fun q => h ⟨x0, q⟩
      clear h e1
      go_enter Try.func80, Try.ntmps80
      go_wp2_with (go_at_call 88; refine (HM.out _).mono ?_; rintro e w2 ⟨rfl, hw2⟩; subst w2)
      go_ret
      exact ⟨rfl, rfl⟩
    · have x1 : ¬ 0 ≤ x := by omega
      clear h e1
      go_enter Try.func80, Try.ntmps80
      go_wp2_with (go_at_call 88; refine (HM.out _).mono ?_; rintro e w2 ⟨rfl, hw2⟩; subst w2)
      go_ret
      exact ⟨rfl, rfl⟩
  rw [if_neg e2]
  by_cases e3 : e = 3
  · subst e3
    rw [if_pos rfl]
    have HM : Hid (∀ w : World, Calls Try.prog 88 #[.int .i64 x, .int .i64 (2 * n)] w fun e w' => e = .returned (.int .i64 (x % (2 * n))) ∧ w' = w) := fun w => mmod x (2 * n) w hx (by omega) (by omega)
    have h3 := Int.emod_nonneg x (show 2 * n ≠ 0 by omega)
    have h4 := Int.emod_lt_of_pos x (show 0 < 2 * n by omega)
    generalize x % (2 * n) = q at HM h3 h4 ⊢
    have xx : ¬ 0 ≤ x ∨ (0 ≤ x ∧ ¬ x < n) := by
      by_cases x0 : 0 ≤ x
      · exact Or.inr ⟨x0, fun q => h ⟨x0, q⟩⟩
      · exact Or.inl x0
    clear h e1 e2
    by_cases hq : n ≤ q
    · rw [if_pos hq]
      rcases xx with x0 | ⟨x0, x1⟩
      · go_enter Try.func80, Try.ntmps80
        go_wp2_with (go_at_call 88; refine (HM.out _).mono ?_; rintro e w2 ⟨rfl, hw2⟩; subst w2)
        go_ret
        exact ⟨rfl, rfl⟩
      · go_enter Try.func80, Try.ntmps80
        go_wp2_with (go_at_call 88; refine (HM.out _).mono ?_; rintro e w2 ⟨rfl, hw2⟩; subst w2)
        go_ret
        exact ⟨rfl, rfl⟩
    · rw [if_neg hq]
      rcases xx with x0 | ⟨x0, x1⟩
      · go_enter Try.func80, Try.ntmps80
        go_wp2_with (go_at_call 88; refine (HM.out _).mono ?_; rintro e w2 ⟨rfl, hw2⟩; subst w2)
        go_ret
        exact ⟨rfl, rfl⟩
      · go_enter Try.func80, Try.ntmps80
        go_wp2_with (go_at_call 88; refine (HM.out _).mono ?_; rintro e w2 ⟨rfl, hw2⟩; subst w2)
        go_ret
        exact ⟨rfl, rfl⟩
  rw [if_neg e3]
  by_cases x0 : 0 ≤ x
  · have x2 : ¬ x < n := fun q => h ⟨x0, q⟩
    clear h
    go_enter Try.func80, Try.ntmps80
    go_wp2
    go_ret
    exact ⟨rfl, rfl⟩
  · clear h
    go_enter Try.func80, Try.ntmps80
    go_wp2
    go_ret
    exact ⟨rfl, rfl⟩
theorem pplace (x n e : Int) (w : World) (hx : I64 x) (n0 : 1 ≤ n) (n1 : n ≤ 16) (he : 1 ≤ e ∧ e ≤ 4) : Calls Try.prog 82 #[.int .i64 x, .int .i64 n, .int .i64 e] w fun r w' => r = .returned (.int .i64 (edI x n e)) ∧ w' = w := by
  have h4 : e = 1 ∨ e = 2 ∨ e = 3 ∨ e = 4 := by omega
  clear he
  rcases h4 with rfl | rfl | rfl | rfl
  · obtain ⟨m, hm⟩ : ∃ m, edI x n 1 = m := ⟨_, rfl⟩
    have HE : Hid (edI x n 1 = m ∧ (m = if n - 1 < (if x < 0 then 0 else x) then n - 1 else (if x < 0 then 0 else x))) := ⟨hm, by rw [← hm]; unfold edI; repeat' split <;> omega⟩
    rw [hm]
    clear hm
    by_cases x0 : x < 0
    · have hm : m = 0 := by have := HE.out.2; rw [if_pos x0] at this; split at this <;> omega
      subst hm
      clear HE
      go_enter Try.func82, Try.ntmps82
      go_wp2
      go_ret
      exact ⟨rfl, rfl⟩
    · by_cases x1 : n - 1 < x
      · have hm : m = n - 1 := by have := HE.out.2; rw [if_neg x0, if_pos x1] at this; exact this
        subst hm
        clear HE
        go_enter Try.func82, Try.ntmps82
        go_wp2
        go_ret
        exact ⟨rfl, rfl⟩
      · have hm : m = x := by have := HE.out.2; rw [if_neg x0, if_neg x1] at this; exact this
        subst hm
        clear HE
        go_enter Try.func82, Try.ntmps82
        go_wp2
        go_ret
        exact ⟨rfl, rfl⟩
  · have HM : Hid (∀ w : World, Calls Try.prog 89 #[.int .i64 x, .int .i64 n] w fun e w' => e = .returned (.int .i64 (edI x n 2)) ∧ w' = w) := fun w => by
      have := pmod x n w hx n0 (by omega)
      have e : x % n = edI x n 2 := by
        unfold edI
        by_cases h : 0 ≤ x ∧ x < n
        · rw [if_pos h]; exact Int.emod_eq_of_lt h.1 h.2
        · rw [if_neg h, if_neg (by decide), if_pos rfl]
      rwa [e] at this
    generalize edI x n 2 = q at HM ⊢
    go_enter Try.func82, Try.ntmps82
    go_wp2_with (go_at_call 89; refine (HM.out _).mono ?_; rintro e w2 ⟨rfl, hw2⟩; subst w2)
    go_ret
    exact ⟨rfl, rfl⟩
  · have HM : Hid (∀ w : World, Calls Try.prog 89 #[.int .i64 x, .int .i64 (2 * n)] w fun e w' => e = .returned (.int .i64 (x % (2 * n))) ∧ w' = w) := fun w => pmod x (2 * n) w hx (by omega) (by omega)
    have h3 := Int.emod_nonneg x (show 2 * n ≠ 0 by omega)
    have h4 := Int.emod_lt_of_pos x (show 0 < 2 * n by omega)
    have HE : Hid (edI x n 3 = if n ≤ x % (2 * n) then 2 * n - 1 - x % (2 * n) else x % (2 * n)) := by
      show _ = _
      unfold edI
      by_cases h : 0 ≤ x ∧ x < n
      · have e : x % (2 * n) = x := Int.emod_eq_of_lt h.1 (by omega)
        rw [if_pos h, e, if_neg (by omega)]
      · rw [if_neg h, if_neg (by decide), if_neg (by decide), if_pos rfl]
    generalize x % (2 * n) = q at HM h3 h4 HE
    rw [HE.out]
    clear HE
    by_cases hq : n ≤ q
    · rw [if_pos hq]
      have h5 : 2 * n - 1 - q < q := by omega
      go_enter Try.func82, Try.ntmps82
      go_wp2_with (go_at_call 89; refine (HM.out _).mono ?_; rintro e w2 ⟨rfl, hw2⟩; subst w2)
      go_ret
      exact ⟨rfl, rfl⟩
    · rw [if_neg hq]
      have h5 : ¬ 2 * n - 1 - q < q := by omega
      go_enter Try.func82, Try.ntmps82
      go_wp2_with (go_at_call 89; refine (HM.out _).mono ?_; rintro e w2 ⟨rfl, hw2⟩; subst w2)
      go_ret
      exact ⟨rfl, rfl⟩
  · by_cases h : 0 ≤ x ∧ x < n
    · have e : edI x n 4 = x := by unfold edI; rw [if_pos h]
      rw [e]
      obtain ⟨h1, h2⟩ := h
      have h3 : ¬ x < 0 := by omega
      have h4 : ¬ n ≤ x := by omega
      go_enter Try.func82, Try.ntmps82
      go_wp2
      go_ret
      exact ⟨rfl, rfl⟩
    · have e : edI x n 4 = -1 := by unfold edI; rw [if_neg h, if_neg (by decide), if_neg (by decide), if_neg (by decide)]
      rw [e]
      by_cases x0 : x < 0
      · clear h
        go_enter Try.func82, Try.ntmps82
        go_wp2
        go_ret
        exact ⟨rfl, rfl⟩
      · have x1 : n ≤ x := by
          rcases Int.lt_or_le x n with q | q
          · exact absurd ⟨by omega, q⟩ h
          · exact q
        clear h
        go_enter Try.func82, Try.ntmps82
        go_wp2
        go_ret
        exact ⟨rfl, rfl⟩
end Go.Proofs.Ythkngcdfnemhaaa
