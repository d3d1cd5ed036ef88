/- Numbers of samples of both sides; the program's blend of colors. -/
import Derived.Test.YthkngcdfnemhaaaAo
namespace Go.Proofs.Ythkngcdfnemhaaa
open Go.ChangeShapes Go.WideShapes Go.ChangeAt Go.RowKit
set_option linter.unusedVariables false
theorem tdiv256 (a : Int) : (0 ≤ a.tmod 256 ∧ a.tdiv 256 = a / 256) ∨ (a.tmod 256 < 0 ∧ a.tdiv 256 - 1 = a / 256) := by
  have h := Int.tmod_add_mul_tdiv a 256
  rcases tmod_emod a 256 (by decide) with ⟨h1, h2⟩ | ⟨h1, h2⟩
  · exact Or.inl ⟨h2, by omega⟩
  · exact Or.inr ⟨h2, by omega⟩
theorem mfloor (a : Int) (w : World) (h0 : -200000 ≤ a) (h1 : a ≤ 200000) : Calls Try.prog 84 #[.int .i64 a, .int .i64 256] w fun e w' => e = .returned (.int .i64 (a / 256)) ∧ w' = w := by
  have hb := tdiv256 a
  have hc := tmod_emod a 256 (by decide)
  obtain ⟨d, hd⟩ : ∃ d, a.tdiv 256 = d := ⟨_, rfl⟩
  obtain ⟨r, hr⟩ : ∃ r, a.tmod 256 = r := ⟨_, rfl⟩
  rw [hd, hr] at hb
  rw [hr] at hc
  have hw : IntKind.i64.wrap d = d := (IntKind.wrap_i64 _).trans (by omega)
  have hw2 : IntKind.i64.wrap r = r := (IntKind.wrap_i64 _).trans (by omega)
  obtain ⟨q, hq⟩ : ∃ q, a / 256 = q := ⟨_, rfl⟩
  have hq0 : -1000 ≤ q ∧ q ≤ 1000 := by omega
  rw [hq] at hb ⊢
  have HQ := Hid.mk hq
  clear hq hc
  rcases hb with ⟨e1, e2⟩ | ⟨e1, e2⟩
  · have HE := Hid.mk e2
    have e3 : ¬ r < 0 := by omega
    clear e2
    go_enter Try.func84, Try.ntmps84
    go_wp2
    go_ret
    exact ⟨by rw [← HE.out]; rfl, rfl⟩
  · have HE := Hid.mk e2
    have hw3 : IntKind.i64.wrap (d - 1) = d - 1 := (IntKind.wrap_i64 _).trans (by omega)
    clear e2
    go_enter Try.func84, Try.ntmps84
    go_wp2
    go_ret
    exact ⟨by rw [← HE.out]; rfl, rfl⟩
theorem psplit (a : Int) (w : World) (h0 : -200000 ≤ a) (h1 : a ≤ 200000) : Calls Try.prog 70 #[.int .i64 a] w fun e w' => e = .returned (.tuple #[.int .i64 (a / 256), .int .i64 (a % 256)]) ∧ w' = w := by
  have e1 := i64_and255 a (by omega) (by omega)
  have e3 : IntKind.i64.wrap (a / 256) = a / 256 := (IntKind.wrap_i64 _).trans (by omega)
  obtain ⟨r, hr⟩ : ∃ r, a % 256 = r := ⟨_, rfl⟩
  rw [hr] at e1 ⊢
  have HR := Hid.mk hr
  clear hr
  go_enter Try.func70, Try.ntmps70
  go_wp2
  go_ret2
  exact ⟨rfl, rfl⟩
/-- A place that may be sampled. -/
def plB (n : Int) : Bool := decide (-100000 ≤ n) && decide (n ≤ 100000)
theorem pl_iff {n : Int} (h : plB n = true) : -100000 ≤ n ∧ n ≤ 100000 := by
  unfold plB at h
  simp only [Bool.and_eq_true, decide_eq_true_eq] at h
  exact h
theorem mplace (n : Int) (w : World) : Calls Try.prog 65 #[.int .i64 n] w fun e w' => e = .returned (.bool (plB n)) ∧ w' = w := by
  unfold plB
  by_cases h1 : -100000 ≤ n
  · by_cases h2 : n ≤ 100000
    · rw [decide_eq_true h1, decide_eq_true h2]
      go_enter Try.func65, Try.ntmps65
      go_wp2
      go_ret
      exact ⟨rfl, rfl⟩
    · rw [decide_eq_true h1, decide_eq_false h2]
      go_enter Try.func65, Try.ntmps65
      go_wp2
      go_ret
      exact ⟨rfl, rfl⟩
  · rw [decide_eq_false h1]
    go_enter Try.func65, Try.ntmps65
    go_wp2
    go_ret
    exact ⟨rfl, rfl⟩
theorem pgoods (u v : Int) (w : World) : Calls Try.prog 67 #[.int .i64 u, .int .i64 v] w fun e w' => e = .returned (.bool (plB u && plB v)) ∧ w' = w := by
  obtain ⟨x, hx⟩ : ∃ x, max u v = x := ⟨_, rfl⟩
  obtain ⟨y, hy⟩ : ∃ y, min u v = y := ⟨_, rfl⟩
  have hx' : (if u < v then v else u) = x := by rw [← hx]; split <;> omega
  have hy' : (if v < u then v else u) = y := by rw [← hy]; split <;> omega
  have hg : (plB u && plB v) = (decide (x ≤ 100000) && decide (-100000 ≤ y)) := by
    unfold plB
    rw [Bool.eq_iff_iff]
    simp only [Bool.and_eq_true, decide_eq_true_eq]
    omega
  rw [hg]
  clear hg
  by_cases h1 : x ≤ 100000
  · by_cases h2 : -100000 ≤ y
    · rw [decide_eq_true h1, decide_eq_true h2]
      go_enter Try.func67, Try.ntmps67
      go_wp2
      go_ret
      exact ⟨rfl, rfl⟩
    · rw [decide_eq_true h1, decide_eq_false h2]
      go_enter Try.func67, Try.ntmps67
      go_wp2
      go_ret
      exact ⟨rfl, rfl⟩
  · rw [decide_eq_false h1]
    go_enter Try.func67, Try.ntmps67
    go_wp2
    go_ret
    exact ⟨rfl, rfl⟩
end Go.Proofs.Ythkngcdfnemhaaa
