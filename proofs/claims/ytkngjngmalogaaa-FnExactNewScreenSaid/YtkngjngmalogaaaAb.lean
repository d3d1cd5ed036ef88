/- GoodColor of both sides; colors in bytes, told without a program. -/
import Derived.Test.YtkngjngmalogaaaAa
import Derived.Lib.BitFns
namespace Go.Proofs.Ytkngjngmalogaaa
open Go.ChangeShapes Go.WideShapes Go.ChangeAt Go.RowKit
set_option linter.unusedVariables false
set_option maxHeartbeats 2000000 in
theorem good11 (r g b a : Int) (w : World) : Calls Try.prog 16 #[.agg #[.int .i64 r, .int .i64 g, .int .i64 b, .int .i64 a]] w fun e w' => e = .returned (.bool (gdC r g b a)) ∧ Below w.heap.size w w' := by
  by_cases hr0 : 0 ≤ r
  case neg =>
    have hq : gdC r g b a = false := by cases h : gdC r g b a; rfl; have := gdC_iff.1 h; omega
    rw [hq]
    clear hq
    go_enter Try.func16, Try.ntmps16
    go_wp2
    go_ret
    exact ⟨rfl, alloc_b⟩
  by_cases hr1 : r ≤ 255
  case neg =>
    have hq : gdC r g b a = false := by cases h : gdC r g b a; rfl; have := gdC_iff.1 h; omega
    rw [hq]
    clear hq
    go_enter Try.func16, Try.ntmps16
    go_wp2
    go_ret
    exact ⟨rfl, alloc_b⟩
  by_cases hg0 : 0 ≤ g
  case neg =>
    have hq : gdC r g b a = false := by cases h : gdC r g b a; rfl; have := gdC_iff.1 h; omega
    rw [hq]
    clear hq
    go_enter Try.func16, Try.ntmps16
    go_wp2
    go_ret
    exact ⟨rfl, alloc_b⟩
  by_cases hg1 : g ≤ 255
  case neg =>
    have hq : gdC r g b a = false := by cases h : gdC r g b a; rfl; have := gdC_iff.1 h; omega
    rw [hq]
    clear hq
    go_enter Try.func16, Try.ntmps16
    go_wp2
    go_ret
    exact ⟨rfl, alloc_b⟩
  by_cases hb0 : 0 ≤ b
  case neg =>
    have hq : gdC r g b a = false := by cases h : gdC r g b a; rfl; have := gdC_iff.1 h; omega
    rw [hq]
    clear hq
    go_enter Try.func16, Try.ntmps16
    go_wp2
    go_ret
    exact ⟨rfl, alloc_b⟩
  by_cases hb1 : b ≤ 255
  case neg =>
    have hq : gdC r g b a = false := by cases h : gdC r g b a; rfl; have := gdC_iff.1 h; omega
    rw [hq]
    clear hq
    go_enter Try.func16, Try.ntmps16
    go_wp2
    go_ret
    exact ⟨rfl, alloc_b⟩
  by_cases ha0 : 0 ≤ a
  case neg =>
    have hq : gdC r g b a = false := by cases h : gdC r g b a; rfl; have := gdC_iff.1 h; omega
    rw [hq]
    clear hq
    go_enter Try.func16, Try.ntmps16
    go_wp2
    go_ret
    exact ⟨rfl, alloc_b⟩
  by_cases ha1 : a ≤ 255
  case neg =>
    have hq : gdC r g b a = false := by cases h : gdC r g b a; rfl; have := gdC_iff.1 h; omega
    rw [hq]
    clear hq
    go_enter Try.func16, Try.ntmps16
    go_wp2
    go_ret
    exact ⟨rfl, alloc_b⟩
  have hq : gdC r g b a = true := gdC_iff.2 (by omega)
  rw [hq]
  clear hq
  go_enter Try.func16, Try.ntmps16
  go_wp2
  go_ret
  exact ⟨rfl, alloc_b⟩
set_option maxHeartbeats 2000000 in
theorem good13 (r g b a : Int) (w : World) : Calls Try.prog 18 #[.agg #[.int .i64 r, .int .i64 g, .int .i64 b, .int .i64 a]] w fun e w' => e = .returned (.bool (gdC r g b a)) ∧ Below w.heap.size w w' := by
  cases e0 : inB r
  case' true => cases e1 : inB g
  case' true.true => cases e2 : inB b
  case' true.true.true => cases e3 : inB a
  all_goals
    have H0 := Hid.mk e0
    try have H1 := Hid.mk e1
    try have H2 := Hid.mk e2
    try have H3 := Hid.mk e3
    have hq : gdC r g b a = (inB r && (inB g && (inB b && inB a))) := rfl
    rw [hq, e0]
    try rw [e1]
    try rw [e2]
    try rw [e3]
    have hpt : ∀ (x : Int) (w' : World), Calls Try.prog 34 #[.int .i64 x] w' fun e w'' => e = .returned (.bool (inB x)) ∧ w'' = w' := fun x w' => part42 x w'
    clear hq e0
    try clear e1
    try clear e2
    try clear e3
    simp only [Bool.and_true, Bool.and_false, Bool.false_and]
    go_enter Try.func18, Try.ntmps18
    go_wp2_with (go_at_call 34; refine (hpt _ _).mono ?_; rintro e w2 ⟨rfl, hw⟩; subst w2; (first | rw [H3.out] | skip); (first | rw [H2.out] | skip); (first | rw [H1.out] | skip); (first | rw [H0.out] | skip))
    go_ret
    exact ⟨rfl, alloc_b⟩
theorem b3 {w : World} {o1 o2 o3 : Obj} : Below w.heap.size w (((w.alloc o1).alloc o2).alloc o3) := (((Below.refl _ _).alloc (Nat.le_refl _) _).alloc (by simp) _).alloc (by rw [World.size_alloc, World.size_alloc]; omega) _
theorem b2 {w : World} {o1 o2 : Obj} : Below w.heap.size w ((w.alloc o1).alloc o2) := ((Below.refl _ _).alloc (Nat.le_refl _) _).alloc (by simp) _
end Go.Proofs.Ytkngjngmalogaaa
