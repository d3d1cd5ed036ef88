/- Contracts of GoodMask, of the program and of its model: n in 0..16, mask in 0..2^n-1; no conditions. -/
import Derived.Test.YtlcfpcapefeajaaMem
namespace Go.Proofs.Ytlcfpcapefeajaa
open Go.ChangeShapes Go.WideShapes Go.ChangeAt Go.RowKit
def goodM (n m : Int) : Bool := decide (0 ≤ n ∧ n ≤ 16 ∧ 0 ≤ m ∧ m < 2 ^ n.toNat)
theorem le16 {n : Int} (h0 : 0 ≤ n) (h1 : n ≤ 16) : n = 0 ∨ n = 1 ∨ n = 2 ∨ n = 3 ∨ n = 4 ∨ n = 5 ∨ n = 6 ∨ n = 7 ∨ n = 8 ∨ n = 9 ∨ n = 10 ∨ n = 11 ∨ n = 12 ∨ n = 13 ∨ n = 14 ∨ n = 15 ∨ n = 16 := by omega
theorem good_of {n m : Int} {p : Prop} [Decidable p] (h : (0 ≤ n ∧ n ≤ 16 ∧ 0 ≤ m ∧ m < 2 ^ n.toNat) ↔ p) : goodM n m = decide p := by
  unfold goodM; simp only [h]
set_option maxHeartbeats 2000000 in
theorem gm9 (n m : Int) (w : World) : Calls Try.prog 9 #[.int .i64 n, .int .i64 m] w fun e w' => e = .returned (.bool (goodM n m)) ∧ w' = w := by
  by_cases h1 : 0 ≤ n
  case neg =>
    rw [show goodM n m = false by unfold goodM; simp; omega]
    go_enter Try.func9, Try.ntmps9
    go_wp2
    go_ret
    exact ⟨rfl, rfl⟩
  by_cases h2 : n ≤ 16
  case neg =>
    rw [show goodM n m = false by unfold goodM; simp; omega]
    go_enter Try.func9, Try.ntmps9
    go_wp2
    go_ret
    exact ⟨rfl, rfl⟩
  by_cases h3 : 0 ≤ m
  case neg =>
    rw [show goodM n m = false by unfold goodM; simp; omega]
    go_enter Try.func9, Try.ntmps9
    go_wp2
    go_ret
    exact ⟨rfl, rfl⟩
  have e : goodM n m = decide (m < 2 ^ n.toNat) := by unfold goodM; simp [h1, h2, h3]
  rw [e]
  clear e
  rcases le16 h1 h2 with rfl | rfl | rfl | rfl | rfl | rfl | rfl | rfl | rfl | rfl | rfl | rfl | rfl | rfl | rfl | rfl | rfl
  all_goals
    go_enter Try.func9, Try.ntmps9
    go_wp2
    go_ret
    exact ⟨by simp, rfl⟩
set_option maxHeartbeats 2000000 in
theorem gm10 (n m : Int) (w : World) : Calls Try.prog 10 #[.int .i64 n, .int .i64 m] w fun e w' => e = .returned (.bool (goodM n m)) ∧ w' = w := by
  by_cases h1 : 0 ≤ n
  case neg =>
    rw [show goodM n m = false by unfold goodM; simp; omega]
    go_enter Try.func10, Try.ntmps10
    go_wp2
    go_ret
    exact ⟨rfl, rfl⟩
  by_cases h2 : n ≤ 16
  case neg =>
    rw [show goodM n m = false by unfold goodM; simp; omega]
    go_enter Try.func10, Try.ntmps10
    go_wp2
    go_ret
    exact ⟨rfl, rfl⟩
  by_cases h3 : 0 ≤ m
  case neg =>
    rw [show goodM n m = false by unfold goodM; simp; omega]
    go_enter Try.func10, Try.ntmps10
    go_wp2
    go_ret
    exact ⟨rfl, rfl⟩
  have e : goodM n m = decide (m < 2 ^ n.toNat) := by unfold goodM; simp [h1, h2, h3]
  rw [e]
  clear e
  rcases le16 h1 h2 with rfl | rfl | rfl | rfl | rfl | rfl | rfl | rfl | rfl | rfl | rfl | rfl | rfl | rfl | rfl | rfl | rfl
  all_goals
    go_enter Try.func10, Try.ntmps10
    go_wp2
    go_ret
    exact ⟨by simp, rfl⟩
end Go.Proofs.Ytlcfpcapefeajaa
