/- GoodCommand of the program. -/
import Derived.Test.YtnbpncjbfnhkjaaVb
namespace Go.Proofs.Ytnbpncjbfnhkjaa
open Go.ChangeShapes Go.WideShapes Go.ChangeAt Go.RowKit
set_option linter.unusedVariables false
set_option maxRecDepth 100000 in
set_option maxHeartbeats 8000000 in
theorem pgc (k t f o m : Int) (w : World) : Calls Try.prog 16 #[.agg #[.int .i64 k, .int .i64 t, .int .i64 f, .int .i64 o, .int .i64 m]] w fun e w' => e = .returned (.bool (gcB k t f o m)) ∧ Below w.heap.size w w' := by
  have HT0 : Hid (∀ v, Calls Try.prog 37 #[.int .i64 t] v fun e w' => e = .returned (.bool (decide (0 ≤ t) && decide (t < 8))) ∧ w' = v) := fun v => pthing t v
  have HU0 : Hid (∀ v, Calls Try.prog 38 #[.int .i64 f, .int .i64 o] v fun e w' => e = .returned (.bool (decide (f ≠ o ∧ 0 ≤ f ∧ f ≤ 3 ∧ 0 < o ∧ o ≤ 3))) ∧ w' = v) := fun v => pturn f o v
  by_cases ht : 0 ≤ t ∧ t < 8
  case neg =>
    have HT : Hid (∀ v, Calls Try.prog 37 #[.int .i64 t] v fun e w' => e = .returned (.bool false) ∧ w' = v) := fun v => by
      have h := HT0.out v
      rwa [show (decide (0 ≤ t) && decide (t < 8)) = false from by rw [← Bool.decide_and]; exact decide_eq_false ht] at h
    clear HT0 HU0
    by_cases k4 : k = 1 ∨ k = 2 ∨ k = 3 ∨ k = 4
    · rcases k4 with rfl | rfl | rfl | rfl
      · rw [gc_no (by unfold gcP; omega)]
        go_enter Try.func16, Try.ntmps16
        go_wp2_with (first | (go_at_call 37; refine (HT.out _).mono ?_; rintro e w2 ⟨rfl, hw⟩; subst w2))
        go_ret
        exact ⟨rfl, by repeat (first | (with_reducible exact below_drewN (by first | exact alloc_b | exact below_drewN alloc_b _ | exact below_drew alloc_b) _) | (with_reducible exact alloc_b) | (with_reducible exact below_drew alloc_b) | (with_reducible exact Below.refl _ _))⟩
      · rw [gc_no (by unfold gcP; omega)]
        go_enter Try.func16, Try.ntmps16
        go_wp2_with (first | (go_at_call 37; refine (HT.out _).mono ?_; rintro e w2 ⟨rfl, hw⟩; subst w2))
        go_ret
        exact ⟨rfl, by repeat (first | (with_reducible exact below_drewN (by first | exact alloc_b | exact below_drewN alloc_b _ | exact below_drew alloc_b) _) | (with_reducible exact alloc_b) | (with_reducible exact below_drew alloc_b) | (with_reducible exact Below.refl _ _))⟩
      · rw [gc_no (by unfold gcP; omega)]
        go_enter Try.func16, Try.ntmps16
        go_wp2_with (first | (go_at_call 37; refine (HT.out _).mono ?_; rintro e w2 ⟨rfl, hw⟩; subst w2))
        go_ret
        exact ⟨rfl, by repeat (first | (with_reducible exact below_drewN (by first | exact alloc_b | exact below_drewN alloc_b _ | exact below_drew alloc_b) _) | (with_reducible exact alloc_b) | (with_reducible exact below_drew alloc_b) | (with_reducible exact Below.refl _ _))⟩
      · rw [gc_no (by unfold gcP; omega)]
        go_enter Try.func16, Try.ntmps16
        go_wp2_with (first | (go_at_call 37; refine (HT.out _).mono ?_; rintro e w2 ⟨rfl, hw⟩; subst w2))
        go_ret
        exact ⟨rfl, by repeat (first | (with_reducible exact below_drewN (by first | exact alloc_b | exact below_drewN alloc_b _ | exact below_drew alloc_b) _) | (with_reducible exact alloc_b) | (with_reducible exact below_drew alloc_b) | (with_reducible exact Below.refl _ _))⟩
    have n1 : ¬ k = 1 := by omega
    have n2 : ¬ k = 2 := by omega
    have n3 : ¬ k = 3 := by omega
    have n4 : ¬ k = 4 := by omega
    by_cases k5 : k = 5 ∨ k = 6
    · have zt : ¬ t = 0 := by omega
      have ztb : (t == 0) = false := by simpa using zt
      by_cases m0 : 0 ≤ m
      · by_cases m1 : m < 32
        · rcases k5 with rfl | rfl
          · rw [gc_no (by unfold gcP; omega)]
            go_enter Try.func16, Try.ntmps16
            go_wp2
            go_ret
            exact ⟨rfl, by repeat (first | (with_reducible exact below_drewN (by first | exact alloc_b | exact below_drewN alloc_b _ | exact below_drew alloc_b) _) | (with_reducible exact alloc_b) | (with_reducible exact below_drew alloc_b) | (with_reducible exact Below.refl _ _))⟩
          · rw [gc_no (by unfold gcP; omega)]
            go_enter Try.func16, Try.ntmps16
            go_wp2
            go_ret
            exact ⟨rfl, by repeat (first | (with_reducible exact below_drewN (by first | exact alloc_b | exact below_drewN alloc_b _ | exact below_drew alloc_b) _) | (with_reducible exact alloc_b) | (with_reducible exact below_drew alloc_b) | (with_reducible exact Below.refl _ _))⟩
        · rcases k5 with rfl | rfl
          · rw [gc_no (by unfold gcP; omega)]
            go_enter Try.func16, Try.ntmps16
            go_wp2
            go_ret
            exact ⟨rfl, by repeat (first | (with_reducible exact below_drewN (by first | exact alloc_b | exact below_drewN alloc_b _ | exact below_drew alloc_b) _) | (with_reducible exact alloc_b) | (with_reducible exact below_drew alloc_b) | (with_reducible exact Below.refl _ _))⟩
          · rw [gc_no (by unfold gcP; omega)]
            go_enter Try.func16, Try.ntmps16
            go_wp2
            go_ret
            exact ⟨rfl, by repeat (first | (with_reducible exact below_drewN (by first | exact alloc_b | exact below_drewN alloc_b _ | exact below_drew alloc_b) _) | (with_reducible exact alloc_b) | (with_reducible exact below_drew alloc_b) | (with_reducible exact Below.refl _ _))⟩
      · rcases k5 with rfl | rfl
        · rw [gc_no (by unfold gcP; omega)]
          go_enter Try.func16, Try.ntmps16
          go_wp2
          go_ret
          exact ⟨rfl, by repeat (first | (with_reducible exact below_drewN (by first | exact alloc_b | exact below_drewN alloc_b _ | exact below_drew alloc_b) _) | (with_reducible exact alloc_b) | (with_reducible exact below_drew alloc_b) | (with_reducible exact Below.refl _ _))⟩
        · rw [gc_no (by unfold gcP; omega)]
          go_enter Try.func16, Try.ntmps16
          go_wp2
          go_ret
          exact ⟨rfl, by repeat (first | (with_reducible exact below_drewN (by first | exact alloc_b | exact below_drewN alloc_b _ | exact below_drew alloc_b) _) | (with_reducible exact alloc_b) | (with_reducible exact below_drew alloc_b) | (with_reducible exact Below.refl _ _))⟩
    have n5 : ¬ k = 5 := by omega
    have n6 : ¬ k = 6 := by omega
    rw [gc_no (by unfold gcP; omega)]
    go_enter Try.func16, Try.ntmps16
    go_wp2
    go_ret
    exact ⟨rfl, by repeat (first | (with_reducible exact below_drewN (by first | exact alloc_b | exact below_drewN alloc_b _ | exact below_drew alloc_b) _) | (with_reducible exact alloc_b) | (with_reducible exact below_drew alloc_b) | (with_reducible exact Below.refl _ _))⟩
  have HT : Hid (∀ v, Calls Try.prog 37 #[.int .i64 t] v fun e w' => e = .returned (.bool true) ∧ w' = v) := fun v => by
    have h := HT0.out v
    rwa [show (decide (0 ≤ t) && decide (t < 8)) = true from by rw [← Bool.decide_and]; exact decide_eq_true ht] at h
  clear HT0
  by_cases k3 : k = 1 ∨ k = 2 ∨ k = 3
  · clear HU0
    rcases k3 with rfl | rfl | rfl
    · by_cases zf : f = 0
      case neg =>
        have zbf : (f == 0) = false := by simpa using zf
        rw [gc_no (by unfold gcP; omega)]
        go_enter Try.func16, Try.ntmps16
        go_wp2_with (first | (go_at_call 37; refine (HT.out _).mono ?_; rintro e w2 ⟨rfl, hw⟩; subst w2))
        go_ret
        exact ⟨rfl, by repeat (first | (with_reducible exact below_drewN (by first | exact alloc_b | exact below_drewN alloc_b _ | exact below_drew alloc_b) _) | (with_reducible exact alloc_b) | (with_reducible exact below_drew alloc_b) | (with_reducible exact Below.refl _ _))⟩
      by_cases zo : o = 0
      case neg =>
        have zbo : (o == 0) = false := by simpa using zo
        rw [gc_no (by unfold gcP; omega)]
        go_enter Try.func16, Try.ntmps16
        go_wp2_with (first | (go_at_call 37; refine (HT.out _).mono ?_; rintro e w2 ⟨rfl, hw⟩; subst w2))
        go_ret
        exact ⟨rfl, by repeat (first | (with_reducible exact below_drewN (by first | exact alloc_b | exact below_drewN alloc_b _ | exact below_drew alloc_b) _) | (with_reducible exact alloc_b) | (with_reducible exact below_drew alloc_b) | (with_reducible exact Below.refl _ _))⟩
      by_cases zm : m = 0
      case neg =>
        have zbm : (m == 0) = false := by simpa using zm
        rw [gc_no (by unfold gcP; omega)]
        go_enter Try.func16, Try.ntmps16
        go_wp2_with (first | (go_at_call 37; refine (HT.out _).mono ?_; rintro e w2 ⟨rfl, hw⟩; subst w2))
        go_ret
        exact ⟨rfl, by repeat (first | (with_reducible exact below_drewN (by first | exact alloc_b | exact below_drewN alloc_b _ | exact below_drew alloc_b) _) | (with_reducible exact alloc_b) | (with_reducible exact below_drew alloc_b) | (with_reducible exact Below.refl _ _))⟩
      subst zf
      subst zo
      subst zm
      rw [gc_yes (by unfold gcP; omega)]
      go_enter Try.func16, Try.ntmps16
      go_wp2_with (first | (go_at_call 37; refine (HT.out _).mono ?_; rintro e w2 ⟨rfl, hw⟩; subst w2))
      go_ret
      exact ⟨rfl, by repeat (first | (with_reducible exact below_drewN (by first | exact alloc_b | exact below_drewN alloc_b _ | exact below_drew alloc_b) _) | (with_reducible exact alloc_b) | (with_reducible exact below_drew alloc_b) | (with_reducible exact Below.refl _ _))⟩
    · by_cases zf : f = 0
      case neg =>
        have zbf : (f == 0) = false := by simpa using zf
        rw [gc_no (by unfold gcP; omega)]
        go_enter Try.func16, Try.ntmps16
        go_wp2_with (first | (go_at_call 37; refine (HT.out _).mono ?_; rintro e w2 ⟨rfl, hw⟩; subst w2))
        go_ret
        exact ⟨rfl, by repeat (first | (with_reducible exact below_drewN (by first | exact alloc_b | exact below_drewN alloc_b _ | exact below_drew alloc_b) _) | (with_reducible exact alloc_b) | (with_reducible exact below_drew alloc_b) | (with_reducible exact Below.refl _ _))⟩
      by_cases zo : o = 0
      case neg =>
        have zbo : (o == 0) = false := by simpa using zo
        rw [gc_no (by unfold gcP; omega)]
        go_enter Try.func16, Try.ntmps16
        go_wp2_with (first | (go_at_call 37; refine (HT.out _).mono ?_; rintro e w2 ⟨rfl, hw⟩; subst w2))
        go_ret
        exact ⟨rfl, by repeat (first | (with_reducible exact below_drewN (by first | exact alloc_b | exact below_drewN alloc_b _ | exact below_drew alloc_b) _) | (with_reducible exact alloc_b) | (with_reducible exact below_drew alloc_b) | (with_reducible exact Below.refl _ _))⟩
      by_cases zm : m = 0
      case neg =>
        have zbm : (m == 0) = false := by simpa using zm
        rw [gc_no (by unfold gcP; omega)]
        go_enter Try.func16, Try.ntmps16
        go_wp2_with (first | (go_at_call 37; refine (HT.out _).mono ?_; rintro e w2 ⟨rfl, hw⟩; subst w2))
        go_ret
        exact ⟨rfl, by repeat (first | (with_reducible exact below_drewN (by first | exact alloc_b | exact below_drewN alloc_b _ | exact below_drew alloc_b) _) | (with_reducible exact alloc_b) | (with_reducible exact below_drew alloc_b) | (with_reducible exact Below.refl _ _))⟩
      subst zf
      subst zo
      subst zm
      rw [gc_yes (by unfold gcP; omega)]
      go_enter Try.func16, Try.ntmps16
      go_wp2_with (first | (go_at_call 37; refine (HT.out _).mono ?_; rintro e w2 ⟨rfl, hw⟩; subst w2))
      go_ret
      exact ⟨rfl, by repeat (first | (with_reducible exact below_drewN (by first | exact alloc_b | exact below_drewN alloc_b _ | exact below_drew alloc_b) _) | (with_reducible exact alloc_b) | (with_reducible exact below_drew alloc_b) | (with_reducible exact Below.refl _ _))⟩
    · by_cases zf : f = 0
      case neg =>
        have zbf : (f == 0) = false := by simpa using zf
        rw [gc_no (by unfold gcP; omega)]
        go_enter Try.func16, Try.ntmps16
        go_wp2_with (first | (go_at_call 37; refine (HT.out _).mono ?_; rintro e w2 ⟨rfl, hw⟩; subst w2))
        go_ret
        exact ⟨rfl, by repeat (first | (with_reducible exact below_drewN (by first | exact alloc_b | exact below_drewN alloc_b _ | exact below_drew alloc_b) _) | (with_reducible exact alloc_b) | (with_reducible exact below_drew alloc_b) | (with_reducible exact Below.refl _ _))⟩
      by_cases zo : o = 0
      case neg =>
        have zbo : (o == 0) = false := by simpa using zo
        rw [gc_no (by unfold gcP; omega)]
        go_enter Try.func16, Try.ntmps16
        go_wp2_with (first | (go_at_call 37; refine (HT.out _).mono ?_; rintro e w2 ⟨rfl, hw⟩; subst w2))
        go_ret
        exact ⟨rfl, by repeat (first | (with_reducible exact below_drewN (by first | exact alloc_b | exact below_drewN alloc_b _ | exact below_drew alloc_b) _) | (with_reducible exact alloc_b) | (with_reducible exact below_drew alloc_b) | (with_reducible exact Below.refl _ _))⟩
      by_cases zm : m = 0
      case neg =>
        have zbm : (m == 0) = false := by simpa using zm
        rw [gc_no (by unfold gcP; omega)]
        go_enter Try.func16, Try.ntmps16
        go_wp2_with (first | (go_at_call 37; refine (HT.out _).mono ?_; rintro e w2 ⟨rfl, hw⟩; subst w2))
        go_ret
        exact ⟨rfl, by repeat (first | (with_reducible exact below_drewN (by first | exact alloc_b | exact below_drewN alloc_b _ | exact below_drew alloc_b) _) | (with_reducible exact alloc_b) | (with_reducible exact below_drew alloc_b) | (with_reducible exact Below.refl _ _))⟩
      subst zf
      subst zo
      subst zm
      rw [gc_yes (by unfold gcP; omega)]
      go_enter Try.func16, Try.ntmps16
      go_wp2_with (first | (go_at_call 37; refine (HT.out _).mono ?_; rintro e w2 ⟨rfl, hw⟩; subst w2))
      go_ret
      exact ⟨rfl, by repeat (first | (with_reducible exact below_drewN (by first | exact alloc_b | exact below_drewN alloc_b _ | exact below_drew alloc_b) _) | (with_reducible exact alloc_b) | (with_reducible exact below_drew alloc_b) | (with_reducible exact Below.refl _ _))⟩
  have n1 : ¬ k = 1 := by omega
  have n2 : ¬ k = 2 := by omega
  have n3 : ¬ k = 3 := by omega
  by_cases k4 : k = 4
  · subst k4
    by_cases hu : f ≠ o ∧ 0 ≤ f ∧ f ≤ 3 ∧ 0 < o ∧ o ≤ 3
    case neg =>
      have HU : Hid (∀ v, Calls Try.prog 38 #[.int .i64 f, .int .i64 o] v fun e w' => e = .returned (.bool false) ∧ w' = v) := fun v => by have h := HU0.out v; rwa [decide_eq_false hu] at h
      clear HU0
      rw [gc_no (by unfold gcP; omega)]
      go_enter Try.func16, Try.ntmps16
      go_wp2_with (first | (go_at_call 37; refine (HT.out _).mono ?_; rintro e w2 ⟨rfl, hw⟩; subst w2) | (go_at_call 38; refine (HU.out _).mono ?_; rintro e w3 ⟨rfl, hw⟩; subst w3))
      go_ret
      exact ⟨rfl, by repeat (first | (with_reducible exact below_drewN (by first | exact alloc_b | exact below_drewN alloc_b _ | exact below_drew alloc_b) _) | (with_reducible exact alloc_b) | (with_reducible exact below_drew alloc_b) | (with_reducible exact Below.refl _ _))⟩
    have HU : Hid (∀ v, Calls Try.prog 38 #[.int .i64 f, .int .i64 o] v fun e w' => e = .returned (.bool true) ∧ w' = v) := fun v => by have h := HU0.out v; rwa [decide_eq_true hu] at h
    clear HU0
    by_cases zm : m = 0
    case neg =>
      have zbm : (m == 0) = false := by simpa using zm
      rw [gc_no (by unfold gcP; omega)]
      go_enter Try.func16, Try.ntmps16
      go_wp2_with (first | (go_at_call 37; refine (HT.out _).mono ?_; rintro e w2 ⟨rfl, hw⟩; subst w2) | (go_at_call 38; refine (HU.out _).mono ?_; rintro e w3 ⟨rfl, hw⟩; subst w3))
      go_ret
      exact ⟨rfl, by repeat (first | (with_reducible exact below_drewN (by first | exact alloc_b | exact below_drewN alloc_b _ | exact below_drew alloc_b) _) | (with_reducible exact alloc_b) | (with_reducible exact below_drew alloc_b) | (with_reducible exact Below.refl _ _))⟩
    subst zm
    rw [gc_yes (by unfold gcP; omega)]
    go_enter Try.func16, Try.ntmps16
    go_wp2_with (first | (go_at_call 37; refine (HT.out _).mono ?_; rintro e w2 ⟨rfl, hw⟩; subst w2) | (go_at_call 38; refine (HU.out _).mono ?_; rintro e w3 ⟨rfl, hw⟩; subst w3))
    go_ret
    exact ⟨rfl, by repeat (first | (with_reducible exact below_drewN (by first | exact alloc_b | exact below_drewN alloc_b _ | exact below_drew alloc_b) _) | (with_reducible exact alloc_b) | (with_reducible exact below_drew alloc_b) | (with_reducible exact Below.refl _ _))⟩
  clear HU0 HT
  have n4 : ¬ k = 4 := by omega
  by_cases k5 : k = 5 ∨ k = 6
  · by_cases m0 : 0 ≤ m
    case neg =>
      rcases k5 with rfl | rfl
      · rw [gc_no (by unfold gcP; omega)]
        go_enter Try.func16, Try.ntmps16
        go_wp2
        go_ret
        exact ⟨rfl, by repeat (first | (with_reducible exact below_drewN (by first | exact alloc_b | exact below_drewN alloc_b _ | exact below_drew alloc_b) _) | (with_reducible exact alloc_b) | (with_reducible exact below_drew alloc_b) | (with_reducible exact Below.refl _ _))⟩
      · rw [gc_no (by unfold gcP; omega)]
        go_enter Try.func16, Try.ntmps16
        go_wp2
        go_ret
        exact ⟨rfl, by repeat (first | (with_reducible exact below_drewN (by first | exact alloc_b | exact below_drewN alloc_b _ | exact below_drew alloc_b) _) | (with_reducible exact alloc_b) | (with_reducible exact below_drew alloc_b) | (with_reducible exact Below.refl _ _))⟩
    by_cases m1 : m < 32
    case neg =>
      rcases k5 with rfl | rfl
      · rw [gc_no (by unfold gcP; omega)]
        go_enter Try.func16, Try.ntmps16
        go_wp2
        go_ret
        exact ⟨rfl, by repeat (first | (with_reducible exact below_drewN (by first | exact alloc_b | exact below_drewN alloc_b _ | exact below_drew alloc_b) _) | (with_reducible exact alloc_b) | (with_reducible exact below_drew alloc_b) | (with_reducible exact Below.refl _ _))⟩
      · rw [gc_no (by unfold gcP; omega)]
        go_enter Try.func16, Try.ntmps16
        go_wp2
        go_ret
        exact ⟨rfl, by repeat (first | (with_reducible exact below_drewN (by first | exact alloc_b | exact below_drewN alloc_b _ | exact below_drew alloc_b) _) | (with_reducible exact alloc_b) | (with_reducible exact below_drew alloc_b) | (with_reducible exact Below.refl _ _))⟩
    rcases k5 with rfl | rfl
    · by_cases zt : t = 0
      case neg =>
        have zbt : (t == 0) = false := by simpa using zt
        rw [gc_no (by unfold gcP; omega)]
        go_enter Try.func16, Try.ntmps16
        go_wp2
        go_ret
        exact ⟨rfl, by repeat (first | (with_reducible exact below_drewN (by first | exact alloc_b | exact below_drewN alloc_b _ | exact below_drew alloc_b) _) | (with_reducible exact alloc_b) | (with_reducible exact below_drew alloc_b) | (with_reducible exact Below.refl _ _))⟩
      by_cases zf : f = 0
      case neg =>
        have zbf : (f == 0) = false := by simpa using zf
        rw [gc_no (by unfold gcP; omega)]
        go_enter Try.func16, Try.ntmps16
        go_wp2
        go_ret
        exact ⟨rfl, by repeat (first | (with_reducible exact below_drewN (by first | exact alloc_b | exact below_drewN alloc_b _ | exact below_drew alloc_b) _) | (with_reducible exact alloc_b) | (with_reducible exact below_drew alloc_b) | (with_reducible exact Below.refl _ _))⟩
      by_cases zo : o = 0
      case neg =>
        have zbo : (o == 0) = false := by simpa using zo
        rw [gc_no (by unfold gcP; omega)]
        go_enter Try.func16, Try.ntmps16
        go_wp2
        go_ret
        exact ⟨rfl, by repeat (first | (with_reducible exact below_drewN (by first | exact alloc_b | exact below_drewN alloc_b _ | exact below_drew alloc_b) _) | (with_reducible exact alloc_b) | (with_reducible exact below_drew alloc_b) | (with_reducible exact Below.refl _ _))⟩
      subst zt
      subst zf
      subst zo
      rw [gc_yes (by unfold gcP; omega)]
      go_enter Try.func16, Try.ntmps16
      go_wp2
      go_ret
      exact ⟨rfl, by repeat (first | (with_reducible exact below_drewN (by first | exact alloc_b | exact below_drewN alloc_b _ | exact below_drew alloc_b) _) | (with_reducible exact alloc_b) | (with_reducible exact below_drew alloc_b) | (with_reducible exact Below.refl _ _))⟩
    · by_cases zt : t = 0
      case neg =>
        have zbt : (t == 0) = false := by simpa using zt
        rw [gc_no (by unfold gcP; omega)]
        go_enter Try.func16, Try.ntmps16
        go_wp2
        go_ret
        exact ⟨rfl, by repeat (first | (with_reducible exact below_drewN (by first | exact alloc_b | exact below_drewN alloc_b _ | exact below_drew alloc_b) _) | (with_reducible exact alloc_b) | (with_reducible exact below_drew alloc_b) | (with_reducible exact Below.refl _ _))⟩
      by_cases zf : f = 0
      case neg =>
        have zbf : (f == 0) = false := by simpa using zf
        rw [gc_no (by unfold gcP; omega)]
        go_enter Try.func16, Try.ntmps16
        go_wp2
        go_ret
        exact ⟨rfl, by repeat (first | (with_reducible exact below_drewN (by first | exact alloc_b | exact below_drewN alloc_b _ | exact below_drew alloc_b) _) | (with_reducible exact alloc_b) | (with_reducible exact below_drew alloc_b) | (with_reducible exact Below.refl _ _))⟩
      by_cases zo : o = 0
      case neg =>
        have zbo : (o == 0) = false := by simpa using zo
        rw [gc_no (by unfold gcP; omega)]
        go_enter Try.func16, Try.ntmps16
        go_wp2
        go_ret
        exact ⟨rfl, by repeat (first | (with_reducible exact below_drewN (by first | exact alloc_b | exact below_drewN alloc_b _ | exact below_drew alloc_b) _) | (with_reducible exact alloc_b) | (with_reducible exact below_drew alloc_b) | (with_reducible exact Below.refl _ _))⟩
      subst zt
      subst zf
      subst zo
      rw [gc_yes (by unfold gcP; omega)]
      go_enter Try.func16, Try.ntmps16
      go_wp2
      go_ret
      exact ⟨rfl, by repeat (first | (with_reducible exact below_drewN (by first | exact alloc_b | exact below_drewN alloc_b _ | exact below_drew alloc_b) _) | (with_reducible exact alloc_b) | (with_reducible exact below_drew alloc_b) | (with_reducible exact Below.refl _ _))⟩
  have n5 : ¬ k = 5 := by omega
  have n6 : ¬ k = 6 := by omega
  rw [gc_no (by unfold gcP; omega)]
  go_enter Try.func16, Try.ntmps16
  go_wp2
  go_ret
  exact ⟨rfl, by repeat (first | (with_reducible exact below_drewN (by first | exact alloc_b | exact below_drewN alloc_b _ | exact below_drew alloc_b) _) | (with_reducible exact alloc_b) | (with_reducible exact below_drew alloc_b) | (with_reducible exact Below.refl _ _))⟩
end Go.Proofs.Ytnbpncjbfnhkjaa
