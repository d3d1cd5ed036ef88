/- Good commands; GoodCommand of both sides. -/
import Derived.Test.YtnbpncjbfnhkjaaVa
namespace Go.Proofs.Ytnbpncjbfnhkjaa
open Go.ChangeShapes Go.WideShapes Go.ChangeAt Go.RowKit
set_option linter.unusedVariables false
/-- What makes a command good. -/
def gcP (k t f o m : Int) : Prop := (1 ≤ k ∧ k ≤ 6) ∧ ((5 ≤ k ∧ t = 0 ∧ f = 0 ∧ o = 0 ∧ 0 ≤ m ∧ m ≤ 31) ∨ (k ≤ 4 ∧ 0 ≤ t ∧ t < 8 ∧ m = 0 ∧ ((k = 4 ∧ 0 ≤ f ∧ f ≤ 3 ∧ 0 < o ∧ o ≤ 3 ∧ f ≠ o) ∨ (k ≠ 4 ∧ f = 0 ∧ o = 0))))
instance (k t f o m : Int) : Decidable (gcP k t f o m) := by unfold gcP; infer_instance
def gcB (k t f o m : Int) : Bool := decide (gcP k t f o m)
theorem gc_iff {k t f o m : Int} : gcB k t f o m = true ↔ gcP k t f o m := by unfold gcB; rw [decide_eq_true_eq]
theorem gc_no {k t f o m : Int} (h : ¬ gcP k t f o m) : gcB k t f o m = false := by unfold gcB; exact decide_eq_false h
theorem gc_yes {k t f o m : Int} (h : gcP k t f o m) : gcB k t f o m = true := gc_iff.2 h
set_option maxHeartbeats 2000000 in
theorem pthing (t : Int) (w : World) : Calls Try.prog 37 #[.int .i64 t] w fun e w' => e = .returned (.bool (decide (0 ≤ t) && decide (t < 8))) ∧ w' = w := by
  by_cases h0 : 0 ≤ t
  · by_cases h1 : t < 8
    · rw [decide_eq_true h0, decide_eq_true h1]
      go_enter Try.func37, Try.ntmps37
      go_wp2
      go_ret
      exact ⟨rfl, rfl⟩
    · rw [decide_eq_true h0, decide_eq_false h1]
      go_enter Try.func37, Try.ntmps37
      go_wp2
      go_ret
      exact ⟨rfl, rfl⟩
  · rw [decide_eq_false h0]
    go_enter Try.func37, Try.ntmps37
    go_wp2
    go_ret
    exact ⟨rfl, rfl⟩
set_option maxHeartbeats 2000000 in
theorem pturn (f o : Int) (w : World) : Calls Try.prog 38 #[.int .i64 f, .int .i64 o] w fun e w' => e = .returned (.bool (decide (f ≠ o ∧ 0 ≤ f ∧ f ≤ 3 ∧ 0 < o ∧ o ≤ 3))) ∧ w' = w := by
  by_cases h0 : f ≠ o
  case neg =>
    have n0 : f = o := by omega
    have hq : decide (f ≠ o ∧ 0 ≤ f ∧ f ≤ 3 ∧ 0 < o ∧ o ≤ 3) = false := by apply decide_eq_false; omega
    rw [hq]
    skip
    go_enter Try.func38, Try.ntmps38
    go_wp2
    go_ret
    exact ⟨rfl, rfl⟩
  by_cases h1 : 0 ≤ f
  case neg =>
    have n1 : f < 0 := by omega
    have hq : decide (f ≠ o ∧ 0 ≤ f ∧ f ≤ 3 ∧ 0 < o ∧ o ≤ 3) = false := by apply decide_eq_false; omega
    rw [hq]
    have hb : (f != o) = true := by simpa using h0
    go_enter Try.func38, Try.ntmps38
    go_wp2
    go_ret
    exact ⟨rfl, rfl⟩
  by_cases h2 : f ≤ 3
  case neg =>
    have n2 : 3 < f := by omega
    have hq : decide (f ≠ o ∧ 0 ≤ f ∧ f ≤ 3 ∧ 0 < o ∧ o ≤ 3) = false := by apply decide_eq_false; omega
    rw [hq]
    have hb : (f != o) = true := by simpa using h0
    go_enter Try.func38, Try.ntmps38
    go_wp2
    go_ret
    exact ⟨rfl, rfl⟩
  by_cases h3 : 0 < o
  case neg =>
    have n3 : o ≤ 0 := by omega
    have hq : decide (f ≠ o ∧ 0 ≤ f ∧ f ≤ 3 ∧ 0 < o ∧ o ≤ 3) = false := by apply decide_eq_false; omega
    rw [hq]
    have hb : (f != o) = true := by simpa using h0
    go_enter Try.func38, Try.ntmps38
    go_wp2
    go_ret
    exact ⟨rfl, rfl⟩
  by_cases h4 : o ≤ 3
  case neg =>
    have n4 : 3 < o := by omega
    have hq : decide (f ≠ o ∧ 0 ≤ f ∧ f ≤ 3 ∧ 0 < o ∧ o ≤ 3) = false := by apply decide_eq_false; omega
    rw [hq]
    have hb : (f != o) = true := by simpa using h0
    go_enter Try.func38, Try.ntmps38
    go_wp2
    go_ret
    exact ⟨rfl, rfl⟩
  have hq : decide (f ≠ o ∧ 0 ≤ f ∧ f ≤ 3 ∧ 0 < o ∧ o ≤ 3) = true := by exact decide_eq_true ⟨h0, h1, h2, h3, h4⟩
  rw [hq]
  have hb : (f != o) = true := by simpa using h0
  go_enter Try.func38, Try.ntmps38
  go_wp2
  go_ret
  exact ⟨rfl, rfl⟩
set_option maxRecDepth 100000 in
set_option maxHeartbeats 8000000 in
theorem mgc (k t f o m : Int) (w : World) : Calls Try.prog 14 #[.agg #[.int .i64 k, .int .i64 t, .int .i64 f, .int .i64 o, .int .i64 m]] w fun e w' => e = .returned (.bool (gcB k t f o m)) ∧ Below w.heap.size w w' := by
  by_cases k0 : k < 1
  case pos =>
    rw [gc_no (by unfold gcP; omega)]
    go_enter Try.func14, Try.ntmps14
    go_wp2
    all_goals (try (go_quiet (fail)))
    all_goals (try go_wp2)
    all_goals (try (go_quiet (fail)))
    all_goals (try go_wp2)
    go_ret
    exact ⟨rfl, by repeat (first | (with_reducible exact below_drewN (by first | exact alloc_b | exact below_drewN alloc_b _ | exact below_drew alloc_b) _) | (with_reducible exact alloc_b) | (with_reducible exact below_drew alloc_b) | (with_reducible exact Below.refl _ _))⟩
  by_cases k1 : 6 < k
  case pos =>
    rw [gc_no (by unfold gcP; omega)]
    go_enter Try.func14, Try.ntmps14
    go_wp2
    all_goals (try (go_quiet (fail)))
    all_goals (try go_wp2)
    all_goals (try (go_quiet (fail)))
    all_goals (try go_wp2)
    go_ret
    exact ⟨rfl, by repeat (first | (with_reducible exact below_drewN (by first | exact alloc_b | exact below_drewN alloc_b _ | exact below_drew alloc_b) _) | (with_reducible exact alloc_b) | (with_reducible exact below_drew alloc_b) | (with_reducible exact Below.refl _ _))⟩
  by_cases k2 : 5 ≤ k
  case pos =>
    by_cases a0 : t = 0
    case neg =>
      have an0 : ¬ t = 0 := by omega
      have ab0 : (t == 0) = false := by simpa using a0
      rw [gc_no (by unfold gcP; omega)]
      go_enter Try.func14, Try.ntmps14
      go_wp2
      all_goals (try (go_quiet (fail)))
      all_goals (try go_wp2)
      all_goals (try (go_quiet (fail)))
      all_goals (try go_wp2)
      go_ret
      exact ⟨rfl, by repeat (first | (with_reducible exact below_drewN (by first | exact alloc_b | exact below_drewN alloc_b _ | exact below_drew alloc_b) _) | (with_reducible exact alloc_b) | (with_reducible exact below_drew alloc_b) | (with_reducible exact Below.refl _ _))⟩
    by_cases a1 : f = 0
    case neg =>
      have an1 : ¬ f = 0 := by omega
      have ab1 : (f == 0) = false := by simpa using a1
      rw [gc_no (by unfold gcP; omega)]
      go_enter Try.func14, Try.ntmps14
      go_wp2
      all_goals (try (go_quiet (fail)))
      all_goals (try go_wp2)
      all_goals (try (go_quiet (fail)))
      all_goals (try go_wp2)
      go_ret
      exact ⟨rfl, by repeat (first | (with_reducible exact below_drewN (by first | exact alloc_b | exact below_drewN alloc_b _ | exact below_drew alloc_b) _) | (with_reducible exact alloc_b) | (with_reducible exact below_drew alloc_b) | (with_reducible exact Below.refl _ _))⟩
    by_cases a2 : o = 0
    case neg =>
      have an2 : ¬ o = 0 := by omega
      have ab2 : (o == 0) = false := by simpa using a2
      rw [gc_no (by unfold gcP; omega)]
      go_enter Try.func14, Try.ntmps14
      go_wp2
      all_goals (try (go_quiet (fail)))
      all_goals (try go_wp2)
      all_goals (try (go_quiet (fail)))
      all_goals (try go_wp2)
      go_ret
      exact ⟨rfl, by repeat (first | (with_reducible exact below_drewN (by first | exact alloc_b | exact below_drewN alloc_b _ | exact below_drew alloc_b) _) | (with_reducible exact alloc_b) | (with_reducible exact below_drew alloc_b) | (with_reducible exact Below.refl _ _))⟩
    by_cases a3 : 0 ≤ m
    case neg =>
      have an3 : m < 0 := by omega
      rw [gc_no (by unfold gcP; omega)]
      go_enter Try.func14, Try.ntmps14
      go_wp2
      all_goals (try (go_quiet (fail)))
      all_goals (try go_wp2)
      all_goals (try (go_quiet (fail)))
      all_goals (try go_wp2)
      go_ret
      exact ⟨rfl, by repeat (first | (with_reducible exact below_drewN (by first | exact alloc_b | exact below_drewN alloc_b _ | exact below_drew alloc_b) _) | (with_reducible exact alloc_b) | (with_reducible exact below_drew alloc_b) | (with_reducible exact Below.refl _ _))⟩
    by_cases a4 : m ≤ 31
    case neg =>
      have an4 : 31 < m := by omega
      rw [gc_no (by unfold gcP; omega)]
      go_enter Try.func14, Try.ntmps14
      go_wp2
      all_goals (try (go_quiet (fail)))
      all_goals (try go_wp2)
      all_goals (try (go_quiet (fail)))
      all_goals (try go_wp2)
      go_ret
      exact ⟨rfl, by repeat (first | (with_reducible exact below_drewN (by first | exact alloc_b | exact below_drewN alloc_b _ | exact below_drew alloc_b) _) | (with_reducible exact alloc_b) | (with_reducible exact below_drew alloc_b) | (with_reducible exact Below.refl _ _))⟩
    rw [gc_yes (by unfold gcP; omega)]
    go_enter Try.func14, Try.ntmps14
    go_wp2
    all_goals (try (go_quiet (fail)))
    all_goals (try go_wp2)
    all_goals (try (go_quiet (fail)))
    all_goals (try go_wp2)
    go_ret
    exact ⟨rfl, by repeat (first | (with_reducible exact below_drewN (by first | exact alloc_b | exact below_drewN alloc_b _ | exact below_drew alloc_b) _) | (with_reducible exact alloc_b) | (with_reducible exact below_drew alloc_b) | (with_reducible exact Below.refl _ _))⟩
  by_cases b0 : t < 0
  case pos =>
    rw [gc_no (by unfold gcP; omega)]
    go_enter Try.func14, Try.ntmps14
    go_wp2
    all_goals (try (go_quiet (fail)))
    all_goals (try go_wp2)
    all_goals (try (go_quiet (fail)))
    all_goals (try go_wp2)
    go_ret
    exact ⟨rfl, by repeat (first | (with_reducible exact below_drewN (by first | exact alloc_b | exact below_drewN alloc_b _ | exact below_drew alloc_b) _) | (with_reducible exact alloc_b) | (with_reducible exact below_drew alloc_b) | (with_reducible exact Below.refl _ _))⟩
  by_cases b1 : 8 ≤ t
  case pos =>
    rw [gc_no (by unfold gcP; omega)]
    go_enter Try.func14, Try.ntmps14
    go_wp2
    all_goals (try (go_quiet (fail)))
    all_goals (try go_wp2)
    all_goals (try (go_quiet (fail)))
    all_goals (try go_wp2)
    go_ret
    exact ⟨rfl, by repeat (first | (with_reducible exact below_drewN (by first | exact alloc_b | exact below_drewN alloc_b _ | exact below_drew alloc_b) _) | (with_reducible exact alloc_b) | (with_reducible exact below_drew alloc_b) | (with_reducible exact Below.refl _ _))⟩
  by_cases b2 : m = 0
  case neg =>
    rw [gc_no (by unfold gcP; omega)]
    go_enter Try.func14, Try.ntmps14
    go_wp2
    all_goals (try (go_quiet (fail)))
    all_goals (try go_wp2)
    all_goals (try (go_quiet (fail)))
    all_goals (try go_wp2)
    go_ret
    exact ⟨rfl, by repeat (first | (with_reducible exact below_drewN (by first | exact alloc_b | exact below_drewN alloc_b _ | exact below_drew alloc_b) _) | (with_reducible exact alloc_b) | (with_reducible exact below_drew alloc_b) | (with_reducible exact Below.refl _ _))⟩
  by_cases k3 : k = 4
  case pos =>
    by_cases c0 : 0 ≤ f
    case neg =>
      have cn0 : f < 0 := by omega
      rw [gc_no (by unfold gcP; omega)]
      go_enter Try.func14, Try.ntmps14
      go_wp2
      all_goals (try (go_quiet (fail)))
      all_goals (try go_wp2)
      all_goals (try (go_quiet (fail)))
      all_goals (try go_wp2)
      go_ret
      exact ⟨rfl, by repeat (first | (with_reducible exact below_drewN (by first | exact alloc_b | exact below_drewN alloc_b _ | exact below_drew alloc_b) _) | (with_reducible exact alloc_b) | (with_reducible exact below_drew alloc_b) | (with_reducible exact Below.refl _ _))⟩
    by_cases c1 : f ≤ 3
    case neg =>
      have cn1 : 3 < f := by omega
      rw [gc_no (by unfold gcP; omega)]
      go_enter Try.func14, Try.ntmps14
      go_wp2
      all_goals (try (go_quiet (fail)))
      all_goals (try go_wp2)
      all_goals (try (go_quiet (fail)))
      all_goals (try go_wp2)
      go_ret
      exact ⟨rfl, by repeat (first | (with_reducible exact below_drewN (by first | exact alloc_b | exact below_drewN alloc_b _ | exact below_drew alloc_b) _) | (with_reducible exact alloc_b) | (with_reducible exact below_drew alloc_b) | (with_reducible exact Below.refl _ _))⟩
    by_cases c2 : 0 < o
    case neg =>
      have cn2 : o ≤ 0 := by omega
      rw [gc_no (by unfold gcP; omega)]
      go_enter Try.func14, Try.ntmps14
      go_wp2
      all_goals (try (go_quiet (fail)))
      all_goals (try go_wp2)
      all_goals (try (go_quiet (fail)))
      all_goals (try go_wp2)
      go_ret
      exact ⟨rfl, by repeat (first | (with_reducible exact below_drewN (by first | exact alloc_b | exact below_drewN alloc_b _ | exact below_drew alloc_b) _) | (with_reducible exact alloc_b) | (with_reducible exact below_drew alloc_b) | (with_reducible exact Below.refl _ _))⟩
    by_cases c3 : o ≤ 3
    case neg =>
      have cn3 : 3 < o := by omega
      rw [gc_no (by unfold gcP; omega)]
      go_enter Try.func14, Try.ntmps14
      go_wp2
      all_goals (try (go_quiet (fail)))
      all_goals (try go_wp2)
      all_goals (try (go_quiet (fail)))
      all_goals (try go_wp2)
      go_ret
      exact ⟨rfl, by repeat (first | (with_reducible exact below_drewN (by first | exact alloc_b | exact below_drewN alloc_b _ | exact below_drew alloc_b) _) | (with_reducible exact alloc_b) | (with_reducible exact below_drew alloc_b) | (with_reducible exact Below.refl _ _))⟩
    by_cases c4 : f ≠ o
    case neg =>
      have cn4 : f = o := by omega
      rw [gc_no (by unfold gcP; omega)]
      go_enter Try.func14, Try.ntmps14
      go_wp2
      all_goals (try (go_quiet (fail)))
      all_goals (try go_wp2)
      all_goals (try (go_quiet (fail)))
      all_goals (try go_wp2)
      go_ret
      exact ⟨rfl, by repeat (first | (with_reducible exact below_drewN (by first | exact alloc_b | exact below_drewN alloc_b _ | exact below_drew alloc_b) _) | (with_reducible exact alloc_b) | (with_reducible exact below_drew alloc_b) | (with_reducible exact Below.refl _ _))⟩
    have cb4 : (f != o) = true := by simpa using c4
    rw [gc_yes (by unfold gcP; omega)]
    go_enter Try.func14, Try.ntmps14
    go_wp2
    all_goals (try (go_quiet (fail)))
    all_goals (try go_wp2)
    all_goals (try (go_quiet (fail)))
    all_goals (try go_wp2)
    go_ret
    exact ⟨rfl, by repeat (first | (with_reducible exact below_drewN (by first | exact alloc_b | exact below_drewN alloc_b _ | exact below_drew alloc_b) _) | (with_reducible exact alloc_b) | (with_reducible exact below_drew alloc_b) | (with_reducible exact Below.refl _ _))⟩
  by_cases d0 : f = 0
  case neg =>
    have dn0 : ¬ f = 0 := by omega
    have db0 : (f == 0) = false := by simpa using d0
    rw [gc_no (by unfold gcP; omega)]
    go_enter Try.func14, Try.ntmps14
    go_wp2
    all_goals (try (go_quiet (fail)))
    all_goals (try go_wp2)
    all_goals (try (go_quiet (fail)))
    all_goals (try go_wp2)
    go_ret
    exact ⟨rfl, by repeat (first | (with_reducible exact below_drewN (by first | exact alloc_b | exact below_drewN alloc_b _ | exact below_drew alloc_b) _) | (with_reducible exact alloc_b) | (with_reducible exact below_drew alloc_b) | (with_reducible exact Below.refl _ _))⟩
  by_cases d1 : o = 0
  case neg =>
    have dn1 : ¬ o = 0 := by omega
    have db1 : (o == 0) = false := by simpa using d1
    rw [gc_no (by unfold gcP; omega)]
    go_enter Try.func14, Try.ntmps14
    go_wp2
    all_goals (try (go_quiet (fail)))
    all_goals (try go_wp2)
    all_goals (try (go_quiet (fail)))
    all_goals (try go_wp2)
    go_ret
    exact ⟨rfl, by repeat (first | (with_reducible exact below_drewN (by first | exact alloc_b | exact below_drewN alloc_b _ | exact below_drew alloc_b) _) | (with_reducible exact alloc_b) | (with_reducible exact below_drew alloc_b) | (with_reducible exact Below.refl _ _))⟩
  rw [gc_yes (by unfold gcP; omega)]
  go_enter Try.func14, Try.ntmps14
  go_wp2
  all_goals (try (go_quiet (fail)))
  all_goals (try go_wp2)
  all_goals (try (go_quiet (fail)))
  all_goals (try go_wp2)
  go_ret
  exact ⟨rfl, by repeat (first | (with_reducible exact below_drewN (by first | exact alloc_b | exact below_drewN alloc_b _ | exact below_drew alloc_b) _) | (with_reducible exact alloc_b) | (with_reducible exact below_drew alloc_b) | (with_reducible exact Below.refl _ _))⟩
end Go.Proofs.Ytnbpncjbfnhkjaa
