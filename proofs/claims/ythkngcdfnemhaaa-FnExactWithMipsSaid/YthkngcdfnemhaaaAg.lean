/- Sides of textures: good ones, how many levels, the sides of each level, of both sides. -/
import Derived.Test.YthkngcdfnemhaaaAf
import Derived.Lib.OwnKind
import Derived.Laws.OwnMore
namespace Go.Proofs.Ythkngcdfnemhaaa
open Go.ChangeShapes Go.WideShapes Go.ChangeAt Go.RowKit
set_option linter.unusedVariables false
def pw2 (n : Int) : Bool := bits .and .i64 n (n - 1) == 0
/-- A power of two from lo to hi. -/
def pwB (n lo hi : Int) : Bool := decide (lo ≤ n) && decide (n ≤ hi) && pw2 n
theorem pwB_iff {n lo hi : Int} (h : pwB n lo hi = true) : lo ≤ n ∧ n ≤ hi := by
  unfold pwB at h
  simp only [Bool.and_eq_true, decide_eq_true_eq] at h
  exact h.1
theorem mpower (n lo hi : Int) (w : World) (h1 : 1 ≤ lo) (h2 : hi ≤ 256) : Calls Try.prog 73 #[.int .i64 n, .int .i64 lo, .int .i64 hi] w fun e w' => e = .returned (.bool (pwB n lo hi)) ∧ w' = w := by
  unfold pwB
  by_cases c1 : lo ≤ n
  case neg =>
    have l1 : n < lo := by omega
    rw [decide_eq_false c1]
    clear c1
    go_enter Try.func73, Try.ntmps73
    go_wp2
    go_ret
    exact ⟨rfl, rfl⟩
  by_cases c2 : n ≤ hi
  case neg =>
    have l2 : hi < n := by omega
    rw [decide_eq_true c1, decide_eq_false c2]
    clear c2
    go_enter Try.func73, Try.ntmps73
    go_wp2
    go_ret
    exact ⟨rfl, rfl⟩
  rw [decide_eq_true c1, decide_eq_true c2]
  have e : 1 ≤ n := by omega
  have e2 : n ≤ 256 := by omega
  unfold pw2
  go_enter Try.func73, Try.ntmps73
  go_wp2
  go_ret
  exact ⟨rfl, rfl⟩
theorem ppower (n lo hi : Int) (w : World) (h1 : 1 ≤ lo) (h2 : hi ≤ 256) : Calls Try.prog 75 #[.int .i64 n, .int .i64 lo, .int .i64 hi] w fun e w' => e = .returned (.bool (pwB n lo hi)) ∧ w' = w := by
  unfold pwB
  by_cases c1 : lo ≤ n
  case neg =>
    have l1 : n < lo := by omega
    rw [decide_eq_false c1]
    clear c1
    go_enter Try.func75, Try.ntmps75
    go_wp2
    go_ret
    exact ⟨rfl, rfl⟩
  by_cases c2 : n ≤ hi
  case neg =>
    have l2 : hi < n := by omega
    rw [decide_eq_true c1, decide_eq_false c2]
    clear c2
    go_enter Try.func75, Try.ntmps75
    go_wp2
    go_ret
    exact ⟨rfl, rfl⟩
  rw [decide_eq_true c1, decide_eq_true c2]
  have e : 1 ≤ n := by omega
  have e2 : n ≤ 256 := by omega
  unfold pw2
  go_enter Try.func75, Try.ntmps75
  go_wp2
  go_ret
  exact ⟨rfl, rfl⟩
/-- A side that a texture may have. -/
def gS (x : Int) : Prop := x = 1 ∨ x = 2 ∨ x = 4 ∨ x = 8 ∨ x = 16
def gsB (x : Int) : Bool := pwB x 1 16
theorem gsB_iff {x : Int} : gsB x = true ↔ gS x := by
  constructor
  · intro h
    have h2 := pwB_iff h
    have h3 : x = 1 ∨ x = 2 ∨ x = 3 ∨ x = 4 ∨ x = 5 ∨ x = 6 ∨ x = 7 ∨ x = 8 ∨ x = 9 ∨ x = 10 ∨ x = 11 ∨ x = 12 ∨ x = 13 ∨ x = 14 ∨ x = 15 ∨ x = 16 := by omega
    unfold gS
    rcases h3 with rfl | rfl | rfl | rfl | rfl | rfl | rfl | rfl | rfl | rfl | rfl | rfl | rfl | rfl | rfl | rfl <;> revert h <;> decide
  · rintro (rfl | rfl | rfl | rfl | rfl) <;> decide
/-- How often a good side can be halved. -/
def lv (x : Int) : Nat := if x ≤ 1 then 0 else if x ≤ 2 then 1 else if x ≤ 4 then 2 else if x ≤ 8 then 3 else 4
/-- How many levels there are. -/
def lcN (x y : Int) : Nat := max (lv x) (lv y) + 1
/-- How long a side is at level k. -/
def sdI (x : Int) (k : Nat) : Int := max (x / 2 ^ k) 1
theorem lcN_le (x y : Int) : lcN x y ≤ 5 := by
  unfold lcN lv
  repeat' split
  all_goals decide
theorem lcN_pos (x y : Int) : 0 < lcN x y := Nat.succ_pos _
theorem sdI_pos (x : Int) (k : Nat) : 1 ≤ sdI x k := by unfold sdI; omega
theorem sdI_le {x : Int} (h : gS x) (k : Nat) (hk : k < 5) : sdI x k ≤ 16 := by
  have h5 : k = 0 ∨ k = 1 ∨ k = 2 ∨ k = 3 ∨ k = 4 := by omega
  rcases h with rfl | rfl | rfl | rfl | rfl <;> rcases h5 with rfl | rfl | rfl | rfl | rfl <;> decide
theorem sdI_zero {x : Int} (h : gS x) : sdI x 0 = x := by rcases h with rfl | rfl | rfl | rfl | rfl <;> decide
theorem sdI_half {x : Int} (h : gS x) (k : Nat) (hk : k < 5) : (if sdI x k = 1 then 1 else sdI x k / 2) = sdI x (k + 1) := by
  have h5 : k = 0 ∨ k = 1 ∨ k = 2 ∨ k = 3 ∨ k = 4 := by omega
  rcases h with rfl | rfl | rfl | rfl | rfl <;> rcases h5 with rfl | rfl | rfl | rfl | rfl <;> decide
theorem sdI_one {x : Int} (h : gS x) (k : Nat) (hk : k < 5) : 1 < sdI x k ↔ k < lv x := by
  have h5 : k = 0 ∨ k = 1 ∨ k = 2 ∨ k = 3 ∨ k = 4 := by omega
  rcases h with rfl | rfl | rfl | rfl | rfl <;> rcases h5 with rfl | rfl | rfl | rfl | rfl <;> decide
theorem more_iff {x y : Int} (hx : gS x) (hy : gS y) (k : Nat) (hk : k < lcN x y) : (1 < sdI x k ∨ 1 < sdI y k) ↔ k + 1 < lcN x y := by
  have h5 := lcN_le x y
  rw [sdI_one hx k (by omega), sdI_one hy k (by omega)]
  unfold lcN at hk ⊢
  omega
theorem half75 (x : Int) (w : World) (h1 : 1 ≤ x) (h2 : x ≤ 16) : Calls Try.prog 74 #[.int .i64 x] w fun e w' => e = .returned (.int .i64 (if x = 1 then 1 else x / 2)) ∧ w' = w := by
  by_cases h : x = 1
  · subst h
    go_enter Try.func74, Try.ntmps74
    go_wp2
    go_ret
    exact ⟨rfl, rfl⟩
  · rw [if_neg h]
    go_enter Try.func74, Try.ntmps74
    go_wp2
    go_ret
    exact ⟨rfl, rfl⟩
theorem side48 (x : Int) (w : World) : Calls Try.prog 48 #[.int .i64 x] w fun e w' => e = .returned (.bool (gsB x)) ∧ w' = w := by
  have HP : Hid (∀ w : World, Calls Try.prog 73 #[.int .i64 x, .int .i64 1, .int .i64 16] w fun e w' => e = .returned (.bool (gsB x)) ∧ w' = w) := fun w => mpower x 1 16 w (by decide) (by decide)
  go_enter Try.func48, Try.ntmps48
  go_wp2_with (go_at_call 73; refine (HP.out _).mono ?_; rintro e w2 ⟨rfl, hw⟩; subst w2)
  go_ret
  exact ⟨rfl, rfl⟩
theorem sides51 (x y : Int) (w : World) : Calls Try.prog 51 #[.int .i64 x, .int .i64 y] w fun e w' => e = .returned (.bool (gsB x && gsB y)) ∧ w' = w := by
  have HP : Hid (∀ (z : Int) (w : World), Calls Try.prog 75 #[.int .i64 z, .int .i64 1, .int .i64 16] w fun e w' => e = .returned (.bool (gsB z)) ∧ w' = w) := fun z w => ppower z 1 16 w (by decide) (by decide)
  cases hx : gsB x
  · have HX := Hid.mk hx
    clear hx
    go_enter Try.func51, Try.ntmps51
    go_wp2_with (go_at_call 75; refine (HP.out _ _).mono ?_; rintro e w2 ⟨rfl, hw⟩; subst w2; rw [HX.out])
    go_ret
    exact ⟨rfl, rfl⟩
  · have HX := Hid.mk hx
    clear hx
    go_enter Try.func51, Try.ntmps51
    go_wp2_with (go_at_call 75; refine (HP.out _ _).mono ?_; rintro e w2 ⟨rfl, hw⟩; subst w2; first | rw [HX.out] | skip)
    go_ret
    exact ⟨rfl, rfl⟩
set_option maxHeartbeats 2000000 in
theorem sideat53 (x : Int) (k : Nat) (w : World) (hx : gS x) (hk : k < 5) : Calls Try.prog 53 #[.int .i64 x, .int .i64 k] w fun e w' => e = .returned (.int .i64 (sdI x k)) ∧ w' = w := by
  have h5 : k = 0 ∨ k = 1 ∨ k = 2 ∨ k = 3 ∨ k = 4 := by omega
  clear hk
  rcases hx with rfl | rfl | rfl | rfl | rfl <;> rcases h5 with rfl | rfl | rfl | rfl | rfl
  all_goals
    go_enter Try.func53, Try.ntmps53
    go_wp2
    go_ret
    exact ⟨by rfl, rfl⟩
set_option maxHeartbeats 2000000 in
theorem len86 (x : Int) (w : World) (hx : gS x) : Calls Try.prog 86 #[.int .u64 x] w fun e w' => e = .returned (.int .i64 (lv x + 1 : Nat)) ∧ w' = w := by
  have h1 : Lib.len8 1 = 1 := by decide +kernel
  have h2 : Lib.len8 2 = 2 := by decide +kernel
  have h4 : Lib.len8 4 = 3 := by decide +kernel
  have h8 : Lib.len8 8 = 4 := by decide +kernel
  have h16 : Lib.len8 16 = 5 := by decide +kernel
  rcases hx with rfl | rfl | rfl | rfl | rfl
  all_goals
    go_enter Try.func86, Try.ntmps86
    go_wp2
    go_ret
    exact ⟨by rfl, rfl⟩
theorem len77 (x : Int) (w : World) (hx : gS x) : Calls Try.prog 76 #[.int .u64 x] w fun e w' => e = .returned (.int .i64 (lv x + 1 : Nat)) ∧ w' = w := by
  have HL : Hid (∀ w : World, Calls Try.prog 86 #[.int .u64 x] w fun e w' => e = .returned (.int .i64 (lv x + 1 : Nat)) ∧ w' = w) := fun w => len86 x w hx
  have h1 : 1 ≤ x ∧ x ≤ 16 := by rcases hx with rfl | rfl | rfl | rfl | rfl <;> decide
  obtain ⟨h1, h2⟩ := h1
  generalize lv x + 1 = m at HL ⊢
  go_enter Try.func76, Try.ntmps76
  go_wp2_with (go_at_call 86; refine (HL.out _).mono ?_; rintro e w2 ⟨rfl, hw⟩; subst w2)
  go_ret
  exact ⟨rfl, rfl⟩
theorem count52 (x y : Int) (w : World) (hx : gS x) (hy : gS y) : Calls Try.prog 52 #[.int .i64 x, .int .i64 y] w fun e w' => e = .returned (.int .i64 (lcN x y : Nat)) ∧ w' = w := by
  have hm : gS (max x y) ∧ lcN x y = lv (max x y) + 1 := by rcases hx with rfl | rfl | rfl | rfl | rfl <;> rcases hy with rfl | rfl | rfl | rfl | rfl <;> exact ⟨by unfold gS; decide, by decide⟩
  obtain ⟨hm1, hm2⟩ := hm
  rw [hm2]
  have HL : Hid (∀ w : World, Calls Try.prog 76 #[.int .u64 (max x y)] w fun e w' => e = .returned (.int .i64 (lv (max x y) + 1 : Nat)) ∧ w' = w) := fun w => len77 _ w hm1
  have h1 : 1 ≤ max x y ∧ max x y ≤ 16 := by rcases hm1 with h | h | h | h | h <;> omega
  obtain ⟨h1, h2⟩ := h1
  clear hm1 hm2
  obtain ⟨z, hz⟩ : ∃ z, max x y = z := ⟨_, rfl⟩
  rw [hz] at HL h1 h2 ⊢
  have hz' : (if x < y then y else x) = z := by rw [← hz]; split <;> omega
  generalize lv z + 1 = m at HL ⊢
  go_enter Try.func52, Try.ntmps52
  go_wp2_with (go_at_call 76; refine (HL.out _).mono ?_; rintro e w2 ⟨rfl, hw⟩; subst w2)
  go_ret
  exact ⟨rfl, rfl⟩
end Go.Proofs.Ythkngcdfnemhaaa
