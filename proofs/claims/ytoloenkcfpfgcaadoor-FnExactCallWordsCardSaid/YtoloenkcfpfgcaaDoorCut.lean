/- Contracts of cutBits at every shift: what is kept and how what is cut off lies; conditions: a size below 2^64, a shift not below -64. -/
import Derived.Test.YtoloenkcfpfgcaaDoorImpl
import Derived.Deep.QuietTactic
import Derived.BigQuiet
import Derived.WalkSmall
namespace Go.Proofs.YtoloenkcfpfgcaaDoor
open Go.ChangeShapes Go.WideShapes Go.ChangeAt Go.RowKit
/-- How what is cut off lies to the middle: 0 nothing, 1 below, 2 there, 3 above. -/
def cutI (r M : Int) (m : Bool) : Int := if r = 0 ∧ m = false then 0 else if r < M then 1 else if r = M ∧ m = false then 2 else 3

theorem cutBits_up (n : Bool) (z p s : Int) (m : Bool) (hs : s ≤ 0) (hs' : -64 ≤ s) (w : World) :
    Calls Tryd.prog 75 #[.agg #[.bool n, .int .u64 z, .int .i64 p, .bool m], .int .i64 s] w fun e w' =>
      e = .returned (.tuple #[.int .u64 (z * 2 ^ (-s).toNat % 18446744073709551616), .int .i64 0]) ∧ Below w.heap.size w w' := by
  have hw : IntKind.u64.wrap (z * 2 ^ (-s).toNat) = z * 2 ^ (-s).toNat % 18446744073709551616 := IntKind.wrap_u64 _
  go_enter Tryd.func75, Tryd.ntmps75
  go_wp2
  go_ret2
  exact ⟨by first | rfl | simp [hw], by repeat (first | exact Below.refl _ _ | apply Below.drew | apply below_drewN | (refine Below.setCell ?_ (by simp) _) | (refine Below.alloc ?_ (by simp) _))⟩

set_option maxHeartbeats 1000000 in
theorem cut_core (n : Bool) (z p s : Int) (m : Bool) (h1 : z < 18446744073709551616) (hs : 0 < s) (hs' : s ≤ 64) (w : World)
    (P q t r M c : Int) (hP : (2 : Int) ^ s.toNat = P) (hq : z / P = q) (ht : q * P = t) (hr : z - t = r) (hM : (2 : Int) ^ (s.toNat - 1) = M)
    (b0 : 0 ≤ q) (b1 : q ≤ z) (b2 : 0 ≤ t) (b3 : t ≤ z) (b6 : 0 < M) (b7 : M ≤ 9223372036854775808) (hc : c = cutI r M m) :
    Calls Tryd.prog 75 #[.agg #[.bool n, .int .u64 z, .int .i64 p, .bool m], .int .i64 s] w fun e w' =>
      e = .returned (.tuple #[.int .u64 q, .int .i64 c]) ∧ Below w.heap.size w w' := by
  have h64 : ¬ 64 < s := by omega
  unfold cutI at hc
  by_cases k0 : r = 0
  · cases m
    · rw [if_pos ⟨k0, rfl⟩] at hc; subst hc
      go_enter Tryd.func75, Tryd.ntmps75
      go_wp2
      go_quiet (fail)
      go_wp2
      go_ret2
      exact ⟨by first | rfl | simp, by repeat (first | exact Below.refl _ _ | apply Below.drew | apply below_drewN | (refine Below.setCell ?_ (by simp) _) | (refine Below.alloc ?_ (by simp) _))⟩
    · rw [if_neg (by simp), if_pos (by omega)] at hc; subst hc
      have k1 : r < M := by omega
      go_enter Tryd.func75, Tryd.ntmps75
      go_wp2
      go_quiet (fail)
      go_wp2
      go_ret2
      exact ⟨by first | rfl | simp, by repeat (first | exact Below.refl _ _ | apply Below.drew | apply below_drewN | (refine Below.setCell ?_ (by simp) _) | (refine Below.alloc ?_ (by simp) _))⟩
  by_cases k1 : r < M
  · rw [if_neg (by simp [k0]), if_pos k1] at hc; subst hc
    cases m
    all_goals
      go_enter Tryd.func75, Tryd.ntmps75
      go_wp2
      go_quiet (fail)
      go_wp2
      go_ret2
      exact ⟨by first | rfl | simp, by repeat (first | exact Below.refl _ _ | apply Below.drew | apply below_drewN | (refine Below.setCell ?_ (by simp) _) | (refine Below.alloc ?_ (by simp) _))⟩
  by_cases k2 : r = M
  · cases m
    · rw [if_neg (by simp [k0]), if_neg k1, if_pos ⟨k2, rfl⟩] at hc; subst hc
      go_enter Tryd.func75, Tryd.ntmps75
      go_wp2
      go_quiet (fail)
      go_wp2
      go_ret2
      exact ⟨by first | rfl | simp, by repeat (first | exact Below.refl _ _ | apply Below.drew | apply below_drewN | (refine Below.setCell ?_ (by simp) _) | (refine Below.alloc ?_ (by simp) _))⟩
    · rw [if_neg (by simp), if_neg k1, if_neg (by simp)] at hc; subst hc
      go_enter Tryd.func75, Tryd.ntmps75
      go_wp2
      go_quiet (fail)
      go_wp2
      go_ret2
      exact ⟨by first | rfl | simp, by repeat (first | exact Below.refl _ _ | apply Below.drew | apply below_drewN | (refine Below.setCell ?_ (by simp) _) | (refine Below.alloc ?_ (by simp) _))⟩
  · rw [if_neg (by simp [k0]), if_neg k1, if_neg (by simp [k2])] at hc; subst hc
    cases m
    all_goals
      go_enter Tryd.func75, Tryd.ntmps75
      go_wp2
      go_quiet (fail)
      go_wp2
      go_ret2
      exact ⟨by first | rfl | simp, by repeat (first | exact Below.refl _ _ | apply Below.drew | apply below_drewN | (refine Below.setCell ?_ (by simp) _) | (refine Below.alloc ?_ (by simp) _))⟩
theorem shr_far (x s : Int) (h0 : 0 ≤ x) (h1 : x < 18446744073709551616) (hs : 64 < s) : Op.shift .shr .u64 x .i64 s = pure (.int .u64 0) := by
  unfold Op.shift
  rw [if_neg (by omega)]
  show pure (Value.int .u64 (x.fdiv (2 ^ min s.toNat 64))) = _
  rw [Nat.min_eq_right (by omega), Int.fdiv_eq_ediv_of_nonneg _ (by decide), Int.ediv_eq_zero_of_lt h0 (by simpa using h1)]
theorem shl_far (x s : Int) (hs : 64 ≤ s) : Op.shift .shl .u64 x .i64 s = pure (.int .u64 0) := by
  unfold Op.shift
  rw [if_neg (by omega)]
  show pure (Value.int .u64 (IntKind.u64.wrap (x * 2 ^ min s.toNat 64))) = _
  rw [Nat.min_eq_right (by omega), IntKind.wrap_u64]
  rw [show x * 2 ^ 64 % 18446744073709551616 = 0 by omega]
theorem cut_far (n : Bool) (z p s : Int) (m : Bool) (h0 : 0 ≤ z) (h1 : z < 18446744073709551616) (hs : 64 < s) (h5 : s ≤ 9223372036854775807) (w : World) (c : Int) (hc : c = if z = 0 ∧ m = false then 0 else 1) :
    Calls Tryd.prog 75 #[.agg #[.bool n, .int .u64 z, .int .i64 p, .bool m], .int .i64 s] w fun e w' =>
      e = .returned (.tuple #[.int .u64 0, .int .i64 c]) ∧ Below w.heap.size w w' := by
  have f1 := shr_far z s h0 h1 hs
  have f1' := shr_far 0 s (by decide) (by decide) hs
  have f2 := shl_far 0 s (by omega)
  have f3 := shl_far 1 (s - 1) (by omega)
  by_cases k0 : z = 0
  · cases m
    · rw [if_pos ⟨k0, rfl⟩] at hc; subst hc
      go_enter Tryd.func75, Tryd.ntmps75
      go_wp2
      go_quiet (fail)
      go_wp2
      go_ret2
      exact ⟨by first | rfl | simp, by repeat (first | exact Below.refl _ _ | apply Below.drew | apply below_drewN | (refine Below.setCell ?_ (by simp) _) | (refine Below.alloc ?_ (by simp) _))⟩
    · rw [if_neg (by simp)] at hc; subst hc
      go_enter Tryd.func75, Tryd.ntmps75
      go_wp2
      go_quiet (fail)
      go_wp2
      go_ret2
      exact ⟨by first | rfl | simp, by repeat (first | exact Below.refl _ _ | apply Below.drew | apply below_drewN | (refine Below.setCell ?_ (by simp) _) | (refine Below.alloc ?_ (by simp) _))⟩
  · rw [if_neg (by simp [k0])] at hc; subst hc
    cases m
    all_goals
      go_enter Tryd.func75, Tryd.ntmps75
      go_wp2
      go_quiet (fail)
      go_wp2
      go_ret2
      exact ⟨by first | rfl | simp, by repeat (first | exact Below.refl _ _ | apply Below.drew | apply below_drewN | (refine Below.setCell ?_ (by simp) _) | (refine Below.alloc ?_ (by simp) _))⟩

theorem pow_toNat_le {s : Nat} (h : s ≤ 64) (hs : 0 < s) : 0 < (2 : Int) ^ (s - 1) ∧ (2 : Int) ^ (s - 1) ≤ 9223372036854775808 := by
  have a : (2 : Nat) ^ (s - 1) ≤ 2 ^ 63 := Nat.pow_le_pow_right (by decide) (by omega)
  have b : 0 < (2 : Nat) ^ (s - 1) := Nat.two_pow_pos _
  have e : ((2 : Int) ^ (s - 1)) = ((2 ^ (s - 1) : Nat) : Int) := by simp
  rw [e]; omega

theorem cutBits_dn (n : Bool) (z p s : Int) (m : Bool) (h0 : 0 ≤ z) (h1 : z < 18446744073709551616) (hs : 0 < s) (h5 : s ≤ 9223372036854775807) (w : World) :
    Calls Tryd.prog 75 #[.agg #[.bool n, .int .u64 z, .int .i64 p, .bool m], .int .i64 s] w fun e w' =>
      e = .returned (.tuple #[.int .u64 (z / 2 ^ s.toNat), .int .i64 (cutI (z % 2 ^ s.toNat) (2 ^ (s.toNat - 1)) m)]) ∧ Below w.heap.size w w' := by
  have hpos : (0 : Int) < 2 ^ s.toNat := Int.pow_pos (by decide)
  by_cases k : s ≤ 64
  · obtain ⟨b6, b7⟩ := pow_toNat_le (s := s.toNat) (by omega) (by omega)
    have e1 := Int.ediv_mul_add_emod z (2 ^ s.toNat)
    have e2 := Int.emod_nonneg z (Int.ne_of_gt hpos)
    have e3 : 0 ≤ z / 2 ^ s.toNat := Int.ediv_nonneg h0 (Int.le_of_lt hpos)
    have e4 : z / 2 ^ s.toNat ≤ z := Int.ediv_le_self _ h0
    have e5 : 0 ≤ z / 2 ^ s.toNat * 2 ^ s.toNat := Int.mul_nonneg e3 (Int.le_of_lt hpos)
    exact cut_core n z p s m h1 hs k w _ _ _ _ _ _ rfl rfl rfl (by omega) rfl e3 e4 e5 (by omega) b6 b7 rfl
  · have big : (18446744073709551616 : Int) ≤ 2 ^ (s.toNat - 1) := by
      have a : (2 : Nat) ^ 64 ≤ 2 ^ (s.toNat - 1) := Nat.pow_le_pow_right (by decide) (by omega)
      have e : ((2 : Int) ^ (s.toNat - 1)) = ((2 ^ (s.toNat - 1) : Nat) : Int) := by simp
      rw [e]; omega
    have big' : (18446744073709551616 : Int) ≤ 2 ^ s.toNat := by
      have a : (2 : Nat) ^ 64 ≤ 2 ^ s.toNat := Nat.pow_le_pow_right (by decide) (by omega)
      have e : ((2 : Int) ^ s.toNat) = ((2 ^ s.toNat : Nat) : Int) := by simp
      rw [e]; omega
    rw [Int.ediv_eq_zero_of_lt h0 (by omega), Int.emod_eq_of_lt h0 (by omega)]
    refine cut_far n z p s m h0 h1 (by omega) h5 w _ ?_
    unfold cutI
    by_cases k0 : z = 0 ∧ m = false
    · rw [if_pos k0, if_pos k0]
    · rw [if_neg k0, if_neg k0, if_pos (by omega)]
end Go.Proofs.YtoloenkcfpfgcaaDoor
