/- Contracts of TurnCw, of the program and of its model; conditions: the table of forms holds its numbers. -/
import Derived.Test.YtlcfpcapefeajaaDoorBase
import Derived.Deep.RegionHeld3
import Derived.Deep.QuietTactic
import Derived.BigQuiet
namespace Go.Proofs.YtlcfpcapefeajaaDoor
open Go.ChangeShapes Go.WideShapes Go.ChangeAt Go.RowKit
def neg (a : Int) : Int := bits .xor .u32 a 2147483648
theorem minus33 (a : Int) (w : World) : Calls Tryd.prog 33 #[.int .u32 a] w fun e w' => e = .returned (.int .u32 (neg a)) ∧ w' = w := by
  go_enter Tryd.func33, Tryd.ntmps33
  go_wp2
  go_ret
  exact ⟨rfl, rfl⟩
theorem other35 (a : Int) (w : World) (G : Forms w) : Calls Tryd.prog 35 #[.int .u32 a] w fun e w' => e = .returned (.int .u32 (neg a)) ∧ w' = w := by
  have c2 := G.c2
  go_enter Tryd.func35, Tryd.ntmps35
  go_wp2
  go_ret
  exact ⟨rfl, rfl⟩
theorem and3 (q : Int) : bits .and .i64 q 3 = q % 4 := by
  have hn : (BitVec.ofInt IntKind.i64.bits q &&& BitVec.ofInt IntKind.i64.bits 3).toNat = (q % 18446744073709551616).toNat % 4 := by
    rw [BitVec.toNat_and, BitVec.toNat_ofInt, BitVec.toNat_ofInt]
    have e2 : ((3 : Int) % ((2 ^ IntKind.i64.bits : Nat) : Int)).toNat = 3 := by rfl
    have e1 : (q % ((2 ^ IntKind.i64.bits : Nat) : Int)).toNat = (q % 18446744073709551616).toNat := by rfl
    rw [e1, e2]
    exact Nat.and_two_pow_sub_one_eq_mod _ 2
  show IntKind.i64.wrap ((BitVec.ofInt IntKind.i64.bits q &&& BitVec.ofInt IntKind.i64.bits 3).toNat : Int) = q % 4
  rw [hn, IntKind.wrap_i64]
  omega
theorem tmod4 (q : Int) : q.tmod 4 = if 0 ≤ q ∨ q % 4 = 0 then q % 4 else q % 4 - 4 := by
  by_cases h : 0 ≤ q
  · rw [if_pos (Or.inl h), Int.tmod_eq_emod_of_nonneg h]
  · have e : q = -(-q) := by omega
    have h2 : q.tmod 4 = -((-q) % 4) := by
      rw [e, Int.neg_tmod, Int.tmod_eq_emod_of_nonneg (by omega)]; simp
    rw [h2]
    split <;> omega
theorem Forms.of {w w' : World} (h : Forms w) (b : Below w.heap.size w w') : Forms w' := h.below b
set_option maxHeartbeats 1000000 in
theorem t15_0 (a b q : Int) (hq : q % 4 = 0) (w : World) : Calls Tryd.prog 15 #[.agg #[.int .u32 a, .int .u32 b], .int .i64 q] w fun e w' => e = .returned (.agg #[.int .u32 a, .int .u32 b]) ∧ Below w.heap.size w w' := by
  have ht : q.tmod 4 = 0 := by rw [tmod4, if_pos (Or.inr hq), hq]
  clear hq
  go_enter Tryd.func15, Tryd.ntmps15
  go_wp2
  all_goals go_wp2
  all_goals exact bodyPost_ret (v := .agg #[.int .u32 a, .int .u32 b]) (by simp [results, Tryd.results15, go_sem]) rfl ⟨rfl, by repeat (first | exact Below.refl _ _ | apply Below.drew | refine Below.setCell ?_ (by simp) _ | refine Below.alloc ?_ (by simp) _)⟩
set_option maxHeartbeats 1000000 in
theorem t16_0 (a b q : Int) (hq : q % 4 = 0) (w : World) (_G : Forms w) : Calls Tryd.prog 16 #[.agg #[.int .u32 a, .int .u32 b], .int .i64 q] w fun e w' => e = .returned (.agg #[.int .u32 a, .int .u32 b]) ∧ Below w.heap.size w w' := by
  have ht : bits .and .i64 q 3 = 0 := by rw [and3, hq]
  clear hq
  go_enter Tryd.func16, Tryd.ntmps16
  go_wp2
  all_goals go_wp2
  all_goals exact bodyPost_ret (v := .agg #[.int .u32 a, .int .u32 b]) (by simp [results, Tryd.results16, go_sem]) rfl ⟨rfl, by repeat (first | exact Below.refl _ _ | apply Below.drew | refine Below.setCell ?_ (by simp) _ | refine Below.alloc ?_ (by simp) _)⟩
set_option maxHeartbeats 1000000 in
theorem t15_1 (a b q : Int) (hq : q % 4 = 1) (h0 : 0 ≤ q) (w : World) : Calls Tryd.prog 15 #[.agg #[.int .u32 a, .int .u32 b], .int .i64 q] w fun e w' => e = .returned (.agg #[.int .u32 (neg b), .int .u32 a]) ∧ Below w.heap.size w w' := by
  have ht : q.tmod 4 = 1 := by rw [tmod4, if_pos (Or.inl h0), hq]
  clear hq h0
  go_enter Tryd.func15, Tryd.ntmps15
  go_wp2
  go_region_with (go_at_call 33; refine (minus33 _ _).mono ?_; rintro e w1 ⟨rfl, hw⟩; subst w1)
  all_goals go_wp2
  all_goals exact bodyPost_ret (v := .agg #[.int .u32 (neg b), .int .u32 a]) (by simp [results, Tryd.results15, go_sem]) rfl ⟨rfl, by repeat (first | exact Below.refl _ _ | apply Below.drew | refine Below.setCell ?_ (by simp) _ | refine Below.alloc ?_ (by simp) _)⟩
set_option maxHeartbeats 1000000 in
theorem t15_1n (a b q : Int) (hq : q % 4 = 1) (h0 : ¬ 0 ≤ q) (w : World) : Calls Tryd.prog 15 #[.agg #[.int .u32 a, .int .u32 b], .int .i64 q] w fun e w' => e = .returned (.agg #[.int .u32 (neg b), .int .u32 a]) ∧ Below w.heap.size w w' := by
  have ht : q.tmod 4 = -3 := by rw [tmod4, if_neg (by omega), hq]; rfl
  clear hq h0
  go_enter Tryd.func15, Tryd.ntmps15
  go_wp2
  go_region_with (go_at_call 33; refine (minus33 _ _).mono ?_; rintro e w1 ⟨rfl, hw⟩; subst w1)
  all_goals go_wp2
  all_goals exact bodyPost_ret (v := .agg #[.int .u32 (neg b), .int .u32 a]) (by simp [results, Tryd.results15, go_sem]) rfl ⟨rfl, by repeat (first | exact Below.refl _ _ | apply Below.drew | refine Below.setCell ?_ (by simp) _ | refine Below.alloc ?_ (by simp) _)⟩
set_option maxHeartbeats 1000000 in
theorem t16_1 (a b q : Int) (hq : q % 4 = 1) (w : World) (G : Forms w) : Calls Tryd.prog 16 #[.agg #[.int .u32 a, .int .u32 b], .int .i64 q] w fun e w' => e = .returned (.agg #[.int .u32 (neg b), .int .u32 a]) ∧ Below w.heap.size w w' := by
  have ht : bits .and .i64 q 3 = 1 := by rw [and3, hq]
  clear hq
  go_enter Tryd.func16, Tryd.ntmps16
  go_wp2
  go_region_with (go_at_call 35; refine (other35 _ _ (by refine G.of ?_; repeat (first | exact Below.refl _ _ | apply Below.drew | refine Below.setCell ?_ (by simp) _ | refine Below.alloc ?_ (by simp) _))).mono ?_; rintro e w1 ⟨rfl, hw⟩; subst w1)
  all_goals go_wp2
  all_goals exact bodyPost_ret (v := .agg #[.int .u32 (neg b), .int .u32 a]) (by simp [results, Tryd.results16, go_sem]) rfl ⟨rfl, by repeat (first | exact Below.refl _ _ | apply Below.drew | refine Below.setCell ?_ (by simp) _ | refine Below.alloc ?_ (by simp) _)⟩
set_option maxHeartbeats 1000000 in
theorem t15_2 (a b q : Int) (hq : q % 4 = 2) (h0 : 0 ≤ q) (w : World) : Calls Tryd.prog 15 #[.agg #[.int .u32 a, .int .u32 b], .int .i64 q] w fun e w' => e = .returned (.agg #[.int .u32 (neg a), .int .u32 (neg b)]) ∧ Below w.heap.size w w' := by
  have ht : q.tmod 4 = 2 := by rw [tmod4, if_pos (Or.inl h0), hq]
  clear hq h0
  go_enter Tryd.func15, Tryd.ntmps15
  go_wp2
  go_region_with (go_at_call 33; refine (minus33 _ _).mono ?_; rintro e w1 ⟨rfl, hw⟩; subst w1)
  all_goals go_wp2
  all_goals exact bodyPost_ret (v := .agg #[.int .u32 (neg a), .int .u32 (neg b)]) (by simp [results, Tryd.results15, go_sem]) rfl ⟨rfl, by repeat (first | exact Below.refl _ _ | apply Below.drew | refine Below.setCell ?_ (by simp) _ | refine Below.alloc ?_ (by simp) _)⟩
set_option maxHeartbeats 1000000 in
theorem t15_2n (a b q : Int) (hq : q % 4 = 2) (h0 : ¬ 0 ≤ q) (w : World) : Calls Tryd.prog 15 #[.agg #[.int .u32 a, .int .u32 b], .int .i64 q] w fun e w' => e = .returned (.agg #[.int .u32 (neg a), .int .u32 (neg b)]) ∧ Below w.heap.size w w' := by
  have ht : q.tmod 4 = -2 := by rw [tmod4, if_neg (by omega), hq]; rfl
  clear hq h0
  go_enter Tryd.func15, Tryd.ntmps15
  go_wp2
  go_region_with (go_at_call 33; refine (minus33 _ _).mono ?_; rintro e w1 ⟨rfl, hw⟩; subst w1)
  all_goals go_wp2
  all_goals exact bodyPost_ret (v := .agg #[.int .u32 (neg a), .int .u32 (neg b)]) (by simp [results, Tryd.results15, go_sem]) rfl ⟨rfl, by repeat (first | exact Below.refl _ _ | apply Below.drew | refine Below.setCell ?_ (by simp) _ | refine Below.alloc ?_ (by simp) _)⟩
set_option maxHeartbeats 1000000 in
theorem t16_2 (a b q : Int) (hq : q % 4 = 2) (w : World) (G : Forms w) : Calls Tryd.prog 16 #[.agg #[.int .u32 a, .int .u32 b], .int .i64 q] w fun e w' => e = .returned (.agg #[.int .u32 (neg a), .int .u32 (neg b)]) ∧ Below w.heap.size w w' := by
  have ht : bits .and .i64 q 3 = 2 := by rw [and3, hq]
  clear hq
  go_enter Tryd.func16, Tryd.ntmps16
  go_wp2
  go_region_with (go_at_call 35; refine (other35 _ _ (by refine G.of ?_; repeat (first | exact Below.refl _ _ | apply Below.drew | refine Below.setCell ?_ (by simp) _ | refine Below.alloc ?_ (by simp) _))).mono ?_; rintro e w1 ⟨rfl, hw⟩; subst w1)
  all_goals go_wp2
  all_goals exact bodyPost_ret (v := .agg #[.int .u32 (neg a), .int .u32 (neg b)]) (by simp [results, Tryd.results16, go_sem]) rfl ⟨rfl, by repeat (first | exact Below.refl _ _ | apply Below.drew | refine Below.setCell ?_ (by simp) _ | refine Below.alloc ?_ (by simp) _)⟩
set_option maxHeartbeats 1000000 in
theorem t15_3 (a b q : Int) (hq : q % 4 = 3) (h0 : 0 ≤ q) (w : World) : Calls Tryd.prog 15 #[.agg #[.int .u32 a, .int .u32 b], .int .i64 q] w fun e w' => e = .returned (.agg #[.int .u32 b, .int .u32 (neg a)]) ∧ Below w.heap.size w w' := by
  have ht : q.tmod 4 = 3 := by rw [tmod4, if_pos (Or.inl h0), hq]
  clear hq h0
  go_enter Tryd.func15, Tryd.ntmps15
  go_wp2
  go_region_with (go_at_call 33; refine (minus33 _ _).mono ?_; rintro e w1 ⟨rfl, hw⟩; subst w1)
  all_goals go_wp2
  all_goals exact bodyPost_ret (v := .agg #[.int .u32 b, .int .u32 (neg a)]) (by simp [results, Tryd.results15, go_sem]) rfl ⟨rfl, by repeat (first | exact Below.refl _ _ | apply Below.drew | refine Below.setCell ?_ (by simp) _ | refine Below.alloc ?_ (by simp) _)⟩
set_option maxHeartbeats 1000000 in
theorem t15_3n (a b q : Int) (hq : q % 4 = 3) (h0 : ¬ 0 ≤ q) (w : World) : Calls Tryd.prog 15 #[.agg #[.int .u32 a, .int .u32 b], .int .i64 q] w fun e w' => e = .returned (.agg #[.int .u32 b, .int .u32 (neg a)]) ∧ Below w.heap.size w w' := by
  have ht : q.tmod 4 = -1 := by rw [tmod4, if_neg (by omega), hq]; rfl
  clear hq h0
  go_enter Tryd.func15, Tryd.ntmps15
  go_wp2
  go_region_with (go_at_call 33; refine (minus33 _ _).mono ?_; rintro e w1 ⟨rfl, hw⟩; subst w1)
  all_goals go_wp2
  all_goals exact bodyPost_ret (v := .agg #[.int .u32 b, .int .u32 (neg a)]) (by simp [results, Tryd.results15, go_sem]) rfl ⟨rfl, by repeat (first | exact Below.refl _ _ | apply Below.drew | refine Below.setCell ?_ (by simp) _ | refine Below.alloc ?_ (by simp) _)⟩
set_option maxHeartbeats 1000000 in
theorem t16_3 (a b q : Int) (hq : q % 4 = 3) (w : World) (G : Forms w) : Calls Tryd.prog 16 #[.agg #[.int .u32 a, .int .u32 b], .int .i64 q] w fun e w' => e = .returned (.agg #[.int .u32 b, .int .u32 (neg a)]) ∧ Below w.heap.size w w' := by
  have ht : bits .and .i64 q 3 = 3 := by rw [and3, hq]
  clear hq
  go_enter Tryd.func16, Tryd.ntmps16
  go_wp2
  go_region_with (go_at_call 35; refine (other35 _ _ (by refine G.of ?_; repeat (first | exact Below.refl _ _ | apply Below.drew | refine Below.setCell ?_ (by simp) _ | refine Below.alloc ?_ (by simp) _))).mono ?_; rintro e w1 ⟨rfl, hw⟩; subst w1)
  all_goals go_wp2
  all_goals exact bodyPost_ret (v := .agg #[.int .u32 b, .int .u32 (neg a)]) (by simp [results, Tryd.results16, go_sem]) rfl ⟨rfl, by repeat (first | exact Below.refl _ _ | apply Below.drew | refine Below.setCell ?_ (by simp) _ | refine Below.alloc ?_ (by simp) _)⟩

def turnA (a b q : Int) : Int := if q % 4 = 0 then a else if q % 4 = 1 then neg b else if q % 4 = 2 then neg a else b
def turnB (a b q : Int) : Int := if q % 4 = 0 then b else if q % 4 = 1 then a else if q % 4 = 2 then neg b else neg a
theorem turnS (a b q : Int) (w : World) : Calls Tryd.prog 15 #[.agg #[.int .u32 a, .int .u32 b], .int .i64 q] w fun e w' => e = .returned (.agg #[.int .u32 (turnA a b q), .int .u32 (turnB a b q)]) ∧ Below w.heap.size w w' := by
  unfold turnA turnB
  rcases (show q % 4 = 0 ∨ q % 4 = 1 ∨ q % 4 = 2 ∨ q % 4 = 3 by omega) with h | h | h | h <;> rw [h]
  · exact t15_0 a b q h w
  · by_cases h0 : 0 ≤ q
    · exact t15_1 a b q h h0 w
    · exact t15_1n a b q h h0 w
  · by_cases h0 : 0 ≤ q
    · exact t15_2 a b q h h0 w
    · exact t15_2n a b q h h0 w
  · by_cases h0 : 0 ≤ q
    · exact t15_3 a b q h h0 w
    · exact t15_3n a b q h h0 w
theorem turnI (a b q : Int) (w : World) (G : Forms w) : Calls Tryd.prog 16 #[.agg #[.int .u32 a, .int .u32 b], .int .i64 q] w fun e w' => e = .returned (.agg #[.int .u32 (turnA a b q), .int .u32 (turnB a b q)]) ∧ Below w.heap.size w w' := by
  unfold turnA turnB
  rcases (show q % 4 = 0 ∨ q % 4 = 1 ∨ q % 4 = 2 ∨ q % 4 = 3 by omega) with h | h | h | h <;> rw [h]
  · exact t16_0 a b q h w G
  · exact t16_1 a b q h w G
  · exact t16_2 a b q h w G
  · exact t16_3 a b q h w G
end Go.Proofs.YtlcfpcapefeajaaDoor
