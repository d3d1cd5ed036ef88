/- Contracts of the model's l1Cut and l1Make over limbs: noughts at the end left off; a number of three limbs or more keeps them, one of two or fewer becomes a plain number; conditions: the row stands in memory, at most a million limbs, each below 10^9. -/
import Derived.Test.YtamoakodlmjbiaaDoorLimbs4
namespace Go.Proofs.YtamoakodlmjbiaaDoor
open Go.ChangeShapes Go.WideShapes Go.ChangeAt Go.RowKit

set_option maxRecDepth 100000 in
set_option maxHeartbeats 1000000 in
theorem cut_any (n b cb : Nat) (f : Nat → Nat) (w : World) (hn : n ≤ 1000000) (hc : n ≤ cb) (hf : Limbs w b n f) :
    Calls Tryd.prog 110 #[.slice (some ⟨b, 0, none⟩) n cb] w fun r w' => r = .returned (.slice (some ⟨b, 0, none⟩) (trim f n) cb) ∧ w' = w := by
  go_enter Tryd.func110, Tryd.ntmps110
  go_wp2
  go_loop [3] (fun i => ∃ t : Nat, t ≤ n ∧ i = .int .i64 t ∧ Hid (trim f n = trim f t)) (fun i => (intOf i).toNat)
  case atStart => exact ⟨n, Nat.le_refl _, by go_num, rfl⟩
  case round =>
    obtain ⟨t, ht, rfl, HT⟩ := hrel
    rcases t with _ | t
    · have HR : Hid (trim f n = 0) := HT.out
      go_wp2
      go_ret
      exact ⟨by rw [HR.out]; rfl, rfl⟩
    · have c1 := hf t (by omega)
      have i0 : (0 : Int) ≤ (t : Int) := by omega
      have i1 : (t : Int) < (n : Int) := by omega
      by_cases h0 : f t = 0
      · have HN : Hid (trim f n = trim f t) := by show trim f n = trim f t; rw [HT.out]; simp [trim, h0]
        rw [h0] at c1
        go_wp2
        go_round
        case rel => exact ⟨t, by omega, by first | rfl | go_num, HN⟩
        case measure => simp [intOf]
      · have HN : Hid (trim f n = t + 1) := by show trim f n = t + 1; rw [HT.out]; simp [trim, h0]
        have h0' : ((f t : Int) == 0) = false := by simp; omega
        have h0'' : ¬ (f t : Int) = 0 := by omega
        go_wp2
        go_ret
        exact ⟨by rw [HN.out]; rfl, rfl⟩

/-- The value of the first two limbs. -/
def two (f : Nat → Nat) : Nat → Nat
  | 0 => 0
  | 1 => f 0
  | _ => f 1 * 1000000000 + f 0
/-- The number that l1Make makes: limbs from three on, a plain number else. -/
def madeZ (neg : Bool) (b cb t : Nat) (f : Nat → Nat) : Value :=
  if 2 < t then .agg #[.int .i64 0, .bool neg, .slice (some ⟨b, 0, none⟩) t cb]
  else .agg #[.int .i64 (if neg then -(two f t : Int) else two f t), .bool false, .slice none 0 0]

set_option maxRecDepth 100000 in
set_option maxHeartbeats 2000000 in
theorem make_any (neg : Bool) (n b cb : Nat) (f : Nat → Nat) (w : World) (hn : n ≤ 1000000) (hc : n ≤ cb) (hf : Limbs w b n f) (hb : b < w.heap.size) (f9 : ∀ i, f i < 1000000000) :
    Calls Tryd.prog 94 #[.bool neg, .slice (some ⟨b, 0, none⟩) n cb] w fun r w' => r = .returned (madeZ neg b cb (trim f n) f) ∧ Below w.heap.size w w' := by
  obtain ⟨R, hR⟩ : ∃ R, madeZ neg b cb (trim f n) f = R := ⟨_, rfl⟩
  rw [hR]
  have HRR : Hid (madeZ neg b cb (trim f n) f = R) := hR
  clear hR
  go_enter Tryd.func94, Tryd.ntmps94
  go_wp2
  go_loop [5] (fun i => ∃ t : Nat, t ≤ n ∧ i = .int .i64 t ∧ Hid (trim f n = trim f t)) (fun i => (intOf i).toNat)
  case atStart => exact ⟨n, Nat.le_refl _, by go_num, rfl⟩
  case round =>
    obtain ⟨t, ht, rfl, HT⟩ := hrel
    rcases t with _ | t
    · have HR : Hid (R = .agg #[.int .i64 0, .bool false, .slice none 0 0]) := by
        show R = _
        rw [← HRR.out, HT.out]; unfold madeZ trim two; cases neg <;> rfl
      cases neg
      all_goals
        go_wp2
        refine wp_loop_rounds 1 ?_; rw [rounds_succ]
        go_wp2
        exact bodyPost_ret (v := .agg #[.int .i64 0, .bool false, .slice none 0 0]) (by simp [results, Tryd.results94, go_sem]) rfl ⟨by rw [HR.out], by repeat (first | (with_reducible refine Below.setCell ?_ (by first | omega | (simp; try omega)) _) | (with_reducible refine Below.alloc ?_ (by first | omega | (simp; try omega)) _) | (with_reducible apply Below.drew) | (with_reducible apply below_drewN) | (with_reducible exact Below.refl _ _))⟩
    · have c1 := hf t (by omega)
      have i0 : (0 : Int) ≤ (t : Int) := by omega
      have i1 : (t : Int) < (n : Int) := by omega
      by_cases h0 : f t = 0
      · have HN : Hid (trim f n = trim f t) := by show trim f n = trim f t; rw [HT.out]; simp [trim, h0]
        rw [h0] at c1
        go_wp2
        go_round
        case rel => exact ⟨t, by omega, by first | rfl | go_num, HN⟩
        case measure => simp [intOf]
      · have HN : Hid (trim f n = t + 1) := by show trim f n = t + 1; rw [HT.out]; simp [trim, h0]
        have h0' : ((f t : Int) == 0) = false := by simp; omega
        have h0'' : ¬ (f t : Int) = 0 := by omega
        by_cases t2 : 2 < t + 1
        · have HR : Hid (R = .agg #[.int .i64 0, .bool neg, .slice (some ⟨b, 0, none⟩) (t + 1) cb]) := by
            show R = _
            rw [← HRR.out, HN.out]; unfold madeZ; rw [if_pos t2]
          have t2' : (2 : Int) < (t : Int) + 1 := by omega
          go_wp2
          exact bodyPost_ret (v := .agg #[.int .i64 0, .bool neg, .slice (some ⟨b, 0, none⟩) (t + 1) cb]) (by simp [results, Tryd.results94, go_sem]) rfl ⟨by rw [HR.out], by repeat (first | (with_reducible refine Below.setCell ?_ (by first | omega | (simp; try omega)) _) | (with_reducible refine Below.alloc ?_ (by first | omega | (simp; try omega)) _) | (with_reducible apply Below.drew) | (with_reducible apply below_drewN) | (with_reducible exact Below.refl _ _))⟩
        · rcases (by omega : t = 0 ∨ t = 1) with rfl | rfl
          · have HR : Hid (R = .agg #[.int .i64 (if neg then -(f 0 : Int) else f 0), .bool false, .slice none 0 0]) := by
              show R = _
              rw [← HRR.out, HN.out]; unfold madeZ; rw [if_neg t2]; rfl
            have k0 := f9 0
            cases neg
            all_goals
              go_wp2
              refine wp_loop_rounds 2 ?_; rw [rounds_succ]
              go_wp2
              rw [rounds_succ]
              go_wp2
              exact bodyPost_ret (v := R) (by rw [HR.out]; simp [results, Tryd.results94, go_sem]) rfl ⟨rfl, by repeat (first | (with_reducible refine Below.setCell ?_ (by first | omega | (simp; try omega)) _) | (with_reducible refine Below.alloc ?_ (by first | omega | (simp; try omega)) _) | (with_reducible apply Below.drew) | (with_reducible apply below_drewN) | (with_reducible exact Below.refl _ _))⟩
          · have HR : Hid (R = .agg #[.int .i64 (if neg then -((f 1 * 1000000000 + f 0 : Nat) : Int) else ((f 1 * 1000000000 + f 0 : Nat) : Int)), .bool false, .slice none 0 0]) := by
              show R = _
              rw [← HRR.out, HN.out]; unfold madeZ; rw [if_neg t2]; rfl
            have k0 := f9 0
            have k1 := f9 1
            have c0 := hf 0 (by omega)
            cases neg
            all_goals
              go_wp2
              refine wp_loop_rounds 3 ?_; rw [rounds_succ]
              go_wp2
              rw [rounds_succ]
              go_wp2
              rw [rounds_succ]
              go_wp2
              exact bodyPost_ret (v := R) (by rw [HR.out]; simp [results, Tryd.results94, go_sem]) rfl ⟨rfl, by repeat (first | (with_reducible refine Below.setCell ?_ (by first | omega | (simp; try omega)) _) | (with_reducible refine Below.alloc ?_ (by first | omega | (simp; try omega)) _) | (with_reducible apply Below.drew) | (with_reducible apply below_drewN) | (with_reducible exact Below.refl _ _))⟩
end Go.Proofs.YtamoakodlmjbiaaDoor
