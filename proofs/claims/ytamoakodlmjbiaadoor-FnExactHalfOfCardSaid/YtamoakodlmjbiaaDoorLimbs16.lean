/- Contracts over what numbers stand for: l1Mul of any two numbers, l1Small of any int64 below 2 10^18 in size; conditions: at most 100,000 limbs together. -/
import Derived.Test.YtamoakodlmjbiaaDoorLimbs13
import Derived.Test.YtamoakodlmjbiaaDoorLimbs14
import Derived.Test.YtamoakodlmjbiaaDoorLimbs15
namespace Go.Proofs.YtamoakodlmjbiaaDoor
open Go.ChangeShapes Go.WideShapes Go.ChangeAt Go.RowKit
theorem val_nought : ∀ n, val (fun _ => 0) n = 0
  | 0 => rfl
  | n + 1 => by simp [val, val_nought n]
theorem Num.zero {w : World} {K : Nat} {v : Value} (h : Num w K v 0) : v = zS 0 := by
  rcases h with ⟨h, _⟩ | ⟨neg, b, t, cb, f, hv, t3, tK, tc, t1, hf, hl, f9, top, hN⟩
  · exact h
  · have := val_top f t t3 top
    unfold sg at hN
    split at hN <;> omega
theorem num_mul_any {w : World} {K L : Nat} {a b : Value} {A B : Int} (HA : Num w K a A) (HB : Num w L b B) (hK : 2 ≤ K) (hL : 2 ≤ L) (hKL : K + L + 1 ≤ 100000) :
    Calls Tryd.prog 88 #[a, b] w fun r w' => ∃ v, r = .returned v ∧ Num w' (K + L + 1) v (A * B) ∧ Below w.heap.size w w' := by
  have fin : ∀ {w' : World} {o m : Nat} (s : Bool), m ≤ K ∨ m ≤ L → Own w' w.heap.size o (m + 1) (fun _ => 0) → Num w' (K + L + 1) (madeZ s o (m + 1) (trim (fun _ => 0) (m + 1)) (fun _ => 0)) 0 := by
    intro w' o m s hm O
    have h := (num_made O (fun _ => by decide) s (m + 1) (Nat.le_refl _) (by omega)).mono (show m + 1 ≤ K + L + 1 by omega)
    rw [val_nought] at h
    have e : sg s 0 = 0 := by cases s <;> rfl
    rw [e] at h
    exact h
  by_cases hA : A = 0
  · subst hA
    rw [HA.zero, Int.zero_mul]
    rcases HB with ⟨rfl, b0, b1⟩ | ⟨neg, b', t, cb, f, rfl, t3, tK, tc, t1, hf, hl, f9, top, hN⟩
    · have := zMul 0 B (by decide) (by decide) b0 b1 (by rw [Int.zero_mul]; decide) (by rw [Int.zero_mul]; decide) w
      rw [Int.zero_mul] at this
      exact this.mono fun e w' ⟨h1, hb⟩ => ⟨_, h1, num_small w' _ 0 (by decide) (by decide), hb⟩
    · exact (rMul_zeroL neg t f 0 neg _ t cb w (rep_great neg b' t cb f w (by omega) t1 hf hl f9)).mono fun e w' ⟨o, s, h1, O, hb⟩ => ⟨_, h1, fin s (Or.inr tK) O, hb⟩
  by_cases hB : B = 0
  · subst hB
    rw [HB.zero, Int.mul_zero]
    rcases HA with ⟨rfl, b0, b1⟩ | ⟨neg, b', t, cb, f, rfl, t3, tK, tc, t1, hf, hl, f9, top, hN⟩
    · have := zMul A 0 b0 b1 (by decide) (by decide) (by rw [Int.mul_zero]; decide) (by rw [Int.mul_zero]; decide) w
      rw [Int.mul_zero] at this
      exact this.mono fun e w' ⟨h1, hb⟩ => ⟨_, h1, num_small w' _ 0 (by decide) (by decide), hb⟩
    · exact (rMul_zeroR neg t f 0 neg _ t cb w (rep_great neg b' t cb f w (by omega) t1 hf hl f9)).mono fun e w' ⟨o, s, h1, O, hb⟩ => ⟨_, h1, fin s (Or.inl tK) O, hb⟩
  exact num_mul HA HB hK hL hKL hA hB
/-- The limbs of a size of three limbs. -/
def limb3 (u i : Nat) : Nat := if i = 0 then u % 1000000000 else if i = 1 then u / 1000000000 % 1000000000 else if i = 2 then u / 1000000000 / 1000000000 else 0
theorem limb3_val (u : Nat) : val (limb3 u) 3 = u := by simp [val, limb3]; omega
theorem num3 (w : World) (o : Obj) (neg : Bool) (U : Int) (u0 : 1000000000000000000 ≤ U) (u1 : U < 2000000000000000000) (N : Int) (hN : N = if neg then -U else U) :
    Num ((w.alloc o).alloc (.cells #[.int .u32 (U % 1000000000), .int .u32 (U / 1000000000 % 1000000000), .int .u32 (U / 1000000000 / 1000000000)] 23)) 3 (.agg #[.int .i64 0, .bool neg, .slice (some ⟨w.heap.size + 1, 0, none⟩) 3 3]) N := by
  obtain ⟨u, rfl⟩ := Int.eq_ofNat_of_zero_le (by omega : 0 ≤ U)
  have hh : ((w.alloc o).alloc (.cells #[.int .u32 ((u : Int) % 1000000000), .int .u32 ((u : Int) / 1000000000 % 1000000000), .int .u32 ((u : Int) / 1000000000 / 1000000000)] 23)).heap[w.heap.size + 1]? = some (.cells #[.int .u32 ((u : Int) % 1000000000), .int .u32 ((u : Int) / 1000000000 % 1000000000), .int .u32 ((u : Int) / 1000000000 / 1000000000)] 23 (0, 0)) := heap_alloc_eq (by simp)
  obtain ⟨⟨c0, c1, c2⟩, _⟩ := blk3 hh
  refine Or.inr ⟨neg, w.heap.size + 1, 3, 3, limb3 u, rfl, by omega, by omega, by omega, by omega, fun i hi => ?_, by simp, fun i => ?_, ?_, ?_⟩
  · rcases (by omega : i = 0 ∨ i = 1 ∨ i = 2) with rfl | rfl | rfl
    · rw [c0]; rfl
    · rw [c1]; rfl
    · rw [c2]; rfl
  · unfold limb3; split; omega; split; omega; split <;> omega
  · simp [limb3]; omega
  · rw [limb3_val, hN]; rfl
set_option maxHeartbeats 1000000 in
theorem gSmall_pos (v : Int) (u0 : 1000000000000000000 ≤ v) (u1 : v < 2000000000000000000) (w : World) :
    Calls Tryd.prog 78 #[.int .i64 v] w fun e w' => ∃ x, e = .returned x ∧ Num w' 3 x v ∧ Below w.heap.size w w' := by
  go_enter Tryd.func78, Tryd.ntmps78
  have hd : decide (v < 0) = false := by simp; omega
  go_wp2
  exact bodyPost_ret (v := .agg #[.int .i64 0, .bool false, .slice (some ⟨w.heap.size + 1, 0, none⟩) 3 3]) (by simp [results, Tryd.results78, go_sem]) rfl ⟨_, rfl, num3 w _ false v u0 u1 v rfl, by repeat (first | (with_reducible refine Below.alloc ?_ (by first | omega | (simp; try omega)) _) | (with_reducible exact Below.refl _ _))⟩
set_option maxHeartbeats 1000000 in
theorem gSmall_neg (v : Int) (u0 : v ≤ -1000000000000000000) (u1 : -2000000000000000000 < v) (w : World) :
    Calls Tryd.prog 78 #[.int .i64 v] w fun e w' => ∃ x, e = .returned x ∧ Num w' 3 x v ∧ Below w.heap.size w w' := by
  obtain ⟨U, hU⟩ : ∃ U, -v = U := ⟨_, rfl⟩
  go_enter Tryd.func78, Tryd.ntmps78
  go_wp2
  exact bodyPost_ret (v := .agg #[.int .i64 0, .bool true, .slice (some ⟨w.heap.size + 1, 0, none⟩) 3 3]) (by simp [results, Tryd.results78, go_sem]) rfl ⟨_, rfl, num3 w _ true U (by omega) (by omega) v (by rw [← hU]; simp), by repeat (first | (with_reducible refine Below.alloc ?_ (by first | omega | (simp; try omega)) _) | (with_reducible exact Below.refl _ _))⟩
/-- l1Small of any sum of two small numbers. -/
theorem num_ofInt (v : Int) (v0 : -2000000000000000000 < v) (v1 : v < 2000000000000000000) (w : World) :
    Calls Tryd.prog 78 #[.int .i64 v] w fun e w' => ∃ x, e = .returned x ∧ Num w' 3 x v ∧ Below w.heap.size w w' := by
  by_cases h0 : v ≤ -1000000000000000000
  · exact gSmall_neg v h0 v0 w
  by_cases h1 : 1000000000000000000 ≤ v
  · exact gSmall_pos v h1 v1 w
  · exact (zSmall v (by omega) (by omega) w).mono fun e w' ⟨h2, hb⟩ => ⟨_, h2, num_small w' 3 v (by omega) (by omega), hb⟩
end Go.Proofs.YtamoakodlmjbiaaDoor
