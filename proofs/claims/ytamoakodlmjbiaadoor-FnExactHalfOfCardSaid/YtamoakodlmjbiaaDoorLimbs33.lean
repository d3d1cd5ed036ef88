/- Plain mathematics of the model's rounding (a size over the powers of 2), and small contracts over numbers by what they stand for: l1Scaled with either sign, l1Zero; conditions: powers up to 1000, at most 200 limbs. -/
import Derived.Test.YtamoakodlmjbiaaDoorLimbs27
import Derived.Test.YtamoakodlmjbiaaDoorLimbs25
import Derived.Test.YtamoakodlmjbiaaDoorLimbs26
import Derived.Test.YtamoakodlmjbiaaDoorLimbs32
namespace Go.Proofs.YtamoakodlmjbiaaDoor
open Go.ChangeShapes Go.WideShapes Go.ChangeAt Go.RowKit
/-- Numerator and denominator of a size over 2 to the i. -/
def sa (N : Nat) (i : Int) : Nat := N * 2 ^ (-i).toNat
def sb (D : Nat) (i : Int) : Nat := D * 2 ^ i.toNat
theorem p2 (n : Nat) : 0 < 2 ^ n := Nat.two_pow_pos n
theorem sa_pos (N : Nat) (i : Int) (h : 0 < N) : 0 < sa N i := Nat.mul_pos h (p2 _)
theorem sb_pos (D : Nat) (i : Int) (h : 0 < D) : 0 < sb D i := Nat.mul_pos h (p2 _)
theorem sc_mono (N D T : Nat) (i j : Int) (h : i ≤ j) (hj : T * sb D j ≤ sa N j) : T * sb D i ≤ sa N i := by
  unfold sa sb at *
  obtain ⟨d, hd⟩ : ∃ d : Nat, (-i).toNat + j.toNat = (-j).toNat + i.toNat + d := ⟨(j - i).toNat, by omega⟩
  have e1 : T * (D * 2 ^ j.toNat) * 2 ^ (i.toNat + d) ≤ N * 2 ^ (-j).toNat * 2 ^ (i.toNat + d) := Nat.mul_le_mul_right _ hj
  have e2 : N * 2 ^ (-j).toNat * 2 ^ (i.toNat + d) = N * 2 ^ (-i).toNat * 2 ^ j.toNat := by
    rw [Nat.mul_assoc, Nat.mul_assoc, ← Nat.pow_add, ← Nat.pow_add, hd, Nat.add_assoc]
  have e3 : T * (D * 2 ^ j.toNat) * 2 ^ (i.toNat + d) = T * (D * 2 ^ (i.toNat + d)) * 2 ^ j.toNat := by
    rw [← Nat.mul_assoc, ← Nat.mul_assoc, Nat.mul_right_comm]
  rw [e2, e3] at e1
  have e4 := Nat.le_of_mul_le_mul_right e1 (p2 _)
  have e5 : T * (D * 2 ^ i.toNat) ≤ T * (D * 2 ^ (i.toNat + d)) := Nat.mul_le_mul_left _ (Nat.mul_le_mul_left _ (Nat.pow_le_pow_right (by decide) (by omega)))
  omega
theorem sc_start (N D β δ bits : Nat) (es : Int) (h1 : 2 ^ β ≤ N) (h2 : D < 2 ^ (δ + 3)) (h : sa N es < 2 ^ bits * sb D es) : (β : Int) - (δ : Int) - (bits : Int) - 2 ≤ es := by
  unfold sa sb at h
  have a : 2 ^ (β + (-es).toNat) ≤ N * 2 ^ (-es).toNat := by rw [Nat.pow_add]; exact Nat.mul_le_mul_right _ h1
  have b : 2 ^ bits * (D * 2 ^ es.toNat) ≤ 2 ^ (bits + (δ + 3) + es.toNat) := by
    rw [Nat.pow_add, Nat.pow_add, Nat.mul_assoc]
    exact Nat.mul_le_mul_left _ (Nat.mul_le_mul_right _ (by omega))
  have c : 2 ^ (β + (-es).toNat) < 2 ^ (bits + (δ + 3) + es.toNat) := by omega
  have d := (Nat.pow_lt_pow_iff_right (a := 2) (by decide)).1 c
  omega
theorem Num.tight {w : World} {K k : Nat} {v : Value} {N : Int} (h : Num w K v N) (hN : N.natAbs < 1000000000 ^ k) : Num w k v N := by
  rcases h with h | ⟨neg, b, t, cb, f, hv, t3, tK, tc, t1, hf, hl, f9, top, e⟩
  · exact Or.inl h
  · refine Or.inr ⟨neg, b, t, cb, f, hv, t3, ?_, tc, t1, hf, hl, f9, top, e⟩
    have hv' : val f t = N.natAbs := by rw [e]; cases neg <;> simp [sg]
    have h1 := top_ge f t (by omega) top
    rw [hv'] at h1
    have h2 : 1000000000 ^ (t - 1) < 1000000000 ^ k := by omega
    have h3 := (Nat.pow_lt_pow_iff_right (a := 1000000000) (by decide)).1 h2
    omega
theorem Num.small {w : World} {K : Nat} {v : Value} {N : Int} (h : Num w K v N) (h0 : -1000000000000000000 < N) (h1 : N < 1000000000000000000) : v = zS N := by
  rcases h with h | ⟨neg, b, t, cb, f, hv, t3, tK, tc, t1, hf, hl, f9, top, e⟩
  · exact h.1
  · exfalso
    have h2 := val_top f t t3 top
    rw [e] at h0 h1
    cases neg <;> simp [sg] at h0 h1 <;> omega
theorem num_zero {w : World} {K : Nat} {v : Value} {N : Int} (h : Num w K v N) : Calls Tryd.prog 85 #[v] w fun e w' => e = .returned (.bool (decide (N = 0))) ∧ Below w.heap.size w w' := by
  rcases h with ⟨rfl, _, _⟩ | ⟨neg, b, t, cb, f, rfl, t3, tK, tc, t1, hf, hl, f9, top, e⟩
  · exact zZero N w
  · have h2 := val_top f t t3 top
    have hne : ¬ N = 0 := by rw [e]; cases neg <;> simp [sg] <;> omega
    rw [decide_eq_false hne]
    exact gZero neg b t cb (by omega) w
/-- l1Limbs of a number that is not 0: a row of its size. -/
theorem num_limbs {w : World} {K : Nat} {v : Value} {N : Int} (h : Num w K v N) (h0 : N ≠ 0) (hK : 2 ≤ K) :
    Calls Tryd.prog 95 #[v] w fun e w' => ∃ b n cb x, e = .returned (.slice (some ⟨b, 0, none⟩) n cb) ∧ n ≤ cb ∧ n ≤ K ∧ n ≤ 100000 ∧ Raw w' b n x ∧ val x n = N.natAbs ∧ Below w.heap.size w w' := by
  rcases h with ⟨rfl, l0, l1⟩ | ⟨neg, b, t, cb, f, rfl, t3, tK, tc, t1, hf, hl, f9, top, hN⟩
  · obtain ⟨a, ha⟩ : ∃ a : Nat, N.natAbs = a := ⟨_, rfl⟩
    have hv : (a : Int) = N ∨ (a : Int) = -N := by omega
    rw [ha]
    by_cases h9 : a < 1000000000
    · refine (zLimbs1 N a hv (by omega) (by omega) w).mono fun e w' => ?_
      rintro ⟨b, rfl, hc, hs, h2⟩
      refine ⟨b, 1, 1, limb2 a, rfl, by omega, by omega, by omega, ⟨fun i hi => ?_, hs, limb2_lt a (by omega)⟩, val_one a h9, h2⟩
      obtain rfl : i = 0 := by omega
      rw [hc]
      have e : limb2 a 0 = a := by unfold limb2; simp; omega
      rw [e]
    · refine (zLimbs2 N a hv (by omega) (by omega) w).mono fun e w' => ?_
      rintro ⟨b, rfl, hc0, hc1, hs, h2⟩
      refine ⟨b, 2, 2, limb2 a, rfl, by omega, by omega, by omega, ⟨fun i hi => ?_, hs, limb2_lt a (by omega)⟩, val_two a, h2⟩
      rcases (by omega : i = 0 ∨ i = 1) with rfl | rfl
      · rw [hc0]; rfl
      · rw [hc1]; rfl
  · refine (gLimbs neg b t cb (by omega) (by omega) w).mono fun e w' => ?_
    rintro ⟨rfl, h2⟩
    have z := h2.size
    exact ⟨b, t, cb, f, rfl, tc, tK, t1, ⟨fun i hi => (h2.cell (p := ⟨b, i, none⟩) hl).trans (hf i hi), by omega, f9⟩, by rw [hN]; cases neg <;> simp [sg], h2⟩
theorem cast_pow (N k : Nat) : ((N * 2 ^ k : Nat) : Int) = (N : Int) * 2 ^ k := by push_cast; rfl
/-- l1Scaled, whatever the sign of the power. -/
theorem num_scaled {w : World} {a b : Value} {N D : Nat} (HA : Num w 60 a (N : Int)) (HB : Num w 60 b (D : Int)) (i : Int) (i0 : -1000 ≤ i) (i1 : i ≤ 1000) :
    Calls Tryd.prog 97 #[a, b, .int .i64 i] w fun r w' => ∃ va vb, r = .returned (.tuple #[va, vb]) ∧ Num w' 200 va (sa N i : Nat) ∧ Num w' 200 vb (sb D i : Nat) ∧ Below w.heap.size w w' := by
  by_cases h : 0 ≤ i
  · obtain ⟨e, rfl⟩ := Int.eq_ofNat_of_zero_le h
    refine (num_scaled_up HA HB (by decide) (by decide) e (by omega)).mono fun r w' ⟨v, h1, h2, h3⟩ => ⟨a, v, h1, ?_, ?_, h3⟩
    · have e1 : sa N ((e : Nat) : Int) = N := by unfold sa; rw [show (-((e : Nat) : Int)).toNat = 0 by omega]; simp
      rw [e1]; exact (HA.next h3).mono (by decide)
    · have e1 : ((sb D ((e : Nat) : Int) : Nat) : Int) = (D : Int) * 2 ^ e := by unfold sb; rw [show ((e : Nat) : Int).toNat = e by omega]; exact cast_pow D e
      rw [e1]; exact h2.mono (by decide)
  · obtain ⟨e, he⟩ : ∃ e : Nat, i = -(e : Int) := ⟨(-i).toNat, by omega⟩
    refine (num_scaled_dn HA HB (by decide) (by decide) e (by omega) i he (by omega)).mono fun r w' ⟨v, h1, h2, h3⟩ => ⟨v, b, h1, ?_, ?_, h3⟩
    · have e1 : ((sa N i : Nat) : Int) = (N : Int) * 2 ^ e := by unfold sa; rw [show (-i).toNat = e by omega]; exact cast_pow N e
      rw [e1]; exact h2.mono (by decide)
    · have e1 : sb D i = D := by unfold sb; rw [show i.toNat = 0 by omega]; simp
      rw [e1]; exact (HB.next h3).mono (by decide)
end Go.Proofs.YtamoakodlmjbiaaDoor
