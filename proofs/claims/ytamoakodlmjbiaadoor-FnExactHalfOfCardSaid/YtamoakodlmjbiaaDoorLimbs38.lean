/- Plain mathematics: a number ahead of its rounding (a size, a power, whether more is left) and the same number as a fraction have the same step, the same kept size and the same kind of what is cut off. -/
import Derived.Test.YtamoakodlmjbiaaDoorLimbs34
import Derived.Test.YtamoakodlmjbiaaDoorCut
import Derived.Test.YtamoakodlmjbiaaDoorLen
namespace Go.Proofs.YtamoakodlmjbiaaDoor
theorem sc_cross (N D : Nat) (i j : Int) (d : Nat) (h : j = i + d) : sa N j * (sb D i * 2 ^ d) = sa N i * sb D j := by
  unfold sa sb
  have e : (-i).toNat + j.toNat = (-j).toNat + i.toNat + d := by omega
  have e2 : 2 ^ (-i).toNat * 2 ^ j.toNat = 2 ^ (-j).toNat * 2 ^ i.toNat * 2 ^ d := by rw [← Nat.pow_add, ← Nat.pow_add, ← Nat.pow_add, e]
  have l : N * 2 ^ (-j).toNat * (D * 2 ^ i.toNat * 2 ^ d) = N * D * (2 ^ (-j).toNat * 2 ^ i.toNat * 2 ^ d) := by
    simp only [Nat.mul_assoc, Nat.mul_left_comm]
  have r : N * 2 ^ (-i).toNat * (D * 2 ^ j.toNat) = N * D * (2 ^ (-i).toNat * 2 ^ j.toNat) := by
    simp only [Nat.mul_assoc, Nat.mul_left_comm]
  rw [l, r, e2]
theorem cross_div (A' B' A X : Nat) (hB : 0 < B') (hX : 0 < X) (h : A' * X = A * B') : A' / B' = A / X := by
  rw [← Nat.mul_div_mul_right A' B' hX, h, Nat.mul_comm B' X, Nat.mul_div_mul_right _ _ hB]
theorem cross_mod (A' B' A X : Nat) (h : A' * X = A * B') : A' % B' * X = A % X * B' := by
  rw [← Nat.mul_mod_mul_right X A' B', h, Nat.mul_comm B' X, Nat.mul_mod_mul_right]
theorem left_cross (r' B' r X : Nat) (hB : 0 < B') (hX : 0 < X) (h : r' * X = r * B') : leftI r' B' = leftI r X := by
  have z : r' = 0 ↔ r = 0 := by
    constructor
    · intro e; rw [e, Nat.zero_mul] at h
      rcases Nat.mul_eq_zero.1 h.symm with h1 | h1 <;> omega
    · intro e; rw [e, Nat.zero_mul] at h
      rcases Nat.mul_eq_zero.1 h with h1 | h1 <;> omega
  have l : 2 * r' < B' ↔ 2 * r < X := by
    have k1 : 2 * r' * X = 2 * r * B' := by rw [Nat.mul_assoc, h, Nat.mul_assoc]
    constructor
    · intro q
      have k2 : 2 * r' * X < B' * X := Nat.mul_lt_mul_of_pos_right q hX
      rw [k1, Nat.mul_comm B' X] at k2
      exact Nat.lt_of_mul_lt_mul_right k2
    · intro q
      have k2 : 2 * r * B' < X * B' := Nat.mul_lt_mul_of_pos_right q hB
      rw [← k1, Nat.mul_comm X B'] at k2
      exact Nat.lt_of_mul_lt_mul_right k2
  have e : 2 * r' = B' ↔ 2 * r = X := by
    have k1 : 2 * r' * X = 2 * r * B' := by rw [Nat.mul_assoc, h, Nat.mul_assoc]
    constructor
    · intro q; rw [q, Nat.mul_comm] at k1; exact (Nat.eq_of_mul_eq_mul_right hB k1).symm
    · intro q; rw [q, Nat.mul_comm X] at k1; exact Nat.eq_of_mul_eq_mul_right hX k1
  unfold leftI
  simp only [z, l, e]
theorem left_cut (A B d : Nat) (hB : 0 < B) (d0 : 0 < d) (m : Bool) (hm : m = decide (A % B ≠ 0)) :
    leftI (A % (B * 2 ^ d)) (B * 2 ^ d) = cutI ((A / B % 2 ^ d : Nat) : Int) ((2 ^ (d - 1) : Nat) : Int) m := by
  obtain ⟨e, rfl⟩ : ∃ e, d = e + 1 := ⟨d - 1, by omega⟩
  rw [Nat.mod_mul, Nat.add_sub_cancel]
  have hρ := Nat.mod_lt A hB
  obtain ⟨ρ, eρ⟩ : ∃ ρ, A % B = ρ := ⟨_, rfl⟩
  obtain ⟨u, eu⟩ : ∃ u, A / B % 2 ^ (e + 1) = u := ⟨_, rfl⟩
  obtain ⟨H, eH⟩ : ∃ H, 2 ^ e = H := ⟨_, rfl⟩
  rw [eρ] at hρ hm
  rw [eρ, eu, Nat.pow_succ, eH]
  have hX : B * (H * 2) = 2 * (B * H) := by rw [← Nat.mul_assoc, Nat.mul_comm]
  have zu : B * u = 0 ↔ u = 0 := by rw [Nat.mul_eq_zero]; omega
  have lt1 : u < H → ρ + B * u < B * H := fun h => by
    have : B * (u + 1) ≤ B * H := Nat.mul_le_mul_left _ h
    rw [Nat.mul_succ] at this; omega
  have ge1 : ¬ u < H → B * H ≤ B * u := fun h => Nat.mul_le_mul_left _ (by omega)
  have gt1 : H < u → B * H + B ≤ B * u := fun h => by
    have : B * (H + 1) ≤ B * u := Nat.mul_le_mul_left _ h
    rw [Nat.mul_succ] at this; exact this
  have eqH : u = H → B * u = B * H := fun h => by rw [h]
  unfold leftI cutI
  rw [hX]
  have mt : m = false ↔ ρ = 0 := by rw [hm]; simp
  by_cases h0 : ρ + B * u = 0
  · rw [if_pos h0, if_pos ⟨by have := zu.1 (by omega); omega, mt.2 (by omega)⟩]
  · have n0 : ¬ ((u : Int) = 0 ∧ m = false) := fun ⟨a, b⟩ => h0 (by have h1 := mt.1 b; have h2 := zu.2 (by omega); omega)
    rw [if_neg h0, if_neg n0]
    by_cases h1 : u < H
    · have c1 : 2 * (ρ + B * u) < 2 * (B * H) := by have := lt1 h1; omega
      have c2 : (u : Int) < (H : Int) := by omega
      rw [if_pos c1, if_pos c2]
    · have g1 := ge1 h1
      have c1 : ¬ 2 * (ρ + B * u) < 2 * (B * H) := by omega
      have c2 : ¬ (u : Int) < (H : Int) := by omega
      rw [if_neg c1, if_neg c2]
      by_cases h2 : u = H
      · have e1 := eqH h2
        by_cases h3 : ρ = 0
        · have c3 : 2 * (ρ + B * u) = 2 * (B * H) := by omega
          have c4 : (u : Int) = (H : Int) ∧ m = false := ⟨by omega, mt.2 h3⟩
          rw [if_pos c3, if_pos c4]
        · have c3 : ¬ 2 * (ρ + B * u) = 2 * (B * H) := by omega
          have c4 : ¬ ((u : Int) = (H : Int) ∧ m = false) := fun ⟨_, b⟩ => h3 (mt.1 b)
          rw [if_neg c3, if_neg c4]
      · have g2 := gt1 (by omega)
        have c3 : ¬ 2 * (ρ + B * u) = 2 * (B * H) := by omega
        have c4 : ¬ ((u : Int) = (H : Int) ∧ m = false) := fun ⟨a, _⟩ => h2 (by omega)
        rw [if_neg c3, if_neg c4]
/-- The facts that the model's rounding asks for, from a size, a power and whether more is left. -/
theorem join_facts (bits : Nat) (FL : Int) (N D z L : Nat) (p step : Int) (m : Bool) (Dp : 0 < D) (hz : sa N p / sb D p = z) (hm : m = decide (sa N p % sb D p ≠ 0))
    (l0 : 2 ^ (L - 1) ≤ z) (l1 : z < 2 ^ L) (L0 : 0 < L) (hs1 : (L : Int) + p - bits ≤ step) (hs3 : step = L + p - bits ∨ step = FL) (up : step ≤ p → m = false) :
    sa N step < 2 ^ bits * sb D step ∧ (step = FL ∨ 2 ^ bits * sb D (step - 1) ≤ sa N (step - 1)) ∧
    (step ≤ p → sa N step / sb D step = z * 2 ^ (p - step).toNat ∧ leftI (sa N step % sb D step) (sb D step) = 0) ∧
    (p < step → sa N step / sb D step = z / 2 ^ (step - p).toNat ∧ leftI (sa N step % sb D step) (sb D step) = cutI ((z % 2 ^ (step - p).toNat : Nat) : Int) ((2 ^ ((step - p).toNat - 1) : Nat) : Int) m) := by
  have Bp := sb_pos D p Dp
  have Bs := sb_pos D step Dp
  have dm := Nat.div_add_mod (sa N p) (sb D p)
  have ml := Nat.mod_lt (sa N p) Bp
  rw [hz] at dm
  have hlo : sb D p * z ≤ sa N p := by omega
  have hhi : sa N p < sb D p * (z + 1) := by rw [Nat.mul_succ]; omega
  refine ⟨?_, ?_, ?_, ?_⟩
  · -- V < 2^(bits + step)
    obtain ⟨k, hk⟩ : ∃ k : Nat, step + bits = p + L + k := ⟨(step + bits - p - L).toNat, by omega⟩
    by_cases h : p ≤ step
    · obtain ⟨d, hd⟩ : ∃ d : Nat, step = p + d := ⟨(step - p).toNat, by omega⟩
      have c := sc_cross N D p step d hd
      have e1 : bits + d = L + k := by omega
      have a1 : sa N p < sb D p * 2 ^ L := Nat.lt_of_lt_of_le hhi (Nat.mul_le_mul_left _ (by omega))
      have a2 : sb D p * 2 ^ L ≤ sb D p * 2 ^ (bits + d) := Nat.mul_le_mul_left _ (Nat.pow_le_pow_right (by decide) (by omega))
      have a3 : sa N p < sb D p * 2 ^ (bits + d) := by omega
      have a4 : sa N p * sb D step < sb D p * 2 ^ (bits + d) * sb D step := Nat.mul_lt_mul_of_pos_right a3 Bs
      rw [← c] at a4
      have a5 : sb D p * 2 ^ (bits + d) * sb D step = 2 ^ bits * sb D step * (sb D p * 2 ^ d) := by rw [Nat.pow_add]; simp only [Nat.mul_assoc, Nat.mul_left_comm, Nat.mul_comm]
      rw [a5] at a4
      exact Nat.lt_of_mul_lt_mul_right a4
    · obtain ⟨d, hd⟩ : ∃ d : Nat, p = step + d := ⟨(p - step).toNat, by omega⟩
      have c := sc_cross N D step p d hd
      have e1 : bits = L + d + k := by omega
      have a1 : sa N p < sb D p * 2 ^ L := Nat.lt_of_lt_of_le hhi (Nat.mul_le_mul_left _ (by omega))
      have a4 : sa N p * (sb D step * 2 ^ d) < sb D p * 2 ^ L * (sb D step * 2 ^ d) := Nat.mul_lt_mul_of_pos_right a1 (Nat.mul_pos Bs (p2 _))
      rw [c] at a4
      have a5 : sb D p * 2 ^ L * (sb D step * 2 ^ d) = 2 ^ (L + d) * sb D step * sb D p := by rw [Nat.pow_add]; simp only [Nat.mul_assoc, Nat.mul_left_comm, Nat.mul_comm]
      rw [a5] at a4
      have a6 := Nat.lt_of_mul_lt_mul_right a4
      have a7 : 2 ^ (L + d) * sb D step ≤ 2 ^ bits * sb D step := Nat.mul_le_mul_right _ (Nat.pow_le_pow_right (by decide) (by omega))
      omega
  · rcases hs3 with h | h
    · right
      by_cases hp : p ≤ step - 1
      · obtain ⟨d, hd⟩ : ∃ d : Nat, step - 1 = p + d := ⟨(step - 1 - p).toNat, by omega⟩
        have c := sc_cross N D p (step - 1) d hd
        have e1 : bits + d = L - 1 := by omega
        have a1 : sb D p * 2 ^ (bits + d) ≤ sa N p := by rw [e1]; exact Nat.le_trans (Nat.mul_le_mul_left _ l0) hlo
        have a4 : sb D p * 2 ^ (bits + d) * sb D (step - 1) ≤ sa N p * sb D (step - 1) := Nat.mul_le_mul_right _ a1
        rw [← c] at a4
        have a5 : sb D p * 2 ^ (bits + d) * sb D (step - 1) = 2 ^ bits * sb D (step - 1) * (sb D p * 2 ^ d) := by rw [Nat.pow_add]; simp only [Nat.mul_assoc, Nat.mul_left_comm, Nat.mul_comm]
        rw [a5] at a4
        exact Nat.le_of_mul_le_mul_right a4 (Nat.mul_pos Bp (p2 _))
      · obtain ⟨d, hd⟩ : ∃ d : Nat, p = step - 1 + d := ⟨(p - (step - 1)).toNat, by omega⟩
        have c := sc_cross N D (step - 1) p d hd
        have e1 : bits = L - 1 + d := by omega
        have a1 : sb D p * 2 ^ (L - 1) ≤ sa N p := Nat.le_trans (Nat.mul_le_mul_left _ l0) hlo
        have a4 : sb D p * 2 ^ (L - 1) * (sb D (step - 1) * 2 ^ d) ≤ sa N p * (sb D (step - 1) * 2 ^ d) := Nat.mul_le_mul_right _ a1
        rw [c] at a4
        have a5 : sb D p * 2 ^ (L - 1) * (sb D (step - 1) * 2 ^ d) = 2 ^ bits * sb D (step - 1) * sb D p := by rw [e1, Nat.pow_add]; simp only [Nat.mul_assoc, Nat.mul_left_comm, Nat.mul_comm]
        rw [a5] at a4
        exact Nat.le_of_mul_le_mul_right a4 Bp
    · exact Or.inl h
  · intro h
    have m0 := up h
    have r0 : sa N p % sb D p = 0 := by rw [m0] at hm; simpa using hm.symm
    obtain ⟨d, hd⟩ : ∃ d : Nat, p = step + d := ⟨(p - step).toNat, by omega⟩
    have c := sc_cross N D step p d hd
    have ed : (p - step).toNat = d := by omega
    have ea : sa N p = sb D p * z := by omega
    rw [ea] at c
    have c2 : sa N step = z * 2 ^ d * sb D step := by
      have c3 : sa N step * sb D p = z * 2 ^ d * sb D step * sb D p := by rw [← c]; simp only [Nat.mul_assoc, Nat.mul_left_comm, Nat.mul_comm]
      exact Nat.eq_of_mul_eq_mul_right Bp c3
    rw [ed, c2]
    exact ⟨Nat.mul_div_cancel _ Bs, by rw [Nat.mul_mod_left]; rfl⟩
  · intro h
    obtain ⟨d, hd⟩ : ∃ d : Nat, step = p + d := ⟨(step - p).toNat, by omega⟩
    have c := sc_cross N D p step d hd
    have ed : (step - p).toNat = d := by omega
    have hX : 0 < sb D p * 2 ^ d := Nat.mul_pos Bp (p2 _)
    rw [ed]
    refine ⟨?_, ?_⟩
    · rw [cross_div _ _ _ _ Bs hX c, ← Nat.div_div_eq_div_mul, hz]
    · rw [left_cross _ _ _ _ Bs hX (cross_mod _ _ _ _ c), left_cut _ _ d Bp (by omega) m hm, hz]
end Go.Proofs.YtamoakodlmjbiaaDoor
