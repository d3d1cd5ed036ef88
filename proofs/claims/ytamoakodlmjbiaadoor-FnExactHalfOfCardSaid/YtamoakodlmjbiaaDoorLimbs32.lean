/- Contract of the model's l1Div over any numbers above 0, by what they stand for; conditions: at most 9,000 limbs each. -/
import Derived.Test.YtamoakodlmjbiaaDoorLimbs31
namespace Go.Proofs.YtamoakodlmjbiaaDoor
open Go.ChangeShapes Go.WideShapes Go.ChangeAt Go.RowKit
theorem num_div {w : World} {K L : Nat} {a b : Value} {A B : Int} (HA : Num w K a A) (HB : Num w L b B) (hK : 2 ≤ K) (hL : 2 ≤ L) (hK2 : K ≤ 9000) (hL2 : L ≤ 9000) (a0 : 0 < A) (b0 : 0 < B) :
    Calls Tryd.prog 98 #[a, b] w fun r w' => ∃ vq vr, r = .returned (.tuple #[vq, vr]) ∧ Num w' (K + 2) vq (A / B) ∧ Num w' (L + 2) vr (A % B) ∧ Below w.heap.size w w' := by
  obtain ⟨sa, na, n, x, va, ga, pa, ta, ca, rfl, RA, nK, n0, tx, eA, SA⟩ := HA.rep2 hK (by omega)
  obtain ⟨sb, nb, m, y, vb, gb, pb, tb, cb, rfl, RB, mL, m0, ty, eB, SB⟩ := HB.rep2 hL (by omega)
  obtain ⟨m1, rfl⟩ : ∃ m1, m = m1 + 1 := ⟨m - 1, by omega⟩
  simp only [Nat.add_sub_cancel] at ty
  have hna : na = false := by
    cases na
    · rfl
    · rw [eA] at a0; simp [sg] at a0; omega
  have hnb : nb = false := by
    cases nb
    · rfl
    · rw [eB] at b0; simp [sg] at b0; omega
  subst hna hnb
  rw [sg_false] at eA eB
  have fin : ∀ {w' : World} {vq vr : Value}, Num w' (n + 2) vq ((val x n / val y (m1 + 1) : Nat) : Int) → Num w' (m1 + 3) vr ((val x n % val y (m1 + 1) : Nat) : Int) → Num w' (K + 2) vq (A / B) ∧ Num w' (L + 2) vr (A % B) := by
    intro w' vq vr h1 h2
    rw [Int.natCast_ediv, ← eA, ← eB] at h1
    rw [Int.natCast_emod, ← eA, ← eB] at h2
    exact ⟨h1.mono (by omega), h2.mono (by omega)⟩
  cases sa
  · exact (rDiv_great sb n m1 x y va vb ga gb pa pb ta ca tb cb w RA RB (by omega) (by omega) ty).mono fun e w' ⟨vq, vr, h1, h2, h3, h4⟩ => ⟨vq, vr, h1, (fin h2 h3).1, (fin h2 h3).2, h4⟩
  cases sb
  · exact (rDiv_small n m1 x y va vb ga gb pa pb ta ca tb cb w RA RB (by omega) (by omega) ty).mono fun e w' ⟨vq, vr, h1, h2, h3, h4⟩ => ⟨vq, vr, h1, (fin h2 h3).1, (fin h2 h3).2, h4⟩
  · obtain ⟨eqA, a1, a2⟩ := SA rfl
    obtain ⟨eqB, b1, b2⟩ := SB rfl
    rw [eqA, eqB]
    have q0 : 0 ≤ A / B := Int.ediv_nonneg (by omega) (by omega)
    have q1 : A / B ≤ A := Int.ediv_le_self _ (by omega)
    have r0 := Int.emod_nonneg A (Int.ne_of_gt b0)
    have r1 := Int.emod_lt_of_pos A b0
    exact (zDiv A B (by omega) a2 b0 b2 w).mono fun e w' ⟨h1, h2⟩ => ⟨_, _, h1, num_small w' _ _ (by omega) (by omega), num_small w' _ _ (by omega) (by omega), h2⟩
end Go.Proofs.YtamoakodlmjbiaaDoor
