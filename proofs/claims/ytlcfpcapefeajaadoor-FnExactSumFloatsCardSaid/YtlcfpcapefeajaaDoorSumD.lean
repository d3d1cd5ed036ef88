/- sumOf, of any two numbers above 0: against the sum of both with the lesser power. -/
import Derived.Test.YtlcfpcapefeajaaDoorSumC
namespace Go.Proofs.YtlcfpcapefeajaaDoor
open Go.ChangeShapes Go.WideShapes Go.ChangeAt Go.RowKit
set_option linter.unusedVariables false
theorem sum_core (nb ns : Bool) (bl kp r BT ST u D : Nat) (P : Int) (more : Bool) (u0 : 0 < u) (D0 : 0 < D) (bl0 : 2 ^ 61 ≤ bl) (bl1 : bl < 2 ^ 62) (kp1 : kp < 2 ^ 62) (hk : more = true → kp < 281474976710656) (hm : more = decide (r ≠ 0)) (hr : r < D) (hB : BT * u = bl * D) (hS : ST * u = kp * D + r) :
    ∃ (rn : Bool) (z : Nat) (rm : Bool) (r' : Nat), (nb = ns → rn = nb ∧ z = bl + kp ∧ rm = more) ∧
      ((nb == ns) = false → ∀ v : World, Calls Tryd.prog 109 #[.agg #[.bool nb, .int .u64 (bl : Int), .int .i64 P, .bool false], .agg #[.bool ns, .int .u64 (kp : Int), .int .i64 P, .bool more]] v fun e w' => e = .returned (.agg #[.bool rn, .int .u64 (z : Int), .int .i64 P, .bool rm]) ∧ Below v.heap.size v w') ∧
      z < 2 ^ 64 ∧ (rm = true → 2 ^ 30 ≤ z) ∧ rm = decide (r' ≠ 0) ∧ r' < D ∧ (sgI nb (BT : Int) + sgI ns (ST : Int)).natAbs * u = z * D + r' ∧ (z ≠ 0 → decide (sgI nb (BT : Int) + sgI ns (ST : Int) < 0) = rn) ∧ (z = 0 → sgI nb (BT : Int) + sgI ns (ST : Int) = 0) := by
  have BT0 : 0 < BT := by
    rcases Nat.eq_zero_or_pos BT with h | h
    · rw [h, Nat.zero_mul] at hB
      have : 0 < bl * D := Nat.mul_pos (by omega) D0
      omega
    · exact h
  by_cases hn : nb = ns
  · subst hn
    refine ⟨nb, bl + kp, more, r, fun _ => ⟨rfl, rfl, rfl⟩, fun h => by simp at h, by omega, fun _ => by omega, hm, hr, ?_, fun _ => ?_, fun h => by omega⟩
    · have e : (sgI nb (BT : Int) + sgI nb (ST : Int)).natAbs = BT + ST := by cases nb <;> simp [sgI] <;> omega
      rw [e, Nat.add_mul, Nat.add_mul, hB, hS]; omega
    · cases nb <;> simp [sgI] <;> omega
  · have hne : (nb == ns) = false := by cases nb <;> cases ns <;> first | rfl | exact absurd rfl hn
    cases hmm : more
    · have hr0 : r = 0 := by rw [hmm] at hm; by_cases z : r = 0; exact z; rw [decide_eq_true z] at hm; cases hm
      subst hr0
      by_cases hle : kp ≤ bl
      · have hle2 : ST ≤ BT := by
          have h : ST * u ≤ BT * u := by rw [hB, hS]; have := Nat.mul_le_mul_right D hle; omega
          exact Nat.le_of_mul_le_mul_right h u0
        have hsub : (BT - ST) * u = (bl - kp) * D := by rw [Nat.sub_mul, Nat.sub_mul, hB, hS]; omega
        refine ⟨nb, bl - kp, false, 0, fun h => absurd h hn, fun _ v => ?_, by omega, (fun h => by cases h), by decide, D0, ?_, fun hz => ?_, fun hz => ?_⟩
        · have h := diff_ge nb ns (bl : Int) (kp : Int) P P false v (by omega) (by omega) (by omega) (fun h => by cases h)
          simp only [Bool.false_eq_true, if_false] at h
          rw [show ((bl - kp : Nat) : Int) = (bl : Int) - kp by omega]
          exact h
        · have e : (sgI nb (BT : Int) + sgI ns (ST : Int)).natAbs = BT - ST := by
            cases nb <;> cases ns <;> first | exact absurd rfl hn | (simp [sgI]; omega)
          rw [e, hsub]; omega
        · have hlt : ST < BT := by
            rcases Nat.lt_or_ge ST BT with h | h
            · exact h
            · have : BT - ST = 0 := by omega
              rw [this, Nat.zero_mul] at hsub
              have : 0 < (bl - kp) * D := Nat.mul_pos (by omega) D0
              omega
          cases nb <;> cases ns <;> first | exact absurd rfl hn | (simp [sgI]; omega)
        · have hz2 : BT - ST = 0 := by
            rw [hz, Nat.zero_mul] at hsub
            rcases Nat.mul_eq_zero.mp hsub with h | h
            · exact h
            · omega
          cases nb <;> cases ns <;> first | exact absurd rfl hn | (simp [sgI]; omega)
      · have hlt2 : BT ≤ ST := by
          have h : BT * u ≤ ST * u := by rw [hB, hS]; have := Nat.mul_le_mul_right D (show bl ≤ kp by omega); omega
          exact Nat.le_of_mul_le_mul_right h u0
        have hsub : (ST - BT) * u = (kp - bl) * D := by rw [Nat.sub_mul, Nat.sub_mul, hB, hS]; omega
        refine ⟨ns, kp - bl, false, 0, fun h => absurd h hn, fun _ v => ?_, by omega, (fun h => by cases h), by decide, D0, ?_, fun hz => ?_, fun hz => by omega⟩
        · have h := diff_lt nb ns (bl : Int) (kp : Int) P P v (by omega) (by omega) (by omega)
          rw [show ((kp - bl : Nat) : Int) = (kp : Int) - bl by omega]
          exact h
        · have e : (sgI nb (BT : Int) + sgI ns (ST : Int)).natAbs = ST - BT := by
            cases nb <;> cases ns <;> first | exact absurd rfl hn | (simp [sgI]; omega)
          rw [e, hsub]; omega
        · have hlt : BT < ST := by
            rcases Nat.lt_or_ge BT ST with h | h
            · exact h
            · have : ST - BT = 0 := by omega
              rw [this, Nat.zero_mul] at hsub
              have : 0 < (kp - bl) * D := Nat.mul_pos (by omega) D0
              omega
          cases nb <;> cases ns <;> first | exact absurd rfl hn | (simp [sgI]; omega)
    · have hk2 := hk hmm
      have hr0 : r ≠ 0 := by rw [hmm] at hm; exact of_decide_eq_true hm.symm
      have hkD : (kp + 1) * D ≤ bl * D := Nat.mul_le_mul_right D (by omega)
      rw [Nat.add_mul, Nat.one_mul] at hkD
      have hle2 : ST ≤ BT := by
        have h : ST * u ≤ BT * u := by rw [hB, hS]; omega
        exact Nat.le_of_mul_le_mul_right h u0
      have hsub : (BT - ST) * u = (bl - kp - 1) * D + (D - r) := by
        rw [Nat.sub_mul, Nat.sub_mul, Nat.sub_mul, Nat.one_mul, hB, hS]; omega
      have hlt : ST < BT := by
        rcases Nat.lt_or_ge ST BT with h | h
        · exact h
        · have : BT - ST = 0 := by omega
          rw [this, Nat.zero_mul] at hsub
          omega
      refine ⟨nb, bl - kp - 1, true, D - r, fun h => absurd h hn, fun _ v => ?_, by omega, fun _ => by omega, by rw [decide_eq_true (by omega : D - r ≠ 0)], by omega, ?_, fun hz => ?_, fun hz => by omega⟩
      · have h := diff_ge nb ns (bl : Int) (kp : Int) P P true v (by omega) (by omega) (by omega) (fun _ => by omega)
        simp only [if_true] at h
        rw [show ((bl - kp - 1 : Nat) : Int) = (bl : Int) - kp - 1 by omega]
        exact h
      · have e : (sgI nb (BT : Int) + sgI ns (ST : Int)).natAbs = BT - ST := by
          cases nb <;> cases ns <;> first | exact absurd rfl hn | (simp [sgI]; omega)
        rw [e, hsub]
      · cases nb <;> cases ns <;> first | exact absurd rfl hn | (simp [sgI]; omega)
theorem sgI_pow (n : Bool) (x a : Nat) : sgI n (x : Int) * 2 ^ a = sgI n ((x * 2 ^ a : Nat) : Int) := by
  cases n <;> simp [sgI, Int.neg_mul]
theorem hlen (x : Nat) (h : x < 281474976710656) : Hid (∀ v : World, Calls Tryd.prog 80 #[.int .u64 (x : Int)] v fun e w' => e = .returned (.int .i64 (Lib.bitLen x : Int)) ∧ w' = v) := by
  intro v
  have h := len64_any (x : Int) (by omega) (by omega) v
  rw [show ((x : Nat) : Int).toNat = x by omega] at h
  exact h
/-- sumOf of two numbers above 0. -/
theorem sum_any (nx ny : Bool) (x y : Nat) (p q : Int) (x0 : 0 < x) (x1 : x < 281474976710656) (y0 : 0 < y) (y1 : y < 281474976710656) (p0 : -1000 ≤ p) (p1 : p ≤ 700) (q0 : -1000 ≤ q) (q1 : q ≤ 700) (F T : Int) (hF : F = p ∧ p ≤ q ∨ F = q ∧ q ≤ p) (hT : T = sgI nx (x : Int) * 2 ^ (p - F).toNat + sgI ny (y : Int) * 2 ^ (q - F).toNat) :
    ∃ (rn : Bool) (z : Nat) (P : Int) (rm : Bool) (r : Nat), (∀ v : World, Calls Tryd.prog 94 #[.agg #[.bool nx, .int .u64 (x : Int), .int .i64 p, .bool false], .agg #[.bool ny, .int .u64 (y : Int), .int .i64 q, .bool false]] v fun e w' => e = .returned (.agg #[.bool rn, .int .u64 (z : Int), .int .i64 P, .bool rm]) ∧ Below v.heap.size v w') ∧
      -2000 ≤ P ∧ P ≤ 700 ∧ z < 2 ^ 64 ∧ (rm = true → 2 ^ 30 ≤ z) ∧ rm = decide (r ≠ 0) ∧ r < 2 ^ (P - F).toNat ∧ T.natAbs * 2 ^ (F - P).toNat = z * 2 ^ (P - F).toNat + r ∧ (z ≠ 0 → decide (T < 0) = rn) ∧ (z = 0 → T = 0) := by
  have lx := Lib.bitLen_le x 64 (by decide) (by omega)
  have ly := Lib.bitLen_le y 64 (by decide) (by omega)
  rw [sgI_pow, sgI_pow] at hT
  by_cases hsw : (Lib.bitLen x : Int) + p < Lib.bitLen y + q
  · obtain ⟨bl, kp, r, P, more, HL, HW, bl0, bl1, kp1, hk, P0, P1, hm, hr, hB, hS⟩ := sum_facts ny nx y x q p y0 y1 x0 x1 (by omega) q0 q1 p0 p1 F (by omega)
    obtain ⟨rn, z, rm, r', hsame, hdiff, z1, z30, hrm, hr', hTu, hs, hz⟩ := sum_core ny nx bl kp r _ _ _ _ P more (p2 _) (p2 _) bl0 bl1 kp1 hk hm hr hB hS
    rw [Int.add_comm, ← hT] at hTu hs hz
    refine ⟨rn, z, P, rm, r', fun v => ?_, P0, P1, z1, z30, hrm, hr', hTu, hs, hz⟩
    by_cases hn : nx = ny
    · subst hn
      obtain ⟨g1, g2, g3⟩ := hsame rfl
      rw [g1, g2, g3]
      have h := sum_swap_same nx (x : Int) p (y : Int) q (Lib.bitLen x : Int) (Lib.bitLen y : Int) (bl : Int) P (kp : Int) more v (by omega) (by omega) (by omega) (by omega) (by omega) (by omega) (by omega) (by omega) (by omega) (by omega) hsw (hlen x x1) (hlen y y1) HL HW (by omega) (by omega)
      rw [show ((bl + kp : Nat) : Int) = (bl : Int) + kp by omega]
      exact h
    · have h1 : (nx == ny) = false := by cases nx <;> cases ny <;> first | rfl | exact absurd rfl hn
      have h2 : (ny == nx) = false := by cases nx <;> cases ny <;> first | rfl | exact absurd rfl hn
      exact sum_swap_diff nx ny rn rm (z : Int) h1 (x : Int) p (y : Int) q (Lib.bitLen x : Int) (Lib.bitLen y : Int) (bl : Int) P (kp : Int) more v (by omega) (by omega) (by omega) (by omega) (by omega) (by omega) (by omega) (by omega) (by omega) (by omega) hsw (hlen x x1) (hlen y y1) HL HW (hdiff h2)
  · obtain ⟨bl, kp, r, P, more, HL, HW, bl0, bl1, kp1, hk, P0, P1, hm, hr, hB, hS⟩ := sum_facts nx ny x y p q x0 x1 y0 y1 (by omega) p0 p1 q0 q1 F hF
    obtain ⟨rn, z, rm, r', hsame, hdiff, z1, z30, hrm, hr', hTu, hs, hz⟩ := sum_core nx ny bl kp r _ _ _ _ P more (p2 _) (p2 _) bl0 bl1 kp1 hk hm hr hB hS
    rw [← hT] at hTu hs hz
    refine ⟨rn, z, P, rm, r', fun v => ?_, P0, P1, z1, z30, hrm, hr', hTu, hs, hz⟩
    by_cases hn : nx = ny
    · subst hn
      obtain ⟨g1, g2, g3⟩ := hsame rfl
      rw [g1, g2, g3]
      have h := sum_keep_same nx (x : Int) p (y : Int) q (Lib.bitLen x : Int) (Lib.bitLen y : Int) (bl : Int) P (kp : Int) more v (by omega) (by omega) (by omega) (by omega) (by omega) (by omega) (by omega) (by omega) (by omega) (by omega) hsw (hlen x x1) (hlen y y1) HL HW (by omega) (by omega)
      rw [show ((bl + kp : Nat) : Int) = (bl : Int) + kp by omega]
      exact h
    · have h1 : (nx == ny) = false := by cases nx <;> cases ny <;> first | rfl | exact absurd rfl hn
      exact sum_keep_diff nx ny rn rm (z : Int) h1 (x : Int) p (y : Int) q (Lib.bitLen x : Int) (Lib.bitLen y : Int) (bl : Int) P (kp : Int) more v (by omega) (by omega) (by omega) (by omega) (by omega) (by omega) (by omega) (by omega) (by omega) (by omega) hsw (hlen x x1) (hlen y y1) HL HW (hdiff h1)
end Go.Proofs.YtlcfpcapefeajaaDoor
