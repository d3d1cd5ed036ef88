/- What sumOf's two parts come to: the lifted one and the lowered one, against the sum of both with the lesser power. -/
import Derived.Test.YtlcfpcapefeajaaDoorPlus
namespace Go.Proofs.YtlcfpcapefeajaaDoor
open Go.ChangeShapes Go.WideShapes Go.ChangeAt Go.RowKit
set_option linter.unusedVariables false
theorem quot_g (A B : Nat) (E P : Int) : sa (A * 2 ^ E.toNat) P / sb (B * 2 ^ (-E).toNat) P = A * 2 ^ (E - P).toNat / (B * 2 ^ (P - E).toNat) ∧ (sa (A * 2 ^ E.toNat) P % sb (B * 2 ^ (-E).toNat) P = 0 ↔ A * 2 ^ (E - P).toNat % (B * 2 ^ (P - E).toNat) = 0) := by
  unfold sa sb
  obtain ⟨c, hc⟩ : ∃ c, E.toNat + (-P).toNat = (E - P).toNat + c := ⟨E.toNat + (-P).toNat - (E - P).toNat, by omega⟩
  have hc2 : (-E).toNat + P.toNat = (P - E).toNat + c := by omega
  have e1 : A * 2 ^ E.toNat * 2 ^ (-P).toNat = A * 2 ^ (E - P).toNat * 2 ^ c := by rw [Nat.mul_assoc, ← Nat.pow_add, hc, Nat.pow_add, Nat.mul_assoc]
  have e2 : B * 2 ^ (-E).toNat * 2 ^ P.toNat = B * 2 ^ (P - E).toNat * 2 ^ c := by rw [Nat.mul_assoc, ← Nat.pow_add, hc2, Nat.pow_add, Nat.mul_assoc]
  rw [e1, e2, Nat.mul_div_mul_right _ _ (p2 c), Nat.mul_mod_mul_right]
  refine ⟨rfl, ?_⟩
  rw [Nat.mul_eq_zero]
  have := p2 c
  omega
theorem sum_facts (nb ns : Bool) (B S : Nat) (pb ps : Int) (b0 : 0 < B) (b1 : B < 281474976710656) (s0 : 0 < S) (s1 : S < 281474976710656) (htop : (Lib.bitLen S : Int) + ps ≤ Lib.bitLen B + pb) (q0 : -1000 ≤ pb) (q1 : pb ≤ 700) (r0 : -1000 ≤ ps) (r1 : ps ≤ 700) (F : Int) (hF : F = pb ∧ pb ≤ ps ∨ F = ps ∧ ps ≤ pb) :
    ∃ (bl kp r : Nat) (P : Int) (more : Bool), (∀ v : World, Calls Tryd.prog 107 #[.agg #[.bool nb, .int .u64 (B : Int), .int .i64 pb, .bool false], .int .i64 62] v fun e w' => e = .returned (.agg #[.bool nb, .int .u64 (bl : Int), .int .i64 P, .bool false]) ∧ Below v.heap.size v w') ∧
      (∀ v : World, Calls Tryd.prog 108 #[.agg #[.bool ns, .int .u64 (S : Int), .int .i64 ps, .bool false], .int .i64 P] v fun e w' => e = .returned (.agg #[.bool ns, .int .u64 (kp : Int), .int .i64 P, .bool more]) ∧ Below v.heap.size v w') ∧
      2 ^ 61 ≤ bl ∧ bl < 2 ^ 62 ∧ kp < 2 ^ 62 ∧ (more = true → kp < 281474976710656) ∧ -2000 ≤ P ∧ P ≤ 700 ∧ more = decide (r ≠ 0) ∧ r < 2 ^ (P - F).toNat ∧
      B * 2 ^ (pb - F).toNat * 2 ^ (F - P).toNat = bl * 2 ^ (P - F).toNat ∧ S * 2 ^ (ps - F).toNat * 2 ^ (F - P).toNat = kp * 2 ^ (P - F).toNat + r := by
  obtain ⟨L0, lb0, lb1⟩ := bitLen_spec B (by omega) (by omega)
  have l48 := Lib.bitLen_le B 48 (by decide) (by omega)
  obtain ⟨M0, mb0, mb1⟩ := bitLen_spec S (by omega) (by omega)
  have m48 := Lib.bitLen_le S 48 (by decide) (by omega)
  obtain ⟨L, hL⟩ : ∃ L, Lib.bitLen B = L := ⟨_, rfl⟩
  obtain ⟨M, hM⟩ : ∃ M, Lib.bitLen S = M := ⟨_, rfl⟩
  rw [hL] at L0 lb0 lb1 l48 htop
  rw [hM] at M0 mb0 mb1 m48 htop
  obtain ⟨k, hk⟩ : ∃ k, L + k = 62 := ⟨62 - L, by omega⟩
  have Zlo : 2 ^ 61 ≤ B * 2 ^ k := by
    have h : 2 ^ (L - 1) * 2 ^ k ≤ B * 2 ^ k := Nat.mul_le_mul_right _ lb0
    rw [← Nat.pow_add, show L - 1 + k = 61 by omega] at h
    exact h
  have Zhi : B * 2 ^ k < 2 ^ 62 := by
    have h : B * 2 ^ k < 2 ^ L * 2 ^ k := Nat.mul_lt_mul_of_pos_right lb1 (p2 _)
    rw [← Nat.pow_add, hk] at h
    exact h
  obtain ⟨bl, hbl⟩ : ∃ Z, B * 2 ^ k = Z := ⟨_, rfl⟩
  rw [hbl] at Zlo Zhi
  obtain ⟨P, hP⟩ : ∃ P : Int, pb - (k : Int) = P := ⟨_, rfl⟩
  have HL : ∀ v : World, Calls Tryd.prog 107 #[.agg #[.bool nb, .int .u64 (B : Int), .int .i64 pb, .bool false], .int .i64 62] v fun e w' => e = .returned (.agg #[.bool nb, .int .u64 (bl : Int), .int .i64 P, .bool false]) ∧ Below v.heap.size v w' := by
    intro v
    have h := lift86 nb false (B : Int) pb (k : Int) (bl : Int) (L : Int) 62 v (by rw [show ((B : Nat) : Int).toNat = B by omega, hL]) (by omega) (by omega) (by omega) (by omega) (by omega) (by omega) (by omega) (by decide) (by rw [show ((k : Nat) : Int).toNat = k by omega, ← hbl]; exact (cast_pow B k).symm) (by omega) (by omega) (by omega) (by omega)
    rw [hP] at h
    exact h
  by_cases hc : P ≤ ps
  · obtain ⟨u, hu⟩ : ∃ u : Nat, ps - P = (u : Int) := ⟨(ps - P).toNat, by omega⟩
    have Khi : S * 2 ^ u < 2 ^ 62 := by
      have h : S * 2 ^ u < 2 ^ M * 2 ^ u := Nat.mul_lt_mul_of_pos_right mb1 (p2 _)
      rw [← Nat.pow_add] at h
      exact Nat.lt_of_lt_of_le h (Nat.pow_le_pow_right (by decide) (by omega))
    obtain ⟨kp, hkp⟩ : ∃ Z, S * 2 ^ u = Z := ⟨_, rfl⟩
    rw [hkp] at Khi
    refine ⟨bl, kp, 0, P, false, HL, fun v => ?_, Zlo, Zhi, Khi, by simp, by omega, by omega, by decide, p2 _, ?_, ?_⟩
    · exact lower99 ns (S : Int) ps P (P - ps) (kp : Int) 0 v rfl (by omega) (by omega) (by omega) (by omega) (fun v => by
        have h := cutBits_up ns (S : Int) ps (P - ps) false (by omega) (by omega) v
        rw [show (-(P - ps)).toNat = u by omega, ← cast_pow, hkp, Int.emod_eq_of_lt (by omega) (by omega)] at h
        exact h)
    · rw [show (P - F).toNat = 0 by omega, Nat.mul_assoc, ← Nat.pow_add, show (pb - F).toNat + (F - P).toNat = k by omega, hbl]; simp
    · rw [show (P - F).toNat = 0 by omega, Nat.mul_assoc, ← Nat.pow_add, show (ps - F).toNat + (F - P).toNat = u by omega, hkp]; simp
  · obtain ⟨d, hd⟩ : ∃ d : Nat, P - ps = (d : Int) := ⟨(P - ps).toNat, by omega⟩
    have hFp : F = ps := by omega
    have hkl : S / 2 ^ d ≤ S := Nat.div_le_self _ _
    have hr : S % 2 ^ d < 2 ^ d := Nat.mod_lt _ (p2 _)
    have hm : S / 2 ^ d * 2 ^ d + S % 2 ^ d = S := by rw [Nat.mul_comm]; exact Nat.div_add_mod S (2 ^ d)
    have k1 : (S : Int) / 2 ^ d = ((S / 2 ^ d : Nat) : Int) := by push_cast; rfl
    have k2 : (S : Int) % 2 ^ d = ((S % 2 ^ d : Nat) : Int) := by push_cast; rfl
    obtain ⟨kp, hkp⟩ : ∃ Z, S / 2 ^ d = Z := ⟨_, rfl⟩
    obtain ⟨r, hrr⟩ : ∃ Z, S % 2 ^ d = Z := ⟨_, rfl⟩
    rw [hkp] at hkl hm k1
    rw [hrr] at hr hm k2
    obtain ⟨c, hcc⟩ : ∃ c, cutI (r : Int) (2 ^ (d - 1)) false = c := ⟨_, rfl⟩
    have hmore : (c != 0) = decide (r ≠ 0) := by
      rw [← hcc]; unfold cutI
      by_cases z : r = 0
      · subst z; simp
      · rw [decide_eq_true z]
        repeat' split
        · omega
        all_goals decide
    refine ⟨bl, kp, r, P, decide (r ≠ 0), HL, fun v => ?_, Zlo, Zhi, by omega, fun _ => by omega, by omega, by omega, rfl, ?_, ?_, ?_⟩
    · have h := lower99 ns (S : Int) ps P (P - ps) (kp : Int) c v rfl (by omega) (by omega) (by omega) (by omega) (fun v => by
        have h := cutBits_dn ns (S : Int) ps (P - ps) false (by omega) (by omega) (by omega) (by omega) v
        rw [show (P - ps).toNat = d by omega, k1, k2, hcc] at h
        exact h)
      rw [hmore] at h
      exact h
    · rw [show (P - F).toNat = d by omega]; exact hr
    · rw [show (P - F).toNat = d by omega, show (F - P).toNat = 0 by omega, show (pb - F).toNat = k + d by omega, Nat.pow_add, ← Nat.mul_assoc, hbl]; simp
    · rw [show (P - F).toNat = d by omega, show (F - P).toNat = 0 by omega, show (ps - F).toNat = 0 by omega, hm]; simp
end Go.Proofs.YtlcfpcapefeajaaDoor
