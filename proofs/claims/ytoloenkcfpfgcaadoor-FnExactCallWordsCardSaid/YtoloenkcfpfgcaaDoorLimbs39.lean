/- Plain mathematics: a number ahead of its rounding (a size, a power, whether more is left) and the same number as a fraction have the same step, the same kept size and the same kind of what is cut off. The program's roundExact and the model's l1Told give the same bits, for both forms and every mode, where a size, a power and whether more is left stand for the fraction; conditions: powers up to 800, numbers below 10^540. -/
import Derived.Test.YtoloenkcfpfgcaaDoorLimbs34
import Derived.Test.YtoloenkcfpfgcaaDoorCut
import Derived.Test.YtoloenkcfpfgcaaDoorLen
import Derived.Test.YtoloenkcfpfgcaaDoorLimbs35
import Derived.Test.YtoloenkcfpfgcaaDoorLimbs36
import Derived.Test.YtoloenkcfpfgcaaDoorLimbs37
namespace Go.Proofs.YtoloenkcfpfgcaaDoor
theorem sc_cross (N D : Nat) (i j : Int) (d : Nat) (h : j = i + d) : sa N j * (sb D i * 2 ^ d) = sa N i * sb D j := by
  unfold sa sb
  have e : (-i).toNat + j.toNat = (-j).toNat + i.toNat + d := by omega
  have e2 : 2 ^ (-i).toNat * 2 ^ j.toNat = 2 ^ (-j).toNat * 2 ^ i.toNat * 2 ^ d := by rw [← Nat.pow_add, ← Nat.pow_add, ← Nat.pow_add, e]
  have l : N * 2 ^ (-j).toNat * (D * 2 ^ i.toNat * 2 ^ d) = N * D * (2 ^ (-j).toNat * 2 ^ i.toNat * 2 ^ d) := by
    simp only [Nat.mul_assoc, Nat.mul_left_comm]
  have r : N * 2 ^ (-i).toNat * (D * 2 ^ j.toNat) = N * D * (2 ^ (-i).toNat * 2 ^ j.toNat) := by
    simp only [Nat.mul_assoc, Nat.mul_left_comm]
  rw [l, r, e2]
theorem cross_div (A' B' A X : Nat) (hB : 0 < B') (hX : 0 < X) (h : A' * X = A * B') : A' / B' = A / X := by
  rw [← Nat.mul_div_mul_right A' B' hX, h, Nat.mul_comm B' X, Nat.mul_div_mul_right _ _ hB]
theorem cross_mod (A' B' A X : Nat) (h : A' * X = A * B') : A' % B' * X = A % X * B' := by
  rw [← Nat.mul_mod_mul_right X A' B', h, Nat.mul_comm B' X, Nat.mul_mod_mul_right]
theorem left_cross (r' B' r X : Nat) (hB : 0 < B') (hX : 0 < X) (h : r' * X = r * B') : leftI r' B' = leftI r X := by
  have z : r' = 0 ↔ r = 0 := by
    constructor
    · intro e; rw [e, Nat.zero_mul] at h
      rcases Nat.mul_eq_zero.1 h.symm with h1 | h1 <;> omega
    · intro e; rw [e, Nat.zero_mul] at h
      rcases Nat.mul_eq_zero.1 h with h1 | h1 <;> omega
  have l : 2 * r' < B' ↔ 2 * r < X := by
    have k1 : 2 * r' * X = 2 * r * B' := by rw [Nat.mul_assoc, h, Nat.mul_assoc]
    constructor
    · intro q
      have k2 : 2 * r' * X < B' * X := Nat.mul_lt_mul_of_pos_right q hX
      rw [k1, Nat.mul_comm B' X] at k2
      exact Nat.lt_of_mul_lt_mul_right k2
    · intro q
      have k2 : 2 * r * B' < X * B' := Nat.mul_lt_mul_of_pos_right q hB
      rw [← k1, Nat.mul_comm X B'] at k2
      exact Nat.lt_of_mul_lt_mul_right k2
  have e : 2 * r' = B' ↔ 2 * r = X := by
    have k1 : 2 * r' * X = 2 * r * B' := by rw [Nat.mul_assoc, h, Nat.mul_assoc]
    constructor
    · intro q; rw [q, Nat.mul_comm] at k1; exact (Nat.eq_of_mul_eq_mul_right hB k1).symm
    · intro q; rw [q, Nat.mul_comm X] at k1; exact Nat.eq_of_mul_eq_mul_right hX k1
  unfold leftI
  simp only [z, l, e]
theorem left_cut (A B d : Nat) (hB : 0 < B) (d0 : 0 < d) (m : Bool) (hm : m = decide (A % B ≠ 0)) :
    leftI (A % (B * 2 ^ d)) (B * 2 ^ d) = cutI ((A / B % 2 ^ d : Nat) : Int) ((2 ^ (d - 1) : Nat) : Int) m := by
  obtain ⟨e, rfl⟩ : ∃ e, d = e + 1 := ⟨d - 1, by omega⟩
  rw [Nat.mod_mul, Nat.add_sub_cancel]
  have hρ := Nat.mod_lt A hB
  obtain ⟨ρ, eρ⟩ : ∃ ρ, A % B = ρ := ⟨_, rfl⟩
  obtain ⟨u, eu⟩ : ∃ u, A / B % 2 ^ (e + 1) = u := ⟨_, rfl⟩
  obtain ⟨H, eH⟩ : ∃ H, 2 ^ e = H := ⟨_, rfl⟩
  rw [eρ] at hρ hm
  rw [eρ, eu, Nat.pow_succ, eH]
  have hX : B * (H * 2) = 2 * (B * H) := by rw [← Nat.mul_assoc, Nat.mul_comm]
  have zu : B * u = 0 ↔ u = 0 := by rw [Nat.mul_eq_zero]; omega
  have lt1 : u < H → ρ + B * u < B * H := fun h => by
    have : B * (u + 1) ≤ B * H := Nat.mul_le_mul_left _ h
    rw [Nat.mul_succ] at this; omega
  have ge1 : ¬ u < H → B * H ≤ B * u := fun h => Nat.mul_le_mul_left _ (by omega)
  have gt1 : H < u → B * H + B ≤ B * u := fun h => by
    have : B * (H + 1) ≤ B * u := Nat.mul_le_mul_left _ h
    rw [Nat.mul_succ] at this; exact this
  have eqH : u = H → B * u = B * H := fun h => by rw [h]
  unfold leftI cutI
  rw [hX]
  have mt : m = false ↔ ρ = 0 := by rw [hm]; simp
  by_cases h0 : ρ + B * u = 0
  · rw [if_pos h0, if_pos ⟨by have := zu.1 (by omega); omega, mt.2 (by omega)⟩]
  · have n0 : ¬ ((u : Int) = 0 ∧ m = false) := fun ⟨a, b⟩ => h0 (by have h1 := mt.1 b; have h2 := zu.2 (by omega); omega)
    rw [if_neg h0, if_neg n0]
    by_cases h1 : u < H
    · have c1 : 2 * (ρ + B * u) < 2 * (B * H) := by have := lt1 h1; omega
      have c2 : (u : Int) < (H : Int) := by omega
      rw [if_pos c1, if_pos c2]
    · have g1 := ge1 h1
      have c1 : ¬ 2 * (ρ + B * u) < 2 * (B * H) := by omega
      have c2 : ¬ (u : Int) < (H : Int) := by omega
      rw [if_neg c1, if_neg c2]
      by_cases h2 : u = H
      · have e1 := eqH h2
        by_cases h3 : ρ = 0
        · have c3 : 2 * (ρ + B * u) = 2 * (B * H) := by omega
          have c4 : (u : Int) = (H : Int) ∧ m = false := ⟨by omega, mt.2 h3⟩
          rw [if_pos c3, if_pos c4]
        · have c3 : ¬ 2 * (ρ + B * u) = 2 * (B * H) := by omega
          have c4 : ¬ ((u : Int) = (H : Int) ∧ m = false) := fun ⟨_, b⟩ => h3 (mt.1 b)
          rw [if_neg c3, if_neg c4]
      · have g2 := gt1 (by omega)
        have c3 : ¬ 2 * (ρ + B * u) = 2 * (B * H) := by omega
        have c4 : ¬ ((u : Int) = (H : Int) ∧ m = false) := fun ⟨a, _⟩ => h2 (by omega)
        rw [if_neg c3, if_neg c4]
/-- The facts that the model's rounding asks for, from a size, a power and whether more is left. -/
theorem join_facts (bits : Nat) (FL : Int) (N D z L : Nat) (p step : Int) (m : Bool) (Dp : 0 < D) (hz : sa N p / sb D p = z) (hm : m = decide (sa N p % sb D p ≠ 0))
    (l0 : 2 ^ (L - 1) ≤ z) (l1 : z < 2 ^ L) (L0 : 0 < L) (hs1 : (L : Int) + p - bits ≤ step) (hs3 : step = L + p - bits ∨ step = FL) (up : step ≤ p → m = false) :
    sa N step < 2 ^ bits * sb D step ∧ (step = FL ∨ 2 ^ bits * sb D (step - 1) ≤ sa N (step - 1)) ∧
    (step ≤ p → sa N step / sb D step = z * 2 ^ (p - step).toNat ∧ leftI (sa N step % sb D step) (sb D step) = 0) ∧
    (p < step → sa N step / sb D step = z / 2 ^ (step - p).toNat ∧ leftI (sa N step % sb D step) (sb D step) = cutI ((z % 2 ^ (step - p).toNat : Nat) : Int) ((2 ^ ((step - p).toNat - 1) : Nat) : Int) m) := by
  have Bp := sb_pos D p Dp
  have Bs := sb_pos D step Dp
  have dm := Nat.div_add_mod (sa N p) (sb D p)
  have ml := Nat.mod_lt (sa N p) Bp
  rw [hz] at dm
  have hlo : sb D p * z ≤ sa N p := by omega
  have hhi : sa N p < sb D p * (z + 1) := by rw [Nat.mul_succ]; omega
  refine ⟨?_, ?_, ?_, ?_⟩
  · -- V < 2^(bits + step)
    obtain ⟨k, hk⟩ : ∃ k : Nat, step + bits = p + L + k := ⟨(step + bits - p - L).toNat, by omega⟩
    by_cases h : p ≤ step
    · obtain ⟨d, hd⟩ : ∃ d : Nat, step = p + d := ⟨(step - p).toNat, by omega⟩
      have c := sc_cross N D p step d hd
      have e1 : bits + d = L + k := by omega
      have a1 : sa N p < sb D p * 2 ^ L := Nat.lt_of_lt_of_le hhi (Nat.mul_le_mul_left _ (by omega))
      have a2 : sb D p * 2 ^ L ≤ sb D p * 2 ^ (bits + d) := Nat.mul_le_mul_left _ (Nat.pow_le_pow_right (by decide) (by omega))
      have a3 : sa N p < sb D p * 2 ^ (bits + d) := by omega
      have a4 : sa N p * sb D step < sb D p * 2 ^ (bits + d) * sb D step := Nat.mul_lt_mul_of_pos_right a3 Bs
      rw [← c] at a4
      have a5 : sb D p * 2 ^ (bits + d) * sb D step = 2 ^ bits * sb D step * (sb D p * 2 ^ d) := by rw [Nat.pow_add]; simp only [Nat.mul_assoc, Nat.mul_left_comm, Nat.mul_comm]
      rw [a5] at a4
      exact Nat.lt_of_mul_lt_mul_right a4
    · obtain ⟨d, hd⟩ : ∃ d : Nat, p = step + d := ⟨(p - step).toNat, by omega⟩
      have c := sc_cross N D step p d hd
      have e1 : bits = L + d + k := by omega
      have a1 : sa N p < sb D p * 2 ^ L := Nat.lt_of_lt_of_le hhi (Nat.mul_le_mul_left _ (by omega))
      have a4 : sa N p * (sb D step * 2 ^ d) < sb D p * 2 ^ L * (sb D step * 2 ^ d) := Nat.mul_lt_mul_of_pos_right a1 (Nat.mul_pos Bs (p2 _))
      rw [c] at a4
      have a5 : sb D p * 2 ^ L * (sb D step * 2 ^ d) = 2 ^ (L + d) * sb D step * sb D p := by rw [Nat.pow_add]; simp only [Nat.mul_assoc, Nat.mul_left_comm, Nat.mul_comm]
      rw [a5] at a4
      have a6 := Nat.lt_of_mul_lt_mul_right a4
      have a7 : 2 ^ (L + d) * sb D step ≤ 2 ^ bits * sb D step := Nat.mul_le_mul_right _ (Nat.pow_le_pow_right (by decide) (by omega))
      omega
  · rcases hs3 with h | h
    · right
      by_cases hp : p ≤ step - 1
      · obtain ⟨d, hd⟩ : ∃ d : Nat, step - 1 = p + d := ⟨(step - 1 - p).toNat, by omega⟩
        have c := sc_cross N D p (step - 1) d hd
        have e1 : bits + d = L - 1 := by omega
        have a1 : sb D p * 2 ^ (bits + d) ≤ sa N p := by rw [e1]; exact Nat.le_trans (Nat.mul_le_mul_left _ l0) hlo
        have a4 : sb D p * 2 ^ (bits + d) * sb D (step - 1) ≤ sa N p * sb D (step - 1) := Nat.mul_le_mul_right _ a1
        rw [← c] at a4
        have a5 : sb D p * 2 ^ (bits + d) * sb D (step - 1) = 2 ^ bits * sb D (step - 1) * (sb D p * 2 ^ d) := by rw [Nat.pow_add]; simp only [Nat.mul_assoc, Nat.mul_left_comm, Nat.mul_comm]
        rw [a5] at a4
        exact Nat.le_of_mul_le_mul_right a4 (Nat.mul_pos Bp (p2 _))
      · obtain ⟨d, hd⟩ : ∃ d : Nat, p = step - 1 + d := ⟨(p - (step - 1)).toNat, by omega⟩
        have c := sc_cross N D (step - 1) p d hd
        have e1 : bits = L - 1 + d := by omega
        have a1 : sb D p * 2 ^ (L - 1) ≤ sa N p := Nat.le_trans (Nat.mul_le_mul_left _ l0) hlo
        have a4 : sb D p * 2 ^ (L - 1) * (sb D (step - 1) * 2 ^ d) ≤ sa N p * (sb D (step - 1) * 2 ^ d) := Nat.mul_le_mul_right _ a1
        rw [c] at a4
        have a5 : sb D p * 2 ^ (L - 1) * (sb D (step - 1) * 2 ^ d) = 2 ^ bits * sb D (step - 1) * sb D p := by rw [e1, Nat.pow_add]; simp only [Nat.mul_assoc, Nat.mul_left_comm, Nat.mul_comm]
        rw [a5] at a4
        exact Nat.le_of_mul_le_mul_right a4 Bp
    · exact Or.inl h
  · intro h
    have m0 := up h
    have r0 : sa N p % sb D p = 0 := by rw [m0] at hm; simpa using hm.symm
    obtain ⟨d, hd⟩ : ∃ d : Nat, p = step + d := ⟨(p - step).toNat, by omega⟩
    have c := sc_cross N D step p d hd
    have ed : (p - step).toNat = d := by omega
    have ea : sa N p = sb D p * z := by omega
    rw [ea] at c
    have c2 : sa N step = z * 2 ^ d * sb D step := by
      have c3 : sa N step * sb D p = z * 2 ^ d * sb D step * sb D p := by rw [← c]; simp only [Nat.mul_assoc, Nat.mul_left_comm, Nat.mul_comm]
      exact Nat.eq_of_mul_eq_mul_right Bp c3
    rw [ed, c2]
    exact ⟨Nat.mul_div_cancel _ Bs, by rw [Nat.mul_mod_left]; rfl⟩
  · intro h
    obtain ⟨d, hd⟩ : ∃ d : Nat, step = p + d := ⟨(step - p).toNat, by omega⟩
    have c := sc_cross N D p step d hd
    have ed : (step - p).toNat = d := by omega
    have hX : 0 < sb D p * 2 ^ d := Nat.mul_pos Bp (p2 _)
    rw [ed]
    refine ⟨?_, ?_⟩
    · rw [cross_div _ _ _ _ Bs hX c, ← Nat.div_div_eq_div_mul, hz]
    · rw [left_cross _ _ _ _ Bs hX (cross_mod _ _ _ _ c), left_cut _ _ d Bp (by omega) m hm, hz]
end Go.Proofs.YtoloenkcfpfgcaaDoor
namespace Go.Proofs.YtoloenkcfpfgcaaDoor
open Go.ChangeShapes Go.WideShapes Go.ChangeAt Go.RowKit
set_option linter.unusedVariables false
theorem bitLen_spec : ∀ x : Nat, 0 < x → x < 2 ^ 64 → 0 < Lib.bitLen x ∧ 2 ^ (Lib.bitLen x - 1) ≤ x ∧ x < 2 ^ Lib.bitLen x := by
  intro x
  induction x using Nat.strongRecOn with
  | _ x ih =>
    intro h0 h1
    have hh := Lib.bitLen_half x (by omega) h1
    by_cases h : x / 2 = 0
    · have e : Lib.bitLen (x / 2) = 0 := by rw [h]; decide
      rw [e] at hh
      rw [hh]
      have : x = 1 := by omega
      subst this
      decide
    · obtain ⟨a, b, c⟩ := ih (x / 2) (by omega) (by omega) (by omega)
      rw [hh]
      obtain ⟨L, hL⟩ : ∃ L, Lib.bitLen (x / 2) = L + 1 := ⟨Lib.bitLen (x / 2) - 1, by omega⟩
      rw [hL] at b c ⊢
      rw [Nat.add_sub_cancel] at b
      rw [show 1 + (L + 1) - 1 = L + 1 by omega, show 1 + (L + 1) = L + 1 + 1 by omega]
      rw [Nat.pow_succ 2 (L + 1)]
      rw [Nat.pow_succ] at c ⊢
      exact ⟨by omega, by omega, by omega⟩
theorem half_le (bits : Nat) (b0 : 0 < bits) (N D : Nat) (es : Int) (Dp : 0 < D) (h : 2 ^ bits * sb D (es - 1) ≤ sa N (es - 1)) : 2 ^ (bits - 1) ≤ sa N es / sb D es := by
  have c := sc_cross N D (es - 1) es 1 (by omega)
  have Bs := sb_pos D es Dp
  have Bp := sb_pos D (es - 1) Dp
  rw [Nat.le_div_iff_mul_le Bs]
  have a : 2 ^ bits * sb D (es - 1) * sb D es ≤ sa N (es - 1) * sb D es := Nat.mul_le_mul_right _ h
  rw [← c] at a
  obtain ⟨k, rfl⟩ : ∃ k, bits = k + 1 := ⟨bits - 1, by omega⟩
  rw [Nat.add_sub_cancel]
  have e : 2 ^ (k + 1) * sb D (es - 1) * sb D es = 2 ^ k * sb D es * (sb D (es - 1) * 2 ^ 1) := by rw [Nat.pow_succ]; simp only [Nat.pow_one, Nat.mul_assoc, Nat.mul_left_comm, Nat.mul_comm]
  rw [e] at a
  exact Nat.le_of_mul_le_mul_right a (Nat.mul_pos Bp (by decide))

theorem told_lt_w (mode : Int) (neg : Bool) (K step : Int) (k0 : 0 ≤ K) (s0 : -149 ≤ step) : 0 ≤ told_w mode neg K step ∧ told_w mode neg K step < 4294967296 := by
  unfold told_w bey_w sgn_w
  split
  · split <;> split <;> omega
  · split <;> omega
set_option maxHeartbeats 2000000 in
theorem both_w (n : Bool) (z : Nat) (p : Int) (m : Bool) (mode : Int) (m0 : 0 ≤ mode) (m4 : mode ≤ 4) (z0 : 0 < z) (z1 : z < 18446744073709551616) (p0 : -10000 ≤ p) (p1 : p ≤ 800)
    (P Q E : Int) (P0 : P ≠ 0) (e0 : -1000 ≤ E) (e1 : E ≤ 1000) (N D N0 D0 : Nat) (hN0 : N0 = P.natAbs) (hD0 : (D0 : Int) = Q) (hN : N = N0 * 2 ^ E.toNat) (hD : D = D0 * 2 ^ (-E).toNat) (Dp : 0 < D0) (N9 : N < 1000000000 ^ 60) (D9 : D < 1000000000 ^ 60)
    (hn : decide (P < 0) = n) (hz : sa N p / sb D p = z) (hm : m = decide (sa N p % sb D p ≠ 0)) (up : m = true → 2 ^ 30 ≤ z) :
    ∃ R : Int, 0 ≤ R ∧ R < 4294967296 ∧
      (∀ v : World, Forms v → Calls Tryd.prog 55 #[.agg #[.bool n, .int .u64 (z : Int), .int .i64 p, .bool m], .int .i64 0, .int .i64 mode] v fun e w' => e = .returned (.int .u32 R) ∧ Below v.heap.size v w') ∧
      (∀ (v : World) (K L : Nat) (VP VQ : Int) (gP gQ : Bool) (pP pQ : Option Addr) (lP cP lQ cQ : Nat), Num v K (.agg #[.int .i64 VP, .bool gP, .slice pP lP cP]) P → Num v L (.agg #[.int .i64 VQ, .bool gQ, .slice pQ lQ cQ]) Q → 2 ≤ K → K ≤ 9000 →
        Calls Tryd.prog 35 #[.agg #[.int .i64 VP, .bool gP, .slice pP lP cP, .int .i64 VQ, .bool gQ, .slice pQ lQ cQ, .int .i64 E], .agg #[.int .i64 24, .int .i64 (-149), .int .i64 104], .int .i64 mode] v fun e w' => e = .returned (.int .i64 R) ∧ Below v.heap.size v w') := by
  obtain ⟨L0, l0, l1⟩ := bitLen_spec z z0 (by omega)
  have l64 := Lib.bitLen_le z 64 (by decide) (by omega)
  obtain ⟨L, hL⟩ : ∃ L, Lib.bitLen z = L := ⟨_, rfl⟩
  rw [hL] at L0 l0 l1 l64
  have Dpp : 0 < D := by rw [hD]; exact Nat.mul_pos Dp (p2 _)
  obtain ⟨step, s0, hs1, hs3⟩ : ∃ step : Int, (-149) ≤ step ∧ (L : Int) + p - 24 ≤ step ∧ (step = L + p - 24 ∨ step = (-149)) := by
    by_cases h : (L : Int) + p - 24 ≤ -149
    · exact ⟨-149, by omega, h, Or.inr rfl⟩
    · exact ⟨L + p - 24, by omega, by omega, Or.inl rfl⟩
  have hup : step ≤ p → m = false := by
    intro h
    cases m
    · rfl
    · have h40 := up rfl
      have : (2 : Nat) ^ 30 < 2 ^ L := by omega
      have := (Nat.pow_lt_pow_iff_right (a := 2) (by decide)).1 this
      omega
  obtain ⟨j1, j2, j3, j4⟩ := join_facts 24 (-149) N D z L p step m Dpp hz hm l0 l1 L0 hs1 hs3 hup
  have jT : sa N step < 16777216 * sb D step := j1
  have jG : step = (-149) ∨ 16777216 * sb D (step - 1) ≤ sa N (step - 1) := j2
  obtain ⟨M, hM⟩ : ∃ M : Nat, sa N step / sb D step = M := ⟨_, rfl⟩
  have M1 : M < 16777216 := by rw [← hM]; exact (Nat.div_lt_iff_lt_mul (sb_pos D step Dpp)).2 jT
  have Mh : step = (-149) ∨ 8388608 ≤ M := by
    rcases j2 with h | h
    · exact Or.inl h
    · right; rw [← hM]; exact half_le 24 (by decide) N D step Dpp h
  obtain ⟨c, hc⟩ : ∃ c, leftI (sa N step % sb D step) (sb D step) = c := ⟨_, rfl⟩
  obtain ⟨g, hg⟩ : ∃ g, goesB mode n (M : Int) c = g := ⟨_, rfl⟩
  obtain ⟨K', hK'⟩ : ∃ K' : Int, K' = if g then (M : Int) + 1 else (M : Int) := ⟨_, rfl⟩
  have K0 : 0 ≤ K' := by rw [hK']; split <;> omega
  have K1 : K' ≤ 16777216 := by rw [hK']; split <;> omega
  have KM : (M : Int) ≤ K' := by rw [hK']; split <;> omega
  obtain ⟨b0, b1⟩ := told_lt_w mode n K' step K0 s0
  refine ⟨told_w mode n K' step, b0, b1, ?_, ?_⟩
  · intro v G
    have hLI : (Lib.bitLen ((z : Nat) : Int).toNat : Int) = (L : Int) := by rw [show ((z : Nat) : Int).toNat = z by omega, hL]
    by_cases h : step - p ≤ 0
    · obtain ⟨e1', e2'⟩ := j3 (by omega)
      have g0 : g = false := by
        rw [← hg, ← hc, e2']
        have : mode = 0 ∨ mode = 1 ∨ mode = 2 ∨ mode = 3 ∨ mode = 4 := by omega
        rcases this with rfl | rfl | rfl | rfl | rfl <;> rfl
      have hMz : M = z * 2 ^ (p - step).toNat := by rw [← hM, e1']
      have hKM : K' = (M : Int) := by rw [hK', g0]; rfl
      have hcast : ((z : Nat) : Int) * 2 ^ (p - step).toNat = (M : Int) := by rw [hMz]; exact (cast_pow z _).symm
      have := rx_up_w n (z : Int) p mode m v G (by omega) (by omega) p0 (by omega) (L : Int) step K' hLI (by omega) (by omega) s0 (by omega) h (by rw [hcast, hKM]; exact Int.emod_eq_of_lt (by omega) (by omega)) K0 K1
      exact this
    · obtain ⟨e1', e2'⟩ := j4 (by omega)
      have hMz : ((z : Nat) : Int) / 2 ^ (step - p).toNat = (M : Int) := by
        rw [← hM, e1', Int.natCast_ediv]; simp
      have hcz : cutI (((z : Nat) : Int) % 2 ^ (step - p).toNat) (2 ^ ((step - p).toNat - 1)) m = c := by
        rw [← hc, e2', Int.natCast_emod]; simp
      have := rx_dn_w n (z : Int) p mode m v G (by omega) (by omega) p0 (by omega) (L : Int) step (M : Int) c g hLI (by omega) (by omega) s0 (by omega) (by omega) hMz (by omega) (by omega) hcz hg
      rw [← hK'] at this
      exact this
  · intro v K LL VP VQ gP gQ pP pQ lP cP lQ cQ HP HQ K2 K3
    have hr := fun (u : World) (hb : Below v.heap.size v u) => num_round_w (HP.next hb) (HQ.next hb) K2 K3 P0 E e0 e1 N D N0 D0 hN0 hD0 hN hD Dp N9 D9 mode m0 m4 n step s0 (by omega) jT jG (M : Int) c g (by rw [hM]) hc hg K' hK'
    obtain ⟨mm, hmm⟩ : ∃ mm : Int, mm = if K' = 16777216 then 8388608 else K' := ⟨_, rfl⟩
    obtain ⟨ee, hee⟩ : ∃ ee : Int, ee = if K' = 16777216 then step + 1 else step := ⟨_, rfl⟩
    rw [← hmm, ← hee] at hr
    have te := told_eq_w mode n K' step K0 K1 s0 (by omega) mm ee hmm hee
    have tc := told_core_w HP E mode m0 m4 n hn mm ee (by rw [hmm]; split <;> omega) (by rw [hmm]; split <;> omega) (by rw [hee]; split <;> omega) (by rw [hee]; split <;> omega) hr
    rw [te] at tc
    exact tc

theorem told_lt_h (mode : Int) (neg : Bool) (K step : Int) (k0 : 0 ≤ K) (s0 : -24 ≤ step) : 0 ≤ told_h mode neg K step ∧ told_h mode neg K step < 4294967296 := by
  unfold told_h bey_h sgn_h
  split
  · split <;> split <;> omega
  · split <;> omega
set_option maxHeartbeats 2000000 in
theorem both_h (n : Bool) (z : Nat) (p : Int) (m : Bool) (mode : Int) (m0 : 0 ≤ mode) (m4 : mode ≤ 4) (z0 : 0 < z) (z1 : z < 18446744073709551616) (p0 : -10000 ≤ p) (p1 : p ≤ 800)
    (P Q E : Int) (P0 : P ≠ 0) (e0 : -1000 ≤ E) (e1 : E ≤ 1000) (N D N0 D0 : Nat) (hN0 : N0 = P.natAbs) (hD0 : (D0 : Int) = Q) (hN : N = N0 * 2 ^ E.toNat) (hD : D = D0 * 2 ^ (-E).toNat) (Dp : 0 < D0) (N9 : N < 1000000000 ^ 60) (D9 : D < 1000000000 ^ 60)
    (hn : decide (P < 0) = n) (hz : sa N p / sb D p = z) (hm : m = decide (sa N p % sb D p ≠ 0)) (up : m = true → 2 ^ 30 ≤ z) :
    ∃ R : Int, 0 ≤ R ∧ R < 4294967296 ∧
      (∀ v : World, Forms v → Calls Tryd.prog 55 #[.agg #[.bool n, .int .u64 (z : Int), .int .i64 p, .bool m], .int .i64 1, .int .i64 mode] v fun e w' => e = .returned (.int .u32 R) ∧ Below v.heap.size v w') ∧
      (∀ (v : World) (K L : Nat) (VP VQ : Int) (gP gQ : Bool) (pP pQ : Option Addr) (lP cP lQ cQ : Nat), Num v K (.agg #[.int .i64 VP, .bool gP, .slice pP lP cP]) P → Num v L (.agg #[.int .i64 VQ, .bool gQ, .slice pQ lQ cQ]) Q → 2 ≤ K → K ≤ 9000 →
        Calls Tryd.prog 35 #[.agg #[.int .i64 VP, .bool gP, .slice pP lP cP, .int .i64 VQ, .bool gQ, .slice pQ lQ cQ, .int .i64 E], .agg #[.int .i64 11, .int .i64 (-24), .int .i64 5], .int .i64 mode] v fun e w' => e = .returned (.int .i64 R) ∧ Below v.heap.size v w') := by
  obtain ⟨L0, l0, l1⟩ := bitLen_spec z z0 (by omega)
  have l64 := Lib.bitLen_le z 64 (by decide) (by omega)
  obtain ⟨L, hL⟩ : ∃ L, Lib.bitLen z = L := ⟨_, rfl⟩
  rw [hL] at L0 l0 l1 l64
  have Dpp : 0 < D := by rw [hD]; exact Nat.mul_pos Dp (p2 _)
  obtain ⟨step, s0, hs1, hs3⟩ : ∃ step : Int, (-24) ≤ step ∧ (L : Int) + p - 11 ≤ step ∧ (step = L + p - 11 ∨ step = (-24)) := by
    by_cases h : (L : Int) + p - 11 ≤ -24
    · exact ⟨-24, by omega, h, Or.inr rfl⟩
    · exact ⟨L + p - 11, by omega, by omega, Or.inl rfl⟩
  have hup : step ≤ p → m = false := by
    intro h
    cases m
    · rfl
    · have h40 := up rfl
      have : (2 : Nat) ^ 30 < 2 ^ L := by omega
      have := (Nat.pow_lt_pow_iff_right (a := 2) (by decide)).1 this
      omega
  obtain ⟨j1, j2, j3, j4⟩ := join_facts 11 (-24) N D z L p step m Dpp hz hm l0 l1 L0 hs1 hs3 hup
  have jT : sa N step < 2048 * sb D step := j1
  have jG : step = (-24) ∨ 2048 * sb D (step - 1) ≤ sa N (step - 1) := j2
  obtain ⟨M, hM⟩ : ∃ M : Nat, sa N step / sb D step = M := ⟨_, rfl⟩
  have M1 : M < 2048 := by rw [← hM]; exact (Nat.div_lt_iff_lt_mul (sb_pos D step Dpp)).2 jT
  have Mh : step = (-24) ∨ 1024 ≤ M := by
    rcases j2 with h | h
    · exact Or.inl h
    · right; rw [← hM]; exact half_le 11 (by decide) N D step Dpp h
  obtain ⟨c, hc⟩ : ∃ c, leftI (sa N step % sb D step) (sb D step) = c := ⟨_, rfl⟩
  obtain ⟨g, hg⟩ : ∃ g, goesB mode n (M : Int) c = g := ⟨_, rfl⟩
  obtain ⟨K', hK'⟩ : ∃ K' : Int, K' = if g then (M : Int) + 1 else (M : Int) := ⟨_, rfl⟩
  have K0 : 0 ≤ K' := by rw [hK']; split <;> omega
  have K1 : K' ≤ 2048 := by rw [hK']; split <;> omega
  have KM : (M : Int) ≤ K' := by rw [hK']; split <;> omega
  obtain ⟨b0, b1⟩ := told_lt_h mode n K' step K0 s0
  refine ⟨told_h mode n K' step, b0, b1, ?_, ?_⟩
  · intro v G
    have hLI : (Lib.bitLen ((z : Nat) : Int).toNat : Int) = (L : Int) := by rw [show ((z : Nat) : Int).toNat = z by omega, hL]
    by_cases h : step - p ≤ 0
    · obtain ⟨e1', e2'⟩ := j3 (by omega)
      have g0 : g = false := by
        rw [← hg, ← hc, e2']
        have : mode = 0 ∨ mode = 1 ∨ mode = 2 ∨ mode = 3 ∨ mode = 4 := by omega
        rcases this with rfl | rfl | rfl | rfl | rfl <;> rfl
      have hMz : M = z * 2 ^ (p - step).toNat := by rw [← hM, e1']
      have hKM : K' = (M : Int) := by rw [hK', g0]; rfl
      have hcast : ((z : Nat) : Int) * 2 ^ (p - step).toNat = (M : Int) := by rw [hMz]; exact (cast_pow z _).symm
      have := rx_up_h n (z : Int) p mode m v G (by omega) (by omega) p0 (by omega) (L : Int) step K' hLI (by omega) (by omega) s0 (by omega) h (by rw [hcast, hKM]; exact Int.emod_eq_of_lt (by omega) (by omega)) K0 K1
      exact this
    · obtain ⟨e1', e2'⟩ := j4 (by omega)
      have hMz : ((z : Nat) : Int) / 2 ^ (step - p).toNat = (M : Int) := by
        rw [← hM, e1', Int.natCast_ediv]; simp
      have hcz : cutI (((z : Nat) : Int) % 2 ^ (step - p).toNat) (2 ^ ((step - p).toNat - 1)) m = c := by
        rw [← hc, e2', Int.natCast_emod]; simp
      have := rx_dn_h n (z : Int) p mode m v G (by omega) (by omega) p0 (by omega) (L : Int) step (M : Int) c g hLI (by omega) (by omega) s0 (by omega) (by omega) hMz (by omega) (by omega) hcz hg
      rw [← hK'] at this
      exact this
  · intro v K LL VP VQ gP gQ pP pQ lP cP lQ cQ HP HQ K2 K3
    have hr := fun (u : World) (hb : Below v.heap.size v u) => num_round_h (HP.next hb) (HQ.next hb) K2 K3 P0 E e0 e1 N D N0 D0 hN0 hD0 hN hD Dp N9 D9 mode m0 m4 n step s0 (by omega) jT jG (M : Int) c g (by rw [hM]) hc hg K' hK'
    obtain ⟨mm, hmm⟩ : ∃ mm : Int, mm = if K' = 2048 then 1024 else K' := ⟨_, rfl⟩
    obtain ⟨ee, hee⟩ : ∃ ee : Int, ee = if K' = 2048 then step + 1 else step := ⟨_, rfl⟩
    rw [← hmm, ← hee] at hr
    have te := told_eq_h mode n K' step K0 K1 s0 (by omega) mm ee hmm hee
    have tc := told_core_h HP E mode m0 m4 n hn mm ee (by rw [hmm]; split <;> omega) (by rw [hmm]; split <;> omega) (by rw [hee]; split <;> omega) (by rw [hee]; split <;> omega) hr
    rw [te] at tc
    exact tc
end Go.Proofs.YtoloenkcfpfgcaaDoor
