/- The program's roundExact and the model's l1Told give the same bits, for both forms and every mode, where a size, a power and whether more is left stand for the fraction; conditions: powers up to 800, numbers below 10^540. -/
import Derived.Test.YtamoakodlmjbiaaDoorLimbs35
import Derived.Test.YtamoakodlmjbiaaDoorLimbs36
import Derived.Test.YtamoakodlmjbiaaDoorLimbs37
import Derived.Test.YtamoakodlmjbiaaDoorLimbs38
namespace Go.Proofs.YtamoakodlmjbiaaDoor
open Go.ChangeShapes Go.WideShapes Go.ChangeAt Go.RowKit
set_option linter.unusedVariables false
theorem bitLen_spec : ∀ x : Nat, 0 < x → x < 2 ^ 64 → 0 < Lib.bitLen x ∧ 2 ^ (Lib.bitLen x - 1) ≤ x ∧ x < 2 ^ Lib.bitLen x := by
  intro x
  induction x using Nat.strongRecOn with
  | _ x ih =>
    intro h0 h1
    have hh := Lib.bitLen_half x (by omega) h1
    by_cases h : x / 2 = 0
    · have e : Lib.bitLen (x / 2) = 0 := by rw [h]; decide
      rw [e] at hh
      rw [hh]
      have : x = 1 := by omega
      subst this
      decide
    · obtain ⟨a, b, c⟩ := ih (x / 2) (by omega) (by omega) (by omega)
      rw [hh]
      obtain ⟨L, hL⟩ : ∃ L, Lib.bitLen (x / 2) = L + 1 := ⟨Lib.bitLen (x / 2) - 1, by omega⟩
      rw [hL] at b c ⊢
      rw [Nat.add_sub_cancel] at b
      rw [show 1 + (L + 1) - 1 = L + 1 by omega, show 1 + (L + 1) = L + 1 + 1 by omega]
      rw [Nat.pow_succ 2 (L + 1)]
      rw [Nat.pow_succ] at c ⊢
      exact ⟨by omega, by omega, by omega⟩
theorem half_le (bits : Nat) (b0 : 0 < bits) (N D : Nat) (es : Int) (Dp : 0 < D) (h : 2 ^ bits * sb D (es - 1) ≤ sa N (es - 1)) : 2 ^ (bits - 1) ≤ sa N es / sb D es := by
  have c := sc_cross N D (es - 1) es 1 (by omega)
  have Bs := sb_pos D es Dp
  have Bp := sb_pos D (es - 1) Dp
  rw [Nat.le_div_iff_mul_le Bs]
  have a : 2 ^ bits * sb D (es - 1) * sb D es ≤ sa N (es - 1) * sb D es := Nat.mul_le_mul_right _ h
  rw [← c] at a
  obtain ⟨k, rfl⟩ : ∃ k, bits = k + 1 := ⟨bits - 1, by omega⟩
  rw [Nat.add_sub_cancel]
  have e : 2 ^ (k + 1) * sb D (es - 1) * sb D es = 2 ^ k * sb D es * (sb D (es - 1) * 2 ^ 1) := by rw [Nat.pow_succ]; simp only [Nat.pow_one, Nat.mul_assoc, Nat.mul_left_comm, Nat.mul_comm]
  rw [e] at a
  exact Nat.le_of_mul_le_mul_right a (Nat.mul_pos Bp (by decide))

theorem told_lt_w (mode : Int) (neg : Bool) (K step : Int) (k0 : 0 ≤ K) (s0 : -149 ≤ step) : 0 ≤ told_w mode neg K step ∧ told_w mode neg K step < 4294967296 := by
  unfold told_w bey_w sgn_w
  split
  · split <;> split <;> omega
  · split <;> omega
set_option maxHeartbeats 2000000 in
theorem both_w (n : Bool) (z : Nat) (p : Int) (m : Bool) (mode : Int) (m0 : 0 ≤ mode) (m4 : mode ≤ 4) (z0 : 0 < z) (z1 : z < 18446744073709551616) (p0 : -10000 ≤ p) (p1 : p ≤ 800)
    (P Q E : Int) (P0 : P ≠ 0) (e0 : -1000 ≤ E) (e1 : E ≤ 1000) (N D N0 D0 : Nat) (hN0 : N0 = P.natAbs) (hD0 : (D0 : Int) = Q) (hN : N = N0 * 2 ^ E.toNat) (hD : D = D0 * 2 ^ (-E).toNat) (Dp : 0 < D0) (N9 : N < 1000000000 ^ 60) (D9 : D < 1000000000 ^ 60)
    (hn : decide (P < 0) = n) (hz : sa N p / sb D p = z) (hm : m = decide (sa N p % sb D p ≠ 0)) (up : m = true → 2 ^ 40 ≤ z) :
    ∃ R : Int, 0 ≤ R ∧ R < 4294967296 ∧
      (∀ v : World, Forms v → Calls Tryd.prog 52 #[.agg #[.bool n, .int .u64 (z : Int), .int .i64 p, .bool m], .int .i64 0, .int .i64 mode] v fun e w' => e = .returned (.int .u32 R) ∧ Below v.heap.size v w') ∧
      (∀ (v : World) (K L : Nat) (VP VQ : Int) (gP gQ : Bool) (pP pQ : Option Addr) (lP cP lQ cQ : Nat), Num v K (.agg #[.int .i64 VP, .bool gP, .slice pP lP cP]) P → Num v L (.agg #[.int .i64 VQ, .bool gQ, .slice pQ lQ cQ]) Q → 2 ≤ K → K ≤ 9000 →
        Calls Tryd.prog 40 #[.agg #[.int .i64 VP, .bool gP, .slice pP lP cP, .int .i64 VQ, .bool gQ, .slice pQ lQ cQ, .int .i64 E], .agg #[.int .i64 24, .int .i64 (-149), .int .i64 104], .int .i64 mode] v fun e w' => e = .returned (.int .i64 R) ∧ Below v.heap.size v w') := by
  obtain ⟨L0, l0, l1⟩ := bitLen_spec z z0 (by omega)
  have l64 := Lib.bitLen_le z 64 (by decide) (by omega)
  obtain ⟨L, hL⟩ : ∃ L, Lib.bitLen z = L := ⟨_, rfl⟩
  rw [hL] at L0 l0 l1 l64
  have Dpp : 0 < D := by rw [hD]; exact Nat.mul_pos Dp (p2 _)
  obtain ⟨step, s0, hs1, hs3⟩ : ∃ step : Int, (-149) ≤ step ∧ (L : Int) + p - 24 ≤ step ∧ (step = L + p - 24 ∨ step = (-149)) := by
    by_cases h : (L : Int) + p - 24 ≤ -149
    · exact ⟨-149, by omega, h, Or.inr rfl⟩
    · exact ⟨L + p - 24, by omega, by omega, Or.inl rfl⟩
  have hup : step ≤ p → m = false := by
    intro h
    cases m
    · rfl
    · have h40 := up rfl
      have : (2 : Nat) ^ 40 < 2 ^ L := by omega
      have := (Nat.pow_lt_pow_iff_right (a := 2) (by decide)).1 this
      omega
  obtain ⟨j1, j2, j3, j4⟩ := join_facts 24 (-149) N D z L p step m Dpp hz hm l0 l1 L0 hs1 hs3 hup
  have jT : sa N step < 16777216 * sb D step := j1
  have jG : step = (-149) ∨ 16777216 * sb D (step - 1) ≤ sa N (step - 1) := j2
  obtain ⟨M, hM⟩ : ∃ M : Nat, sa N step / sb D step = M := ⟨_, rfl⟩
  have M1 : M < 16777216 := by rw [← hM]; exact (Nat.div_lt_iff_lt_mul (sb_pos D step Dpp)).2 jT
  have Mh : step = (-149) ∨ 8388608 ≤ M := by
    rcases j2 with h | h
    · exact Or.inl h
    · right; rw [← hM]; exact half_le 24 (by decide) N D step Dpp h
  obtain ⟨c, hc⟩ : ∃ c, leftI (sa N step % sb D step) (sb D step) = c := ⟨_, rfl⟩
  obtain ⟨g, hg⟩ : ∃ g, goesB mode n (M : Int) c = g := ⟨_, rfl⟩
  obtain ⟨K', hK'⟩ : ∃ K' : Int, K' = if g then (M : Int) + 1 else (M : Int) := ⟨_, rfl⟩
  have K0 : 0 ≤ K' := by rw [hK']; split <;> omega
  have K1 : K' ≤ 16777216 := by rw [hK']; split <;> omega
  have KM : (M : Int) ≤ K' := by rw [hK']; split <;> omega
  obtain ⟨b0, b1⟩ := told_lt_w mode n K' step K0 s0
  refine ⟨told_w mode n K' step, b0, b1, ?_, ?_⟩
  · intro v G
    have hLI : (Lib.bitLen ((z : Nat) : Int).toNat : Int) = (L : Int) := by rw [show ((z : Nat) : Int).toNat = z by omega, hL]
    by_cases h : step - p ≤ 0
    · obtain ⟨e1', e2'⟩ := j3 (by omega)
      have g0 : g = false := by
        rw [← hg, ← hc, e2']
        have : mode = 0 ∨ mode = 1 ∨ mode = 2 ∨ mode = 3 ∨ mode = 4 := by omega
        rcases this with rfl | rfl | rfl | rfl | rfl <;> rfl
      have hMz : M = z * 2 ^ (p - step).toNat := by rw [← hM, e1']
      have hKM : K' = (M : Int) := by rw [hK', g0]; rfl
      have hcast : ((z : Nat) : Int) * 2 ^ (p - step).toNat = (M : Int) := by rw [hMz]; exact (cast_pow z _).symm
      have := rx_up_w n (z : Int) p mode m v G (by omega) (by omega) p0 (by omega) (L : Int) step K' hLI (by omega) (by omega) s0 (by omega) h (by rw [hcast, hKM]; exact Int.emod_eq_of_lt (by omega) (by omega)) K0 K1
      exact this
    · obtain ⟨e1', e2'⟩ := j4 (by omega)
      have hMz : ((z : Nat) : Int) / 2 ^ (step - p).toNat = (M : Int) := by
        rw [← hM, e1', Int.natCast_ediv]; simp
      have hcz : cutI (((z : Nat) : Int) % 2 ^ (step - p).toNat) (2 ^ ((step - p).toNat - 1)) m = c := by
        rw [← hc, e2', Int.natCast_emod]; simp
      have := rx_dn_w n (z : Int) p mode m v G (by omega) (by omega) p0 (by omega) (L : Int) step (M : Int) c g hLI (by omega) (by omega) s0 (by omega) (by omega) hMz (by omega) (by omega) hcz hg
      rw [← hK'] at this
      exact this
  · intro v K LL VP VQ gP gQ pP pQ lP cP lQ cQ HP HQ K2 K3
    have hr := fun (u : World) (hb : Below v.heap.size v u) => num_round_w (HP.next hb) (HQ.next hb) K2 K3 P0 E e0 e1 N D N0 D0 hN0 hD0 hN hD Dp N9 D9 mode m0 m4 n step s0 (by omega) jT jG (M : Int) c g (by rw [hM]) hc hg K' hK'
    obtain ⟨mm, hmm⟩ : ∃ mm : Int, mm = if K' = 16777216 then 8388608 else K' := ⟨_, rfl⟩
    obtain ⟨ee, hee⟩ : ∃ ee : Int, ee = if K' = 16777216 then step + 1 else step := ⟨_, rfl⟩
    rw [← hmm, ← hee] at hr
    have te := told_eq_w mode n K' step K0 K1 s0 (by omega) mm ee hmm hee
    have tc := told_core_w HP E mode m0 m4 n hn mm ee (by rw [hmm]; split <;> omega) (by rw [hmm]; split <;> omega) (by rw [hee]; split <;> omega) (by rw [hee]; split <;> omega) hr
    rw [te] at tc
    exact tc

theorem told_lt_h (mode : Int) (neg : Bool) (K step : Int) (k0 : 0 ≤ K) (s0 : -24 ≤ step) : 0 ≤ told_h mode neg K step ∧ told_h mode neg K step < 4294967296 := by
  unfold told_h bey_h sgn_h
  split
  · split <;> split <;> omega
  · split <;> omega
set_option maxHeartbeats 2000000 in
theorem both_h (n : Bool) (z : Nat) (p : Int) (m : Bool) (mode : Int) (m0 : 0 ≤ mode) (m4 : mode ≤ 4) (z0 : 0 < z) (z1 : z < 18446744073709551616) (p0 : -10000 ≤ p) (p1 : p ≤ 800)
    (P Q E : Int) (P0 : P ≠ 0) (e0 : -1000 ≤ E) (e1 : E ≤ 1000) (N D N0 D0 : Nat) (hN0 : N0 = P.natAbs) (hD0 : (D0 : Int) = Q) (hN : N = N0 * 2 ^ E.toNat) (hD : D = D0 * 2 ^ (-E).toNat) (Dp : 0 < D0) (N9 : N < 1000000000 ^ 60) (D9 : D < 1000000000 ^ 60)
    (hn : decide (P < 0) = n) (hz : sa N p / sb D p = z) (hm : m = decide (sa N p % sb D p ≠ 0)) (up : m = true → 2 ^ 40 ≤ z) :
    ∃ R : Int, 0 ≤ R ∧ R < 4294967296 ∧
      (∀ v : World, Forms v → Calls Tryd.prog 52 #[.agg #[.bool n, .int .u64 (z : Int), .int .i64 p, .bool m], .int .i64 1, .int .i64 mode] v fun e w' => e = .returned (.int .u32 R) ∧ Below v.heap.size v w') ∧
      (∀ (v : World) (K L : Nat) (VP VQ : Int) (gP gQ : Bool) (pP pQ : Option Addr) (lP cP lQ cQ : Nat), Num v K (.agg #[.int .i64 VP, .bool gP, .slice pP lP cP]) P → Num v L (.agg #[.int .i64 VQ, .bool gQ, .slice pQ lQ cQ]) Q → 2 ≤ K → K ≤ 9000 →
        Calls Tryd.prog 40 #[.agg #[.int .i64 VP, .bool gP, .slice pP lP cP, .int .i64 VQ, .bool gQ, .slice pQ lQ cQ, .int .i64 E], .agg #[.int .i64 11, .int .i64 (-24), .int .i64 5], .int .i64 mode] v fun e w' => e = .returned (.int .i64 R) ∧ Below v.heap.size v w') := by
  obtain ⟨L0, l0, l1⟩ := bitLen_spec z z0 (by omega)
  have l64 := Lib.bitLen_le z 64 (by decide) (by omega)
  obtain ⟨L, hL⟩ : ∃ L, Lib.bitLen z = L := ⟨_, rfl⟩
  rw [hL] at L0 l0 l1 l64
  have Dpp : 0 < D := by rw [hD]; exact Nat.mul_pos Dp (p2 _)
  obtain ⟨step, s0, hs1, hs3⟩ : ∃ step : Int, (-24) ≤ step ∧ (L : Int) + p - 11 ≤ step ∧ (step = L + p - 11 ∨ step = (-24)) := by
    by_cases h : (L : Int) + p - 11 ≤ -24
    · exact ⟨-24, by omega, h, Or.inr rfl⟩
    · exact ⟨L + p - 11, by omega, by omega, Or.inl rfl⟩
  have hup : step ≤ p → m = false := by
    intro h
    cases m
    · rfl
    · have h40 := up rfl
      have : (2 : Nat) ^ 40 < 2 ^ L := by omega
      have := (Nat.pow_lt_pow_iff_right (a := 2) (by decide)).1 this
      omega
  obtain ⟨j1, j2, j3, j4⟩ := join_facts 11 (-24) N D z L p step m Dpp hz hm l0 l1 L0 hs1 hs3 hup
  have jT : sa N step < 2048 * sb D step := j1
  have jG : step = (-24) ∨ 2048 * sb D (step - 1) ≤ sa N (step - 1) := j2
  obtain ⟨M, hM⟩ : ∃ M : Nat, sa N step / sb D step = M := ⟨_, rfl⟩
  have M1 : M < 2048 := by rw [← hM]; exact (Nat.div_lt_iff_lt_mul (sb_pos D step Dpp)).2 jT
  have Mh : step = (-24) ∨ 1024 ≤ M := by
    rcases j2 with h | h
    · exact Or.inl h
    · right; rw [← hM]; exact half_le 11 (by decide) N D step Dpp h
  obtain ⟨c, hc⟩ : ∃ c, leftI (sa N step % sb D step) (sb D step) = c := ⟨_, rfl⟩
  obtain ⟨g, hg⟩ : ∃ g, goesB mode n (M : Int) c = g := ⟨_, rfl⟩
  obtain ⟨K', hK'⟩ : ∃ K' : Int, K' = if g then (M : Int) + 1 else (M : Int) := ⟨_, rfl⟩
  have K0 : 0 ≤ K' := by rw [hK']; split <;> omega
  have K1 : K' ≤ 2048 := by rw [hK']; split <;> omega
  have KM : (M : Int) ≤ K' := by rw [hK']; split <;> omega
  obtain ⟨b0, b1⟩ := told_lt_h mode n K' step K0 s0
  refine ⟨told_h mode n K' step, b0, b1, ?_, ?_⟩
  · intro v G
    have hLI : (Lib.bitLen ((z : Nat) : Int).toNat : Int) = (L : Int) := by rw [show ((z : Nat) : Int).toNat = z by omega, hL]
    by_cases h : step - p ≤ 0
    · obtain ⟨e1', e2'⟩ := j3 (by omega)
      have g0 : g = false := by
        rw [← hg, ← hc, e2']
        have : mode = 0 ∨ mode = 1 ∨ mode = 2 ∨ mode = 3 ∨ mode = 4 := by omega
        rcases this with rfl | rfl | rfl | rfl | rfl <;> rfl
      have hMz : M = z * 2 ^ (p - step).toNat := by rw [← hM, e1']
      have hKM : K' = (M : Int) := by rw [hK', g0]; rfl
      have hcast : ((z : Nat) : Int) * 2 ^ (p - step).toNat = (M : Int) := by rw [hMz]; exact (cast_pow z _).symm
      have := rx_up_h n (z : Int) p mode m v G (by omega) (by omega) p0 (by omega) (L : Int) step K' hLI (by omega) (by omega) s0 (by omega) h (by rw [hcast, hKM]; exact Int.emod_eq_of_lt (by omega) (by omega)) K0 K1
      exact this
    · obtain ⟨e1', e2'⟩ := j4 (by omega)
      have hMz : ((z : Nat) : Int) / 2 ^ (step - p).toNat = (M : Int) := by
        rw [← hM, e1', Int.natCast_ediv]; simp
      have hcz : cutI (((z : Nat) : Int) % 2 ^ (step - p).toNat) (2 ^ ((step - p).toNat - 1)) m = c := by
        rw [← hc, e2', Int.natCast_emod]; simp
      have := rx_dn_h n (z : Int) p mode m v G (by omega) (by omega) p0 (by omega) (L : Int) step (M : Int) c g hLI (by omega) (by omega) s0 (by omega) (by omega) hMz (by omega) (by omega) hcz hg
      rw [← hK'] at this
      exact this
  · intro v K LL VP VQ gP gQ pP pQ lP cP lQ cQ HP HQ K2 K3
    have hr := fun (u : World) (hb : Below v.heap.size v u) => num_round_h (HP.next hb) (HQ.next hb) K2 K3 P0 E e0 e1 N D N0 D0 hN0 hD0 hN hD Dp N9 D9 mode m0 m4 n step s0 (by omega) jT jG (M : Int) c g (by rw [hM]) hc hg K' hK'
    obtain ⟨mm, hmm⟩ : ∃ mm : Int, mm = if K' = 2048 then 1024 else K' := ⟨_, rfl⟩
    obtain ⟨ee, hee⟩ : ∃ ee : Int, ee = if K' = 2048 then step + 1 else step := ⟨_, rfl⟩
    rw [← hmm, ← hee] at hr
    have te := told_eq_h mode n K' step K0 K1 s0 (by omega) mm ee hmm hee
    have tc := told_core_h HP E mode m0 m4 n hn mm ee (by rw [hmm]; split <;> omega) (by rw [hmm]; split <;> omega) (by rw [hee]; split <;> omega) (by rw [hee]; split <;> omega) hr
    rw [te] at tc
    exact tc
end Go.Proofs.YtamoakodlmjbiaaDoor
