/- The program's HalfOf kind by kind; halves and words as numbers. -/
import Derived.Test.YtpildklndfgojaaDoorHalf
import Derived.WalkSmall
namespace Go.Proofs.YtpildklndfgojaaDoor.fnExactHalfOf
open Go.ChangeShapes Go.WideShapes Go.ChangeAt Go.RowKit
set_option linter.unusedVariables false
theorem nanOf_h (w : World) : Calls Tryd.prog 84 #[.int .i64 1] w fun e w' => e = .returned (.int .u32 32256) ∧ w' = w := by
  go_enter Tryd.func84, Tryd.ntmps84
  go_wp2
  go_ret
  exact ⟨rfl, rfl⟩
theorem hn_of (a : Int) (h0 : 0 ≤ a) (h1 : a < 4294967296) : (a / 2147483648 * 2147483648 != 0) = decide (2147483648 ≤ a) := by rw [Bool.eq_iff_iff]; simp; omega
theorem btw_0 (a mode : Int) (h0 : 0 ≤ a) (h1 : a < 4294967296) (hk : kindI (a % 2147483648) = 0) (w : World) (G : Forms w) :
    Calls Tryd.prog 33 #[.int .u32 a, .int .i64 0, .int .i64 1, .int .i64 mode] w fun e w' => e = .returned (.int .u32 (sgn_h (decide (2147483648 ≤ a)) 0)) ∧ Below w.heap.size w w' := by
  have hn := hn_of a h0 h1
  go_enter Tryd.func33, Tryd.ntmps33
  go_wp2_with (first | (go_at_call 49; refine (signOf_w _ h0 h1 _ G.c2).mono ?_; rintro e w' ⟨rfl, rfl⟩) | (go_at_call 48; refine (kindOf_w _ h0 h1 _ G).mono ?_; rintro e w' ⟨rfl, rfl⟩) | (go_at_call 83; refine (withSign_h _ _ (by decide) (by decide) _ G.c6).mono ?_; rintro e w' ⟨rfl, rfl⟩))
  go_ret
  exact ⟨rfl, Below.refl _ _⟩
theorem btw_2 (a mode : Int) (h0 : 0 ≤ a) (h1 : a < 4294967296) (hk : kindI (a % 2147483648) = 2) (w : World) (G : Forms w) :
    Calls Tryd.prog 33 #[.int .u32 a, .int .i64 0, .int .i64 1, .int .i64 mode] w fun e w' => e = .returned (.int .u32 (sgn_h (decide (2147483648 ≤ a)) 31744)) ∧ Below w.heap.size w w' := by
  have hn := hn_of a h0 h1
  go_enter Tryd.func33, Tryd.ntmps33
  go_wp2_with (first | (go_at_call 49; refine (signOf_w _ h0 h1 _ G.c2).mono ?_; rintro e w' ⟨rfl, rfl⟩) | (go_at_call 48; refine (kindOf_w _ h0 h1 _ G).mono ?_; rintro e w' ⟨rfl, rfl⟩) | (go_at_call 50; refine (infOf_h _ G.c7).mono ?_; rintro e w' ⟨rfl, rfl⟩) | (go_at_call 83; refine (withSign_h _ _ (by decide) (by decide) _ G.c6).mono ?_; rintro e w' ⟨rfl, rfl⟩))
  go_ret
  exact ⟨rfl, Below.refl _ _⟩
theorem btw_3 (a mode : Int) (h0 : 0 ≤ a) (h1 : a < 4294967296) (hk : kindI (a % 2147483648) = 3) (w : World) (G : Forms w) :
    Calls Tryd.prog 33 #[.int .u32 a, .int .i64 0, .int .i64 1, .int .i64 mode] w fun e w' => e = .returned (.int .u32 32256) ∧ Below w.heap.size w w' := by
  go_enter Tryd.func33, Tryd.ntmps33
  go_wp2_with (first | (go_at_call 49; refine (signOf_w _ h0 h1 _ G.c2).mono ?_; rintro e w' ⟨rfl, rfl⟩) | (go_at_call 48; refine (kindOf_w _ h0 h1 _ G).mono ?_; rintro e w' ⟨rfl, rfl⟩) | (go_at_call 84; refine (nanOf_h _).mono ?_; rintro e w' ⟨rfl, rfl⟩))
  go_ret
  exact ⟨rfl, Below.refl _ _⟩
theorem btw_1 (a mode R : Int) (h0 : 0 ≤ a) (h1 : a < 4294967296) (hk : kindI (a % 2147483648) = 1) (w : World) (G : Forms w)
    (hR : ∀ v : World, Forms v → Calls Tryd.prog 51 #[.agg #[.bool (decide (2147483648 ≤ a)), .int .u64 (exS (a % 2147483648)), .int .i64 (exP (a % 2147483648)), .bool false], .int .i64 1, .int .i64 mode] v fun e w' => e = .returned (.int .u32 R) ∧ Below v.heap.size v w') :
    Calls Tryd.prog 33 #[.int .u32 a, .int .i64 0, .int .i64 1, .int .i64 mode] w fun e w' => e = .returned (.int .u32 R) ∧ Below w.heap.size w w' := by
  go_enter Tryd.func33, Tryd.ntmps33
  go_wp2_with (first | (go_at_call 49; refine (signOf_w _ h0 h1 _ G.c2).mono ?_; rintro e w' ⟨rfl, rfl⟩) | (go_at_call 48; refine (kindOf_w _ h0 h1 _ G).mono ?_; rintro e w' ⟨rfl, rfl⟩) | (go_at_call 53; refine (exactOf_w _ h0 h1 _ G).mono ?_; rintro e w1 ⟨rfl, hb1⟩) | (go_at_call 51; refine (hR _ (G.below hb1)).mono ?_; rintro e w2 ⟨rfl, hb2⟩))
  go_ret
  exact ⟨rfl, hb1.trans (hb2.mono hb1.size)⟩
theorem iH_bad (a mode : Int) (hm : ¬ (0 ≤ mode ∧ mode ≤ 4)) (w : World) : Calls Tryd.prog 13 #[.int .u32 a, .int .i64 mode] w fun e w' => e = .returned (.int .u32 0) ∧ Below w.heap.size w w' := by
  have hg := goodMode_any mode w
  rw [decide_eq_false hm] at hg
  go_enter Tryd.func13, Tryd.ntmps13
  go_wp2_with (go_at_call 40; refine hg.mono ?_; rintro e w' ⟨rfl, hw⟩; subst w')
  go_ret
  exact ⟨rfl, Below.refl _ _⟩
theorem iH_of (a mode R : Int) (hm : 0 ≤ mode ∧ mode ≤ 4) (w : World) (hB : Calls Tryd.prog 33 #[.int .u32 a, .int .i64 0, .int .i64 1, .int .i64 mode] w fun e w' => e = .returned (.int .u32 R) ∧ Below w.heap.size w w') :
    Calls Tryd.prog 13 #[.int .u32 a, .int .i64 mode] w fun e w' => e = .returned (.int .u32 R) ∧ Below w.heap.size w w' := by
  have hg := goodMode_any mode w
  rw [decide_eq_true hm] at hg
  go_enter Tryd.func13, Tryd.ntmps13
  go_wp2_with (first | (go_at_call 40; refine hg.mono ?_; rintro e w' ⟨rfl, hw⟩; subst w') | (go_at_call 33; refine hB.mono ?_; rintro e w1 ⟨rfl, hb1⟩))
  go_ret
  exact ⟨rfl, hb1⟩
end Go.Proofs.YtpildklndfgojaaDoor.fnExactHalfOf
namespace Go.Proofs.YtpildklndfgojaaDoor
open Go.ChangeShapes Go.WideShapes Go.ChangeAt Go.RowKit
set_option linter.unusedVariables false
/-- The word's bits but the sign of a half's bits but the sign. -/
def RungR (q r : Int) : Prop :=
  (q = 0 ∧ r = 0) ∨ (q = 31744 ∧ r = 2139095040) ∨ (0 < q ∧ q < 31744 ∧ ∃ (m : Nat) (E : Int), exSh q = m ∧ exPh q = E ∧ 0 < m ∧ m < 2048 ∧
    r = ((m * 2 ^ (23 - Nat.log2 m) : Nat) : Int) + ((Nat.log2 m : Int) + E - 23 - (-149)) * 8388608)
theorem log10 (m : Nat) (h0 : 1024 ≤ m) (h1 : m < 2048) : Nat.log2 m = 10 := by
  rw [Nat.log2_eq_iff (by omega)]; omega
theorem rung_big (q r : Int) (h : RungR q r) (h0 : 1024 ≤ q) (h1 : q ≤ 31743) : r = q * 8192 + 939524096 := by
  rcases h with h | h | ⟨_, _, m, E, hm, hE, m0, m1, hr⟩
  · omega
  · omega
  unfold exSh at hm
  unfold exPh at hE
  rw [if_pos h0] at hm hE
  have l := log10 m (by omega) (by omega)
  rw [l] at hr
  simp only [show 23 - 10 = 13 from rfl, show 2 ^ 13 = 8192 from rfl] at hr
  omega
theorem rung_small (q r : Int) (j : Nat) (h : RungR q r) (h0 : 0 < q) (h1 : q ≤ 1024) (hj : 2 ^ j ≤ q.toNat) (hj1 : q.toNat < 2 ^ (j + 1)) : r = q * 2 ^ (23 - j) + ((j : Int) + 102) * 8388608 := by
  rcases h with h | h | ⟨_, _, m, E, hm, hE, m0, m1, hr⟩
  · omega
  · omega
  have hmq : (m : Int) = q ∧ E = -24 := by
    unfold exSh at hm
    unfold exPh at hE
    by_cases g : 1024 ≤ q
    · rw [if_pos g] at hm hE; omega
    · rw [if_neg g] at hm hE; omega
  obtain ⟨rfl, rfl⟩ := hmq
  have l : Nat.log2 m = j := by
    rw [Nat.log2_eq_iff (by omega)]
    rw [Int.toNat_natCast] at hj hj1
    exact ⟨hj, hj1⟩
  rw [l] at hr
  rw [hr]
  push_cast
  omega
/-- How a word of a number is cut for a half: z steps of 2^p, of which 2^s become one. -/
def CutR (r : Int) (z s : Nat) (p step : Int) : Prop :=
  exS r = z ∧ exP r = p ∧ step = p + s ∧ 0 < z ∧ z < 16777216 ∧
  ((8388608 ≤ z ∧ s = 13 ∧ -24 ≤ step ∧ p ≤ 104 ∧ r = z + (p + 149) * 8388608) ∨ (step = -24 ∧ 8388608 ≤ z ∧ 14 ≤ s ∧ s ≤ 125 ∧ r = z + (p + 149) * 8388608) ∨ (step = -24 ∧ z < 8388608 ∧ s = 125 ∧ p = -149 ∧ r = z))
theorem cut_of (r : Int) (h0 : 0 < r) (h1 : r < 2139095040) : ∃ (z s : Nat) (p step : Int), CutR r z s p step := by
  by_cases g : 8388608 ≤ r
  · have hz : exS r = r % 8388608 + 8388608 := by unfold exS; rw [if_pos g]
    have hp : exP r = -149 + (r / 8388608 - 1) := by unfold exP; rw [if_pos g]
    by_cases k : -24 ≤ -149 + (r / 8388608 - 1) + 13
    · exact ⟨(r % 8388608 + 8388608).toNat, 13, _, -149 + (r / 8388608 - 1) + 13, by rw [hz]; omega, hp, rfl, by omega, by omega, Or.inl ⟨by omega, rfl, k, by omega, by omega⟩⟩
    · exact ⟨(r % 8388608 + 8388608).toNat, (-24 - (-149 + (r / 8388608 - 1))).toNat, _, -24, by rw [hz]; omega, hp, by omega, by omega, by omega, Or.inr (Or.inl ⟨rfl, by omega, by omega, by omega, by omega⟩)⟩
  · have hz : exS r = r := by unfold exS; rw [if_neg g]
    have hp : exP r = -149 := by unfold exP; rw [if_neg g]
    exact ⟨r.toNat, 125, -149, -24, by rw [hz]; omega, hp, by omega, by omega, by omega, Or.inr (Or.inr ⟨rfl, by omega, rfl, rfl, by omega⟩)⟩
theorem pow_big (s : Nat) (h : 24 ≤ s) : 16777216 ≤ 2 ^ s := by
  have : 2 ^ 24 ≤ 2 ^ s := Nat.pow_le_pow_right (by decide) h
  omega
theorem div_small (z s : Nat) (hz : z < 16777216) (h : 24 ≤ s) : z / 2 ^ s = 0 ∧ z % 2 ^ s = z := by
  have := pow_big s h
  exact ⟨Nat.div_eq_of_lt (by omega), Nat.mod_eq_of_lt (by omega)⟩
/-- What is cut off: the half's word is not above. -/
theorem floor_le (r : Int) (z s : Nat) (p step : Int) (h : CutR r z s p step) (q rr : Int) (hq : q = ((z / 2 ^ s : Nat) : Int) + (step - (-24)) * 1024) (Q : Int) (hQ : Q = if 31743 < q then 31743 else q) (hR : RungR Q rr) : 0 ≤ Q ∧ Q ≤ 31743 ∧ rr ≤ r := by
  obtain ⟨_, _, hst, z0, z1, h | h | h⟩ := h
  · obtain ⟨g0, rfl, g1, g2, hr⟩ := h
    rw [show 2 ^ 13 = 8192 from rfl] at hq
    have e := rung_big Q rr hR (by split at hQ <;> omega) (by split at hQ <;> omega)
    split at hQ <;> omega
  · obtain ⟨rfl, g0, g1, g2, hr⟩ := h
    by_cases s24 : 24 ≤ s
    · rw [(div_small z s z1 s24).1] at hq
      have q0 : Q = 0 := by rw [hQ, if_neg (by omega)]; omega
      rcases hR with ⟨_, e⟩ | e | e <;> omega
    · rcases (by omega : s = 14 ∨ s = 15 ∨ s = 16 ∨ s = 17 ∨ s = 18 ∨ s = 19 ∨ s = 20 ∨ s = 21 ∨ s = 22 ∨ s = 23) with rfl | rfl | rfl | rfl | rfl | rfl | rfl | rfl | rfl | rfl
      · rw [show 2 ^ 14 = 16384 from rfl] at hq
        have e := rung_small Q rr 9 hR (by split at hQ <;> omega) (by split at hQ <;> omega) (by rw [show 2 ^ 9 = 512 from rfl]; split at hQ <;> omega) (by rw [show 2 ^ (9 + 1) = 1024 from rfl]; split at hQ <;> omega)
        simp only [show 23 - 9 = 14 from rfl, show (2 : Int) ^ 14 = 16384 from rfl] at e
        split at hQ <;> omega
      · rw [show 2 ^ 15 = 32768 from rfl] at hq
        have e := rung_small Q rr 8 hR (by split at hQ <;> omega) (by split at hQ <;> omega) (by rw [show 2 ^ 8 = 256 from rfl]; split at hQ <;> omega) (by rw [show 2 ^ (8 + 1) = 512 from rfl]; split at hQ <;> omega)
        simp only [show 23 - 8 = 15 from rfl, show (2 : Int) ^ 15 = 32768 from rfl] at e
        split at hQ <;> omega
      · rw [show 2 ^ 16 = 65536 from rfl] at hq
        have e := rung_small Q rr 7 hR (by split at hQ <;> omega) (by split at hQ <;> omega) (by rw [show 2 ^ 7 = 128 from rfl]; split at hQ <;> omega) (by rw [show 2 ^ (7 + 1) = 256 from rfl]; split at hQ <;> omega)
        simp only [show 23 - 7 = 16 from rfl, show (2 : Int) ^ 16 = 65536 from rfl] at e
        split at hQ <;> omega
      · rw [show 2 ^ 17 = 131072 from rfl] at hq
        have e := rung_small Q rr 6 hR (by split at hQ <;> omega) (by split at hQ <;> omega) (by rw [show 2 ^ 6 = 64 from rfl]; split at hQ <;> omega) (by rw [show 2 ^ (6 + 1) = 128 from rfl]; split at hQ <;> omega)
        simp only [show 23 - 6 = 17 from rfl, show (2 : Int) ^ 17 = 131072 from rfl] at e
        split at hQ <;> omega
      · rw [show 2 ^ 18 = 262144 from rfl] at hq
        have e := rung_small Q rr 5 hR (by split at hQ <;> omega) (by split at hQ <;> omega) (by rw [show 2 ^ 5 = 32 from rfl]; split at hQ <;> omega) (by rw [show 2 ^ (5 + 1) = 64 from rfl]; split at hQ <;> omega)
        simp only [show 23 - 5 = 18 from rfl, show (2 : Int) ^ 18 = 262144 from rfl] at e
        split at hQ <;> omega
      · rw [show 2 ^ 19 = 524288 from rfl] at hq
        have e := rung_small Q rr 4 hR (by split at hQ <;> omega) (by split at hQ <;> omega) (by rw [show 2 ^ 4 = 16 from rfl]; split at hQ <;> omega) (by rw [show 2 ^ (4 + 1) = 32 from rfl]; split at hQ <;> omega)
        simp only [show 23 - 4 = 19 from rfl, show (2 : Int) ^ 19 = 524288 from rfl] at e
        split at hQ <;> omega
      · rw [show 2 ^ 20 = 1048576 from rfl] at hq
        have e := rung_small Q rr 3 hR (by split at hQ <;> omega) (by split at hQ <;> omega) (by rw [show 2 ^ 3 = 8 from rfl]; split at hQ <;> omega) (by rw [show 2 ^ (3 + 1) = 16 from rfl]; split at hQ <;> omega)
        simp only [show 23 - 3 = 20 from rfl, show (2 : Int) ^ 20 = 1048576 from rfl] at e
        split at hQ <;> omega
      · rw [show 2 ^ 21 = 2097152 from rfl] at hq
        have e := rung_small Q rr 2 hR (by split at hQ <;> omega) (by split at hQ <;> omega) (by rw [show 2 ^ 2 = 4 from rfl]; split at hQ <;> omega) (by rw [show 2 ^ (2 + 1) = 8 from rfl]; split at hQ <;> omega)
        simp only [show 23 - 2 = 21 from rfl, show (2 : Int) ^ 21 = 2097152 from rfl] at e
        split at hQ <;> omega
      · rw [show 2 ^ 22 = 4194304 from rfl] at hq
        have e := rung_small Q rr 1 hR (by split at hQ <;> omega) (by split at hQ <;> omega) (by rw [show 2 ^ 1 = 2 from rfl]; split at hQ <;> omega) (by rw [show 2 ^ (1 + 1) = 4 from rfl]; split at hQ <;> omega)
        simp only [show 23 - 1 = 22 from rfl, show (2 : Int) ^ 22 = 4194304 from rfl] at e
        split at hQ <;> omega
      · rw [show 2 ^ 23 = 8388608 from rfl] at hq
        have e := rung_small Q rr 0 hR (by split at hQ <;> omega) (by split at hQ <;> omega) (by rw [show 2 ^ 0 = 1 from rfl]; split at hQ <;> omega) (by rw [show 2 ^ (0 + 1) = 2 from rfl]; split at hQ <;> omega)
        simp only [show 23 - 0 = 23 from rfl, show (2 : Int) ^ 23 = 8388608 from rfl] at e
        split at hQ <;> omega
  · obtain ⟨rfl, g0, rfl, rfl, hr⟩ := h
    rw [(div_small z 125 z1 (by decide)).1] at hq
    have q0 : Q = 0 := by rw [hQ, if_neg (by omega)]; omega
    rcases hR with ⟨_, e⟩ | e | e <;> omega
/-- What is cut off counted as one more: the half's word is not below. -/
theorem ceil_le (r : Int) (z s : Nat) (p step : Int) (h : CutR r z s p step) (r1 : r < 2139095040) (K q rr : Int) (hK : K = if z % 2 ^ s = 0 then ((z / 2 ^ s : Nat) : Int) else ((z / 2 ^ s : Nat) : Int) + 1) (hq : q = K + (step - (-24)) * 1024) (Q : Int) (hQ : Q = if 31743 < q then 31744 else q) (hR : RungR Q rr) : 0 ≤ Q ∧ Q ≤ 31744 ∧ r ≤ rr := by
  by_cases hb : 31743 < q
  · rw [if_pos hb] at hQ
    rcases hR with e | e | e <;> omega
  rw [if_neg hb] at hQ
  have hQ' := hQ.symm
  subst hQ'
  obtain ⟨_, _, hst, z0, z1, h | h | h⟩ := h
  · obtain ⟨g0, rfl, g1, g2, hr⟩ := h
    rw [show 2 ^ 13 = 8192 from rfl] at hK
    have e := rung_big q rr hR (by split at hK <;> omega) (by omega)
    split at hK <;> omega
  · obtain ⟨rfl, g0, g1, g2, hr⟩ := h
    by_cases s24 : 24 ≤ s
    · rw [(div_small z s z1 s24).1, (div_small z s z1 s24).2, if_neg (by omega)] at hK
      have e := rung_small q rr 0 hR (by omega) (by omega) (by omega) (by omega)
      simp only [show 23 - 0 = 23 from rfl, show (2 : Int) ^ 23 = 8388608 from rfl] at e
      omega
    · rcases (by omega : s = 14 ∨ s = 15 ∨ s = 16 ∨ s = 17 ∨ s = 18 ∨ s = 19 ∨ s = 20 ∨ s = 21 ∨ s = 22 ∨ s = 23) with rfl | rfl | rfl | rfl | rfl | rfl | rfl | rfl | rfl | rfl
      · rw [show 2 ^ 14 = 16384 from rfl] at hK
        by_cases t : q < 1024
        · have e := rung_small q rr 9 hR (by split at hK <;> omega) (by split at hK <;> omega) (by rw [show 2 ^ 9 = 512 from rfl]; split at hK <;> omega) (by rw [show 2 ^ (9 + 1) = 1024 from rfl]; split at hK <;> omega)
          simp only [show 23 - 9 = 14 from rfl, show (2 : Int) ^ 14 = 16384 from rfl] at e
          split at hK <;> omega
        · have e := rung_small q rr 10 hR (by split at hK <;> omega) (by split at hK <;> omega) (by rw [show 2 ^ 10 = 1024 from rfl]; split at hK <;> omega) (by rw [show 2 ^ (10 + 1) = 2048 from rfl]; split at hK <;> omega)
          simp only [show 23 - 10 = 13 from rfl, show (2 : Int) ^ 13 = 8192 from rfl] at e
          split at hK <;> omega
      · rw [show 2 ^ 15 = 32768 from rfl] at hK
        by_cases t : q < 512
        · have e := rung_small q rr 8 hR (by split at hK <;> omega) (by split at hK <;> omega) (by rw [show 2 ^ 8 = 256 from rfl]; split at hK <;> omega) (by rw [show 2 ^ (8 + 1) = 512 from rfl]; split at hK <;> omega)
          simp only [show 23 - 8 = 15 from rfl, show (2 : Int) ^ 15 = 32768 from rfl] at e
          split at hK <;> omega
        · have e := rung_small q rr 9 hR (by split at hK <;> omega) (by split at hK <;> omega) (by rw [show 2 ^ 9 = 512 from rfl]; split at hK <;> omega) (by rw [show 2 ^ (9 + 1) = 1024 from rfl]; split at hK <;> omega)
          simp only [show 23 - 9 = 14 from rfl, show (2 : Int) ^ 14 = 16384 from rfl] at e
          split at hK <;> omega
      · rw [show 2 ^ 16 = 65536 from rfl] at hK
        by_cases t : q < 256
        · have e := rung_small q rr 7 hR (by split at hK <;> omega) (by split at hK <;> omega) (by rw [show 2 ^ 7 = 128 from rfl]; split at hK <;> omega) (by rw [show 2 ^ (7 + 1) = 256 from rfl]; split at hK <;> omega)
          simp only [show 23 - 7 = 16 from rfl, show (2 : Int) ^ 16 = 65536 from rfl] at e
          split at hK <;> omega
        · have e := rung_small q rr 8 hR (by split at hK <;> omega) (by split at hK <;> omega) (by rw [show 2 ^ 8 = 256 from rfl]; split at hK <;> omega) (by rw [show 2 ^ (8 + 1) = 512 from rfl]; split at hK <;> omega)
          simp only [show 23 - 8 = 15 from rfl, show (2 : Int) ^ 15 = 32768 from rfl] at e
          split at hK <;> omega
      · rw [show 2 ^ 17 = 131072 from rfl] at hK
        by_cases t : q < 128
        · have e := rung_small q rr 6 hR (by split at hK <;> omega) (by split at hK <;> omega) (by rw [show 2 ^ 6 = 64 from rfl]; split at hK <;> omega) (by rw [show 2 ^ (6 + 1) = 128 from rfl]; split at hK <;> omega)
          simp only [show 23 - 6 = 17 from rfl, show (2 : Int) ^ 17 = 131072 from rfl] at e
          split at hK <;> omega
        · have e := rung_small q rr 7 hR (by split at hK <;> omega) (by split at hK <;> omega) (by rw [show 2 ^ 7 = 128 from rfl]; split at hK <;> omega) (by rw [show 2 ^ (7 + 1) = 256 from rfl]; split at hK <;> omega)
          simp only [show 23 - 7 = 16 from rfl, show (2 : Int) ^ 16 = 65536 from rfl] at e
          split at hK <;> omega
      · rw [show 2 ^ 18 = 262144 from rfl] at hK
        by_cases t : q < 64
        · have e := rung_small q rr 5 hR (by split at hK <;> omega) (by split at hK <;> omega) (by rw [show 2 ^ 5 = 32 from rfl]; split at hK <;> omega) (by rw [show 2 ^ (5 + 1) = 64 from rfl]; split at hK <;> omega)
          simp only [show 23 - 5 = 18 from rfl, show (2 : Int) ^ 18 = 262144 from rfl] at e
          split at hK <;> omega
        · have e := rung_small q rr 6 hR (by split at hK <;> omega) (by split at hK <;> omega) (by rw [show 2 ^ 6 = 64 from rfl]; split at hK <;> omega) (by rw [show 2 ^ (6 + 1) = 128 from rfl]; split at hK <;> omega)
          simp only [show 23 - 6 = 17 from rfl, show (2 : Int) ^ 17 = 131072 from rfl] at e
          split at hK <;> omega
      · rw [show 2 ^ 19 = 524288 from rfl] at hK
        by_cases t : q < 32
        · have e := rung_small q rr 4 hR (by split at hK <;> omega) (by split at hK <;> omega) (by rw [show 2 ^ 4 = 16 from rfl]; split at hK <;> omega) (by rw [show 2 ^ (4 + 1) = 32 from rfl]; split at hK <;> omega)
          simp only [show 23 - 4 = 19 from rfl, show (2 : Int) ^ 19 = 524288 from rfl] at e
          split at hK <;> omega
        · have e := rung_small q rr 5 hR (by split at hK <;> omega) (by split at hK <;> omega) (by rw [show 2 ^ 5 = 32 from rfl]; split at hK <;> omega) (by rw [show 2 ^ (5 + 1) = 64 from rfl]; split at hK <;> omega)
          simp only [show 23 - 5 = 18 from rfl, show (2 : Int) ^ 18 = 262144 from rfl] at e
          split at hK <;> omega
      · rw [show 2 ^ 20 = 1048576 from rfl] at hK
        by_cases t : q < 16
        · have e := rung_small q rr 3 hR (by split at hK <;> omega) (by split at hK <;> omega) (by rw [show 2 ^ 3 = 8 from rfl]; split at hK <;> omega) (by rw [show 2 ^ (3 + 1) = 16 from rfl]; split at hK <;> omega)
          simp only [show 23 - 3 = 20 from rfl, show (2 : Int) ^ 20 = 1048576 from rfl] at e
          split at hK <;> omega
        · have e := rung_small q rr 4 hR (by split at hK <;> omega) (by split at hK <;> omega) (by rw [show 2 ^ 4 = 16 from rfl]; split at hK <;> omega) (by rw [show 2 ^ (4 + 1) = 32 from rfl]; split at hK <;> omega)
          simp only [show 23 - 4 = 19 from rfl, show (2 : Int) ^ 19 = 524288 from rfl] at e
          split at hK <;> omega
      · rw [show 2 ^ 21 = 2097152 from rfl] at hK
        by_cases t : q < 8
        · have e := rung_small q rr 2 hR (by split at hK <;> omega) (by split at hK <;> omega) (by rw [show 2 ^ 2 = 4 from rfl]; split at hK <;> omega) (by rw [show 2 ^ (2 + 1) = 8 from rfl]; split at hK <;> omega)
          simp only [show 23 - 2 = 21 from rfl, show (2 : Int) ^ 21 = 2097152 from rfl] at e
          split at hK <;> omega
        · have e := rung_small q rr 3 hR (by split at hK <;> omega) (by split at hK <;> omega) (by rw [show 2 ^ 3 = 8 from rfl]; split at hK <;> omega) (by rw [show 2 ^ (3 + 1) = 16 from rfl]; split at hK <;> omega)
          simp only [show 23 - 3 = 20 from rfl, show (2 : Int) ^ 20 = 1048576 from rfl] at e
          split at hK <;> omega
      · rw [show 2 ^ 22 = 4194304 from rfl] at hK
        by_cases t : q < 4
        · have e := rung_small q rr 1 hR (by split at hK <;> omega) (by split at hK <;> omega) (by rw [show 2 ^ 1 = 2 from rfl]; split at hK <;> omega) (by rw [show 2 ^ (1 + 1) = 4 from rfl]; split at hK <;> omega)
          simp only [show 23 - 1 = 22 from rfl, show (2 : Int) ^ 22 = 4194304 from rfl] at e
          split at hK <;> omega
        · have e := rung_small q rr 2 hR (by split at hK <;> omega) (by split at hK <;> omega) (by rw [show 2 ^ 2 = 4 from rfl]; split at hK <;> omega) (by rw [show 2 ^ (2 + 1) = 8 from rfl]; split at hK <;> omega)
          simp only [show 23 - 2 = 21 from rfl, show (2 : Int) ^ 21 = 2097152 from rfl] at e
          split at hK <;> omega
      · rw [show 2 ^ 23 = 8388608 from rfl] at hK
        by_cases t : q < 2
        · have e := rung_small q rr 0 hR (by split at hK <;> omega) (by split at hK <;> omega) (by rw [show 2 ^ 0 = 1 from rfl]; split at hK <;> omega) (by rw [show 2 ^ (0 + 1) = 2 from rfl]; split at hK <;> omega)
          simp only [show 23 - 0 = 23 from rfl, show (2 : Int) ^ 23 = 8388608 from rfl] at e
          split at hK <;> omega
        · have e := rung_small q rr 1 hR (by split at hK <;> omega) (by split at hK <;> omega) (by rw [show 2 ^ 1 = 2 from rfl]; split at hK <;> omega) (by rw [show 2 ^ (1 + 1) = 4 from rfl]; split at hK <;> omega)
          simp only [show 23 - 1 = 22 from rfl, show (2 : Int) ^ 22 = 4194304 from rfl] at e
          split at hK <;> omega
  · obtain ⟨rfl, g0, rfl, rfl, hr⟩ := h
    rw [(div_small z 125 z1 (by decide)).1, (div_small z 125 z1 (by decide)).2, if_neg (by omega)] at hK
    have e := rung_small q rr 0 hR (by omega) (by omega) (by omega) (by omega)
    simp only [show 23 - 0 = 23 from rfl, show (2 : Int) ^ 23 = 8388608 from rfl] at e
    omega
end Go.Proofs.YtpildklndfgojaaDoor
