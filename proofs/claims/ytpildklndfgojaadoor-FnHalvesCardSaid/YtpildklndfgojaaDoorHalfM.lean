/- HalfOf and WordOfHalf of the program held against each other: a half becomes a word and the same half again; a word's halves down and up lie on both sides of it. -/
import Derived.Test.YtpildklndfgojaaDoorHalfA
import Derived.Test.YtpildklndfgojaaDoorHalfW
import Derived.Test.YtpildklndfgojaaDoorCmpA
namespace Go.Proofs.YtpildklndfgojaaDoor
open Go.ChangeShapes Go.WideShapes Go.ChangeAt Go.RowKit
open fnExactHalfOf (iH_of iH_bad btw_0 btw_1 btw_2 btw_3)
open fnExactWordOfHalf (WordR size24)
set_option linter.unusedVariables false
theorem len24 (z : Nat) (h0 : 8388608 ≤ z) (h1 : z < 16777216) : Lib.bitLen z = 24 := by
  have := Lib.bitLen_shift 23 z (by omega) (by omega)
  rw [show z / 2 ^ 23 = 1 by omega] at this
  rw [this]
  decide
theorem half_w (a mode : Int) (hm : 0 ≤ mode ∧ mode ≤ 4) (h0 : 0 ≤ a) (h1 : a < 4294967296) (z s : Nat) (p step : Int) (k0 : 0 < a % 2147483648) (k1 : a % 2147483648 < 2139095040) (C : CutR (a % 2147483648) z s p step) (K K' : Int) (hK : K = ((z / 2 ^ s : Nat) : Int))
    (hK' : K' = if goesB mode (decide (2147483648 ≤ a)) K (cutI ((z % 2 ^ s : Nat) : Int) (2 ^ (s - 1)) false) then K + 1 else K) (w : World) (G : Forms w) :
    Calls Tryd.prog 13 #[.int .u32 a, .int .i64 mode] w fun e w' => e = .returned (.int .u32 (told_h mode (decide (2147483648 ≤ a)) K' step)) ∧ Below w.heap.size w w' := by
  obtain ⟨hz, hp, hst, z0, z1, hc⟩ := C
  have pb : -149 ≤ p ∧ p ≤ 104 := by rcases hc with h | h | h <;> omega
  have hL : (Lib.bitLen z : Int) = 24 ∨ ((Lib.bitLen z : Int) ≤ 23 ∧ z < 8388608) := by
    by_cases g : 8388608 ≤ z
    · left; rw [len24 z g z1]; rfl
    · right; have := Lib.bitLen_le z 23 (by decide) (by omega); omega
  have h13 : 13 ≤ s := by rcases hc with h | h | h <;> omega
  have kb : z / 2 ^ s ≤ 2048 := by
    have : 2 ^ 13 ≤ 2 ^ s := Nat.pow_le_pow_right (by decide) h13
    have e : z / 2 ^ s ≤ z / 2 ^ 13 := Nat.div_le_div_left this (by decide)
    omega
  have sh : (step - p).toNat = s := by omega
  have s13 : 0 < step - p := by omega
  have K0 : 0 ≤ K := by rw [hK]; exact Int.natCast_nonneg _
  have K1 : K ≤ 2048 := by rw [hK]; omega
  refine iH_of a mode _ hm w (btw_1 a mode _ h0 h1 (by unfold kindI; rw [if_neg (by omega), if_pos (by omega)]) w G (fun v Gv => ?_))
  rw [hz, hp, hK']
  exact rx_dn_h _ (z : Int) p mode false v Gv (by omega) (by omega) (by omega) (by omega) (Lib.bitLen z : Int) step K _ _ (by rw [Int.toNat_natCast]) (by omega) (by rcases hc with h | h | h <;> omega) (by rcases hc with h | h | h <;> omega) (by rcases hc with h | h | h <;> omega) s13 (by rw [sh, hK]; push_cast; rfl) K0 K1 (by rw [sh]; push_cast; rfl) rfl
theorem told_floor (mode : Int) (n : Bool) (K step : Int) (hk : keepB mode n = true) : told_h mode n K step = sgn_h n (if 31743 < K + (step - (-24)) * 1024 then 31743 else K + (step - (-24)) * 1024) := by
  unfold told_h bey_h; rw [hk]; split <;> rfl
theorem told_ceil (mode : Int) (n : Bool) (K step : Int) (hk : keepB mode n = false) : told_h mode n K step = sgn_h n (if 31743 < K + (step - (-24)) * 1024 then 31744 else K + (step - (-24)) * 1024) := by
  unfold told_h bey_h; rw [hk]; split <;> rfl
theorem cut0 (x M : Int) : (cutI x M false = 0) ↔ x = 0 := by
  unfold cutI
  by_cases h : x = 0
  · simp [h]
  · simp only [h, false_and, if_false]
    split
    · decide
    · split <;> decide
theorem goes_floor (mode : Int) (n : Bool) (K c : Int) (hm : mode = 3 ∨ mode = 4) (hk : keepB mode n = true) : goesB mode n K c = false := by
  rcases hm with rfl | rfl <;> cases n <;> simp [keepB, goesB] at hk ⊢
theorem goes_ceil (mode : Int) (n : Bool) (K c : Int) (hm : mode = 3 ∨ mode = 4) (hk : keepB mode n = false) : goesB mode n K c = (c != 0) := by
  rcases hm with rfl | rfl <;> cases n <;> simp [keepB, goesB] at hk ⊢
theorem side (a mode : Int) (hm : mode = 3 ∨ mode = 4) (h0 : 0 ≤ a) (h1 : a < 4294967296) (k0 : 0 < a % 2147483648) (k1 : a % 2147483648 < 2139095040) :
    ∃ Q : Int, (0 ≤ Q ∧ Q ≤ 31744) ∧ (∀ rr, RungR Q rr → if keepB mode (decide (2147483648 ≤ a)) then rr ≤ a % 2147483648 else a % 2147483648 ≤ rr) ∧
      ∀ w : World, Forms w → Calls Tryd.prog 13 #[.int .u32 a, .int .i64 mode] w fun e w' => e = .returned (.int .u32 (sgn_h (decide (2147483648 ≤ a)) Q)) ∧ Below w.heap.size w w' := by
  obtain ⟨z, s, p, step, C⟩ := cut_of (a % 2147483648) k0 k1
  have nn : (0 : Int) ≤ ((z / 2 ^ s : Nat) : Int) := Int.natCast_nonneg _
  have st : -24 ≤ step := by obtain ⟨_, _, _, _, _, h | h | h⟩ := C <;> omega
  obtain ⟨n, hn⟩ : ∃ n, decide (2147483648 ≤ a) = n := ⟨_, rfl⟩
  by_cases hk : keepB mode n = true
  · obtain ⟨Q, hQ⟩ : ∃ Q : Int, Q = if 31743 < ((z / 2 ^ s : Nat) : Int) + (step - (-24)) * 1024 then 31743 else ((z / 2 ^ s : Nat) : Int) + (step - (-24)) * 1024 := ⟨_, rfl⟩
    have fl := fun rr hR => floor_le _ z s p step C _ rr rfl Q hQ hR
    refine ⟨Q, ?_, fun rr hR => ?_, fun w G => ?_⟩
    · rw [hQ]; split <;> omega
    · rw [hn, hk]; exact (fl rr hR).2.2
    · have := half_w a mode (by omega) h0 h1 z s p step k0 k1 C _ _ rfl rfl w G
      rw [hn, goes_floor mode n _ _ hm hk, told_floor _ _ _ _ hk] at this
      rw [hn, hQ]
      exact this
  · have hk : keepB mode n = false := by simpa using hk
    obtain ⟨K, hK⟩ : ∃ K : Int, K = if z % 2 ^ s = 0 then ((z / 2 ^ s : Nat) : Int) else ((z / 2 ^ s : Nat) : Int) + 1 := ⟨_, rfl⟩
    obtain ⟨Q, hQ⟩ : ∃ Q : Int, Q = if 31743 < K + (step - (-24)) * 1024 then 31744 else K + (step - (-24)) * 1024 := ⟨_, rfl⟩
    have fl := fun rr hR => ceil_le _ z s p step C k1 K _ rr hK rfl Q hQ hR
    refine ⟨Q, ?_, fun rr hR => ?_, fun w G => ?_⟩
    · have kk : 0 ≤ K := by rw [hK]; split <;> omega
      rw [hQ]; split <;> omega
    · rw [hn, hk]; exact (fl rr hR).2.2
    · have hK2 : K = if goesB mode n ((z / 2 ^ s : Nat) : Int) (cutI ((z % 2 ^ s : Nat) : Int) (2 ^ (s - 1)) false) then ((z / 2 ^ s : Nat) : Int) + 1 else ((z / 2 ^ s : Nat) : Int) := by
        rw [goes_ceil mode n _ _ hm hk, hK]
        have := cut0 ((z % 2 ^ s : Nat) : Int) (2 ^ (s - 1))
        by_cases e : z % 2 ^ s = 0
        · rw [if_pos e, this.2 (by omega)]; rfl
        · have e2 : ¬ cutI ((z % 2 ^ s : Nat) : Int) (2 ^ (s - 1)) false = 0 := fun g => e (by have := this.1 g; omega)
          rw [if_neg e, if_pos (by simpa using e2)]
      have := half_w a mode (by omega) h0 h1 z s p step k0 k1 C _ K rfl (by rw [hn]; exact hK2) w G
      rw [hn, told_ceil _ _ _ _ hk] at this
      rw [hn, hQ]
      exact this
theorem word_rung (n : Bool) (Q W : Int) (q0 : 0 ≤ Q) (q1 : Q ≤ 31744) (hW : WordR (sgn_h n Q) W) : ∃ rr, RungR Q rr ∧ W = sgn_w n rr := by
  have e1 : sgn_h n Q % 32768 = Q := by unfold sgn_h; cases n <;> simp <;> omega
  have e2 : decide (32768 ≤ sgn_h n Q) = n := by unfold sgn_h; cases n <;> simp <;> omega
  have e3 : sgn_h n Q ≤ 65535 := by unfold sgn_h; cases n <;> simp <;> omega
  unfold WordR at hW
  rw [e1, e2] at hW
  rcases hW with h | h | ⟨_, h, rfl⟩ | ⟨_, h, rfl⟩ | ⟨_, h0, h1, m, E, hm, hE, m0, m1, rfl⟩
  · omega
  · omega
  · exact ⟨_, Or.inr (Or.inl ⟨h, rfl⟩), rfl⟩
  · exact ⟨_, Or.inl ⟨h, rfl⟩, rfl⟩
  · exact ⟨_, Or.inr (Or.inr ⟨h0, h1, m, E, hm, hE, m0, m1, rfl⟩), rfl⟩
theorem rung_bd (q rr : Int) (h : RungR q rr) : 0 ≤ rr ∧ rr ≤ 2139095040 := by
  have h' := h
  rcases h with h | h | ⟨q0, q1, m, E, hm, hE, m0, m1, hr⟩
  · omega
  · omega
  by_cases g : 1024 ≤ q
  · have := rung_big q rr h' g (by omega)
    omega
  · obtain ⟨hl, lo, hi⟩ := size24 m m0 m1
    have e : E = -24 := by unfold exPh at hE; rw [if_neg g] at hE; omega
    omega
theorem key_w (n : Bool) (rr : Int) (h0 : 0 ≤ rr) (h1 : rr ≤ 2139095040) : Cm.keyI (sgn_w n rr) = (if n then -rr else rr) ∧ sgn_w n rr % 2147483648 = rr ∧ 0 ≤ sgn_w n rr ∧ sgn_w n rr < 4294967296 := by
  cases n
  · simp only [sgn_w, Cm.keyI, Bool.false_eq_true, if_false]
    rw [if_neg (by omega)]
    omega
  · simp only [sgn_w, Cm.keyI, if_true]
    rw [if_pos (by omega)]
    omega
theorem word_sgn (a : Int) (h0 : 0 ≤ a) (h1 : a < 4294967296) : a = sgn_w (decide (2147483648 ≤ a)) (a % 2147483648) := by
  unfold sgn_w
  by_cases h : 2147483648 ≤ a
  · simp [h]; omega
  · simp [h]; omega
theorem cmp_le (x y : Int) (h : Cm.keyI x ≤ Cm.keyI y) : Cm.cmpI x y ≠ 1 := by
  unfold Cm.cmpI
  split
  · decide
  · split
    · decide
    · rw [if_neg (by omega)]; decide
/-- The half of a word, down (4) or up (3), and its word: on that side of it. -/
theorem lohi (a mode : Int) (hm : mode = 3 ∨ mode = 4) (h0 : 0 ≤ a) (h1 : a < 4294967296) : ∃ R W : Int, 0 ≤ W ∧ W < 4294967296 ∧
    (∀ w : World, Forms w → Calls Tryd.prog 13 #[.int .u32 a, .int .i64 mode] w fun e w' => e = .returned (.int .u32 R) ∧ Below w.heap.size w w') ∧
    (∀ w : World, Forms w → Calls Tryd.prog 9 #[.int .u32 R] w fun e w' => e = .returned (.int .u32 W) ∧ Below w.heap.size w w') ∧
    (if mode = 4 then Cm.cmpI W a ≠ 1 else Cm.cmpI a W ≠ 1) := by
  have ha := word_sgn a h0 h1
  by_cases k3 : 2139095040 < a % 2147483648
  · obtain ⟨W, _, hi, hW⟩ := fnExactWordOfHalf.both 32256 (by decide)
    have e : W = 2143289344 := by
      rcases hW with h | ⟨_, _, h⟩ | h | h | h
      · omega
      · exact h
      · omega
      · omega
      · omega
    subst e
    refine ⟨32256, 2143289344, by decide, by decide, fun w G => iH_of a mode _ (by omega) w (btw_3 a mode h0 h1 (by unfold kindI; rw [if_neg (by omega), if_neg (by omega), if_neg (by omega)]) w G), hi, ?_⟩
    have c1 : Cm.cmpI 2143289344 a = 2 := by unfold Cm.cmpI; rw [if_pos (Or.inl (by decide))]
    have c2 : Cm.cmpI a 2143289344 = 2 := by unfold Cm.cmpI; rw [if_pos (Or.inr (by decide))]
    split
    · rw [c1]; decide
    · rw [c2]; decide
  by_cases k1 : 0 < a % 2147483648 ∧ a % 2147483648 < 2139095040
  · obtain ⟨Q, ⟨q0, q1⟩, hs, hi⟩ := side a mode hm h0 h1 k1.1 k1.2
    obtain ⟨n, hn⟩ : ∃ n, decide (2147483648 ≤ a) = n := ⟨_, rfl⟩
    rw [hn] at hs hi ha
    have hh0 : 0 ≤ sgn_h n Q := by unfold sgn_h; split <;> omega
    obtain ⟨W, _, hiW, hW⟩ := fnExactWordOfHalf.both (sgn_h n Q) hh0
    obtain ⟨rr, hR, rfl⟩ := word_rung n Q W q0 q1 hW
    have bd := rung_bd Q rr hR
    have hsr := hs rr hR
    obtain ⟨e1, _, e3, e4⟩ := key_w n rr bd.1 bd.2
    obtain ⟨f1, _, _, _⟩ := key_w n (a % 2147483648) (by omega) (by omega)
    rw [← ha] at f1
    refine ⟨sgn_h n Q, sgn_w n rr, e3, e4, hi, hiW, ?_⟩
    rcases hm with rfl | rfl
    · rw [if_neg (by decide)]
      refine cmp_le _ _ ?_
      rw [e1, f1]
      cases n <;> simp [keepB] at hsr ⊢ <;> omega
    · rw [if_pos rfl]
      refine cmp_le _ _ ?_
      rw [e1, f1]
      cases n <;> simp [keepB] at hsr ⊢ <;> omega
  · obtain ⟨n, hn⟩ : ∃ n, decide (2147483648 ≤ a) = n := ⟨_, rfl⟩
    have hq : ∃ Q : Int, 0 ≤ Q ∧ Q ≤ 31744 ∧ (∀ rr, RungR Q rr → rr = a % 2147483648) ∧ ∀ w : World, Forms w → Calls Tryd.prog 13 #[.int .u32 a, .int .i64 mode] w fun e w' => e = .returned (.int .u32 (sgn_h (decide (2147483648 ≤ a)) Q)) ∧ Below w.heap.size w w' := by
      by_cases z : a % 2147483648 = 0
      · refine ⟨0, by decide, by decide, fun rr hR => ?_, fun w G => iH_of a mode _ (by omega) w (btw_0 a mode h0 h1 (by unfold kindI; rw [if_pos z]) w G)⟩
        rcases hR with h | h | h <;> omega
      · refine ⟨31744, by decide, by decide, fun rr hR => ?_, fun w G => iH_of a mode _ (by omega) w (btw_2 a mode h0 h1 (by unfold kindI; rw [if_neg z, if_neg (by omega), if_pos (by omega)]) w G)⟩
        rcases hR with h | h | h <;> omega
    obtain ⟨Q, q0, q1, hs, hi⟩ := hq
    rw [hn] at hi ha
    have hh0 : 0 ≤ sgn_h n Q := by unfold sgn_h; split <;> omega
    obtain ⟨W, _, hiW, hW⟩ := fnExactWordOfHalf.both (sgn_h n Q) hh0
    obtain ⟨rr, hR, rfl⟩ := word_rung n Q W q0 q1 hW
    obtain rfl := hs rr hR
    rw [← ha] at hiW
    refine ⟨sgn_h n Q, a, h0, h1, hi, hiW, ?_⟩
    split <;> exact cmp_le _ _ (Int.le_refl _)
theorem goes_none (mode : Int) (n : Bool) (K : Int) : goesB mode n K 0 = false := by unfold goesB; split <;> simp
/-- A half's word becomes that half again, whatever the mode. -/
theorem back (h R mode : Int) (hm : 0 ≤ mode ∧ mode ≤ 4) (h0 : 0 ≤ h) (h1 : h < 65536) (hW : WordR h R) (hN : R ≠ 2143289344) (w : World) (G : Forms w) :
    Calls Tryd.prog 13 #[.int .u32 R, .int .i64 mode] w fun e w' => e = .returned (.int .u32 h) ∧ Below w.heap.size w w' := by
  have hs : sgn_h (decide (32768 ≤ h)) (h % 32768) = h := by
    unfold sgn_h
    by_cases g : 32768 ≤ h
    · simp [g]; omega
    · simp [g]; omega
  obtain ⟨n, hn⟩ : ∃ n, decide (32768 ≤ h) = n := ⟨_, rfl⟩
  unfold WordR at hW
  rw [hn] at hW hs
  have dn : ∀ rr : Int, 0 ≤ rr → rr ≤ 2139095040 → decide (2147483648 ≤ sgn_w n rr) = n := by
    intro rr a b; unfold sgn_w; cases n <;> simp <;> omega
  rcases hW with g | g | ⟨_, g, rfl⟩ | ⟨_, g, rfl⟩ | ⟨_, q0, q1, m, E, hM, hE, m0, m1, rfl⟩
  · omega
  · omega
  · obtain ⟨e1, e2, e3, e4⟩ := key_w n 2139095040 (by decide) (by decide)
    have := btw_2 (sgn_w n 2139095040) mode e3 e4 (by rw [e2]; rfl) w G
    rw [dn _ (by decide) (by decide), show sgn_h n 31744 = h by rw [← g]; exact hs] at this
    exact iH_of _ mode _ hm w this
  · obtain ⟨e1, e2, e3, e4⟩ := key_w n 0 (by decide) (by decide)
    have := btw_0 (sgn_w n 0) mode e3 e4 (by rw [e2]; rfl) w G
    rw [dn _ (by decide) (by decide), show sgn_h n 0 = h by rw [← g]; exact hs] at this
    exact iH_of _ mode _ hm w this
  · obtain ⟨hl, lo, hi⟩ := size24 m m0 m1
    have ee : (1024 ≤ m ∧ Nat.log2 m = 10 ∧ (m : Int) = h % 32768 % 1024 + 1024 ∧ E = -24 + (h % 32768 / 1024 - 1) ∧ 1024 ≤ h % 32768) ∨ (m < 1024 ∧ Nat.log2 m ≤ 9 ∧ (m : Int) = h % 32768 ∧ E = -24) := by
      unfold exSh at hM
      unfold exPh at hE
      by_cases g : 1024 ≤ h % 32768
      · rw [if_pos g] at hM hE
        left
        exact ⟨by omega, log10 m (by omega) m1, by omega, by omega, g⟩
      · rw [if_neg g] at hM hE
        right
        have : Nat.log2 m < 10 := (Nat.log2_lt (by omega)).2 (by omega)
        exact ⟨by omega, by omega, by omega, by omega⟩
    obtain ⟨z, hz⟩ : ∃ z, m * 2 ^ (23 - Nat.log2 m) = z := ⟨_, rfl⟩
    obtain ⟨s, hs'⟩ : ∃ s, 23 - Nat.log2 m = s := ⟨_, rfl⟩
    have zd : z / 2 ^ s = m ∧ z % 2 ^ s = 0 := by
      rw [← hz, hs']
      exact ⟨Nat.mul_div_cancel _ (Nat.two_pow_pos s), Nat.mul_mod_left _ _⟩
    rw [hz] at lo hi ⊢
    obtain ⟨r, hr⟩ : ∃ r : Int, (z : Int) + ((Nat.log2 m : Int) + E - 23 - (-149)) * 8388608 = r := ⟨_, rfl⟩
    rw [hr]
    have rb : 0 < r ∧ r < 2139095040 := by rcases ee with e | e <;> omega
    obtain ⟨e1, e2, e3, e4⟩ := key_w n r (by omega) (by omega)
    have C : CutR (sgn_w n r % 2147483648) z s ((Nat.log2 m : Int) + E - 23) E := by
      rw [e2]
      refine ⟨?_, ?_, by omega, by omega, by omega, ?_⟩
      · unfold exS; rw [if_pos (by rcases ee with e | e <;> omega)]; omega
      · unfold exP; rw [if_pos (by rcases ee with e | e <;> omega)]; omega
      · rcases ee with e | e
        · exact Or.inl ⟨by omega, by omega, by omega, by omega, by omega⟩
        · exact Or.inr (Or.inl ⟨by omega, by omega, by omega, by omega, by omega⟩)
    have := half_w (sgn_w n r) mode hm e3 e4 z s _ E (by omega) (by omega) C (m : Int) (m : Int) (by rw [zd.1]) (by rw [zd.2]; simp [cutI, goes_none]) w G
    rw [dn r (by omega) (by omega)] at this
    have tl : told_h mode n (m : Int) E = h := by
      unfold told_h
      rw [if_neg (by rcases ee with e | e <;> omega), ← hs]
      congr 1
      rcases ee with e | e <;> omega
    rw [tl] at this
    exact this
end Go.Proofs.YtpildklndfgojaaDoor
