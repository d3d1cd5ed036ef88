/- WordOfHalf of the program and of the model: both answer alike, and what they answer. -/
import Derived.Test.YtpildklndfgojaaDoorRnd16Up
import Derived.Test.YtpildklndfgojaaDoorTold16
import Derived.Test.YtpildklndfgojaaDoorHalf
import Derived.Test.YtpildklndfgojaaDoorCards
import Derived.Test.YtpildklndfgojaaDoorTie
namespace Go.Proofs.YtpildklndfgojaaDoor.fnExactWordOfHalf
open Go.ChangeShapes Go.WideShapes Go.ChangeAt Go.RowKit

theorem bitLen_log : ∀ m : Fin 2048, m.val ≠ 0 → Lib.bitLen m.val = Nat.log2 m.val + 1 := by decide +kernel
theorem ipow (n : Nat) : ((2 : Int) ^ n) = ((2 ^ n : Nat) : Int) := by simp

/-- The sizes: m times 2 to (23 - L) has 24 bits, where L is m's last bit. -/
theorem size24 (m : Nat) (m0 : 0 < m) (m1 : m < 2048) : Nat.log2 m ≤ 10 ∧ 8388608 ≤ m * 2 ^ (23 - Nat.log2 m) ∧ m * 2 ^ (23 - Nat.log2 m) < 16777216 := by
  have hL : Nat.log2 m ≤ 10 := by
    have := (Nat.log2_lt (by omega : m ≠ 0)).2 (show m < 2 ^ 11 by omega)
    omega
  have lo := Nat.log2_self_le (by omega : m ≠ 0)
  have hi : m < 2 ^ (Nat.log2 m + 1) := Nat.lt_log2_self
  have e1 : 2 ^ Nat.log2 m * 2 ^ (23 - Nat.log2 m) = 8388608 := by rw [← Nat.pow_add, show Nat.log2 m + (23 - Nat.log2 m) = 23 by omega]
  have e2 : 2 ^ (Nat.log2 m + 1) * 2 ^ (23 - Nat.log2 m) = 16777216 := by rw [← Nat.pow_add, show Nat.log2 m + 1 + (23 - Nat.log2 m) = 24 by omega]
  refine ⟨hL, ?_, ?_⟩
  · rw [← e1]; exact Nat.mul_le_mul_right _ lo
  · rw [← e2]; exact Nat.mul_lt_mul_of_pos_right hi (Nat.two_pow_pos _)

/-- The model's rounding of a half's number: its size and its step. -/
theorem round16 (m : Nat) (n E : Int) (m0 : 0 < m) (m1 : m < 2048) (hn : (m : Int) = n ∨ (m : Int) = -n) (e0 : -24 ≤ E) (e1 : E ≤ 5) (neg : Bool) (v : World) :
    Calls Tryd.prog 86 #[.agg #[.int .i64 n, .bool false, .slice none 0 0, .int .i64 1, .bool false, .slice none 0 0, .int .i64 E], .agg #[.int .i64 24, .int .i64 (-149), .int .i64 104], .int .i64 0, .bool neg] v fun e w' => e = .returned (.tuple #[.int .i64 ((m * 2 ^ (23 - Nat.log2 m) : Nat) : Int), .int .i64 ((Nat.log2 m : Int) + E - 23)]) ∧ Below v.heap.size v w' := by
  obtain ⟨hL, lo, hi⟩ := size24 m m0 m1
  obtain ⟨X, hX⟩ : ∃ X, X = 23 - Nat.log2 m := ⟨_, rfl⟩
  obtain ⟨K, hK⟩ : ∃ K, K = m * 2 ^ X := ⟨_, rfl⟩
  rw [← hX, ← hK] at lo hi
  rw [← hX, ← hK]
  by_cases hE : E < 0
  · obtain ⟨d, hd⟩ : ∃ d : Nat, E = -(d : Int) := ⟨(-E).toNat, by omega⟩
    subst hd
    have hd24 : d ≤ 24 := by omega
    have dd : 2 ^ d ≤ 2 ^ 24 := Nat.pow_le_pow_right (by decide) hd24
    have dp : 0 < 2 ^ d := Nat.two_pow_pos d
    have key : ∀ j : Nat, (m : Int) * 2 ^ (X + d + j) = ((K * 2 ^ d * 2 ^ j : Nat) : Int) := by
      intro j
      rw [ipow, hK, Nat.pow_add, Nat.pow_add]
      push_cast
      rw [Int.mul_assoc, Int.mul_assoc, Int.mul_assoc]
    have at_ : ∀ i : Int, (Nat.log2 m : Int) + -(d : Int) - 26 ≤ i → i ≤ (Nat.log2 m : Int) + -(d : Int) - 23 → ∃ j : Nat, j ≤ 3 ∧ (-i).toNat = X + d + j ∧ (i < (Nat.log2 m : Int) + -(d : Int) - 23 → 1 ≤ j) := by
      intro i a b
      exact ⟨((Nat.log2 m : Int) + -(d : Int) - 23 - i).toNat, by omega, by omega, by omega⟩
    have hes : (-((Nat.log2 m : Int) + -(d : Int) - 23)).toNat = X + d + 0 := by omega
    refine zRound n m (2 ^ d) hn m0 (by omega) dp (by omega) (-(d : Int)) hE (by omega) (by rw [Int.neg_neg, Int.toNat_natCast]; exact ipow d) neg v ((Nat.log2 m : Int) + -(d : Int) - 26) ((Nat.log2 m : Int) + -(d : Int) - 23) K ?_ (by omega) (by omega) (by omega) ?_ ?_ ?_ ?_ ?_ (by omega) (by omega)
    · rw [Nat.log2_two_pow]; omega
    · intro i a b
      obtain ⟨j, j3, hj, j1⟩ := at_ i a (by omega)
      have := j1 b
      rw [hj, key]
      have p2 : 2 ^ 1 ≤ 2 ^ j := Nat.pow_le_pow_right (by decide) this
      have q : K * 2 ^ d * 2 ≤ K * 2 ^ d * 2 ^ j := Nat.mul_le_mul_left _ p2
      have q2 : 8388608 * 2 ^ d ≤ K * 2 ^ d := Nat.mul_le_mul_right _ lo
      generalize K * 2 ^ d * 2 ^ j = A at *
      generalize K * 2 ^ d = B at *
      generalize 2 ^ d = C at *
      omega
    · rw [hes, key]
      have q : K * 2 ^ d < 16777216 * 2 ^ d := Nat.mul_lt_mul_of_pos_right hi dp
      rw [Nat.pow_zero, Nat.mul_one]
      generalize K * 2 ^ d = B at *
      generalize 2 ^ d = C at *
      omega
    · intro i a b
      obtain ⟨j, j3, hj, _⟩ := at_ i a b
      rw [hj, key]
      have p2 : 2 ^ j ≤ 2 ^ 3 := Nat.pow_le_pow_right (by decide) j3
      have q : K * 2 ^ d * 2 ^ j ≤ 16777216 * 16777216 * 8 := Nat.mul_le_mul (Nat.mul_le_mul (by omega) dd) p2
      omega
    · rw [hes, key, Nat.pow_zero, Nat.mul_one]
      rw [← Int.natCast_ediv, Nat.mul_div_cancel _ dp]
    · rw [hes, key, Nat.pow_zero, Nat.mul_one]
      rw [← Int.natCast_emod, Nat.mul_mod_left]; rfl
  · obtain ⟨d, hd⟩ : ∃ d : Nat, E = (d : Int) := ⟨E.toNat, by omega⟩
    subst hd
    have hd5 : d ≤ 5 := by omega
    have dd : 2 ^ d ≤ 2 ^ 5 := Nat.pow_le_pow_right (by decide) hd5
    have dp : 0 < 2 ^ d := Nat.two_pow_pos d
    have key : ∀ j : Nat, ((m * 2 ^ d : Nat) : Int) * 2 ^ (X - d + j) = ((K * 2 ^ j : Nat) : Int) := by
      intro j
      rw [ipow, ← Int.natCast_mul, hK, Nat.pow_add]
      congr 1
      rw [Nat.mul_assoc, ← Nat.mul_assoc (2 ^ d), ← Nat.pow_add, show d + (X - d) = X by omega, ← Nat.mul_assoc]
    have at_ : ∀ i : Int, (Nat.log2 m : Int) + (d : Int) - 26 ≤ i → i ≤ (Nat.log2 m : Int) + (d : Int) - 23 → ∃ j : Nat, j ≤ 3 ∧ (-i).toNat = X - d + j ∧ (i < (Nat.log2 m : Int) + (d : Int) - 23 → 1 ≤ j) := by
      intro i a b
      exact ⟨((Nat.log2 m : Int) + (d : Int) - 23 - i).toNat, by omega, by omega, by omega⟩
    have hes : (-((Nat.log2 m : Int) + (d : Int) - 23)).toNat = X - d + 0 := by omega
    have mb : m * 2 ^ d ≤ 2047 * 32 := Nat.mul_le_mul (by omega) dd
    have mp : 0 < m * 2 ^ d := Nat.mul_pos m0 dp
    have hlog : Nat.log2 (m * 2 ^ d) = Nat.log2 m + d := by
      rw [Nat.log2_eq_iff (by omega)]
      have a1 := Nat.log2_self_le (by omega : m ≠ 0)
      have a2 : m < 2 ^ (Nat.log2 m + 1) := Nat.lt_log2_self
      refine ⟨?_, ?_⟩
      · rw [Nat.pow_add]; exact Nat.mul_le_mul_right _ a1
      · rw [show Nat.log2 m + d + 1 = Nat.log2 m + 1 + d by omega, Nat.pow_add]; exact Nat.mul_lt_mul_of_pos_right a2 dp
    refine zRoundUp n m (m * 2 ^ d) 1 hn m0 (by omega) mp (by omega) (by decide) (by decide) rfl (d : Int) (by omega) (by omega) ((2 ^ d : Nat) : Int) (by rw [Int.toNat_natCast]; exact ipow d) (by push_cast; rfl) (by omega) (by omega) neg v ((Nat.log2 m : Int) + (d : Int) - 26) ((Nat.log2 m : Int) + (d : Int) - 23) K ?_ (by omega) (by omega) (by omega) ?_ ?_ ?_ ?_ ?_ (by omega) (by omega)
    · rw [hlog, show Nat.log2 1 = 0 by decide]; omega
    · intro i a b
      obtain ⟨j, j3, hj, j1⟩ := at_ i a (by omega)
      have := j1 b
      rw [hj, key]
      have p2 : 2 ^ 1 ≤ 2 ^ j := Nat.pow_le_pow_right (by decide) this
      have q : K * 2 ≤ K * 2 ^ j := Nat.mul_le_mul_left _ p2
      generalize K * 2 ^ j = A at *
      omega
    · rw [hes, key, Nat.pow_zero, Nat.mul_one]
      omega
    · intro i a b
      obtain ⟨j, j3, hj, _⟩ := at_ i a b
      rw [hj, key]
      have p2 : 2 ^ j ≤ 2 ^ 3 := Nat.pow_le_pow_right (by decide) j3
      have q : K * 2 ^ j ≤ 16777216 * 8 := Nat.mul_le_mul (by omega) p2
      omega
    · rw [hes, key, Nat.pow_zero, Nat.mul_one]
      simp
    · rw [hes, key, Nat.pow_zero, Nat.mul_one]
      simp

/-- What the word of a half is. -/
def WordR (h R : Int) : Prop :=
  (65535 < h ∧ R = 0) ∨ (h ≤ 65535 ∧ 31744 < h % 32768 ∧ R = 2143289344) ∨ (h ≤ 65535 ∧ h % 32768 = 31744 ∧ R = sgn_w (decide (32768 ≤ h)) 2139095040) ∨
  (h ≤ 65535 ∧ h % 32768 = 0 ∧ R = sgn_w (decide (32768 ≤ h)) 0) ∨
  (h ≤ 65535 ∧ 0 < h % 32768 ∧ h % 32768 < 31744 ∧ ∃ (m : Nat) (E : Int), exSh (h % 32768) = m ∧ exPh (h % 32768) = E ∧ 0 < m ∧ m < 2048 ∧
    R = sgn_w (decide (32768 ≤ h)) (((m * 2 ^ (23 - Nat.log2 m) : Nat) : Int) + ((Nat.log2 m : Int) + E - 23 - (-149)) * 8388608))
theorem both (h : Int) (h0 : 0 ≤ h) : ∃ R : Int,
    (∀ w : World, Calls Tryd.prog 10 #[.int .u32 h] w fun e w' => e = .returned (.int .u32 R) ∧ Below w.heap.size w w') ∧
    (∀ w : World, Forms w → Calls Tryd.prog 9 #[.int .u32 h] w fun e w' => e = .returned (.int .u32 R) ∧ Below w.heap.size w w') ∧ WordR h R := by
  by_cases hb : 65535 < h
  · exact ⟨0, fun w => sW_big h hb w, fun w G => iW_big h hb w G, Or.inl ⟨hb, rfl⟩⟩
  have h1 : h ≤ 65535 := by omega
  by_cases k31 : h / 1024 % 32 = 31
  · refine ⟨_, fun w => sW_31 h h0 h1 k31 w, fun w G => iW_of h _ h1 w G ?_, ?wr⟩
    case wr =>
      by_cases km : 0 < h % 1024
      · exact Or.inr (Or.inl ⟨h1, by omega, by simp [km]⟩)
      · refine Or.inr (Or.inr (Or.inl ⟨h1, by omega, ?_⟩))
        by_cases hs : 32768 ≤ h <;> simp [km, hs, sgn_w]
    by_cases km : 0 < h % 1024
    · rw [if_pos km]
      exact between_3 h h0 (by omega) (by unfold kindH; rw [if_neg (by omega), if_neg (by omega), if_neg (by omega)]) w G
    · rw [if_neg km]
      have := between_2 h h0 (by omega) (by unfold kindH; rw [if_neg (by omega), if_neg (by omega), if_pos (by omega)]) w G
      by_cases hs : 32768 ≤ h
      · rw [if_pos hs]
        rw [show sgn_w (decide (32768 ≤ h)) 2139095040 = 4286578688 by simp [sgn_w, hs]] at this
        exact this
      · rw [if_neg hs]
        rw [show sgn_w (decide (32768 ≤ h)) 2139095040 = 2139095040 by simp [sgn_w, hs]] at this
        exact this
  by_cases k0 : h / 1024 % 32 = 0 ∧ h % 1024 = 0
  · refine ⟨_, fun w => sW_0 h h0 h1 k0.1 k0.2 w, fun w G => iW_of h _ h1 w G ?_, ?wr⟩
    case wr =>
      refine Or.inr (Or.inr (Or.inr (Or.inl ⟨h1, by omega, ?_⟩)))
      by_cases hs : 32768 ≤ h <;> simp [hs, sgn_w]
    have := between_0 h h0 (by omega) (by unfold kindH; rw [if_pos (by omega)]) w G
    by_cases hs : 32768 ≤ h
    · rw [if_pos hs]
      rw [show sgn_w (decide (32768 ≤ h)) 0 = 2147483648 by simp [sgn_w, hs]] at this
      exact this
    · rw [if_neg hs]
      rw [show sgn_w (decide (32768 ≤ h)) 0 = 0 by simp [sgn_w, hs]] at this
      exact this
  obtain ⟨m, hm⟩ : ∃ m : Nat, exSh (h % 32768) = m := ⟨(exSh (h % 32768)).toNat, by have : 0 ≤ exSh (h % 32768) := by unfold exSh; split <;> omega
                                                                                    omega⟩
  obtain ⟨E, hE⟩ : ∃ E, exPh (h % 32768) = E := ⟨_, rfl⟩
  have hm1 : (m : Int) = if 0 < h / 1024 % 32 then h % 1024 + 1024 else h % 1024 := by
    rw [← hm]; unfold exSh
    by_cases hx : 0 < h / 1024 % 32
    · rw [if_pos hx, if_pos (by omega)]; omega
    · rw [if_neg hx, if_neg (by omega)]; omega
  have hE1 : E = if 0 < h / 1024 % 32 then h / 1024 % 32 - 1 - 24 else h / 1024 % 32 - 24 := by
    rw [← hE]; unfold exPh
    by_cases hx : 0 < h / 1024 % 32
    · rw [if_pos hx, if_pos (by omega)]; omega
    · rw [if_neg hx, if_neg (by omega)]; omega
  have m0 : 0 < m := by split at hm1 <;> omega
  have m1 : m < 2048 := by split at hm1 <;> omega
  have e0 : -24 ≤ E := by split at hE1 <;> omega
  have e1 : E ≤ 5 := by split at hE1 <;> omega
  obtain ⟨hL, lo, hi⟩ := size24 m m0 m1
  obtain ⟨K, hK⟩ : ∃ K, m * 2 ^ (23 - Nat.log2 m) = K := ⟨_, rfl⟩
  rw [hK] at lo hi
  have hsg : (if decide (32768 ≤ h) = true then (2147483648 : Int) else 0) + ((Nat.log2 m : Int) + E - 23 + 150) * 8388608 + (K : Int) - 8388608 = sgn_w (decide (32768 ≤ h)) ((K : Int) + ((Nat.log2 m : Int) + E - 23 - (-149)) * 8388608) := by
    unfold sgn_w
    by_cases hs : 32768 ≤ h
    · simp only [hs, decide_true, if_true]; omega
    · simp only [hs, decide_false, if_false, Bool.false_eq_true]; omega
  refine ⟨sgn_w (decide (32768 ≤ h)) ((K : Int) + ((Nat.log2 m : Int) + E - 23 - (-149)) * 8388608), fun w => ?_, fun w G => iW_of h _ h1 w G ?_, ?wr⟩
  case wr => exact Or.inr (Or.inr (Or.inr (Or.inr ⟨h1, by omega, by omega, m, E, hm, hE, m0, m1, by rw [hK]⟩)))
  · refine sW_num h m E _ h0 h1 (by omega) (by omega) (by omega) hm1 hE1 ?_ ?_ w ?_
    · unfold sgn_w; split <;> omega
    · unfold sgn_w; split <;> omega
    · intro v
      have := zTold (if 32768 ≤ h then -(m : Int) else m) E K ((Nat.log2 m : Int) + E - 23) (decide (32768 ≤ h)) (by by_cases hs : 32768 ≤ h <;> simp [hs] <;> omega) (by omega) (by omega) (by omega) (by omega) v
        (fun v => by
          have := round16 m (if 32768 ≤ h then -(m : Int) else m) E m0 m1 (by by_cases hs : 32768 ≤ h <;> simp [hs]) e0 e1 (decide (32768 ≤ h)) v
          rw [hK] at this
          exact this)
      rw [hsg] at this
      exact this
  · refine between_1 h _ h0 (by omega) (by unfold kindH; rw [if_neg (by omega), if_pos (by omega)]) w G fun v Gv => ?_
    rw [hm, hE]
    have bl := bitLen_log ⟨m, m1⟩ (by simpa using (by omega : m ≠ 0))
    have := rx_up_w (decide (32768 ≤ h)) (m : Int) E 2 false v Gv (by omega) (by omega) (by omega) (by omega) ((Nat.log2 m : Int) + 1) ((Nat.log2 m : Int) + E - 23) (K : Int)
      (by rw [Int.toNat_natCast]; simp only at bl; rw [bl]; push_cast; rfl) (by omega) (by omega) (by omega) (Or.inl (by omega)) (by omega)
      (by rw [show (E - ((Nat.log2 m : Int) + E - 23)).toNat = 23 - Nat.log2 m by omega, ipow, ← Int.natCast_mul, hK]; omega) (by omega) (by omega)
    have ht : told_w 2 (decide (32768 ≤ h)) (K : Int) ((Nat.log2 m : Int) + E - 23) = sgn_w (decide (32768 ≤ h)) ((K : Int) + ((Nat.log2 m : Int) + E - 23 - (-149)) * 8388608) := by
      unfold told_w; rw [if_neg (by omega)]
    rw [ht] at this
    exact this
end Go.Proofs.YtpildklndfgojaaDoor.fnExactWordOfHalf
