/- Both sides' ToWhole answer alike (chapter 1's and part 7's text at this seat). Words in order, and the program's CmpWords at every two words. CallWords' small functions on both sides: floats of whole numbers and back, words in order, one NaN; conditions: words of 32 bits, the table of float forms. -/
import Derived.Test.YtoloenkcfpfgcaaDoorSWholeA
import Derived.Test.YtoloenkcfpfgcaaDoorSWholeB
import Derived.Test.YtoloenkcfpfgcaaDoorSWholeC
import Derived.Test.YtoloenkcfpfgcaaDoorSWholeD
import Derived.WalkSmall
import Ieee.Arith
import Derived.Test.YtoloenkcfpfgcaaDoorRows
import Derived.WalkKit
import Derived.ProofKit
import Derived.OpenShut
import Derived.WalkLawsBesides
import Derived.Laws.BitsAll
import Derived.Laws.StandIn
import Derived.Test.YtoloenkcfpfgcaaDoorToFloat
import Derived.Deep.QuietTactic
import Derived.BigQuiet
import Derived.Deep.RegionHeld3
namespace Go.Proofs.YtoloenkcfpfgcaaDoor.fnExactToWhole
open Go.ChangeShapes Go.WideShapes Go.ChangeAt Go.RowKit

/-- Both sides answer alike: one number for each word and mode. -/
theorem both (a mode : Int) (h0 : 0 ≤ a) (h1 : a < 4294967296) : ∃ R : Int,
    (∀ w : World, Calls Tryd.prog 44 #[.int .u32 a, .int .i64 mode] w fun e w' => e = .returned (.int .i64 R) ∧ w' = w) ∧
    (∀ w : World, Forms w → Calls Tryd.prog 57 #[.int .u32 a, .int .i64 mode] w fun e w' => e = .returned (.int .i64 R) ∧ Below w.heap.size w w') := by
  by_cases hm : 0 ≤ mode ∧ mode ≤ 4
  case neg => exact ⟨0, fun w => sw_bad a mode hm w, fun w _ => whole_bad a mode hm w⟩
  by_cases hk : 2139095040 < a % 2147483648
  · have hk3 : kindI (a % 2147483648) = 3 := by unfold kindI; rw [if_neg (by omega), if_neg (by omega), if_neg (by omega)]
    exact ⟨0, fun w => sw_nan a mode h0 h1 hm hk w, fun w G => whole_nan a mode h0 h1 hm hk3 w G⟩
  have hk' : a % 2147483648 ≤ 2139095040 := by omega
  have hk3 : ¬ kindI (a % 2147483648) = 3 := by
    unfold kindI
    by_cases c0 : a % 2147483648 = 0
    · rw [if_pos c0]; decide
    · rw [if_neg c0]
      by_cases c1 : a % 2147483648 ≤ 2139095039
      · rw [if_pos c1]; decide
      · rw [if_neg c1, if_pos (by omega)]; decide
  obtain ⟨S, hS⟩ : ∃ S, exS (a % 2147483648) = S := ⟨_, rfl⟩
  obtain ⟨P, hP⟩ : ∃ P, exP (a % 2147483648) = P := ⟨_, rfl⟩
  have sb := exS_bd (a % 2147483648) (by omega)
  have pb := exP_bd (a % 2147483648) (by omega) hk'
  rw [hS] at sb
  rw [hP] at pb
  obtain ⟨s0, s1⟩ := sb
  by_cases hf : 1325400064 ≤ keyI a ∨ keyI a < -1325400064
  · refine ⟨_, fun w => sw_far a mode h0 h1 hm hk' hf w, fun w G => ?_⟩
    have hr : 1325400064 ≤ a % 2147483648 := by unfold keyI at hf; split at hf <;> omega
    have hp8 : 8 ≤ P := by rw [← hP]; unfold exP; rw [if_pos (by omega)]; omega
    have hs8 : 8388608 ≤ S := by rw [← hS]; unfold exS; rw [if_pos (by omega)]; omega
    by_cases hp : 32 ≤ P
    · refine (whole_far a mode h0 h1 hm hk3 w G S P hS hP hp).mono fun e w' h => ?_
      have hw : wholeI 2147483648 (decide (2147483648 ≤ a)) = if 2147483648 ≤ a then -2147483648 else 2147483647 := by
        unfold wholeI
        by_cases h : 2147483648 ≤ a
        · simp [h]
        · simp [h]
      rw [hw] at h; exact h
    · have q1 : (256 : Int) ≤ 2 ^ P.toNat := by
        have a : (2 : Nat) ^ 8 ≤ 2 ^ P.toNat := Nat.pow_le_pow_right (by decide) (by omega)
        have e : ((2 : Int) ^ P.toNat) = ((2 ^ P.toNat : Nat) : Int) := by simp
        rw [e]; omega
      have q2 : (2 : Int) ^ P.toNat ≤ 2147483648 := by
        have a : (2 : Nat) ^ P.toNat ≤ 2 ^ 31 := Nat.pow_le_pow_right (by decide) (by omega)
        have e : ((2 : Int) ^ P.toNat) = ((2 ^ P.toNat : Nat) : Int) := by simp
        rw [e]; omega
      have lo : 8388608 * 256 ≤ S * 2 ^ P.toNat := Int.mul_le_mul hs8 q1 (by decide) s0
      have hi : S * 2 ^ P.toNat ≤ 16777216 * 2147483648 := Int.mul_le_mul (by omega) q2 (by omega) (by decide)
      have e64 : S * 2 ^ P.toNat % 18446744073709551616 = S * 2 ^ P.toNat := by omega
      refine (whole_up a mode h0 h1 hm hk3 w G S P _ hS hP (by omega) (by omega) e64 (by omega) (by omega)).mono fun e w' h => ?_
      have hw : wholeI (S * 2 ^ P.toNat) (decide (2147483648 ≤ a)) = if 2147483648 ≤ a then -2147483648 else 2147483647 := by
        unfold wholeI
        generalize S * 2 ^ P.toNat = Z at *
        by_cases h : 2147483648 ≤ a
        · simp only [h, decide_true, if_true]
          split <;> omega
        · simp only [h, decide_false, if_false, Bool.false_eq_true]
          rw [if_pos (by omega)]
      rw [hw] at h; exact h
  have hf1 : keyI a < 1325400064 := by omega
  have hf2 : -1325400064 ≤ keyI a := by omega
  by_cases hp : 0 ≤ P
  · have hr : a % 2147483648 ≤ 1325400064 := by unfold keyI at hf1 hf2; split at hf1 <;> omega
    have hr2 : ¬ 2147483648 ≤ a → a % 2147483648 < 1325400064 := by intro h; unfold keyI at hf1; rw [if_neg h] at hf1; exact hf1
    have hp8 : P ≤ 8 := by rw [← hP]; unfold exP; split <;> omega
    have q1 : (1 : Int) ≤ 2 ^ P.toNat := Int.pow_pos (by decide)
    have lo : 0 ≤ S * 2 ^ P.toNat := Int.mul_nonneg s0 (by omega)
    have hi : S * 2 ^ P.toNat ≤ 2147483648 ∧ (¬ 2147483648 ≤ a → S * 2 ^ P.toNat ≤ 2147483647) := by
      by_cases h8 : P = 8
      · have hre : a % 2147483648 = 1325400064 := by rw [← hP] at h8; unfold exP at h8; split at h8 <;> omega
        have hSe : S = 8388608 := by rw [← hS, hre]; rfl
        subst h8; subst hSe
        refine ⟨by decide, fun h => ?_⟩
        have := hr2 h
        omega
      · have q2 : (2 : Int) ^ P.toNat ≤ 128 := by
          have a : (2 : Nat) ^ P.toNat ≤ 2 ^ 7 := Nat.pow_le_pow_right (by decide) (by omega)
          have e : ((2 : Int) ^ P.toNat) = ((2 ^ P.toNat : Nat) : Int) := by simp
          rw [e]; omega
        have : S * 2 ^ P.toNat ≤ 16777215 * 128 := Int.mul_le_mul (by omega) q2 (by omega) (by decide)
        omega
    obtain ⟨hi1, hi2⟩ := hi
    have e64 : S * 2 ^ P.toNat % 18446744073709551616 = S * 2 ^ P.toNat := by omega
    refine ⟨_, fun w => sw_up a mode h0 h1 hm hk' hf1 hf2 w S P _ hS hP s0 s1 hp hp8 rfl lo hi1 hi2, fun w G => ?_⟩
    refine (whole_up a mode h0 h1 hm hk3 w G S P _ hS hP hp (by omega) e64 lo (by omega)).mono fun e w' h => ?_
    have hw : wholeI (S * 2 ^ P.toNat) (decide (2147483648 ≤ a)) = if 2147483648 ≤ a then -(S * 2 ^ P.toNat) else S * 2 ^ P.toNat := by
      unfold wholeI
      generalize S * 2 ^ P.toNat = Z at *
      by_cases h : 2147483648 ≤ a
      · simp only [h, decide_true, if_true]
        rw [if_neg (by omega)]
      · have := hi2 h
        simp only [h, decide_false, if_false, Bool.false_eq_true]
        rw [if_neg (by omega)]
    rw [hw] at h; exact h
  obtain ⟨p, hp'⟩ : ∃ p, P = -p := ⟨-P, by omega⟩
  subst hp'
  have hpos : (0 : Int) < 2 ^ p.toNat := Int.pow_pos (by decide)
  have e1 := Int.ediv_mul_add_emod S (2 ^ p.toNat)
  have e2 := Int.emod_nonneg S (Int.ne_of_gt hpos)
  have e3 : 0 ≤ S / 2 ^ p.toNat := Int.ediv_nonneg s0 (Int.le_of_lt hpos)
  have e4 : S / 2 ^ p.toNat ≤ S := Int.ediv_le_self _ s0
  have e5 : 0 ≤ S / 2 ^ p.toNat * 2 ^ p.toNat := Int.mul_nonneg e3 (Int.le_of_lt hpos)
  obtain ⟨n, hn⟩ : ∃ n, (if goesB mode (decide (2147483648 ≤ a)) (S / 2 ^ p.toNat) (cutI (S % 2 ^ p.toNat) (2 ^ (p.toNat - 1)) false) then S / 2 ^ p.toNat + 1 else S / 2 ^ p.toNat) = n := ⟨_, rfl⟩
  have hnb : n ≤ 2147483647 := by rw [← hn]; split <;> omega
  have impl : ∀ w : World, Forms w → Calls Tryd.prog 57 #[.int .u32 a, .int .i64 mode] w fun e w' => e = .returned (.int .i64 (if 2147483648 ≤ a then -n else n)) ∧ Below w.heap.size w w' := by
    intro w G
    refine (whole_dn a mode h0 h1 hm hk3 w G S (-p) (S / 2 ^ p.toNat) _ _ hS hP s0 s1 (by omega) (by omega) (by rw [Int.neg_neg]) e3 e4 rfl rfl).mono fun e w' h => ?_
    rw [Int.neg_neg, hn, whole_sign n a hnb] at h
    exact h
  by_cases h40 : p < 40
  · have hb : 0 < (2 : Int) ^ (p.toNat - 1) ∧ (2 : Int) ^ (p.toNat - 1) ≤ 549755813888 := by
      have a : (2 : Nat) ^ (p.toNat - 1) ≤ 2 ^ 39 := Nat.pow_le_pow_right (by decide) (by omega)
      have b : 0 < (2 : Nat) ^ (p.toNat - 1) := Nat.two_pow_pos _
      have e : ((2 : Int) ^ (p.toNat - 1)) = ((2 ^ (p.toNat - 1) : Nat) : Int) := by simp
      rw [e]; omega
    have hR : S - S / 2 ^ p.toNat * 2 ^ p.toNat = S % 2 ^ p.toNat := by omega
    refine ⟨_, fun w => ?_, impl⟩
    rcases (by omega : mode = 0 ∨ mode = 1 ∨ mode = 2 ∨ mode = 3 ∨ mode = 4) with rfl | rfl | rfl | rfl | rfl
    · exact sw_dn0 a h0 h1 hk' hf1 hf2 w S p _ _ _ _ _ hS hP s0 s1 (by omega) h40 rfl rfl rfl hR rfl e3 e4 e5 (by omega) hb.1 hb.2 n hn
    · exact sw_dn1 a h0 h1 hk' hf1 hf2 w S p _ _ _ _ _ hS hP s0 s1 (by omega) h40 rfl rfl rfl hR rfl e3 e4 e5 (by omega) hb.1 hb.2 n hn
    · exact sw_dn2 a h0 h1 hk' hf1 hf2 w S p _ _ _ _ _ hS hP s0 s1 (by omega) h40 rfl rfl rfl hR rfl e3 e4 e5 (by omega) hb.1 hb.2 n hn
    · exact sw_dn3 a h0 h1 hk' hf1 hf2 w S p _ _ _ _ _ hS hP s0 s1 (by omega) h40 rfl rfl rfl hR rfl e3 e4 e5 (by omega) hb.1 hb.2 n hn
    · exact sw_dn4 a h0 h1 hk' hf1 hf2 w S p _ _ _ _ _ hS hP s0 s1 (by omega) h40 rfl rfl rfl hR rfl e3 e4 e5 (by omega) hb.1 hb.2 n hn
  · have big : (549755813888 : Int) ≤ 2 ^ (p.toNat - 1) := by
      have a : (2 : Nat) ^ 39 ≤ 2 ^ (p.toNat - 1) := Nat.pow_le_pow_right (by decide) (by omega)
      have e : ((2 : Int) ^ (p.toNat - 1)) = ((2 ^ (p.toNat - 1) : Nat) : Int) := by simp
      rw [e]; omega
    have big' : (549755813888 : Int) ≤ 2 ^ p.toNat := by
      have a : (2 : Nat) ^ 39 ≤ 2 ^ p.toNat := Nat.pow_le_pow_right (by decide) (by omega)
      have e : ((2 : Int) ^ p.toNat) = ((2 ^ p.toNat : Nat) : Int) := by simp
      rw [e]; omega
    have hq : S / 2 ^ p.toNat = 0 := Int.ediv_eq_zero_of_lt s0 (by omega)
    have hr : S % 2 ^ p.toNat = S := Int.emod_eq_of_lt s0 (by omega)
    refine ⟨_, fun w => sw_tiny a mode hm h0 h1 hk' hf1 hf2 w S p hS hP s0 s1 (by omega) (by omega) n ?_, impl⟩
    rw [← hn, hq, hr]
    have hc : cutI S (2 ^ (p.toNat - 1)) false = if S = 0 then 0 else 1 := by
      unfold cutI
      by_cases z : S = 0
      · rw [if_pos ⟨z, rfl⟩, if_pos z]
      · rw [if_neg (fun h => z h.1), if_pos (by omega), if_neg z]
    rw [hc]
    rcases (by omega : mode = 0 ∨ mode = 1 ∨ mode = 2 ∨ mode = 3 ∨ mode = 4) with rfl | rfl | rfl | rfl | rfl <;> by_cases z : S = 0 <;> by_cases h : 2147483648 ≤ a <;> simp [goesB, z, h] <;> omega

end Go.Proofs.YtoloenkcfpfgcaaDoor.fnExactToWhole
namespace Go.Proofs.YtoloenkcfpfgcaaDoor.Order

/-- The size of a rung in steps of 2^-149. -/
def V (r : Nat) : Nat := if r < 8388608 then r else (8388608 + r % 8388608) * 2 ^ (r / 8388608 - 1)
def M (r : Nat) : Nat := if r < 8388608 then r else 8388608 + r % 8388608
def E (r : Nat) : Nat := if r < 8388608 then 0 else r / 8388608 - 1

theorem V_eq (r : Nat) : V r = M r * 2 ^ E r := by
  unfold V M E; split <;> simp

theorem V_lt {r s : Nat} (h : r < s) : V r < V s := by
  unfold V
  by_cases h1 : r < 8388608
  · rw [if_pos h1]
    by_cases h2 : s < 8388608
    · rw [if_pos h2]; exact h
    · rw [if_neg h2]
      have : 1 ≤ 2 ^ (s / 8388608 - 1) := Nat.one_le_two_pow
      calc r < 8388608 := h1
        _ ≤ 8388608 + s % 8388608 := by omega
        _ = (8388608 + s % 8388608) * 1 := by omega
        _ ≤ _ := Nat.mul_le_mul_left _ this
  · have h2 : ¬ s < 8388608 := by omega
    rw [if_neg h1, if_neg h2]
    by_cases he : r / 8388608 = s / 8388608
    · rw [he]
      exact Nat.mul_lt_mul_of_pos_right (by omega) (Nat.two_pow_pos _)
    · have hlt : r / 8388608 < s / 8388608 := by omega
      have hp : 2 ^ (r / 8388608 - 1) * 2 ≤ 2 ^ (s / 8388608 - 1) := by
        rw [← Nat.pow_succ]
        exact Nat.pow_le_pow_right (by decide) (by omega)
      have hpos := Nat.two_pow_pos (r / 8388608 - 1)
      calc (8388608 + r % 8388608) * 2 ^ (r / 8388608 - 1) < (8388608 * 2) * 2 ^ (r / 8388608 - 1) :=
            Nat.mul_lt_mul_of_pos_right (by omega) hpos
        _ = 8388608 * (2 ^ (r / 8388608 - 1) * 2) := by rw [Nat.mul_assoc, Nat.mul_comm 2]
        _ ≤ 8388608 * 2 ^ (s / 8388608 - 1) := Nat.mul_le_mul_left _ hp
        _ ≤ _ := Nat.mul_le_mul_right _ (by omega)

theorem V_zero : V 0 = 0 := rfl
theorem V_iff (r s : Nat) : V r < V s ↔ r < s := by
  constructor
  · intro h
    rcases Nat.lt_trichotomy r s with h' | h' | h'
    · exact h'
    · subst h'; omega
    · have := V_lt h'; omega
  · exact V_lt
theorem V_inj (r s : Nat) : V r = V s ↔ r = s := by
  constructor
  · intro h
    rcases Nat.lt_trichotomy r s with h' | h' | h'
    · have := V_lt h'; omega
    · exact h'
    · have := V_lt h'; omega
  · rintro rfl; rfl

/-- The sign put ahead. -/
def sg (neg : Bool) (n : Nat) : Int := if neg then -(n : Int) else n

theorem cmp_of {x y x' y' : Int} (h1 : x < y ↔ x' < y') (h2 : x = y ↔ x' = y') : compare x y = compare x' y' := by
  show compareOfLessAndEq x y = compareOfLessAndEq x' y'
  unfold compareOfLessAndEq
  by_cases h : x < y
  · rw [if_pos h, if_pos (h1.1 h)]
  · rw [if_neg h, if_neg (fun k => h (h1.2 k))]
    by_cases g : x = y
    · rw [if_pos g, if_pos (h2.1 g)]
    · rw [if_neg g, if_neg (fun k => g (h2.2 k))]

theorem cmp_lt {x y : Int} (h : x < y) : compare x y = .lt := by
  show compareOfLessAndEq x y = _; unfold compareOfLessAndEq; rw [if_pos h]
theorem cmp_eq {x y : Int} (h : x = y) : compare x y = .eq := by
  show compareOfLessAndEq x y = _; unfold compareOfLessAndEq; rw [if_neg (by omega), if_pos h]
theorem cmp_gt {x y : Int} (h : y < x) : compare x y = .gt := by
  show compareOfLessAndEq x y = _; unfold compareOfLessAndEq; rw [if_neg (by omega), if_neg (by omega)]

theorem sg_V (s t : Bool) (r q : Nat) : compare (sg s (V r)) (sg t (V q)) = compare (sg s r) (sg t q) := by
  have a := V_iff r q
  have b := V_inj r q
  have c := V_iff q r
  have z1 := V_iff 0 r
  have z2 := V_iff 0 q
  rw [V_zero] at z1 z2
  apply cmp_of <;> cases s <;> cases t <;> simp [sg] <;> omega

theorem sg_scale (s t : Bool) (m n k : Nat) : compare (sg s m) (sg t n) = compare (sg s (m * 2 ^ k)) (sg t (n * 2 ^ k)) := by
  have hp := Nat.two_pow_pos k
  have a : m * 2 ^ k < n * 2 ^ k ↔ m < n := Nat.mul_lt_mul_right hp
  have a' : n * 2 ^ k < m * 2 ^ k ↔ n < m := Nat.mul_lt_mul_right hp
  have z : 0 < m * 2 ^ k ↔ 0 < m := by rw [Nat.mul_pos_iff_of_pos_right hp]
  have z' : 0 < n * 2 ^ k ↔ 0 < n := by rw [Nat.mul_pos_iff_of_pos_right hp]
  generalize m * 2 ^ k = M' at *
  generalize n * 2 ^ k = N' at *
  apply cmp_of <;> cases s <;> cases t <;> simp [sg] <;> omega

theorem signed_eq (s : Bool) (m k : Nat) : Ieee.signed s m k = sg s (m * 2 ^ k) := by
  unfold Ieee.signed sg
  simp [Nat.shiftLeft_eq]

theorem order_num (s t : Bool) (r q : Nat) :
    Ieee.Datum.order (.number s (M r) (-149 + (E r : Nat))) (.number t (M q) (-149 + (E q : Nat))) = some (compare (sg s r) (sg t q)) := by
  simp only [Ieee.Datum.order, signed_eq]
  congr 1
  rw [sg_scale s t _ _ (min (E r) (E q)), ← sg_V s t r q, V_eq, V_eq]
  have e1 : ((-149 + (E r : Int)) - min (-149 + (E r : Int)) (-149 + (E q : Int))).toNat = E r - min (E r) (E q) := by omega
  have e2 : ((-149 + (E q : Int)) - min (-149 + (E r : Int)) (-149 + (E q : Int))).toNat = E q - min (E r) (E q) := by omega
  rw [e1, e2, Nat.mul_assoc, Nat.mul_assoc, ← Nat.pow_add, ← Nat.pow_add]
  rw [show E r - min (E r) (E q) + min (E r) (E q) = E r by omega, show E q - min (E r) (E q) + min (E r) (E q) = E q by omega]

theorem consts : Ieee.single.signWeight = 2147483648 ∧ Ieee.single.binade = 8388608 ∧ Ieee.single.infRung = 2139095040 ∧ Ieee.single.leastPlace = -149 := by
  refine ⟨?_, ?_, ?_, ?_⟩ <;> decide

/-- The sign of a word. -/
def ng (a : Nat) : Bool := a / 2147483648 % 2 == 1

theorem read_fin (a : Nat) (h : a % 2147483648 < 2139095040) :
    Ieee.single.read a = .number (ng a) (M (a % 2147483648)) (-149 + (E (a % 2147483648) : Nat)) := by
  obtain ⟨c1, c2, c3, c4⟩ := consts
  unfold Ieee.Format.read
  simp only [c1, c2, c3, c4]
  by_cases h1 : a % 2147483648 < 8388608
  · rw [if_pos h1]; unfold M E; rw [if_pos h1, if_pos h1]; rfl
  · rw [if_neg h1, if_pos h]; unfold M E; rw [if_neg h1, if_neg h1]; rfl
theorem read_inf (a : Nat) (h : a % 2147483648 = 2139095040) : Ieee.single.read a = .infinity (ng a) := by
  obtain ⟨c1, c2, c3, c4⟩ := consts
  unfold Ieee.Format.read
  simp only [c1, c2, c3, c4]
  rw [if_neg (by omega), if_neg (by omega), if_pos h]; rfl
theorem read_nan (a : Nat) (h : 2139095040 < a % 2147483648) : Ieee.single.read a = .nan (ng a) (a % 2147483648 - 2139095040) := by
  obtain ⟨c1, c2, c3, c4⟩ := consts
  unfold Ieee.Format.read
  simp only [c1, c2, c3, c4]
  rw [if_neg (by omega), if_neg (by omega), if_neg (by omega)]; rfl

/-- The whole number by which words that are no NaN are in order. -/
def key (a : Nat) : Int := sg (ng a) (a % 2147483648)

theorem order_nan_left (a b : Nat) (h : 2139095040 < a % 2147483648) : Ieee.single.order a b = none := by
  unfold Ieee.Format.order; rw [read_nan a h]; cases Ieee.single.read b <;> rfl
theorem order_nan_right (a b : Nat) (h : 2139095040 < b % 2147483648) : Ieee.single.order a b = none := by
  unfold Ieee.Format.order; rw [read_nan b h]; cases Ieee.single.read a <;> rfl

theorem order_some (a b : Nat) (ha : a % 2147483648 ≤ 2139095040) (hb : b % 2147483648 ≤ 2139095040) :
    Ieee.single.order a b = some (compare (key a) (key b)) := by
  unfold Ieee.Format.order
  rcases Nat.lt_or_eq_of_le ha with h1 | h1 <;> rcases Nat.lt_or_eq_of_le hb with h2 | h2
  · rw [read_fin a h1, read_fin b h2, order_num]; rfl
  · rw [read_fin a h1, read_inf b h2]
    show some (if ng b then Ordering.gt else Ordering.lt) = _
    unfold key sg
    rw [h2]
    cases ng a <;> cases ng b <;> first | (rw [cmp_lt]; rfl; simp; omega) | (rw [cmp_gt]; rfl; simp; omega)
  · rw [read_inf a h1, read_fin b h2]
    show some (if ng a then Ordering.lt else Ordering.gt) = _
    unfold key sg
    rw [h1]
    cases ng a <;> cases ng b <;> first | (rw [cmp_lt]; rfl; simp; omega) | (rw [cmp_gt]; rfl; simp; omega)
  · rw [read_inf a h1, read_inf b h2]
    unfold key
    rw [h1, h2]
    cases ng a <;> cases ng b <;> rfl

theorem order_lt (a b : Nat) (ha : a % 2147483648 ≤ 2139095040) (hb : b % 2147483648 ≤ 2139095040) (h : key a < key b) : Ieee.single.order a b = some .lt := by
  rw [order_some a b ha hb, cmp_lt h]
theorem order_eq (a b : Nat) (ha : a % 2147483648 ≤ 2139095040) (hb : b % 2147483648 ≤ 2139095040) (h : key a = key b) : Ieee.single.order a b = some .eq := by
  rw [order_some a b ha hb, cmp_eq h]
theorem order_gt (a b : Nat) (ha : a % 2147483648 ≤ 2139095040) (hb : b % 2147483648 ≤ 2139095040) (h : key b < key a) : Ieee.single.order a b = some .gt := by
  rw [order_some a b ha hb, cmp_gt h]
end Go.Proofs.YtoloenkcfpfgcaaDoor.Order
namespace Go.Proofs.YtoloenkcfpfgcaaDoor.Cm
open Go.ChangeShapes Go.WideShapes Go.ChangeAt Go.RowKit
set_option linter.unusedVariables false
/-- The whole number by which words are in order, on the walk's whole numbers. -/
def keyI (a : Int) : Int := if 2147483648 ≤ a then -(a % 2147483648) else a % 2147483648
/-- What both say of two words. -/
def cmpI (a b : Int) : Int :=
  if 2139095040 < a % 2147483648 ∨ 2139095040 < b % 2147483648 then 2 else if keyI a < keyI b then -1 else if keyI b < keyI a then 1 else 0
theorem frombits (n : Int) (w : World) : (callFunc 71 #[.int .u32 n]).run Tryd.prog w = .ok (.value (.float .f32 n.toNat)) w := by
  rw [run_callFunc_standIn (e := Extern.MathFloatBits.float32frombits) Tryd.func71 (by kernel_rfl) (by kernel_rfl) (by kernel_rfl) (by kernel_rfl)]
  rfl
theorem key_nat (a : Int) (h0 : 0 ≤ a) (h1 : a < 4294967296) : Order.key a.toNat = keyI a := by
  obtain ⟨n, rfl⟩ := Int.eq_ofNat_of_zero_le h0
  unfold Order.key keyI Order.sg Order.ng
  by_cases h : 2147483648 ≤ (n : Int)
  · rw [if_pos h, if_pos (by simp; omega)]; simp
  · rw [if_neg h, if_neg (by simp; omega)]; simp
theorem impl_of (a b : Int) (w : World) (o : Option Ordering) (r : Int)
    (ho : Ieee.single.order a.toNat b.toNat = o) (hr : r = match o with | some .lt => -1 | some .gt => 1 | some .eq => 0 | none => 2) :
    Calls Tryd.prog 47 #[.int .u32 a, .int .u32 b] w fun e w' => e = .returned (.int .i64 r) ∧ w' = w := by
  have ho' : FloatKind.f32.format.order a.toNat b.toNat = o := ho
  have hf := frombits
  subst hr
  rcases o with _ | o
  · go_enter Tryd.func47, Tryd.ntmps47
    go_wp2
    go_ret
    exact ⟨rfl, rfl⟩
  cases o
  all_goals
    go_enter Tryd.func47, Tryd.ntmps47
    go_wp2
    go_ret
    exact ⟨rfl, rfl⟩
theorem impl_any (a b : Int) (h0 : 0 ≤ a) (h1 : a < 4294967296) (g0 : 0 ≤ b) (g1 : b < 4294967296) (w : World) :
    Calls Tryd.prog 47 #[.int .u32 a, .int .u32 b] w fun e w' => e = .returned (.int .i64 (cmpI a b)) ∧ w' = w := by
  have ka := key_nat a h0 h1
  have kb := key_nat b g0 g1
  by_cases n1 : 2139095040 < a % 2147483648
  · exact impl_of a b w none _ (Order.order_nan_left _ _ (by omega)) (by unfold cmpI; rw [if_pos (Or.inl n1)])
  by_cases n2 : 2139095040 < b % 2147483648
  · exact impl_of a b w none _ (Order.order_nan_right _ _ (by omega)) (by unfold cmpI; rw [if_pos (Or.inr n2)])
  by_cases n3 : keyI a < keyI b
  · exact impl_of a b w (some .lt) _ (Order.order_lt _ _ (by omega) (by omega) (by omega)) (by unfold cmpI; rw [if_neg (by omega), if_pos n3])
  by_cases n4 : keyI b < keyI a
  · exact impl_of a b w (some .gt) _ (Order.order_gt _ _ (by omega) (by omega) (by omega)) (by unfold cmpI; rw [if_neg (by omega), if_neg (by omega), if_pos n4])
  · exact impl_of a b w (some .eq) _ (Order.order_eq _ _ (by omega) (by omega) (by omega)) (by unfold cmpI; rw [if_neg (by omega), if_neg (by omega), if_neg (by omega)])

end Go.Proofs.YtoloenkcfpfgcaaDoor.Cm
namespace Go.Proofs.YtoloenkcfpfgcaaDoor
open Go.ChangeShapes Go.WideShapes Go.ChangeAt Go.RowKit
set_option linter.unusedVariables false
theorem toF_both (a0 : Int) (h0 : 0 ≤ a0) (h1 : a0 < 4294967296) : ∃ R : Int, (∀ w : World, Calls Tryd.prog 17 #[.int .u32 a0] w fun e w' => e = .returned (.int .u32 R) ∧ Below w.heap.size w w') ∧ (∀ w : World, Forms w → Calls Tryd.prog 19 #[.int .u32 a0] w fun e w' => e = .returned (.int .u32 R) ∧ Below w.heap.size w w') := by
  have n0 : -2147483648 ≤ wrap32 a0 := by unfold wrap32; omega
  have n1 : wrap32 a0 ≤ 2147483647 := by unfold wrap32; omega
  obtain ⟨R, hs, hi⟩ := fnExactToFloat.both (wrap32 a0) 0 0 (by omega) (by omega)
  refine ⟨R, fun w => ?_, fun w G => ?_⟩
  · go_enter Tryd.func17, Tryd.ntmps17
    go_wp2_with (go_at_call 43; refine (hs _).mono ?_; rintro e w1 ⟨rfl, hb1⟩)
    go_ret
    exact ⟨rfl, hb1⟩
  · go_enter Tryd.func19, Tryd.ntmps19
    go_wp2_with (go_at_call 45; refine (hi _ G).mono ?_; rintro e w1 ⟨rfl, hb1⟩)
    go_ret
    exact ⟨rfl, hb1⟩
theorem toW_both (a0 : Int) (h0 : 0 ≤ a0) (h1 : a0 < 4294967296) : ∃ R : Int, (∀ w : World, Calls Tryd.prog 18 #[.int .u32 a0] w fun e w' => e = .returned (.int .u32 R) ∧ Below w.heap.size w w') ∧ (∀ w : World, Forms w → Calls Tryd.prog 24 #[.int .u32 a0] w fun e w' => e = .returned (.int .u32 R) ∧ Below w.heap.size w w') := by
  obtain ⟨R, hs, hi⟩ := fnExactToWhole.both a0 2 h0 h1
  have e1 : wrap32 R % 4294967296 = R % 4294967296 := by unfold wrap32; omega
  have E1 := e1
  refine ⟨R % 4294967296, fun w => ?_, fun w G => ?_⟩
  · go_enter Tryd.func18, Tryd.ntmps18
    clear e1
    go_wp2_with (go_at_call 44; refine (hs _).mono ?_; rintro e w1 ⟨rfl, rfl⟩)
    go_ret
    exact ⟨by rw [← E1]; rfl, Below.refl _ _⟩
  · go_enter Tryd.func24, Tryd.ntmps24
    go_wp2_with (go_at_call 57; refine (hi _ G).mono ?_; rintro e w1 ⟨rfl, hb1⟩)
    go_ret
    exact ⟨rfl, hb1⟩
theorem sKey25 (a : Int) (h0 : 0 ≤ a) (h1 : a < 4294967296) (w : World) : Calls Tryd.prog 25 #[.int .u32 a] w fun e w' => e = .returned (.int .i64 (Cm.keyI a)) ∧ w' = w := by
  have hb := bit_low a h0 h1
  have hn := sNeg_any a h0 h1 w
  unfold Cm.keyI
  by_cases h : 2147483648 ≤ a
  · rw [if_pos h]
    rw [decide_eq_true h] at hn
    have e1 : IntKind.i64.wrap (-(a % 2147483648)) = -(a % 2147483648) := (IntKind.wrap_i64 _).trans (by omega)
    go_enter Tryd.func25, Tryd.ntmps25
    go_wp2_with (go_at_call 26; refine hn.mono ?_; rintro e w1 ⟨rfl, hw1⟩; subst w1)
    go_ret
    exact ⟨rfl, rfl⟩
  · rw [if_neg h]
    rw [decide_eq_false h] at hn
    go_enter Tryd.func25, Tryd.ntmps25
    go_wp2_with (go_at_call 26; refine hn.mono ?_; rintro e w1 ⟨rfl, hw1⟩; subst w1)
    go_ret
    exact ⟨rfl, rfl⟩
theorem sCmp14 (a b : Int) (h0 : 0 ≤ a) (h1 : a < 4294967296) (g0 : 0 ≤ b) (g1 : b < 4294967296) (w : World) : Calls Tryd.prog 14 #[.int .u32 a, .int .u32 b] w fun e w' => e = .returned (.int .i64 (Cm.cmpI a b)) ∧ w' = w := by
  have na := sNaN_any a h0 h1 w
  have nb := sNaN_any b g0 g1 w
  have ka := sKey25 a h0 h1 w
  have kb := sKey25 b g0 g1 w
  unfold Cm.cmpI
  generalize Cm.keyI a = KA at *
  generalize Cm.keyI b = KB at *
  by_cases n1 : 2139095040 < a % 2147483648
  · rw [decide_eq_true n1] at na
    rw [if_pos (Or.inl n1)]
    go_enter Tryd.func14, Tryd.ntmps14
    go_wp2_with (go_at_call 13; refine na.mono ?_; rintro e w1 ⟨rfl, hw1⟩; subst w1)
    go_ret
    exact ⟨rfl, rfl⟩
  rw [decide_eq_false n1] at na
  by_cases n2 : 2139095040 < b % 2147483648
  · rw [decide_eq_true n2] at nb
    rw [if_pos (Or.inr n2)]
    go_enter Tryd.func14, Tryd.ntmps14
    go_wp2_with (first | (go_at_call 13; (with_reducible show Calls Tryd.prog 13 #[.int .u32 a] _ _); refine na.mono ?_; rintro e w1 ⟨rfl, hw1⟩; subst w1) | (go_at_call 13; (with_reducible show Calls Tryd.prog 13 #[.int .u32 b] _ _); refine nb.mono ?_; rintro e w1 ⟨rfl, hw1⟩; subst w1))
    go_ret
    exact ⟨rfl, rfl⟩
  rw [decide_eq_false n2] at nb
  rw [if_neg (by omega)]
  by_cases n3 : KA < KB
  · rw [if_pos n3]
    go_enter Tryd.func14, Tryd.ntmps14
    go_wp2_with (first | (go_at_call 13; (with_reducible show Calls Tryd.prog 13 #[.int .u32 a] _ _); refine na.mono ?_; rintro e w1 ⟨rfl, hw1⟩; subst w1) | (go_at_call 13; (with_reducible show Calls Tryd.prog 13 #[.int .u32 b] _ _); refine nb.mono ?_; rintro e w1 ⟨rfl, hw1⟩; subst w1) | (go_at_call 25; (with_reducible show Calls Tryd.prog 25 #[.int .u32 a] _ _); refine ka.mono ?_; rintro e w1 ⟨rfl, hw1⟩; subst w1) | (go_at_call 25; (with_reducible show Calls Tryd.prog 25 #[.int .u32 b] _ _); refine kb.mono ?_; rintro e w1 ⟨rfl, hw1⟩; subst w1))
    go_ret
    exact ⟨rfl, rfl⟩
  rw [if_neg n3]
  by_cases n4 : KB < KA
  · rw [if_pos n4]
    go_enter Tryd.func14, Tryd.ntmps14
    go_wp2_with (first | (go_at_call 13; (with_reducible show Calls Tryd.prog 13 #[.int .u32 a] _ _); refine na.mono ?_; rintro e w1 ⟨rfl, hw1⟩; subst w1) | (go_at_call 13; (with_reducible show Calls Tryd.prog 13 #[.int .u32 b] _ _); refine nb.mono ?_; rintro e w1 ⟨rfl, hw1⟩; subst w1) | (go_at_call 25; (with_reducible show Calls Tryd.prog 25 #[.int .u32 a] _ _); refine ka.mono ?_; rintro e w1 ⟨rfl, hw1⟩; subst w1) | (go_at_call 25; (with_reducible show Calls Tryd.prog 25 #[.int .u32 b] _ _); refine kb.mono ?_; rintro e w1 ⟨rfl, hw1⟩; subst w1))
    go_ret
    exact ⟨rfl, rfl⟩
  · rw [if_neg n4]
    go_enter Tryd.func14, Tryd.ntmps14
    go_wp2_with (first | (go_at_call 13; (with_reducible show Calls Tryd.prog 13 #[.int .u32 a] _ _); refine na.mono ?_; rintro e w1 ⟨rfl, hw1⟩; subst w1) | (go_at_call 13; (with_reducible show Calls Tryd.prog 13 #[.int .u32 b] _ _); refine nb.mono ?_; rintro e w1 ⟨rfl, hw1⟩; subst w1) | (go_at_call 25; (with_reducible show Calls Tryd.prog 25 #[.int .u32 a] _ _); refine ka.mono ?_; rintro e w1 ⟨rfl, hw1⟩; subst w1) | (go_at_call 25; (with_reducible show Calls Tryd.prog 25 #[.int .u32 b] _ _); refine kb.mono ?_; rintro e w1 ⟨rfl, hw1⟩; subst w1))
    go_ret
    exact ⟨rfl, rfl⟩
def nanOr (x : Int) : Int := if 2139095040 < x % 2147483648 then 2143289344 else x % 2147483648
theorem oneNaN20 (x : Int) (h0 : 0 ≤ x) (h1 : x < 4294967296) (w : World) (G : Forms w) : Calls Tryd.prog 20 #[.int .u32 (x % 2147483648)] w fun e w' => e = .returned (.int .u32 (nanOr x)) ∧ w' = w := by
  have hk := kindOf_w (x % 2147483648) (by omega) (by omega) w G
  rw [show x % 2147483648 % 2147483648 = x % 2147483648 by omega] at hk
  unfold nanOr
  generalize x % 2147483648 = r at *
  by_cases h : 2139095040 < r
  · rw [if_pos h]
    rw [show kindI r = 3 by unfold kindI; rw [if_neg (by omega), if_neg (by omega), if_neg (by omega)]] at hk
    go_enter Tryd.func20, Tryd.ntmps20
    go_wp2_with (go_at_call 46; refine hk.mono ?_; rintro e w1 ⟨rfl, hw1⟩; subst w1)
    go_ret
    exact ⟨rfl, rfl⟩
  · rw [if_neg h]
    obtain ⟨K, hK⟩ : ∃ K, kindI r = K := ⟨_, rfl⟩
    have k3 : (K == 3) = false := by
      have : K ≠ 3 := by rw [← hK]; unfold kindI; (repeat' split) <;> omega
      simpa using this
    rw [hK] at hk
    go_enter Tryd.func20, Tryd.ntmps20
    go_wp2_with (go_at_call 46; refine hk.mono ?_; rintro e w1 ⟨rfl, hw1⟩; subst w1)
    go_ret
    exact ⟨rfl, rfl⟩
def chosen (c o a b : Int) : Int := if c = 2 then 2143289344 else if c = o then b else a
theorem chosen21 (a b ord : Int) (h0 : 0 ≤ a) (h1 : a < 4294967296) (g0 : 0 ≤ b) (g1 : b < 4294967296) (w : World) : Calls Tryd.prog 21 #[.int .u32 a, .int .u32 b, .int .i64 ord] w fun e w' => e = .returned (.int .u32 (chosen (Cm.cmpI b a) ord a b)) ∧ w' = w := by
  have hc := Cm.impl_any b a g0 g1 h0 h1 w
  unfold chosen
  generalize Cm.cmpI b a = C at *
  by_cases c2 : C = 2
  · subst c2
    rw [if_pos rfl]
    go_enter Tryd.func21, Tryd.ntmps21
    go_wp2_with (go_at_call 47; refine hc.mono ?_; rintro e w1 ⟨rfl, hw1⟩; subst w1)
    go_ret
    exact ⟨rfl, rfl⟩
  rw [if_neg c2]
  have b2 : (C == 2) = false := by simpa using c2
  by_cases co : C = ord
  · rw [if_pos co]
    have b3 : (C == ord) = true := by simpa using co
    clear co c2
    go_enter Tryd.func21, Tryd.ntmps21
    go_wp2_with (go_at_call 47; refine hc.mono ?_; rintro e w1 ⟨rfl, hw1⟩; subst w1)
    go_ret
    exact ⟨rfl, rfl⟩
  · rw [if_neg co]
    have b3 : (C == ord) = false := by simpa using co
    clear co c2
    go_enter Tryd.func21, Tryd.ntmps21
    go_wp2_with (go_at_call 47; refine hc.mono ?_; rintro e w1 ⟨rfl, hw1⟩; subst w1)
    go_ret
    exact ⟨rfl, rfl⟩
end Go.Proofs.YtoloenkcfpfgcaaDoor
