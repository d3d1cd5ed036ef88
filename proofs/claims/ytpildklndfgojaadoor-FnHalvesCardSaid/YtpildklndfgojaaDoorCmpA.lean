/- Words in order, and the program's CmpWords at every two words. -/
import Ieee.Arith
import Derived.Test.YtpildklndfgojaaDoorRows
import Derived.WalkKit
import Derived.ProofKit
import Derived.OpenShut
import Derived.WalkLawsBesides
import Derived.Laws.BitsAll
import Derived.Laws.StandIn
namespace Go.Proofs.YtpildklndfgojaaDoor.Order

/-- The size of a rung in steps of 2^-149. -/
def V (r : Nat) : Nat := if r < 8388608 then r else (8388608 + r % 8388608) * 2 ^ (r / 8388608 - 1)
def M (r : Nat) : Nat := if r < 8388608 then r else 8388608 + r % 8388608
def E (r : Nat) : Nat := if r < 8388608 then 0 else r / 8388608 - 1

theorem V_eq (r : Nat) : V r = M r * 2 ^ E r := by
  unfold V M E; split <;> simp

theorem V_lt {r s : Nat} (h : r < s) : V r < V s := by
  unfold V
  by_cases h1 : r < 8388608
  · rw [if_pos h1]
    by_cases h2 : s < 8388608
    · rw [if_pos h2]; exact h
    · rw [if_neg h2]
      have : 1 ≤ 2 ^ (s / 8388608 - 1) := Nat.one_le_two_pow
      calc r < 8388608 := h1
        _ ≤ 8388608 + s % 8388608 := by omega
        _ = (8388608 + s % 8388608) * 1 := by omega
        _ ≤ _ := Nat.mul_le_mul_left _ this
  · have h2 : ¬ s < 8388608 := by omega
    rw [if_neg h1, if_neg h2]
    by_cases he : r / 8388608 = s / 8388608
    · rw [he]
      exact Nat.mul_lt_mul_of_pos_right (by omega) (Nat.two_pow_pos _)
    · have hlt : r / 8388608 < s / 8388608 := by omega
      have hp : 2 ^ (r / 8388608 - 1) * 2 ≤ 2 ^ (s / 8388608 - 1) := by
        rw [← Nat.pow_succ]
        exact Nat.pow_le_pow_right (by decide) (by omega)
      have hpos := Nat.two_pow_pos (r / 8388608 - 1)
      calc (8388608 + r % 8388608) * 2 ^ (r / 8388608 - 1) < (8388608 * 2) * 2 ^ (r / 8388608 - 1) :=
            Nat.mul_lt_mul_of_pos_right (by omega) hpos
        _ = 8388608 * (2 ^ (r / 8388608 - 1) * 2) := by rw [Nat.mul_assoc, Nat.mul_comm 2]
        _ ≤ 8388608 * 2 ^ (s / 8388608 - 1) := Nat.mul_le_mul_left _ hp
        _ ≤ _ := Nat.mul_le_mul_right _ (by omega)

theorem V_zero : V 0 = 0 := rfl
theorem V_iff (r s : Nat) : V r < V s ↔ r < s := by
  constructor
  · intro h
    rcases Nat.lt_trichotomy r s with h' | h' | h'
    · exact h'
    · subst h'; omega
    · have := V_lt h'; omega
  · exact V_lt
theorem V_inj (r s : Nat) : V r = V s ↔ r = s := by
  constructor
  · intro h
    rcases Nat.lt_trichotomy r s with h' | h' | h'
    · have := V_lt h'; omega
    · exact h'
    · have := V_lt h'; omega
  · rintro rfl; rfl

/-- The sign put ahead. -/
def sg (neg : Bool) (n : Nat) : Int := if neg then -(n : Int) else n

theorem cmp_of {x y x' y' : Int} (h1 : x < y ↔ x' < y') (h2 : x = y ↔ x' = y') : compare x y = compare x' y' := by
  show compareOfLessAndEq x y = compareOfLessAndEq x' y'
  unfold compareOfLessAndEq
  by_cases h : x < y
  · rw [if_pos h, if_pos (h1.1 h)]
  · rw [if_neg h, if_neg (fun k => h (h1.2 k))]
    by_cases g : x = y
    · rw [if_pos g, if_pos (h2.1 g)]
    · rw [if_neg g, if_neg (fun k => g (h2.2 k))]

theorem cmp_lt {x y : Int} (h : x < y) : compare x y = .lt := by
  show compareOfLessAndEq x y = _; unfold compareOfLessAndEq; rw [if_pos h]
theorem cmp_eq {x y : Int} (h : x = y) : compare x y = .eq := by
  show compareOfLessAndEq x y = _; unfold compareOfLessAndEq; rw [if_neg (by omega), if_pos h]
theorem cmp_gt {x y : Int} (h : y < x) : compare x y = .gt := by
  show compareOfLessAndEq x y = _; unfold compareOfLessAndEq; rw [if_neg (by omega), if_neg (by omega)]

theorem sg_V (s t : Bool) (r q : Nat) : compare (sg s (V r)) (sg t (V q)) = compare (sg s r) (sg t q) := by
  have a := V_iff r q
  have b := V_inj r q
  have c := V_iff q r
  have z1 := V_iff 0 r
  have z2 := V_iff 0 q
  rw [V_zero] at z1 z2
  apply cmp_of <;> cases s <;> cases t <;> simp [sg] <;> omega

theorem sg_scale (s t : Bool) (m n k : Nat) : compare (sg s m) (sg t n) = compare (sg s (m * 2 ^ k)) (sg t (n * 2 ^ k)) := by
  have hp := Nat.two_pow_pos k
  have a : m * 2 ^ k < n * 2 ^ k ↔ m < n := Nat.mul_lt_mul_right hp
  have a' : n * 2 ^ k < m * 2 ^ k ↔ n < m := Nat.mul_lt_mul_right hp
  have z : 0 < m * 2 ^ k ↔ 0 < m := by rw [Nat.mul_pos_iff_of_pos_right hp]
  have z' : 0 < n * 2 ^ k ↔ 0 < n := by rw [Nat.mul_pos_iff_of_pos_right hp]
  generalize m * 2 ^ k = M' at *
  generalize n * 2 ^ k = N' at *
  apply cmp_of <;> cases s <;> cases t <;> simp [sg] <;> omega

theorem signed_eq (s : Bool) (m k : Nat) : Ieee.signed s m k = sg s (m * 2 ^ k) := by
  unfold Ieee.signed sg
  simp [Nat.shiftLeft_eq]

theorem order_num (s t : Bool) (r q : Nat) :
    Ieee.Datum.order (.number s (M r) (-149 + (E r : Nat))) (.number t (M q) (-149 + (E q : Nat))) = some (compare (sg s r) (sg t q)) := by
  simp only [Ieee.Datum.order, signed_eq]
  congr 1
  rw [sg_scale s t _ _ (min (E r) (E q)), ← sg_V s t r q, V_eq, V_eq]
  have e1 : ((-149 + (E r : Int)) - min (-149 + (E r : Int)) (-149 + (E q : Int))).toNat = E r - min (E r) (E q) := by omega
  have e2 : ((-149 + (E q : Int)) - min (-149 + (E r : Int)) (-149 + (E q : Int))).toNat = E q - min (E r) (E q) := by omega
  rw [e1, e2, Nat.mul_assoc, Nat.mul_assoc, ← Nat.pow_add, ← Nat.pow_add]
  rw [show E r - min (E r) (E q) + min (E r) (E q) = E r by omega, show E q - min (E r) (E q) + min (E r) (E q) = E q by omega]

theorem consts : Ieee.single.signWeight = 2147483648 ∧ Ieee.single.binade = 8388608 ∧ Ieee.single.infRung = 2139095040 ∧ Ieee.single.leastPlace = -149 := by
  refine ⟨?_, ?_, ?_, ?_⟩ <;> decide

/-- The sign of a word. -/
def ng (a : Nat) : Bool := a / 2147483648 % 2 == 1

theorem read_fin (a : Nat) (h : a % 2147483648 < 2139095040) :
    Ieee.single.read a = .number (ng a) (M (a % 2147483648)) (-149 + (E (a % 2147483648) : Nat)) := by
  obtain ⟨c1, c2, c3, c4⟩ := consts
  unfold Ieee.Format.read
  simp only [c1, c2, c3, c4]
  by_cases h1 : a % 2147483648 < 8388608
  · rw [if_pos h1]; unfold M E; rw [if_pos h1, if_pos h1]; rfl
  · rw [if_neg h1, if_pos h]; unfold M E; rw [if_neg h1, if_neg h1]; rfl
theorem read_inf (a : Nat) (h : a % 2147483648 = 2139095040) : Ieee.single.read a = .infinity (ng a) := by
  obtain ⟨c1, c2, c3, c4⟩ := consts
  unfold Ieee.Format.read
  simp only [c1, c2, c3, c4]
  rw [if_neg (by omega), if_neg (by omega), if_pos h]; rfl
theorem read_nan (a : Nat) (h : 2139095040 < a % 2147483648) : Ieee.single.read a = .nan (ng a) (a % 2147483648 - 2139095040) := by
  obtain ⟨c1, c2, c3, c4⟩ := consts
  unfold Ieee.Format.read
  simp only [c1, c2, c3, c4]
  rw [if_neg (by omega), if_neg (by omega), if_neg (by omega)]; rfl

/-- The whole number by which words that are no NaN are in order. -/
def key (a : Nat) : Int := sg (ng a) (a % 2147483648)

theorem order_nan_left (a b : Nat) (h : 2139095040 < a % 2147483648) : Ieee.single.order a b = none := by
  unfold Ieee.Format.order; rw [read_nan a h]; cases Ieee.single.read b <;> rfl
theorem order_nan_right (a b : Nat) (h : 2139095040 < b % 2147483648) : Ieee.single.order a b = none := by
  unfold Ieee.Format.order; rw [read_nan b h]; cases Ieee.single.read a <;> rfl

theorem order_some (a b : Nat) (ha : a % 2147483648 ≤ 2139095040) (hb : b % 2147483648 ≤ 2139095040) :
    Ieee.single.order a b = some (compare (key a) (key b)) := by
  unfold Ieee.Format.order
  rcases Nat.lt_or_eq_of_le ha with h1 | h1 <;> rcases Nat.lt_or_eq_of_le hb with h2 | h2
  · rw [read_fin a h1, read_fin b h2, order_num]; rfl
  · rw [read_fin a h1, read_inf b h2]
    show some (if ng b then Ordering.gt else Ordering.lt) = _
    unfold key sg
    rw [h2]
    cases ng a <;> cases ng b <;> first | (rw [cmp_lt]; rfl; simp; omega) | (rw [cmp_gt]; rfl; simp; omega)
  · rw [read_inf a h1, read_fin b h2]
    show some (if ng a then Ordering.lt else Ordering.gt) = _
    unfold key sg
    rw [h1]
    cases ng a <;> cases ng b <;> first | (rw [cmp_lt]; rfl; simp; omega) | (rw [cmp_gt]; rfl; simp; omega)
  · rw [read_inf a h1, read_inf b h2]
    unfold key
    rw [h1, h2]
    cases ng a <;> cases ng b <;> rfl

theorem order_lt (a b : Nat) (ha : a % 2147483648 ≤ 2139095040) (hb : b % 2147483648 ≤ 2139095040) (h : key a < key b) : Ieee.single.order a b = some .lt := by
  rw [order_some a b ha hb, cmp_lt h]
theorem order_eq (a b : Nat) (ha : a % 2147483648 ≤ 2139095040) (hb : b % 2147483648 ≤ 2139095040) (h : key a = key b) : Ieee.single.order a b = some .eq := by
  rw [order_some a b ha hb, cmp_eq h]
theorem order_gt (a b : Nat) (ha : a % 2147483648 ≤ 2139095040) (hb : b % 2147483648 ≤ 2139095040) (h : key b < key a) : Ieee.single.order a b = some .gt := by
  rw [order_some a b ha hb, cmp_gt h]
end Go.Proofs.YtpildklndfgojaaDoor.Order
namespace Go.Proofs.YtpildklndfgojaaDoor.Cm
open Go.ChangeShapes Go.WideShapes Go.ChangeAt Go.RowKit
set_option linter.unusedVariables false
/-- The whole number by which words are in order, on the walk's whole numbers. -/
def keyI (a : Int) : Int := if 2147483648 ≤ a then -(a % 2147483648) else a % 2147483648
/-- What both say of two words. -/
def cmpI (a b : Int) : Int :=
  if 2139095040 < a % 2147483648 ∨ 2139095040 < b % 2147483648 then 2 else if keyI a < keyI b then -1 else if keyI b < keyI a then 1 else 0
theorem frombits (n : Int) (w : World) : (callFunc 41 #[.int .u32 n]).run Tryd.prog w = .ok (.value (.float .f32 n.toNat)) w := by
  rw [run_callFunc_standIn (e := Extern.MathFloatBits.float32frombits) Tryd.func41 (by kernel_rfl) (by kernel_rfl) (by kernel_rfl) (by kernel_rfl)]
  rfl
theorem key_nat (a : Int) (h0 : 0 ≤ a) (h1 : a < 4294967296) : Order.key a.toNat = keyI a := by
  obtain ⟨n, rfl⟩ := Int.eq_ofNat_of_zero_le h0
  unfold Order.key keyI Order.sg Order.ng
  by_cases h : 2147483648 ≤ (n : Int)
  · rw [if_pos h, if_pos (by simp; omega)]; simp
  · rw [if_neg h, if_neg (by simp; omega)]; simp
theorem impl_of (a b : Int) (w : World) (o : Option Ordering) (r : Int)
    (ho : Ieee.single.order a.toNat b.toNat = o) (hr : r = match o with | some .lt => -1 | some .gt => 1 | some .eq => 0 | none => 2) :
    Calls Tryd.prog 14 #[.int .u32 a, .int .u32 b] w fun e w' => e = .returned (.int .i64 r) ∧ w' = w := by
  have ho' : FloatKind.f32.format.order a.toNat b.toNat = o := ho
  have hf := frombits
  subst hr
  rcases o with _ | o
  · go_enter Tryd.func14, Tryd.ntmps14
    go_wp2
    go_ret
    exact ⟨rfl, rfl⟩
  cases o
  all_goals
    go_enter Tryd.func14, Tryd.ntmps14
    go_wp2
    go_ret
    exact ⟨rfl, rfl⟩
theorem impl_any (a b : Int) (h0 : 0 ≤ a) (h1 : a < 4294967296) (g0 : 0 ≤ b) (g1 : b < 4294967296) (w : World) :
    Calls Tryd.prog 14 #[.int .u32 a, .int .u32 b] w fun e w' => e = .returned (.int .i64 (cmpI a b)) ∧ w' = w := by
  have ka := key_nat a h0 h1
  have kb := key_nat b g0 g1
  by_cases n1 : 2139095040 < a % 2147483648
  · exact impl_of a b w none _ (Order.order_nan_left _ _ (by omega)) (by unfold cmpI; rw [if_pos (Or.inl n1)])
  by_cases n2 : 2139095040 < b % 2147483648
  · exact impl_of a b w none _ (Order.order_nan_right _ _ (by omega)) (by unfold cmpI; rw [if_pos (Or.inr n2)])
  by_cases n3 : keyI a < keyI b
  · exact impl_of a b w (some .lt) _ (Order.order_lt _ _ (by omega) (by omega) (by omega)) (by unfold cmpI; rw [if_neg (by omega), if_pos n3])
  by_cases n4 : keyI b < keyI a
  · exact impl_of a b w (some .gt) _ (Order.order_gt _ _ (by omega) (by omega) (by omega)) (by unfold cmpI; rw [if_neg (by omega), if_neg (by omega), if_pos n4])
  · exact impl_of a b w (some .eq) _ (Order.order_eq _ _ (by omega) (by omega) (by omega)) (by unfold cmpI; rw [if_neg (by omega), if_neg (by omega), if_neg (by omega)])

end Go.Proofs.YtpildklndfgojaaDoor.Cm
