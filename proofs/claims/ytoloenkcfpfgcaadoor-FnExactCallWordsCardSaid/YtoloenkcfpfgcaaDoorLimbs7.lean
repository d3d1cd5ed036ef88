/- Contracts of the model's l1Cut and l1Make over limbs: noughts at the end left off; a number of three limbs or more keeps them, one of two or fewer becomes a plain number; conditions: the row stands in memory, at most a million limbs, each below 10^9. Plain mathematics: what rows of limbs of nine digits are worth, and that sums, differences, products, order and left off noughts of rows are those of what they are worth. Contracts of the model's l1Limbs, l1IsSmall, l1Zero, l1Neg and l1Minus: of plain numbers of two limbs, of numbers that hold a row of limbs, and of 0. Plain mathematics of the product of two rows of limbs, and the model's l1Minus; conditions: each limb below 10^9. -/
import Derived.Test.YtoloenkcfpfgcaaDoorLimbs4
namespace Go.Proofs.YtoloenkcfpfgcaaDoor
open Go.ChangeShapes Go.WideShapes Go.ChangeAt Go.RowKit

set_option maxRecDepth 100000 in
set_option maxHeartbeats 1000000 in
theorem cut_any (n b cb : Nat) (f : Nat → Nat) (w : World) (hn : n ≤ 1000000) (hc : n ≤ cb) (hf : Limbs w b n f) :
    Calls Tryd.prog 88 #[.slice (some ⟨b, 0, none⟩) n cb] w fun r w' => r = .returned (.slice (some ⟨b, 0, none⟩) (trim f n) cb) ∧ w' = w := by
  go_enter Tryd.func88, Tryd.ntmps88
  go_wp2
  go_loop [3] (fun i => ∃ t : Nat, t ≤ n ∧ i = .int .i64 t ∧ Hid (trim f n = trim f t)) (fun i => (intOf i).toNat)
  case atStart => exact ⟨n, Nat.le_refl _, by go_num, rfl⟩
  case round =>
    obtain ⟨t, ht, rfl, HT⟩ := hrel
    rcases t with _ | t
    · have HR : Hid (trim f n = 0) := HT.out
      go_wp2
      go_ret
      exact ⟨by rw [HR.out]; rfl, rfl⟩
    · have c1 := hf t (by omega)
      have i0 : (0 : Int) ≤ (t : Int) := by omega
      have i1 : (t : Int) < (n : Int) := by omega
      by_cases h0 : f t = 0
      · have HN : Hid (trim f n = trim f t) := by show trim f n = trim f t; rw [HT.out]; simp [trim, h0]
        rw [h0] at c1
        go_wp2
        go_round
        case rel => exact ⟨t, by omega, by first | rfl | go_num, HN⟩
        case measure => simp [intOf]
      · have HN : Hid (trim f n = t + 1) := by show trim f n = t + 1; rw [HT.out]; simp [trim, h0]
        have h0' : ((f t : Int) == 0) = false := by simp; omega
        have h0'' : ¬ (f t : Int) = 0 := by omega
        go_wp2
        go_ret
        exact ⟨by rw [HN.out]; rfl, rfl⟩

/-- The value of the first two limbs. -/
def two (f : Nat → Nat) : Nat → Nat
  | 0 => 0
  | 1 => f 0
  | _ => f 1 * 1000000000 + f 0
/-- The number that l1Make makes: limbs from three on, a plain number else. -/
def madeZ (neg : Bool) (b cb t : Nat) (f : Nat → Nat) : Value :=
  if 2 < t then .agg #[.int .i64 0, .bool neg, .slice (some ⟨b, 0, none⟩) t cb]
  else .agg #[.int .i64 (if neg then -(two f t : Int) else two f t), .bool false, .slice none 0 0]

set_option maxRecDepth 100000 in
set_option maxHeartbeats 2000000 in
theorem make_any (neg : Bool) (n b cb : Nat) (f : Nat → Nat) (w : World) (hn : n ≤ 1000000) (hc : n ≤ cb) (hf : Limbs w b n f) (hb : b < w.heap.size) (f9 : ∀ i, f i < 1000000000) :
    Calls Tryd.prog 64 #[.bool neg, .slice (some ⟨b, 0, none⟩) n cb] w fun r w' => r = .returned (madeZ neg b cb (trim f n) f) ∧ Below w.heap.size w w' := by
  obtain ⟨R, hR⟩ : ∃ R, madeZ neg b cb (trim f n) f = R := ⟨_, rfl⟩
  rw [hR]
  have HRR : Hid (madeZ neg b cb (trim f n) f = R) := hR
  clear hR
  go_enter Tryd.func64, Tryd.ntmps64
  go_wp2
  go_loop [5] (fun i => ∃ t : Nat, t ≤ n ∧ i = .int .i64 t ∧ Hid (trim f n = trim f t)) (fun i => (intOf i).toNat)
  case atStart => exact ⟨n, Nat.le_refl _, by go_num, rfl⟩
  case round =>
    obtain ⟨t, ht, rfl, HT⟩ := hrel
    rcases t with _ | t
    · have HR : Hid (R = .agg #[.int .i64 0, .bool false, .slice none 0 0]) := by
        show R = _
        rw [← HRR.out, HT.out]; unfold madeZ trim two; cases neg <;> rfl
      cases neg
      all_goals
        go_wp2
        refine wp_loop_rounds 1 ?_; rw [rounds_succ]
        go_wp2
        exact bodyPost_ret (v := .agg #[.int .i64 0, .bool false, .slice none 0 0]) (by simp [results, Tryd.results64, go_sem]) rfl ⟨by rw [HR.out], by repeat (first | (with_reducible refine Below.setCell ?_ (by first | omega | (simp; try omega)) _) | (with_reducible refine Below.alloc ?_ (by first | omega | (simp; try omega)) _) | (with_reducible apply Below.drew) | (with_reducible apply below_drewN) | (with_reducible exact Below.refl _ _))⟩
    · have c1 := hf t (by omega)
      have i0 : (0 : Int) ≤ (t : Int) := by omega
      have i1 : (t : Int) < (n : Int) := by omega
      by_cases h0 : f t = 0
      · have HN : Hid (trim f n = trim f t) := by show trim f n = trim f t; rw [HT.out]; simp [trim, h0]
        rw [h0] at c1
        go_wp2
        go_round
        case rel => exact ⟨t, by omega, by first | rfl | go_num, HN⟩
        case measure => simp [intOf]
      · have HN : Hid (trim f n = t + 1) := by show trim f n = t + 1; rw [HT.out]; simp [trim, h0]
        have h0' : ((f t : Int) == 0) = false := by simp; omega
        have h0'' : ¬ (f t : Int) = 0 := by omega
        by_cases t2 : 2 < t + 1
        · have HR : Hid (R = .agg #[.int .i64 0, .bool neg, .slice (some ⟨b, 0, none⟩) (t + 1) cb]) := by
            show R = _
            rw [← HRR.out, HN.out]; unfold madeZ; rw [if_pos t2]
          have t2' : (2 : Int) < (t : Int) + 1 := by omega
          go_wp2
          exact bodyPost_ret (v := .agg #[.int .i64 0, .bool neg, .slice (some ⟨b, 0, none⟩) (t + 1) cb]) (by simp [results, Tryd.results64, go_sem]) rfl ⟨by rw [HR.out], by repeat (first | (with_reducible refine Below.setCell ?_ (by first | omega | (simp; try omega)) _) | (with_reducible refine Below.alloc ?_ (by first | omega | (simp; try omega)) _) | (with_reducible apply Below.drew) | (with_reducible apply below_drewN) | (with_reducible exact Below.refl _ _))⟩
        · rcases (by omega : t = 0 ∨ t = 1) with rfl | rfl
          · have HR : Hid (R = .agg #[.int .i64 (if neg then -(f 0 : Int) else f 0), .bool false, .slice none 0 0]) := by
              show R = _
              rw [← HRR.out, HN.out]; unfold madeZ; rw [if_neg t2]; rfl
            have k0 := f9 0
            cases neg
            all_goals
              go_wp2
              refine wp_loop_rounds 2 ?_; rw [rounds_succ]
              go_wp2
              rw [rounds_succ]
              go_wp2
              exact bodyPost_ret (v := R) (by rw [HR.out]; simp [results, Tryd.results64, go_sem]) rfl ⟨rfl, by repeat (first | (with_reducible refine Below.setCell ?_ (by first | omega | (simp; try omega)) _) | (with_reducible refine Below.alloc ?_ (by first | omega | (simp; try omega)) _) | (with_reducible apply Below.drew) | (with_reducible apply below_drewN) | (with_reducible exact Below.refl _ _))⟩
          · have HR : Hid (R = .agg #[.int .i64 (if neg then -((f 1 * 1000000000 + f 0 : Nat) : Int) else ((f 1 * 1000000000 + f 0 : Nat) : Int)), .bool false, .slice none 0 0]) := by
              show R = _
              rw [← HRR.out, HN.out]; unfold madeZ; rw [if_neg t2]; rfl
            have k0 := f9 0
            have k1 := f9 1
            have c0 := hf 0 (by omega)
            cases neg
            all_goals
              go_wp2
              refine wp_loop_rounds 3 ?_; rw [rounds_succ]
              go_wp2
              rw [rounds_succ]
              go_wp2
              rw [rounds_succ]
              go_wp2
              exact bodyPost_ret (v := R) (by rw [HR.out]; simp [results, Tryd.results64, go_sem]) rfl ⟨rfl, by repeat (first | (with_reducible refine Below.setCell ?_ (by first | omega | (simp; try omega)) _) | (with_reducible refine Below.alloc ?_ (by first | omega | (simp; try omega)) _) | (with_reducible apply Below.drew) | (with_reducible apply below_drewN) | (with_reducible exact Below.refl _ _))⟩
end Go.Proofs.YtoloenkcfpfgcaaDoor
namespace Go.Proofs.YtoloenkcfpfgcaaDoor

/-- What the first n limbs are worth. -/
def val (f : Nat → Nat) : Nat → Nat
  | 0 => 0
  | n + 1 => val f n + f n * 1000000000 ^ n
theorem bpos (n : Nat) : 0 < 1000000000 ^ n := Nat.pow_pos (by decide)
theorem val_lt (f : Nat → Nat) : ∀ n, (∀ i, i < n → f i < 1000000000) → val f n < 1000000000 ^ n
  | 0, _ => by simp [val]
  | n + 1, h => by
    have a := val_lt f n (fun i hi => h i (by omega))
    have b : f n + 1 ≤ 1000000000 := h n (by omega)
    have c : (f n + 1) * 1000000000 ^ n ≤ 1000000000 * 1000000000 ^ n := Nat.mul_le_mul_right _ b
    rw [Nat.add_mul, Nat.one_mul] at c
    simp only [val, Nat.pow_succ]
    rw [Nat.mul_comm (1000000000 ^ n)]
    omega
theorem val_congr (f g : Nat → Nat) : ∀ n, (∀ i, i < n → f i = g i) → val f n = val g n
  | 0, _ => rfl
  | n + 1, h => by simp only [val]; rw [val_congr f g n (fun i hi => h i (by omega)), h n (by omega)]
theorem val_add (x y : Nat → Nat) : ∀ k, val (addDig x y) k + carry x y k * 1000000000 ^ k = val x k + val y k
  | 0 => by simp [val, carry]
  | k + 1 => by
    have ih := val_add x y k
    have e : addDig x y k + 1000000000 * carry x y (k + 1) = carry x y k + x k + y k := by
      unfold addDig; simp only [carry]; omega
    have e2 : addDig x y k * 1000000000 ^ k + carry x y (k + 1) * 1000000000 ^ (k + 1) = carry x y k * 1000000000 ^ k + x k * 1000000000 ^ k + y k * 1000000000 ^ k := by
      rw [← Nat.add_mul, ← Nat.add_mul, ← e, Nat.pow_succ, Nat.add_mul]
      rw [Nat.mul_comm (1000000000 ^ k), ← Nat.mul_assoc, Nat.mul_comm (carry x y (k + 1))]
    simp only [val]
    omega
theorem val_sub (x y : Nat → Nat) (hx : ∀ i, x i < 1000000000) (hy : ∀ i, y i < 1000000000) : ∀ k, val (subDig x y) k + val y k = val x k + borrow x y k * 1000000000 ^ k
  | 0 => by simp [val, borrow]
  | k + 1 => by
    have ih := val_sub x y hx hy k
    have b1 := borrow_le x y k
    have xk := hx k
    have yk := hy k
    have e : subDig x y k + borrow x y k + y k = x k + 1000000000 * borrow x y (k + 1) := by
      unfold subDig
      simp only [borrow]
      split <;> omega
    have e2 : subDig x y k * 1000000000 ^ k + borrow x y k * 1000000000 ^ k + y k * 1000000000 ^ k = x k * 1000000000 ^ k + borrow x y (k + 1) * 1000000000 ^ (k + 1) := by
      rw [← Nat.add_mul, ← Nat.add_mul, e, Nat.add_mul, Nat.pow_succ]
      rw [Nat.mul_comm (1000000000 ^ k), ← Nat.mul_assoc (borrow x y (k + 1)), Nat.mul_comm (borrow x y (k + 1))]
    simp only [val]
    omega
theorem val_mul (n : Nat) (d : Nat → Nat) (M : Nat) : ∀ k, k ≤ n → val (mulDig n d M) k + mcarry d M k * 1000000000 ^ k = val d k * M
  | 0, _ => by simp [val, mcarry]
  | k + 1, h => by
    have ih := val_mul n d M k (by omega)
    have e : mulDig n d M k + 1000000000 * mcarry d M (k + 1) = d k * M + mcarry d M k := by
      unfold mulDig
      rw [if_pos (by omega)]
      simp only [mcarry]
      omega
    have e2 : mulDig n d M k * 1000000000 ^ k + mcarry d M (k + 1) * 1000000000 ^ (k + 1) = d k * 1000000000 ^ k * M + mcarry d M k * 1000000000 ^ k := by
      rw [show d k * 1000000000 ^ k * M = d k * M * 1000000000 ^ k by rw [Nat.mul_assoc, Nat.mul_comm (1000000000 ^ k), ← Nat.mul_assoc]]
      rw [← Nat.add_mul, ← e, Nat.add_mul, Nat.pow_succ]
      rw [Nat.mul_comm (1000000000 ^ k), ← Nat.mul_assoc (mcarry d M (k + 1)), Nat.mul_comm (mcarry d M (k + 1))]
    simp only [val, Nat.add_mul]
    omega
theorem val_mul_all (n : Nat) (d : Nat → Nat) (M : Nat) : val (mulDig n d M) (n + 1) = val d n * M := by
  have h := val_mul n d M n (Nat.le_refl _)
  simp only [val]
  rw [show mulDig n d M n = mcarry d M n by unfold mulDig; rw [if_neg (by omega)]]
  exact h
theorem val_trim (f : Nat → Nat) : ∀ n, val f (trim f n) = val f n
  | 0 => rfl
  | n + 1 => by
    unfold trim
    by_cases h : f n = 0
    · rw [if_pos h, val_trim f n]; simp [val, h]
    · rw [if_neg h]
theorem trim_le (f : Nat → Nat) : ∀ n, trim f n ≤ n
  | 0 => Nat.le_refl _
  | n + 1 => by
    unfold trim
    by_cases h : f n = 0
    · rw [if_pos h]; have := trim_le f n; omega
    · rw [if_neg h]; omega
theorem trim_top (f : Nat → Nat) : ∀ n, trim f n = 0 ∨ f (trim f n - 1) ≠ 0
  | 0 => Or.inl rfl
  | n + 1 => by
    unfold trim
    by_cases h : f n = 0
    · rw [if_pos h]; exact trim_top f n
    · rw [if_neg h]; right; simpa using h
theorem cmpZ_shift (x y c : Int) : cmpZ (x + c) (y + c) = cmpZ x y := by
  unfold cmpZ
  simp only [Int.add_lt_add_iff_right]
theorem cmp_val (d e : Nat → Nat) : ∀ n, (∀ i, i < n → d i < 1000000000) → (∀ i, i < n → e i < 1000000000) → cmpTop d e n = cmpZ (val d n) (val e n)
  | 0, _, _ => by simp [cmpTop, val, cmpZ]
  | n + 1, hd, he => by
    have ih := cmp_val d e n (fun i hi => hd i (by omega)) (fun i hi => he i (by omega))
    have a := val_lt d n (fun i hi => hd i (by omega))
    have b := val_lt e n (fun i hi => he i (by omega))
    simp only [cmpTop, val]
    by_cases h1 : d n < e n
    · have c : (d n + 1) * 1000000000 ^ n ≤ e n * 1000000000 ^ n := Nat.mul_le_mul_right _ h1
      rw [Nat.add_mul, Nat.one_mul] at c
      rw [if_pos h1]; unfold cmpZ; rw [if_pos (by omega)]
    · rw [if_neg h1]
      by_cases h2 : e n < d n
      · have c : (e n + 1) * 1000000000 ^ n ≤ d n * 1000000000 ^ n := Nat.mul_le_mul_right _ h2
        rw [Nat.add_mul, Nat.one_mul] at c
        rw [if_pos h2]; unfold cmpZ; rw [if_neg (by omega), if_pos (by omega)]
      · rw [if_neg h2, ih, show d n = e n by omega, Int.natCast_add, Int.natCast_add, cmpZ_shift]
end Go.Proofs.YtoloenkcfpfgcaaDoor
namespace Go.Proofs.YtoloenkcfpfgcaaDoor
open Go.ChangeShapes Go.WideShapes Go.ChangeAt Go.RowKit

theorem zLimbs2 (n v : Int) (hv : v = n ∨ v = -n) (v0 : 1000000000 ≤ v) (v1 : v < 1000000000000000000) (w : World) :
    Calls Tryd.prog 63 #[.agg #[.int .i64 n, .bool false, .slice none 0 0]] w fun e w' => ∃ b, e = .returned (.slice (some ⟨b, 0, none⟩) 2 2) ∧ w'.cell? ⟨b, 0, none⟩ = some (.int .u32 (v % 1000000000)) ∧ w'.cell? ⟨b, 1, none⟩ = some (.int .u32 (v / 1000000000)) ∧ b < w'.heap.size ∧ Below w.heap.size w w' := by
  rcases hv with rfl | hv
  · have k : ¬ v < 0 := by omega
    go_enter Tryd.func63, Tryd.ntmps63
    go_wp2
    go_ret
    exact ⟨_, rfl, by simp, by simp, by simp, by repeat (first | (with_reducible refine Below.setCell ?_ (by first | omega | (simp; try omega)) _) | (with_reducible refine Below.alloc ?_ (by first | omega | (simp; try omega)) _) | (with_reducible apply Below.drew) | (with_reducible apply below_drewN) | (with_reducible exact Below.refl _ _))⟩
  · obtain rfl : n = -v := by omega
    clear hv
    have k : -v < 0 := by omega
    go_enter Tryd.func63, Tryd.ntmps63
    go_wp2
    go_ret
    exact ⟨_, rfl, by simp, by simp, by simp, by repeat (first | (with_reducible refine Below.setCell ?_ (by first | omega | (simp; try omega)) _) | (with_reducible refine Below.alloc ?_ (by first | omega | (simp; try omega)) _) | (with_reducible apply Below.drew) | (with_reducible apply below_drewN) | (with_reducible exact Below.refl _ _))⟩
theorem zLimbs0 (w : World) :
    Calls Tryd.prog 63 #[.agg #[.int .i64 0, .bool false, .slice none 0 0]] w fun e w' => e = .returned (.slice none 0 0) ∧ Below w.heap.size w w' := by
  go_enter Tryd.func63, Tryd.ntmps63
  go_wp2
  go_ret
  exact ⟨rfl, by repeat (first | (with_reducible refine Below.setCell ?_ (by first | omega | (simp; try omega)) _) | (with_reducible refine Below.alloc ?_ (by first | omega | (simp; try omega)) _) | (with_reducible apply Below.drew) | (with_reducible apply below_drewN) | (with_reducible exact Below.refl _ _))⟩
theorem gLimbs (neg : Bool) (b t cb : Nat) (ht : 0 < t) (t1 : t ≤ 1000000) (w : World) :
    Calls Tryd.prog 63 #[.agg #[.int .i64 0, .bool neg, .slice (some ⟨b, 0, none⟩) t cb]] w fun e w' => e = .returned (.slice (some ⟨b, 0, none⟩) t cb) ∧ Below w.heap.size w w' := by
  have h : (0 : Int) < (t : Int) := by omega
  go_enter Tryd.func63, Tryd.ntmps63
  go_wp2
  go_ret
  exact ⟨rfl, by repeat (first | (with_reducible refine Below.setCell ?_ (by first | omega | (simp; try omega)) _) | (with_reducible refine Below.alloc ?_ (by first | omega | (simp; try omega)) _) | (with_reducible apply Below.drew) | (with_reducible apply below_drewN) | (with_reducible exact Below.refl _ _))⟩
theorem gIsSmall (neg : Bool) (b t cb : Nat) (ht : 0 < t) (w : World) :
    Calls Tryd.prog 61 #[.agg #[.int .i64 0, .bool neg, .slice (some ⟨b, 0, none⟩) t cb]] w fun e w' => e = .returned (.bool false) ∧ Below w.heap.size w w' := by
  have h : ((t : Int) == 0) = false := by simp; omega
  have h' : ¬ t = 0 := by omega
  go_enter Tryd.func61, Tryd.ntmps61
  go_wp2
  go_ret
  exact ⟨by first | rfl | (simp; omega), by repeat (first | (with_reducible refine Below.setCell ?_ (by first | omega | (simp; try omega)) _) | (with_reducible refine Below.alloc ?_ (by first | omega | (simp; try omega)) _) | (with_reducible apply Below.drew) | (with_reducible apply below_drewN) | (with_reducible exact Below.refl _ _))⟩
theorem gNeg (neg : Bool) (b t cb : Nat) (ht : 0 < t) (w : World) :
    Calls Tryd.prog 65 #[.agg #[.int .i64 0, .bool neg, .slice (some ⟨b, 0, none⟩) t cb]] w fun e w' => e = .returned (.bool neg) ∧ Below w.heap.size w w' := by
  have h : (0 : Int) < (t : Int) := by omega
  go_enter Tryd.func65, Tryd.ntmps65
  go_wp2
  go_ret
  exact ⟨rfl, by repeat (first | (with_reducible refine Below.setCell ?_ (by first | omega | (simp; try omega)) _) | (with_reducible refine Below.alloc ?_ (by first | omega | (simp; try omega)) _) | (with_reducible apply Below.drew) | (with_reducible apply below_drewN) | (with_reducible exact Below.refl _ _))⟩
theorem zNeg (n : Int) (w : World) :
    Calls Tryd.prog 65 #[.agg #[.int .i64 n, .bool false, .slice none 0 0]] w fun e w' => e = .returned (.bool (decide (n < 0))) ∧ Below w.heap.size w w' := by
  go_enter Tryd.func65, Tryd.ntmps65
  go_wp2
  go_ret
  exact ⟨rfl, by repeat (first | (with_reducible refine Below.setCell ?_ (by first | omega | (simp; try omega)) _) | (with_reducible refine Below.alloc ?_ (by first | omega | (simp; try omega)) _) | (with_reducible apply Below.drew) | (with_reducible apply below_drewN) | (with_reducible exact Below.refl _ _))⟩
theorem gZero (neg : Bool) (b t cb : Nat) (ht : 0 < t) (w : World) :
    Calls Tryd.prog 34 #[.agg #[.int .i64 0, .bool neg, .slice (some ⟨b, 0, none⟩) t cb]] w fun e w' => e = .returned (.bool false) ∧ Below w.heap.size w w' := by
  have h : ((t : Int) == 0) = false := by simp; omega
  have h' : ¬ t = 0 := by omega
  go_enter Tryd.func34, Tryd.ntmps34
  go_wp2
  go_ret
  exact ⟨by first | rfl | (simp; omega), by repeat (first | (with_reducible refine Below.setCell ?_ (by first | omega | (simp; try omega)) _) | (with_reducible refine Below.alloc ?_ (by first | omega | (simp; try omega)) _) | (with_reducible apply Below.drew) | (with_reducible apply below_drewN) | (with_reducible exact Below.refl _ _))⟩
end Go.Proofs.YtoloenkcfpfgcaaDoor
namespace Go.Proofs.YtoloenkcfpfgcaaDoor
open Go.ChangeShapes Go.WideShapes Go.ChangeAt Go.RowKit

/-- A limb put into a row. -/
def put (g : Nat → Nat) (p v j : Nat) : Nat := if j = p then v else g j
theorem val_put (g : Nat → Nat) (p v : Nat) : val (put g p v) (p + 1) = val g p + v * 1000000000 ^ p := by
  simp only [val]
  rw [val_congr (put g p v) g p (fun i hi => by unfold put; rw [if_neg (by omega)])]
  simp [put]
theorem mul_inner (f g y : Nat → Nat) (i k X C s : Nat) (hs : s = g (i + k) + X * y k + C) (hg : g (i + k) = f (i + k))
    (h : val g (i + k) + C * 1000000000 ^ (i + k) = val f (i + k) + X * val y k * 1000000000 ^ i) :
    val (put g (i + k) (s % 1000000000)) (i + (k + 1)) + s / 1000000000 * 1000000000 ^ (i + (k + 1)) = val f (i + (k + 1)) + X * val y (k + 1) * 1000000000 ^ i := by
  rw [show i + (k + 1) = (i + k) + 1 from rfl, val_put]
  have e : s % 1000000000 + s / 1000000000 * 1000000000 = s := by omega
  have e2 : s % 1000000000 * 1000000000 ^ (i + k) + s / 1000000000 * 1000000000 ^ (i + k + 1) = s * 1000000000 ^ (i + k) := by
    rw [Nat.pow_succ, Nat.mul_comm (1000000000 ^ (i + k)) 1000000000, ← Nat.mul_assoc, ← Nat.add_mul, e]
  have e3 : s * 1000000000 ^ (i + k) = f (i + k) * 1000000000 ^ (i + k) + X * y k * 1000000000 ^ (i + k) + C * 1000000000 ^ (i + k) := by
    rw [hs, hg, Nat.add_mul, Nat.add_mul]
  have e4 : X * (y k * 1000000000 ^ k) * 1000000000 ^ i = X * y k * 1000000000 ^ (i + k) := by
    rw [Nat.pow_add, Nat.mul_comm (1000000000 ^ i), ← Nat.mul_assoc X, Nat.mul_assoc (X * y k)]
  simp only [val]
  rw [Nat.mul_add X, Nat.add_mul (X * val y k), e4]
  omega
theorem mul_outer (f g x y : Nat → Nat) (i m C : Nat) (hf : val f (i + m) = val x i * val y m)
    (h : val g (i + m) + C * 1000000000 ^ (i + m) = val f (i + m) + x i * val y m * 1000000000 ^ i) :
    val (put g (i + m) C) (i + 1 + m) = val x (i + 1) * val y m := by
  rw [show i + 1 + m = (i + m) + 1 by omega, val_put, h, hf]
  simp only [val]
  rw [Nat.add_mul, Nat.mul_right_comm]
theorem mul_bound (a b c X : Nat) (ha : a < 1000000000) (hb : b < 1000000000) (hc : c < 1000000000) (hX : X < 1000000000) : a + X * b + c < 1000000000000000000 ∧ (a + X * b + c) / 1000000000 < 1000000000 := by
  have p : X * b ≤ 999999999 * 999999999 := Nat.mul_le_mul (by omega) (by omega)
  omega
theorem val_zeros (f : Nat → Nat) (n : Nat) : ∀ k, (∀ j, n ≤ j → j < n + k → f j = 0) → val f (n + k) = val f n
  | 0, _ => rfl
  | k + 1, h => by
    have := val_zeros f n k (fun j h1 h2 => h j h1 (by omega))
    rw [← Nat.add_assoc]
    simp only [val]
    rw [this, h (n + k) (by omega) (by omega)]
    simp
end Go.Proofs.YtoloenkcfpfgcaaDoor
