/- Contracts over what numbers stand for: l1Mul of any two numbers, l1Small of any int64 below 2 10^18 in size; conditions: at most 100,000 limbs together. Plain mathematics of rows of limbs of two lengths: sums, differences, order. -/
import Derived.Test.YtoloenkcfpfgcaaDoorLimbs13
import Derived.Test.YtoloenkcfpfgcaaDoorLimbs14
import Derived.Test.YtoloenkcfpfgcaaDoorLimbs15
namespace Go.Proofs.YtoloenkcfpfgcaaDoor
open Go.ChangeShapes Go.WideShapes Go.ChangeAt Go.RowKit
theorem val_nought : ∀ n, val (fun _ => 0) n = 0
  | 0 => rfl
  | n + 1 => by simp [val, val_nought n]
theorem Num.zero {w : World} {K : Nat} {v : Value} (h : Num w K v 0) : v = zS 0 := by
  rcases h with ⟨h, _⟩ | ⟨neg, b, t, cb, f, hv, t3, tK, tc, t1, hf, hl, f9, top, hN⟩
  · exact h
  · have := val_top f t t3 top
    unfold sg at hN
    split at hN <;> omega
theorem num_mul_any {w : World} {K L : Nat} {a b : Value} {A B : Int} (HA : Num w K a A) (HB : Num w L b B) (hK : 2 ≤ K) (hL : 2 ≤ L) (hKL : K + L + 1 ≤ 100000) :
    Calls Tryd.prog 37 #[a, b] w fun r w' => ∃ v, r = .returned v ∧ Num w' (K + L + 1) v (A * B) ∧ Below w.heap.size w w' := by
  have fin : ∀ {w' : World} {o m : Nat} (s : Bool), m ≤ K ∨ m ≤ L → Own w' w.heap.size o (m + 1) (fun _ => 0) → Num w' (K + L + 1) (madeZ s o (m + 1) (trim (fun _ => 0) (m + 1)) (fun _ => 0)) 0 := by
    intro w' o m s hm O
    have h := (num_made O (fun _ => by decide) s (m + 1) (Nat.le_refl _) (by omega)).mono (show m + 1 ≤ K + L + 1 by omega)
    rw [val_nought] at h
    have e : sg s 0 = 0 := by cases s <;> rfl
    rw [e] at h
    exact h
  by_cases hA : A = 0
  · subst hA
    rw [HA.zero, Int.zero_mul]
    rcases HB with ⟨rfl, b0, b1⟩ | ⟨neg, b', t, cb, f, rfl, t3, tK, tc, t1, hf, hl, f9, top, hN⟩
    · have := zMul 0 B (by decide) (by decide) b0 b1 (by rw [Int.zero_mul]; decide) (by rw [Int.zero_mul]; decide) w
      rw [Int.zero_mul] at this
      exact this.mono fun e w' ⟨h1, hb⟩ => ⟨_, h1, num_small w' _ 0 (by decide) (by decide), hb⟩
    · exact (rMul_zeroL neg t f 0 neg _ t cb w (rep_great neg b' t cb f w (by omega) t1 hf hl f9)).mono fun e w' ⟨o, s, h1, O, hb⟩ => ⟨_, h1, fin s (Or.inr tK) O, hb⟩
  by_cases hB : B = 0
  · subst hB
    rw [HB.zero, Int.mul_zero]
    rcases HA with ⟨rfl, b0, b1⟩ | ⟨neg, b', t, cb, f, rfl, t3, tK, tc, t1, hf, hl, f9, top, hN⟩
    · have := zMul A 0 b0 b1 (by decide) (by decide) (by rw [Int.mul_zero]; decide) (by rw [Int.mul_zero]; decide) w
      rw [Int.mul_zero] at this
      exact this.mono fun e w' ⟨h1, hb⟩ => ⟨_, h1, num_small w' _ 0 (by decide) (by decide), hb⟩
    · exact (rMul_zeroR neg t f 0 neg _ t cb w (rep_great neg b' t cb f w (by omega) t1 hf hl f9)).mono fun e w' ⟨o, s, h1, O, hb⟩ => ⟨_, h1, fin s (Or.inl tK) O, hb⟩
  exact num_mul HA HB hK hL hKL hA hB
/-- The limbs of a size of three limbs. -/
def limb3 (u i : Nat) : Nat := if i = 0 then u % 1000000000 else if i = 1 then u / 1000000000 % 1000000000 else if i = 2 then u / 1000000000 / 1000000000 else 0
theorem limb3_val (u : Nat) : val (limb3 u) 3 = u := by simp [val, limb3]; omega
theorem num3 (w : World) (o : Obj) (neg : Bool) (U : Int) (u0 : 1000000000000000000 ≤ U) (u1 : U < 2000000000000000000) (N : Int) (hN : N = if neg then -U else U) :
    Num ((w.alloc o).alloc (.cells #[.int .u32 (U % 1000000000), .int .u32 (U / 1000000000 % 1000000000), .int .u32 (U / 1000000000 / 1000000000)] 23)) 3 (.agg #[.int .i64 0, .bool neg, .slice (some ⟨w.heap.size + 1, 0, none⟩) 3 3]) N := by
  obtain ⟨u, rfl⟩ := Int.eq_ofNat_of_zero_le (by omega : 0 ≤ U)
  have hh : ((w.alloc o).alloc (.cells #[.int .u32 ((u : Int) % 1000000000), .int .u32 ((u : Int) / 1000000000 % 1000000000), .int .u32 ((u : Int) / 1000000000 / 1000000000)] 23)).heap[w.heap.size + 1]? = some (.cells #[.int .u32 ((u : Int) % 1000000000), .int .u32 ((u : Int) / 1000000000 % 1000000000), .int .u32 ((u : Int) / 1000000000 / 1000000000)] 23 (0, 0)) := heap_alloc_eq (by simp)
  obtain ⟨⟨c0, c1, c2⟩, _⟩ := blk3 hh
  refine Or.inr ⟨neg, w.heap.size + 1, 3, 3, limb3 u, rfl, by omega, by omega, by omega, by omega, fun i hi => ?_, by simp, fun i => ?_, ?_, ?_⟩
  · rcases (by omega : i = 0 ∨ i = 1 ∨ i = 2) with rfl | rfl | rfl
    · rw [c0]; rfl
    · rw [c1]; rfl
    · rw [c2]; rfl
  · unfold limb3; split; omega; split; omega; split <;> omega
  · simp [limb3]; omega
  · rw [limb3_val, hN]; rfl
set_option maxHeartbeats 1000000 in
theorem gSmall_pos (v : Int) (u0 : 1000000000000000000 ≤ v) (u1 : v < 2000000000000000000) (w : World) :
    Calls Tryd.prog 38 #[.int .i64 v] w fun e w' => ∃ x, e = .returned x ∧ Num w' 3 x v ∧ Below w.heap.size w w' := by
  go_enter Tryd.func38, Tryd.ntmps38
  have hd : decide (v < 0) = false := by simp; omega
  go_wp2
  exact bodyPost_ret (v := .agg #[.int .i64 0, .bool false, .slice (some ⟨w.heap.size + 1, 0, none⟩) 3 3]) (by simp [results, Tryd.results38, go_sem]) rfl ⟨_, rfl, num3 w _ false v u0 u1 v rfl, by repeat (first | (with_reducible refine Below.alloc ?_ (by first | omega | (simp; try omega)) _) | (with_reducible exact Below.refl _ _))⟩
set_option maxHeartbeats 1000000 in
theorem gSmall_neg (v : Int) (u0 : v ≤ -1000000000000000000) (u1 : -2000000000000000000 < v) (w : World) :
    Calls Tryd.prog 38 #[.int .i64 v] w fun e w' => ∃ x, e = .returned x ∧ Num w' 3 x v ∧ Below w.heap.size w w' := by
  obtain ⟨U, hU⟩ : ∃ U, -v = U := ⟨_, rfl⟩
  go_enter Tryd.func38, Tryd.ntmps38
  go_wp2
  exact bodyPost_ret (v := .agg #[.int .i64 0, .bool true, .slice (some ⟨w.heap.size + 1, 0, none⟩) 3 3]) (by simp [results, Tryd.results38, go_sem]) rfl ⟨_, rfl, num3 w _ true U (by omega) (by omega) v (by rw [← hU]; simp), by repeat (first | (with_reducible refine Below.alloc ?_ (by first | omega | (simp; try omega)) _) | (with_reducible exact Below.refl _ _))⟩
/-- l1Small of any sum of two small numbers. -/
theorem num_ofInt (v : Int) (v0 : -2000000000000000000 < v) (v1 : v < 2000000000000000000) (w : World) :
    Calls Tryd.prog 38 #[.int .i64 v] w fun e w' => ∃ x, e = .returned x ∧ Num w' 3 x v ∧ Below w.heap.size w w' := by
  by_cases h0 : v ≤ -1000000000000000000
  · exact gSmall_neg v h0 v0 w
  by_cases h1 : 1000000000000000000 ≤ v
  · exact gSmall_pos v h1 v1 w
  · exact (zSmall v (by omega) (by omega) w).mono fun e w' ⟨h2, hb⟩ => ⟨_, h2, num_small w' 3 v (by omega) (by omega), hb⟩
end Go.Proofs.YtoloenkcfpfgcaaDoor
namespace Go.Proofs.YtoloenkcfpfgcaaDoor
open Go.ChangeShapes Go.WideShapes Go.ChangeAt Go.RowKit
theorem val_pad (n : Nat) (x : Nat → Nat) (k : Nat) (h : n ≤ k) : val (pad n x) k = val x n := by
  obtain ⟨j, rfl⟩ : ∃ j, k = n + j := ⟨k - n, by omega⟩
  rw [val_zeros (pad n x) n j (fun i h1 _ => by unfold pad; rw [if_neg (by omega)])]
  exact val_congr _ _ n (fun i hi => by unfold pad; rw [if_pos hi])
theorem pad_lt (n : Nat) (x : Nat → Nat) (h : ∀ i, x i < 1000000000) (i : Nat) : pad n x i < 1000000000 := by
  unfold pad; split
  · exact h i
  · decide
theorem addDig_lt (x y : Nat → Nat) (i : Nat) : addDig x y i < 1000000000 := by unfold addDig; omega
theorem add_val (n m N : Nat) (x y : Nat → Nat) (hx : ∀ i, x i < 1000000000) (hy : ∀ i, y i < 1000000000) (hn : n ≤ N) (hm : m ≤ N) : val (addDig (pad n x) (pad m y)) (N + 1) = val x n + val y m := by
  have h := val_add (pad n x) (pad m y) (N + 1)
  have c1 := carry_le (pad n x) (pad m y) (pad_lt n x hx) (pad_lt m y hy) N
  have e : carry (pad n x) (pad m y) (N + 1) = 0 := by
    show (carry (pad n x) (pad m y) N + pad n x N + pad m y N) / 1000000000 = 0
    have p1 : pad n x N = 0 := by unfold pad; rw [if_neg (by omega)]
    have p2 : pad m y N = 0 := by unfold pad; rw [if_neg (by omega)]
    rw [p1, p2]; omega
  rw [e, val_pad n x _ (by omega), val_pad m y _ (by omega)] at h
  omega
theorem subDig_lt (x y : Nat → Nat) (hx : ∀ i, x i < 1000000000) (hy : ∀ i, y i < 1000000000) (i : Nat) : subDig x y i < 1000000000 := by
  have b := borrow_le x y i
  have a := hx i
  have c := hy i
  unfold subDig
  rw [borrow]
  split <;> omega
theorem sub_val (n m : Nat) (x y : Nat → Nat) (hx : ∀ i, x i < 1000000000) (hy : ∀ i, y i < 1000000000) (hmn : m ≤ n) (h : val y m ≤ val x n) : val (subDig x (pad m y)) n + val y m = val x n := by
  have e := val_sub x (pad m y) hx (pad_lt m y hy) n
  rw [val_pad m y n hmn] at e
  have b := borrow_le x (pad m y) n
  have l := val_lt (subDig x (pad m y)) n (fun i _ => subDig_lt x (pad m y) hx (pad_lt m y hy) i)
  rcases (by omega : borrow x (pad m y) n = 0 ∨ borrow x (pad m y) n = 1) with h0 | h1
  · rw [h0] at e; omega
  · rw [h1] at e; omega
theorem top_ge (y : Nat → Nat) (m : Nat) (m0 : 0 < m) (top : y (m - 1) ≠ 0) : 1000000000 ^ (m - 1) ≤ val y m := by
  obtain ⟨k, rfl⟩ : ∃ k, m = k + 1 := ⟨m - 1, by omega⟩
  simp only [Nat.add_sub_cancel] at top ⊢
  simp only [val]
  have : 1 * 1000000000 ^ k ≤ y k * 1000000000 ^ k := Nat.mul_le_mul_right _ (by omega)
  omega
theorem len_cmp (n m : Nat) (x y : Nat → Nat) (hx : ∀ i, x i < 1000000000) (h : n < m) (top : y (m - 1) ≠ 0) : val x n < val y m := by
  have a := val_lt x n (fun i _ => hx i)
  have b := top_ge y m (by omega) top
  have c : 1000000000 ^ n ≤ 1000000000 ^ (m - 1) := Nat.pow_le_pow_right (by decide) (by omega)
  omega
/-- Of a number that is not 0: what the model's own questions answer of it; its last limb is not 0. -/
theorem Num.rep2 {w : World} {K : Nat} {v : Value} {N : Int} (h : Num w K v N) (hK : 2 ≤ K) (h0 : N ≠ 0) :
    ∃ sm ng n x va ga pa ta ca, v = .agg #[.int .i64 va, .bool ga, .slice pa ta ca] ∧ Rep w v sm ng n x ∧ n ≤ K ∧ 0 < n ∧ x (n - 1) ≠ 0 ∧ N = sg ng (val x n) ∧
      (sm = true → v = zS N ∧ -1000000000000000000 < N ∧ N < 1000000000000000000) := by
  rcases h with ⟨rfl, l0, l1⟩ | ⟨neg, b, t, cb, f, rfl, t3, tK, tc, t1, hf, hl, f9, top, hN⟩
  · obtain ⟨a, ha⟩ : ∃ a : Nat, N.natAbs = a := ⟨_, rfl⟩
    have hv : (a : Int) = N ∨ (a : Int) = -N := by omega
    have hs : N = sg (decide (N < 0)) a := by
      unfold sg
      by_cases hn : N < 0
      · rw [decide_eq_true hn, if_pos rfl]; omega
      · rw [decide_eq_false hn, if_neg (by decide)]; omega
    by_cases h9 : a < 1000000000
    · refine ⟨true, decide (N < 0), 1, limb2 a, N, false, none, 0, 0, rfl, rep_one N a hv (by omega) h9 w, by omega, by omega, by simp [limb2]; omega, ?_, fun _ => ⟨rfl, l0, l1⟩⟩
      rw [val_one a h9]; exact hs
    · refine ⟨true, decide (N < 0), 2, limb2 a, N, false, none, 0, 0, rfl, rep_two N a hv (by omega) (by omega) w, by omega, by omega, by simp [limb2]; omega, ?_, fun _ => ⟨rfl, l0, l1⟩⟩
      rw [val_two]; exact hs
  · exact ⟨false, neg, t, f, 0, neg, _, t, cb, rfl, rep_great neg b t cb f w (by omega) t1 hf hl f9, tK, by omega, top, hN, fun h => by cases h⟩
/-- The order of two normal rows is that of what they are worth, whatever their lengths. -/
theorem cmpD_val (n m a b ca cb : Nat) (x y : Nat → Nat) (w : World) (hn : n ≤ 1000000) (ha : Limbs w a n x) (hb : Limbs w b m y) (hx : ∀ i, x i < 1000000000) (hy : ∀ i, y i < 1000000000) (tx : x (n - 1) ≠ 0) (ty : y (m - 1) ≠ 0) :
    Calls Tryd.prog 68 #[.slice (some ⟨a, 0, none⟩) n ca, .slice (some ⟨b, 0, none⟩) m cb] w fun r w' => r = .returned (.int .i64 (cmpZ (val x n) (val y m))) ∧ ∃ k, w' = w.drewN k := by
  by_cases h : n = m
  · subst h
    have := cmpD_eq n a b ca cb x y w hn ha hb
    rw [cmp_val x y n (fun i _ => hx i) (fun i _ => hy i)] at this
    exact this
  · have e : (if n < m then (-1 : Int) else 1) = cmpZ (val x n) (val y m) := by
      unfold cmpZ
      by_cases hl : n < m
      · have := len_cmp n m x y hx hl ty
        rw [if_pos hl, if_pos (by omega)]
      · have := len_cmp m n y x hy (by omega) tx
        rw [if_neg hl, if_neg (by omega), if_pos (by omega)]
    have := cmpD_ne n m (some ⟨a, 0, none⟩) (some ⟨b, 0, none⟩) ca cb w h
    rw [e] at this
    exact this.mono fun r w' ⟨h1, h2⟩ => ⟨h1, 0, by rw [h2]; rfl⟩
end Go.Proofs.YtoloenkcfpfgcaaDoor
