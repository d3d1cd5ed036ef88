/- Plain mathematics of rows of limbs of two lengths: sums, differences, order. -/
import Derived.Test.YtamoakodlmjbiaaDoorLimbs16
namespace Go.Proofs.YtamoakodlmjbiaaDoor
open Go.ChangeShapes Go.WideShapes Go.ChangeAt Go.RowKit
theorem val_pad (n : Nat) (x : Nat → Nat) (k : Nat) (h : n ≤ k) : val (pad n x) k = val x n := by
  obtain ⟨j, rfl⟩ : ∃ j, k = n + j := ⟨k - n, by omega⟩
  rw [val_zeros (pad n x) n j (fun i h1 _ => by unfold pad; rw [if_neg (by omega)])]
  exact val_congr _ _ n (fun i hi => by unfold pad; rw [if_pos hi])
theorem pad_lt (n : Nat) (x : Nat → Nat) (h : ∀ i, x i < 1000000000) (i : Nat) : pad n x i < 1000000000 := by
  unfold pad; split
  · exact h i
  · decide
theorem addDig_lt (x y : Nat → Nat) (i : Nat) : addDig x y i < 1000000000 := by unfold addDig; omega
theorem add_val (n m N : Nat) (x y : Nat → Nat) (hx : ∀ i, x i < 1000000000) (hy : ∀ i, y i < 1000000000) (hn : n ≤ N) (hm : m ≤ N) : val (addDig (pad n x) (pad m y)) (N + 1) = val x n + val y m := by
  have h := val_add (pad n x) (pad m y) (N + 1)
  have c1 := carry_le (pad n x) (pad m y) (pad_lt n x hx) (pad_lt m y hy) N
  have e : carry (pad n x) (pad m y) (N + 1) = 0 := by
    show (carry (pad n x) (pad m y) N + pad n x N + pad m y N) / 1000000000 = 0
    have p1 : pad n x N = 0 := by unfold pad; rw [if_neg (by omega)]
    have p2 : pad m y N = 0 := by unfold pad; rw [if_neg (by omega)]
    rw [p1, p2]; omega
  rw [e, val_pad n x _ (by omega), val_pad m y _ (by omega)] at h
  omega
theorem subDig_lt (x y : Nat → Nat) (hx : ∀ i, x i < 1000000000) (hy : ∀ i, y i < 1000000000) (i : Nat) : subDig x y i < 1000000000 := by
  have b := borrow_le x y i
  have a := hx i
  have c := hy i
  unfold subDig
  rw [borrow]
  split <;> omega
theorem sub_val (n m : Nat) (x y : Nat → Nat) (hx : ∀ i, x i < 1000000000) (hy : ∀ i, y i < 1000000000) (hmn : m ≤ n) (h : val y m ≤ val x n) : val (subDig x (pad m y)) n + val y m = val x n := by
  have e := val_sub x (pad m y) hx (pad_lt m y hy) n
  rw [val_pad m y n hmn] at e
  have b := borrow_le x (pad m y) n
  have l := val_lt (subDig x (pad m y)) n (fun i _ => subDig_lt x (pad m y) hx (pad_lt m y hy) i)
  rcases (by omega : borrow x (pad m y) n = 0 ∨ borrow x (pad m y) n = 1) with h0 | h1
  · rw [h0] at e; omega
  · rw [h1] at e; omega
theorem top_ge (y : Nat → Nat) (m : Nat) (m0 : 0 < m) (top : y (m - 1) ≠ 0) : 1000000000 ^ (m - 1) ≤ val y m := by
  obtain ⟨k, rfl⟩ : ∃ k, m = k + 1 := ⟨m - 1, by omega⟩
  simp only [Nat.add_sub_cancel] at top ⊢
  simp only [val]
  have : 1 * 1000000000 ^ k ≤ y k * 1000000000 ^ k := Nat.mul_le_mul_right _ (by omega)
  omega
theorem len_cmp (n m : Nat) (x y : Nat → Nat) (hx : ∀ i, x i < 1000000000) (h : n < m) (top : y (m - 1) ≠ 0) : val x n < val y m := by
  have a := val_lt x n (fun i _ => hx i)
  have b := top_ge y m (by omega) top
  have c : 1000000000 ^ n ≤ 1000000000 ^ (m - 1) := Nat.pow_le_pow_right (by decide) (by omega)
  omega
/-- Of a number that is not 0: what the model's own questions answer of it; its last limb is not 0. -/
theorem Num.rep2 {w : World} {K : Nat} {v : Value} {N : Int} (h : Num w K v N) (hK : 2 ≤ K) (h0 : N ≠ 0) :
    ∃ sm ng n x va ga pa ta ca, v = .agg #[.int .i64 va, .bool ga, .slice pa ta ca] ∧ Rep w v sm ng n x ∧ n ≤ K ∧ 0 < n ∧ x (n - 1) ≠ 0 ∧ N = sg ng (val x n) ∧
      (sm = true → v = zS N ∧ -1000000000000000000 < N ∧ N < 1000000000000000000) := by
  rcases h with ⟨rfl, l0, l1⟩ | ⟨neg, b, t, cb, f, rfl, t3, tK, tc, t1, hf, hl, f9, top, hN⟩
  · obtain ⟨a, ha⟩ : ∃ a : Nat, N.natAbs = a := ⟨_, rfl⟩
    have hv : (a : Int) = N ∨ (a : Int) = -N := by omega
    have hs : N = sg (decide (N < 0)) a := by
      unfold sg
      by_cases hn : N < 0
      · rw [decide_eq_true hn, if_pos rfl]; omega
      · rw [decide_eq_false hn, if_neg (by decide)]; omega
    by_cases h9 : a < 1000000000
    · refine ⟨true, decide (N < 0), 1, limb2 a, N, false, none, 0, 0, rfl, rep_one N a hv (by omega) h9 w, by omega, by omega, by simp [limb2]; omega, ?_, fun _ => ⟨rfl, l0, l1⟩⟩
      rw [val_one a h9]; exact hs
    · refine ⟨true, decide (N < 0), 2, limb2 a, N, false, none, 0, 0, rfl, rep_two N a hv (by omega) (by omega) w, by omega, by omega, by simp [limb2]; omega, ?_, fun _ => ⟨rfl, l0, l1⟩⟩
      rw [val_two]; exact hs
  · exact ⟨false, neg, t, f, 0, neg, _, t, cb, rfl, rep_great neg b t cb f w (by omega) t1 hf hl f9, tK, by omega, top, hN, fun h => by cases h⟩
/-- The order of two normal rows is that of what they are worth, whatever their lengths. -/
theorem cmpD_val (n m a b ca cb : Nat) (x y : Nat → Nat) (w : World) (hn : n ≤ 1000000) (ha : Limbs w a n x) (hb : Limbs w b m y) (hx : ∀ i, x i < 1000000000) (hy : ∀ i, y i < 1000000000) (tx : x (n - 1) ≠ 0) (ty : y (m - 1) ≠ 0) :
    Calls Tryd.prog 105 #[.slice (some ⟨a, 0, none⟩) n ca, .slice (some ⟨b, 0, none⟩) m cb] w fun r w' => r = .returned (.int .i64 (cmpZ (val x n) (val y m))) ∧ ∃ k, w' = w.drewN k := by
  by_cases h : n = m
  · subst h
    have := cmpD_eq n a b ca cb x y w hn ha hb
    rw [cmp_val x y n (fun i _ => hx i) (fun i _ => hy i)] at this
    exact this
  · have e : (if n < m then (-1 : Int) else 1) = cmpZ (val x n) (val y m) := by
      unfold cmpZ
      by_cases hl : n < m
      · have := len_cmp n m x y hx hl ty
        rw [if_pos hl, if_pos (by omega)]
      · have := len_cmp m n y x hy (by omega) tx
        rw [if_neg hl, if_neg (by omega), if_pos (by omega)]
    have := cmpD_ne n m (some ⟨a, 0, none⟩) (some ⟨b, 0, none⟩) ca cb w h
    rw [e] at this
    exact this.mono fun r w' ⟨h1, h2⟩ => ⟨h1, 0, by rw [h2]; rfl⟩
end Go.Proofs.YtamoakodlmjbiaaDoor
