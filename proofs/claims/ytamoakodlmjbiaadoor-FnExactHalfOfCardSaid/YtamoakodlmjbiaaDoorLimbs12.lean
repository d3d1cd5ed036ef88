/- What it is that a value stands for a whole number, small or of limbs, and the contract of the model's l1Mul over it where neither number is 0; conditions: at most 100,000 limbs together. -/
import Derived.Test.YtamoakodlmjbiaaDoorLimbs11
namespace Go.Proofs.YtamoakodlmjbiaaDoor
open Go.ChangeShapes Go.WideShapes Go.ChangeAt Go.RowKit

/-- A size with a sign. -/
def sg (neg : Bool) (n : Nat) : Int := if neg then -(n : Int) else n
/-- The plain value of a small number. -/
def zS (N : Int) : Value := .agg #[.int .i64 N, .bool false, .slice none 0 0]
/-- The value v stands for N in the world w, with at most K limbs. -/
def Num (w : World) (K : Nat) (v : Value) (N : Int) : Prop :=
  (v = zS N ∧ -1000000000000000000 < N ∧ N < 1000000000000000000) ∨
  ∃ neg b t cb f, v = .agg #[.int .i64 0, .bool neg, .slice (some ⟨b, 0, none⟩) t cb] ∧ 3 ≤ t ∧ t ≤ K ∧ t ≤ cb ∧ t ≤ 100000 ∧ Limbs w b t f ∧ b < w.heap.size ∧ (∀ i, f i < 1000000000) ∧ f (t - 1) ≠ 0 ∧ N = sg neg (val f t)
theorem Num.next {w w' : World} {K : Nat} {v : Value} {N : Int} (h : Num w K v N) (hb : Below w.heap.size w w') : Num w' K v N := by
  rcases h with h | ⟨neg, b, t, cb, f, hv, t3, tK, tc, t1, hf, hl, f9, top, hN⟩
  · exact Or.inl h
  · exact Or.inr ⟨neg, b, t, cb, f, hv, t3, tK, tc, t1, fun i hi => (hb.cell (p := ⟨b, i, none⟩) hl).trans (hf i hi), by have := hb.size; omega, f9, top, hN⟩
theorem Num.mono {w : World} {K L : Nat} {v : Value} {N : Int} (h : Num w K v N) (hL : K ≤ L) : Num w L v N := by
  rcases h with h | ⟨neg, b, t, cb, f, hv, t3, tK, r⟩
  · exact Or.inl h
  · exact Or.inr ⟨neg, b, t, cb, f, hv, t3, by omega, r⟩
theorem num_small (w : World) (K : Nat) (N : Int) (h0 : -1000000000000000000 < N) (h1 : N < 1000000000000000000) : Num w K (zS N) N := Or.inl ⟨rfl, h0, h1⟩
theorem two_val (f : Nat → Nat) : ∀ t, t ≤ 2 → two f t = val f t
  | 0, _ => rfl
  | 1, _ => by simp [two, val]
  | 2, _ => by simp [two, val]; omega
theorem num_made {w : World} {B o n : Nat} {f : Nat → Nat} (O : Own w B o n f) (f9 : ∀ i, f i < 1000000000) (neg : Bool) (cb : Nat) (hc : n ≤ cb) (hn : n ≤ 100000) :
    Num w n (madeZ neg o cb (trim f n) f) (sg neg (val f n)) := by
  have tl := trim_le f n
  have tv := val_trim f n
  rw [← tv]
  unfold madeZ
  by_cases h : 2 < trim f n
  · rw [if_pos h]
    refine Or.inr ⟨neg, o, trim f n, cb, f, rfl, by omega, by omega, by omega, by omega, fun i hi => O.cell i (by omega), O.hi, f9, ?_, rfl⟩
    rcases trim_top f n with h0 | h0
    · omega
    · exact h0
  · rw [if_neg h]
    have e := two_val f (trim f n) (by omega)
    have lt := val_lt f (trim f n) (fun i _ => f9 i)
    have p2 : 1000000000 ^ trim f n ≤ 1000000000 ^ 2 := Nat.pow_le_pow_right (by decide) (by omega)
    have p2' : 1000000000 ^ trim f n ≤ 1000000000000000000 := by simpa using p2
    rw [e]
    unfold sg
    cases neg
    · exact Or.inl ⟨rfl, by simp; omega, by simp; omega⟩
    · exact Or.inl ⟨rfl, by simp; omega, by simp; omega⟩
theorem val_top (f : Nat → Nat) (t : Nat) (h3 : 3 ≤ t) (top : f (t - 1) ≠ 0) : 1000000000000000000 ≤ val f t := by
  obtain ⟨k, rfl⟩ : ∃ k, t = k + 1 := ⟨t - 1, by omega⟩
  simp only [Nat.add_sub_cancel] at top
  simp only [val]
  have p2 : 1000000000 ^ 2 ≤ 1000000000 ^ k := Nat.pow_le_pow_right (by decide) (by omega)
  have p3 : 1 * 1000000000 ^ k ≤ f k * 1000000000 ^ k := Nat.mul_le_mul_right _ (by omega)
  simp only [Nat.reducePow] at p2
  omega
/-- Of a number that is not 0: what the model's own questions answer of it. -/
theorem Num.rep {w : World} {K : Nat} {v : Value} {N : Int} (h : Num w K v N) (hK : 2 ≤ K) (h0 : N ≠ 0) :
    ∃ sm ng n x va ga pa ta ca, v = .agg #[.int .i64 va, .bool ga, .slice pa ta ca] ∧ Rep w v sm ng n x ∧ n ≤ K ∧ 0 < n ∧ N = sg ng (val x n) ∧
      (sm = true → v = zS N ∧ -1000000000000000000 < N ∧ N < 1000000000000000000) := by
  rcases h with ⟨rfl, l0, l1⟩ | ⟨neg, b, t, cb, f, rfl, t3, tK, tc, t1, hf, hl, f9, top, hN⟩
  · obtain ⟨a, ha⟩ : ∃ a : Nat, N.natAbs = a := ⟨_, rfl⟩
    have hv : (a : Int) = N ∨ (a : Int) = -N := by omega
    have hs : N = sg (decide (N < 0)) a := by
      unfold sg
      by_cases hn : N < 0
      · rw [decide_eq_true hn, if_pos rfl]; omega
      · rw [decide_eq_false hn, if_neg (by decide)]; omega
    by_cases h9 : a < 1000000000
    · refine ⟨true, decide (N < 0), 1, limb2 a, N, false, none, 0, 0, rfl, rep_one N a hv (by omega) h9 w, by omega, by omega, ?_, fun _ => ⟨rfl, l0, l1⟩⟩
      rw [val_one a h9]; exact hs
    · refine ⟨true, decide (N < 0), 2, limb2 a, N, false, none, 0, 0, rfl, rep_two N a hv (by omega) (by omega) w, by omega, by omega, ?_, fun _ => ⟨rfl, l0, l1⟩⟩
      rw [val_two]; exact hs
  · exact ⟨false, neg, t, f, 0, neg, _, t, cb, rfl, rep_great neg b t cb f w (by omega) t1 hf hl f9, tK, by omega, hN, fun h => by cases h⟩
theorem sg_mul (a b : Bool) (x y : Nat) : sg (a != b) (x * y) = sg a x * sg b y := by
  cases a <;> cases b <;> simp [sg, Int.neg_mul, Int.mul_neg]
set_option maxHeartbeats 1000000 in
theorem num_mul {w : World} {K L : Nat} {a b : Value} {A B : Int} (HA : Num w K a A) (HB : Num w L b B) (hK : 2 ≤ K) (hL : 2 ≤ L) (hKL : K + L + 1 ≤ 100000) (a0 : A ≠ 0) (b0 : B ≠ 0) :
    Calls Tryd.prog 88 #[a, b] w fun r w' => ∃ v, r = .returned v ∧ Num w' (K + L + 1) v (A * B) ∧ Below w.heap.size w w' := by
  obtain ⟨sa, na, n, x, va, ga, pa, ta, ca, rfl, RA, nK, n0, hA, SA⟩ := HA.rep hK a0
  obtain ⟨sb, nb, m, y, vb, gb, pb, tb, cb, rfl, RB, mL, m0, hB, SB⟩ := HB.rep hL b0
  have fin : ∀ {w' : World} {o : Nat} {f : Nat → Nat}, Own w' w.heap.size o (n + m + 1) f → (∀ i, f i < 1000000000) → val f (n + m + 1) = val x n * val y m → Num w' (K + L + 1) (madeZ (na != nb) o (n + m + 1) (trim f (n + m + 1)) f) (A * B) := by
    intro w' o f O f9 hv
    have h := (num_made O f9 (na != nb) (n + m + 1) (Nat.le_refl _) (by omega)).mono (show n + m + 1 ≤ K + L + 1 by omega)
    rw [hv, sg_mul, ← hA, ← hB] at h
    exact h
  cases sa
  · exact (rMul_great na sb nb n m x y va vb ga gb pa pb ta ca tb cb w RA RB).mono fun e w' ⟨o, f, h1, O, f9, hv, hb⟩ => ⟨_, h1, fin O f9 hv, hb⟩
  cases sb
  · exact (rMul_small na nb n m x y va vb ga gb pa pb ta ca tb cb w RA RB).mono fun e w' ⟨o, f, h1, O, f9, hv, hb⟩ => ⟨_, h1, fin O f9 hv, hb⟩
  · obtain ⟨eA, a1, a2⟩ := SA rfl
    obtain ⟨eB, b1, b2⟩ := SB rfl
    rw [eA, eB]
    rw [eA] at RA
    rw [eB] at RB
    by_cases hs : -1000000000000000000 < A * B ∧ A * B < 1000000000000000000
    · exact (zMul A B a1 a2 b1 b2 hs.1 hs.2 w).mono fun e w' ⟨h1, hb⟩ => ⟨_, h1, num_small w' _ _ hs.1 hs.2, hb⟩
    · have X0 : 0 < (if A < 0 then -A else A) := by split <;> omega
      have q : 999999999999999999 / (if A < 0 then -A else A) < (if B < 0 then -B else B) := by
        rw [Int.ediv_lt_iff_lt_mul X0]
        have e : (if B < 0 then -B else B) * (if A < 0 then -A else A) = A * B ∨ (if B < 0 then -B else B) * (if A < 0 then -A else A) = -(A * B) := by
          by_cases h1 : B < 0 <;> by_cases h2 : A < 0 <;> simp only [h1, h2, if_true, if_false, Int.neg_mul, Int.mul_neg, Int.neg_neg] <;> rw [Int.mul_comm B A] <;> simp
        have p : 0 ≤ (if B < 0 then -B else B) * (if A < 0 then -A else A) := Int.mul_nonneg (by split <;> omega) (by omega)
        rcases e with e | e <;> rw [e] at p ⊢ <;> omega
      exact (rMul_over na nb n m x y A B _ _ _ w RA RB a1 a2 b1 b2 rfl rfl X0 rfl q).mono fun e w' ⟨o, f, h1, O, f9, hv, hb⟩ => ⟨_, h1, fin O f9 hv, hb⟩
end Go.Proofs.YtamoakodlmjbiaaDoor
