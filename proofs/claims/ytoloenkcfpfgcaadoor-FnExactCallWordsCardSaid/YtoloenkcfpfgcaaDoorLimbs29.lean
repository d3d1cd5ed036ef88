/- Plain mathematics of the model's long division of limbs (l1DivD): the guess of a digit is not too small; what the outer loop and the last one keep; what comes out. Rows of limbs by what they are worth: l1CmpD, l1MulD, l1SubD and l1Cut over rows whose last limb is not 0; conditions: at most 100,000 limbs. -/
import Derived.Test.YtoloenkcfpfgcaaDoorLimbs17
import Derived.Test.YtoloenkcfpfgcaaDoorLimbs14
namespace Go.Proofs.YtoloenkcfpfgcaaDoor

theorem val_split (r : Nat → Nat) (m : Nat) (hr : ∀ i, r i < 1000000000) : val r (m + 1) / 1000000000 ^ m = r m := by
  have h := val_lt r m (fun i _ => hr i)
  simp only [val]
  rw [Nat.add_mul_div_right _ _ (bpos m), Nat.div_eq_of_lt h, Nat.zero_add]
theorem val_split2 (r : Nat → Nat) (m : Nat) (hr : ∀ i, r i < 1000000000) : val r (m + 2) / 1000000000 ^ m = r (m + 1) * 1000000000 + r m := by
  have h := val_lt r m (fun i _ => hr i)
  have e : val r (m + 2) = val r m + (r (m + 1) * 1000000000 + r m) * 1000000000 ^ m := by
    simp only [val, Nat.pow_succ, Nat.add_mul]
    rw [Nat.mul_comm (1000000000 ^ m) 1000000000, ← Nat.mul_assoc]
    omega
  rw [e, Nat.add_mul_div_right _ _ (bpos m), Nat.div_eq_of_lt h, Nat.zero_add]
/-- The guess of a digit by the last limbs is not too small. -/
theorem guess (R B P t : Nat) (b : Nat) (hb : 0 < b) (hP : 0 < P) (hB : b * P ≤ B) (ht : R / P = t) : R / B ≤ t / b := by
  have h1 : R / B ≤ R / (b * P) := Nat.div_le_div_left hB (Nat.mul_pos hb hP)
  rw [Nat.mul_comm, ← Nat.div_div_eq_div_mul, ht] at h1
  exact h1
theorem guess_same (r y : Nat → Nat) (m : Nat) (hr : ∀ i, r i < 1000000000) (top : y m ≠ 0) : val r (m + 1) / val y (m + 1) ≤ r m / y m :=
  guess _ _ (1000000000 ^ m) _ _ (by omega) (bpos m) (by simp only [val]; omega) (val_split r m hr)
theorem guess_more (r y : Nat → Nat) (m : Nat) (hr : ∀ i, r i < 1000000000) (top : y m ≠ 0) : val r (m + 2) / val y (m + 1) ≤ (r (m + 1) * 1000000000 + r m) / y m :=
  guess _ _ (1000000000 ^ m) _ _ (by omega) (bpos m) (by simp only [val]; omega) (val_split2 r m hr)
/-- The digit is below the base. -/
theorem digit_lt (R B : Nat) (hB : 0 < B) (h : R < 1000000000 * B) : R / B < 1000000000 := (Nat.div_lt_iff_lt_mul hB).2 h
/-- Where the product is not above what is divided, the digit that is not too small is the quotient. -/
theorem digit_eq (R B g : Nat) (hB : 0 < B) (h1 : R / B ≤ g) (h2 : g * B ≤ R) : g = R / B :=
  Nat.le_antisymm ((Nat.le_div_iff_mul_le hB).2 h2) h1
/-- Where it is above, one less is not too small. -/
theorem digit_less (R B g : Nat) (hB : 0 < B) (h2 : R < g * B) : R / B ≤ g - 1 ∧ 0 < g := by
  have h3 : R / B < g := (Nat.div_lt_iff_lt_mul hB).2 h2
  exact ⟨Nat.le_sub_one_of_lt h3, Nat.lt_of_le_of_lt (Nat.zero_le _) h3⟩
theorem val_put_any (q : Nat → Nat) (i v : Nat) (hq : q i = 0) : ∀ n, i < n → val (put q i v) n = val q n + v * 1000000000 ^ i
  | 0, h => by omega
  | n + 1, h => by
    by_cases e : i = n
    · subst e
      rw [val_put]
      simp only [val, hq]
      omega
    · have ih := val_put_any q i v hq n (by omega)
      have en : put q i v n = q n := by unfold put; rw [if_neg (by omega)]
      simp only [val, ih, en]
      omega
/-- One round of the outer loop. -/
theorem div_round (a q : Nat → Nat) (n i R R' g B : Nat) (hi : i < n) (hq : q i = 0)
    (h : val a n = val a (i + 1) + val q n * B + R * 1000000000 ^ (i + 1)) (hR : R * 1000000000 + a i = g * B + R') :
    val a n = val a i + val (put q i g) n * B + R' * 1000000000 ^ i := by
  rw [val_put_any q i g hq n hi, h]
  simp only [val, Nat.pow_succ, Nat.add_mul]
  have e : (R * 1000000000 + a i) * 1000000000 ^ i = (g * B + R') * 1000000000 ^ i := by rw [hR]
  simp only [Nat.add_mul] at e
  have e1 : R * (1000000000 ^ i * 1000000000) = R * 1000000000 * 1000000000 ^ i := by rw [Nat.mul_assoc, Nat.mul_comm 1000000000]
  have e2 : g * 1000000000 ^ i * B = g * B * 1000000000 ^ i := by rw [Nat.mul_assoc, Nat.mul_comm (1000000000 ^ i), ← Nat.mul_assoc]
  rw [e1, e2]
  omega
/-- The row that the next round divides: a limb ahead of what is left. -/
def cons (x : Nat) (r : Nat → Nat) : Nat → Nat
  | 0 => x
  | i + 1 => r i
theorem val_cons (x : Nat) (r : Nat → Nat) : ∀ n, val (cons x r) (n + 1) = x + 1000000000 * val r n
  | 0 => by simp [val, cons]
  | n + 1 => by
    rw [val, val_cons x r n]
    show x + 1000000000 * val r n + r n * 1000000000 ^ (n + 1) = x + 1000000000 * (val r n + r n * 1000000000 ^ n)
    rw [Nat.pow_succ, Nat.mul_add, Nat.mul_comm (1000000000 ^ n), ← Nat.mul_assoc (r n), Nat.mul_comm (r n) 1000000000, Nat.mul_assoc]
    omega
/-- One round of the last loop: what is left, over k. -/
theorem last_round (r o : Nat → Nat) (n i c k : Nat) (hi : i < n) (ho : o i = 0)
    (h : val r n = val r (i + 1) + val o n * k + c * 1000000000 ^ (i + 1)) :
    val r n = val r i + val (put o i ((c * 1000000000 + r i) / k)) n * k + ((c * 1000000000 + r i) % k) * 1000000000 ^ i :=
  div_round r o n i c _ _ k hi ho h (by rw [Nat.mul_comm ((c * 1000000000 + r i) / k) k]; exact (Nat.div_add_mod _ _).symm)
/-- What comes out: quotient and remainder, though both were made k times as great. -/
theorem div_out (A B k Q R : Nat) (hk : 0 < k) (hB : 0 < B) (h : A * k = Q * (B * k) + R) (hR : R < B * k) : Q = A / B ∧ R = (A % B) * k := by
  have hQ : Q = A * k / (B * k) := by
    rw [h, Nat.mul_comm Q, Nat.mul_add_div (Nat.mul_pos hB hk), Nat.div_eq_of_lt hR, Nat.add_zero]
  have hR2 : R = A * k % (B * k) := by
    rw [h, Nat.mul_comm Q, Nat.mul_add_mod, Nat.mod_eq_of_lt hR]
  rw [Nat.mul_div_mul_right _ _ hk] at hQ
  rw [Nat.mul_mod_mul_right] at hR2
  exact ⟨hQ, hR2⟩
theorem last_out (R k O c M : Nat) (hk : 0 < k) (h : R = O * k + c) (hc : c < k) (hR : R = M * k) : O = M ∧ c = 0 := by
  have e : c = R % k := by rw [h, Nat.mul_comm, Nat.mul_add_mod, Nat.mod_eq_of_lt hc]
  have e2 : R % k = 0 := by rw [hR]; exact Nat.mul_mod_left _ _
  have c0 : c = 0 := by rw [e, e2]
  refine ⟨?_, c0⟩
  rw [c0, hR, Nat.add_zero] at h
  exact (Nat.eq_of_mul_eq_mul_right hk h).symm
end Go.Proofs.YtoloenkcfpfgcaaDoor
namespace Go.Proofs.YtoloenkcfpfgcaaDoor
open Go.ChangeShapes Go.WideShapes Go.ChangeAt Go.RowKit
theorem mulDig_lt (n : Nat) (d : Nat → Nat) (M : Nat) (hd : ∀ i, d i < 1000000000) (hM : M ≤ 1000000000) (i : Nat) : mulDig n d M i < 1000000000 := by
  unfold mulDig
  split
  · omega
  · have := mcarry_le d M hd hM n; omega
/-- A row of t limbs from the head of block o on, the last one not 0. -/
structure Row (w : World) (o t : Nat) (f : Nat → Nat) : Prop where
  cell : Limbs w o t f
  hi : o < w.heap.size
  lt : ∀ i, f i < 1000000000
  top : t = 0 ∨ f (t - 1) ≠ 0
theorem Row.next {w w' : World} {o t : Nat} {f : Nat → Nat} (h : Row w o t f) (hb : Below w.heap.size w w') : Row w' o t f :=
  ⟨fun i hi => (hb.cell (p := ⟨o, i, none⟩) h.hi).trans (h.cell i hi), by have := hb.size; have := h.hi; omega, h.lt, h.top⟩
theorem Row.drewN {w : World} {o t : Nat} {f : Nat → Nat} (h : Row w o t f) (q : Nat) : Row (w.drewN q) o t f :=
  ⟨fun i hi => (h.cell i hi : w.cell? _ = _), h.hi, h.lt, h.top⟩
theorem Row.len_le {w : World} {o t : Nat} {f : Nat → Nat} (h : Row w o t f) {m : Nat} {y : Nat → Nat} (hy : ∀ i, y i < 1000000000) (hv : val f t ≤ val y m) : t ≤ m := by
  rcases Nat.lt_or_ge m t with h1 | h1
  · have := len_cmp m t y f hy h1 (by rcases h.top with h0 | h0; omega; exact h0)
    omega
  · exact h1
theorem Row.zero {w : World} {o t : Nat} {f : Nat → Nat} (h : Row w o t f) (hv : val f t = 0) : t = 0 := by
  rcases Nat.eq_zero_or_pos t with h0 | h0
  · exact h0
  · have := top_ge f t h0 (by rcases h.top with h1 | h1; omega; exact h1)
    have := bpos (t - 1)
    omega
theorem cmpR (n m a b ca cb : Nat) (x y : Nat → Nat) (w : World) (hn : n ≤ 100000) (ha : Row w a n x) (hb : Row w b m y) :
    Calls Tryd.prog 68 #[.slice (some ⟨a, 0, none⟩) n ca, .slice (some ⟨b, 0, none⟩) m cb] w fun r w' => r = .returned (.int .i64 (cmpZ (val x n) (val y m))) ∧ ∃ k, w' = w.drewN k := by
  by_cases h : n = m
  · subst h
    have := cmpD_eq n a b ca cb x y w (by omega) ha.cell hb.cell
    rw [cmp_val x y n (fun i _ => ha.lt i) (fun i _ => hb.lt i)] at this
    exact this
  · have h1 := cmpD_ne n m (some ⟨a, 0, none⟩) (some ⟨b, 0, none⟩) ca cb w h
    have e : cmpZ (val x n) (val y m) = if n < m then -1 else 1 := by
      unfold cmpZ
      by_cases hl : n < m
      · have := len_cmp n m x y ha.lt hl (by rcases hb.top with h0 | h0; omega; exact h0)
        rw [if_pos hl, if_pos (by omega)]
      · have := len_cmp m n y x hb.lt (by omega) (by rcases ha.top with h0 | h0; omega; exact h0)
        rw [if_neg hl, if_neg (by omega), if_pos (by omega)]
    rw [e]
    exact h1.mono fun r w' ⟨h1, h2⟩ => ⟨h1, 0, by rw [h2]; rfl⟩
theorem mulR (n a ca M : Nat) (g : Int) (x : Nat → Nat) (w : World) (hn : n ≤ 100000) (ha : Row w a n x) (hM : M ≤ 1000000000) (hg : g = (M : Int)) :
    Calls Tryd.prog 87 #[.slice (some ⟨a, 0, none⟩) n ca, .int .u64 g] w fun r w' => ∃ o t f c, r = .returned (.slice (some ⟨o, 0, none⟩) t c) ∧ t ≤ c ∧ t ≤ n + 1 ∧ Row w' o t f ∧ val f t = val x n * M ∧ w.heap.size ≤ o ∧ Below w.heap.size w w' := by
  subst hg
  exact (mulD_any n a ca M x w (by omega) ha.cell ha.hi ha.lt hM).mono fun r w' ⟨h1, O, B⟩ =>
    ⟨w.heap.size, trim (mulDig n x M) (n + 1), mulDig n x M, n + 1, h1, trim_le _ _, trim_le _ _, ⟨fun i hi => O.cell i (by have := trim_le (mulDig n x M) (n + 1); omega), O.hi, mulDig_lt n x M ha.lt hM, trim_top _ _⟩, by rw [val_trim, val_mul_all], Nat.le_refl _, B⟩
/-- A row of n limbs of the call's own, its end not looked at. -/
structure Raw (w : World) (o n : Nat) (f : Nat → Nat) : Prop where
  cell : Limbs w o n f
  hi : o < w.heap.size
  lt : ∀ i, f i < 1000000000
theorem subR (n m a b ca cb : Nat) (x y : Nat → Nat) (w : World) (hn : n ≤ 100000) (ha : Row w a n x) (hb : Row w b m y) (hv : val y m ≤ val x n) :
    Calls Tryd.prog 69 #[.slice (some ⟨a, 0, none⟩) n ca, .slice (some ⟨b, 0, none⟩) m cb] w fun r w' => ∃ o f, r = .returned (.slice (some ⟨o, 0, none⟩) n n) ∧ Raw w' o n f ∧ val f n + val y m = val x n ∧ w.heap.size ≤ o ∧ Below w.heap.size w w' := by
  have hmn := hb.len_le ha.lt hv
  exact (subD_any n m a b ca cb x y w hmn (by omega) ha.cell hb.cell ha.hi hb.hi ha.lt hb.lt (pad m y) rfl).mono fun r w' ⟨h1, O, B⟩ =>
    ⟨w.heap.size, subDig x (pad m y), h1, ⟨O.cell, O.hi, subDig_lt x (pad m y) ha.lt (pad_lt m y hb.lt)⟩, sub_val n m x y ha.lt hb.lt hmn hv, Nat.le_refl _, B⟩
theorem cutR (n o c : Nat) (f : Nat → Nat) (w : World) (hn : n ≤ 100000) (hc : n ≤ c) (h : Raw w o n f) :
    Calls Tryd.prog 88 #[.slice (some ⟨o, 0, none⟩) n c] w fun r w' => ∃ t, r = .returned (.slice (some ⟨o, 0, none⟩) t c) ∧ t ≤ n ∧ Row w o t f ∧ val f t = val f n ∧ w' = w :=
  (cut_any n o c f w (by omega) hc h.cell).mono fun r w' ⟨h1, h2⟩ => ⟨trim f n, h1, trim_le _ _, ⟨fun i hi => h.cell i (by have := trim_le f n; omega), h.hi, h.lt, trim_top _ _⟩, val_trim _ _, h2⟩
end Go.Proofs.YtoloenkcfpfgcaaDoor
