/- Rows of limbs by what they are worth: l1CmpD, l1MulD, l1SubD and l1Cut over rows whose last limb is not 0; conditions: at most 100,000 limbs. -/
import Derived.Test.YtamoakodlmjbiaaDoorLimbs28
import Derived.Test.YtamoakodlmjbiaaDoorLimbs14
namespace Go.Proofs.YtamoakodlmjbiaaDoor
open Go.ChangeShapes Go.WideShapes Go.ChangeAt Go.RowKit
theorem mulDig_lt (n : Nat) (d : Nat → Nat) (M : Nat) (hd : ∀ i, d i < 1000000000) (hM : M ≤ 1000000000) (i : Nat) : mulDig n d M i < 1000000000 := by
  unfold mulDig
  split
  · omega
  · have := mcarry_le d M hd hM n; omega
/-- A row of t limbs from the head of block o on, the last one not 0. -/
structure Row (w : World) (o t : Nat) (f : Nat → Nat) : Prop where
  cell : Limbs w o t f
  hi : o < w.heap.size
  lt : ∀ i, f i < 1000000000
  top : t = 0 ∨ f (t - 1) ≠ 0
theorem Row.next {w w' : World} {o t : Nat} {f : Nat → Nat} (h : Row w o t f) (hb : Below w.heap.size w w') : Row w' o t f :=
  ⟨fun i hi => (hb.cell (p := ⟨o, i, none⟩) h.hi).trans (h.cell i hi), by have := hb.size; have := h.hi; omega, h.lt, h.top⟩
theorem Row.drewN {w : World} {o t : Nat} {f : Nat → Nat} (h : Row w o t f) (q : Nat) : Row (w.drewN q) o t f :=
  ⟨fun i hi => (h.cell i hi : w.cell? _ = _), h.hi, h.lt, h.top⟩
theorem Row.len_le {w : World} {o t : Nat} {f : Nat → Nat} (h : Row w o t f) {m : Nat} {y : Nat → Nat} (hy : ∀ i, y i < 1000000000) (hv : val f t ≤ val y m) : t ≤ m := by
  rcases Nat.lt_or_ge m t with h1 | h1
  · have := len_cmp m t y f hy h1 (by rcases h.top with h0 | h0; omega; exact h0)
    omega
  · exact h1
theorem Row.zero {w : World} {o t : Nat} {f : Nat → Nat} (h : Row w o t f) (hv : val f t = 0) : t = 0 := by
  rcases Nat.eq_zero_or_pos t with h0 | h0
  · exact h0
  · have := top_ge f t h0 (by rcases h.top with h1 | h1; omega; exact h1)
    have := bpos (t - 1)
    omega
theorem cmpR (n m a b ca cb : Nat) (x y : Nat → Nat) (w : World) (hn : n ≤ 100000) (ha : Row w a n x) (hb : Row w b m y) :
    Calls Tryd.prog 105 #[.slice (some ⟨a, 0, none⟩) n ca, .slice (some ⟨b, 0, none⟩) m cb] w fun r w' => r = .returned (.int .i64 (cmpZ (val x n) (val y m))) ∧ ∃ k, w' = w.drewN k := by
  by_cases h : n = m
  · subst h
    have := cmpD_eq n a b ca cb x y w (by omega) ha.cell hb.cell
    rw [cmp_val x y n (fun i _ => ha.lt i) (fun i _ => hb.lt i)] at this
    exact this
  · have h1 := cmpD_ne n m (some ⟨a, 0, none⟩) (some ⟨b, 0, none⟩) ca cb w h
    have e : cmpZ (val x n) (val y m) = if n < m then -1 else 1 := by
      unfold cmpZ
      by_cases hl : n < m
      · have := len_cmp n m x y ha.lt hl (by rcases hb.top with h0 | h0; omega; exact h0)
        rw [if_pos hl, if_pos (by omega)]
      · have := len_cmp m n y x hb.lt (by omega) (by rcases ha.top with h0 | h0; omega; exact h0)
        rw [if_neg hl, if_neg (by omega), if_pos (by omega)]
    rw [e]
    exact h1.mono fun r w' ⟨h1, h2⟩ => ⟨h1, 0, by rw [h2]; rfl⟩
theorem mulR (n a ca M : Nat) (g : Int) (x : Nat → Nat) (w : World) (hn : n ≤ 100000) (ha : Row w a n x) (hM : M ≤ 1000000000) (hg : g = (M : Int)) :
    Calls Tryd.prog 109 #[.slice (some ⟨a, 0, none⟩) n ca, .int .u64 g] w fun r w' => ∃ o t f c, r = .returned (.slice (some ⟨o, 0, none⟩) t c) ∧ t ≤ c ∧ t ≤ n + 1 ∧ Row w' o t f ∧ val f t = val x n * M ∧ w.heap.size ≤ o ∧ Below w.heap.size w w' := by
  subst hg
  exact (mulD_any n a ca M x w (by omega) ha.cell ha.hi ha.lt hM).mono fun r w' ⟨h1, O, B⟩ =>
    ⟨w.heap.size, trim (mulDig n x M) (n + 1), mulDig n x M, n + 1, h1, trim_le _ _, trim_le _ _, ⟨fun i hi => O.cell i (by have := trim_le (mulDig n x M) (n + 1); omega), O.hi, mulDig_lt n x M ha.lt hM, trim_top _ _⟩, by rw [val_trim, val_mul_all], Nat.le_refl _, B⟩
/-- A row of n limbs of the call's own, its end not looked at. -/
structure Raw (w : World) (o n : Nat) (f : Nat → Nat) : Prop where
  cell : Limbs w o n f
  hi : o < w.heap.size
  lt : ∀ i, f i < 1000000000
theorem subR (n m a b ca cb : Nat) (x y : Nat → Nat) (w : World) (hn : n ≤ 100000) (ha : Row w a n x) (hb : Row w b m y) (hv : val y m ≤ val x n) :
    Calls Tryd.prog 106 #[.slice (some ⟨a, 0, none⟩) n ca, .slice (some ⟨b, 0, none⟩) m cb] w fun r w' => ∃ o f, r = .returned (.slice (some ⟨o, 0, none⟩) n n) ∧ Raw w' o n f ∧ val f n + val y m = val x n ∧ w.heap.size ≤ o ∧ Below w.heap.size w w' := by
  have hmn := hb.len_le ha.lt hv
  exact (subD_any n m a b ca cb x y w hmn (by omega) ha.cell hb.cell ha.hi hb.hi ha.lt hb.lt (pad m y) rfl).mono fun r w' ⟨h1, O, B⟩ =>
    ⟨w.heap.size, subDig x (pad m y), h1, ⟨O.cell, O.hi, subDig_lt x (pad m y) ha.lt (pad_lt m y hb.lt)⟩, sub_val n m x y ha.lt hb.lt hmn hv, Nat.le_refl _, B⟩
theorem cutR (n o c : Nat) (f : Nat → Nat) (w : World) (hn : n ≤ 100000) (hc : n ≤ c) (h : Raw w o n f) :
    Calls Tryd.prog 110 #[.slice (some ⟨o, 0, none⟩) n c] w fun r w' => ∃ t, r = .returned (.slice (some ⟨o, 0, none⟩) t c) ∧ t ≤ n ∧ Row w o t f ∧ val f t = val f n ∧ w' = w :=
  (cut_any n o c f w (by omega) hc h.cell).mono fun r w' ⟨h1, h2⟩ => ⟨trim f n, h1, trim_le _ _, ⟨fun i hi => h.cell i (by have := trim_le f n; omega), h.hi, h.lt, trim_top _ _⟩, val_trim _ _, h2⟩
end Go.Proofs.YtamoakodlmjbiaaDoor
