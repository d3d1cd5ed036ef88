/- What JoinsFine asks, told without a program, as the program asks it and as the model does: over all IZero together it is one. -/
import Derived.Test.YtablacgmedkgjaaDoorEnc
namespace Go.Proofs.YtablacgmedkgjaaDoor
open Go.ChangeShapes Go.WideShapes Go.ChangeAt Go.RowKit
set_option linter.unusedVariables false
/-- The numbers to which an instruction may go but the next one. -/
def tgL (o a b c : Int) : List Int := if o = 8 then [a] else if o = 9 then [b, c] else []
/-- As the program asks it: of an IZero at z with its C at j, of one at k that goes to t. -/
def jI (z j k t : Int) : Bool := if k < z ∨ j ≤ k then decide (t ≤ z) || decide (j ≤ t) else decide (t ≤ j) && (decide (z < t) || decide (k = j - 1))
def fldJ (z j k o d a b c x : Int) (f : Nat) : Bool := !isN o f || jI z j k (val d a b c x f)
def rowJ (O D A B C X : Nat → Int) (z j : Int) (k : Nat) : Bool := allB (fldJ z j (k : Int) (O k) (D k) (A k) (B k) (C k) (X k)) 5
def fineI (O D A B C X : Nat → Int) (n z : Nat) : Bool := (decide ((z : Int) < B z) && decide (B z ≤ C z)) && allB (rowJ O D A B C X (z : Int) (C z)) n
/-- As the model asks it. -/
def jS (z c o k t : Int) : Bool := if z < k ∧ k < c then decide (t ≤ c) && (decide (z < t) || (o == 8 && decide (k = c - 1))) else decide (k = z) || (decide (t ≤ z) || decide (c ≤ t))
def allL (f : Int → Bool) : List Int → Bool
  | [] => true
  | t :: r => f t && allL f r
def rowS (O A B C : Nat → Int) (z c : Int) (k : Nat) : Bool := allL (jS z c (O k) (k : Int)) (tgL (O k) (A k) (B k) (C k))
def fineS (O A B C : Nat → Int) (n z : Nat) : Bool := (decide ((z : Int) < B z) && (decide ((z : Int) < C z) && decide (B z ≤ C z))) && allB (rowS O A B C (z : Int) (C z)) n
def zerI (O D A B C X : Nat → Int) (n z : Nat) : Bool := !(O z == 9) || fineI O D A B C X n z
def zerS (O A B C : Nat → Int) (n z : Nat) : Bool := !(O z == 9) || fineS O A B C n z
theorem allB_iff (f : Nat → Bool) : ∀ n, allB f n = true ↔ ∀ k, k < n → f k = true
  | 0 => by simp [allB]
  | n + 1 => by
    rw [allB, Bool.and_eq_true, allB_iff f n]
    constructor
    · rintro ⟨h1, h2⟩ k hk
      by_cases e : k = n
      · subst e; exact h2
      · exact h1 k (by omega)
    · intro h
      exact ⟨fun k hk => h k (by omega), h n (by omega)⟩
theorem allL_iff (f : Int → Bool) : ∀ l, allL f l = true ↔ ∀ t, t ∈ l → f t = true
  | [] => by simp [allL]
  | t :: r => by simp [allL, allL_iff f r]
theorem rowJ_iff (O D A B C X : Nat → Int) (z j : Int) (k : Nat) : rowJ O D A B C X z j k = true ↔ ∀ t, t ∈ tgL (O k) (A k) (B k) (C k) → jI z j k t = true := by
  unfold rowJ
  rw [allB_iff]
  unfold fldJ tgL
  by_cases h8 : O k = 8
  · rw [if_pos h8]
    constructor
    · intro h t ht
      have := h 1 (by omega)
      simp [isN, h8, val] at this
      simp at ht
      rw [ht]; exact this
    · intro h f hf
      have := h (A k) (by simp)
      rcases (by omega : f = 0 ∨ f = 1 ∨ f = 2 ∨ f = 3 ∨ f = 4) with rfl | rfl | rfl | rfl | rfl <;> simp [isN, h8, val, this]
  · rw [if_neg h8]
    by_cases h9 : O k = 9
    · rw [if_pos h9]
      constructor
      · intro h t ht
        have h2 := h 2 (by omega)
        have h3 := h 3 (by omega)
        simp [isN, h9, val] at h2 h3
        simp at ht
        rcases ht with ht | ht <;> rw [ht] <;> assumption
      · intro h f hf
        have h2 := h (B k) (by simp)
        have h3 := h (C k) (by simp)
        rcases (by omega : f = 0 ∨ f = 1 ∨ f = 2 ∨ f = 3 ∨ f = 4) with rfl | rfl | rfl | rfl | rfl <;> simp [isN, h9, val, h2, h3]
    · rw [if_neg h9]
      constructor
      · intro _ t ht; cases ht
      · intro _ f hf
        simp [isN, h8, h9]
theorem fineI_iff (O D A B C X : Nat → Int) (n z : Nat) : fineI O D A B C X n z = true ↔ ((z : Int) < B z ∧ B z ≤ C z) ∧ ∀ k, k < n → ∀ t, t ∈ tgL (O k) (A k) (B k) (C k) → jI z (C z) k t = true := by
  unfold fineI
  rw [Bool.and_eq_true, Bool.and_eq_true, decide_eq_true_eq, decide_eq_true_eq, allB_iff]
  constructor
  · rintro ⟨h1, h2⟩; exact ⟨h1, fun k hk => (rowJ_iff O D A B C X z (C z) k).1 (h2 k hk)⟩
  · rintro ⟨h1, h2⟩; exact ⟨h1, fun k hk => (rowJ_iff O D A B C X z (C z) k).2 (h2 k hk)⟩
theorem fineS_iff (O A B C : Nat → Int) (n z : Nat) : fineS O A B C n z = true ↔ ((z : Int) < B z ∧ (z : Int) < C z ∧ B z ≤ C z) ∧ ∀ k, k < n → ∀ t, t ∈ tgL (O k) (A k) (B k) (C k) → jS z (C z) (O k) k t = true := by
  unfold fineS
  rw [Bool.and_eq_true, Bool.and_eq_true, Bool.and_eq_true, decide_eq_true_eq, decide_eq_true_eq, decide_eq_true_eq, allB_iff]
  constructor
  · rintro ⟨h1, h2⟩; exact ⟨h1, fun k hk => (allL_iff _ _).1 (h2 k hk)⟩
  · rintro ⟨h1, h2⟩; exact ⟨h1, fun k hk => (allL_iff _ _).2 (h2 k hk)⟩
theorem jI_iff (z j k t : Int) : jI z j k t = true ↔ ((k < z ∨ j ≤ k) → (t ≤ z ∨ j ≤ t)) ∧ (¬ (k < z ∨ j ≤ k) → t ≤ j ∧ (z < t ∨ k = j - 1)) := by
  unfold jI
  split
  · rename_i h; simp [h]
  · rename_i h; simp [h]
theorem jS_iff (z c o k t : Int) : jS z c o k t = true ↔ ((z < k ∧ k < c) → t ≤ c ∧ (z < t ∨ (o = 8 ∧ k = c - 1))) ∧ (¬ (z < k ∧ k < c) → (k = z ∨ t ≤ z ∨ c ≤ t)) := by
  unfold jS
  split
  · rename_i h; simp [h]
  · rename_i h; simp [h]
theorem tg_zero {o a b c t : Int} (h : t ∈ tgL o a b c) (h9 : o = 9) : t = b ∨ t = c := by
  unfold tgL at h
  rw [h9] at h
  simpa using h
theorem tg_op {o a b c t : Int} (h : t ∈ tgL o a b c) : o = 8 ∨ o = 9 := by
  unfold tgL at h
  by_cases h8 : o = 8
  · exact Or.inl h8
  · by_cases h9 : o = 9
    · exact Or.inr h9
    · rw [if_neg h8, if_neg h9] at h; cases h
theorem zer_iff (b : Bool) (o : Int) : (!(o == 9) || b) = true ↔ (o = 9 → b = true) := by
  by_cases h : o = 9 <;> simp [h]
/-- The two ways to ask are one, over all IZero together. -/
theorem joins_same (O D A B C X : Nat → Int) (n : Nat) : allB (zerI O D A B C X n) n = allB (zerS O A B C n) n := by
  rw [Bool.eq_iff_iff, allB_iff, allB_iff]
  constructor
  · intro h z hz
    unfold zerS
    rw [zer_iff]
    intro h9
    have all := fun k hk h9 => (fineI_iff O D A B C X n k).1 ((zer_iff _ _).1 (h k hk) h9)
    have hf := all z hz h9
    rw [fineS_iff]
    refine ⟨⟨hf.1.1, by omega, hf.1.2⟩, fun k hk t ht => ?_⟩
    have hj := (jI_iff _ _ _ _).1 (hf.2 k hk t ht)
    rw [jS_iff]
    refine ⟨fun hin => ?_, fun hout => ?_⟩
    · have hj2 := hj.2 (by omega)
      refine ⟨hj2.1, ?_⟩
      by_cases hzt : (z : Int) < t
      · exact Or.inl hzt
      · right
        refine ⟨?_, hj2.2.resolve_left hzt⟩
        rcases tg_op ht with h8 | hk9
        · exact h8
        · exfalso
          have hk := (all k hk hk9).1
          rcases tg_zero ht hk9 with rfl | rfl <;> omega
    · by_cases hkz : (k : Int) = z
      · exact Or.inl hkz
      · right
        exact hj.1 (by have := hf.1; omega)
  · intro h z hz
    unfold zerI
    rw [zer_iff]
    intro h9
    have hf := (fineS_iff O A B C n z).1 ((zer_iff _ _).1 (h z hz) h9)
    rw [fineI_iff]
    refine ⟨⟨hf.1.1, hf.1.2.2⟩, fun k hk t ht => ?_⟩
    have hj := (jS_iff _ _ _ _ _).1 (hf.2 k hk t ht)
    have hb := hf.1
    rw [jI_iff]
    refine ⟨fun hout => ?_, fun hin => ?_⟩
    · have := hj.2 (by omega)
      omega
    · by_cases hkz : (k : Int) = z
      · have : k = z := by omega
        subst this
        rcases tg_zero ht h9 with rfl | rfl
        · exact ⟨hb.2.2, Or.inl hb.1⟩
        · exact ⟨Int.le_refl _, Or.inl hb.2.1⟩
      · have := hj.1 (by omega)
        refine ⟨this.1, ?_⟩
        rcases this.2 with h | ⟨_, h⟩
        · exact Or.inl h
        · exact Or.inr h
/-- What JoinsFine answers. -/
def jfV (O D A B C X : Nat → Int) (n : Nat) : Bool := goodC O D A B C X n && allB (zerS O A B C n) n
theorem goodC_bds {O D A B C X : Nat → Int} {n : Nat} (h : goodC O D A B C X n = true) : n ≤ 600 ∧ 1 ≤ n ∧ ∀ k, k < n → Bds (O k) (D k) (A k) (B k) (C k) (X k) := by
  unfold goodC at h
  simp only [Bool.and_eq_true, decide_eq_true_eq] at h
  obtain ⟨⟨h1, h2⟩, h3, _⟩ := h
  exact ⟨h2, h1, fun k hk => bds_of (allB_at _ n k h3 hk) (by omega)⟩
/-- A slice of whole numbers as it is read. -/
def Lst (w : World) (u : Value) (M : List Int) : Prop := ∃ ad cp, u = .slice ad M.length cp ∧ ∀ i, i < M.length → ∃ g, ad = some ⟨g, 0, none⟩ ∧ w.cell? ⟨g, i, none⟩ = some (.int .i64 (M.getD i 0))
theorem getD_mem (l : List Int) (j : Nat) (h : j < l.length) : l.getD j 0 ∈ l := by
  simp [List.getD, h]
theorem allL_take (f : Int → Bool) (l : List Int) (j : Nat) (hj : j < l.length) (h : allL f (l.take j) = true) (hq : f (l.getD j 0) = true) : allL f (l.take (j + 1)) = true := by
  rw [allL_iff] at h ⊢
  intro t ht
  rw [List.take_add_one] at ht
  rcases List.mem_append.1 ht with ht | ht
  · exact h t ht
  · have : t = l.getD j 0 := by simpa [List.getD, hj] using ht
    rw [this]; exact hq
theorem allL_stop (f : Int → Bool) (l : List Int) (j : Nat) (hj : j < l.length) (hq : f (l.getD j 0) = false) : allL f l = false := by
  rw [Bool.eq_false_iff]
  intro h
  have := (allL_iff f l).1 h _ (getD_mem l j hj)
  rw [hq] at this
  cases this
theorem tgL_len (o a b c : Int) : (tgL o a b c).length ≤ 2 := by
  unfold tgL
  repeat' split
  all_goals simp
theorem cell_nx {v v' : World} {p : Addr} {u : Value} (h : v.cell? p = some u) (k : Below v.heap.size v v') : v'.cell? p = some u := (k.cell (World.block_lt_of_cell? _ p h)).trans h
end Go.Proofs.YtablacgmedkgjaaDoor
