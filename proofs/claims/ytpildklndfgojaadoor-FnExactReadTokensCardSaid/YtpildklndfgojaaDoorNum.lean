/- Numbers in texts, as lists of bytes: the one form in which a whole number is written, read by the library and by the model alike. No Go text is spoken of here. -/
import Derived.Lib.AtoiAll
import Derived.Lib.AtoiAllCases
import Derived.Lib.ItoaNum
import Derived.Lib.ItoaMem
import GoSem.Op.String
namespace Go.Proofs.YtpildklndfgojaaDoor.Tk
open Go Go.Lib
set_option linter.unusedVariables false
def isDig (b : UInt8) : Bool := decide (48 ≤ b.toNat ∧ b.toNat ≤ 57)
def stepF (x : Nat) (b : UInt8) : Nat := x * 10 + (b.toNat - 48)
def valF (a : Nat) (l : List UInt8) : Nat := l.foldl stepF a
theorem valF_nil (a : Nat) : valF a [] = a := List.foldl_nil
theorem valF_cons (a : Nat) (b : UInt8) (r : List UInt8) : valF a (b :: r) = valF (a * 10 + (b.toNat - 48)) r := List.foldl_cons ..
def dlen : List UInt8 → Nat
  | [] => 0
  | b :: r => if isDig b then dlen r + 1 else 0
theorem dig_iff (b : UInt8) : isDig b = true ↔ 48 ≤ b.toNat ∧ b.toNat ≤ 57 := by unfold isDig; simp
theorem dlen_le : ∀ l : List UInt8, dlen l ≤ l.length
  | [] => Nat.le_refl _
  | b :: r => by
    have := dlen_le r
    simp only [dlen, List.length_cons]
    split <;> omega
theorem dlen_all : ∀ l : List UInt8, dlen l = l.length ↔ ∀ b ∈ l, isDig b = true
  | [] => by simp [dlen]
  | b :: r => by
    have ih := dlen_all r
    have le := dlen_le r
    simp only [dlen, List.length_cons, List.mem_cons, forall_eq_or_imp]
    by_cases h : isDig b = true
    · rw [if_pos h, ← ih]; simp [h]
    · rw [if_neg h]; simp [h]
theorem dlen_at : ∀ (l : List UInt8) (m : Nat), (∀ k, k < m → ∃ h : k < l.length, isDig l[k] = true) → (m = l.length ∨ ∃ h : m < l.length, isDig l[m] = false) → dlen l = m
  | [], m, h, e => by
    rcases Nat.eq_zero_or_pos m with rfl | g
    · rfl
    · obtain ⟨h', _⟩ := h 0 g
      simp at h'
  | b :: r, 0, h, e => by
    rcases e with e | ⟨_, e⟩
    · simp at e
    · simp only [List.getElem_cons_zero] at e
      simp [dlen, e]
  | b :: r, m + 1, h, e => by
    obtain ⟨_, h0⟩ := h 0 (by omega)
    simp only [List.getElem_cons_zero] at h0
    have ih := dlen_at r m (fun k hk => by
      obtain ⟨g, d⟩ := h (k + 1) (by omega)
      exact ⟨by simpa using g, by simpa using d⟩) (by
      rcases e with e | ⟨g, e⟩
      · left; simpa using e
      · right; exact ⟨by simpa using g, by simpa using e⟩)
    simp [dlen, h0, ih]
theorem valF_concat (b : UInt8) (l : List UInt8) : ∀ a : Nat, valF a (l ++ [b]) = valF a l * 10 + (b.toNat - 48) := by
  induction l with
  | nil => intro a; rw [List.nil_append, valF_cons, valF_nil, valF_nil]
  | cons c r ih => intro a; rw [List.cons_append, valF_cons, valF_cons]; exact ih _
theorem valF_split : ∀ (l : List UInt8) (a : Nat), valF a l = a * 10 ^ l.length + valF 0 l
  | [], a => by simp [valF_nil]
  | c :: r, a => by
    simp only [valF_cons, List.length_cons]
    rw [valF_split r (a * 10 + (c.toNat - 48)), valF_split r (0 * 10 + (c.toNat - 48)), Nat.pow_succ]
    rw [Nat.add_mul, Nat.add_mul, Nat.mul_assoc, Nat.mul_comm 10]
    omega
theorem valF_lt : ∀ (l : List UInt8), (∀ b ∈ l, isDig b = true) → valF 0 l < 10 ^ l.length
  | [], _ => by simp [valF_nil]
  | c :: r, h => by
    have hc := (dig_iff c).1 (h c (by simp))
    have ih := valF_lt r (fun b hb => h b (by simp [hb]))
    simp only [valF_cons, List.length_cons]
    rw [valF_split r, Nat.pow_succ]
    have : (0 * 10 + (c.toNat - 48)) * 10 ^ r.length ≤ 9 * 10 ^ r.length := Nat.mul_le_mul_right _ (by omega)
    omega
/-- The one form in which a whole number from 0 on is written. -/
def Canon (l : List UInt8) : Prop := l ≠ [] ∧ (∀ b ∈ l, isDig b = true) ∧ (1 < l.length → l.head? ≠ some 48)
theorem dig_back (b : UInt8) (h : isDig b = true) : UInt8.ofNat (48 + (b.toNat - 48)) = b := by
  have := (dig_iff b).1 h
  rw [show 48 + (b.toNat - 48) = b.toNat by omega]
  exact UInt8.ofNat_toNat
theorem head_pos (c : UInt8) (r : List UInt8) (hc : isDig c = true) (h : c ≠ 48) : 10 ^ r.length ≤ valF 0 (c :: r) := by
  have := (dig_iff c).1 hc
  have n : c.toNat ≠ 48 := fun e => h (by rw [← UInt8.toNat_inj]; exact e)
  simp only [valF_cons]
  rw [valF_split r]
  have : 1 * 10 ^ r.length ≤ (0 * 10 + (c.toNat - 48)) * 10 ^ r.length := Nat.mul_le_mul_right _ (by omega)
  omega
theorem canon_dec : ∀ (n : Nat) (l : List UInt8), l.length = n → Canon l → decDigits (valF 0 l) = l := by
  intro n
  induction n with
  | zero => intro l hl h; exact absurd (List.length_eq_zero_iff.1 hl) h.1
  | succ n ih =>
    intro l hl ⟨h0, h1, h2⟩
    obtain ⟨i, d, rfl⟩ : ∃ i d, l = i ++ [d] := ⟨l.dropLast, l.getLast h0, (List.dropLast_concat_getLast h0).symm⟩
    have hd := h1 d (by simp)
    have hdb := (dig_iff d).1 hd
    rw [valF_concat]
    cases i with
    | nil =>
      simp only [valF_nil, List.nil_append]
      rw [show 0 * 10 + (d.toNat - 48) = d.toNat - 48 by omega, decDigits_one (by omega), dig_back d hd]
    | cons c r =>
      have hc := h1 c (by simp)
      have c48 : c ≠ 48 := fun e => h2 (by simp) (by simp [e])
      have cn : Canon (c :: r) := ⟨by simp, fun b hb => h1 b (by simp only [List.mem_append]; exact Or.inl hb), fun _ => by simpa using c48⟩
      have e := ih (c :: r) (by simpa using hl) cn
      have g := head_pos c r hc c48
      have p : 1 ≤ 10 ^ r.length := Nat.one_le_pow _ _ (by decide)
      generalize valF 0 (c :: r) = v at *
      rw [decDigits, dif_neg (by omega), show (v * 10 + (d.toNat - 48)) / 10 = v by omega, show (v * 10 + (d.toNat - 48)) % 10 = d.toNat - 48 by omega, e, dig_back d hd]
theorem ofDigit (k : Nat) (h : k < 10) : (UInt8.ofNat (48 + k)).toNat = 48 + k := by
  rw [UInt8.toNat_ofNat']
  exact Nat.mod_eq_of_lt (by omega)
theorem dec_canon (u : Nat) : Canon (decDigits u) ∧ valF 0 (decDigits u) = u := by
  induction u using Nat.strongRecOn with
  | _ u ih =>
    by_cases h : u < 10
    · rw [decDigits_one h]
      refine ⟨⟨by simp, ?_, by simp⟩, ?_⟩
      · intro b hb
        simp only [List.mem_singleton] at hb
        subst hb
        rw [dig_iff, ofDigit u h]; omega
      · simp only [valF_cons, valF_nil]; rw [ofDigit u h]; omega
    · rw [decDigits, dif_neg h]
      obtain ⟨⟨a0, a1, a2⟩, b⟩ := ih (u / 10) (by omega)
      have m := ofDigit (u % 10) (by omega)
      refine ⟨⟨by simp, ?_, ?_⟩, ?_⟩
      · intro x hx
        simp only [List.mem_append, List.mem_singleton] at hx
        rcases hx with hx | rfl
        · exact a1 x hx
        · rw [dig_iff, m]; omega
      · intro _
        obtain ⟨c, r, e⟩ : ∃ c r, decDigits (u / 10) = c :: r := by
          cases g : decDigits (u / 10) with
          | nil => exact absurd g a0
          | cons c r => exact ⟨c, r, rfl⟩
        rw [e] at a2 b ⊢
        simp only [List.cons_append, List.head?_cons]
        by_cases l1 : 1 < (c :: r).length
        · simpa using a2 l1
        · have : r = [] := by cases r with
            | nil => rfl
            | cons x y => simp at l1
          subst this
          simp only [valF_cons, valF_nil] at b
          intro e2
          simp only [Option.some.injEq] at e2
          rw [e2] at b
          simp at b
          omega
      · rw [valF_concat, b, m]; omega
theorem parse_ok : ∀ (l : List UInt8) (a : Nat), (∀ b ∈ l, isDig b = true) → valF a l < 1844674407370955162 → parseUint10 a l = .ok (valF a l)
  | [], a, _, _ => by rw [valF_nil]; rfl
  | c :: r, a, h, hb => by
    have hc := (dig_iff c).1 (h c (by simp))
    have ih := parse_ok r (a * 10 + (c.toNat - 48)) (fun b hb => h b (by simp [hb]))
    simp only [valF_cons] at hb ⊢
    have s := valF_split r (a * 10 + (c.toNat - 48))
    have p : 1 ≤ 10 ^ r.length := Nat.one_le_pow _ _ (by decide)
    have q : (a * 10 + (c.toNat - 48)) * 1 ≤ (a * 10 + (c.toNat - 48)) * 10 ^ r.length := Nat.mul_le_mul_left _ p
    rw [parseUint10, if_pos hc, if_neg (by omega), if_neg (by omega)]
    exact ih hb
theorem atoi_canon (l : List UInt8) (h0 : l ≠ []) (h : ∀ b ∈ l, isDig b = true) (hb : valF 0 l < 1844674407370955162) : atoiAll l = .ok (valF 0 l : Int) := by
  cases l with
  | nil => exact absurd rfl h0
  | cons c r =>
    have hc := (dig_iff c).1 (h c (by simp))
    have p := parse_ok (c :: r) 0 h hb
    unfold atoiAll
    simp only
    rw [if_neg (by omega)]
    unfold parseMag
    rw [if_neg (by simp), p]
    simp only
    rw [if_neg (by omega), if_neg (by omega), if_neg (by omega)]
/-- Whether the library reads a text as a whole number of a token in its one form. -/
def wholeI (l : List UInt8) : Bool := match atoiAll l with
  | .ok v => decide (itoa v = l ∧ 0 ≤ v ∧ v ≤ 2147483647)
  | _ => false
theorem wholeI_iff (l : List UInt8) : wholeI l = true ↔ Canon l ∧ valF 0 l ≤ 2147483647 := by
  constructor
  · intro h
    unfold wholeI at h
    split at h
    · rename_i v hv
      simp only [decide_eq_true_eq] at h
      obtain ⟨h1, h2, h3⟩ := h
      obtain ⟨u, rfl⟩ := Int.eq_ofNat_of_zero_le h2
      rw [itoa_nonneg] at h1
      have := dec_canon u
      rw [h1] at this
      exact ⟨this.1, by omega⟩
    · cases h
  · intro ⟨c, b⟩
    unfold wholeI
    rw [atoi_canon l c.1 c.2.1 (by omega)]
    simp only [decide_eq_true_eq]
    rw [itoa_nonneg]
    exact ⟨canon_dec _ l rfl c, by omega, by omega⟩
def leB (a b : List UInt8) : Bool := Op.bytesLess a b || a == b
theorem leB_iff : ∀ (a b : List UInt8), a.length = b.length → (∀ x ∈ a, isDig x = true) → (∀ x ∈ b, isDig x = true) → (leB a b = true ↔ valF 0 a ≤ valF 0 b)
  | [], [], _, _, _ => by simp [leB, valF_nil]
  | [], _ :: _, h, _, _ => by simp at h
  | _ :: _, [], h, _, _ => by simp at h
  | c :: x, d :: y, h, ha, hb => by
    have hx := fun z hz => ha z (List.mem_cons_of_mem _ hz)
    have hy := fun z hz => hb z (List.mem_cons_of_mem _ hz)
    have hl : x.length = y.length := by simpa using h
    have ih := leB_iff x y hl hx hy
    have hc := (dig_iff c).1 (ha c (by simp))
    have hd := (dig_iff d).1 (hb d (by simp))
    have vx := valF_lt x hx
    have vy := valF_lt y hy
    simp only [valF_cons]
    rw [valF_split x, valF_split y, hl]
    rw [hl] at vx
    have lt : c < d ↔ c.toNat < d.toNat := UInt8.lt_iff_toNat_lt
    have eq : c = d ↔ c.toNat = d.toNat := UInt8.toNat_inj.symm
    have p : 0 < 10 ^ y.length := Nat.pow_pos (by decide)
    generalize 10 ^ y.length = P at *
    rcases Nat.lt_trichotomy c.toNat d.toNat with g | g | g
    · have : c < d := lt.2 g
      have m : (0 * 10 + (c.toNat - 48) + 1) * P ≤ (0 * 10 + (d.toNat - 48)) * P := Nat.mul_le_mul_right _ (by omega)
      rw [Nat.add_mul] at m
      simp [leB, Op.bytesLess, this]
      simp only [Nat.zero_mul, Nat.zero_add] at m
      omega
    · have e : c = d := eq.2 g
      subst e
      unfold leB at ih ⊢
      have nl : ¬ c < c := by rw [lt]; omega
      simp only [Op.bytesLess, nl, decide_false, Bool.false_or, beq_self_eq_true, Bool.true_and]
      rw [show ((c :: x) == (c :: y)) = (x == y) by simp]
      rw [ih]
      omega
    · have n1 : ¬ c < d := by rw [lt]; omega
      have n2 : ¬ c = d := by rw [eq]; omega
      have m : (0 * 10 + (d.toNat - 48) + 1) * P ≤ (0 * 10 + (c.toNat - 48)) * P := Nat.mul_le_mul_right _ (by omega)
      rw [Nat.add_mul] at m
      simp [leB, Op.bytesLess, n1, n2]
      simp only [Nat.zero_mul, Nat.zero_add] at m
      omega
def max10 : List UInt8 := [50, 49, 52, 55, 52, 56, 51, 54, 52, 55]
/-- The model's question of a whole number. -/
def wholeS (l : List UInt8) : Bool := decide (1 ≤ l.length ∧ l.length ≤ 10 ∧ (1 < l.length → l.head? ≠ some 48) ∧ dlen l = l.length) && (decide (l.length < 10) || leB l max10)
theorem wholeS_iff (l : List UInt8) : wholeS l = true ↔ Canon l ∧ valF 0 l ≤ 2147483647 := by
  unfold wholeS
  rw [Bool.and_eq_true, decide_eq_true_eq, Bool.or_eq_true, decide_eq_true_eq, dlen_all]
  have mx : valF 0 max10 = 2147483647 := by decide
  constructor
  · intro ⟨⟨a, b, c, d⟩, e⟩
    refine ⟨⟨by intro h; simp [h] at a, d, c⟩, ?_⟩
    rcases e with e | e
    · have := valF_lt l d
      have q : 10 ^ l.length ≤ 10 ^ 9 := Nat.pow_le_pow_right (by decide) (by omega)
      omega
    · by_cases g : l.length = 10
      · have := (leB_iff l max10 g d (by decide)).1 e
        omega
      · have := valF_lt l d
        have q : 10 ^ l.length ≤ 10 ^ 9 := Nat.pow_le_pow_right (by decide) (by omega)
        omega
  · intro ⟨⟨a, b, c⟩, e⟩
    have l1 : 1 ≤ l.length := by
      cases l with
      | nil => exact absurd rfl a
      | cons x y => simp
    have l10 : l.length ≤ 10 := by
      cases l with
      | nil => exact absurd rfl a
      | cons x y =>
        simp only [List.length_cons]
        apply Nat.le_of_not_lt
        intro g
        have n : x ≠ 48 := fun h => c (by simp only [List.length_cons]; omega) (by simp [h])
        have := head_pos x y (b x (by simp)) n
        have q : 10 ^ 10 ≤ 10 ^ y.length := Nat.pow_le_pow_right (by decide) (by omega)
        omega
    refine ⟨⟨l1, l10, c, b⟩, ?_⟩
    by_cases g : l.length < 10
    · exact Or.inl g
    · exact Or.inr ((leB_iff l max10 (by simp [max10]; omega) b (by decide)).2 (by omega))
theorem whole_both (l : List UInt8) : wholeI l = wholeS l := by
  rw [Bool.eq_iff_iff, wholeI_iff, wholeS_iff]
end Go.Proofs.YtpildklndfgojaaDoor.Tk
