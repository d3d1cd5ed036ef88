/- Floats in texts, as lists of bytes: a whole number, a point, digits; cut by the library and gone through by the model alike. No Go text is spoken of here. -/
import Derived.Test.YtpildklndfgojaaDoorNum
import Derived.Lib.IndexMore
import Derived.Lib.SlTrimSet
namespace Go.Proofs.YtpildklndfgojaaDoor.Tk
open Go Go.Lib
set_option linter.unusedVariables false
def digits10 : List UInt8 := [48, 49, 50, 51, 52, 53, 54, 55, 56, 57]
theorem digits_fin : ∀ n : Fin 256, digits10.contains (UInt8.ofNat n.val) = isDig (UInt8.ofNat n.val) := by decide +kernel
theorem digits_has (b : UInt8) : digits10.contains b = isDig b := by
  have := digits_fin ⟨b.toNat, b.toNat_lt⟩
  simpa using this
theorem trim_digits : ∀ l : List UInt8, trimLeftS l digits10 = l.drop (dlen l)
  | [] => rfl
  | b :: r => by
    have ih := trim_digits r
    unfold trimLeftS at ih ⊢
    rw [List.dropWhile_cons]
    simp only [digits_has, dlen]
    by_cases h : isDig b = true
    · rw [if_pos h, if_pos h, List.drop_succ_cons, ← ih]
      congr 1
      funext x
      exact (digits_has x).symm
    · rw [if_neg h, if_neg h]; rfl
theorem index46 : ∀ l : List UInt8, (index l [46] = -1 ∧ ¬ 46 ∈ l) ∨ ∃ a b, l = a ++ 46 :: b ∧ ¬ 46 ∈ a ∧ index l [46] = (a.length : Int)
  | [] => Or.inl ⟨rfl, by simp⟩
  | c :: r => by
    by_cases h : c = 46
    · subst h
      exact Or.inr ⟨[], r, rfl, by simp, by simp [index, List.isPrefixOf]⟩
    · have hp : ([46].isPrefixOf (c :: r)) = false := by
        simp only [List.isPrefixOf, Bool.and_true]
        simpa using fun e => h e.symm
      rcases index46 r with ⟨h1, h2⟩ | ⟨a, b, rfl, h2, h3⟩
      · left
        refine ⟨?_, ?_⟩
        · rw [index, hp, h1]; simp
        · simp only [List.mem_cons, not_or]; exact ⟨fun e => h e.symm, h2⟩
      · right
        refine ⟨c :: a, b, rfl, ?_, ?_⟩
        · simp only [List.mem_cons, not_or]; exact ⟨fun e => h e.symm, h2⟩
        · rw [index, hp, h3]
          have n1 : ¬ ((a.length : Int) = -1) := by omega
          simp [n1]
theorem cut46 (l : List UInt8) : (cut l [46] = (l, [], false) ∧ ¬ 46 ∈ l) ∨ ∃ a b, l = a ++ 46 :: b ∧ ¬ 46 ∈ a ∧ cut l [46] = (a, b, true) := by
  rcases index46 l with ⟨h1, h2⟩ | ⟨a, b, rfl, h2, h3⟩
  · left
    unfold cut
    rw [h1, if_neg (by decide)]
    exact ⟨rfl, h2⟩
  · right
    refine ⟨a, b, rfl, h2, ?_⟩
    unfold cut
    rw [h3, if_pos (by omega)]
    simp
def cutA (l : List UInt8) : List UInt8 := (cut l [46]).1
def cutB (l : List UInt8) : List UInt8 := (cut l [46]).2.1
/-- The program's question of a float. -/
def floatI (l : List UInt8) : Bool := !decide (9 < (cutA l).length ∨ 9 < (cutB l).length) && (wholeI (cutA l) && (!decide (cutB l = []) && decide (dlen (cutB l) = (cutB l).length)))
def FloatP (l : List UInt8) : Prop := ∃ a b, l = a ++ 46 :: b ∧ Canon a ∧ a.length ≤ 9 ∧ b ≠ [] ∧ b.length ≤ 9 ∧ ∀ x ∈ b, isDig x = true
theorem no46 (a : List UInt8) (h : ∀ x ∈ a, isDig x = true) : ¬ 46 ∈ a := fun m => by
  have := (dig_iff 46).1 (h 46 m)
  have e : (46 : UInt8).toNat = 46 := rfl
  omega
theorem cut_at (a b : List UInt8) (h : ¬ 46 ∈ a) : cutA (a ++ 46 :: b) = a ∧ cutB (a ++ 46 :: b) = b := by
  rcases cut46 (a ++ 46 :: b) with ⟨_, n⟩ | ⟨a', b', e, n, c⟩
  · exact absurd (by simp) n
  · have : a = a' ∧ b = b' := by
      clear c
      induction a generalizing a' with
      | nil =>
        cases a' with
        | nil => simpa using e
        | cons x y =>
          simp only [List.nil_append, List.cons_append, List.cons.injEq] at e
          exact absurd (by simp [e.1]) n
      | cons x y ih =>
        cases a' with
        | nil =>
          simp only [List.nil_append, List.cons_append, List.cons.injEq] at e
          exact absurd (by simp [e.1]) h
        | cons x' y' =>
          simp only [List.cons_append, List.cons.injEq] at e
          obtain ⟨q1, q2⟩ := ih (fun m => h (by simp [m])) y' e.2 (fun m => n (by simp [m]))
          exact ⟨by rw [e.1, q1], q2⟩
    unfold cutA cutB
    rw [c]
    exact ⟨this.1.symm, this.2.symm⟩
theorem floatI_iff (l : List UInt8) : floatI l = true ↔ FloatP l := by
  constructor
  · intro h
    unfold floatI at h
    simp only [Bool.and_eq_true, Bool.not_eq_true', decide_eq_false_iff_not, decide_eq_true_eq] at h
    obtain ⟨h1, h2, h3, h4⟩ := h
    have hw := (wholeI_iff _).1 h2
    rcases cut46 l with ⟨c, n⟩ | ⟨a, b, rfl, n, c⟩
    · unfold cutB at h3; rw [c] at h3; exact absurd rfl h3
    · obtain ⟨e1, e2⟩ := cut_at a b n
      rw [e1] at h1 hw
      rw [e2] at h1 h3 h4
      exact ⟨a, b, rfl, hw.1, by omega, h3, by omega, (dlen_all b).1 h4⟩
  · rintro ⟨a, b, rfl, ca, la, nb, lb, db⟩
    obtain ⟨e1, e2⟩ := cut_at a b (no46 a ca.2.1)
    unfold floatI
    rw [e1, e2]
    have v := valF_lt a ca.2.1
    have q : 10 ^ a.length ≤ 10 ^ 9 := Nat.pow_le_pow_right (by decide) la
    have hw := (wholeI_iff a).2 ⟨ca, by omega⟩
    simp only [Bool.and_eq_true, Bool.not_eq_true', decide_eq_false_iff_not, decide_eq_true_eq]
    exact ⟨by omega, hw, nb, (dlen_all b).2 db⟩
/-- The model's question of a float. -/
def floatS (l : List UInt8) : Bool := decide (1 ≤ dlen l ∧ dlen l ≤ 9 ∧ (1 < dlen l → l.head? ≠ some 48) ∧ dlen l < l.length ∧ l[dlen l]? = some 46) && decide (1 ≤ l.length - dlen l - 1 ∧ l.length - dlen l - 1 ≤ 9 ∧ dlen l + 1 + dlen (l.drop (dlen l + 1)) = l.length)
theorem dlen_app : ∀ (a b : List UInt8), (∀ x ∈ a, isDig x = true) → dlen (a ++ 46 :: b) = a.length
  | [], b, _ => by
    have : isDig 46 = false := by decide
    simp [dlen, this]
  | c :: r, b, h => by
    have hc := h c (by simp)
    simp only [List.cons_append, dlen, List.length_cons]
    rw [if_pos hc, dlen_app r b (fun x hx => h x (by simp [hx]))]
theorem dlen_take : ∀ l : List UInt8, ∀ x ∈ l.take (dlen l), isDig x = true
  | [] => by simp
  | b :: r => by
    have ih := dlen_take r
    simp only [dlen]
    by_cases h : isDig b = true
    · rw [if_pos h, List.take_succ_cons]
      intro x hx
      simp only [List.mem_cons] at hx
      rcases hx with rfl | hx
      · exact h
      · exact ih x hx
    · rw [if_neg h]; simp
theorem floatS_iff (l : List UInt8) : floatS l = true ↔ FloatP l := by
  unfold floatS
  rw [Bool.and_eq_true, decide_eq_true_eq, decide_eq_true_eq]
  constructor
  · intro ⟨⟨k1, k9, hz, kl, hp⟩, m1, m9, hd⟩
    obtain ⟨k, hk⟩ : ∃ k, dlen l = k := ⟨_, rfl⟩
    have ht := dlen_take l
    rw [hk] at k1 k9 hz kl hp m1 m9 hd ht
    have e : l = l.take k ++ 46 :: l.drop (k + 1) := by
      have h1 : l.drop k = 46 :: l.drop (k + 1) := by
        rw [List.drop_eq_getElem_cons kl]
        congr 1
        rw [List.getElem?_eq_getElem kl] at hp
        exact Option.some.inj hp
      rw [← h1, List.take_append_drop]
    have lt : (l.take k).length = k := by rw [List.length_take]; omega
    refine ⟨l.take k, l.drop (k + 1), e, ⟨?_, ht, ?_⟩, by omega, ?_, by rw [List.length_drop]; omega, ?_⟩
    · intro h; rw [h] at lt; simp at lt; omega
    · intro h
      rw [lt] at h
      have := hz h
      rw [List.head?_take]
      rw [if_neg (by omega)]
      exact this
    · intro h; have := congrArg List.length h; rw [List.length_drop] at this; simp at this; omega
    · rw [← dlen_all, List.length_drop]; omega
  · rintro ⟨a, b, rfl, ⟨a0, a1, a2⟩, la, nb, lb, db⟩
    have hd := dlen_app a b a1
    have l1 : 1 ≤ a.length := by
      cases a with
      | nil => exact absurd rfl a0
      | cons x y => simp
    have b1 : 1 ≤ b.length := by
      cases b with
      | nil => exact absurd rfl nb
      | cons x y => simp
    rw [hd]
    have tot : (a ++ 46 :: b).length = a.length + 1 + b.length := by simp; omega
    refine ⟨⟨l1, la, ?_, by omega, ?_⟩, by omega, by omega, ?_⟩
    · intro h
      have := a2 h
      cases a with
      | nil => exact absurd rfl a0
      | cons x y => simpa using this
    · simp
    · rw [tot, show (a ++ 46 :: b).drop (a.length + 1) = b by simp [List.drop_append], (dlen_all b).2 db]
theorem float_both (l : List UInt8) : floatI l = floatS l := by
  rw [Bool.eq_iff_iff, floatI_iff, floatS_iff]
end Go.Proofs.YtpildklndfgojaaDoor.Tk
