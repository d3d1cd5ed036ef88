/- What is reached in code, told without a program. -/
import Derived.Test.YtcgapochcahknaaDoorRds
namespace Go.Proofs.YtcgapochcahknaaDoor
open Go.ChangeShapes Go.WideShapes Go.ChangeAt Go.RowKit
set_option linter.unusedVariables false
/-- The numbers to which an instruction may go but the next one. -/
def tgL (o a b c : Int) : List Int := if o = 8 then [a] else if o = 9 then [b, c] else []
theorem cell_nx {v v' : World} {p : Addr} {u : Value} (h : v.cell? p = some u) (k : Below v.heap.size v v') : v'.cell? p = some u := (k.cell (World.block_lt_of_cell? _ p h)).trans h
/-- Where an instruction leads. -/
def sucL (o a b c : Int) (k : Nat) : List Int := tgL o a b c ++ (if o = 8 ∨ o = 11 then [] else [((k + 1 : Nat) : Int)])
inductive Rch (O A B C : Nat → Int) (n : Nat) : Nat → Prop
  | zero (h : 0 < n) : Rch O A B C n 0
  | step (k m : Nat) (h : Rch O A B C n k) (hs : (m : Int) ∈ sucL (O k) (A k) (B k) (C k) k) (hm : m < n) : Rch O A B C n m
theorem Rch.lt {O A B C : Nat → Int} {n k : Nat} (h : Rch O A B C n k) : k < n := by
  cases h <;> assumption
/-- What holds while what is reached is looked for: S is seen, L is still to do. -/
structure RS (O A B C : Nat → Int) (n : Nat) (S : Nat → Bool) (L : List Int) : Prop where
  sound : ∀ k, k < n → S k = true → Rch O A B C n k
  todo : ∀ t, t ∈ L → 0 ≤ t ∧ (t < n → Rch O A B C n t.toNat)
  closed : ∀ k, k < n → S k = true → ∀ t, t ∈ sucL (O k) (A k) (B k) (C k) k → t < n → S t.toNat = true ∨ t ∈ L
  start : S 0 = true ∨ 0 ∈ L
def putB (S : Nat → Bool) (k : Nat) : Nat → Bool := fun i => if i = k then true else S i
theorem rs_begin (O A B C : Nat → Int) (n : Nat) (h : 0 < n) : RS O A B C n (fun _ => false) [0] :=
  ⟨fun k _ h => (by cases h), fun t ht => (by simp at ht; subst ht; exact ⟨by omega, fun _ => Rch.zero h⟩), fun k _ h => (by cases h), Or.inr (by simp)⟩
theorem rs_skip {O A B C : Nat → Int} {n : Nat} {S : Nat → Bool} {L : List Int} {t : Int} (h : RS O A B C n S (L ++ [t])) (ht : (n : Int) ≤ t ∨ S t.toNat = true) (hn : 0 < n) : RS O A B C n S L := by
  refine ⟨h.sound, fun u hu => h.todo u (by simp [hu]), fun k hk hs u hu hun => ?_, ?_⟩
  · rcases h.closed k hk hs u hu hun with h1 | h1
    · exact Or.inl h1
    · rcases List.mem_append.1 h1 with h2 | h2
      · exact Or.inr h2
      · have : u = t := by simpa using h2
        subst this
        rcases ht with h3 | h3
        · omega
        · exact Or.inl h3
  · rcases h.start with h1 | h1
    · exact Or.inl h1
    · rcases List.mem_append.1 h1 with h2 | h2
      · exact Or.inr h2
      · have : 0 = t := by simpa using h2
        subst this
        rcases ht with h3 | h3
        · omega
        · exact Or.inl h3
theorem rs_take {O A B C : Nat → Int} {n : Nat} {S : Nat → Bool} {L : List Int} {k : Nat} (h : RS O A B C n S (L ++ [(k : Int)])) (hk : k < n) (hb : ∀ t, t ∈ sucL (O k) (A k) (B k) (C k) k → 0 ≤ t) : RS O A B C n (putB S k) (L ++ sucL (O k) (A k) (B k) (C k) k) := by
  have rk : Rch O A B C n k := by
    have := (h.todo (k : Int) (by simp)).2 (by omega)
    simpa using this
  refine ⟨fun i hi hs => ?_, fun t ht => ?_, fun i hi hs t ht htn => ?_, ?_⟩
  · unfold putB at hs
    by_cases e : i = k
    · subst e; exact rk
    · rw [if_neg e] at hs; exact h.sound i hi hs
  · rcases List.mem_append.1 ht with h1 | h1
    · exact h.todo t (by simp [h1])
    · have h0 := hb t h1
      refine ⟨h0, fun htn => ?_⟩
      exact Rch.step k t.toNat rk (by rw [Int.toNat_of_nonneg h0]; exact h1) (by omega)
  · unfold putB at hs ⊢
    by_cases e : i = k
    · subst e
      exact Or.inr (List.mem_append.2 (Or.inr ht))
    · rw [if_neg e] at hs
      rcases h.closed i hi hs t ht htn with h1 | h1
      · left
        by_cases e2 : t.toNat = k
        · rw [if_pos e2]
        · rw [if_neg e2]; exact h1
      · rcases List.mem_append.1 h1 with h2 | h2
        · exact Or.inr (List.mem_append.2 (Or.inl h2))
        · have : t = (k : Int) := by simpa using h2
          left
          rw [if_pos (by omega)]
  · unfold putB
    rcases h.start with h1 | h1
    · left
      by_cases e : 0 = k
      · rw [if_pos e]
      · rw [if_neg e]; exact h1
    · rcases List.mem_append.1 h1 with h2 | h2
      · exact Or.inr (List.mem_append.2 (Or.inl h2))
      · have : (0 : Int) = (k : Int) := by simpa using h2
        left
        rw [if_pos (by omega)]
theorem rs_end {O A B C : Nat → Int} {n : Nat} {S : Nat → Bool} (h : RS O A B C n S []) (k : Nat) (hk : k < n) : S k = true ↔ Rch O A B C n k := by
  refine ⟨h.sound k hk, fun r => ?_⟩
  induction r with
  | zero h0 =>
    rcases h.start with h1 | h1
    · exact h1
    · cases h1
  | step i m hr hs hm ih =>
    rcases h.closed i hr.lt (ih hr.lt) (m : Int) hs (by omega) with h1 | h1
    · simpa using h1
    · cases h1
/-- What ReachedOf says of an instruction. -/
noncomputable def rchB (O A B C : Nat → Int) (n k : Nat) : Bool := @decide (Rch O A B C n k) (Classical.propDecidable _)
theorem rs_rch {O A B C : Nat → Int} {n : Nat} {S : Nat → Bool} (h : RS O A B C n S []) (k : Nat) (hk : k < n) : S k = rchB O A B C n k := by
  have he := rs_end h k hk
  by_cases r : Rch O A B C n k
  · rw [he.2 r]; unfold rchB; exact (@decide_eq_true _ (Classical.propDecidable _) r).symm
  · have : rchB O A B C n k = false := by unfold rchB; exact @decide_eq_false _ (Classical.propDecidable _) r
    rw [this]
    cases hs : S k
    · rfl
    · exact absurd (he.1 hs) r
/-- How many are not seen. -/
def cntF (S : Nat → Bool) : Nat → Nat
  | 0 => 0
  | n + 1 => cntF S n + (if S n then 0 else 1)
theorem cnt_put (S : Nat → Bool) (k : Nat) (h : S k = false) : ∀ n, k < n → cntF (putB S k) n + 1 = cntF S n
  | 0, hn => by omega
  | n + 1, hn => by
    rw [cntF, cntF]
    by_cases e : k = n
    · subst e
      have same : ∀ m, m ≤ k → cntF (putB S k) m = cntF S m := by
        intro m hm
        induction m with
        | zero => rfl
        | succ m ih =>
          rw [cntF, cntF, ih (by omega)]
          have : putB S k m = S m := by unfold putB; rw [if_neg (by omega)]
          rw [this]
      rw [same k (Nat.le_refl _), h]
      have : putB S k k = true := by unfold putB; rw [if_pos rfl]
      rw [this]
      simp
    · have ih := cnt_put S k h n (by omega)
      have : putB S k n = S n := by unfold putB; rw [if_neg (by omega)]
      rw [this]
      omega
theorem sucL_len (o a b c : Int) (k : Nat) : (sucL o a b c k).length ≤ 3 := by
  unfold sucL tgL
  repeat' split
  all_goals simp
end Go.Proofs.YtcgapochcahknaaDoor
