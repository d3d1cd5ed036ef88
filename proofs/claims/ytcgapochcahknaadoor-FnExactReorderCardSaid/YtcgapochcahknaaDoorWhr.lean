/- The program's where: the numbers for which something holds, and the three things that it is asked with. -/
import Derived.Test.YtcgapochcahknaaDoorArr
import Derived.Test.YtcgapochcahknaaDoorRop
import Derived.Test.YtcgapochcahknaaDoorSml
import Derived.Test.YtcgapochcahknaaDoorSm2
namespace Go.Proofs.YtcgapochcahknaaDoor
open Go.ChangeShapes Go.WideShapes Go.ChangeAt Go.RowKit
set_option linter.unusedVariables false
/-- The numbers below k for which Z holds. -/
def whL (Z : Nat → Bool) : Nat → List Int
  | 0 => []
  | k + 1 => whL Z k ++ (if Z k then [(k : Int)] else [])
theorem whL_mem (Z : Nat → Bool) (t : Int) : ∀ n, t ∈ whL Z n ↔ 0 ≤ t ∧ t < n ∧ Z t.toNat = true
  | 0 => by simp [whL]; omega
  | n + 1 => by
    rw [whL, List.mem_append, whL_mem Z t n]
    cases hz : Z n
    · simp only [Bool.false_eq_true, if_false, List.not_mem_nil, or_false]
      constructor
      · rintro ⟨h1, h2, h3⟩; exact ⟨h1, by omega, h3⟩
      · rintro ⟨h1, h2, h3⟩
        refine ⟨h1, ?_, h3⟩
        by_cases e : t = n
        · subst e; simp [hz] at h3
        · omega
    · simp
      constructor
      · rintro (⟨h1, h2, h3⟩ | rfl)
        · exact ⟨h1, by omega, h3⟩
        · exact ⟨by omega, by omega, by simpa using hz⟩
      · rintro ⟨h1, h2, h3⟩
        by_cases e : t = n
        · exact Or.inr e
        · exact Or.inl ⟨h1, by omega, h3⟩
theorem whL_len (Z : Nat → Bool) : ∀ n, (whL Z n).length ≤ n
  | 0 => by simp [whL]
  | n + 1 => by
    have := whL_len Z n
    rw [whL, List.length_append]
    split <;> simp <;> omega
theorem Ri.own {B : Nat} {w : World} {v : Value} {L : List Int} (h : Ri B w v L) : IOwn B w v L := by
  rcases h.1.2 with ⟨hv, h0⟩ | ⟨g, cap, cur, hv, hb, hg, h1, _⟩
  · exact Or.inl ⟨List.eq_nil_of_length_eq_zero h0, hv⟩
  · refine Or.inr ⟨g, cap, hv, h1, hb, ?_⟩
    have h2 := h.1
    rw [hv] at h2
    exact own_owned h2 _ fun i hi => by simp [il, List.getD, hi]
set_option maxRecDepth 100000 in
set_option maxHeartbeats 2000000 in
theorem writes85 (o : Int) (w : World) : Calls Tryd.prog 97 #[.int .i64 o] w fun e w' => e = .returned (.bool (nmd o 0)) ∧ Below w.heap.size w w' := by
  have h := fields37 o w
  have hx := ixb0
  go_enter Tryd.func97, Tryd.ntmps97
  go_wp2_with (go_at_call 99; refine h.mono ?_; rintro e w1 ⟨rfl, B1⟩)
  go_ret
  exact ⟨rfl, B1⟩
end Go.Proofs.YtcgapochcahknaaDoor
