/- Contract of the model's l1Cmp: of two numbers from 0 on, and of any number and 0, by what they stand for. -/
import Derived.Test.YtamoakodlmjbiaaDoorLimbs24
namespace Go.Proofs.YtamoakodlmjbiaaDoor
open Go.ChangeShapes Go.WideShapes Go.ChangeAt Go.RowKit
theorem pos_sign {N : Int} {ng : Bool} {v : Nat} (h : N = sg ng v) (hN : 0 < N) : ng = false ∧ N = (v : Int) := by
  cases ng
  · exact ⟨rfl, h⟩
  · rw [h] at hN; simp [sg] at hN; omega
theorem num_cmp {w : World} {K L : Nat} {a b : Value} {A B : Int} (HA : Num w K a A) (HB : Num w L b B) (hK : 2 ≤ K) (hL : 2 ≤ L) (a0 : 0 ≤ A) (b0 : 0 ≤ B) :
    Calls Tryd.prog 92 #[a, b] w fun r w' => r = .returned (.int .i64 (cmpZ A B)) ∧ Below w.heap.size w w' := by
  have HA' := HA
  have HB' := HB
  rcases HA with ⟨rfl, _, _⟩ | ⟨ngA, bA, tA, cA, fA, rfl, t3A, tKA, tcA, t1A, hfA, hlA, f9A, topA, hNA⟩
  · rcases HB with ⟨rfl, _, _⟩ | ⟨neg, b', t, cb, f, rfl, t3, tK, tc, t1, hf, hl, f9, top, hN⟩
    · exact zCmp A B w
    · have big := val_top f t t3 top
      have hB : 0 < B := by
        rcases Int.lt_or_eq_of_le b0 with h | h
        · exact h
        · rw [← h] at hN; cases neg <;> simp [sg] at hN <;> omega
      obtain ⟨hn, hv⟩ := pos_sign hN hB
      subst hn
      have RB := rep_great false b' t cb f w (by omega) t1 hf hl f9
      by_cases hA : A = 0
      · subst hA
        have e : cmpZ 0 B = -1 := by unfold cmpZ; rw [if_pos hB]
        rw [e]
        exact rCmp_ZG t f 0 false _ t cb w RB (by omega)
      · obtain ⟨sm, ng, n, x, va, ga, pa, ta, ca, hz, R, nK, n0, tx, eN, SS⟩ := HA'.rep2 hK hA
        obtain ⟨hn, hv2⟩ := pos_sign eN (by omega)
        subst hn
        rw [hz] at R ⊢
        rw [hv, hv2]
        cases sm
        · exact rCmp_G false n x va ga pa ta ca t f 0 false _ t cb w R RB tx top
        · exact rCmp_S n x va ga pa ta ca t f 0 false _ t cb w R RB tx top
  · have big := val_top fA tA t3A topA
    have hA : 0 < A := by
      rcases Int.lt_or_eq_of_le a0 with h | h
      · exact h
      · rw [← h] at hNA; cases ngA <;> simp [sg] at hNA <;> omega
    obtain ⟨hn, hv⟩ := pos_sign hNA hA
    subst hn
    have RA := rep_great false bA tA cA fA w (by omega) t1A hfA hlA f9A
    by_cases hB : B = 0
    · subst hB
      rw [HB'.zero]
      have e : cmpZ A 0 = 1 := by unfold cmpZ; rw [if_neg (by omega), if_pos hA]
      rw [e]
      exact rCmp_GZp tA fA 0 false _ tA cA w RA (by omega)
    · obtain ⟨sm, ng, n, x, va, ga, pa, ta, ca, hz, R, nK, n0, tx, eN, SS⟩ := HB'.rep2 hL hB
      obtain ⟨hn, hv2⟩ := pos_sign eN (by omega)
      subst hn
      subst hz
      rw [hv, hv2]
      exact rCmp_G sm tA fA 0 false _ tA cA n x va ga pa ta ca w RA R topA tx
theorem num_cmp0 {w : World} {K : Nat} {a : Value} {A : Int} (HA : Num w K a A) :
    Calls Tryd.prog 92 #[a, zS 0] w fun r w' => r = .returned (.int .i64 (cmpZ A 0)) ∧ Below w.heap.size w w' := by
  rcases HA with ⟨rfl, _, _⟩ | ⟨ngA, bA, tA, cA, fA, rfl, t3A, tKA, tcA, t1A, hfA, hlA, f9A, topA, hNA⟩
  · exact zCmp A 0 w
  · have big := val_top fA tA t3A topA
    cases ngA
    · have e : cmpZ A 0 = 1 := by unfold cmpZ; rw [hNA, sg_false, if_neg (by omega), if_pos (by omega)]
      rw [e]
      exact rCmp_GZp tA fA 0 false _ tA cA w (rep_great false bA tA cA fA w (by omega) t1A hfA hlA f9A) (by omega)
    · have e : cmpZ A 0 = -1 := by unfold cmpZ; rw [hNA, sg_true, if_pos (by omega)]
      rw [e]
      exact rCmp_GZn tA fA 0 true _ tA cA w (rep_great true bA tA cA fA w (by omega) t1A hfA hlA f9A) (by omega)
end Go.Proofs.YtamoakodlmjbiaaDoor
