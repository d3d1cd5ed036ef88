/- The program's DropUnreached: what the model answers. -/
import Derived.Test.YtcgapochcahknaaDoorWth
import Derived.Test.YtcgapochcahknaaDoorWhr
import Derived.Test.YtcgapochcahknaaDoorRcp
import Derived.Test.YtcgapochcahknaaDoorDru
namespace Go.Proofs.YtcgapochcahknaaDoor
open Go.ChangeShapes Go.WideShapes Go.ChangeAt Go.RowKit
set_option linter.unusedVariables false
theorem cntF_ext {Z Y : Nat → Bool} : ∀ m, (∀ i, i < m → Z i = Y i) → cntF Z m = cntF Y m
  | 0, _ => rfl
  | m + 1, h => by rw [cntF, cntF, cntF_ext m (fun i hi => h i (by omega)), h m (by omega)]
theorem keepL_ext {Z Y : Nat → Bool} : ∀ m, (∀ i, i < m → Z i = Y i) → keepL Z m = keepL Y m
  | 0, _ => rfl
  | m + 1, h => by rw [keepL, keepL, keepL_ext m (fun i hi => h i (by omega)), h m (by omega)]
theorem kpI_ext {Z Y : Nat → Bool} {n : Nat} (h : ∀ i, i < n → Z i = Y i) (i : Nat) : kpI Z n i = kpI Y n i := by unfold kpI; rw [keepL_ext n h]
theorem takB_ext {Z Y : Nat → Bool} {n : Nat} (O : Nat → Int) (h : ∀ i, i < n → Z i = Y i) : takB O Z n = takB O Y n := by
  unfold takB
  rw [cntF_ext n h, kpI_ext h]
theorem tkN_ext {Z Y : Nat → Bool} {n : Nat} (O : Nat → Int) (h : ∀ i, i < n → Z i = Y i) : tkN O Z n = tkN O Y n := by
  unfold tkN
  rw [takB_ext O h, cntF_ext n h]
theorem tkP_ext {Z Y : Nat → Bool} {n : Nat} (O : Nat → Int) (h : ∀ i, i < n → Z i = Y i) (i : Nat) : tkP O Z n i = tkP O Y n i := by
  unfold tkP
  rw [takB_ext O h, kpI_ext h]
theorem tkP_lt {Z : Nat → Bool} {n : Nat} (O : Nat → Int) (i : Nat) (hi : i < tkN O Z n) : tkP O Z n i < n := by
  unfold tkN at hi
  unfold tkP
  split at hi
  · rw [if_pos (by assumption)]; exact kpI_lt Z n i hi
  · rw [if_neg (by assumption)]; exact hi
theorem tkT_ext {Z Y : Nat → Bool} {n : Nat} (O : Nat → Int) (h : ∀ i, i < n → Z i = Y i) (b : Bool) (t : Int) (ht : b = true → 0 ≤ t ∧ t < n) : tkT O Z n b t = tkT O Y n b t := by
  unfold tkT
  rw [takB_ext O h]
  cases hb : b
  · rw [Bool.and_false, if_neg (by simp), if_neg (by simp)]
  · have := ht hb
    unfold numT
    rw [cntF_ext n h, cntF_ext t.toNat (fun i hi => h i (by omega))]
theorem tkr_ext {w : World} {v : Value} {O D A B C X : Nat → Int} {Z Y : Nat → Bool} {n : Nat} (T : TkR w v O D A B C X Z n) (h : ∀ i, i < n → Z i = Y i) (hT : Tgs O A B C n) : TkR w v O D A B C X Y n := by
  obtain ⟨g, c, hv, R⟩ := T
  rw [tkN_ext O h] at hv R
  refine ⟨g, c, hv, R.mono (Nat.le_refl _) (fun i hi => by show O _ = O _; rw [tkP_ext O h]) (fun i hi => by show D _ = D _; rw [tkP_ext O h]) (fun i hi => ?_) (fun i hi => ?_) (fun i hi => ?_) (fun i hi => by show X _ = X _; rw [tkP_ext O h])⟩
  · have hl := tkP_lt O i hi
    unfold tkA
    rw [tkP_ext O h]
    exact (tkT_ext O h _ _ (fun hb => (hT _ hl).1 (by simpa using hb))).symm
  · have hl := tkP_lt O i hi
    unfold tkB
    rw [tkP_ext O h]
    exact (tkT_ext O h _ _ (fun hb => ((hT _ hl).2 (by simpa using hb)).1)).symm
  · have hl := tkP_lt O i hi
    unfold tkB
    rw [tkP_ext O h]
    exact (tkT_ext O h _ _ (fun hb => ((hT _ hl).2 (by simpa using hb)).2)).symm
theorem mem_whL (Z : Nat → Bool) (n i : Nat) (hi : i < n) : memB (whL Z n) i = Z i := by
  unfold memB
  cases h : Z i
  · exact decide_eq_false (fun m => by have := ((whL_mem Z (i : Int) n).1 m).2.2; simp [h] at this)
  · exact decide_eq_true ((whL_mem Z (i : Int) n).2 ⟨by omega, by omega, by simpa using h⟩)
theorem IOwn.next {B : Nat} {w w' : World} {v : Value} {L : List Int} (h : IOwn B w v L) (b : Below w.heap.size w w') : IOwn B w' v L := by
  rcases h with h | ⟨g, c, h1, h2, h3, h4⟩
  · exact Or.inl h
  · exact Or.inr ⟨g, c, h1, h2, h3, h4.next b⟩
end Go.Proofs.YtcgapochcahknaaDoor
