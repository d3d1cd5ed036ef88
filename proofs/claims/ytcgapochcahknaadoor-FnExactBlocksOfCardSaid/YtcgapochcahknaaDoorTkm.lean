/- The model's l12Take. -/
import Derived.Test.YtcgapochcahknaaDoorCpm
import Derived.Test.YtcgapochcahknaaDoorBgm
namespace Go.Proofs.YtcgapochcahknaaDoor
open Go.ChangeShapes Go.WideShapes Go.ChangeAt Go.RowKit
set_option linter.unusedVariables false
theorem grown_only {o : Nat} {w w' : World} (h : Only o w w') : w.grownBy w' (some o) := ⟨h.os, h.tape, h.output, h.size, fun k hk hne => h.block k hk (fun e => hne (by rw [e]))⟩
theorem cntF_le (Z : Nat → Bool) : ∀ m, cntF Z m ≤ m
  | 0 => Nat.le_refl _
  | m + 1 => by have := cntF_le Z m; rw [cntF]; split <;> omega
def tofF (Z : Nat → Bool) (k i : Nat) : Int := if i < k then (cntF Z i : Int) else 0
def clF (Z : Nat → Bool) (n i : Nat) : Int := if (cntF Z n : Int) ≤ tofF Z n i then (cntF Z n : Int) - 1 else tofF Z n i
theorem clF_num (Z : Nat → Bool) (n : Nat) (t : Nat) (ht : t < n) (hm : 0 < cntF Z n) : clF Z n t = numT Z n (t : Int) := by
  unfold clF tofF numT
  rw [if_pos ht]
  simp only [Int.toNat_natCast]
  split <;> omega
/-- The row that is left. -/
def TkR (w' : World) (v : Value) (O D A B C X : Nat → Int) (Z : Nat → Bool) (n : Nat) : Prop := ∃ g c, v = .slice (some ⟨g, 0, none⟩) (tkN O Z n) c ∧ RowI w' g (tkN O Z n) (fun i => O (tkP O Z n i)) (fun i => D (tkP O Z n i)) (tkA O A Z n) (tkB O B Z n) (tkB O C Z n) (fun i => X (tkP O Z n i))
theorem alloc_cell (W : World) (cs : Array Value) (t : TypeId) (H j : Nat) (hH : W.heap.size = H) : (W.alloc (.cells cs t)).cell? ⟨H, j, none⟩ = cs[j]? := by
  subst hH
  rw [World.cell?_alloc_mark]
theorem not_take {O D A B C X : Nat → Int} {Z : Nat → Bool} {n a : Nat} {w' : World} (h : takB O Z n = false) (R : RowI w' a n O D A B C X) : tkN O Z n = n ∧ RowI w' a (tkN O Z n) (fun i => O (tkP O Z n i)) (fun i => D (tkP O Z n i)) (tkA O A Z n) (tkB O B Z n) (tkB O C Z n) (fun i => X (tkP O Z n i)) := by
  have e1 : tkN O Z n = n := by unfold tkN; rw [h]; rfl
  have e2 : ∀ i, tkP O Z n i = i := fun i => by unfold tkP; rw [h]; rfl
  refine ⟨e1, ?_⟩
  rw [e1]
  refine R.mono (Nat.le_refl _) ?_ ?_ ?_ ?_ ?_ ?_ <;> intro i hi
  · show O _ = O i; rw [e2]
  · show D _ = D i; rw [e2]
  · unfold tkA tkT; rw [h, e2]; rfl
  · unfold tkB tkT; rw [h, e2]; rfl
  · unfold tkB tkT; rw [h, e2]; rfl
  · show X _ = X i; rw [e2]
end Go.Proofs.YtcgapochcahknaaDoor
