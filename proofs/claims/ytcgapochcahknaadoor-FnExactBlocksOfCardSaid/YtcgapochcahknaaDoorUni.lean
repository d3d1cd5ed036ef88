/- The program's DropUnread: what is unread is taken out again and again. -/
import Derived.Test.YtcgapochcahknaaDoorUnm
import Derived.Deep.AppendLies
namespace Go.Proofs.YtcgapochcahknaaDoor
open Go.ChangeShapes Go.WideShapes Go.ChangeAt Go.RowKit
set_option linter.unusedVariables false
theorem info54 : (Tryd.prog.info? 45).map (fun i => (i.zero, i.size, i.bytes)) = some (some (.slice none 0 0), 1, 24) := by kernel_rfl
theorem IRow.grown {w w' : World} {v : Value} {L : List Int} {row : Option Nat} (h : IRow w v L) (g : w.grownBy w' row) (hne : ∀ q, v.ownBlock = some q → some q ≠ row) : IRow w' v L := by
  rcases h with h | ⟨b, c, hv, hc, O⟩
  · exact Or.inl h
  · exact Or.inr ⟨b, c, hv, hc, own_grown O g (hne b (by rw [hv]; rfl))⟩
theorem IRow.lt {w : World} {v : Value} {L : List Int} (h : IRow w v L) : ∀ q, v.ownBlock = some q → q < w.heap.size := fun q hq => by
  rcases h with ⟨_, rfl⟩ | ⟨b, c, rfl, hc, O⟩
  · simp [Value.ownBlock] at hq
  · simp [Value.ownBlock] at hq
    subst hq
    exact O.hi
/-- Rows of numbers whose slices stand in a row that is being made. -/
def RegI (B : Nat) (w : World) (u : Value) (k : Nat) (f : Nat → List Int) : Prop := ∃ vs, w.ownsRow B 45 1 u k vs ∧ ∀ i, i < k → ∃ v, vs[i]? = some v ∧ IRow w v (f i) ∧ ∀ q, v.ownBlock = some q → u.ownBlock ≠ some q
theorem RegI.next {B : Nat} {w w' : World} {u : Value} {k : Nat} {f : Nat → List Int} (h : RegI B w u k f) (b : Below w.heap.size w w') : RegI B w' u k f := by
  obtain ⟨vs, h1, h2⟩ := h
  refine ⟨vs, h1.kept (row := none) ⟨b.os, b.tape, b.output, b.size, fun i hi _ => b.block i hi⟩ (by cases e : u.ownBlock <;> simp), fun i hi => ?_⟩
  obtain ⟨v, q1, q2, q3⟩ := h2 i hi
  exact ⟨v, q1, q2.next b, q3⟩
theorem RegI.more {B g k cap : Nat} {w w' : World} {u v : Value} {f : Nat → List Int} {vs : List Value} (h1 : w.ownsRow B 45 1 u k vs) (h2 : ∀ i, i < k → ∃ v, vs[i]? = some v ∧ IRow w v (f i) ∧ ∀ q, v.ownBlock = some q → u.ownBlock ≠ some q) (hv : IRow w v (f k)) (hvu : ∀ q, v.ownBlock = some q → u.ownBlock ≠ some q) (hown : w'.ownsRow B 45 1 (.slice (some ⟨g, 0, none⟩) (k + 1) cap) (k + 1) (vs ++ [v])) (hg : w.grownBy w' u.ownBlock) (hat : u.ownBlock = some g ∨ g = w.heap.size) : RegI B w' (.slice (some ⟨g, 0, none⟩) (k + 1) cap) (k + 1) f := by
  have hl : vs.length = k := by have := h1.1; omega
  have key : ∀ (u' : Value) (L : List Int), IRow w u' L → (∀ q, u'.ownBlock = some q → u.ownBlock ≠ some q) → IRow w' u' L ∧ ∀ q, u'.ownBlock = some q → (Value.slice (some ⟨g, 0, none⟩) (k + 1) cap).ownBlock ≠ some q := fun u' L i n => by
    refine ⟨i.grown hg (fun q hq e => n q hq e.symm), fun q hq e => ?_⟩
    have e : g = q := by simpa [Value.ownBlock] using e
    subst e
    rcases hat with e | e
    · exact n g hq e
    · have := i.lt g hq; omega
  refine ⟨vs ++ [v], hown, fun i hi => ?_⟩
  by_cases e : i < k
  · obtain ⟨v', q1, q2, q3⟩ := h2 i e
    obtain ⟨r1, r2⟩ := key v' _ q2 q3
    exact ⟨v', by rw [List.getElem?_append_left (by omega)]; exact q1, r1, r2⟩
  · obtain rfl : i = k := by omega
    obtain ⟨r1, r2⟩ := key v _ hv hvu
    exact ⟨v, by rw [List.getElem?_append_right (by omega), hl]; simp, r1, r2⟩
theorem Cd.rdLs_at (c : Cd) : ∀ k i, i < k → (c.rdLs k).getD i [] = opsL (c.O i) (c.A i) (c.B i) (c.C i) (c.X i)
  | 0, i, h => by omega
  | k + 1, i, h => by
    rw [Cd.rdLs]
    have hl := c.rdLs_len k
    by_cases e : i < k
    · rw [List.getD_eq_getElem?_getD, List.getElem?_append_left (by omega), ← List.getD_eq_getElem?_getD]
      exact c.rdLs_at k i e
    · obtain rfl : i = k := by omega
      rw [List.getD_eq_getElem?_getD, List.getElem?_append_right (by omega), hl]
      simp
theorem un_mem (c : Cd) (i : Nat) (hi : i < c.n) : memB [whL c.un1 c.n, whL c.un2 c.n].flatten i = c.un i := by
  have e : [whL c.un1 c.n, whL c.un2 c.n].flatten = whL c.un1 c.n ++ whL c.un2 c.n := by simp
  rw [e]
  have h1 := mem_whL c.un1 c.n i hi
  have h2 := mem_whL c.un2 c.n i hi
  unfold memB at *
  unfold Cd.un
  rw [← h1, ← h2, ← Bool.decide_or]
  congr 1
  exact propext List.mem_append
/-- The row of a code. -/
def RowC (w : World) (g : Nat) (c : Cd) : Prop := RowI w g c.n c.O c.D c.A c.B c.C c.X
end Go.Proofs.YtcgapochcahknaaDoor
