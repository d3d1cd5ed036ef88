/- Rows of whole numbers as they are read, wherever they lie. -/
import Derived.Test.YtcgapochcahknaaDoorRop
import Derived.Test.YtcgapochcahknaaDoorRch
import Derived.Test.YtcgapochcahknaaDoorRdt
import Derived.Test.YtcgapochcahknaaDoorWhr
namespace Go.Proofs.YtcgapochcahknaaDoor
open Go.ChangeShapes Go.WideShapes Go.ChangeAt Go.RowKit
set_option linter.unusedVariables false
/-- A row of whole numbers as it is read, wherever it lies. -/
def ARow (w : World) (v : Value) (L : List Int) : Prop := ∃ ad c, v = .slice ad L.length c ∧ ∀ i, i < L.length → ∃ g o, ad = some ⟨g, o, none⟩ ∧ w.cell? ⟨g, o + i, none⟩ = some (.int .i64 (L.getD i 0))
theorem ARow.next {w w' : World} {v : Value} {L : List Int} (h : ARow w v L) (b : Below w.heap.size w w') : ARow w' v L := by
  obtain ⟨ad, c, h1, h2⟩ := h
  refine ⟨ad, c, h1, fun i hi => ?_⟩
  obtain ⟨g, o, h3, h4⟩ := h2 i hi
  exact ⟨g, o, h3, cell_nx h4 b⟩
theorem IRow.arow {w : World} {v : Value} {L : List Int} (h : IRow w v L) : ARow w v L := by
  rcases h with ⟨rfl, rfl⟩ | ⟨g, c, rfl, _, k⟩
  · exact ⟨none, 0, rfl, fun i hi => absurd hi (by simp)⟩
  · exact ⟨_, c, rfl, fun i hi => ⟨g, 0, rfl, by rw [Nat.zero_add]; exact k.cell i hi⟩⟩
theorem IOwn.arow {B : Nat} {w : World} {v : Value} {L : List Int} (h : IOwn B w v L) : ARow w v L := h.row.arow
/-- m such rows, one behind the other. -/
def ARows (w : World) (v : Value) (m : Nat) (f : Nat → List Int) : Prop := ∃ ad c, v = .slice ad m c ∧ ∀ i, i < m → ∃ q o u, ad = some ⟨q, o, none⟩ ∧ w.cell? ⟨q, o + i, none⟩ = some u ∧ ARow w u (f i)
theorem ARows.next {w w' : World} {v : Value} {m : Nat} {f : Nat → List Int} (h : ARows w v m f) (b : Below w.heap.size w w') : ARows w' v m f := by
  obtain ⟨ad, c, h1, h2⟩ := h
  refine ⟨ad, c, h1, fun i hi => ?_⟩
  obtain ⟨q, o, u, h3, h4, h5⟩ := h2 i hi
  exact ⟨q, o, u, h3, cell_nx h4 b, h5.next b⟩
theorem take_snoc (M : List Int) (j : Nat) (hj : j < M.length) : M.take (j + 1) = M.take j ++ [M.getD j 0] := by
  rw [List.take_add_one]
  simp [List.getD, hj]
/-- Where each begins, by how long they are. -/
def offs (S : Nat → Nat) : Nat → Nat
  | 0 => 0
  | k + 1 => offs S k + S k
theorem offs_ext {S U : Nat → Nat} : ∀ k, (∀ x, x < k → S x = U x) → offs S k = offs U k
  | 0, _ => rfl
  | k + 1, h => by rw [offs, offs, offs_ext k (fun x hx => h x (by omega)), h k (by omega)]
theorem offs_inc {S U : Nat → Nat} {v : Nat} : ∀ k, v < k → (∀ x, x < k → U x = if x = v then S x + 1 else S x) → offs U k = offs S k + 1
  | 0, h, _ => by omega
  | k + 1, hv, h => by
    rw [offs, offs, h k (by omega)]
    by_cases e : k = v
    · subst e
      rw [if_pos rfl, offs_ext (S := U) (U := S) k (fun x hx => by rw [h x (by omega), if_neg (by omega)])]
      omega
    · rw [if_neg e, offs_inc k (by omega) (fun x hx => h x (by omega))]
      omega
theorem offs_mono (S : Nat → Nat) {x y : Nat} (h : x ≤ y) : offs S x ≤ offs S y := by
  induction y with
  | zero => obtain rfl : x = 0 := by omega
            exact Nat.le_refl _
  | succ y ih =>
    by_cases e : x = y + 1
    · subst e; exact Nat.le_refl _
    · have := ih (by omega)
      rw [offs]
      omega
theorem offs_lt (S : Nat → Nat) {x y : Nat} (h : x < y) : offs S x + S x ≤ offs S y := by
  have := offs_mono S (show x + 1 ≤ y by omega)
  rwa [offs] at this
theorem addr_ne {g o p : Nat} (h : o ≠ p) : (⟨g, o, none⟩ : Addr) ≠ ⟨g, p, none⟩ := fun e => h (by injection e)
theorem addr_ne' {g q o p : Nat} (h : g ≠ q) : (⟨g, o, none⟩ : Addr) ≠ ⟨q, p, none⟩ := fun e => h (by injection e)
end Go.Proofs.YtcgapochcahknaaDoor
