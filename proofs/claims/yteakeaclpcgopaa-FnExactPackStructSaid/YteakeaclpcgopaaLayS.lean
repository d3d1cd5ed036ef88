/- The law's memory for LayoutOf: what was wanted, what was got, their rows of spots. -/
import Derived.Test.YteakeaclpcgopaaLayI
import Derived.Test.YteakeaclpcgopaaLayM
import Derived.Deep.Slices
namespace Go.Proofs.Yteakeaclpcgopaa
open Go.ChangeShapes Go.WideShapes Go.ChangeAt Go.RowKit
set_option linter.unusedVariables false
theorem cell_of_heap7 {w : World} {b : Nat} {cs : Array Value} {t : TypeId} {f : Nat × Nat} {i : Nat} (h : w.heap[b]? = some (.cells cs t f)) : w.cell? ⟨b, i, none⟩ = cs[i]? := by
  simp [World.cell?, h]
/-- The law's memory: what was wanted, what was got, and their rows. -/
structure S5 (w : World) (o3 o4 : Nat) (u v : Value) (cd a : Int) (n : Nat) (K : Nat → ByteArray) (F1 F2 F3 : Nat → Int) (K' : Nat → ByteArray) (G1 G2 G3 : Nat → Int) (wx : World) : Prop where
  b3 : wx.heap[o3]? = some (.cells #[u, .int .i64 cd, .int .i64 a] 34 (0, 0))
  b4 : wx.heap[o4]? = some (.cells #[v, .int .i64 cd, .int .i64 a] 34 (0, 0))
  U : RowSV wx u n K F1 F2 F3
  V : RowSV wx v n K' G1 G2 G3
  below : Below w.heap.size w wx
  sep : ∀ g, v.ownBlock = some g → g ≠ o3 ∧ g ≠ o4 ∧ u.ownBlock ≠ some g ∧ w.heap.size ≤ g
theorem S5.next {w wx w2 : World} {o3 o4 : Nat} {u v : Value} {cd a : Int} {n : Nat} {K K' : Nat → ByteArray} {F1 F2 F3 G1 G2 G3 : Nat → Int} (h : S5 w o3 o4 u v cd a n K F1 F2 F3 K' G1 G2 G3 wx) (b : Below wx.heap.size wx w2) : S5 w o3 o4 u v cd a n K F1 F2 F3 K' G1 G2 G3 w2 :=
  ⟨by rw [b.block _ (Array.getElem?_eq_some_iff.1 h.b3).1]; exact h.b3, by rw [b.block _ (Array.getElem?_eq_some_iff.1 h.b4).1]; exact h.b4, h.U.next b, h.V.next b, h.below.trans (b.mono h.below.size), h.sep⟩
theorem S5.mark {w wx w2 : World} {o3 o4 : Nat} {u v : Value} {cd a : Int} {n : Nat} {K K' K2 : Nat → ByteArray} {F1 F2 F3 G1 G2 G3 H1 H2 H3 : Nat → Int} (h : S5 w o3 o4 u v cd a n K F1 F2 F3 K' G1 G2 G3 wx) (V : RowSV w2 v n K2 H1 H2 H3) (g : wx.grownBy w2 v.ownBlock) : S5 w o3 o4 u v cd a n K F1 F2 F3 K2 H1 H2 H3 w2 :=
  ⟨by rw [g.block _ (Array.getElem?_eq_some_iff.1 h.b3).1 (fun e => (h.sep _ e.symm).1 rfl)]; exact h.b3, by rw [g.block _ (Array.getElem?_eq_some_iff.1 h.b4).1 (fun e => (h.sep _ e.symm).2.1 rfl)]; exact h.b4,
    h.U.grown g (by
      cases hu : u.ownBlock with
      | none => exact Or.inl rfl
      | some k => exact Or.inr (fun e => (h.sep k e.symm).2.2.1 hu)), V, h.below.grown g h.below.size (fun q hq => (h.sep q hq).2.2.2), h.sep⟩
theorem S5.cells {w wx : World} {o3 o4 : Nat} {u v : Value} {cd a : Int} {n : Nat} {K K' : Nat → ByteArray} {F1 F2 F3 G1 G2 G3 : Nat → Int} (h : S5 w o3 o4 u v cd a n K F1 F2 F3 K' G1 G2 G3 wx) : wx.cell? ⟨o3, 0, none⟩ = some u ∧ wx.cell? ⟨o3, 1, none⟩ = some (.int .i64 cd) ∧ wx.cell? ⟨o3, 2, none⟩ = some (.int .i64 a) ∧ wx.cell? ⟨o4, 0, none⟩ = some v ∧ wx.cell? ⟨o4, 1, none⟩ = some (.int .i64 cd) ∧ wx.cell? ⟨o4, 2, none⟩ = some (.int .i64 a) :=
  ⟨by rw [cell_of_heap7 h.b3]; rfl, by rw [cell_of_heap7 h.b3]; rfl, by rw [cell_of_heap7 h.b3]; rfl, by rw [cell_of_heap7 h.b4]; rfl, by rw [cell_of_heap7 h.b4]; rfl, by rw [cell_of_heap7 h.b4]; rfl⟩
theorem S5.start {w w1 w2 : World} {u v : Value} {cd a : Int} {n : Nat} {K : Nat → ByteArray} {F1 F2 F3 : Nat → Int} (U : RowSV w1 u n K F1 F2 F3) (B1 : Below w.heap.size w w1) (V : RowSV w2 v n K F1 F2 F3)
    (gv : ∀ g, v.ownBlock = some g → w1.heap.size + 1 ≤ g) (B2 : Below (w1.heap.size + 1) (w1.alloc (.cells #[u, .int .i64 cd, .int .i64 a] 34)) w2) :
    S5 w w1.heap.size w2.heap.size u v cd a n K F1 F2 F3 K F1 F2 F3 (w2.alloc (.cells #[v, .int .i64 cd, .int .i64 a] 34)) := by
  have z2 : w1.heap.size + 1 ≤ w2.heap.size := by have := B2.size; simpa using this
  have b3 : w2.heap[w1.heap.size]? = some (.cells #[u, .int .i64 cd, .int .i64 a] 34 (0, 0)) := by
    rw [B2.block _ (by omega)]; exact heap_alloc_new w1 _
  have Bx : Below w1.heap.size w1 w2 := (alloc_b (w := w1)).trans (B2.mono (by omega))
  have U2 := U.next Bx
  refine ⟨by rw [heap_alloc_old _ _ (by omega)]; exact b3, heap_alloc_new w2 _, U2.next alloc_b, V.next alloc_b, (B1.trans (Bx.mono B1.size)).trans (alloc_b.mono (by have := B1.size; omega)), fun g hg => ?_⟩
  have l1 := gv g hg
  have l2 := V.lt g hg
  exact ⟨by omega, by omega, fun e => by have := U.lt g e; omega, by have := B1.size; omega⟩
theorem S5.only {w wx w2 : World} {o3 o4 ox : Nat} {u v : Value} {cd a : Int} {n : Nat} {K K' : Nat → ByteArray} {F1 F2 F3 G1 G2 G3 : Nat → Int} (h : S5 w o3 o4 u v cd a n K F1 F2 F3 K' G1 G2 G3 wx) (b : Tk.Only ox wx w2) (h3 : o3 ≠ ox) (h4 : o4 ≠ ox) (hu : u.ownBlock ≠ some ox) (hv : v.ownBlock ≠ some ox) (hx : w.heap.size ≤ ox) : S5 w o3 o4 u v cd a n K F1 F2 F3 K' G1 G2 G3 w2 := by
  have g : wx.grownBy w2 (some ox) := ⟨b.os, b.tape, b.output, b.size, fun k hk hne => b.block k hk (fun e => hne (by rw [e]))⟩
  exact ⟨by rw [b.block _ (Array.getElem?_eq_some_iff.1 h.b3).1 h3]; exact h.b3, by rw [b.block _ (Array.getElem?_eq_some_iff.1 h.b4).1 h4]; exact h.b4, h.U.grown g (Or.inr hu), h.V.grown g (Or.inr hv), h.below.grown g h.below.size (fun q hq => by injection hq with e; omega), h.sep⟩
end Go.Proofs.Yteakeaclpcgopaa
