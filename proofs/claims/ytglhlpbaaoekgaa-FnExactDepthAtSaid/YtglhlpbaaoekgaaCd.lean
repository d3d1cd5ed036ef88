/- Turned tris: the program; structs of many cells stored at once. -/
import Derived.Test.YtglhlpbaaoekgaaCc
import Derived.Deep.MidRow
namespace Go.Proofs.Ytglhlpbaaoekgaa
open Go.ChangeShapes Go.WideShapes Go.ChangeAt Go.RowKit
set_option linter.unusedVariables false
theorem own_lit (w : World) (cs : Array Value) (t : TypeId) (n : Nat) (h : cs.size = n) : Own (w.alloc (.cells cs t)) w.heap.size n (fun i => cs.getD i undef) := by
  refine ⟨fun i hi => ?_, fun i => ?_, by rw [World.size_alloc]; omega⟩
  · rw [World.cell?_alloc_mark]
    simp [h, hi]
  · rw [World.frozen?_alloc_mark]
    simp
theorem one_getD (l : List Value) (h : l.all (fun v => v.oneCell') = true) (i : Nat) : (l.getD i (.int .i64 0)).oneCell' = true := by
  by_cases hi : i < l.length
  · have e : l.getD i (.int .i64 0) = l[i] := by simp [List.getD, hi]
    rw [e]
    exact List.all_eq_true.1 h _ (List.getElem_mem hi)
  · have e : l.getD i (.int .i64 0) = .int .i64 0 := by simp [List.getD, List.getElem?_eq_none (Nat.le_of_not_lt hi)]
    rw [e]
    rfl
def vals (f : Nat → Value) (n : Nat) : Array Value := ((List.range n).map f).toArray
theorem vals_size (f : Nat → Value) (n : Nat) : (vals f n).size = n := by simp [vals]
theorem vals_get (f : Nat → Value) (n i : Nat) (h : i < n) : (vals f n)[i]? = some (f i) := by simp [vals, h]
theorem vals_list (f : Nat → Value) (n j : Nat) (v : Value) (h : (vals f n).toList[j]? = some v) : j < n ∧ v = f j := by
  have hl : j < n := by
    have := (List.getElem?_eq_some_iff.1 h).1
    simpa [vals] using this
  refine ⟨hl, ?_⟩
  simp [vals, hl] at h
  exact h.symm
theorem vals_ext (f g : Nat → Value) (n : Nat) (h : ∀ i, i < n → f i = g i) : vals f n = vals g n := by
  unfold vals
  congr 1
  apply List.map_congr_left
  intro i hi
  exact h i (List.mem_range.1 hi)
theorem vals_one (f : Nat → Value) (n : Nat) (h : ∀ i, (f i).oneCell' = true) : (vals f n).all (·.oneCell') = true := by
  rw [Array.all_eq_true_iff_forall_mem]
  intro v hv
  simp [vals] at hv
  obtain ⟨a, _, rfl⟩ := hv
  exact h a
theorem own_range {w : World} {o n : Nat} {f : Nat → Value} (h : Own w o n f) : w.rangeAt o 0 (vals f n).toList := fun j v hv => by
  obtain ⟨hj, rfl⟩ := vals_list f n j v hv
  rw [Nat.zero_add]
  exact h.cell j hj
theorem own_there {w : World} {o n : Nat} {f : Nat → Value} (h : Own w o n f) (c : Array Value) (hc : c.size = n) : w.there o 0 c.size := fun j hj => by
  rw [Nat.zero_add, h.cell j (by omega), h.free j]
  exact ⟨rfl, rfl⟩
theorem size_setC (b : Nat) : ∀ (vs : List Value) (o : Nat) (w : World), (w.setCells b o vs).heap.size = w.heap.size
  | [], o, w => rfl
  | v :: r, o, w => by rw [World.setCells, size_setC b r]; simp [World.setCell]
theorem only_setC (b : Nat) : ∀ (vs : List Value) (o : Nat) (w : World), Only b w (w.setCells b o vs)
  | [], o, w => Only.refl b w
  | v :: r, o, w => by
    rw [World.setCells]
    exact ((Only.refl b w).setCell o v).trans (only_setC b r (o + 1) _)
theorem own_setCells {w : World} {o n : Nat} {f : Nat → Value} (h : Own w o n f) (g : Nat → Value) : Own (w.setCells o 0 (vals g n).toList) o n g := by
  have ht : w.there o 0 (vals g n).toList.length := by
    have := own_there h (vals g n) (vals_size g n)
    simpa using this
  have hr := World.rangeAt_setCells_same w o 0 _ ht
  refine ⟨fun i hi => ?_, fun i => by rw [World.frozen?_setCells]; exact h.free i, ?_⟩
  · have := hr i (g i) (by simp [vals, hi])
    simpa using this
  · rw [show (w.setCells o 0 (vals g n).toList).heap.size = w.heap.size from size_setC _ _ _ _]
    exact h.hi
theorem wpList_store_own {P : Program} {ops : Array Oper} {rest : List Oper} {op : Oper} {a : Act} {w : World} {Q : Exit → Act → World → Prop} (hgd : op.guard = none) (ty : TypeId) (x y : Operand) (ho : op.op = .store ty x y) (b : Nat) (hx : a.eval x = .pointer (some ⟨b, 0, none⟩)) (n : Nat) (f g : Nat → Value) (hy : a.eval y = .agg (vals g n)) (O : Own w b n f) (h1 : ∀ i, (g i).oneCell' = true) (hi : (P.info? ty).map (·.size) = some n) (h : ∀ w', Own w' b n g → Only b w w' → wpList P ops Q rest (a.put op.dst undef) w') : wpList P ops Q (op :: rest) a w :=
  wpList_store_mid hgd ty x y ho b 0 (vals g n) hx hy (own_there O _ (vals_size g n)) (by rw [hi, vals_size]) (vals_one g n h1) (h _ (own_setCells O g) (only_setC b _ _ _))
end Go.Proofs.Ytglhlpbaaoekgaa
