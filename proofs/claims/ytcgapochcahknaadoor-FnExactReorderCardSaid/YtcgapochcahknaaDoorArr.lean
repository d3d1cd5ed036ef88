/- Great arrays as values: no program's function is spoken of here. -/
import Derived.Test.YtcgapochcahknaaDoorMem
import Derived.Test.YtcgapochcahknaaDoorRwi
import Derived.Deep.MidRow
import Derived.Deep.WholeRow
import Derived.Laws.ResultCell
namespace Go.Proofs.YtcgapochcahknaaDoor
open Go.ChangeShapes Go.WideShapes Go.ChangeAt Go.RowKit
set_option linter.unusedVariables false
/-- n values one behind the other. -/
def vals (f : Nat → Value) (n : Nat) : Array Value := ((List.range n).map f).toArray
theorem vals_size (f : Nat → Value) (n : Nat) : (vals f n).size = n := by simp [vals]
theorem vals_get (f : Nat → Value) (n i : Nat) (h : i < n) : (vals f n)[i]? = some (f i) := by simp [vals, h]
theorem vals_list (f : Nat → Value) (n j : Nat) (v : Value) (h : (vals f n).toList[j]? = some v) : j < n ∧ v = f j := by
  have hl : j < n := by
    have := (List.getElem?_eq_some_iff.1 h).1
    simpa [vals] using this
  refine ⟨hl, ?_⟩
  simp [vals, hl] at h
  exact h.symm
theorem vals_ext (f g : Nat → Value) (n : Nat) (h : ∀ i, i < n → f i = g i) : vals f n = vals g n := by
  unfold vals
  congr 1
  apply List.map_congr_left
  intro i hi
  exact h i (List.mem_range.1 hi)
theorem vals_one (f : Nat → Value) (n : Nat) (h : ∀ i, (f i).oneCell' = true) : (vals f n).all (·.oneCell') = true := by
  rw [Array.all_eq_true_iff_forall_mem]
  intro v hv
  simp [vals] at hv
  obtain ⟨a, _, rfl⟩ := hv
  exact h a
theorem own_vals (w : World) (f : Nat → Value) (n : Nat) (t : TypeId) : Own (w.alloc (.cells (vals f n) t)) w.heap.size n f := by
  refine ⟨fun i hi => ?_, fun i => ?_, by rw [World.size_alloc]; omega⟩
  · rw [World.cell?_alloc_mark]
    simp [vals, hi]
  · rw [World.frozen?_alloc_mark]
    simp
theorem own_range {w : World} {o n : Nat} {f : Nat → Value} (h : Own w o n f) : w.rangeAt o 0 (vals f n).toList := fun j v hv => by
  obtain ⟨hj, rfl⟩ := vals_list f n j v hv
  rw [Nat.zero_add]
  exact h.cell j hj
theorem own_there {w : World} {o n : Nat} {f : Nat → Value} (h : Own w o n f) (c : Array Value) (hc : c.size = n) : w.there o 0 c.size := fun j hj => by
  rw [Nat.zero_add, h.cell j (by omega), h.free j]
  exact ⟨rfl, rfl⟩
theorem size_setC (b : Nat) : ∀ (vs : List Value) (o : Nat) (w : World), (w.setCells b o vs).heap.size = w.heap.size
  | [], o, w => rfl
  | v :: r, o, w => by rw [World.setCells, size_setC b r]; simp [World.setCell]
theorem only_setC (b : Nat) : ∀ (vs : List Value) (o : Nat) (w : World), Only b w (w.setCells b o vs)
  | [], o, w => Only.refl b w
  | v :: r, o, w => by
    rw [World.setCells]
    exact ((Only.refl b w).setCell o v).trans (only_setC b r (o + 1) _)
theorem own_setCells {w : World} {o n : Nat} {f : Nat → Value} (h : Own w o n f) (g : Nat → Value) : Own (w.setCells o 0 (vals g n).toList) o n g := by
  have ht : w.there o 0 (vals g n).toList.length := by
    have := own_there h (vals g n) (vals_size g n)
    simpa using this
  have hr := World.rangeAt_setCells_same w o 0 _ ht
  refine ⟨fun i hi => ?_, fun i => by rw [World.frozen?_setCells]; exact h.free i, ?_⟩
  · have := hr i (g i) (by simp [vals, hi])
    simpa using this
  · rw [show (w.setCells o 0 (vals g n).toList).heap.size = w.heap.size from size_setC _ _ _ _]
    exact h.hi
theorem results_own {P : Program} {fn : Func} {p : Tmp} {ty : TypeId} (h : fn.results = #[.cell p ty]) (tmps : Array Value) (w : World) (g n : Nat) (f : Nat → Value) (d : TypeDesc) (hp : tmps.getD p undef = .pointer (some ⟨g, 0, none⟩)) (O : Own w g n f) (hu : P.underlying ty = some d) (hd : d.isRow = true) (hi : (P.info? ty).map (·.size) = some n) : (results fn tmps).run P w = .ok (.agg (vals f n)) w := by
  have hl := run_loadVar_mid (P := P) w g 0 ty (vals f n).toList d (own_range O) hu hd (by rw [hi]; simp [vals_size])
  have hp' : tmps[p]?.getD undef = .pointer (some ⟨g, 0, none⟩) := by simpa using hp
  simp [results, h, hp', asAddr, hl]
theorem wpList_load_own {P : Program} {ops : Array Oper} {rest : List Oper} {op : Oper} {a : Act} {w : World} {Q : Exit → Act → World → Prop} (hgd : op.guard = none) (ty : TypeId) (x : Operand) (ho : op.op = .load ty x) (b : Nat) (hx : a.eval x = .pointer (some ⟨b, 0, none⟩)) (n : Nat) (f : Nat → Value) (d : TypeDesc) (O : Own w b n f) (hu : P.underlying ty = some d) (hd : d.isRow = true) (hi : (P.info? ty).map (·.size) = some n) (h : wpList P ops Q rest (a.put op.dst (.agg (vals f n))) w) : wpList P ops Q (op :: rest) a w :=
  wpList_load_mid hgd ty x ho b 0 hx (vals f n).toList d (own_range O) hu hd (by rw [hi]; simp [vals_size]) (by simpa using h)
theorem wpList_store_own {P : Program} {ops : Array Oper} {rest : List Oper} {op : Oper} {a : Act} {w : World} {Q : Exit → Act → World → Prop} (hgd : op.guard = none) (ty : TypeId) (x y : Operand) (ho : op.op = .store ty x y) (b : Nat) (hx : a.eval x = .pointer (some ⟨b, 0, none⟩)) (n : Nat) (f g : Nat → Value) (hy : a.eval y = .agg (vals g n)) (O : Own w b n f) (h1 : ∀ i, (g i).oneCell' = true) (hi : (P.info? ty).map (·.size) = some n) (h : ∀ w', Own w' b n g → Only b w w' → wpList P ops Q rest (a.put op.dst undef) w') : wpList P ops Q (op :: rest) a w :=
  wpList_store_mid hgd ty x y ho b 0 (vals g n) hx hy (own_there O _ (vals_size g n)) (by rw [hi, vals_size]) (vals_one g n h1) (h _ (own_setCells O g) (only_setC b _ _ _))
/-- The cells of a set of numbers below 600. -/
def bits (S : Nat → Bool) : Array Value := vals (fun i => .bool (S i)) 600
theorem bits_ext {S U : Nat → Bool} (h : ∀ i, i < 600 → S i = U i) : bits S = bits U := vals_ext _ _ _ fun i hi => by rw [h i hi]
theorem zero44 : (Tryd.prog.info? 84).map (fun i => (i.zero, i.size)) = some (some (.agg (bits fun _ => false)), 600) := by kernel_rfl
theorem zero67 : (Tryd.prog.info? 87).map (fun i => (i.zero, i.size)) = some (some (.agg (vals (fun _ => .int .i64 0) 400)), 400) := by kernel_rfl
theorem size44 : (Tryd.prog.info? 84).map (·.size) = some 600 := (zero_of_info zero44).2
theorem size67 : (Tryd.prog.info? 87).map (·.size) = some 400 := (zero_of_info zero67).2
theorem zv44 (w : World) : (zeroValue 84).run Tryd.prog w = .ok (.agg (bits fun _ => false)) w := (zero_of_info zero44).1 w
theorem zv67 (w : World) : (zeroValue 87).run Tryd.prog w = .ok (.agg (vals (fun _ => .int .i64 0) 400)) w := (zero_of_info zero67).1 w
end Go.Proofs.YtcgapochcahknaaDoor
