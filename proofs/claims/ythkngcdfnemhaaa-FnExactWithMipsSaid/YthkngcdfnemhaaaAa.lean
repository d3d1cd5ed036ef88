/- Rows of values that a call itself made and what stays of them; structs of four, five and nine cells at the head of a block; a color as a parameter. -/
import Derived.Test.YthkngcdfnemhaaaRows
import Derived.WalkKit
import Derived.ProofKit
import Derived.OpenShut
import Derived.WalkLawsBesides
import Derived.Laws.BitsAll
import Derived.Deep.QuietTactic
import Derived.Deep.RegionWith
import Derived.Deep.RegionHeld3
import Derived.Deep.Grids
import Derived.Carry
namespace Go.Proofs.Ythkngcdfnemhaaa
open Go.ChangeShapes Go.WideShapes Go.ChangeAt Go.RowKit
set_option linter.unusedVariables false

/-- n cells of block o, from its head on: one value each; each may be written. -/
structure Own (w : World) (o n : Nat) (f : Nat → Value) : Prop where
  cell : ∀ i, i < n → w.cell? ⟨o, i, none⟩ = some (f i)
  free : ∀ i, w.frozen? ⟨o, i, none⟩ = false
  hi : o < w.heap.size
theorem Own.set {w : World} {o n : Nat} {f g : Nat → Value} (h : Own w o n f) (j : Nat) (v : Value) (hj : j < n) (hg : ∀ i, i < n → g i = if i = j then v else f i) : Own (w.setCell ⟨o, j, none⟩ v) o n g := by
  refine ⟨fun i hi => ?_, fun i => ?_, by simpa using h.hi⟩
  · rw [hg i hi]
    by_cases e : i = j
    · subst e
      rw [if_pos rfl]
      exact World.cell?_setCell_same' w _ _ (by rw [h.cell i hj]; rfl)
    · rw [if_neg e]
      have hne : (⟨o, j, none⟩ : Addr) ≠ ⟨o, i, none⟩ := by
        intro k; injection k with _ k2; exact e k2.symm
      rw [World.cell?_setCell_other (h := hne)]
      exact h.cell i hi
  · simp [h.free i]
theorem Own.mono {w : World} {o n m : Nat} {f g : Nat → Value} (h : Own w o n f) (hm : m ≤ n) (hg : ∀ i, i < m → g i = f i) : Own w o m g :=
  ⟨fun i hi => by rw [hg i hi]; exact h.cell i (by omega), h.free, h.hi⟩
/-- All blocks but one are as they were. -/
structure Only (o : Nat) (w w' : World) : Prop where
  os : w'.os = w.os
  tape : w'.tape = w.tape
  output : w'.output = w.output
  size : w.heap.size ≤ w'.heap.size
  block : ∀ k, k < w.heap.size → k ≠ o → w'.heap[k]? = w.heap[k]?
theorem Only.refl (o : Nat) (w : World) : Only o w w := ⟨rfl, rfl, rfl, Nat.le_refl _, fun _ _ _ => rfl⟩
theorem Only.trans {o : Nat} {a b c : World} (h : Only o a b) (k : Only o b c) : Only o a c :=
  ⟨k.os.trans h.os, k.tape.trans h.tape, k.output.trans h.output, Nat.le_trans h.size k.size, fun i hi ho => (k.block i (by have := h.size; omega) ho).trans (h.block i hi ho)⟩
theorem Only.setCell {o : Nat} {a w : World} (h : Only o a w) (j : Nat) (v : Value) : Only o a (w.setCell ⟨o, j, none⟩ v) :=
  h.trans ⟨rfl, rfl, rfl, by simp [World.setCell], fun k _ hk => Below.heap_setCell _ _ _ _ hk⟩
theorem Only.drewN {o : Nat} {a w : World} (h : Only o a w) (q : Nat) : Only o a (w.drewN q) := ⟨h.os, h.tape, h.output, h.size, h.block⟩
theorem Only.below {o B : Nat} {a w : World} (h : Only o a w) (hB : B ≤ o) (hs : B ≤ a.heap.size) : Below B a w := ⟨h.os, h.tape, h.output, h.size, fun k hk => h.block k (by omega) (by omega)⟩
theorem Only.ofBelow {o : Nat} {a w : World} (h : Below a.heap.size a w) : Only o a w := ⟨h.os, h.tape, h.output, h.size, fun k hk _ => h.block k hk⟩
theorem below_drewN {B : Nat} {a w : World} (h : Below B a w) (q : Nat) : Below B a (w.drewN q) := ⟨h.os, h.tape, h.output, h.size, h.block⟩
theorem drew2 (w : World) (a b : Nat) : (w.drewN a).drewN b = w.drewN (a + b) := by simp [World.drewN, Nat.add_assoc]
theorem Own.drewN {w : World} {o n : Nat} {f : Nat → Value} (h : Own w o n f) (q : Nat) : Own (w.drewN q) o n f := ⟨fun i hi => (h.cell i hi : w.cell? _ = _), fun i => h.free i, h.hi⟩
theorem Own.next {w w' : World} {o n : Nat} {f : Nat → Value} (h : Own w o n f) (hb : Below w.heap.size w w') : Own w' o n f := by
  have z := hb.size
  have zh := h.hi
  exact ⟨fun i hi => (hb.cell (p := ⟨o, i, none⟩) h.hi).trans (h.cell i hi), fun i => (hb.frozen (p := ⟨o, i, none⟩) h.hi).trans (h.free i), by omega⟩
theorem Own.but {w w' : World} {o p n : Nat} {f : Nat → Value} (h : Own w o n f) (hb : Only p w w') (hne : o ≠ p) : Own w' o n f := by
  have z := hb.size
  have zh := h.hi
  exact ⟨fun i hi => (World.cell?_of_block (w := w) (a := ⟨o, i, none⟩) (hb.block o zh hne)).trans (h.cell i hi), fun i => (World.frozen?_of_block (w := w) (a := ⟨o, i, none⟩) (hb.block o zh hne)).trans (h.free i), by omega⟩
theorem own_made {w : World} {B n t : Nat} {z : Value} {w' : World} (h : w'.ownsRow B t 1 (.slice (some ⟨w.heap.size, 0, none⟩) n n) n (madeCells #[z] (n * 1)).toList) : Own w' w.heap.size n (fun _ => z) := by
  refine ⟨fun i hi => ?_, fun i => h.frozenAt i, (h.lt _ rfl).2⟩
  rw [h.cellAt i (by omega)]
  simp [madeCells, hi, Nat.mod_one]
/-- A row behind appends: at most what is owned. -/
theorem own_owned {w : World} {B t g n cap : Nat} {xs : List Value} (h : w.ownsRow B t 1 (.slice (some ⟨g, 0, none⟩) n cap) n xs) (f : Nat → Value) (hf : ∀ i, i < n → xs[i]? = some (f i)) : Own w g n f :=
  ⟨fun i hi => by rw [h.cellAt i (by omega)]; exact hf i hi, fun i => h.frozenAt i, (h.lt _ rfl).2⟩
theorem Hid.mk {p : Prop} (h : p) : Hid p := h
theorem cell_nx {v v' : World} {p : Addr} {u : Value} (h : v.cell? p = some u) (k : Below v.heap.size v v') : v'.cell? p = some u := (k.cell (World.block_lt_of_cell? _ p h)).trans h
theorem alloc_b {v : World} {o : Obj} : Below v.heap.size v (v.alloc o) := (Below.refl _ _).alloc (Nat.le_refl _) _
theorem below_drew {B : Nat} {a w : World} (h : Below B a w) : Below B a w.drew := ⟨h.os, h.tape, h.output, h.size, h.block⟩
theorem below_grown {b : Nat} {w w1 w2 : World} {r : Option Nat} (h : Below b w w1) (hb : b ≤ w1.heap.size) (k : w1.grownBy w2 r) (hr : ∀ g, r = some g → b ≤ g) : Below b w w2 := h.grown k hb hr
theorem addr_ne {g o p : Nat} (h : o ≠ p) : (⟨g, o, none⟩ : Addr) ≠ ⟨g, p, none⟩ := fun e => h (by injection e)
theorem addr_ne' {g q o p : Nat} (h : g ≠ q) : (⟨g, o, none⟩ : Addr) ≠ ⟨q, p, none⟩ := fun e => h (by injection e)
/-- A slice that came in: n elements at a; of an empty one nothing is asked. -/
def Arg (w : World) (a : Option Addr) (n : Nat) (f : Nat → Value) : Prop := n = 0 ∨ ∃ b off, a = some ⟨b, off, none⟩ ∧ b < w.heap.size ∧ ∀ i, i < n → w.cell? ⟨b, off + i, none⟩ = some (f i)
theorem Arg.next {w w' : World} {a : Option Addr} {n : Nat} {f : Nat → Value} (h : Arg w a n f) (hb : Below w.heap.size w w') : Arg w' a n f := by
  rcases h with h | ⟨b, off, ha, hl, hc⟩
  · exact Or.inl h
  · exact Or.inr ⟨b, off, ha, by have := hb.size; omega, fun i hi => (hb.cell (p := ⟨b, off + i, none⟩) hl).trans (hc i hi)⟩
theorem zero_wf (k : IntKind) : (Lit.int k 0).wf = true := by cases k <;> rfl
section
variable {H : Type} {enc : TypeId × Value → H} {P : Program} {W : World} {base : Nat}
theorem view_ints {t e : TypeId} {k : IntKind} {v : Value} {d : DataW H} {p : List MemPlace} (ht : P.underlying t = some (.slice e)) (he : P.underlying e = some (.int k)) (hc : P.cellsOf e = 1)
    (hok : Value.okWide P W .any base t v) (h : DataW.Trod enc P W 0 (fun _ => true) true t v d p) (hlt : ∀ x ∈ p, x.block < W.heap.size) :
    ∃ (a : Option Addr) (len cap : Nat) (f : Nat → Int), v = .slice a len cap ∧ len ≤ 9223372036854775807 ∧ Arg W a len (fun i => .int k (f i)) ∧ ∀ i, (Lit.int k (f i)).wf = true := by
  obtain ⟨a0, len, cap, rfl⟩ := okWide_slice ht hok
  obtain ⟨fuel, hf⟩ := h
  rcases open_ints ht he hc hf with ⟨hcs, hx⟩ | ⟨a, len', cap', zs, hcs, _, hl, hm, hz, hx, hcell, hwz⟩
  · simp [Value.cells] at hcs
    obtain ⟨rfl, rfl, rfl⟩ := hcs
    exact ⟨_, 0, 0, fun _ => 0, rfl, by omega, Or.inl rfl, fun _ => zero_wf k⟩
  · simp [Value.cells] at hcs
    obtain ⟨rfl, rfl, rfl⟩ := hcs
    simp only [Prod.mk.injEq] at hx
    obtain ⟨rfl, rfl⟩ := hx
    simp only [if_true] at hz
    refine ⟨_, len, cap, fun i => zs.getD i 0, rfl, by unfold maxLen at hm; omega, ?_, fun i => ?_⟩
    · by_cases hl0 : len = 0
      · exact Or.inl hl0
      · obtain ⟨b, off, spot⟩ := a
        have hspot : spot = none := by simpa [Addr.add] using World.cell?_spot (hcell 0 (by omega))
        subst hspot
        have hbW : b < W.heap.size := hlt (.cell b off) (MemPlace.mem_row.2 ⟨0, by omega, by simp⟩)
        exact Or.inr ⟨b, off, rfl, hbW, fun j hj => by rw [← add_plain]; exact hcell j (by omega)⟩
    · show (Lit.int k (zs.getD i 0)).wf = true
      by_cases hi : i < zs.length
      · have e : zs.getD i 0 = zs[i] := by simp [List.getD, hi]
        rw [e]
        exact hwz _ (List.getElem_mem hi)
      · have e : zs.getD i 0 = 0 := by simp [List.getD, List.getElem?_eq_none (Nat.le_of_not_lt hi)]
        rw [e]
        exact zero_wf k
end
def fl (f : Nat → Int) : Nat → List Int
  | 0 => []
  | k + 1 => fl f k ++ [f k]
theorem fl_len (f : Nat → Int) : ∀ k, (fl f k).length = k
  | 0 => rfl
  | k + 1 => by rw [fl, List.length_append, fl_len f k]; rfl
theorem fl_at (f : Nat → Int) : ∀ k i, i < k → (fl f k).getD i 0 = f i
  | 0, i, h => absurd h (Nat.not_lt_zero _)
  | k + 1, i, h => by
    rw [fl]
    by_cases e : i = k
    · subst e
      simp [List.getD, fl_len f i]
    · have := fl_at f k i (by omega)
      rw [← this]
      simp [List.getD, List.getElem?_append_left (show i < (fl f k).length by rw [fl_len]; omega)]
/-- A struct of 4 cells at the head of a block. -/
structure C4 (w : World) (b : Nat) (v0 v1 v2 v3 : Value) : Prop where
  c0 : w.cell? ⟨b, 0, none⟩ = some v0
  c1 : w.cell? ⟨b, 1, none⟩ = some v1
  c2 : w.cell? ⟨b, 2, none⟩ = some v2
  c3 : w.cell? ⟨b, 3, none⟩ = some v3
  f : ∀ i, w.frozen? ⟨b, i, none⟩ = false
  hi : b < w.heap.size
theorem C4.new (w : World) (t : TypeId) (v0 v1 v2 v3 : Value) : C4 (w.alloc (.cells #[v0, v1, v2, v3] t)) w.heap.size v0 v1 v2 v3 := ⟨by simp, by simp, by simp, by simp, fun i => by simp, by simp⟩
theorem C4.next {w w' : World} {b : Nat} {v0 v1 v2 v3 : Value} (h : C4 w b v0 v1 v2 v3) (k : Below w.heap.size w w') : C4 w' b v0 v1 v2 v3 := ⟨cell_nx h.c0 k, cell_nx h.c1 k, cell_nx h.c2 k, cell_nx h.c3 k, fun i => (k.frozen (p := ⟨b, i, none⟩) h.hi).trans (h.f i), by have := k.size; have := h.hi; omega⟩
theorem C4.block {w w' : World} {b : Nat} {v0 v1 v2 v3 : Value} (h : C4 w b v0 v1 v2 v3) (k : w'.heap[b]? = w.heap[b]?) (hs : w.heap.size ≤ w'.heap.size) : C4 w' b v0 v1 v2 v3 := ⟨(World.cell?_of_block (w := w) (a := ⟨b, 0, none⟩) k).trans h.c0, (World.cell?_of_block (w := w) (a := ⟨b, 1, none⟩) k).trans h.c1, (World.cell?_of_block (w := w) (a := ⟨b, 2, none⟩) k).trans h.c2, (World.cell?_of_block (w := w) (a := ⟨b, 3, none⟩) k).trans h.c3, fun i => (World.frozen?_of_block (w := w) (a := ⟨b, i, none⟩) k).trans (h.f i), by have := h.hi; omega⟩
def set4 (w : World) (b : Nat) (u0 u1 u2 u3 : Value) : World := ((((w.setCell ⟨b, 0, none⟩ u0).setCell ⟨b, 1, none⟩ u1).setCell ⟨b, 2, none⟩ u2).setCell ⟨b, 3, none⟩ u3)
theorem only_set4 (w : World) (b : Nat) (u0 u1 u2 u3 : Value) : Only b w (set4 w b u0 u1 u2 u3) := by
  unfold set4
  exact ((((Only.refl _ _).setCell _ _).setCell _ _).setCell _ _).setCell _ _
theorem C4.s0 {w : World} {b : Nat} {v0 v1 v2 v3 : Value} (h : C4 w b v0 v1 v2 v3) (x : Value) : C4 (w.setCell ⟨b, 0, none⟩ x) b x v1 v2 v3 := ⟨World.cell?_setCell_same' _ _ _ (by rw [h.c0]; rfl), by rw [World.cell?_setCell_other (h := addr_ne (by decide))]; exact h.c1, by rw [World.cell?_setCell_other (h := addr_ne (by decide))]; exact h.c2, by rw [World.cell?_setCell_other (h := addr_ne (by decide))]; exact h.c3, fun i => by simp [h.f i], by simpa using h.hi⟩
theorem C4.s1 {w : World} {b : Nat} {v0 v1 v2 v3 : Value} (h : C4 w b v0 v1 v2 v3) (x : Value) : C4 (w.setCell ⟨b, 1, none⟩ x) b v0 x v2 v3 := ⟨by rw [World.cell?_setCell_other (h := addr_ne (by decide))]; exact h.c0, World.cell?_setCell_same' _ _ _ (by rw [h.c1]; rfl), by rw [World.cell?_setCell_other (h := addr_ne (by decide))]; exact h.c2, by rw [World.cell?_setCell_other (h := addr_ne (by decide))]; exact h.c3, fun i => by simp [h.f i], by simpa using h.hi⟩
theorem C4.s2 {w : World} {b : Nat} {v0 v1 v2 v3 : Value} (h : C4 w b v0 v1 v2 v3) (x : Value) : C4 (w.setCell ⟨b, 2, none⟩ x) b v0 v1 x v3 := ⟨by rw [World.cell?_setCell_other (h := addr_ne (by decide))]; exact h.c0, by rw [World.cell?_setCell_other (h := addr_ne (by decide))]; exact h.c1, World.cell?_setCell_same' _ _ _ (by rw [h.c2]; rfl), by rw [World.cell?_setCell_other (h := addr_ne (by decide))]; exact h.c3, fun i => by simp [h.f i], by simpa using h.hi⟩
theorem C4.s3 {w : World} {b : Nat} {v0 v1 v2 v3 : Value} (h : C4 w b v0 v1 v2 v3) (x : Value) : C4 (w.setCell ⟨b, 3, none⟩ x) b v0 v1 v2 x := ⟨by rw [World.cell?_setCell_other (h := addr_ne (by decide))]; exact h.c0, by rw [World.cell?_setCell_other (h := addr_ne (by decide))]; exact h.c1, by rw [World.cell?_setCell_other (h := addr_ne (by decide))]; exact h.c2, World.cell?_setCell_same' _ _ _ (by rw [h.c3]; rfl), fun i => by simp [h.f i], by simpa using h.hi⟩
theorem C4.put {w : World} {b : Nat} {v0 v1 v2 v3 : Value} (h : C4 w b v0 v1 v2 v3) (u0 u1 u2 u3 : Value) : C4 (set4 w b u0 u1 u2 u3) b u0 u1 u2 u3 := ((((h.s0 u0).s1 u1).s2 u2).s3 u3)
/-- A struct of 9 cells at the head of a block. -/
structure C9 (w : World) (b : Nat) (v0 v1 v2 v3 v4 v5 v6 v7 v8 : Value) : Prop where
  c0 : w.cell? ⟨b, 0, none⟩ = some v0
  c1 : w.cell? ⟨b, 1, none⟩ = some v1
  c2 : w.cell? ⟨b, 2, none⟩ = some v2
  c3 : w.cell? ⟨b, 3, none⟩ = some v3
  c4 : w.cell? ⟨b, 4, none⟩ = some v4
  c5 : w.cell? ⟨b, 5, none⟩ = some v5
  c6 : w.cell? ⟨b, 6, none⟩ = some v6
  c7 : w.cell? ⟨b, 7, none⟩ = some v7
  c8 : w.cell? ⟨b, 8, none⟩ = some v8
  f : ∀ i, w.frozen? ⟨b, i, none⟩ = false
  hi : b < w.heap.size
theorem C9.new (w : World) (t : TypeId) (v0 v1 v2 v3 v4 v5 v6 v7 v8 : Value) : C9 (w.alloc (.cells #[v0, v1, v2, v3, v4, v5, v6, v7, v8] t)) w.heap.size v0 v1 v2 v3 v4 v5 v6 v7 v8 := ⟨by simp, by simp, by simp, by simp, by simp, by simp, by simp, by simp, by simp, fun i => by simp, by simp⟩
theorem C9.next {w w' : World} {b : Nat} {v0 v1 v2 v3 v4 v5 v6 v7 v8 : Value} (h : C9 w b v0 v1 v2 v3 v4 v5 v6 v7 v8) (k : Below w.heap.size w w') : C9 w' b v0 v1 v2 v3 v4 v5 v6 v7 v8 := ⟨cell_nx h.c0 k, cell_nx h.c1 k, cell_nx h.c2 k, cell_nx h.c3 k, cell_nx h.c4 k, cell_nx h.c5 k, cell_nx h.c6 k, cell_nx h.c7 k, cell_nx h.c8 k, fun i => (k.frozen (p := ⟨b, i, none⟩) h.hi).trans (h.f i), by have := k.size; have := h.hi; omega⟩
theorem C9.block {w w' : World} {b : Nat} {v0 v1 v2 v3 v4 v5 v6 v7 v8 : Value} (h : C9 w b v0 v1 v2 v3 v4 v5 v6 v7 v8) (k : w'.heap[b]? = w.heap[b]?) (hs : w.heap.size ≤ w'.heap.size) : C9 w' b v0 v1 v2 v3 v4 v5 v6 v7 v8 := ⟨(World.cell?_of_block (w := w) (a := ⟨b, 0, none⟩) k).trans h.c0, (World.cell?_of_block (w := w) (a := ⟨b, 1, none⟩) k).trans h.c1, (World.cell?_of_block (w := w) (a := ⟨b, 2, none⟩) k).trans h.c2, (World.cell?_of_block (w := w) (a := ⟨b, 3, none⟩) k).trans h.c3, (World.cell?_of_block (w := w) (a := ⟨b, 4, none⟩) k).trans h.c4, (World.cell?_of_block (w := w) (a := ⟨b, 5, none⟩) k).trans h.c5, (World.cell?_of_block (w := w) (a := ⟨b, 6, none⟩) k).trans h.c6, (World.cell?_of_block (w := w) (a := ⟨b, 7, none⟩) k).trans h.c7, (World.cell?_of_block (w := w) (a := ⟨b, 8, none⟩) k).trans h.c8, fun i => (World.frozen?_of_block (w := w) (a := ⟨b, i, none⟩) k).trans (h.f i), by have := h.hi; omega⟩
def set9 (w : World) (b : Nat) (u0 u1 u2 u3 u4 u5 u6 u7 u8 : Value) : World := (((((((((w.setCell ⟨b, 0, none⟩ u0).setCell ⟨b, 1, none⟩ u1).setCell ⟨b, 2, none⟩ u2).setCell ⟨b, 3, none⟩ u3).setCell ⟨b, 4, none⟩ u4).setCell ⟨b, 5, none⟩ u5).setCell ⟨b, 6, none⟩ u6).setCell ⟨b, 7, none⟩ u7).setCell ⟨b, 8, none⟩ u8)
theorem only_set9 (w : World) (b : Nat) (u0 u1 u2 u3 u4 u5 u6 u7 u8 : Value) : Only b w (set9 w b u0 u1 u2 u3 u4 u5 u6 u7 u8) := by
  unfold set9
  exact (((((((((Only.refl _ _).setCell _ _).setCell _ _).setCell _ _).setCell _ _).setCell _ _).setCell _ _).setCell _ _).setCell _ _).setCell _ _
theorem C9.s0 {w : World} {b : Nat} {v0 v1 v2 v3 v4 v5 v6 v7 v8 : Value} (h : C9 w b v0 v1 v2 v3 v4 v5 v6 v7 v8) (x : Value) : C9 (w.setCell ⟨b, 0, none⟩ x) b x v1 v2 v3 v4 v5 v6 v7 v8 := ⟨World.cell?_setCell_same' _ _ _ (by rw [h.c0]; rfl), by rw [World.cell?_setCell_other (h := addr_ne (by decide))]; exact h.c1, by rw [World.cell?_setCell_other (h := addr_ne (by decide))]; exact h.c2, by rw [World.cell?_setCell_other (h := addr_ne (by decide))]; exact h.c3, by rw [World.cell?_setCell_other (h := addr_ne (by decide))]; exact h.c4, by rw [World.cell?_setCell_other (h := addr_ne (by decide))]; exact h.c5, by rw [World.cell?_setCell_other (h := addr_ne (by decide))]; exact h.c6, by rw [World.cell?_setCell_other (h := addr_ne (by decide))]; exact h.c7, by rw [World.cell?_setCell_other (h := addr_ne (by decide))]; exact h.c8, fun i => by simp [h.f i], by simpa using h.hi⟩
theorem C9.s1 {w : World} {b : Nat} {v0 v1 v2 v3 v4 v5 v6 v7 v8 : Value} (h : C9 w b v0 v1 v2 v3 v4 v5 v6 v7 v8) (x : Value) : C9 (w.setCell ⟨b, 1, none⟩ x) b v0 x v2 v3 v4 v5 v6 v7 v8 := ⟨by rw [World.cell?_setCell_other (h := addr_ne (by decide))]; exact h.c0, World.cell?_setCell_same' _ _ _ (by rw [h.c1]; rfl), by rw [World.cell?_setCell_other (h := addr_ne (by decide))]; exact h.c2, by rw [World.cell?_setCell_other (h := addr_ne (by decide))]; exact h.c3, by rw [World.cell?_setCell_other (h := addr_ne (by decide))]; exact h.c4, by rw [World.cell?_setCell_other (h := addr_ne (by decide))]; exact h.c5, by rw [World.cell?_setCell_other (h := addr_ne (by decide))]; exact h.c6, by rw [World.cell?_setCell_other (h := addr_ne (by decide))]; exact h.c7, by rw [World.cell?_setCell_other (h := addr_ne (by decide))]; exact h.c8, fun i => by simp [h.f i], by simpa using h.hi⟩
theorem C9.s2 {w : World} {b : Nat} {v0 v1 v2 v3 v4 v5 v6 v7 v8 : Value} (h : C9 w b v0 v1 v2 v3 v4 v5 v6 v7 v8) (x : Value) : C9 (w.setCell ⟨b, 2, none⟩ x) b v0 v1 x v3 v4 v5 v6 v7 v8 := ⟨by rw [World.cell?_setCell_other (h := addr_ne (by decide))]; exact h.c0, by rw [World.cell?_setCell_other (h := addr_ne (by decide))]; exact h.c1, World.cell?_setCell_same' _ _ _ (by rw [h.c2]; rfl), by rw [World.cell?_setCell_other (h := addr_ne (by decide))]; exact h.c3, by rw [World.cell?_setCell_other (h := addr_ne (by decide))]; exact h.c4, by rw [World.cell?_setCell_other (h := addr_ne (by decide))]; exact h.c5, by rw [World.cell?_setCell_other (h := addr_ne (by decide))]; exact h.c6, by rw [World.cell?_setCell_other (h := addr_ne (by decide))]; exact h.c7, by rw [World.cell?_setCell_other (h := addr_ne (by decide))]; exact h.c8, fun i => by simp [h.f i], by simpa using h.hi⟩
theorem C9.s3 {w : World} {b : Nat} {v0 v1 v2 v3 v4 v5 v6 v7 v8 : Value} (h : C9 w b v0 v1 v2 v3 v4 v5 v6 v7 v8) (x : Value) : C9 (w.setCell ⟨b, 3, none⟩ x) b v0 v1 v2 x v4 v5 v6 v7 v8 := ⟨by rw [World.cell?_setCell_other (h := addr_ne (by decide))]; exact h.c0, by rw [World.cell?_setCell_other (h := addr_ne (by decide))]; exact h.c1, by rw [World.cell?_setCell_other (h := addr_ne (by decide))]; exact h.c2, World.cell?_setCell_same' _ _ _ (by rw [h.c3]; rfl), by rw [World.cell?_setCell_other (h := addr_ne (by decide))]; exact h.c4, by rw [World.cell?_setCell_other (h := addr_ne (by decide))]; exact h.c5, by rw [World.cell?_setCell_other (h := addr_ne (by decide))]; exact h.c6, by rw [World.cell?_setCell_other (h := addr_ne (by decide))]; exact h.c7, by rw [World.cell?_setCell_other (h := addr_ne (by decide))]; exact h.c8, fun i => by simp [h.f i], by simpa using h.hi⟩
theorem C9.s4 {w : World} {b : Nat} {v0 v1 v2 v3 v4 v5 v6 v7 v8 : Value} (h : C9 w b v0 v1 v2 v3 v4 v5 v6 v7 v8) (x : Value) : C9 (w.setCell ⟨b, 4, none⟩ x) b v0 v1 v2 v3 x v5 v6 v7 v8 := ⟨by rw [World.cell?_setCell_other (h := addr_ne (by decide))]; exact h.c0, by rw [World.cell?_setCell_other (h := addr_ne (by decide))]; exact h.c1, by rw [World.cell?_setCell_other (h := addr_ne (by decide))]; exact h.c2, by rw [World.cell?_setCell_other (h := addr_ne (by decide))]; exact h.c3, World.cell?_setCell_same' _ _ _ (by rw [h.c4]; rfl), by rw [World.cell?_setCell_other (h := addr_ne (by decide))]; exact h.c5, by rw [World.cell?_setCell_other (h := addr_ne (by decide))]; exact h.c6, by rw [World.cell?_setCell_other (h := addr_ne (by decide))]; exact h.c7, by rw [World.cell?_setCell_other (h := addr_ne (by decide))]; exact h.c8, fun i => by simp [h.f i], by simpa using h.hi⟩
theorem C9.s5 {w : World} {b : Nat} {v0 v1 v2 v3 v4 v5 v6 v7 v8 : Value} (h : C9 w b v0 v1 v2 v3 v4 v5 v6 v7 v8) (x : Value) : C9 (w.setCell ⟨b, 5, none⟩ x) b v0 v1 v2 v3 v4 x v6 v7 v8 := ⟨by rw [World.cell?_setCell_other (h := addr_ne (by decide))]; exact h.c0, by rw [World.cell?_setCell_other (h := addr_ne (by decide))]; exact h.c1, by rw [World.cell?_setCell_other (h := addr_ne (by decide))]; exact h.c2, by rw [World.cell?_setCell_other (h := addr_ne (by decide))]; exact h.c3, by rw [World.cell?_setCell_other (h := addr_ne (by decide))]; exact h.c4, World.cell?_setCell_same' _ _ _ (by rw [h.c5]; rfl), by rw [World.cell?_setCell_other (h := addr_ne (by decide))]; exact h.c6, by rw [World.cell?_setCell_other (h := addr_ne (by decide))]; exact h.c7, by rw [World.cell?_setCell_other (h := addr_ne (by decide))]; exact h.c8, fun i => by simp [h.f i], by simpa using h.hi⟩
theorem C9.s6 {w : World} {b : Nat} {v0 v1 v2 v3 v4 v5 v6 v7 v8 : Value} (h : C9 w b v0 v1 v2 v3 v4 v5 v6 v7 v8) (x : Value) : C9 (w.setCell ⟨b, 6, none⟩ x) b v0 v1 v2 v3 v4 v5 x v7 v8 := ⟨by rw [World.cell?_setCell_other (h := addr_ne (by decide))]; exact h.c0, by rw [World.cell?_setCell_other (h := addr_ne (by decide))]; exact h.c1, by rw [World.cell?_setCell_other (h := addr_ne (by decide))]; exact h.c2, by rw [World.cell?_setCell_other (h := addr_ne (by decide))]; exact h.c3, by rw [World.cell?_setCell_other (h := addr_ne (by decide))]; exact h.c4, by rw [World.cell?_setCell_other (h := addr_ne (by decide))]; exact h.c5, World.cell?_setCell_same' _ _ _ (by rw [h.c6]; rfl), by rw [World.cell?_setCell_other (h := addr_ne (by decide))]; exact h.c7, by rw [World.cell?_setCell_other (h := addr_ne (by decide))]; exact h.c8, fun i => by simp [h.f i], by simpa using h.hi⟩
theorem C9.s7 {w : World} {b : Nat} {v0 v1 v2 v3 v4 v5 v6 v7 v8 : Value} (h : C9 w b v0 v1 v2 v3 v4 v5 v6 v7 v8) (x : Value) : C9 (w.setCell ⟨b, 7, none⟩ x) b v0 v1 v2 v3 v4 v5 v6 x v8 := ⟨by rw [World.cell?_setCell_other (h := addr_ne (by decide))]; exact h.c0, by rw [World.cell?_setCell_other (h := addr_ne (by decide))]; exact h.c1, by rw [World.cell?_setCell_other (h := addr_ne (by decide))]; exact h.c2, by rw [World.cell?_setCell_other (h := addr_ne (by decide))]; exact h.c3, by rw [World.cell?_setCell_other (h := addr_ne (by decide))]; exact h.c4, by rw [World.cell?_setCell_other (h := addr_ne (by decide))]; exact h.c5, by rw [World.cell?_setCell_other (h := addr_ne (by decide))]; exact h.c6, World.cell?_setCell_same' _ _ _ (by rw [h.c7]; rfl), by rw [World.cell?_setCell_other (h := addr_ne (by decide))]; exact h.c8, fun i => by simp [h.f i], by simpa using h.hi⟩
theorem C9.s8 {w : World} {b : Nat} {v0 v1 v2 v3 v4 v5 v6 v7 v8 : Value} (h : C9 w b v0 v1 v2 v3 v4 v5 v6 v7 v8) (x : Value) : C9 (w.setCell ⟨b, 8, none⟩ x) b v0 v1 v2 v3 v4 v5 v6 v7 x := ⟨by rw [World.cell?_setCell_other (h := addr_ne (by decide))]; exact h.c0, by rw [World.cell?_setCell_other (h := addr_ne (by decide))]; exact h.c1, by rw [World.cell?_setCell_other (h := addr_ne (by decide))]; exact h.c2, by rw [World.cell?_setCell_other (h := addr_ne (by decide))]; exact h.c3, by rw [World.cell?_setCell_other (h := addr_ne (by decide))]; exact h.c4, by rw [World.cell?_setCell_other (h := addr_ne (by decide))]; exact h.c5, by rw [World.cell?_setCell_other (h := addr_ne (by decide))]; exact h.c6, by rw [World.cell?_setCell_other (h := addr_ne (by decide))]; exact h.c7, World.cell?_setCell_same' _ _ _ (by rw [h.c8]; rfl), fun i => by simp [h.f i], by simpa using h.hi⟩
theorem C9.put {w : World} {b : Nat} {v0 v1 v2 v3 v4 v5 v6 v7 v8 : Value} (h : C9 w b v0 v1 v2 v3 v4 v5 v6 v7 v8) (u0 u1 u2 u3 u4 u5 u6 u7 u8 : Value) : C9 (set9 w b u0 u1 u2 u3 u4 u5 u6 u7 u8) b u0 u1 u2 u3 u4 u5 u6 u7 u8 := (((((((((h.s0 u0).s1 u1).s2 u2).s3 u3).s4 u4).s5 u5).s6 u6).s7 u7).s8 u8)
theorem viewK {H : Type} {enc : TypeId × Value → H} {P : Program} {W : World} {base : Nat} {e : TypeId} {f0 f1 f2 f3 : Field} {v : Value} {d : DataW H} {p : List MemPlace} (he : P.underlying e = some (.struct #[f0, f1, f2, f3])) (ce : P.cellsOf e = 4)
    (o0 : f0.offset = 0) (o1 : f1.offset = 1) (o2 : f2.offset = 2) (o3 : f3.offset = 3) (c0 : P.cellsOf f0.type = 1) (c1 : P.cellsOf f1.type = 1) (c2 : P.cellsOf f2.type = 1) (c3 : P.cellsOf f3.type = 1) (u0 : P.underlying f0.type = some (.int .i64)) (u1 : P.underlying f1.type = some (.int .i64)) (u2 : P.underlying f2.type = some (.int .i64)) (u3 : P.underlying f3.type = some (.int .i64))
    (hok : Value.okWide P W .any base e v) (h : DataW.Trod enc P W 0 (fun _ => true) true e v d p) :
    ∃ (n0 n1 n2 n3 : Int), v = .agg #[.int .i64 n0, .int .i64 n1, .int .i64 n2, .int .i64 n3] := by
  obtain ⟨cs, rfl, hs⟩ := okWide_struct he hok
  obtain ⟨fuel, h2⟩ := h
  rw [ce] at hs
  obtain ⟨l⟩ := cs
  simp only [Value.cells] at h2
  obtain ⟨xs, k, hk, hxy, _, hxl, hf⟩ := DataW.trod_struct he h2
  match xs, hxl, l, hs with
  | [y0, y1, y2, y3], _, [v0, v1, v2, v3], _ =>
    have g0 := hf 0 f0 rfl
    have g1 := hf 1 f1 rfl
    have g2 := hf 2 f2 rfl
    have g3 := hf 3 f3 rfl
    simp [o0, o1, o2, o3, c0, c1, c2, c3] at g0 g1 g2 g3
    obtain ⟨n0, hv0, _, hw0⟩ := DataW.trod_int u0 g0
    obtain ⟨n1, hv1, _, hw1⟩ := DataW.trod_int u1 g1
    obtain ⟨n2, hv2, _, hw2⟩ := DataW.trod_int u2 g2
    obtain ⟨n3, hv3, _, hw3⟩ := DataW.trod_int u3 g3
    simp only [List.cons.injEq, and_true] at hv0 hv1 hv2 hv3
    subst hv0 hv1 hv2 hv3
    exact ⟨n0, n1, n2, n3, rfl⟩
/-- A part of a color is in 0..255. -/
def inB (x : Int) : Bool := decide (0 ≤ x) && decide (x ≤ 255)
/-- A good color. -/
def gdC (r g b a : Int) : Bool := inB r && (inB g && (inB b && inB a))
theorem inB_iff {x : Int} : inB x = true ↔ 0 ≤ x ∧ x ≤ 255 := by unfold inB; rw [Bool.and_eq_true, decide_eq_true_eq, decide_eq_true_eq]
theorem gdC_iff {r g b a : Int} : gdC r g b a = true ↔ (0 ≤ r ∧ r ≤ 255) ∧ (0 ≤ g ∧ g ≤ 255) ∧ (0 ≤ b ∧ b ≤ 255) ∧ (0 ≤ a ∧ a ≤ 255) := by
  unfold gdC; rw [Bool.and_eq_true, Bool.and_eq_true, Bool.and_eq_true, inB_iff, inB_iff, inB_iff, inB_iff]

theorem toK (r g b a : Int) (w : World) : Calls Try.prog 12 #[.agg #[.int .i64 r, .int .i64 g, .int .i64 b, .int .i64 a]] w fun e w' => e = .returned (.agg #[.int .i64 r, .int .i64 g, .int .i64 b, .int .i64 a]) ∧ Below w.heap.size w w' := by
  go_enter Try.func12, Try.ntmps12
  go_wp2
  exact bodyPost_ret (v := .agg #[.int .i64 r, .int .i64 g, .int .i64 b, .int .i64 a]) (by simp [results, Try.results12, go_sem]) rfl ⟨rfl, (((Below.refl _ _).alloc (Nat.le_refl _) _).alloc (by simp) _).alloc (by rw [World.size_alloc, World.size_alloc]; omega) _⟩
set_option maxHeartbeats 2000000 in
theorem part42 (x : Int) (w : World) : Calls Try.prog 42 #[.int .i64 x] w fun e w' => e = .returned (.bool (inB x)) ∧ w' = w := by
  rcases hq : inB x with _ | _
  all_goals unfold inB at hq
  · by_cases h0 : 0 ≤ x
    · have h1 : ¬ x ≤ 255 := by intro h; simp [h0, h] at hq
      go_enter Try.func42, Try.ntmps42
      go_wp2
      go_ret
      exact ⟨rfl, rfl⟩
    · go_enter Try.func42, Try.ntmps42
      go_wp2
      go_ret
      exact ⟨rfl, rfl⟩
  · have h0 : 0 ≤ x := by simp at hq; omega
    have h1 : x ≤ 255 := by simp at hq; omega
    go_enter Try.func42, Try.ntmps42
    go_wp2
    go_ret
    exact ⟨rfl, rfl⟩
end Go.Proofs.Ythkngcdfnemhaaa
