/- Rows of values that a call itself made and what stays of them; rows of commands: made, copied, compared, marked, held; a command as a parameter. -/
import Derived.Test.YtnbpncjbfnhkjaaRows
import Derived.WalkKit
import Derived.ProofKit
import Derived.OpenShut
import Derived.WalkLawsBesides
import Derived.Laws.BitsAll
import Derived.Deep.QuietTactic
import Derived.Deep.RegionWith
import Derived.Deep.RegionHeld3
import Derived.Deep.Grids
import Derived.Carry
import Derived.Deep.Slices
namespace Go.Proofs.Ytnbpncjbfnhkjaa
open Go.ChangeShapes Go.WideShapes Go.ChangeAt Go.RowKit
set_option linter.unusedVariables false

/-- n cells of block o, from its head on: one value each; each may be written. -/
structure Own (w : World) (o n : Nat) (f : Nat → Value) : Prop where
  cell : ∀ i, i < n → w.cell? ⟨o, i, none⟩ = some (f i)
  free : ∀ i, w.frozen? ⟨o, i, none⟩ = false
  hi : o < w.heap.size
theorem Own.set {w : World} {o n : Nat} {f g : Nat → Value} (h : Own w o n f) (j : Nat) (v : Value) (hj : j < n) (hg : ∀ i, i < n → g i = if i = j then v else f i) : Own (w.setCell ⟨o, j, none⟩ v) o n g := by
  refine ⟨fun i hi => ?_, fun i => ?_, by simpa using h.hi⟩
  · rw [hg i hi]
    by_cases e : i = j
    · subst e
      rw [if_pos rfl]
      exact World.cell?_setCell_same' w _ _ (by rw [h.cell i hj]; rfl)
    · rw [if_neg e]
      have hne : (⟨o, j, none⟩ : Addr) ≠ ⟨o, i, none⟩ := by
        intro k; injection k with _ k2; exact e k2.symm
      rw [World.cell?_setCell_other (h := hne)]
      exact h.cell i hi
  · simp [h.free i]
theorem Own.mono {w : World} {o n m : Nat} {f g : Nat → Value} (h : Own w o n f) (hm : m ≤ n) (hg : ∀ i, i < m → g i = f i) : Own w o m g :=
  ⟨fun i hi => by rw [hg i hi]; exact h.cell i (by omega), h.free, h.hi⟩
/-- All blocks but one are as they were. -/
structure Only (o : Nat) (w w' : World) : Prop where
  os : w'.os = w.os
  tape : w'.tape = w.tape
  output : w'.output = w.output
  size : w.heap.size ≤ w'.heap.size
  block : ∀ k, k < w.heap.size → k ≠ o → w'.heap[k]? = w.heap[k]?
theorem Only.refl (o : Nat) (w : World) : Only o w w := ⟨rfl, rfl, rfl, Nat.le_refl _, fun _ _ _ => rfl⟩
theorem Only.trans {o : Nat} {a b c : World} (h : Only o a b) (k : Only o b c) : Only o a c :=
  ⟨k.os.trans h.os, k.tape.trans h.tape, k.output.trans h.output, Nat.le_trans h.size k.size, fun i hi ho => (k.block i (by have := h.size; omega) ho).trans (h.block i hi ho)⟩
theorem Only.setCell {o : Nat} {a w : World} (h : Only o a w) (j : Nat) (v : Value) : Only o a (w.setCell ⟨o, j, none⟩ v) :=
  h.trans ⟨rfl, rfl, rfl, by simp [World.setCell], fun k _ hk => Below.heap_setCell _ _ _ _ hk⟩
theorem Only.drewN {o : Nat} {a w : World} (h : Only o a w) (q : Nat) : Only o a (w.drewN q) := ⟨h.os, h.tape, h.output, h.size, h.block⟩
theorem Only.below {o B : Nat} {a w : World} (h : Only o a w) (hB : B ≤ o) (hs : B ≤ a.heap.size) : Below B a w := ⟨h.os, h.tape, h.output, h.size, fun k hk => h.block k (by omega) (by omega)⟩
theorem Only.ofBelow {o : Nat} {a w : World} (h : Below a.heap.size a w) : Only o a w := ⟨h.os, h.tape, h.output, h.size, fun k hk _ => h.block k hk⟩
theorem below_drewN {B : Nat} {a w : World} (h : Below B a w) (q : Nat) : Below B a (w.drewN q) := ⟨h.os, h.tape, h.output, h.size, h.block⟩
theorem drew2 (w : World) (a b : Nat) : (w.drewN a).drewN b = w.drewN (a + b) := by simp [World.drewN, Nat.add_assoc]
theorem Own.drewN {w : World} {o n : Nat} {f : Nat → Value} (h : Own w o n f) (q : Nat) : Own (w.drewN q) o n f := ⟨fun i hi => (h.cell i hi : w.cell? _ = _), fun i => h.free i, h.hi⟩
theorem Own.next {w w' : World} {o n : Nat} {f : Nat → Value} (h : Own w o n f) (hb : Below w.heap.size w w') : Own w' o n f := by
  have z := hb.size
  have zh := h.hi
  exact ⟨fun i hi => (hb.cell (p := ⟨o, i, none⟩) h.hi).trans (h.cell i hi), fun i => (hb.frozen (p := ⟨o, i, none⟩) h.hi).trans (h.free i), by omega⟩
theorem Own.but {w w' : World} {o p n : Nat} {f : Nat → Value} (h : Own w o n f) (hb : Only p w w') (hne : o ≠ p) : Own w' o n f := by
  have z := hb.size
  have zh := h.hi
  exact ⟨fun i hi => (World.cell?_of_block (w := w) (a := ⟨o, i, none⟩) (hb.block o zh hne)).trans (h.cell i hi), fun i => (World.frozen?_of_block (w := w) (a := ⟨o, i, none⟩) (hb.block o zh hne)).trans (h.free i), by omega⟩
theorem own_made {w : World} {B n t : Nat} {z : Value} {w' : World} (h : w'.ownsRow B t 1 (.slice (some ⟨w.heap.size, 0, none⟩) n n) n (madeCells #[z] (n * 1)).toList) : Own w' w.heap.size n (fun _ => z) := by
  refine ⟨fun i hi => ?_, fun i => h.frozenAt i, (h.lt _ rfl).2⟩
  rw [h.cellAt i (by omega)]
  simp [madeCells, hi, Nat.mod_one]
/-- A row behind appends: at most what is owned. -/
theorem own_owned {w : World} {B t g n cap : Nat} {xs : List Value} (h : w.ownsRow B t 1 (.slice (some ⟨g, 0, none⟩) n cap) n xs) (f : Nat → Value) (hf : ∀ i, i < n → xs[i]? = some (f i)) : Own w g n f :=
  ⟨fun i hi => by rw [h.cellAt i (by omega)]; exact hf i hi, fun i => h.frozenAt i, (h.lt _ rfl).2⟩
theorem Hid.mk {p : Prop} (h : p) : Hid p := h
theorem cell_nx {v v' : World} {p : Addr} {u : Value} (h : v.cell? p = some u) (k : Below v.heap.size v v') : v'.cell? p = some u := (k.cell (World.block_lt_of_cell? _ p h)).trans h
theorem alloc_b {v : World} {o : Obj} : Below v.heap.size v (v.alloc o) := (Below.refl _ _).alloc (Nat.le_refl _) _
theorem below_drew {B : Nat} {a w : World} (h : Below B a w) : Below B a w.drew := ⟨h.os, h.tape, h.output, h.size, h.block⟩
theorem below_grown {b : Nat} {w w1 w2 : World} {r : Option Nat} (h : Below b w w1) (hb : b ≤ w1.heap.size) (k : w1.grownBy w2 r) (hr : ∀ g, r = some g → b ≤ g) : Below b w w2 := h.grown k hb hr
theorem addr_ne {g o p : Nat} (h : o ≠ p) : (⟨g, o, none⟩ : Addr) ≠ ⟨g, p, none⟩ := fun e => h (by injection e)
theorem addr_ne' {g q o p : Nat} (h : g ≠ q) : (⟨g, o, none⟩ : Addr) ≠ ⟨q, p, none⟩ := fun e => h (by injection e)
/-- A slice that came in: n elements at a; of an empty one nothing is asked. -/
def Arg (w : World) (a : Option Addr) (n : Nat) (f : Nat → Value) : Prop := n = 0 ∨ ∃ b off, a = some ⟨b, off, none⟩ ∧ b < w.heap.size ∧ ∀ i, i < n → w.cell? ⟨b, off + i, none⟩ = some (f i)
theorem Arg.next {w w' : World} {a : Option Addr} {n : Nat} {f : Nat → Value} (h : Arg w a n f) (hb : Below w.heap.size w w') : Arg w' a n f := by
  rcases h with h | ⟨b, off, ha, hl, hc⟩
  · exact Or.inl h
  · exact Or.inr ⟨b, off, ha, by have := hb.size; omega, fun i hi => (hb.cell (p := ⟨b, off + i, none⟩) hl).trans (hc i hi)⟩
theorem zero_wf (k : IntKind) : (Lit.int k 0).wf = true := by cases k <;> rfl
theorem cell_put (w : World) (o i j : Nat) (v u : Value) (h : w.cell? ⟨o, i, none⟩ = some u) : (w.setCell ⟨o, j, none⟩ v).cell? ⟨o, i, none⟩ = some (if i = j then v else u) := by
  by_cases e : i = j
  · subst e
    rw [if_pos rfl]
    exact World.cell?_setCell_same' w _ _ (by rw [h]; rfl)
  · rw [if_neg e]
    have hne : (⟨o, j, none⟩ : Addr) ≠ ⟨o, i, none⟩ := by
      intro k; injection k with _ k2; exact e k2.symm
    rw [World.cell?_setCell_other (h := hne)]
    exact h
theorem upTo {α : Type} (f g : Nat → α) (k j : Nat) : (if j < k + 1 then f j else g j) = if j = k then f k else if j < k then f j else g j := by
  by_cases e1 : j = k
  · subst e1; simp
  · rw [if_neg e1]
    by_cases e2 : j < k
    · rw [if_pos e2, if_pos (by omega)]
    · rw [if_neg e2, if_neg (by omega)]
theorem grown_below {w w' : World} (hb : Below w.heap.size w w') (row : Option Nat) : w.grownBy w' row := ⟨hb.os, hb.tape, hb.output, hb.size, fun k hk _ => hb.block k hk⟩
theorem grown_trans {a b c : World} {row : Option Nat} (h : a.grownBy b row) (k : b.grownBy c row) : a.grownBy c row := ⟨k.os.trans h.os, k.tape.trans h.tape, k.output.trans h.output, Nat.le_trans h.size k.size, fun i hi hn => (k.block i (Nat.lt_of_lt_of_le hi h.size) hn).trans (h.block i hi hn)⟩
/-- n structs of block o, from its head on; each may be written. -/
structure RowC (w : World) (o n : Nat) (F0 : Nat → Int) (F1 : Nat → Int) (F2 : Nat → Int) (F3 : Nat → Int) (F4 : Nat → Int) : Prop where
  c0 : ∀ i, i < n → w.cell? ⟨o, i * 5, none⟩ = some (.int .i64 (F0 i))
  c1 : ∀ i, i < n → w.cell? ⟨o, i * 5 + 1, none⟩ = some (.int .i64 (F1 i))
  c2 : ∀ i, i < n → w.cell? ⟨o, i * 5 + 2, none⟩ = some (.int .i64 (F2 i))
  c3 : ∀ i, i < n → w.cell? ⟨o, i * 5 + 3, none⟩ = some (.int .i64 (F3 i))
  c4 : ∀ i, i < n → w.cell? ⟨o, i * 5 + 4, none⟩ = some (.int .i64 (F4 i))
  free : ∀ i, w.frozen? ⟨o, i, none⟩ = false
  hi : o < w.heap.size
theorem RowC.mono {w : World} {o n m : Nat} {F0 : Nat → Int} {F1 : Nat → Int} {F2 : Nat → Int} {F3 : Nat → Int} {F4 : Nat → Int} {G0 : Nat → Int} {G1 : Nat → Int} {G2 : Nat → Int} {G3 : Nat → Int} {G4 : Nat → Int} (h : RowC w o n F0 F1 F2 F3 F4) (hm : m ≤ n) (h0 : ∀ i, i < m → G0 i = F0 i) (h1 : ∀ i, i < m → G1 i = F1 i) (h2 : ∀ i, i < m → G2 i = F2 i) (h3 : ∀ i, i < m → G3 i = F3 i) (h4 : ∀ i, i < m → G4 i = F4 i) : RowC w o m G0 G1 G2 G3 G4 :=
  ⟨fun i hi => by rw [h0 i hi]; exact h.c0 i (by omega), fun i hi => by rw [h1 i hi]; exact h.c1 i (by omega), fun i hi => by rw [h2 i hi]; exact h.c2 i (by omega), fun i hi => by rw [h3 i hi]; exact h.c3 i (by omega), fun i hi => by rw [h4 i hi]; exact h.c4 i (by omega), h.free, h.hi⟩
theorem RowC.next {w w' : World} {o n : Nat} {F0 : Nat → Int} {F1 : Nat → Int} {F2 : Nat → Int} {F3 : Nat → Int} {F4 : Nat → Int} (h : RowC w o n F0 F1 F2 F3 F4) (hb : Below w.heap.size w w') : RowC w' o n F0 F1 F2 F3 F4 := by
  have z := hb.size
  have zh := h.hi
  exact ⟨fun i hi => (hb.cell (p := ⟨o, i * 5, none⟩) h.hi).trans (h.c0 i hi), fun i hi => (hb.cell (p := ⟨o, i * 5 + 1, none⟩) h.hi).trans (h.c1 i hi), fun i hi => (hb.cell (p := ⟨o, i * 5 + 2, none⟩) h.hi).trans (h.c2 i hi), fun i hi => (hb.cell (p := ⟨o, i * 5 + 3, none⟩) h.hi).trans (h.c3 i hi), fun i hi => (hb.cell (p := ⟨o, i * 5 + 4, none⟩) h.hi).trans (h.c4 i hi), fun i => (hb.frozen (p := ⟨o, i, none⟩) h.hi).trans (h.free i), by omega⟩
theorem RowC.drewN {w : World} {o n : Nat} {F0 : Nat → Int} {F1 : Nat → Int} {F2 : Nat → Int} {F3 : Nat → Int} {F4 : Nat → Int} (h : RowC w o n F0 F1 F2 F3 F4) (q : Nat) : RowC (w.drewN q) o n F0 F1 F2 F3 F4 := ⟨h.c0, h.c1, h.c2, h.c3, h.c4, h.free, h.hi⟩
theorem RowC.grown {w w' : World} {o n : Nat} {F0 : Nat → Int} {F1 : Nat → Int} {F2 : Nat → Int} {F3 : Nat → Int} {F4 : Nat → Int} {row : Option Nat} (h : RowC w o n F0 F1 F2 F3 F4) (hb : w.grownBy w' row) (hne : some o ≠ row) : RowC w' o n F0 F1 F2 F3 F4 := by
  have z := hb.size
  have zh := h.hi
  have b := hb.block o zh hne
  exact ⟨fun i hi => (World.cell?_of_block (w := w) (a := ⟨o, i * 5, none⟩) b).trans (h.c0 i hi), fun i hi => (World.cell?_of_block (w := w) (a := ⟨o, i * 5 + 1, none⟩) b).trans (h.c1 i hi), fun i hi => (World.cell?_of_block (w := w) (a := ⟨o, i * 5 + 2, none⟩) b).trans (h.c2 i hi), fun i hi => (World.cell?_of_block (w := w) (a := ⟨o, i * 5 + 3, none⟩) b).trans (h.c3 i hi), fun i hi => (World.cell?_of_block (w := w) (a := ⟨o, i * 5 + 4, none⟩) b).trans (h.c4 i hi), fun i => (World.frozen?_of_block (w := w) (a := ⟨o, i, none⟩) b).trans (h.free i), by omega⟩
theorem RowC.set0 {w : World} {o n : Nat} {F0 : Nat → Int} {F1 : Nat → Int} {F2 : Nat → Int} {F3 : Nat → Int} {F4 : Nat → Int} (h : RowC w o n F0 F1 F2 F3 F4) (q : Nat) (a : Int) : RowC (w.setCell ⟨o, q * 5, none⟩ (.int .i64 a)) o n (fun i => if i = q then a else F0 i) F1 F2 F3 F4 := by
  refine ⟨fun i hi => ?_, fun i hi => ?_, fun i hi => ?_, fun i hi => ?_, fun i hi => ?_, fun i => by simp [h.free i], by simpa using h.hi⟩
  · rw [cell_put _ _ _ _ _ _ (h.c0 i hi)]
    by_cases e : i = q
    · subst e; simp
    · rw [if_neg (by omega)]; simp [e]
  · rw [cell_put _ _ _ _ _ _ (h.c1 i hi), if_neg (by omega)]
  · rw [cell_put _ _ _ _ _ _ (h.c2 i hi), if_neg (by omega)]
  · rw [cell_put _ _ _ _ _ _ (h.c3 i hi), if_neg (by omega)]
  · rw [cell_put _ _ _ _ _ _ (h.c4 i hi), if_neg (by omega)]
theorem RowC.set1 {w : World} {o n : Nat} {F0 : Nat → Int} {F1 : Nat → Int} {F2 : Nat → Int} {F3 : Nat → Int} {F4 : Nat → Int} (h : RowC w o n F0 F1 F2 F3 F4) (q : Nat) (a : Int) : RowC (w.setCell ⟨o, q * 5 + 1, none⟩ (.int .i64 a)) o n F0 (fun i => if i = q then a else F1 i) F2 F3 F4 := by
  refine ⟨fun i hi => ?_, fun i hi => ?_, fun i hi => ?_, fun i hi => ?_, fun i hi => ?_, fun i => by simp [h.free i], by simpa using h.hi⟩
  · rw [cell_put _ _ _ _ _ _ (h.c0 i hi), if_neg (by omega)]
  · rw [cell_put _ _ _ _ _ _ (h.c1 i hi)]
    by_cases e : i = q
    · subst e; simp
    · rw [if_neg (by omega)]; simp [e]
  · rw [cell_put _ _ _ _ _ _ (h.c2 i hi), if_neg (by omega)]
  · rw [cell_put _ _ _ _ _ _ (h.c3 i hi), if_neg (by omega)]
  · rw [cell_put _ _ _ _ _ _ (h.c4 i hi), if_neg (by omega)]
theorem RowC.set2 {w : World} {o n : Nat} {F0 : Nat → Int} {F1 : Nat → Int} {F2 : Nat → Int} {F3 : Nat → Int} {F4 : Nat → Int} (h : RowC w o n F0 F1 F2 F3 F4) (q : Nat) (a : Int) : RowC (w.setCell ⟨o, q * 5 + 2, none⟩ (.int .i64 a)) o n F0 F1 (fun i => if i = q then a else F2 i) F3 F4 := by
  refine ⟨fun i hi => ?_, fun i hi => ?_, fun i hi => ?_, fun i hi => ?_, fun i hi => ?_, fun i => by simp [h.free i], by simpa using h.hi⟩
  · rw [cell_put _ _ _ _ _ _ (h.c0 i hi), if_neg (by omega)]
  · rw [cell_put _ _ _ _ _ _ (h.c1 i hi), if_neg (by omega)]
  · rw [cell_put _ _ _ _ _ _ (h.c2 i hi)]
    by_cases e : i = q
    · subst e; simp
    · rw [if_neg (by omega)]; simp [e]
  · rw [cell_put _ _ _ _ _ _ (h.c3 i hi), if_neg (by omega)]
  · rw [cell_put _ _ _ _ _ _ (h.c4 i hi), if_neg (by omega)]
theorem RowC.set3 {w : World} {o n : Nat} {F0 : Nat → Int} {F1 : Nat → Int} {F2 : Nat → Int} {F3 : Nat → Int} {F4 : Nat → Int} (h : RowC w o n F0 F1 F2 F3 F4) (q : Nat) (a : Int) : RowC (w.setCell ⟨o, q * 5 + 3, none⟩ (.int .i64 a)) o n F0 F1 F2 (fun i => if i = q then a else F3 i) F4 := by
  refine ⟨fun i hi => ?_, fun i hi => ?_, fun i hi => ?_, fun i hi => ?_, fun i hi => ?_, fun i => by simp [h.free i], by simpa using h.hi⟩
  · rw [cell_put _ _ _ _ _ _ (h.c0 i hi), if_neg (by omega)]
  · rw [cell_put _ _ _ _ _ _ (h.c1 i hi), if_neg (by omega)]
  · rw [cell_put _ _ _ _ _ _ (h.c2 i hi), if_neg (by omega)]
  · rw [cell_put _ _ _ _ _ _ (h.c3 i hi)]
    by_cases e : i = q
    · subst e; simp
    · rw [if_neg (by omega)]; simp [e]
  · rw [cell_put _ _ _ _ _ _ (h.c4 i hi), if_neg (by omega)]
theorem RowC.set4 {w : World} {o n : Nat} {F0 : Nat → Int} {F1 : Nat → Int} {F2 : Nat → Int} {F3 : Nat → Int} {F4 : Nat → Int} (h : RowC w o n F0 F1 F2 F3 F4) (q : Nat) (a : Int) : RowC (w.setCell ⟨o, q * 5 + 4, none⟩ (.int .i64 a)) o n F0 F1 F2 F3 (fun i => if i = q then a else F4 i) := by
  refine ⟨fun i hi => ?_, fun i hi => ?_, fun i hi => ?_, fun i hi => ?_, fun i hi => ?_, fun i => by simp [h.free i], by simpa using h.hi⟩
  · rw [cell_put _ _ _ _ _ _ (h.c0 i hi), if_neg (by omega)]
  · rw [cell_put _ _ _ _ _ _ (h.c1 i hi), if_neg (by omega)]
  · rw [cell_put _ _ _ _ _ _ (h.c2 i hi), if_neg (by omega)]
  · rw [cell_put _ _ _ _ _ _ (h.c3 i hi), if_neg (by omega)]
  · rw [cell_put _ _ _ _ _ _ (h.c4 i hi)]
    by_cases e : i = q
    · subst e; simp
    · rw [if_neg (by omega)]; simp [e]
/-- A slice of n structs that a call made, or none. -/
def RowCV (w : World) (v : Value) (n : Nat) (F0 : Nat → Int) (F1 : Nat → Int) (F2 : Nat → Int) (F3 : Nat → Int) (F4 : Nat → Int) : Prop := (n = 0 ∧ v = .slice none 0 0) ∨ ∃ o c, v = .slice (some ⟨o, 0, none⟩) n c ∧ RowC w o n F0 F1 F2 F3 F4
theorem RowCV.grown {w w' : World} {v : Value} {n : Nat} {F0 : Nat → Int} {F1 : Nat → Int} {F2 : Nat → Int} {F3 : Nat → Int} {F4 : Nat → Int} {row : Option Nat} (h : RowCV w v n F0 F1 F2 F3 F4) (hb : w.grownBy w' row) (hne : v.ownBlock = none ∨ v.ownBlock ≠ row) : RowCV w' v n F0 F1 F2 F3 F4 := by
  rcases h with h | ⟨o, c, rfl, R⟩
  · exact Or.inl h
  · exact Or.inr ⟨o, c, rfl, R.grown hb (by simpa [Value.ownBlock] using hne)⟩
theorem RowCV.next {w w' : World} {v : Value} {n : Nat} {F0 : Nat → Int} {F1 : Nat → Int} {F2 : Nat → Int} {F3 : Nat → Int} {F4 : Nat → Int} (h : RowCV w v n F0 F1 F2 F3 F4) (hb : Below w.heap.size w w') : RowCV w' v n F0 F1 F2 F3 F4 := h.grown (grown_below hb none) (by cases hv : v.ownBlock <;> simp)
theorem RowCV.is {w : World} {v : Value} {n : Nat} {F0 : Nat → Int} {F1 : Nat → Int} {F2 : Nat → Int} {F3 : Nat → Int} {F4 : Nat → Int} (R : RowCV w v n F0 F1 F2 F3 F4) : ∃ a l c, v = .slice a l c := by
  rcases R with ⟨_, rfl⟩ | ⟨o, c, rfl, _⟩
  · exact ⟨_, _, _, rfl⟩
  · exact ⟨_, _, _, rfl⟩
theorem RowCV.lt {w : World} {v : Value} {n : Nat} {F0 : Nat → Int} {F1 : Nat → Int} {F2 : Nat → Int} {F3 : Nat → Int} {F4 : Nat → Int} (h : RowCV w v n F0 F1 F2 F3 F4) : ∀ g, v.ownBlock = some g → g < w.heap.size := by
  rcases h with ⟨_, rfl⟩ | ⟨o, c, rfl, R⟩
  · intro g hg; simp [Value.ownBlock] at hg
  · intro g hg; simp [Value.ownBlock] at hg; subst hg; exact R.hi
abbrev TupC := Int × Int × Int × Int × Int
def cellsC : List TupC → List Value
  | [] => []
  | t :: r => .int .i64 (t.1) :: .int .i64 (t.2.1) :: .int .i64 (t.2.2.1) :: .int .i64 (t.2.2.2.1) :: .int .i64 (t.2.2.2.2) :: cellsC r
theorem cellsC_app : ∀ (l m : List TupC), cellsC (l ++ m) = cellsC l ++ cellsC m
  | [], m => rfl
  | t :: r, m => by simp [cellsC, cellsC_app r m]
def atC0 (l : List TupC) (i : Nat) : Int := (l.getD i (0, 0, 0, 0, 0)).1
def atC1 (l : List TupC) (i : Nat) : Int := (l.getD i (0, 0, 0, 0, 0)).2.1
def atC2 (l : List TupC) (i : Nat) : Int := (l.getD i (0, 0, 0, 0, 0)).2.2.1
def atC3 (l : List TupC) (i : Nat) : Int := (l.getD i (0, 0, 0, 0, 0)).2.2.2.1
def atC4 (l : List TupC) (i : Nat) : Int := (l.getD i (0, 0, 0, 0, 0)).2.2.2.2
theorem cellsC_at : ∀ (l : List TupC) (i : Nat), i < l.length → (cellsC l)[i * 5]? = some (.int .i64 (atC0 l i)) ∧ (cellsC l)[i * 5 + 1]? = some (.int .i64 (atC1 l i)) ∧ (cellsC l)[i * 5 + 2]? = some (.int .i64 (atC2 l i)) ∧ (cellsC l)[i * 5 + 3]? = some (.int .i64 (atC3 l i)) ∧ (cellsC l)[i * 5 + 4]? = some (.int .i64 (atC4 l i))
  | [], i, h => by simp at h
  | t :: r, 0, h => ⟨rfl, rfl, rfl, rfl, rfl⟩
  | t :: r, i + 1, h => by
    have q := cellsC_at r i (by simpa using h)
    rw [cellsC, show (i + 1) * 5 = i * 5 + 1 + 1 + 1 + 1 + 1 from by omega]
    simpa [atC0, atC1, atC2, atC3, atC4] using q
theorem rowvC_of {w : World} {B : Nat} {v : Value} {l : List TupC} (h : w.ownsRow B 35 5 v l.length (cellsC l)) : RowCV w v l.length (atC0 l) (atC1 l) (atC2 l) (atC3 l) (atC4 l) := by
  rcases h.2 with ⟨rfl, h0⟩ | ⟨g, cap, cur, rfl, _⟩
  · exact Or.inl ⟨h0, rfl⟩
  · refine Or.inr ⟨g, cap, rfl, ⟨fun i hi => ?_, fun i hi => ?_, fun i hi => ?_, fun i hi => ?_, fun i hi => ?_, fun i => h.frozenAt i, (h.lt _ rfl).2⟩⟩
    · rw [h.cellAt (i * 5) (by omega)]; exact (cellsC_at l i hi).1
    · rw [h.cellAt (i * 5 + 1) (by omega)]; exact (cellsC_at l i hi).2.1
    · rw [h.cellAt (i * 5 + 2) (by omega)]; exact (cellsC_at l i hi).2.2.1
    · rw [h.cellAt (i * 5 + 3) (by omega)]; exact (cellsC_at l i hi).2.2.2.1
    · rw [h.cellAt (i * 5 + 4) (by omega)]; exact (cellsC_at l i hi).2.2.2.2
set_option maxRecDepth 100000 in
set_option maxHeartbeats 1000000 in
theorem eqOneC (x0 : Int) (x1 : Int) (x2 : Int) (x3 : Int) (x4 : Int) (w : World) : Calls Try.prog 39 #[.agg #[.int .i64 x0, .int .i64 x1, .int .i64 x2, .int .i64 x3, .int .i64 x4], .agg #[.int .i64 x0, .int .i64 x1, .int .i64 x2, .int .i64 x3, .int .i64 x4]] w fun r w' => r = .returned (.bool true) ∧ Below w.heap.size w w' := by
  go_enter Try.func39, Try.ntmps39
  go_wp2
  go_ret
  exact ⟨rfl, by repeat (first | (with_reducible refine Below.setCell ?_ (by first | omega | (simp; try omega)) _) | (with_reducible refine Below.alloc ?_ (by first | omega | (simp; try omega)) _) | (with_reducible exact Below.refl _ _))⟩
set_option maxRecDepth 100000 in
set_option maxHeartbeats 1000000 in
theorem eqRowC {n a b : Nat} {F0 : Nat → Int} {F1 : Nat → Int} {F2 : Nat → Int} {F3 : Nat → Int} {F4 : Nat → Int} {w : World} (X : RowC w a n F0 F1 F2 F3 F4) (Y : RowC w b n F0 F1 F2 F3 F4) (ca cb : Nat) (hn : n ≤ 1048576) :
    Calls Try.prog 20 #[.slice (some ⟨a, 0, none⟩) n ca, .slice (some ⟨b, 0, none⟩) n cb] w fun r w' => r = .returned (.bool true) ∧ Below w.heap.size w w' := by
  go_enter Try.func20, Try.ntmps20
  go_wp2
  go_loopw [5] (fun i wx => ∃ k : Nat, k ≤ n ∧ i = .int .i64 k ∧ Below w.heap.size w wx) (fun i _ => n - (intOf i).toNat)
  case atStart => exact ⟨0, by omega, rfl, Below.refl _ _⟩
  case round =>
    obtain ⟨k, hk, rfl, B⟩ := hrel
    by_cases hkn : k < n
    · have XX := X.next B
      have YY := Y.next B
      have a0 := XX.c0 k hkn
      have b0 := YY.c0 k hkn
      have a1 := XX.c1 k hkn
      have b1 := YY.c1 k hkn
      have a2 := XX.c2 k hkn
      have b2 := YY.c2 k hkn
      have a3 := XX.c3 k hkn
      have b3 := YY.c3 k hkn
      have a4 := XX.c4 k hkn
      have b4 := YY.c4 k hkn
      have i0 : (0 : Int) ≤ (k : Int) := by omega
      have i1 : (k : Int) < (n : Int) := by omega
      go_wp2
      go_region_with (go_at_call 39; refine (eqOneC (F0 k) (F1 k) (F2 k) (F3 k) (F4 k) _).mono ?_; rintro e w2 ⟨rfl, B2⟩; (have B3 : Below wr.heap.size wr w2 := ⟨B2.os, B2.tape, B2.output, B2.size, B2.block⟩))
      all_goals
        go_wp2
        go_roundw
        case rel => exact ⟨k + 1, by omega, by go_num, B.trans (B3.mono B.size)⟩
        case measure => simp [intOf]; omega
    · have hkk : k = n := by omega
      subst hkk
      go_wp2
      go_ret
      exact ⟨rfl, B⟩
set_option maxRecDepth 100000 in
theorem eqRowC0 (a b : Option Addr) (ca cb : Nat) (w : World) : Calls Try.prog 20 #[.slice a 0 ca, .slice b 0 cb] w fun r w' => r = .returned (.bool true) ∧ Below w.heap.size w w' := by
  go_enter Try.func20, Try.ntmps20
  go_wp2
  refine wp_loop_rounds 1 ?_
  rw [rounds_succ]
  go_wp2
  go_ret
  exact ⟨rfl, Below.refl _ _⟩
theorem eqRowCV {w : World} {u v : Value} {n : Nat} {F0 : Nat → Int} {F1 : Nat → Int} {F2 : Nat → Int} {F3 : Nat → Int} {F4 : Nat → Int} (X : RowCV w u n F0 F1 F2 F3 F4) (Y : RowCV w v n F0 F1 F2 F3 F4) (hn : n ≤ 1048576) :
    Calls Try.prog 20 #[u, v] w fun r w' => r = .returned (.bool true) ∧ Below w.heap.size w w' := by
  rcases X with ⟨rfl, rfl⟩ | ⟨o, c, rfl, X⟩
  · rcases Y with ⟨_, rfl⟩ | ⟨o, c, rfl, Y⟩
    · exact eqRowC0 _ _ _ _ w
    · exact eqRowC0 _ _ _ _ w
  · rcases Y with ⟨h0, rfl⟩ | ⟨o', c', rfl, Y⟩
    · subst h0; exact eqRowC0 _ _ _ _ w
    · exact eqRowC X Y _ _ hn
def mkC0 (i : Nat) : Int := ((1 + 5 * i : Nat) : Int)
def mkC1 (i : Nat) : Int := ((1 + 5 * i + 1 : Nat) : Int)
def mkC2 (i : Nat) : Int := ((1 + 5 * i + 2 : Nat) : Int)
def mkC3 (i : Nat) : Int := ((1 + 5 * i + 3 : Nat) : Int)
def mkC4 (i : Nat) : Int := ((1 + 5 * i + 4 : Nat) : Int)
set_option maxHeartbeats 2000000 in
set_option maxRecDepth 100000 in
theorem markC {w : World} {o n : Nat} {F0 : Nat → Int} {F1 : Nat → Int} {F2 : Nat → Int} {F3 : Nat → Int} {F4 : Nat → Int} (R : RowC w o n F0 F1 F2 F3 F4) (c : Nat) (hn : n ≤ 1048576) :
    Calls Try.prog 28 #[.slice (some ⟨o, 0, none⟩) n c, .int .i64 1] w fun r w' => r = .returned (.int .i64 ((1 + 5 * n : Nat) : Int)) ∧ RowC w' o n mkC0 mkC1 mkC2 mkC3 mkC4 ∧ Only o w w' := by
  go_enter Try.func28, Try.ntmps28
  go_wp2
  go_loopw [1, 5] (fun l i wr => ∃ k : Nat, k ≤ n ∧ i = .int .i64 k ∧ l = .int .i64 ((1 + 5 * k : Nat) : Int) ∧ RowC wr o n (fun j => if j < k then mkC0 j else F0 j) (fun j => if j < k then mkC1 j else F1 j) (fun j => if j < k then mkC2 j else F2 j) (fun j => if j < k then mkC3 j else F3 j) (fun j => if j < k then mkC4 j else F4 j) ∧ Only o w wr) (fun _ i _ => n - (intOf i).toNat)
  case atStart => exact ⟨0, by omega, rfl, rfl, R.mono (Nat.le_refl _) (fun j _ => by simp) (fun j _ => by simp) (fun j _ => by simp) (fun j _ => by simp) (fun j _ => by simp), Only.refl _ _⟩
  case round =>
    obtain ⟨k, hk, rfl, rfl, RK, OK⟩ := hrel
    by_cases hkn : k < n
    · have i1 : (k : Int) < (n : Int) := by omega
      have i0 : (0 : Int) ≤ (k : Int) := by omega
      obtain ⟨M, hM⟩ : ∃ M : Nat, 1 + 5 * k = M := ⟨_, rfl⟩
      have M0 : M ≤ 5242881 := by omega
      have HM : Hid (1 + 5 * k = M) := hM
      rw [hM]
      have f0 := RK.free (k * 5)
      have g0 : wr.cell? ⟨o, k * 5, none⟩ = some (.int .i64 (F0 k)) := by have := RK.c0 k hkn; simpa using this
      have f1 := RK.free (k * 5 + 1)
      have g1 : wr.cell? ⟨o, k * 5 + 1, none⟩ = some (.int .i64 (F1 k)) := by have := RK.c1 k hkn; simpa using this
      have f2 := RK.free (k * 5 + 2)
      have g2 : wr.cell? ⟨o, k * 5 + 2, none⟩ = some (.int .i64 (F2 k)) := by have := RK.c2 k hkn; simpa using this
      have f3 := RK.free (k * 5 + 3)
      have g3 : wr.cell? ⟨o, k * 5 + 3, none⟩ = some (.int .i64 (F3 k)) := by have := RK.c3 k hkn; simpa using this
      have f4 := RK.free (k * 5 + 4)
      have g4 : wr.cell? ⟨o, k * 5 + 4, none⟩ = some (.int .i64 (F4 k)) := by have := RK.c4 k hkn; simpa using this
      have R0a := RK.set0 k (((M : Nat) : Int))
      have O0a := OK.setCell (k * 5) (.int .i64 (((M : Nat) : Int)))
      have R1a := R0a.set1 k (((M : Nat) : Int) + 1)
      have O1a := O0a.setCell (k * 5 + 1) (.int .i64 (((M : Nat) : Int) + 1))
      have R2a := R1a.set2 k (((M : Nat) : Int) + 1 + 1)
      have O2a := O1a.setCell (k * 5 + 2) (.int .i64 (((M : Nat) : Int) + 1 + 1))
      have R3a := R2a.set3 k (((M : Nat) : Int) + 1 + 1 + 1)
      have O3a := O2a.setCell (k * 5 + 3) (.int .i64 (((M : Nat) : Int) + 1 + 1 + 1))
      have R4a := R3a.set4 k (((M : Nat) : Int) + 1 + 1 + 1 + 1)
      have O4a := O3a.setCell (k * 5 + 4) (.int .i64 (((M : Nat) : Int) + 1 + 1 + 1 + 1))
      have HR0 : Hid (_) := R4a
      have HO0 : Hid (_) := O4a
      clear R0a O0a R1a O1a R2a O2a R3a O3a R4a O4a RK OK
      clear hM
      go_wp2
      have hM := HM.out
      have q0 : mkC0 k = ((M : Nat) : Int) := by unfold mkC0; rw [hM]
      have q1 : mkC1 k = ((M : Nat) : Int) + 1 := by unfold mkC1; rw [hM]; omega
      have q2 : mkC2 k = ((M : Nat) : Int) + 1 + 1 := by unfold mkC2; rw [hM]; omega
      have q3 : mkC3 k = ((M : Nat) : Int) + 1 + 1 + 1 := by unfold mkC3; rw [hM]; omega
      have q4 : mkC4 k = ((M : Nat) : Int) + 1 + 1 + 1 + 1 := by unfold mkC4; rw [hM]; omega
      refine ⟨⟨k + 1, by omega, by go_num, by congr 1; omega, (HR0.out).mono (Nat.le_refl _) (fun j _ => ?_) (fun j _ => ?_) (fun j _ => ?_) (fun j _ => ?_) (fun j _ => ?_), HO0.out⟩, by simp [intOf]; omega⟩
      · rw [← q0]; exact upTo mkC0 F0 k j
      · rw [← q1]; exact upTo mkC1 F1 k j
      · rw [← q2]; exact upTo mkC2 F2 k j
      · rw [← q3]; exact upTo mkC3 F3 k j
      · rw [← q4]; exact upTo mkC4 F4 k j
    · have hkk : k = n := by omega
      subst hkk
      go_wp2
      go_ret
      exact ⟨rfl, RK.mono (Nat.le_refl _) (fun j hj => by simp [hj]) (fun j hj => by simp [hj]) (fun j hj => by simp [hj]) (fun j hj => by simp [hj]) (fun j hj => by simp [hj]), OK⟩
set_option maxRecDepth 100000 in
theorem markC0 (a : Option Addr) (c : Nat) (w : World) : Calls Try.prog 28 #[.slice a 0 c, .int .i64 1] w fun r w' => r = .returned (.int .i64 1) ∧ w' = w := by
  go_enter Try.func28, Try.ntmps28
  go_wp2
  refine wp_loop_rounds 1 ?_
  rw [rounds_succ]
  go_wp2
  go_ret
  exact ⟨rfl, rfl⟩
theorem markCV {w : World} {v : Value} {n : Nat} {F0 : Nat → Int} {F1 : Nat → Int} {F2 : Nat → Int} {F3 : Nat → Int} {F4 : Nat → Int} (R : RowCV w v n F0 F1 F2 F3 F4) (hn : n ≤ 1048576) :
    Calls Try.prog 28 #[v, .int .i64 1] w fun r w' => r = .returned (.int .i64 ((1 + 5 * n : Nat) : Int)) ∧ RowCV w' v n mkC0 mkC1 mkC2 mkC3 mkC4 ∧ w.grownBy w' v.ownBlock := by
  rcases R with ⟨rfl, rfl⟩ | ⟨o, c, rfl, R⟩
  · exact (markC0 none 0 w).mono fun e w' ⟨h1, h2⟩ => ⟨h1, Or.inl ⟨rfl, rfl⟩, by rw [h2]; exact grown_below (Below.refl _ _) _⟩
  · exact (markC R c hn).mono fun e w' ⟨h1, h2, h3⟩ => ⟨h1, Or.inr ⟨o, c, rfl, h2⟩, ⟨h3.os, h3.tape, h3.output, h3.size, fun k hk hne => h3.block k hk (fun e => hne (by rw [e]; rfl))⟩⟩
set_option maxHeartbeats 2000000 in
set_option maxRecDepth 100000 in
theorem heldC {w : World} {o n : Nat} (R : RowC w o n mkC0 mkC1 mkC2 mkC3 mkC4) (c : Nat) (hn : n ≤ 1048576) :
    Calls Try.prog 29 #[.slice (some ⟨o, 0, none⟩) n c, .int .i64 1] w fun r w' => r = .returned (.int .i64 ((1 + 5 * n : Nat) : Int)) ∧ Below w.heap.size w w' := by
  go_enter Try.func29, Try.ntmps29
  go_wp2
  go_loopw [1, 5] (fun l i wx => ∃ k : Nat, k ≤ n ∧ i = .int .i64 k ∧ l = .int .i64 ((1 + 5 * k : Nat) : Int) ∧ Below w.heap.size w wx) (fun _ i _ => n - (intOf i).toNat)
  case atStart => exact ⟨0, by omega, rfl, rfl, Below.refl _ _⟩
  case round =>
    obtain ⟨k, hk, rfl, rfl, B⟩ := hrel
    by_cases hkn : k < n
    · have i1 : (k : Int) < (n : Int) := by omega
      have i0 : (0 : Int) ≤ (k : Int) := by omega
      obtain ⟨M, hM⟩ : ∃ M : Nat, 1 + 5 * k = M := ⟨_, rfl⟩
      have M0 : M ≤ 5242881 := by omega
      have RR := R.next B
      have HR : Hid (∀ w2, Below wr.heap.size wr w2 → w2.cell? ⟨o, k * 5, none⟩ = some (.int .i64 (((M : Nat) : Int))) ∧ w2.cell? ⟨o, k * 5 + 1, none⟩ = some (.int .i64 (((M : Nat) : Int) + 1)) ∧ w2.cell? ⟨o, k * 5 + 2, none⟩ = some (.int .i64 (((M : Nat) : Int) + 1 + 1)) ∧ w2.cell? ⟨o, k * 5 + 3, none⟩ = some (.int .i64 (((M : Nat) : Int) + 1 + 1 + 1)) ∧ w2.cell? ⟨o, k * 5 + 4, none⟩ = some (.int .i64 (((M : Nat) : Int) + 1 + 1 + 1 + 1))) := fun w2 B2 => ⟨by rw [(RR.next B2).c0 k hkn, mkC0, hM]; try congr 2, by rw [(RR.next B2).c1 k hkn, mkC1, hM]; try congr 2, by rw [(RR.next B2).c2 k hkn, mkC2, hM]; try congr 2, by rw [(RR.next B2).c3 k hkn, mkC3, hM]; try congr 2, by rw [(RR.next B2).c4 k hkn, mkC4, hM]; try congr 2⟩
      obtain ⟨c0, c1, c2, c3, c4⟩ := HR.out wr (Below.refl _ _)
      have HM : Hid (1 + 5 * k = M) := hM
      rw [hM]
      have HB0 : Hid (Below w.heap.size w wr) := B
      have Bz : Below wr.heap.size wr wr := Below.refl _ _
      clear hM RR R 
      go_wp2
      have hM := HM.out
      exact ⟨⟨k + 1, by omega, by go_num, by congr 1; omega, HB0.out.trans (Bz.mono HB0.out.size)⟩, by simp [intOf]; omega⟩
    · have hkk : k = n := by omega
      subst hkk
      go_wp2
      go_ret
      exact ⟨rfl, B⟩
set_option maxRecDepth 100000 in
theorem heldC0 (a : Option Addr) (c : Nat) (w : World) : Calls Try.prog 29 #[.slice a 0 c, .int .i64 1] w fun r w' => r = .returned (.int .i64 1) ∧ w' = w := by
  go_enter Try.func29, Try.ntmps29
  go_wp2
  refine wp_loop_rounds 1 ?_
  rw [rounds_succ]
  go_wp2
  go_ret
  exact ⟨rfl, rfl⟩
theorem heldCV {w : World} {v : Value} {n : Nat} (R : RowCV w v n mkC0 mkC1 mkC2 mkC3 mkC4) (hn : n ≤ 1048576) :
    Calls Try.prog 29 #[v, .int .i64 1] w fun r w' => r = .returned (.int .i64 ((1 + 5 * n : Nat) : Int)) ∧ Below w.heap.size w w' := by
  rcases R with ⟨rfl, rfl⟩ | ⟨o, c, rfl, R⟩
  · exact (heldC0 none 0 w).mono fun e w' ⟨h1, h2⟩ => ⟨h1, by rw [h2]; exact Below.refl _ _⟩
  · exact heldC R c hn
/-- A slice of structs that came in; of an empty one nothing is asked. -/
def ArgC (w : World) (a : Option Addr) (n : Nat) (F0 : Nat → Int) (F1 : Nat → Int) (F2 : Nat → Int) (F3 : Nat → Int) (F4 : Nat → Int) : Prop := n = 0 ∨ ∃ b off, a = some ⟨b, off, none⟩ ∧ b < w.heap.size ∧ ∀ i, i < n → w.cell? ⟨b, off + i * 5, none⟩ = some (.int .i64 (F0 i)) ∧ w.cell? ⟨b, off + i * 5 + 1, none⟩ = some (.int .i64 (F1 i)) ∧ w.cell? ⟨b, off + i * 5 + 2, none⟩ = some (.int .i64 (F2 i)) ∧ w.cell? ⟨b, off + i * 5 + 3, none⟩ = some (.int .i64 (F3 i)) ∧ w.cell? ⟨b, off + i * 5 + 4, none⟩ = some (.int .i64 (F4 i))
theorem ArgC.next {w w' : World} {a : Option Addr} {n : Nat} {F0 : Nat → Int} {F1 : Nat → Int} {F2 : Nat → Int} {F3 : Nat → Int} {F4 : Nat → Int} (h : ArgC w a n F0 F1 F2 F3 F4) (hb : Below w.heap.size w w') : ArgC w' a n F0 F1 F2 F3 F4 := by
  rcases h with h | ⟨b, off, ha, hl, hc⟩
  · exact Or.inl h
  · exact Or.inr ⟨b, off, ha, by have := hb.size; omega, fun i hi => ⟨(hb.cell (p := ⟨b, off + i * 5, none⟩) hl).trans (hc i hi).1, (hb.cell (p := ⟨b, off + i * 5 + 1, none⟩) hl).trans (hc i hi).2.1, (hb.cell (p := ⟨b, off + i * 5 + 2, none⟩) hl).trans (hc i hi).2.2.1, (hb.cell (p := ⟨b, off + i * 5 + 3, none⟩) hl).trans (hc i hi).2.2.2.1, (hb.cell (p := ⟨b, off + i * 5 + 4, none⟩) hl).trans (hc i hi).2.2.2.2⟩⟩
set_option maxRecDepth 100000 in
set_option maxHeartbeats 1000000 in
theorem toOneC (x0 : Int) (x1 : Int) (x2 : Int) (x3 : Int) (x4 : Int) (w : World) : Calls Try.prog 15 #[.agg #[.int .i64 x0, .int .i64 x1, .int .i64 x2, .int .i64 x3, .int .i64 x4]] w fun r w' => r = .returned (.agg #[.int .i64 x0, .int .i64 x1, .int .i64 x2, .int .i64 x3, .int .i64 x4]) ∧ Below w.heap.size w w' := by
  go_enter Try.func15, Try.ntmps15
  go_wp2
  exact bodyPost_ret (v := .agg #[.int .i64 x0, .int .i64 x1, .int .i64 x2, .int .i64 x3, .int .i64 x4]) (by simp [results, Try.results15, go_sem]) rfl ⟨rfl, by repeat (first | (with_reducible refine Below.setCell ?_ (by first | omega | (simp; try omega)) _) | (with_reducible refine Below.alloc ?_ (by first | omega | (simp; try omega)) _) | (with_reducible exact Below.refl _ _))⟩
theorem madeC {w : World} {B n t : Nat} {w' : World} (h : w'.ownsRow B t 5 (.slice (some ⟨w.heap.size, 0, none⟩) n n) n (madeCells #[.int .i64 0, .int .i64 0, .int .i64 0, .int .i64 0, .int .i64 0] (n * 5)).toList) : RowC w' w.heap.size n (fun _ => 0) (fun _ => 0) (fun _ => 0) (fun _ => 0) (fun _ => 0) := by
  refine ⟨fun i hi => ?_, fun i hi => ?_, fun i hi => ?_, fun i hi => ?_, fun i hi => ?_, fun i => h.frozenAt i, (h.lt _ rfl).2⟩
  · rw [h.cellAt (i * 5) (by omega)]
    have e : (i * 5) % 5 = 0 := by omega
    simp [madeCells, show i * 5 < n * 5 by omega, e]
  · rw [h.cellAt (i * 5 + 1) (by omega)]
    have e : (i * 5 + 1) % 5 = 1 := by omega
    simp [madeCells, show i * 5 + 1 < n * 5 by omega, e]
  · rw [h.cellAt (i * 5 + 2) (by omega)]
    have e : (i * 5 + 2) % 5 = 2 := by omega
    simp [madeCells, show i * 5 + 2 < n * 5 by omega, e]
  · rw [h.cellAt (i * 5 + 3) (by omega)]
    have e : (i * 5 + 3) % 5 = 3 := by omega
    simp [madeCells, show i * 5 + 3 < n * 5 by omega, e]
  · rw [h.cellAt (i * 5 + 4) (by omega)]
    have e : (i * 5 + 4) % 5 = 4 := by omega
    simp [madeCells, show i * 5 + 4 < n * 5 by omega, e]
theorem infoC : (Try.prog.info? 35).map (fun i => (i.zero, i.size, i.bytes)) = some (some (.agg #[.int .i64 0, .int .i64 0, .int .i64 0, .int .i64 0, .int .i64 0]), 5, 40) := by kernel_rfl
set_option maxRecDepth 100000 in
set_option maxHeartbeats 2000000 in
theorem toRowC (n b off cap : Nat) (F0 : Nat → Int) (F1 : Nat → Int) (F2 : Nat → Int) (F3 : Nat → Int) (F4 : Nat → Int) (w : World) (hn : n ≤ 1048576) (hb : b < w.heap.size) (hc : ∀ i, i < n → w.cell? ⟨b, off + i * 5, none⟩ = some (.int .i64 (F0 i)) ∧ w.cell? ⟨b, off + i * 5 + 1, none⟩ = some (.int .i64 (F1 i)) ∧ w.cell? ⟨b, off + i * 5 + 2, none⟩ = some (.int .i64 (F2 i)) ∧ w.cell? ⟨b, off + i * 5 + 3, none⟩ = some (.int .i64 (F3 i)) ∧ w.cell? ⟨b, off + i * 5 + 4, none⟩ = some (.int .i64 (F4 i))) :
    Calls Try.prog 18 #[.slice (some ⟨b, off, none⟩) n cap] w fun r w' => r = .returned (.slice (some ⟨w.heap.size, 0, none⟩) n n) ∧ RowC w' w.heap.size n F0 F1 F2 F3 F4 ∧ Below w.heap.size w w' := by
  obtain ⟨i0, hi, hz0, hz1, hz2⟩ := info_parts infoC
  go_enter Try.func18, Try.ntmps18
  go_wp2_with (at_make; refine wpList_make_full _ rfl _ _ 23 rfl w.heap.size 35 i0 (.agg #[.int .i64 0, .int .i64 0, .int .i64 0, .int .i64 0, .int .i64 0]) 5 Try.underlying23 hi hz0 hz1 _ _ _ _ n rfl rfl (by first | rfl | omega) (by first | rfl | omega) (by rw [hz2]; omega) (by unfold maxLen; omega) (Nat.le_refl _) ?_; intro w1 hown hgrow)
  have O1 : RowC w1 w.heap.size n (fun _ => 0) (fun _ => 0) (fun _ => 0) (fun _ => 0) (fun _ => 0) := madeC hown
  have B1 : Below w.heap.size w w1 := (Below.refl _ _).grown hgrow (Nat.le_refl _) (by simp)
  clear hown hgrow hi hz0 hz1 hz2
  go_loopw [4] (fun i wr => ∃ k : Nat, k ≤ n ∧ i = .int .i64 k ∧ RowC wr w.heap.size n (fun j => if j < k then F0 j else 0) (fun j => if j < k then F1 j else 0) (fun j => if j < k then F2 j else 0) (fun j => if j < k then F3 j else 0) (fun j => if j < k then F4 j else 0) ∧ Below w.heap.size w wr) (fun i _ => n - (intOf i).toNat)
  case atStart => exact ⟨0, by omega, rfl, O1.mono (Nat.le_refl _) (fun j _ => by simp) (fun j _ => by simp) (fun j _ => by simp) (fun j _ => by simp) (fun j _ => by simp), B1⟩
  case round =>
    obtain ⟨k, hk, rfl, OK, BK⟩ := hrel
    by_cases hkn : k < n
    · have i1 : (k : Int) < (n : Int) := by omega
      have i0 : (0 : Int) ≤ (k : Int) := by omega
      have c0 : wr.cell? ⟨b, off + k * 5, none⟩ = some (.int .i64 (F0 k)) := (BK.cell (p := ⟨b, off + k * 5, none⟩) hb).trans (hc k hkn).1
      have c1 : wr.cell? ⟨b, off + k * 5 + 1, none⟩ = some (.int .i64 (F1 k)) := (BK.cell (p := ⟨b, off + k * 5 + 1, none⟩) hb).trans (hc k hkn).2.1
      have c2 : wr.cell? ⟨b, off + k * 5 + 2, none⟩ = some (.int .i64 (F2 k)) := (BK.cell (p := ⟨b, off + k * 5 + 2, none⟩) hb).trans (hc k hkn).2.2.1
      have c3 : wr.cell? ⟨b, off + k * 5 + 3, none⟩ = some (.int .i64 (F3 k)) := (BK.cell (p := ⟨b, off + k * 5 + 3, none⟩) hb).trans (hc k hkn).2.2.2.1
      have c4 : wr.cell? ⟨b, off + k * 5 + 4, none⟩ = some (.int .i64 (F4 k)) := (BK.cell (p := ⟨b, off + k * 5 + 4, none⟩) hb).trans (hc k hkn).2.2.2.2
      go_wp2_with (go_at_call 15; refine (toOneC (F0 k) (F1 k) (F2 k) (F3 k) (F4 k) _).mono ?_; rintro e w2 ⟨rfl, B2⟩; (have O2 := OK.next B2); (have f0 := O2.free (k * 5)); (have g0 : w2.cell? ⟨w.heap.size, k * 5, none⟩ = some (.int .i64 0) := by have := O2.c0 k hkn; simpa using this); (have f1 := O2.free (k * 5 + 1)); (have g1 : w2.cell? ⟨w.heap.size, k * 5 + 1, none⟩ = some (.int .i64 0) := by have := O2.c1 k hkn; simpa using this); (have f2 := O2.free (k * 5 + 2)); (have g2 : w2.cell? ⟨w.heap.size, k * 5 + 2, none⟩ = some (.int .i64 0) := by have := O2.c2 k hkn; simpa using this); (have f3 := O2.free (k * 5 + 3)); (have g3 : w2.cell? ⟨w.heap.size, k * 5 + 3, none⟩ = some (.int .i64 0) := by have := O2.c3 k hkn; simpa using this); (have f4 := O2.free (k * 5 + 4)); (have g4 : w2.cell? ⟨w.heap.size, k * 5 + 4, none⟩ = some (.int .i64 0) := by have := O2.c4 k hkn; simpa using this))
      go_roundw
      case rel =>
        have up : ∀ {α : Type} (f : Nat → α) (z : α) (j : Nat), (if j < k + 1 then f j else z) = if j = k then f k else if j < k then f j else z := by
          intro α f z j
          by_cases e1 : j = k
          · subst e1; simp
          · rw [if_neg e1]; by_cases e2 : j < k
            · rw [if_pos e2, if_pos (by omega)]
            · rw [if_neg e2, if_neg (by omega)]
        have Bs := BK.trans (B2.mono BK.size)
        exact ⟨k + 1, by omega, by go_num, (((((O2.set0 k (F0 k)).set1 k (F1 k)).set2 k (F2 k)).set3 k (F3 k)).set4 k (F4 k)).mono (Nat.le_refl _) (fun j _ => up F0 0 j) (fun j _ => up F1 0 j) (fun j _ => up F2 0 j) (fun j _ => up F3 0 j) (fun j _ => up F4 0 j), (((((Bs.setCell (Nat.le_refl _) _).setCell (Nat.le_refl _) _).setCell (Nat.le_refl _) _).setCell (Nat.le_refl _) _).setCell (Nat.le_refl _) _)⟩
      case measure => simp [intOf]; omega
    · have hkk : k = n := by omega
      subst hkk
      go_wp2
      go_ret
      exact ⟨rfl, OK.mono (Nat.le_refl _) (fun j hj => by simp [hj]) (fun j hj => by simp [hj]) (fun j hj => by simp [hj]) (fun j hj => by simp [hj]) (fun j hj => by simp [hj]), BK⟩
set_option maxRecDepth 100000 in
theorem toRowC0 (a : Option Addr) (cap : Nat) (F0 : Nat → Int) (F1 : Nat → Int) (F2 : Nat → Int) (F3 : Nat → Int) (F4 : Nat → Int) (w : World) :
    Calls Try.prog 18 #[.slice a 0 cap] w fun r w' => r = .returned (.slice (some ⟨w.heap.size, 0, none⟩) 0 0) ∧ RowC w' w.heap.size 0 F0 F1 F2 F3 F4 ∧ Below w.heap.size w w' := by
  obtain ⟨i0, hi, hz0, hz1, hz2⟩ := info_parts infoC
  go_enter Try.func18, Try.ntmps18
  go_wp2_with (at_make; refine wpList_make_full _ rfl _ _ 23 rfl w.heap.size 35 i0 (.agg #[.int .i64 0, .int .i64 0, .int .i64 0, .int .i64 0, .int .i64 0]) 5 Try.underlying23 hi hz0 hz1 _ _ _ _ 0 rfl rfl (by first | rfl | omega) (by first | rfl | omega) (by rw [hz2]; omega) (by unfold maxLen; omega) (Nat.le_refl _) ?_; intro w1 hown hgrow)
  have O1 : RowC w1 w.heap.size 0 (fun _ => 0) (fun _ => 0) (fun _ => 0) (fun _ => 0) (fun _ => 0) := madeC hown
  have B1 : Below w.heap.size w w1 := (Below.refl _ _).grown hgrow (Nat.le_refl _) (by simp)
  clear hown hgrow hi hz0 hz1 hz2
  refine wp_loop_rounds 1 ?_
  rw [rounds_succ]
  go_wp2
  go_ret
  exact ⟨rfl, O1.mono (Nat.le_refl _) (fun j hj => by omega) (fun j hj => by omega) (fun j hj => by omega) (fun j hj => by omega) (fun j hj => by omega), B1⟩
theorem argToC {w : World} {a : Option Addr} {n : Nat} {F0 : Nat → Int} {F1 : Nat → Int} {F2 : Nat → Int} {F3 : Nat → Int} {F4 : Nat → Int} (h : ArgC w a n F0 F1 F2 F3 F4) (cap : Nat) (hn : n ≤ 1048576) :
    Calls Try.prog 18 #[.slice a n cap] w fun r w' => r = .returned (.slice (some ⟨w.heap.size, 0, none⟩) n n) ∧ RowC w' w.heap.size n F0 F1 F2 F3 F4 ∧ Below w.heap.size w w' := by
  rcases h with rfl | ⟨b, off, rfl, hl, hc⟩
  · exact toRowC0 a cap F0 F1 F2 F3 F4 w
  · exact toRowC n b off cap F0 F1 F2 F3 F4 w hn hl hc
theorem viewC {H : Type} {enc : TypeId × Value → H} {P : Program} {W : World} {base : Nat} {t e : TypeId} {f0 f1 f2 f3 f4 : Field} {v : Value} {d : DataW H} {p : List MemPlace} (ht : P.underlying t = some (.slice e)) (he : P.underlying e = some (.struct #[f0, f1, f2, f3, f4])) (ce : P.cellsOf e = 5)
    (o0 : f0.offset = 0) (o1 : f1.offset = 1) (o2 : f2.offset = 2) (o3 : f3.offset = 3) (o4 : f4.offset = 4) (c0 : P.cellsOf f0.type = 1) (c1 : P.cellsOf f1.type = 1) (c2 : P.cellsOf f2.type = 1) (c3 : P.cellsOf f3.type = 1) (c4 : P.cellsOf f4.type = 1) (u0 : P.underlying f0.type = some (.int .i64)) (u1 : P.underlying f1.type = some (.int .i64)) (u2 : P.underlying f2.type = some (.int .i64)) (u3 : P.underlying f3.type = some (.int .i64)) (u4 : P.underlying f4.type = some (.int .i64))
    (hok : Value.okWide P W .any base t v) (h : DataW.Trod enc P W 0 (fun _ => true) true t v d p) (hlt : ∀ x ∈ p, x.block < W.heap.size) :
    ∃ (a : Option Addr) (len cap : Nat) (F0 : Nat → Int) (F1 : Nat → Int) (F2 : Nat → Int) (F3 : Nat → Int) (F4 : Nat → Int), v = .slice a len cap ∧ len ≤ 9223372036854775807 ∧ ArgC W a len F0 F1 F2 F3 F4 ∧ (∀ i, (Lit.int .i64 (F0 i)).wf = true) ∧ (∀ i, (Lit.int .i64 (F1 i)).wf = true) ∧ (∀ i, (Lit.int .i64 (F2 i)).wf = true) ∧ (∀ i, (Lit.int .i64 (F3 i)).wf = true) ∧ (∀ i, (Lit.int .i64 (F4 i)).wf = true) := by
  obtain ⟨a0, len, cap, rfl⟩ := okWide_slice ht hok
  obtain ⟨fuel, hf⟩ := h
  rcases Go.Deep.open_slice ht hf with ⟨hcs, hx⟩ | ⟨a, len', cap', m, n, D, Pl, hcs, _, hl, hm, hmm, hx, hel⟩
  · simp [Value.cells] at hcs
    obtain ⟨rfl, rfl, rfl⟩ := hcs
    exact ⟨_, 0, 0, fun _ => 0, fun _ => 0, fun _ => 0, fun _ => 0, fun _ => 0, rfl, by omega, Or.inl rfl, fun _ => rfl, fun _ => rfl, fun _ => rfl, fun _ => rfl, fun _ => rfl⟩
  · simp [Value.cells] at hcs
    obtain ⟨rfl, rfl, rfl⟩ := hcs
    simp only [Prod.mk.injEq] at hx
    obtain ⟨rfl, rfl⟩ := hx
    simp only [if_true] at hmm
    have each : ∀ i, i < len → ∃ q : Int × Int × Int × Int × Int, W.cell? (a.add (i * 5)) = some (.int .i64 q.1) ∧ W.cell? (a.add (i * 5 + 1)) = some (.int .i64 q.2.1) ∧ W.cell? (a.add (i * 5 + 2)) = some (.int .i64 q.2.2.1) ∧ W.cell? (a.add (i * 5 + 3)) = some (.int .i64 q.2.2.2.1) ∧ W.cell? (a.add (i * 5 + 4)) = some (.int .i64 q.2.2.2.2) ∧ (Lit.int .i64 (q.1)).wf = true ∧ (Lit.int .i64 (q.2.1)).wf = true ∧ (Lit.int .i64 (q.2.2.1)).wf = true ∧ (Lit.int .i64 (q.2.2.2.1)).wf = true ∧ (Lit.int .i64 (q.2.2.2.2)).wf = true := by
      intro i hi
      obtain ⟨cs', h1, h2⟩ := hel i (by omega)
      rw [ce] at h1
      obtain ⟨_, hlen, hcell⟩ := World.cells?_some h1
      obtain ⟨xs, k, hk, hxy, _, hxl, hf⟩ := DataW.trod_struct he h2
      match xs, hxl, cs', hlen with
      | [y0, y1, y2, y3, y4], _, [v0, v1, v2, v3, v4], _ =>
        have g0 := hf 0 f0 rfl
        have g1 := hf 1 f1 rfl
        have g2 := hf 2 f2 rfl
        have g3 := hf 3 f3 rfl
        have g4 := hf 4 f4 rfl
        simp [o0, o1, o2, o3, o4, c0, c1, c2, c3, c4] at g0 g1 g2 g3 g4
        have e0 := hcell 0 (by omega)
        have e1 := hcell 1 (by omega)
        have e2 := hcell 2 (by omega)
        have e3 := hcell 3 (by omega)
        have e4 := hcell 4 (by omega)
        rw [Go.Deep.add_add] at e0 e1 e2 e3 e4
        obtain ⟨n0, hv0, _, hw0⟩ := DataW.trod_int u0 g0
        obtain ⟨n1, hv1, _, hw1⟩ := DataW.trod_int u1 g1
        obtain ⟨n2, hv2, _, hw2⟩ := DataW.trod_int u2 g2
        obtain ⟨n3, hv3, _, hw3⟩ := DataW.trod_int u3 g3
        obtain ⟨n4, hv4, _, hw4⟩ := DataW.trod_int u4 g4
        simp only [List.cons.injEq, and_true] at hv0 hv1 hv2 hv3 hv4
        subst hv0 hv1 hv2 hv3 hv4
        exact ⟨(n0, n1, n2, n3, n4), by simpa using e0, by simpa using e1, by simpa using e2, by simpa using e3, by simpa using e4, hw0, hw1, hw2, hw3, hw4⟩
    by_cases hl0 : len = 0
    · exact ⟨_, len, cap, fun _ => 0, fun _ => 0, fun _ => 0, fun _ => 0, fun _ => 0, rfl, by unfold maxLen at hm; omega, Or.inl hl0, fun _ => rfl, fun _ => rfl, fun _ => rfl, fun _ => rfl, fun _ => rfl⟩
    · obtain ⟨q, hq⟩ := Go.Deep.choose_lt each
      obtain ⟨b, off, spot⟩ := a
      have hspot : spot = none := by simpa [Addr.add] using World.cell?_spot (hq 0 (by omega)).1
      subst hspot
      have hbW : b < W.heap.size := hlt (.cell b off) (List.mem_append.2 (Or.inl (MemPlace.mem_row.2 ⟨0, by rw [ce]; omega, by simp⟩)))
      refine ⟨_, len, cap, fun i => if i < len then (q i).1 else 0, fun i => if i < len then (q i).2.1 else 0, fun i => if i < len then (q i).2.2.1 else 0, fun i => if i < len then (q i).2.2.2.1 else 0, fun i => if i < len then (q i).2.2.2.2 else 0, rfl, by unfold maxLen at hm; omega, Or.inr ⟨b, off, rfl, hbW, fun j hj => ?_⟩, fun i => ?_, fun i => ?_, fun i => ?_, fun i => ?_, fun i => ?_⟩
      · obtain ⟨h0, h1, h2, h3, h4, _⟩ := hq j hj
        rw [add_plain] at h0 h1 h2 h3 h4
        simp only [if_pos hj]
        exact ⟨h0, h1, h2, h3, h4⟩
      · by_cases hj : i < len
        · simp only [if_pos hj]; exact (hq i hj).2.2.2.2.2.1
        · simp only [if_neg hj]; first | rfl | decide
      · by_cases hj : i < len
        · simp only [if_pos hj]; exact (hq i hj).2.2.2.2.2.2.1
        · simp only [if_neg hj]; first | rfl | decide
      · by_cases hj : i < len
        · simp only [if_pos hj]; exact (hq i hj).2.2.2.2.2.2.2.1
        · simp only [if_neg hj]; first | rfl | decide
      · by_cases hj : i < len
        · simp only [if_pos hj]; exact (hq i hj).2.2.2.2.2.2.2.2.1
        · simp only [if_neg hj]; first | rfl | decide
      · by_cases hj : i < len
        · simp only [if_pos hj]; exact (hq i hj).2.2.2.2.2.2.2.2.2
        · simp only [if_neg hj]; first | rfl | decide
theorem view5 {H : Type} {enc : TypeId × Value → H} {P : Program} {W : World} {base : Nat} {e : TypeId} {f0 f1 f2 f3 f4 : Field} {v : Value} {d : DataW H} {p : List MemPlace} (he : P.underlying e = some (.struct #[f0, f1, f2, f3, f4])) (ce : P.cellsOf e = 5)
    (o0 : f0.offset = 0) (o1 : f1.offset = 1) (o2 : f2.offset = 2) (o3 : f3.offset = 3) (o4 : f4.offset = 4) (c0 : P.cellsOf f0.type = 1) (c1 : P.cellsOf f1.type = 1) (c2 : P.cellsOf f2.type = 1) (c3 : P.cellsOf f3.type = 1) (c4 : P.cellsOf f4.type = 1) (u0 : P.underlying f0.type = some (.int .i64)) (u1 : P.underlying f1.type = some (.int .i64)) (u2 : P.underlying f2.type = some (.int .i64)) (u3 : P.underlying f3.type = some (.int .i64)) (u4 : P.underlying f4.type = some (.int .i64))
    (hok : Value.okWide P W .any base e v) (h : DataW.Trod enc P W 0 (fun _ => true) true e v d p) :
    ∃ (n0 n1 n2 n3 n4 : Int), v = .agg #[.int .i64 n0, .int .i64 n1, .int .i64 n2, .int .i64 n3, .int .i64 n4] := by
  obtain ⟨cs, rfl, hs⟩ := okWide_struct he hok
  obtain ⟨fuel, h2⟩ := h
  rw [ce] at hs
  obtain ⟨l⟩ := cs
  simp only [Value.cells] at h2
  obtain ⟨xs, k, hk, hxy, _, hxl, hf⟩ := DataW.trod_struct he h2
  match xs, hxl, l, hs with
  | [y0, y1, y2, y3, y4], _, [v0, v1, v2, v3, v4], _ =>
    have g0 := hf 0 f0 rfl
    have g1 := hf 1 f1 rfl
    have g2 := hf 2 f2 rfl
    have g3 := hf 3 f3 rfl
    have g4 := hf 4 f4 rfl
    simp [o0, o1, o2, o3, o4, c0, c1, c2, c3, c4] at g0 g1 g2 g3 g4
    obtain ⟨n0, hv0, _, hw0⟩ := DataW.trod_int u0 g0
    obtain ⟨n1, hv1, _, hw1⟩ := DataW.trod_int u1 g1
    obtain ⟨n2, hv2, _, hw2⟩ := DataW.trod_int u2 g2
    obtain ⟨n3, hv3, _, hw3⟩ := DataW.trod_int u3 g3
    obtain ⟨n4, hv4, _, hw4⟩ := DataW.trod_int u4 g4
    simp only [List.cons.injEq, and_true] at hv0 hv1 hv2 hv3 hv4
    subst hv0 hv1 hv2 hv3 hv4
    exact ⟨n0, n1, n2, n3, n4, rfl⟩
end Go.Proofs.Ytnbpncjbfnhkjaa
