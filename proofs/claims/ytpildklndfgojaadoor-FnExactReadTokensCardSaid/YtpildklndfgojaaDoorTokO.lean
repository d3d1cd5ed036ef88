/- The memory of the model's ReadTokens, and what it reads at a place; no walk. -/
import Derived.Test.YtpildklndfgojaaDoorTokK
import Derived.Laws.Rows
namespace Go.Proofs.YtpildklndfgojaaDoor.Tk
open Go.ChangeShapes Go.WideShapes Go.ChangeAt Go.RowKit
set_option linter.unusedVariables false
theorem owns_other {w : World} {base e size n : Nat} {v u : Value} {xs : List Value} {a : Addr} (h : w.ownsRow base e size v n xs) (hne : ∀ g, v.ownBlock = some g → g ≠ a.block) : (w.setCell a u).ownsRow base e size v n xs := by
  obtain ⟨h1, h2⟩ := h
  refine ⟨h1, ?_⟩
  rcases h2 with h2 | ⟨g, cap, cur, hv, hg, hh, r⟩
  · exact Or.inl h2
  · exact Or.inr ⟨g, cap, cur, hv, hg, by rw [Below.heap_setCell _ _ _ _ (hne g (by rw [hv]; rfl))]; exact hh, r⟩
/-- The result's block as it was made, the block that is built up, the tokens read so far. -/
structure Mem18 (w : World) (v : Value) (tl : List Tok) (wr : World) : Prop where
  res : wr.heap[w.heap.size]? = some (.cells #[.slice none 0 0, .int .i64 0, .int .i64 0] 36 (0, 0))
  out : wr.heap[w.heap.size + 1]? = some (.cells #[v, .int .i64 0, .int .i64 0] 36 (0, 0))
  own : wr.ownsRow (w.heap.size + 2) 88 3 v tl.length (cellsT tl)
  most : tl.length ≤ 400
  below : Below w.heap.size w wr
theorem Mem18.lt {w wr : World} {v : Value} {tl : List Tok} (h : Mem18 w v tl wr) : w.heap.size + 1 < wr.heap.size := (Array.getElem?_eq_some_iff.1 h.out).1
theorem Mem18.next {w wr w2 : World} {v : Value} {tl : List Tok} (h : Mem18 w v tl wr) (b : Below wr.heap.size wr w2) : Mem18 w v tl w2 :=
  ⟨by rw [b.block _ (by have := h.lt; omega)]; exact h.res, by rw [b.block _ h.lt]; exact h.out, owns_next h.own b, h.most, h.below.trans (b.mono h.below.size)⟩
theorem Mem18.rescells {w wr : World} {v : Value} {tl : List Tok} (h : Mem18 w v tl wr) : wr.cell? ⟨w.heap.size, 0, none⟩ = some (.slice none 0 0) ∧ wr.cell? ⟨w.heap.size, 1, none⟩ = some (.int .i64 0) ∧ wr.cell? ⟨w.heap.size, 2, none⟩ = some (.int .i64 0) :=
  ⟨by rw [Lib.cell_of_heap h.res]; rfl, by rw [Lib.cell_of_heap h.res]; rfl, by rw [Lib.cell_of_heap h.res]; rfl⟩
theorem Mem18.outcells {w wr : World} {v : Value} {tl : List Tok} (h : Mem18 w v tl wr) : wr.cell? ⟨w.heap.size + 1, 0, none⟩ = some v ∧ wr.cell? ⟨w.heap.size + 1, 1, none⟩ = some (.int .i64 0) ∧ wr.cell? ⟨w.heap.size + 1, 2, none⟩ = some (.int .i64 0) :=
  ⟨by rw [Lib.cell_of_heap h.out]; rfl, by rw [Lib.cell_of_heap h.out]; rfl, by rw [Lib.cell_of_heap h.out]; rfl⟩
theorem Mem18.free {w wr : World} {v : Value} {tl : List Tok} (h : Mem18 w v tl wr) : (∀ j, wr.frozen? ⟨w.heap.size, j, none⟩ = false) ∧ ∀ j, wr.frozen? ⟨w.heap.size + 1, j, none⟩ = false := ⟨Lib.frozen_of_heap h.res, Lib.frozen_of_heap h.out⟩
theorem Mem18.shape {w wr : World} {v : Value} {tl : List Tok} (h : Mem18 w v tl wr) : ∃ po cap, v = .slice po tl.length cap := by
  rcases h.own.2 with ⟨h1, h2⟩ | ⟨g, cap, cur, h1, _⟩
  · exact ⟨none, 0, by rw [h1, h2]⟩
  · exact ⟨_, _, h1⟩
/-- A cell of a block of one's own is written. -/
theorem Mem18.set {w wr : World} {v u : Value} {tl : List Tok} {o j : Nat} (h : Mem18 w v tl wr) (lo : w.heap.size + 2 ≤ o) (hne : ∀ g, v.ownBlock = some g → g ≠ o) : Mem18 w v tl (wr.setCell ⟨o, j, none⟩ u) :=
  ⟨by rw [Below.heap_setCell _ _ _ _ (by show w.heap.size ≠ o; omega)]; exact h.res, by rw [Below.heap_setCell _ _ _ _ (by show w.heap.size + 1 ≠ o; omega)]; exact h.out, owns_other h.own hne, h.most, h.below.setCell (by show w.heap.size ≤ o; omega) _⟩
/-- .. and the block of the token that is being read. -/
structure Tok18 (w : World) (v : Value) (tl : List Tok) (o : Nat) (k : Int) (t : ByteArray) (i : Nat) (wx : World) : Prop where
  mem : Mem18 w v tl wx
  tok : wx.heap[o]? = some (.cells #[.int .i64 k, .string t, .int .i64 (i : Nat)] 88 (0, 0))
  lo : w.heap.size + 2 ≤ o
  sep : ∀ g, v.ownBlock = some g → g < o
theorem Tok18.lt {w wx : World} {v : Value} {tl : List Tok} {o i : Nat} {k : Int} {t : ByteArray} (h : Tok18 w v tl o k t i wx) : o < wx.heap.size := (Array.getElem?_eq_some_iff.1 h.tok).1
theorem Tok18.next {w wx w2 : World} {v : Value} {tl : List Tok} {o i : Nat} {k : Int} {t : ByteArray} (h : Tok18 w v tl o k t i wx) (b : Below wx.heap.size wx w2) : Tok18 w v tl o k t i w2 :=
  ⟨h.mem.next b, by rw [b.block _ h.lt]; exact h.tok, h.lo, h.sep⟩
theorem Tok18.drew {w wx : World} {v : Value} {tl : List Tok} {o i : Nat} {k : Int} {t : ByteArray} (h : Tok18 w v tl o k t i wx) : Tok18 w v tl o k t i wx.drew := h.next (below_drewN (Below.refl _ _) 1)
theorem Tok18.start {w wr : World} {v : Value} {tl : List Tok} (h : Mem18 w v tl wr) (i : Nat) : Tok18 w v tl wr.heap.size 0 ⟨#[]⟩ i (wr.alloc (.cells #[.int .i64 0, .string ⟨#[]⟩, .int .i64 (i : Nat)] 88)) :=
  ⟨h.next ((Below.refl _ _).alloc (Nat.le_refl _) _), heap_alloc_new wr _, h.lt, fun g hg => (h.own.lt g hg).2⟩
theorem goodK2 (t : ByteArray) : goodK 2 t = wholeS t.data.toList := by unfold goodK; rw [if_neg (by decide), if_pos rfl]
theorem goodK3 (t : ByteArray) : goodK 3 t = floatS t.data.toList := by unfold goodK; rw [if_neg (by decide), if_neg (by decide), if_pos rfl]
theorem Tok18.kind {w wx : World} {v : Value} {tl : List Tok} {o i : Nat} {k : Int} {t : ByteArray} (h : Tok18 w v tl o k t i wx) (k' : Int) : Tok18 w v tl o k' t i (wx.setCell ⟨o, 0, none⟩ (.int .i64 k')) :=
  ⟨h.mem.set h.lo (fun g hg => by have := h.sep g hg; omega), by rw [heap_setCell_same _ _ _ _ _ _ h.tok]; rfl, h.lo, h.sep⟩
theorem Tok18.text {w wx : World} {v : Value} {tl : List Tok} {o i : Nat} {k : Int} {t : ByteArray} (h : Tok18 w v tl o k t i wx) (t' : ByteArray) : Tok18 w v tl o k t' i (wx.setCell ⟨o, 1, none⟩ (.string t')) :=
  ⟨h.mem.set h.lo (fun g hg => by have := h.sep g hg; omega), by rw [heap_setCell_same _ _ _ _ _ _ h.tok]; rfl, h.lo, h.sep⟩
theorem Tok18.cells {w wx : World} {v : Value} {tl : List Tok} {o i : Nat} {k : Int} {t : ByteArray} (h : Tok18 w v tl o k t i wx) : wx.cell? ⟨o, 0, none⟩ = some (.int .i64 k) ∧ wx.cell? ⟨o, 1, none⟩ = some (.string t) ∧ wx.cell? ⟨o, 2, none⟩ = some (.int .i64 (i : Nat)) :=
  ⟨by rw [Lib.cell_of_heap h.tok]; rfl, by rw [Lib.cell_of_heap h.tok]; rfl, by rw [Lib.cell_of_heap h.tok]; rfl⟩
theorem Tok18.free {w wx : World} {v : Value} {tl : List Tok} {o i : Nat} {k : Int} {t : ByteArray} (h : Tok18 w v tl o k t i wx) : ∀ j, wx.frozen? ⟨o, j, none⟩ = false := Lib.frozen_of_heap h.tok
/-- One token more: the row grown, its slice written into the block that is built up. -/
theorem Mem18.push {w wr w1 : World} {v v' : Value} {tl : List Tok} {k : Int} {y : ByteArray} {i : Nat} {ob : Obj} (h : Mem18 w v tl wr) (h4 : tl.length < 400) (own : w1.ownsRow (w.heap.size + 2) 88 3 v' (tl.length + 1) (cellsT tl ++ [.int .i64 k, .string y, .int .i64 (i : Nat)])) (g : (wr.alloc ob).grownBy w1 v.ownBlock) :
    Mem18 w v' (tl ++ [(k, y, i)]) (w1.setCell ⟨w.heap.size + 1, 0, none⟩ v') := by
  have lt := h.lt
  have far : ∀ q, v.ownBlock = some q → w.heap.size + 2 ≤ q := fun q hq => (h.own.lt q hq).1
  have b1 : w1.heap[w.heap.size]? = wr.heap[w.heap.size]? := by
    rw [g.block w.heap.size (by simp; omega) (fun e => by have := far _ e.symm; omega)]
    exact heap_alloc_old _ _ (by omega)
  have b2 : w1.heap[w.heap.size + 1]? = wr.heap[w.heap.size + 1]? := by
    rw [g.block (w.heap.size + 1) (by simp; omega) (fun e => by have := far _ e.symm; omega)]
    exact heap_alloc_old _ _ (by omega)
  refine ⟨?_, ?_, ?_, ?_, ?_⟩
  · rw [Below.heap_setCell _ _ _ _ (by show w.heap.size ≠ w.heap.size + 1; omega), b1]; exact h.res
  · rw [heap_setCell_same _ _ _ _ _ _ (b2.trans h.out)]; rfl
  · rw [cellsT_app, List.length_append]
    exact ownsRow_setCell_below own (by show w.heap.size + 1 < w.heap.size + 2; omega) _
  · rw [List.length_append]; exact h4
  · exact ((h.below.alloc h.below.size ob).grown g (by have := h.below.size; simp; omega) (fun q hq => by have := far q hq; omega)).setCell (by show w.heap.size ≤ w.heap.size + 1; omega) _
theorem Mem18.grown {w wr w1 : World} {v : Value} {tl : List Tok} {ob : Obj} (h : Mem18 w v tl wr) (g : (wr.alloc ob).grownBy w1 v.ownBlock) : w1.cell? ⟨w.heap.size + 1, 0, none⟩ = some v ∧ w1.frozen? ⟨w.heap.size + 1, 0, none⟩ = false := by
  have lt := h.lt
  have b2 : w1.heap[w.heap.size + 1]? = wr.heap[w.heap.size + 1]? := by
    rw [g.block (w.heap.size + 1) (by simp; omega) (fun e => by have := (h.own.lt _ e.symm).1; omega)]
    exact heap_alloc_old _ _ (by omega)
  have e := b2.trans h.out
  exact ⟨by rw [Lib.cell_of_heap e]; rfl, Lib.frozen_of_heap e 0⟩
theorem Mem18.start (w : World) : Mem18 w (.slice none 0 0) [] ((w.alloc (.cells #[.slice none 0 0, .int .i64 0, .int .i64 0] 36)).alloc (.cells #[.slice none 0 0, .int .i64 0, .int .i64 0] 36)) :=
  ⟨by rw [heap_alloc_old _ _ (by simp)]; exact heap_alloc_new w _, by have := heap_alloc_new (w.alloc (.cells #[.slice none 0 0, .int .i64 0, .int .i64 0] 36)) (.cells #[.slice none 0 0, .int .i64 0, .int .i64 0] 36); simpa using this, World.ownsRow_nil _ _ _ _, by decide, ((Below.refl _ _).alloc (Nat.le_refl _) _).alloc (by simp) _⟩
/-- A sign is no word. -/
theorem sign_noword : ∀ k, k < 30 → isIn (textAt wordsL) (textAt signsL k) 13 = false := by decide +kernel
theorem sign_text (s : ByteArray) (i : Nat) (h : signN s i ≠ 0) : isIn (textAt wordsL) (s.extract i (i + signN s i)) 13 = false := by
  have q : isIn (textAt signsL) (s.extract i (i + signN s i)) 30 = true := by
    unfold signN at h ⊢
    by_cases c : i + 2 ≤ s.size ∧ isIn (textAt signsL) (s.extract i (i + 2)) 30 = true
    · rw [if_pos c]; exact c.2
    · rw [if_neg c] at h ⊢
      by_cases c1 : i + 1 ≤ s.size ∧ isIn (textAt signsL) (s.extract i (i + 1)) 30 = true
      · rw [if_pos c1]; exact c1.2
      · rw [if_neg c1] at h; exact absurd rfl h
  obtain ⟨k, hk, e⟩ := isIn_some _ _ _ q
  rw [← e]
  exact sign_noword k hk
/-- No byte of a name: no rune of one. -/
theorem run_zero (s : ByteArray) : ∀ (f i r : Nat), i ≤ s.size → (nameRun s f i r).1 = i → (nameRun s f i r).2 = r
  | 0, i, r, _, _ => rfl
  | f + 1, i, r, hi, h => by
    rw [nameRun] at h ⊢
    by_cases h1 : i < s.size
    · rw [if_pos h1] at h ⊢
      by_cases z : stepN s i (decide (r = 0)) = 0
      · rw [if_pos z]
      · rw [if_neg z] at h
        have l := (step_le s i (decide (r = 0)) h1).1
        have := (run_le s f (i + stepN s i (decide (r = 0))) (r + 1) l).2.1
        omega
    · rw [if_neg h1]
/-- What the model's run answers at a place, by the rest of the text. -/
theorem run_here (s : ByteArray) (i : Nat) (hi : i ≤ s.size) : nameRun s s.size i 0 = (i + (nameRun (s.extract i s.size) (s.extract i s.size).size 0 0).1, (nameRun (s.extract i s.size) (s.extract i s.size).size 0 0).2) := by
  have e := rest_run s i hi s.size (s.extract i s.size).size 0 0 (by omega) (by rw [rest_size s i hi]; omega) (by omega)
  exact e
end Go.Proofs.YtpildklndfgojaaDoor.Tk
