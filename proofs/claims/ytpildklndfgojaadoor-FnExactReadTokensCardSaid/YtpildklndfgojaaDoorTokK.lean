/- What holds at the labels of ReadTokens: its frame, its memory, what is still to be read; no walk. -/
import Derived.Test.YtpildklndfgojaaDoorTokJ
import Derived.Test.YtpildklndfgojaaDoorTokC
import Derived.Laws.AppendOwn
import Derived.Below
namespace Go.Proofs.YtpildklndfgojaaDoor.Tk
open Go.ChangeShapes Go.WideShapes Go.ChangeAt Go.RowKit
set_option linter.unusedVariables false
theorem owns_next {w w' : World} {base e size n : Nat} {v : Value} {xs : List Value} (h : w.ownsRow base e size v n xs) (hb : Below w.heap.size w w') : w'.ownsRow base e size v n xs := by
  obtain ⟨h1, h2⟩ := h
  refine ⟨h1, ?_⟩
  rcases h2 with h2 | ⟨g, cap, cur, hv, hg, hh, r⟩
  · exact Or.inl h2
  · exact Or.inr ⟨g, cap, cur, hv, hg, by rw [hb.block g (Array.getElem?_eq_some_iff.1 hh).1]; exact hh, r⟩
/-- The frame of ReadTokens at a label. -/
def fr19 (s : ByteArray) (r : Nat) (v : Value) (at_ len kind code : Int) (a : Act) : Prop := ∃ u8 u9 u10 u11 u12 u13 u14 u15 u16 u17 u18 u19 u20 u21 u22 u23 u24 u25 u26 u27 u28 u29 u30 u31 u32 u33 u34 u35 u36 u37 u38 u39 u40 u41 u42 u43 u44 u45 u46 u47 u48 u49 u50 u51 u52 u53 u54 u55 u56 u57 u58 u59 u60 u61 u62 u63 u64 u65 u66 u67 u68 u69 u70 u71 u72 u73 u74 u75 u76 u77 u78 u79 u80 u81 u82 u83 u84 u85 u86 u87 u88 u89 u90 : Value, a = ⟨#[.string s, undef, .pointer (some ⟨r, 0, none⟩), v, .int .i64 at_, .int .i64 len, .int .i64 kind, .int .i64 code, u8, u9, u10, u11, u12, u13, u14, u15, u16, u17, u18, u19, u20, u21, u22, u23, u24, u25, u26, u27, u28, u29, u30, u31, u32, u33, u34, u35, u36, u37, u38, u39, u40, u41, u42, u43, u44, u45, u46, u47, u48, u49, u50, u51, u52, u53, u54, u55, u56, u57, u58, u59, u60, u61, u62, u63, u64, u65, u66, u67, u68, u69, u70, u71, u72, u73, u74, u75, u76, u77, u78, u79, u80, u81, u82, u83, u84, u85, u86, u87, u88, u89, u90], []⟩
/-- The memory: the result's block as it was made, the tokens read so far. -/
structure Mem19 (w : World) (v : Value) (tl : List Tok) (wr : World) : Prop where
  res : wr.heap[w.heap.size]? = some (.cells #[.slice none 0 0, .int .i64 0, .int .i64 0] 36 (0, 0))
  own : wr.ownsRow (w.heap.size + 1) 88 3 v tl.length (cellsT tl)
  most : tl.length ≤ 400
  below : Below w.heap.size w wr
theorem Mem19.lt {w wr : World} {v : Value} {tl : List Tok} (h : Mem19 w v tl wr) : w.heap.size < wr.heap.size := (Array.getElem?_eq_some_iff.1 h.res).1
theorem Mem19.next {w wr w2 : World} {v : Value} {tl : List Tok} (h : Mem19 w v tl wr) (b : Below wr.heap.size wr w2) : Mem19 w v tl w2 :=
  ⟨by rw [b.block _ h.lt]; exact h.res, owns_next h.own b, h.most, h.below.trans (b.mono h.below.size)⟩
theorem Mem19.cells {w wr : World} {v : Value} {tl : List Tok} (h : Mem19 w v tl wr) : wr.cell? ⟨w.heap.size, 0, none⟩ = some (.slice none 0 0) ∧ wr.cell? ⟨w.heap.size, 1, none⟩ = some (.int .i64 0) ∧ wr.cell? ⟨w.heap.size, 2, none⟩ = some (.int .i64 0) :=
  ⟨by rw [Lib.cell_of_heap h.res]; rfl, by rw [Lib.cell_of_heap h.res]; rfl, by rw [Lib.cell_of_heap h.res]; rfl⟩
theorem Mem19.free {w wr : World} {v : Value} {tl : List Tok} (h : Mem19 w v tl wr) : ∀ j, wr.frozen? ⟨w.heap.size, j, none⟩ = false := Lib.frozen_of_heap h.res
theorem Mem19.push {w wr w1 : World} {v v' : Value} {tl : List Tok} {k : Int} {y : ByteArray} {i : Nat} {o : Obj} (h : Mem19 w v tl wr) (h4 : tl.length < 400) (own : w1.ownsRow (w.heap.size + 1) 88 3 v' (tl.length + 1) (cellsT tl ++ [.int .i64 k, .string y, .int .i64 (i : Nat)])) (g : (wr.alloc o).grownBy w1 v.ownBlock) : Mem19 w v' (tl ++ [(k, y, i)]) w1 := by
  have lt := h.lt
  refine ⟨?_, ?_, ?_, ?_⟩
  · rw [g.block w.heap.size (by simp; omega) (fun e => by have := (h.own.lt _ e.symm).1; omega), show (wr.alloc o).heap[w.heap.size]? = wr.heap[w.heap.size]? from heap_alloc_old _ _ lt]
    exact h.res
  · rw [cellsT_app, List.length_append]
    exact own
  · rw [List.length_append]; exact h4
  · exact (h.below.alloc h.below.size o).grown g (by have := h.below.size; simp; omega) (fun q hq => by have := (h.own.lt q hq).1; omega)
theorem Mem19.start (w : World) : Mem19 w (.slice none 0 0) [] (w.alloc (.cells #[.slice none 0 0, .int .i64 0, .int .i64 0] 36)) :=
  ⟨heap_alloc_new w _, World.ownsRow_nil _ _ _ _, by decide, (Below.refl _ _).alloc (Nat.le_refl _) _⟩
/-- The rest of the scan at a place. -/
theorem scan_end {s : ByteArray} {f p : Nat} {tl : List Tok} (h : ¬ p < s.size) : scan s (f + 1) p tl = (tl, 0, 0) := by rw [scan, if_neg h]
theorem scan_skip {s : ByteArray} {f p k : Nat} {tl : List Tok} (h : p < s.size) (hk : skipN s p = k) (h0 : k ≠ 0) : scan s (f + 1) p tl = scan s f (p + k) tl := by rw [scan, if_pos h, hk, if_neg h0]
theorem scan_tok {s : ByteArray} {f p : Nat} {tl : List Tok} (h : p < s.size) (hk : skipN s p = 0) (h0 : tC (s.extract p s.size) = 0) (h4 : tl.length ≠ 400) :
    scan s (f + 1) p tl = scan s f (p + tL (s.extract p s.size)) (tl ++ [(tK (s.extract p s.size), s.extract p (p + tL (s.extract p s.size)), p)]) := by
  have e : fault (s.extract p s.size) tl.length = 0 := by unfold fault; rw [if_neg (fun q => h4 q.2)]; exact h0
  rw [scan, if_pos h, if_pos hk, if_pos e]
theorem scan_bad {s : ByteArray} {f p : Nat} {tl : List Tok} (h : p < s.size) (hk : skipN s p = 0) (h0 : tC (s.extract p s.size) ≠ 0) :
    scan s (f + 1) p tl = ([], tC (s.extract p s.size), p) := by
  have e : fault (s.extract p s.size) tl.length = tC (s.extract p s.size) := by unfold fault; rw [if_neg (fun q => h0 q.1)]
  rw [scan, if_pos h, if_pos hk, e, if_neg h0]
theorem scan_many {s : ByteArray} {f p : Nat} {tl : List Tok} (h : p < s.size) (hk : skipN s p = 0) (h0 : tC (s.extract p s.size) = 0) (h4 : tl.length = 400) :
    scan s (f + 1) p tl = ([], 5, p) := by
  have e : fault (s.extract p s.size) tl.length = 5 := by unfold fault; rw [if_pos ⟨h0, h4⟩]
  rw [scan, if_pos h, if_pos hk, e, if_neg (by decide)]
theorem t_dig {s : ByteArray} {i : Nat} (hi : i ≤ s.size) (h : digB ((bt s i 0 : Nat) : Int) = true) : tL (s.extract i s.size) = numL (s.extract i s.size) ∧ tK (s.extract i s.size) = numK (s.extract i s.size) ∧ tC (s.extract i s.size) = numC (s.extract i s.size) := by
  have e : bt (s.extract i s.size) 0 0 = bt s i 0 := by rw [rest_bt s i 0 0 hi]; rfl
  unfold tL tK tC
  rw [e, if_pos h, if_pos h, if_pos h]
  exact ⟨rfl, rfl, rfl⟩
theorem t_name {s : ByteArray} {i : Nat} (hi : i ≤ s.size) (h : digB ((bt s i 0 : Nat) : Int) = false) (hn : (nameRun (s.extract i s.size) (s.extract i s.size).size 0 0).1 ≠ 0) : tL (s.extract i s.size) = (nameRun (s.extract i s.size) (s.extract i s.size).size 0 0).1 ∧ tK (s.extract i s.size) = nameKd (s.extract i s.size) ∧ tC (s.extract i s.size) = nameCd (s.extract i s.size) := by
  have e : bt (s.extract i s.size) 0 0 = bt s i 0 := by rw [rest_bt s i 0 0 hi]; rfl
  unfold tL tK tC
  rw [e, h]
  generalize (nameRun (s.extract i s.size) (s.extract i s.size).size 0 0).1 = n at hn ⊢
  simp [hn]
theorem t_sign {s : ByteArray} {i : Nat} (hi : i ≤ s.size) (h : digB ((bt s i 0 : Nat) : Int) = false) (hn : (nameRun (s.extract i s.size) (s.extract i s.size).size 0 0).1 = 0) : tL (s.extract i s.size) = signW (s.extract i s.size) 30 ∧ tK (s.extract i s.size) = (if signW (s.extract i s.size) 30 = 0 then 0 else 4) ∧ tC (s.extract i s.size) = (if signW (s.extract i s.size) 30 = 0 then 2 else 0) := by
  have e : bt (s.extract i s.size) 0 0 = bt s i 0 := by rw [rest_bt s i 0 0 hi]; rfl
  unfold tL tK tC
  rw [e, h]
  generalize (nameRun (s.extract i s.size) (s.extract i s.size).size 0 0).1 = n at hn ⊢
  simp [hn]
/-- What holds at each label. -/
def At19 (s : ByteArray) (R : List Tok × Int × Nat) (tl : List Tok) (i : Nat) (len kind code : Int) (l : Nat) : Prop :=
  (l = 0 ∧ R = ([], code, i)) ∨
  (l = 1 ∧ code = 0 ∧ ∃ L f : Nat, len = (L : Int) ∧ i + L ≤ s.size ∧ s.size ≤ i + L + f ∧ scan s (f + 1) (i + L) tl = R) ∨
  (i < s.size ∧ ∃ f : Nat, s.size ≤ i + f ∧ (
    (l = 2 ∧ code = 0 ∧ 0 < lineL (s.data.toList.drop i) ∧ scan s f (i + lineL (s.data.toList.drop i)) tl = R) ∨
    (l = 3 ∧ code = 0 ∧ scan s f (i + 1) tl = R) ∨
    (scan s (f + 1) i tl = R ∧ skipN s i = 0 ∧ (
      (l = 4 ∧ code = 0 ∧ digB ((bt s i 0 : Nat) : Int) = true) ∨
      (l = 5 ∧ code = 0 ∧ digB ((bt s i 0 : Nat) : Int) = false) ∨
      (l = 7 ∧ digB ((bt s i 0 : Nat) : Int) = false ∧ (nameRun (s.extract i s.size) (s.extract i s.size).size 0 0).1 = 0) ∨
      (l = 6 ∧ len = (tL (s.extract i s.size) : Nat) ∧ kind = tK (s.extract i s.size) ∧ code = tC (s.extract i s.size))))))
def mu19 (s : ByteArray) (l : Nat) (a : Act) (wr : World) : Nat :=
  if l = 0 then 0 else if l = 1 then 8 * (s.size - ((intOf (a.tmps.getD 4 undef)).toNat + (intOf (a.tmps.getD 5 undef)).toNat)) + 7
  else 8 * (s.size - (intOf (a.tmps.getD 4 undef)).toNat) + (if l = 5 ∨ l = 4 then 3 else if l = 7 then 2 else if l = 6 then 1 else 0)
theorem jumps_ret (J : Nat → Act → World → Prop) (Q : Exit → Act → World → Prop) (a : Act) (w : World) : jumps J Q Exit.ret a w = Q Exit.ret a w := rfl
def J19 (s : ByteArray) (w : World) (R : List Tok × Int × Nat) (l : Nat) (a : Act) (wr : World) : Prop :=
  ∃ (v : Value) (tl : List Tok) (i : Nat) (len kind code : Int), fr19 s w.heap.size v (i : Nat) len kind code a ∧ Mem19 w v tl wr ∧ At19 s R tl i len kind code l
/-- The place at which 'between' begins: what the switch decides, and where it goes. -/
theorem at_comment {s : ByteArray} {R : List Tok × Int × Nat} {tl : List Tok} {p f : Nat} (h : p < s.size) (hf : s.size ≤ p + f) (hR : scan s (f + 1) p tl = R) (c : bt s p 0 = 47 ∧ p + 1 < s.size ∧ bt s p 1 = 47) (len kind : Int) : At19 s R tl p len kind 0 2 := by
  have lp := line_pos s p h (by omega)
  have hk : skipN s p = lineL (s.data.toList.drop p) := by unfold skipN; rw [if_neg (by omega), if_pos c]
  rw [scan_skip h hk (by omega)] at hR
  exact Or.inr (Or.inr ⟨h, f, hf, Or.inl ⟨rfl, rfl, lp, hR⟩⟩)
theorem at_blank {s : ByteArray} {R : List Tok × Int × Nat} {tl : List Tok} {p f : Nat} (h : p < s.size) (hf : s.size ≤ p + f) (hR : scan s (f + 1) p tl = R) (c : bt s p 0 = 32 ∨ bt s p 0 = 9 ∨ bt s p 0 = 10) (len kind : Int) : At19 s R tl p len kind 0 3 := by
  have hk : skipN s p = 1 := by unfold skipN; rw [if_pos c]
  rw [scan_skip h hk (by omega)] at hR
  exact Or.inr (Or.inr ⟨h, f, hf, Or.inr (Or.inl ⟨rfl, rfl, hR⟩)⟩)
theorem at_number {s : ByteArray} {R : List Tok × Int × Nat} {tl : List Tok} {p f : Nat} (h : p < s.size) (hf : s.size ≤ p + f) (hR : scan s (f + 1) p tl = R) (c1 : ¬ (bt s p 0 = 32 ∨ bt s p 0 = 9 ∨ bt s p 0 = 10)) (c2 : ¬ (bt s p 0 = 47 ∧ p + 1 < s.size ∧ bt s p 1 = 47)) (d : digB ((bt s p 0 : Nat) : Int) = true) (len kind : Int) : At19 s R tl p len kind 0 4 := by
  have hk : skipN s p = 0 := by unfold skipN; rw [if_neg c1, if_neg c2]
  exact Or.inr (Or.inr ⟨h, f, hf, Or.inr (Or.inr ⟨hR, hk, Or.inl ⟨rfl, rfl, d⟩⟩)⟩)
theorem at_name {s : ByteArray} {R : List Tok × Int × Nat} {tl : List Tok} {p f : Nat} (h : p < s.size) (hf : s.size ≤ p + f) (hR : scan s (f + 1) p tl = R) (c1 : ¬ (bt s p 0 = 32 ∨ bt s p 0 = 9 ∨ bt s p 0 = 10)) (c2 : ¬ (bt s p 0 = 47 ∧ p + 1 < s.size ∧ bt s p 1 = 47)) (d : digB ((bt s p 0 : Nat) : Int) = false) (len kind : Int) : At19 s R tl p len kind 0 5 := by
  have hk : skipN s p = 0 := by unfold skipN; rw [if_neg c1, if_neg c2]
  exact Or.inr (Or.inr ⟨h, f, hf, Or.inr (Or.inr ⟨hR, hk, Or.inr (Or.inl ⟨rfl, rfl, d⟩)⟩)⟩)
end Go.Proofs.YtpildklndfgojaaDoor.Tk
