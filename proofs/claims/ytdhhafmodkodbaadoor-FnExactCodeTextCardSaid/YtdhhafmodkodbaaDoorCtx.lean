/- What CodeText writes, told without a program; names of ops; rows of bytes as texts. -/
import Derived.Test.YtdhhafmodkodbaaDoorEnc
import Derived.Test.YtdhhafmodkodbaaDoorNtx
import Derived.Lib.OwnKind
import Derived.Lib.AppendStr
import Derived.Lib.BufferRead
import Derived.Lib.UnsafeStr
namespace Go.Proofs.YtdhhafmodkodbaaDoor
open Go.ChangeShapes Go.WideShapes Go.ChangeAt Go.RowKit
set_option linter.unusedVariables false
def opNL : List (List UInt8) := [[], [99, 111, 110, 115, 116], [109, 111, 118, 101], [111, 112], [99, 97, 108, 108], [105, 110], [108, 111, 97, 100], [115, 116, 111, 114, 101], [106, 117, 109, 112], [122, 101, 114, 111], [98, 97, 114, 114, 105, 101, 114], [101, 110, 100], [110, 111, 116], [110, 101, 103]]
def opN (o : Int) : List UInt8 := opNL.getD o.toNat []
theorem opN_len (o : Int) : (opN o).length ≤ 7 := by
  unfold opN
  generalize o.toNat = k
  rcases Nat.lt_or_ge k 14 with h | h
  · rcases (by omega : k = 0 ∨ k = 1 ∨ k = 2 ∨ k = 3 ∨ k = 4 ∨ k = 5 ∨ k = 6 ∨ k = 7 ∨ k = 8 ∨ k = 9 ∨ k = 10 ∨ k = 11 ∨ k = 12 ∨ k = 13) with rfl | rfl | rfl | rfl | rfl | rfl | rfl | rfl | rfl | rfl | rfl | rfl | rfl | rfl <;> decide
  · rw [List.getD_eq_getElem?_getD, List.getElem?_eq_none (by simpa [opNL] using h)]
    decide
def fldT (o d a b c x : Int) : Nat → List UInt8
  | 0 => []
  | k + 1 => fldT o d a b c x k ++ (if nmd o k then 32 :: Lib.itoa (val d a b c x k) else [])
def codeT (O D A B C X : Nat → Int) : Nat → List UInt8
  | 0 => []
  | k + 1 => codeT O D A B C X k ++ (opN (O k) ++ fldT (O k) (D k) (A k) (B k) (C k) (X k) 5 ++ [10])
theorem nDigits_le : ∀ (k u : Nat), u < 10 ^ (k + 1) → Lib.nDigits u ≤ k + 1
  | 0, u, h => by rw [Lib.nDigits_small (by simpa using h)]; exact Nat.le_refl _
  | k + 1, u, h => by
    by_cases hs : u < 10
    · rw [Lib.nDigits_small hs]; omega
    · rw [Lib.nDigits_big hs]
      have := nDigits_le k (u / 10) (by rw [Nat.pow_succ] at h; omega)
      omega
theorem itoa_len (v : Int) (v0 : 0 ≤ v) (v1 : v < 4294967296) : (Lib.itoa v).length ≤ 10 := by
  unfold Lib.itoa
  rw [if_neg (by omega), Lib.decDigits_length]
  exact nDigits_le 9 _ (by simp only [Nat.reduceAdd, Nat.reducePow]; omega)
theorem fldT_len {o d a b c x : Int} (h : Bds o d a b c x) : ∀ k, k ≤ 5 → (fldT o d a b c x k).length ≤ 11 * k
  | 0, _ => by simp [fldT]
  | k + 1, hk => by
    have i := fldT_len h k (by omega)
    have v := h.2 k (by omega)
    have l := itoa_len _ v.1 v.2
    rw [fldT, List.length_append]
    split
    · simp only [List.length_cons]; omega
    · simp; omega
theorem codeT_len {O D A B C X : Nat → Int} {n : Nat} (h : ∀ k, k < n → Bds (O k) (D k) (A k) (B k) (C k) (X k)) : ∀ k, k ≤ n → (codeT O D A B C X k).length ≤ 63 * k
  | 0, _ => by simp [codeT]
  | k + 1, hk => by
    have i := codeT_len h k (by omega)
    have f := fldT_len (h k (by omega)) 5 (Nat.le_refl _)
    have o := opN_len (O k)
    rw [codeT, List.length_append, List.length_append, List.length_append]
    simp only [List.length_cons, List.length_nil]
    omega
/-- What CodeText writes. -/
def ctS (O D A B C X : Nat → Int) (n : Nat) : ByteArray := if goodC O D A B C X n then ⟨(codeT O D A B C X n).toArray⟩ else ⟨#[]⟩
theorem goodC_bds {O D A B C X : Nat → Int} {n : Nat} (h : goodC O D A B C X n = true) : n ≤ 600 ∧ 1 ≤ n ∧ ∀ k, k < n → Bds (O k) (D k) (A k) (B k) (C k) (X k) := by
  unfold goodC at h
  simp only [Bool.and_eq_true, decide_eq_true_eq] at h
  obtain ⟨⟨h1, h2⟩, h3, _⟩ := h
  exact ⟨h2, h1, fun k hk => bds_of (allB_at _ n k h3 hk) (by omega)⟩
theorem fN_bit5 (o : Int) (h : 1 ≤ o ∧ o ≤ 13) (j : Nat) (hj : j < 5) : (bits .and .i64 (fN o / 2 ^ (4 - j)) 1 == 1) = nmd o j := by
  rcases (by omega : j = 0 ∨ j = 1 ∨ j = 2 ∨ j = 3 ∨ j = 4) with rfl | rfl | rfl | rfl | rfl <;> rcases op_in o h with rfl | rfl | rfl | rfl | rfl | rfl | rfl | rfl | rfl | rfl | rfl | rfl | rfl <;> decide +kernel
set_option maxRecDepth 100000 in
set_option maxHeartbeats 4000000 in
theorem name26 (o : Int) (w : World) (h : 1 ≤ o ∧ o ≤ 13) : Calls Tryd.prog 10 #[.int .i64 o] w fun e w' => e = .returned (.string ⟨(opN o).toArray⟩) ∧ Below w.heap.size w w' := by
  rcases op_in o h with rfl | rfl | rfl | rfl | rfl | rfl | rfl | rfl | rfl | rfl | rfl | rfl | rfl
  all_goals
    clear h
    go_enter Tryd.func10, Tryd.ntmps10
    go_wp2
    go_ret
    exact ⟨rfl, (Below.refl _ _).alloc (Nat.le_refl _) _⟩
/-- A row of bytes that a call is making, told as a text. -/
def Rt (B : Nat) (w : World) (v : Value) (l : List UInt8) : Prop := w.ownsRow B 5 1 v l.length (Lib.byteCells l) ∧ B ≤ w.heap.size
theorem Rt.next {B : Nat} {w w' : World} {v : Value} {l : List UInt8} (h : Rt B w v l) (b : Below w.heap.size w w') : Rt B w' v l :=
  ⟨h.1.kept (row := none) ⟨b.os, b.tape, b.output, b.size, fun i hi _ => b.block i hi⟩ (by cases e : v.ownBlock <;> simp), Nat.le_trans h.2 b.size⟩
theorem Rt.lt {B : Nat} {w : World} {v : Value} {l : List UInt8} (h : Rt B w v l) : ∀ g, v.ownBlock = some g → B ≤ g ∧ g < w.heap.size := fun g hg => h.1.lt g hg
theorem Rt.str {B : Nat} {w w' : World} {v v' : Value} {l : List UInt8} (h : Rt B w v l) (s : ByteArray) (k : w'.ownsRow B 5 1 v' (l.length + s.size) (Lib.byteCells l ++ Lib.strCells s)) (g : w.grownBy w' v.ownBlock) : Rt B w' v' (l ++ s.data.toList) := by
  refine ⟨?_, Nat.le_trans h.2 g.size⟩
  rw [List.length_append, Lib.byteCells_append, ← Lib.strCells_eq]
  simpa using k
theorem Rt.one {B : Nat} {w w' : World} {v v' : Value} {l : List UInt8} (h : Rt B w v l) (c : UInt8) (k : w'.ownsRow B 5 1 v' (l.length + 1) (Lib.byteCells l ++ [.int .u8 c.toNat])) (hs : w.heap.size ≤ w'.heap.size) : Rt B w' v' (l ++ [c]) := by
  refine ⟨?_, Nat.le_trans h.2 hs⟩
  rw [List.length_append, Lib.byteCells_append]
  exact k
theorem Rt.ne {B : Nat} {w : World} {v : Value} {l : List UInt8} (h : Rt B w v l) {s : Nat} {cs : Array Value} {t : TypeId} {fz : Nat × Nat} (hs : w.heap[s]? = some (.cells cs t fz)) (ht : t ≠ 5) : some s ≠ v.ownBlock := by
  intro e
  obtain ⟨c, f, hg⟩ := Lib.ownsRow_kind h.1 s e.symm
  rw [hs] at hg
  injection hg with hg
  injection hg with _ hg
  exact ht hg
theorem Rt.text {B : Nat} {w : World} {v : Value} {l : List UInt8} (h : Rt B w v l) : (convert 31 9 v).run Tryd.prog w = .ok (.string ⟨l.toArray⟩) w := by
  rcases h.1.2 with ⟨hv, h0⟩ | ⟨g, cap, cur, hv, hB, hg, hn, hc, hs, ht⟩
  · obtain rfl : l = [] := by cases l <;> simp_all
    subst hv
    exact Lib.run_convert_nil_bytes w 31 9 5 0 Tryd.underlying31 Tryd.underlying5 Tryd.underlying9
  · subst hv
    exact run_convert_bytes_back w 31 9 5 ⟨g, 0, none⟩ cap l Tryd.underlying31 Tryd.underlying5 Tryd.underlying9 (Lib.bytes_of_row hg (by simpa using ht))
theorem heap_nw (w : World) (cs : Array Value) (t : TypeId) : (w.alloc (.cells cs t)).heap[w.heap.size]? = some (.cells cs t (0, 0)) := heap_alloc_new _ _
theorem lt_of_heap {w : World} {k : Nat} {o : Obj} (h : w.heap[k]? = some o) : k < w.heap.size := by
  rcases Nat.lt_or_ge k w.heap.size with h' | h'
  · exact h'
  · simp [Array.getElem?_eq_none h'] at h
theorem heap_nx {w w' : World} {k : Nat} {o : Obj} (h : w.heap[k]? = some o) (b : Below w.heap.size w w') : w'.heap[k]? = some o := (b.block k (lt_of_heap h)).trans h
end Go.Proofs.YtdhhafmodkodbaaDoor
