/- Structs at the head of a block; what a good cache is, told without a program. -/
import Derived.Test.YtfhpjcojccfcoaaCl
namespace Go.Proofs.Ytfhpjcojccfcoaa
open Go.ChangeShapes Go.WideShapes Go.ChangeAt Go.RowKit
set_option linter.unusedVariables false
/-- A struct of 5 cells at the head of a block. -/
structure C5 (w : World) (b : Nat) (v0 v1 v2 v3 v4 : Value) : Prop where
  c0 : w.cell? ⟨b, 0, none⟩ = some v0
  c1 : w.cell? ⟨b, 1, none⟩ = some v1
  c2 : w.cell? ⟨b, 2, none⟩ = some v2
  c3 : w.cell? ⟨b, 3, none⟩ = some v3
  c4 : w.cell? ⟨b, 4, none⟩ = some v4
  f : ∀ i, w.frozen? ⟨b, i, none⟩ = false
  hi : b < w.heap.size
theorem C5.new (w : World) (t : TypeId) (v0 v1 v2 v3 v4 : Value) : C5 (w.alloc (.cells #[v0, v1, v2, v3, v4] t)) w.heap.size v0 v1 v2 v3 v4 := ⟨by simp, by simp, by simp, by simp, by simp, fun i => by simp, by simp⟩
theorem C5.next {w w' : World} {b : Nat} {v0 v1 v2 v3 v4 : Value} (h : C5 w b v0 v1 v2 v3 v4) (k : Below w.heap.size w w') : C5 w' b v0 v1 v2 v3 v4 := ⟨cell_nx h.c0 k, cell_nx h.c1 k, cell_nx h.c2 k, cell_nx h.c3 k, cell_nx h.c4 k, fun i => (k.frozen (p := ⟨b, i, none⟩) h.hi).trans (h.f i), by have := k.size; have := h.hi; omega⟩
theorem C5.block {w w' : World} {b : Nat} {v0 v1 v2 v3 v4 : Value} (h : C5 w b v0 v1 v2 v3 v4) (k : w'.heap[b]? = w.heap[b]?) (hs : w.heap.size ≤ w'.heap.size) : C5 w' b v0 v1 v2 v3 v4 := ⟨(World.cell?_of_block (w := w) (a := ⟨b, 0, none⟩) k).trans h.c0, (World.cell?_of_block (w := w) (a := ⟨b, 1, none⟩) k).trans h.c1, (World.cell?_of_block (w := w) (a := ⟨b, 2, none⟩) k).trans h.c2, (World.cell?_of_block (w := w) (a := ⟨b, 3, none⟩) k).trans h.c3, (World.cell?_of_block (w := w) (a := ⟨b, 4, none⟩) k).trans h.c4, fun i => (World.frozen?_of_block (w := w) (a := ⟨b, i, none⟩) k).trans (h.f i), by have := h.hi; omega⟩
def set5 (w : World) (b : Nat) (u0 u1 u2 u3 u4 : Value) : World := (((((w.setCell ⟨b, 0, none⟩ u0).setCell ⟨b, 1, none⟩ u1).setCell ⟨b, 2, none⟩ u2).setCell ⟨b, 3, none⟩ u3).setCell ⟨b, 4, none⟩ u4)
theorem only_set5 (w : World) (b : Nat) (u0 u1 u2 u3 u4 : Value) : Only b w (set5 w b u0 u1 u2 u3 u4) := by
  unfold set5
  exact (((((Only.refl _ _).setCell _ _).setCell _ _).setCell _ _).setCell _ _).setCell _ _
theorem C5.s0 {w : World} {b : Nat} {v0 v1 v2 v3 v4 : Value} (h : C5 w b v0 v1 v2 v3 v4) (x : Value) : C5 (w.setCell ⟨b, 0, none⟩ x) b x v1 v2 v3 v4 := ⟨World.cell?_setCell_same' _ _ _ (by rw [h.c0]; rfl), by rw [World.cell?_setCell_other (h := addr_ne (by decide))]; exact h.c1, by rw [World.cell?_setCell_other (h := addr_ne (by decide))]; exact h.c2, by rw [World.cell?_setCell_other (h := addr_ne (by decide))]; exact h.c3, by rw [World.cell?_setCell_other (h := addr_ne (by decide))]; exact h.c4, fun i => by simp [h.f i], by simpa using h.hi⟩
theorem C5.s1 {w : World} {b : Nat} {v0 v1 v2 v3 v4 : Value} (h : C5 w b v0 v1 v2 v3 v4) (x : Value) : C5 (w.setCell ⟨b, 1, none⟩ x) b v0 x v2 v3 v4 := ⟨by rw [World.cell?_setCell_other (h := addr_ne (by decide))]; exact h.c0, World.cell?_setCell_same' _ _ _ (by rw [h.c1]; rfl), by rw [World.cell?_setCell_other (h := addr_ne (by decide))]; exact h.c2, by rw [World.cell?_setCell_other (h := addr_ne (by decide))]; exact h.c3, by rw [World.cell?_setCell_other (h := addr_ne (by decide))]; exact h.c4, fun i => by simp [h.f i], by simpa using h.hi⟩
theorem C5.s2 {w : World} {b : Nat} {v0 v1 v2 v3 v4 : Value} (h : C5 w b v0 v1 v2 v3 v4) (x : Value) : C5 (w.setCell ⟨b, 2, none⟩ x) b v0 v1 x v3 v4 := ⟨by rw [World.cell?_setCell_other (h := addr_ne (by decide))]; exact h.c0, by rw [World.cell?_setCell_other (h := addr_ne (by decide))]; exact h.c1, World.cell?_setCell_same' _ _ _ (by rw [h.c2]; rfl), by rw [World.cell?_setCell_other (h := addr_ne (by decide))]; exact h.c3, by rw [World.cell?_setCell_other (h := addr_ne (by decide))]; exact h.c4, fun i => by simp [h.f i], by simpa using h.hi⟩
theorem C5.s3 {w : World} {b : Nat} {v0 v1 v2 v3 v4 : Value} (h : C5 w b v0 v1 v2 v3 v4) (x : Value) : C5 (w.setCell ⟨b, 3, none⟩ x) b v0 v1 v2 x v4 := ⟨by rw [World.cell?_setCell_other (h := addr_ne (by decide))]; exact h.c0, by rw [World.cell?_setCell_other (h := addr_ne (by decide))]; exact h.c1, by rw [World.cell?_setCell_other (h := addr_ne (by decide))]; exact h.c2, World.cell?_setCell_same' _ _ _ (by rw [h.c3]; rfl), by rw [World.cell?_setCell_other (h := addr_ne (by decide))]; exact h.c4, fun i => by simp [h.f i], by simpa using h.hi⟩
theorem C5.s4 {w : World} {b : Nat} {v0 v1 v2 v3 v4 : Value} (h : C5 w b v0 v1 v2 v3 v4) (x : Value) : C5 (w.setCell ⟨b, 4, none⟩ x) b v0 v1 v2 v3 x := ⟨by rw [World.cell?_setCell_other (h := addr_ne (by decide))]; exact h.c0, by rw [World.cell?_setCell_other (h := addr_ne (by decide))]; exact h.c1, by rw [World.cell?_setCell_other (h := addr_ne (by decide))]; exact h.c2, by rw [World.cell?_setCell_other (h := addr_ne (by decide))]; exact h.c3, World.cell?_setCell_same' _ _ _ (by rw [h.c4]; rfl), fun i => by simp [h.f i], by simpa using h.hi⟩
theorem C5.put {w : World} {b : Nat} {v0 v1 v2 v3 v4 : Value} (h : C5 w b v0 v1 v2 v3 v4) (u0 u1 u2 u3 u4 : Value) : C5 (set5 w b u0 u1 u2 u3 u4) b u0 u1 u2 u3 u4 := (((((h.s0 u0).s1 u1).s2 u2).s3 u3).s4 u4)
/-- A struct of 6 cells at the head of a block. -/
structure C6 (w : World) (b : Nat) (v0 v1 v2 v3 v4 v5 : Value) : Prop where
  c0 : w.cell? ⟨b, 0, none⟩ = some v0
  c1 : w.cell? ⟨b, 1, none⟩ = some v1
  c2 : w.cell? ⟨b, 2, none⟩ = some v2
  c3 : w.cell? ⟨b, 3, none⟩ = some v3
  c4 : w.cell? ⟨b, 4, none⟩ = some v4
  c5 : w.cell? ⟨b, 5, none⟩ = some v5
  f : ∀ i, w.frozen? ⟨b, i, none⟩ = false
  hi : b < w.heap.size
theorem C6.new (w : World) (t : TypeId) (v0 v1 v2 v3 v4 v5 : Value) : C6 (w.alloc (.cells #[v0, v1, v2, v3, v4, v5] t)) w.heap.size v0 v1 v2 v3 v4 v5 := ⟨by simp, by simp, by simp, by simp, by simp, by simp, fun i => by simp, by simp⟩
theorem C6.next {w w' : World} {b : Nat} {v0 v1 v2 v3 v4 v5 : Value} (h : C6 w b v0 v1 v2 v3 v4 v5) (k : Below w.heap.size w w') : C6 w' b v0 v1 v2 v3 v4 v5 := ⟨cell_nx h.c0 k, cell_nx h.c1 k, cell_nx h.c2 k, cell_nx h.c3 k, cell_nx h.c4 k, cell_nx h.c5 k, fun i => (k.frozen (p := ⟨b, i, none⟩) h.hi).trans (h.f i), by have := k.size; have := h.hi; omega⟩
theorem C6.block {w w' : World} {b : Nat} {v0 v1 v2 v3 v4 v5 : Value} (h : C6 w b v0 v1 v2 v3 v4 v5) (k : w'.heap[b]? = w.heap[b]?) (hs : w.heap.size ≤ w'.heap.size) : C6 w' b v0 v1 v2 v3 v4 v5 := ⟨(World.cell?_of_block (w := w) (a := ⟨b, 0, none⟩) k).trans h.c0, (World.cell?_of_block (w := w) (a := ⟨b, 1, none⟩) k).trans h.c1, (World.cell?_of_block (w := w) (a := ⟨b, 2, none⟩) k).trans h.c2, (World.cell?_of_block (w := w) (a := ⟨b, 3, none⟩) k).trans h.c3, (World.cell?_of_block (w := w) (a := ⟨b, 4, none⟩) k).trans h.c4, (World.cell?_of_block (w := w) (a := ⟨b, 5, none⟩) k).trans h.c5, fun i => (World.frozen?_of_block (w := w) (a := ⟨b, i, none⟩) k).trans (h.f i), by have := h.hi; omega⟩
def set6 (w : World) (b : Nat) (u0 u1 u2 u3 u4 u5 : Value) : World := ((((((w.setCell ⟨b, 0, none⟩ u0).setCell ⟨b, 1, none⟩ u1).setCell ⟨b, 2, none⟩ u2).setCell ⟨b, 3, none⟩ u3).setCell ⟨b, 4, none⟩ u4).setCell ⟨b, 5, none⟩ u5)
theorem only_set6 (w : World) (b : Nat) (u0 u1 u2 u3 u4 u5 : Value) : Only b w (set6 w b u0 u1 u2 u3 u4 u5) := by
  unfold set6
  exact ((((((Only.refl _ _).setCell _ _).setCell _ _).setCell _ _).setCell _ _).setCell _ _).setCell _ _
theorem C6.s0 {w : World} {b : Nat} {v0 v1 v2 v3 v4 v5 : Value} (h : C6 w b v0 v1 v2 v3 v4 v5) (x : Value) : C6 (w.setCell ⟨b, 0, none⟩ x) b x v1 v2 v3 v4 v5 := ⟨World.cell?_setCell_same' _ _ _ (by rw [h.c0]; rfl), by rw [World.cell?_setCell_other (h := addr_ne (by decide))]; exact h.c1, by rw [World.cell?_setCell_other (h := addr_ne (by decide))]; exact h.c2, by rw [World.cell?_setCell_other (h := addr_ne (by decide))]; exact h.c3, by rw [World.cell?_setCell_other (h := addr_ne (by decide))]; exact h.c4, by rw [World.cell?_setCell_other (h := addr_ne (by decide))]; exact h.c5, fun i => by simp [h.f i], by simpa using h.hi⟩
theorem C6.s1 {w : World} {b : Nat} {v0 v1 v2 v3 v4 v5 : Value} (h : C6 w b v0 v1 v2 v3 v4 v5) (x : Value) : C6 (w.setCell ⟨b, 1, none⟩ x) b v0 x v2 v3 v4 v5 := ⟨by rw [World.cell?_setCell_other (h := addr_ne (by decide))]; exact h.c0, World.cell?_setCell_same' _ _ _ (by rw [h.c1]; rfl), by rw [World.cell?_setCell_other (h := addr_ne (by decide))]; exact h.c2, by rw [World.cell?_setCell_other (h := addr_ne (by decide))]; exact h.c3, by rw [World.cell?_setCell_other (h := addr_ne (by decide))]; exact h.c4, by rw [World.cell?_setCell_other (h := addr_ne (by decide))]; exact h.c5, fun i => by simp [h.f i], by simpa using h.hi⟩
theorem C6.s2 {w : World} {b : Nat} {v0 v1 v2 v3 v4 v5 : Value} (h : C6 w b v0 v1 v2 v3 v4 v5) (x : Value) : C6 (w.setCell ⟨b, 2, none⟩ x) b v0 v1 x v3 v4 v5 := ⟨by rw [World.cell?_setCell_other (h := addr_ne (by decide))]; exact h.c0, by rw [World.cell?_setCell_other (h := addr_ne (by decide))]; exact h.c1, World.cell?_setCell_same' _ _ _ (by rw [h.c2]; rfl), by rw [World.cell?_setCell_other (h := addr_ne (by decide))]; exact h.c3, by rw [World.cell?_setCell_other (h := addr_ne (by decide))]; exact h.c4, by rw [World.cell?_setCell_other (h := addr_ne (by decide))]; exact h.c5, fun i => by simp [h.f i], by simpa using h.hi⟩
theorem C6.s3 {w : World} {b : Nat} {v0 v1 v2 v3 v4 v5 : Value} (h : C6 w b v0 v1 v2 v3 v4 v5) (x : Value) : C6 (w.setCell ⟨b, 3, none⟩ x) b v0 v1 v2 x v4 v5 := ⟨by rw [World.cell?_setCell_other (h := addr_ne (by decide))]; exact h.c0, by rw [World.cell?_setCell_other (h := addr_ne (by decide))]; exact h.c1, by rw [World.cell?_setCell_other (h := addr_ne (by decide))]; exact h.c2, World.cell?_setCell_same' _ _ _ (by rw [h.c3]; rfl), by rw [World.cell?_setCell_other (h := addr_ne (by decide))]; exact h.c4, by rw [World.cell?_setCell_other (h := addr_ne (by decide))]; exact h.c5, fun i => by simp [h.f i], by simpa using h.hi⟩
theorem C6.s4 {w : World} {b : Nat} {v0 v1 v2 v3 v4 v5 : Value} (h : C6 w b v0 v1 v2 v3 v4 v5) (x : Value) : C6 (w.setCell ⟨b, 4, none⟩ x) b v0 v1 v2 v3 x v5 := ⟨by rw [World.cell?_setCell_other (h := addr_ne (by decide))]; exact h.c0, by rw [World.cell?_setCell_other (h := addr_ne (by decide))]; exact h.c1, by rw [World.cell?_setCell_other (h := addr_ne (by decide))]; exact h.c2, by rw [World.cell?_setCell_other (h := addr_ne (by decide))]; exact h.c3, World.cell?_setCell_same' _ _ _ (by rw [h.c4]; rfl), by rw [World.cell?_setCell_other (h := addr_ne (by decide))]; exact h.c5, fun i => by simp [h.f i], by simpa using h.hi⟩
theorem C6.s5 {w : World} {b : Nat} {v0 v1 v2 v3 v4 v5 : Value} (h : C6 w b v0 v1 v2 v3 v4 v5) (x : Value) : C6 (w.setCell ⟨b, 5, none⟩ x) b v0 v1 v2 v3 v4 x := ⟨by rw [World.cell?_setCell_other (h := addr_ne (by decide))]; exact h.c0, by rw [World.cell?_setCell_other (h := addr_ne (by decide))]; exact h.c1, by rw [World.cell?_setCell_other (h := addr_ne (by decide))]; exact h.c2, by rw [World.cell?_setCell_other (h := addr_ne (by decide))]; exact h.c3, by rw [World.cell?_setCell_other (h := addr_ne (by decide))]; exact h.c4, World.cell?_setCell_same' _ _ _ (by rw [h.c5]; rfl), fun i => by simp [h.f i], by simpa using h.hi⟩
theorem C6.put {w : World} {b : Nat} {v0 v1 v2 v3 v4 v5 : Value} (h : C6 w b v0 v1 v2 v3 v4 v5) (u0 u1 u2 u3 u4 u5 : Value) : C6 (set6 w b u0 u1 u2 u3 u4 u5) b u0 u1 u2 u3 u4 u5 := ((((((h.s0 u0).s1 u1).s2 u2).s3 u3).s4 u4).s5 u5)
/-- What NewCache takes. -/
def newB (s y l p : Int) : Bool := pwB s 1 64 && ((decide (1 ≤ y) && decide (y ≤ 8)) && (pwB l 16 256 && (decide (1 ≤ p) && decide (p ≤ 3))))
theorem newB_iff {s y l p : Int} (h : newB s y l p = true) : pwB s 1 64 = true ∧ (1 ≤ y ∧ y ≤ 8) ∧ pwB l 16 256 = true ∧ 1 ≤ p ∧ p ≤ 3 := by
  unfold newB at h
  simp only [Bool.and_eq_true, decide_eq_true_eq] at h
  exact ⟨h.1, h.2.1, h.2.2.1, h.2.2.2⟩
def inS (s : Int) (x : Nat) (v : Int) : Bool := (decide (0 ≤ v) && decide (v ≤ 1000000)) && (v % s == (x : Int))
/-- What a set may have. -/
def setB (s y : Int) (x : Nat) (L : List Int) : Bool := decide ((L.length : Int) ≤ y) && (L.all (inS s x) && decide L.Nodup)
def allN (p : Nat → Bool) : Nat → Bool
  | 0 => true
  | k + 1 => allN p k && p k
theorem allN_iff (p : Nat → Bool) : ∀ n, allN p n = true ↔ ∀ k, k < n → p k = true
  | 0 => ⟨fun _ k hk => absurd hk (Nat.not_lt_zero _), fun _ => rfl⟩
  | n + 1 => by
    rw [allN, Bool.and_eq_true, allN_iff p n]
    constructor
    · rintro ⟨h1, h2⟩ k hk
      by_cases e : k = n
      · subst e; exact h2
      · exact h1 k (by omega)
    · exact fun h => ⟨fun k hk => h k (by omega), h n (by omega)⟩
theorem allN_no {p : Nat → Bool} {n k : Nat} (hk : k < n) (h : p k = false) : allN p n = false := by
  cases e : allN p n
  · rfl
  · rw [(allN_iff p n).1 e k hk] at h; cases h
/-- A good cache: n rows of lines, f. -/
def goodB (s y l p : Int) (n : Nat) (f : Nat → List Int) (c : Int) : Bool := newB s y l p && (decide ((n : Int) = s) && ((decide (0 ≤ c) && decide (c ≤ 65535)) && allN (fun x => setB s y x (f x)) n))
theorem goodB_iff {s y l p : Int} {n : Nat} {f : Nat → List Int} {c : Int} (h : goodB s y l p n f c = true) : newB s y l p = true ∧ (n : Int) = s ∧ (0 ≤ c ∧ c ≤ 65535) ∧ ∀ x, x < n → setB s y x (f x) = true := by
  unfold goodB at h
  simp only [Bool.and_eq_true, decide_eq_true_eq] at h
  exact ⟨h.1, h.2.1, h.2.2.1, (allN_iff _ n).1 h.2.2.2⟩
theorem inS_iff {s : Int} {x : Nat} {v : Int} : inS s x v = true ↔ 0 ≤ v ∧ v ≤ 1000000 ∧ v % s = (x : Int) := by
  unfold inS
  simp only [Bool.and_eq_true, decide_eq_true_eq, beq_iff_eq, and_assoc]
theorem setB_P {n y x : Nat} {L : List Int} (h : setB (n : Int) (y : Int) x L = true) : setP n y x L := by
  unfold setB at h
  simp only [Bool.and_eq_true, decide_eq_true_eq, List.all_eq_true] at h
  exact ⟨by omega, fun v hv => inS_iff.1 (h.2.1 v hv), h.2.2⟩
theorem fs_full (l : List Int) : ∀ k, k ≤ l.length → ((fs l k).length = k ↔ (l.take k).Nodup)
  | 0, _ => by simp [fs]
  | k + 1, hk => by
    have ih := fs_full l k (by omega)
    have hl := fs_len l k
    have hm := fs_take l k (by omega) (l.getD k 0)
    rw [fs, take_snoc l k (by omega), List.nodup_append]
    by_cases e : l.getD k 0 ∈ fs l k
    · rw [if_pos e]
      constructor
      · intro h; omega
      · rintro ⟨_, _, h3⟩
        exact absurd rfl (h3 _ (hm.1 e) _ (by simp))
    · rw [if_neg e, List.length_append, List.length_singleton]
      constructor
      · intro h
        refine ⟨ih.1 (by omega), by simp, fun a ha b hb q => ?_⟩
        rw [List.mem_singleton] at hb
        subst hb; subst q
        exact e (hm.2 ha)
      · rintro ⟨h1, _, _⟩
        rw [ih.2 h1]
theorem srt_nodup_iff (l : List Int) : (srt l).length = l.length ↔ l.Nodup := by
  have p : (srt l).Perm (fs l l.length) := by
    rw [List.perm_iff_count]
    intro a
    have e : a ∈ srt l ↔ a ∈ fs l l.length := by rw [srt_mem, fs_take l _ (Nat.le_refl _), List.take_length]
    rw [List.Nodup.count (srt_nodup l), List.Nodup.count (fs_nodup l _)]
    by_cases q : a ∈ srt l
    · rw [if_pos q, if_pos (e.1 q)]
    · rw [if_neg q, if_neg (fun h => q (e.2 h))]
  rw [p.length_eq, fs_full l _ (Nat.le_refl _), List.take_length]
/-- m rows of numbers, with room at their ends or none. -/
def ARowsC (w : World) (v : Value) (m : Nat) (f : Nat → List Int) : Prop := ∃ ad c, v = .slice ad m c ∧ m ≤ c ∧ ∀ i, i < m → ∃ q o u, ad = some ⟨q, o, none⟩ ∧ w.cell? ⟨q, o + i, none⟩ = some u ∧ ARowC w u (f i)
theorem ARowsC.next {w w' : World} {v : Value} {m : Nat} {f : Nat → List Int} (h : ARowsC w v m f) (b : Below w.heap.size w w') : ARowsC w' v m f := by
  obtain ⟨ad, c, h1, h0, h2⟩ := h
  refine ⟨ad, c, h1, h0, fun i hi => ?_⟩
  obtain ⟨q, o, u, h3, h4, h5⟩ := h2 i hi
  exact ⟨q, o, u, h3, cell_nx h4 b, h5.next b⟩
theorem ARowsC.rows {w : World} {v : Value} {m : Nat} {f : Nat → List Int} (h : ARowsC w v m f) : ARows w v m f := by
  obtain ⟨ad, c, h1, h0, h2⟩ := h
  refine ⟨ad, c, h1, fun i hi => ?_⟩
  obtain ⟨q, o, u, h3, h4, h5⟩ := h2 i hi
  exact ⟨q, o, u, h3, h4, h5.row⟩
end Go.Proofs.Ytfhpjcojccfcoaa
