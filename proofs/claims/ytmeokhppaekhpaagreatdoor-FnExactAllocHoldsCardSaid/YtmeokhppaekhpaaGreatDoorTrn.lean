/- Rows of numbers told the other way round: for each number the rows in which it is; and the memory in which that is made. No function of the program is spoken of here. The program's turned: rows of numbers told the other way round. -/
import Derived.Test.YtmeokhppaekhpaaGreatDoorWhr
import Derived.Test.YtmeokhppaekhpaaGreatDoorRch
import Derived.Test.YtmeokhppaekhpaaGreatDoorLwo
namespace Go.Proofs.YtmeokhppaekhpaaGreatDoor
open Go.ChangeShapes Go.WideShapes Go.ChangeAt Go.RowKit
set_option linter.unusedVariables false
/-- A row of whole numbers as it is read, wherever it lies. -/
def ARow (w : World) (v : Value) (L : List Int) : Prop := ∃ ad c, v = .slice ad L.length c ∧ ∀ i, i < L.length → ∃ g o, ad = some ⟨g, o, none⟩ ∧ w.cell? ⟨g, o + i, none⟩ = some (.int .i64 (L.getD i 0))
theorem ARow.next {w w' : World} {v : Value} {L : List Int} (h : ARow w v L) (b : Below w.heap.size w w') : ARow w' v L := by
  obtain ⟨ad, c, h1, h2⟩ := h
  refine ⟨ad, c, h1, fun i hi => ?_⟩
  obtain ⟨g, o, h3, h4⟩ := h2 i hi
  exact ⟨g, o, h3, cell_nx h4 b⟩
theorem IRow.arow {w : World} {v : Value} {L : List Int} (h : IRow w v L) : ARow w v L := by
  rcases h with ⟨rfl, rfl⟩ | ⟨g, c, rfl, _, k⟩
  · exact ⟨none, 0, rfl, fun i hi => absurd hi (by simp)⟩
  · exact ⟨_, c, rfl, fun i hi => ⟨g, 0, rfl, by rw [Nat.zero_add]; exact k.cell i hi⟩⟩
theorem IOwn.arow {B : Nat} {w : World} {v : Value} {L : List Int} (h : IOwn B w v L) : ARow w v L := h.row.arow
/-- m such rows, one behind the other. -/
def ARows (w : World) (v : Value) (m : Nat) (f : Nat → List Int) : Prop := ∃ ad c, v = .slice ad m c ∧ ∀ i, i < m → ∃ q o u, ad = some ⟨q, o, none⟩ ∧ w.cell? ⟨q, o + i, none⟩ = some u ∧ ARow w u (f i)
theorem ARows.next {w w' : World} {v : Value} {m : Nat} {f : Nat → List Int} (h : ARows w v m f) (b : Below w.heap.size w w') : ARows w' v m f := by
  obtain ⟨ad, c, h1, h2⟩ := h
  refine ⟨ad, c, h1, fun i hi => ?_⟩
  obtain ⟨q, o, u, h3, h4, h5⟩ := h2 i hi
  exact ⟨q, o, u, h3, cell_nx h4 b, h5.next b⟩
/-- For a number the rows, of the first m, in which it is. -/
def colL (f : Nat → List Int) : Nat → Nat → List Int
  | 0, _ => []
  | m + 1, x => colL f m x ++ List.replicate ((f m).count (x : Int)) (m : Int)
/-- .. and of row m the first j. -/
def colP (f : Nat → List Int) (m j x : Nat) : List Int := colL f m x ++ List.replicate (((f m).take j).count (x : Int)) (m : Int)
theorem colP_zero (f : Nat → List Int) (m x : Nat) : colP f m 0 x = colL f m x := by simp [colP]
theorem colP_full (f : Nat → List Int) (m x : Nat) : colP f m (f m).length x = colL f (m + 1) x := by simp [colP, colL]
theorem take_snoc (M : List Int) (j : Nat) (hj : j < M.length) : M.take (j + 1) = M.take j ++ [M.getD j 0] := by
  rw [List.take_add_one]
  simp [List.getD, hj]
theorem colP_at (f : Nat → List Int) (m j x : Nat) (hj : j < (f m).length) (h : (f m).getD j 0 = (x : Int)) : colP f m (j + 1) x = colP f m j x ++ [(m : Int)] := by
  unfold colP
  rw [take_snoc _ _ hj, List.count_append, h, List.append_assoc]
  congr 1
  rw [show List.count (x : Int) [(x : Int)] = 1 by simp, List.replicate_succ']
theorem colP_not (f : Nat → List Int) (m j x : Nat) (hj : j < (f m).length) (h : (f m).getD j 0 ≠ (x : Int)) : colP f m (j + 1) x = colP f m j x := by
  unfold colP
  rw [take_snoc _ _ hj, List.count_append, show List.count (x : Int) [(f m).getD j 0] = 0 by rw [List.count_eq_zero]; simpa using fun e => h e.symm, Nat.add_zero]
theorem colL_mono (f : Nat → List Int) (x : Nat) {m n : Nat} (h : m ≤ n) : (colL f m x).length ≤ (colL f n x).length := by
  induction n with
  | zero => obtain rfl : m = 0 := by omega
            exact Nat.le_refl _
  | succ n ih =>
    by_cases e : m = n + 1
    · subst e; exact Nat.le_refl _
    · have := ih (by omega)
      rw [colL, List.length_append]
      omega
theorem colP_le (f : Nat → List Int) (m j x n : Nat) (hm : m < n) : (colP f m j x).length ≤ (colL f n x).length := by
  refine Nat.le_trans ?_ (colL_mono f x (show m + 1 ≤ n by omega))
  rw [colP, colL, List.length_append, List.length_append, List.length_replicate, List.length_replicate]
  have := (List.take_sublist j (f m)).count_le (x : Int)
  omega
theorem colP_lt (f : Nat → List Int) (m j x n : Nat) (hm : m < n) (hj : j < (f m).length) (h : (f m).getD j 0 = (x : Int)) : (colP f m j x).length < (colL f n x).length := by
  have := colP_le f m (j + 1) x n hm
  rw [colP_at f m j x hj h, List.length_append] at this
  simp at this
  omega
theorem colL_mem (f : Nat → List Int) (x : Nat) (t : Int) : ∀ m, t ∈ colL f m x ↔ 0 ≤ t ∧ t < m ∧ (x : Int) ∈ f t.toNat
  | 0 => by simp [colL]; omega
  | m + 1 => by
    rw [colL, List.mem_append, colL_mem f x t m, List.mem_replicate]
    constructor
    · rintro (⟨h0, h1, h2⟩ | ⟨h1, rfl⟩)
      · exact ⟨h0, by omega, h2⟩
      · refine ⟨by omega, by omega, ?_⟩
        rw [Int.toNat_natCast]
        exact List.count_pos_iff.1 (by omega)
    · rintro ⟨h0, h1, h2⟩
      by_cases e : t = (m : Int)
      · subst e
        right
        rw [Int.toNat_natCast] at h2
        exact ⟨by have := List.count_pos_iff.2 h2; omega, rfl⟩
      · exact Or.inl ⟨h0, by omega, h2⟩
/-- Where each begins, by how long they are. -/
def offs (S : Nat → Nat) : Nat → Nat
  | 0 => 0
  | k + 1 => offs S k + S k
theorem offs_ext {S U : Nat → Nat} : ∀ k, (∀ x, x < k → S x = U x) → offs S k = offs U k
  | 0, _ => rfl
  | k + 1, h => by rw [offs, offs, offs_ext k (fun x hx => h x (by omega)), h k (by omega)]
theorem offs_inc {S U : Nat → Nat} {v : Nat} : ∀ k, v < k → (∀ x, x < k → U x = if x = v then S x + 1 else S x) → offs U k = offs S k + 1
  | 0, h, _ => by omega
  | k + 1, hv, h => by
    rw [offs, offs, h k (by omega)]
    by_cases e : k = v
    · subst e
      rw [if_pos rfl, offs_ext (S := U) (U := S) k (fun x hx => by rw [h x (by omega), if_neg (by omega)])]
      omega
    · rw [if_neg e, offs_inc k (by omega) (fun x hx => h x (by omega))]
      omega
theorem offs_mono (S : Nat → Nat) {x y : Nat} (h : x ≤ y) : offs S x ≤ offs S y := by
  induction y with
  | zero => obtain rfl : x = 0 := by omega
            exact Nat.le_refl _
  | succ y ih =>
    by_cases e : x = y + 1
    · subst e; exact Nat.le_refl _
    · have := ih (by omega)
      rw [offs]
      omega
theorem offs_lt (S : Nat → Nat) {x y : Nat} (h : x < y) : offs S x + S x ≤ offs S y := by
  have := offs_mono S (show x + 1 ≤ y by omega)
  rwa [offs] at this
def upL (L : Nat → List Int) (x : Nat) (M : List Int) : Nat → List Int := fun y => if y = x then M else L y
/-- Lists that lie one behind the other in block g, each with its room; their slices stand in block gc. -/
structure Tc (w : World) (gc g K : Nat) (S : Nat → Nat) (L : Nat → List Int) : Prop where
  col : ∀ x, x < K → ∃ o, w.cell? ⟨gc, x, none⟩ = some (.slice (some ⟨g, o, none⟩) (L x).length (S x)) ∧ (0 < S x → o = offs S x)
  cel : ∀ x, x < K → ∀ i, i < (L x).length → w.cell? ⟨g, offs S x + i, none⟩ = some (.int .i64 ((L x).getD i 0))
  len : ∀ x, x < K → (L x).length ≤ S x
  room : ∀ i, i < offs S K → (w.cell? ⟨g, i, none⟩).isSome = true
  fg : ∀ i, w.frozen? ⟨g, i, none⟩ = false
  fc : ∀ i, w.frozen? ⟨gc, i, none⟩ = false
  ne : gc ≠ g
  hg : g < w.heap.size
  hc : gc < w.heap.size
theorem Tc.next {w w' : World} {gc g K : Nat} {S : Nat → Nat} {L : Nat → List Int} (h : Tc w gc g K S L) (b : Below w.heap.size w w') : Tc w' gc g K S L := by
  have z := b.size
  have z1 := h.hg
  have z2 := h.hc
  refine ⟨fun x hx => ?_, fun x hx i hi => (b.cell (p := ⟨g, _, none⟩) z1).trans (h.cel x hx i hi), h.len, fun i hi => ?_, fun i => (b.frozen (p := ⟨g, i, none⟩) z1).trans (h.fg i), fun i => (b.frozen (p := ⟨gc, i, none⟩) z2).trans (h.fc i), h.ne, by omega, by omega⟩
  · obtain ⟨o, h1, h2⟩ := h.col x hx
    exact ⟨o, (b.cell (p := ⟨gc, x, none⟩) z2).trans h1, h2⟩
  · rw [b.cell (p := ⟨g, i, none⟩) z1]
    exact h.room i hi
theorem addr_ne {g o p : Nat} (h : o ≠ p) : (⟨g, o, none⟩ : Addr) ≠ ⟨g, p, none⟩ := fun e => h (by injection e)
theorem addr_ne' {g q o p : Nat} (h : g ≠ q) : (⟨g, o, none⟩ : Addr) ≠ ⟨q, p, none⟩ := fun e => h (by injection e)
/-- One number more in one of the lists. -/
theorem Tc.push {w : World} {gc g K x : Nat} {S : Nat → Nat} {L : Nat → List Int} (h : Tc w gc g K S L) (hx : x < K) (hl : (L x).length < S x) (v : Int) :
    Tc ((w.setCell ⟨g, offs S x + (L x).length, none⟩ (.int .i64 v)).setCell ⟨gc, x, none⟩ (.slice (some ⟨g, offs S x, none⟩) ((L x).length + 1) (S x))) gc g K S (upL L x (L x ++ [v])) := by
  have hne := h.ne
  have hr : (w.cell? ⟨g, offs S x + (L x).length, none⟩).isSome = true := h.room _ (by have := offs_lt S hx; omega)
  refine ⟨fun y hy => ?_, fun y hy i hi => ?_, fun y hy => ?_, fun i hi => ?_, fun i => ?_, fun i => ?_, hne, ?_, ?_⟩
  · unfold upL
    by_cases e : y = x
    · subst e
      rw [if_pos rfl]
      refine ⟨offs S y, ?_, fun _ => rfl⟩
      rw [World.cell?_setCell_same', List.length_append]
      · rfl
      · rw [World.cell?_setCell_other (h := addr_ne' (Ne.symm hne))]
        obtain ⟨o, h1, _⟩ := h.col y hy
        rw [h1]
        rfl
    · rw [if_neg e, World.cell?_setCell_other (h := addr_ne (fun q => e q.symm)), World.cell?_setCell_other (h := addr_ne' (Ne.symm hne))]
      exact h.col y hy
  · rw [World.cell?_setCell_other (h := addr_ne' hne)]
    unfold upL at hi ⊢
    by_cases e : y = x
    · subst e
      rw [if_pos rfl] at hi ⊢
      rw [List.length_append] at hi
      by_cases q : i = (L y).length
      · subst q
        rw [World.cell?_setCell_same' _ _ _ hr]
        simp [List.getD]
      · have hi' : i < (L y).length := by simp at hi; omega
        rw [World.cell?_setCell_other (h := addr_ne (by omega)), h.cel y hy i hi']
        simp [List.getD, List.getElem?_append_left hi']
    · rw [if_neg e] at hi ⊢
      have l1 := h.len y hy
      have l2 := h.len x hx
      rw [World.cell?_setCell_other (h := addr_ne (by
        rcases Nat.lt_or_gt_of_ne e with q | q
        · have := offs_lt S q; omega
        · have := offs_lt S q; omega))]
      exact h.cel y hy i hi
  · unfold upL
    by_cases e : y = x
    · subst e
      rw [if_pos rfl, List.length_append]
      simp
      omega
    · rw [if_neg e]
      exact h.len y hy
  · rw [World.cell?_setCell_other (h := addr_ne' hne)]
    by_cases e : offs S x + (L x).length = i
    · subst e
      rw [World.cell?_setCell_same' _ _ _ hr]
      rfl
    · rw [World.cell?_setCell_other (h := addr_ne e)]
      exact h.room i hi
  · simp [h.fg i]
  · simp [h.fc i]
  · simpa using h.hg
  · simpa using h.hc
theorem offs_row (f : Nat → List Int) (k K : Nat) (hb : ∀ t, t ∈ f k → 0 ≤ t ∧ t < K) : ∀ j, j ≤ (f k).length → offs (fun x => (colP f k j x).length) K = offs (fun x => (colL f k x).length) K + j
  | 0, _ => by simp only [colP_zero, Nat.add_zero]
  | j + 1, hj => by
    have ih := offs_row f k K hb j (by omega)
    have hm : (f k).getD j 0 ∈ f k := by simp [List.getD, show j < (f k).length by omega]
    obtain ⟨h0, h1⟩ := hb _ hm
    obtain ⟨v, hv⟩ : ∃ v : Nat, (f k).getD j 0 = (v : Int) := ⟨((f k).getD j 0).toNat, by omega⟩
    rw [offs_inc (S := fun x => (colP f k j x).length) (v := v) K (by omega) (fun x hx => by
      show (colP f k (j + 1) x).length = _
      by_cases e : x = v
      · subst e
        rw [if_pos rfl, colP_at f k j x (by omega) hv, List.length_append]
        rfl
      · rw [if_neg e, colP_not f k j x (by omega) (by rw [hv]; omega)]), ih]
    omega
theorem offs_rows (f : Nat → List Int) (k K : Nat) (hb : ∀ t, t ∈ f k → 0 ≤ t ∧ t < K) : offs (fun x => (colL f (k + 1) x).length) K = offs (fun x => (colL f k x).length) K + (f k).length := by
  have := offs_row f k K hb (f k).length (Nat.le_refl _)
  simp only [colP_full] at this
  exact this
theorem offs_bnd (f : Nat → List Int) (K b : Nat) : ∀ m, (∀ i, i < m → (f i).length ≤ b) → (∀ i, i < m → ∀ t, t ∈ f i → 0 ≤ t ∧ t < K) → offs (fun x => (colL f m x).length) K ≤ m * b
  | 0, _, _ => by
    have : ∀ q, offs (fun x => (colL f 0 x).length) q = 0 := fun q => by
      induction q with
      | zero => rfl
      | succ q ih => rw [offs, ih]; rfl
    rw [this]
    omega
  | m + 1, h, hb => by
    have ih := offs_bnd f K b m (fun i hi => h i (by omega)) (fun i hi => hb i (by omega))
    have := h m (by omega)
    rw [offs_rows f m K (hb m (by omega)), Nat.succ_mul]
    omega
/-- The slices in the making. -/
structure Tk (w : World) (gc g gs K A k : Nat) (S : Nat → Nat) : Prop where
  col : ∀ x, x < k → ∃ o, w.cell? ⟨gc, x, none⟩ = some (.slice (some ⟨g, o, none⟩) 0 (S x)) ∧ (0 < S x → o = offs S x)
  ex : ∀ x, x < K → (w.cell? ⟨gc, x, none⟩).isSome = true
  og : Own w g A (fun _ => .int .i64 0)
  os : Own w gs K (fun x => .int .i64 ((S x : Nat) : Int))
  fc : ∀ i, w.frozen? ⟨gc, i, none⟩ = false
  ne : gc ≠ g
  ns : gc ≠ gs
  hc : gc < w.heap.size
theorem Tk.step {w : World} {gc g gs K A k o : Nat} {S : Nat → Nat} (h : Tk w gc g gs K A k S) (hk : k < K) (ho : 0 < S k → o = offs S k) : Tk (w.setCell ⟨gc, k, none⟩ (.slice (some ⟨g, o, none⟩) 0 (S k))) gc g gs K A (k + 1) S := by
  have O1 : Only gc w (w.setCell ⟨gc, k, none⟩ (.slice (some ⟨g, o, none⟩) 0 (S k))) := (Only.refl _ _).setCell _ _
  refine ⟨fun x hx => ?_, fun x hx => ?_, h.og.but O1 (Ne.symm h.ne), h.os.but O1 (Ne.symm h.ns), fun i => by simp [h.fc i], h.ne, h.ns, by simpa using h.hc⟩
  · by_cases e : x = k
    · subst e
      exact ⟨o, World.cell?_setCell_same' _ _ _ (h.ex x hk), ho⟩
    · rw [World.cell?_setCell_other (h := addr_ne (fun q => e q.symm))]
      exact h.col x (by omega)
  · by_cases e : x = k
    · subst e
      rw [World.cell?_setCell_same' _ _ _ (h.ex x hk)]
      rfl
    · rw [World.cell?_setCell_other (h := addr_ne (fun q => e q.symm))]
      exact h.ex x hx
theorem Tk.tc {w : World} {gc g gs K A : Nat} {S : Nat → Nat} (h : Tk w gc g gs K A K S) (hA : offs S K = A) : Tc w gc g K S (fun _ => []) :=
  ⟨fun x hx => h.col x hx, fun x hx i hi => absurd hi (by simp), fun x hx => Nat.zero_le _, fun i hi => by rw [h.og.cell i (by omega)]; rfl, h.og.free, h.fc, h.ne, h.og.hi, h.hc⟩
theorem Tc.ext {w : World} {gc g K : Nat} {S : Nat → Nat} {L M : Nat → List Int} (h : Tc w gc g K S L) (e : ∀ x, x < K → L x = M x) : Tc w gc g K S M :=
  ⟨fun x hx => by rw [← e x hx]; exact h.col x hx, fun x hx => by rw [← e x hx]; exact h.cel x hx, fun x hx => by rw [← e x hx]; exact h.len x hx, h.room, h.fg, h.fc, h.ne, h.hg, h.hc⟩
/-- What is answered: rows of their own, cut out of one block. -/
def Cols (B : Nat) (w : World) (u : Value) (K : Nat) (L : Nat → List Int) : Prop := ∃ gc g, u = .slice (some ⟨gc, 0, none⟩) K K ∧ B ≤ gc ∧ B ≤ g ∧ Tc w gc g K (fun x => (L x).length) L
theorem Cols.next {B : Nat} {w w' : World} {u : Value} {K : Nat} {L : Nat → List Int} (h : Cols B w u K L) (b : Below w.heap.size w w') : Cols B w' u K L := by
  obtain ⟨gc, g, h1, h2, h3, h4⟩ := h
  exact ⟨gc, g, h1, h2, h3, h4.next b⟩
theorem Cols.arows {B : Nat} {w : World} {u : Value} {K : Nat} {L : Nat → List Int} (h : Cols B w u K L) : ARows w u K L := by
  obtain ⟨gc, g, h1, h2, h3, h4⟩ := h
  refine ⟨_, _, h1, fun i hi => ?_⟩
  obtain ⟨o, c1, c2⟩ := h4.col i hi
  refine ⟨gc, 0, _, rfl, by rw [Nat.zero_add]; exact c1, _, _, rfl, fun j hj => ⟨g, o, rfl, ?_⟩⟩
  rw [c2 (by show 0 < (L i).length; omega)]
  exact h4.cel i hi j hj
/-- One number behind those of a list for which there is room. -/
theorem wpList_append_one {P : Program} {ops : Array Oper} {rest : List Oper} {o : Oper} {a : Act} {w : World} {Q : Exit → Act → World → Prop} (hgd : o.guard = none) (s x : Operand) (t : TypeId) (ho : o.op = .call { callee := .builtin .append, args := #[s, x], argTypes := #[t, t] }) (i : TypeInfo) (ht : P.underlying t = some (.slice 3)) (hi : P.info? 3 = some i) (hsize : i.size = 1) (g off n cap b c : Nat) (v : Int) (hs : a.eval s = .slice (some ⟨g, off, none⟩) n cap) (hx : a.eval x = .slice (some ⟨b, 0, none⟩) 1 c) (hv : w.cell? ⟨b, 0, none⟩ = some (.int .i64 v)) (hr : n < cap) (hc : (w.cell? ⟨g, off + n, none⟩).isSome = true) (hf : w.frozen? ⟨g, off + n, none⟩ = false)
    (hK : wpList P ops Q rest (a.put o.dst (.slice (some ⟨g, off, none⟩) (n + 1) cap)) (w.setCell ⟨g, off + n, none⟩ (.int .i64 v))) : wpList P ops Q (o :: rest) a w := by
  refine wpList_plain hgd fun K hK' => ?_
  have hrun := run_append_room_cells (P := P) w t o.type 3 i ht hi g off n cap ⟨b, 0, none⟩ 1 c [.int .i64 v] (by rw [hsize]; rfl) (fun j u hj => by
      obtain rfl : j = 0 := by
        have := (List.getElem?_eq_some_iff.1 hj).1
        simp at this
        exact this
      simp at hj
      rw [show (⟨b, 0, none⟩ : Addr).add 0 = ⟨b, 0, none⟩ by unfold Addr.add; split <;> simp_all, ← hj]
      exact hv) (by simp [Value.oneCell']) (by omega)
    (fun j hj => by
      obtain rfl : j = 0 := by simp at hj; omega
      rw [hsize, Nat.mul_one, Nat.add_zero]; exact hc)
    (fun j hj => by
      obtain rfl : j = 0 := by simp at hj; omega
      rw [hsize, Nat.mul_one, Nat.add_zero]; exact hf)
  rw [hsize, Nat.mul_one] at hrun
  unfold Oper.wp
  simp [execOp, ho, resolve, invoke, builtin, hs, hx, hrun, Result.andThen]
  exact hK' _ _ hK
end Go.Proofs.YtmeokhppaekhpaaGreatDoor
namespace Go.Proofs.YtmeokhppaekhpaaGreatDoor
open Go.ChangeShapes Go.WideShapes Go.ChangeAt Go.RowKit
set_option linter.unusedVariables false
set_option maxRecDepth 100000 in
set_option maxHeartbeats 16000000 in
theorem turned42 (m K : Nat) (f : Nat → List Int) (v : Value) (w : World) (H : ARows w v m f) (hm : m ≤ 600) (hK : K ≤ 600) (hb : ∀ i, i < m → ∀ t, t ∈ f i → 0 ≤ t ∧ t < K) (hl : ∀ i, i < m → (f i).length ≤ 600) : Calls Tryz.prog 86 #[v, .int .i64 (K : Int)] w fun e w' => ∃ u, e = .returned u ∧ Cols w.heap.size w' u K (fun x => colL f m x) ∧ Below w.heap.size w w' := by
  obtain ⟨i3, hi3, hz30, hz31, hz32⟩ := info_parts info3
  obtain ⟨i40, hi40, hz400, hz401, hz402⟩ := info_parts info34
  have HOB : Hid (∀ k, k ≤ m → offs (fun x => (colL f k x).length) K ≤ 360000) := fun k hk => by
    have := offs_bnd f K 600 k (fun i hi => hl i (by omega)) (fun i hi => hb i (by omega))
    have := Nat.mul_le_mul_right 600 (show k ≤ 600 by omega)
    omega
  have HBd : Hid (∀ i, i < m → ∀ t, t ∈ f i → 0 ≤ t ∧ t < K) := hb
  have HLe : Hid (∀ i, i < m → (f i).length ≤ 600) := hl
  obtain ⟨ad, cv, rfl, HR0⟩ := H
  have HR : Hid (∀ i, i < m → ∃ q o u, ad = some ⟨q, o, none⟩ ∧ w.cell? ⟨q, o + i, none⟩ = some u ∧ ARow w u (f i)) := HR0
  have HPost : Hid (∀ u w', Cols w.heap.size w' u K (fun x => colL f m x) → Below w.heap.size w w' → ∃ x, Ending.returned u = .returned x ∧ Cols w.heap.size w' x K (fun x => colL f m x) ∧ Below w.heap.size w w') := fun u w' a b => ⟨u, rfl, a, b⟩
  clear hb hl HR0
  go_enter Tryz.func86, Tryz.ntmps86
  go_wp2_with (at_make; refine wpList_make_full _ rfl _ _ 24 rfl w.heap.size 3 i3 (.int .i64 0) 1 Tryz.underlying24 hi3 hz30 hz31 .i64 .i64 _ _ K rfl rfl rfl rfl ?b2 ?b3 (Nat.le_refl _) ?_)
  case b2 => (try rw [hz32]); omega
  case b3 => (try unfold maxLen); omega
  intro w1 hown hgrow
  have A1 : Own w1 w.heap.size K (fun _ => .int .i64 0) := own_made (by rw [Nat.mul_one]; exact hown)
  have B1 : Hid (Below w.heap.size w w1) := ⟨hgrow.os, hgrow.tape, hgrow.output, hgrow.size, fun k hk => hgrow.block k hk (by simp)⟩
  have O1 : Hid (Own w1 w.heap.size K (fun x => .int .i64 (((colL f 0 x).length : Nat) : Int))) := A1
  have Z0 : offs (fun x => (colL f 0 x).length) K = 0 := by have := offs_bnd f K 0 0 (fun i hi => by omega) (fun i hi => by omega); omega
  obtain ⟨gs, hgs⟩ : ∃ gs, w.heap.size = gs := ⟨_, rfl⟩
  rw [hgs] at O1 B1 HPost ⊢
  have HG : Hid (w.heap.size = gs) := hgs
  clear hown hgrow A1 hgs
  go_wp2
  go_loopw [6, 23] (fun al i wx => ∃ k : Nat, k ≤ m ∧ i = .int .i64 k ∧ al = .int .i64 ((offs (fun x => (colL f k x).length) K : Nat) : Int) ∧ Hid (Own wx gs K (fun x => .int .i64 (((colL f k x).length : Nat) : Int))) ∧ Hid (Below gs w wx)) (fun _ i _ => m - (intOf i).toNat)
  case atStart => exact ⟨0, Nat.zero_le _, rfl, by rw [Z0]; rfl, O1, B1⟩
  case round =>
    obtain ⟨k, hk, rfl, rfl, OJ, BJ⟩ := hrel
    clear O1 B1 Z0
    by_cases hkm : k < m
    · have i1 : (k : Int) < (m : Int) := by omega
      have i0 : (0 : Int) ≤ (k : Int) := by omega
      obtain ⟨q, o, u, rfl, cu, ad2, c2, rfl, HC⟩ := HR.out k hkm
      have BJ' : Below w.heap.size w wr := by rw [HG.out]; exact BJ.out
      have ck := cell_nx cu BJ'
      have HC2 : Hid (∀ i, i < (f k).length → ∃ g o, ad2 = some ⟨g, o, none⟩ ∧ w.cell? ⟨g, o + i, none⟩ = some (.int .i64 ((f k).getD i 0))) := HC
      have hlk := HLe.out k hkm
      have hok := HOB.out k (by omega)
      have HOR : Hid (offs (fun x => (colL f (k + 1) x).length) K = offs (fun x => (colL f k x).length) K + (f k).length) := offs_rows f k K (HBd.out k hkm)
      generalize offs (fun x => (colL f k x).length) K = al at hok HOR
      obtain ⟨ml, hml⟩ : ∃ ml, (f k).length = ml := ⟨_, rfl⟩
      have HML : Hid ((f k).length = ml) := hml
      rw [hml] at ck hlk
      have OS : Hid (Own wr gs K (fun x => .int .i64 (((colP f k 0 x).length : Nat) : Int))) := OJ.out.mono (Nat.le_refl _) (fun x hx => by rw [colP_zero])
      clear cu HC OJ BJ' hml
      go_wp2
      go_loopw [33] (fun i wx => ∃ j : Nat, j ≤ ml ∧ i = .int .i64 j ∧ Hid (Own wx gs K (fun x => .int .i64 (((colP f k j x).length : Nat) : Int))) ∧ Hid (Below gs w wx)) (fun i _ => ml - (intOf i).toNat)
      case atStart => exact ⟨0, Nat.zero_le _, rfl, OS, BJ⟩
      case round =>
        obtain ⟨j, hj, rfl, OJ, BJ⟩ := hrel
        clear OS ck
        by_cases hjm : j < ml
        · have j1 : (j : Int) < (ml : Int) := by omega
          have j0 : (0 : Int) ≤ (j : Int) := by omega
          have hjl : j < (f k).length := by rw [HML.out]; exact hjm
          obtain ⟨g, o2, rfl, ct⟩ := HC2.out j hjl
          have ct := cell_nx ct (show Below w.heap.size w wr by rw [HG.out]; exact BJ.out)
          obtain ⟨t0, t1⟩ := HBd.out k hkm ((f k).getD j 0) (by simp [List.getD, hjl])
          obtain ⟨x, hx⟩ : ∃ x : Nat, (f k).getD j 0 = (x : Int) := ⟨((f k).getD j 0).toNat, by omega⟩
          rw [hx] at ct
          have x0 : (0 : Int) ≤ (x : Int) := by omega
          have x1 : (x : Int) < (K : Int) := by omega
          have xK : x < K := by omega
          have cx := OJ.out.cell x xK
          have fx := OJ.out.free x
          have hle : (colP f k j x).length ≤ 360000 := by
            have := colP_le f k j x m hkm
            have := offs_lt (fun x => (colL f m x).length) xK
            have := HOB.out m (Nat.le_refl _)
            omega
          have ON : Hid (Own (wr.setCell ⟨gs, x, none⟩ (.int .i64 (((colP f k j x).length : Int) + 1))) gs K (fun x => .int .i64 (((colP f k (j + 1) x).length : Nat) : Int))) := OJ.out.set x _ xK (fun y hy => by
            by_cases e : y = x
            · subst e
              rw [if_pos rfl, colP_at f k j y hjl hx, List.length_append]
              rfl
            · rw [if_neg e, colP_not f k j y hjl (by rw [hx]; omega)])
          have BN : Hid (Below gs w (wr.setCell ⟨gs, x, none⟩ (.int .i64 (((colP f k j x).length : Int) + 1)))) := BJ.out.setCell (p := ⟨gs, x, none⟩) (Nat.le_refl _) _
          generalize (colP f k j x).length = z at cx hle ON BN
          clear OJ BJ t0 t1 hx
          go_wp2
          go_roundw
          case rel => exact ⟨j + 1, by omega, by go_num, ON, BN⟩
          case measure => simp [intOf]; omega
        · obtain rfl : ml = j := by omega
          have j1 : ¬ (ml : Int) < (ml : Int) := by omega
          have ON : Hid (Own wr gs K (fun x => .int .i64 (((colL f (k + 1) x).length : Nat) : Int))) := OJ.out.mono (Nat.le_refl _) (fun x hx => by rw [← colP_full, HML.out])
          clear OJ
          go_wp2
          go_roundw
          case rel => exact ⟨k + 1, by omega, by go_num, by rw [HOR.out, HML.out]; rfl, ON, BJ⟩
          case measure => simp [intOf]; omega
    · obtain rfl : m = k := by omega
      have i1 : ¬ (m : Int) < (m : Int) := by omega
      have hA := HOB.out m (Nat.le_refl _)
      obtain ⟨A, hA1⟩ : ∃ A, offs (fun x => (colL f m x).length) K = A := ⟨_, rfl⟩
      have HA : Hid (offs (fun x => (colL f m x).length) K = A) := hA1
      rw [hA1] at hA ⊢
      clear hA1
      have gW : gs ≤ wr.heap.size := by have := BJ.out.size; have := HG.out; omega
      go_wp2_with (at_make; refine wpList_make_full _ rfl _ _ 24 rfl wr.heap.size 3 i3 (.int .i64 0) 1 Tryz.underlying24 hi3 hz30 hz31 .i64 .i64 _ _ A rfl rfl rfl rfl ?b2 ?b3 (Nat.le_refl _) ?_)
      case b2 => (try rw [hz32]); omega
      case b3 => (try unfold maxLen); omega
      intro w2 hown hgrow
      have A2 : Own w2 wr.heap.size A (fun _ => .int .i64 0) := own_made (by rw [Nat.mul_one]; exact hown)
      have B2 : Below wr.heap.size wr w2 := ⟨hgrow.os, hgrow.tape, hgrow.output, hgrow.size, fun k hk => hgrow.block k hk (by simp)⟩
      clear hown hgrow
      have O2 := OJ.out.next B2
      have BW2 : Hid (Below gs w w2) := BJ.out.trans (B2.mono gW)
      have HgsLt : gs < wr.heap.size := OJ.out.hi
      obtain ⟨g, hg⟩ : ∃ g, wr.heap.size = g := ⟨_, rfl⟩
      rw [hg] at A2 gW HgsLt ⊢
      clear OJ BJ B2 hg
      go_wp2_with (at_make; refine wpList_make_full _ rfl _ _ 78 rfl w2.heap.size 24 i40 (.slice none 0 0) 1 Tryz.underlying78 hi40 hz400 hz401 .i64 .i64 _ _ K rfl rfl rfl rfl ?b2 ?b3 (Nat.le_refl _) ?_)
      case b2 => (try rw [hz402]); omega
      case b3 => (try unfold maxLen); omega
      intro w3 hown hgrow
      have A3 : Own w3 w2.heap.size K (fun _ => .slice none 0 0) := own_made (by rw [Nat.mul_one]; exact hown)
      have B3 : Below w2.heap.size w2 w3 := ⟨hgrow.os, hgrow.tape, hgrow.output, hgrow.size, fun k hk => hgrow.block k hk (by simp)⟩
      clear hown hgrow
      have z2 := A2.hi
      have HT0 : Hid (Tk w3 w2.heap.size g gs K A 0 (fun x => (colL f m x).length)) := ⟨fun x hx => by omega, fun x hx => by rw [A3.cell x hx]; rfl, A2.next B3, O2.next B3, A3.free, by omega, by omega, A3.hi⟩
      have BW3 : Hid (Below gs w w3) := BW2.out.trans (B3.mono (by omega))
      have HGc : Hid (gs ≤ w2.heap.size) := by show _ ≤ _; omega
      have HGg : Hid (gs ≤ g) := by show _ ≤ _; omega
      obtain ⟨gc, hgc⟩ : ∃ gc, w2.heap.size = gc := ⟨_, rfl⟩
      rw [hgc] at HT0 HGc ⊢
      clear A2 A3 O2 B3 BW2 z2 gW HgsLt hgc
      have HA2 := HA
      have HOB2 := HOB
      have HSx : Hid (∀ x, (fun x => (colL f m x).length) x = (colL f m x).length) := fun x => rfl
      generalize (fun x => (colL f m x).length) = S at HT0 HA2 HSx
      clear HOB2
      go_wp2
      go_loopw [11, 51] (fun rv i wx => ∃ k r o : Nat, k ≤ K ∧ i = .int .i64 k ∧ rv = .slice (some ⟨g, o, none⟩) r r ∧ Hid (offs S k + r = A) ∧ Hid (0 < r → o = offs S k) ∧ Hid (Tk wx gc g gs K A k S) ∧ Hid (Below gs w wx)) (fun _ i _ => K - (intOf i).toNat)
      case atStart => exact ⟨0, A, 0, Nat.zero_le _, rfl, rfl, by show offs S 0 + A = A; rw [offs]; omega, fun _ => rfl, HT0, BW3⟩
      case round =>
        obtain ⟨k, r, o, hk, rfl, rfl, HRA, HRO, TJ, BJ⟩ := hrel
        clear HT0 BW3
        by_cases hkK : k < K
        · have k1 : (k : Int) < (K : Int) := by omega
          have k0 : (0 : Int) ≤ (k : Int) := by omega
          have cs := TJ.out.os.cell k hkK
          have hex := TJ.out.ex k hkK
          have hfr := TJ.out.fc k
          obtain ⟨cv0, cg⟩ := Option.isSome_iff_exists.1 hex
          have hsr : S k ≤ r := by
            have := offs_lt S hkK
            have := HA2.out
            have := HRA.out
            omega
          have hrA : r ≤ A := by have := HRA.out; omega
          have TN : Hid (Tk (wr.setCell ⟨gc, k, none⟩ (.slice (some ⟨g, o, none⟩) 0 (S k))) gc g gs K A (k + 1) S) := TJ.out.step hkK (fun h => HRO.out (by omega))
          have BN : Hid (Below gs w (wr.setCell ⟨gc, k, none⟩ (.slice (some ⟨g, o, none⟩) 0 (S k)))) := BJ.out.setCell (p := ⟨gc, k, none⟩) HGc.out _
          have HOf : Hid (offs S (k + 1) = offs S k + S k) := rfl
          generalize S k = s at cs hsr TN BN HOf
          have s0 : (0 : Int) ≤ (s : Int) := by omega
          have s1 : (s : Int) ≤ (r : Int) := by omega
          clear TJ BJ hex
          by_cases hsr2 : s = r
          · subst hsr2
            have HRA2 : Hid (offs S (k + 1) + 0 = A) := by show _ = _; have := HRA.out; have := HOf.out; omega
            have q1 : s - s = 0 := by omega
            go_wp2
            go_roundw
            case rel => exact ⟨k + 1, 0, o, by omega, by go_num, by simp, HRA2, fun h => absurd h (by omega), TN, BN⟩
            case measure => simp [intOf]; omega
          · have s2 : (s : Int) < (r : Int) := by omega
            have HRA2 : Hid (offs S (k + 1) + (r - s) = A) := by show _ = _; have := HRA.out; have := HOf.out; omega
            have HRO2 : Hid (0 < r - s → o + s = offs S (k + 1)) := fun h => by have := HRO.out (by omega); have := HOf.out; omega
            go_wp2
            go_roundw
            case rel => exact ⟨k + 1, r - s, o + s, by omega, by go_num, by simp, HRA2, HRO2, TN, BN⟩
            case measure => simp [intOf]; omega
        · obtain rfl : K = k := by omega
          have k1 : ¬ (K : Int) < (K : Int) := by omega
          have C0 : Hid (Tc wr gc g K S (fun x => colL f 0 x)) := TJ.out.tc HA2.out
          clear TJ HRA HRO
          go_wp2
          go_loopw [68] (fun i wx => ∃ k : Nat, k ≤ m ∧ i = .int .i64 k ∧ Hid (Tc wx gc g K S (fun x => colL f k x)) ∧ Hid (Below gs w wx)) (fun i _ => m - (intOf i).toNat)
          case atStart => exact ⟨0, Nat.zero_le _, rfl, C0, BJ⟩
          case round =>
            obtain ⟨k, hk, rfl, CJ, BJ⟩ := hrel
            clear C0
            by_cases hkm : k < m
            · have i1 : (k : Int) < (m : Int) := by omega
              have i0 : (0 : Int) ≤ (k : Int) := by omega
              obtain ⟨q, o, u, rfl, cu, ad2, c2, rfl, HC⟩ := HR.out k hkm
              have BJ' : Below w.heap.size w wr := by rw [HG.out]; exact BJ.out
              have ck := cell_nx cu BJ'
              have HC2 : Hid (∀ i, i < (f k).length → ∃ g o, ad2 = some ⟨g, o, none⟩ ∧ w.cell? ⟨g, o + i, none⟩ = some (.int .i64 ((f k).getD i 0))) := HC
              have hlk := HLe.out k hkm
              obtain ⟨ml, hml⟩ : ∃ ml, (f k).length = ml := ⟨_, rfl⟩
              have HML : Hid ((f k).length = ml) := hml
              rw [hml] at ck hlk
              have CS : Hid (Tc wr gc g K S (fun x => colP f k 0 x)) := CJ.out.ext (fun x hx => (colP_zero f k x).symm)
              clear cu HC CJ BJ' hml
              go_wp2
              go_loopw [75] (fun i wx => ∃ j : Nat, j ≤ ml ∧ i = .int .i64 j ∧ Hid (Tc wx gc g K S (fun x => colP f k j x)) ∧ Hid (Below gs w wx)) (fun i _ => ml - (intOf i).toNat)
              case atStart => exact ⟨0, Nat.zero_le _, rfl, CS, BJ⟩
              case round =>
                obtain ⟨j, hj, rfl, CJ, BJ⟩ := hrel
                clear CS ck
                by_cases hjm : j < ml
                · have j1 : (j : Int) < (ml : Int) := by omega
                  have j0 : (0 : Int) ≤ (j : Int) := by omega
                  have hjl : j < (f k).length := by rw [HML.out]; exact hjm
                  obtain ⟨g2, o2, rfl, ct⟩ := HC2.out j hjl
                  have ct := cell_nx ct (show Below w.heap.size w wr by rw [HG.out]; exact BJ.out)
                  obtain ⟨t0, t1⟩ := HBd.out k hkm ((f k).getD j 0) (by simp [List.getD, hjl])
                  obtain ⟨x, hx⟩ : ∃ x : Nat, (f k).getD j 0 = (x : Int) := ⟨((f k).getD j 0).toNat, by omega⟩
                  rw [hx] at ct
                  have x0 : (0 : Int) ≤ (x : Int) := by omega
                  have x1 : (x : Int) < (K : Int) := by omega
                  have xK : x < K := by omega
                  have hlt : (colP f k j x).length < S x := by have := colP_lt f k j x m hkm hjl hx; have := HSx.out x; omega
                  obtain ⟨o3, cx, ho3⟩ := CJ.out.col x xK
                  obtain rfl := ho3 (by omega)
                  clear ho3
                  obtain ⟨w4, hw4⟩ : ∃ w4, wr.alloc (.cells #[.int .i64 (k : Int)] 3) = w4 := ⟨_, rfl⟩
                  have B4 : Below wr.heap.size wr w4 := by rw [← hw4]; exact (Below.refl _ _).alloc (Nat.le_refl _) _
                  have C4 := CJ.out.next B4
                  have c4 : w4.cell? ⟨wr.heap.size, 0, none⟩ = some (.int .i64 (k : Int)) := by rw [← hw4]; simp
                  have cx4 := cell_nx cx B4
                  have hr4 := C4.room (offs S x + (colP f k j x).length) (by have := offs_lt S xK; omega)
                  have hf4 := C4.fg (offs S x + (colP f k j x).length)
                  have hf5 := C4.fc x
                  have CN : Hid (Tc ((w4.setCell ⟨g, offs S x + (colP f k j x).length, none⟩ (.int .i64 (k : Int))).setCell ⟨gc, x, none⟩ (.slice (some ⟨g, offs S x, none⟩) ((colP f k j x).length + 1) (S x))) gc g K S (fun y => colP f k (j + 1) y)) := (C4.push xK hlt (k : Int)).ext (fun y hy => by
                    unfold upL
                    by_cases e : y = x
                    · subst e
                      rw [if_pos rfl, colP_at f k j y hjl hx]
                    · rw [if_neg e, colP_not f k j y hjl (by rw [hx]; omega)])
                  have BN : Hid (Below gs w ((w4.setCell ⟨g, offs S x + (colP f k j x).length, none⟩ (.int .i64 (k : Int))).setCell ⟨gc, x, none⟩ (.slice (some ⟨g, offs S x, none⟩) ((colP f k j x).length + 1) (S x)))) := ((BJ.out.trans (B4.mono (by have := BJ.out.size; have := HG.out; omega))).setCell (p := ⟨g, _, none⟩) HGg.out _).setCell (p := ⟨gc, x, none⟩) HGc.out _
                  have cx5 : (w4.setCell ⟨g, offs S x + (colP f k j x).length, none⟩ (.int .i64 (k : Int))).cell? ⟨gc, x, none⟩ = some (.slice (some ⟨g, offs S x, none⟩) (colP f k j x).length (S x)) := by rw [World.cell?_setCell_other (h := addr_ne' (Ne.symm C4.ne))]; exact cx4
                  generalize (colP f k j x).length = z at cx cx4 cx5 hlt hr4 hf4 CN BN
                  generalize offs S x = ofx at cx cx4 cx5 hr4 hf4 CN BN
                  generalize S x = sx at cx cx4 cx5 hlt CN BN
                  clear CJ BJ C4 B4 t0 t1 hx
                  go_wp2_with (at_builtin; refine wpList_append_one rfl _ _ 24 rfl i3 Tryz.underlying24 hi3 hz31 g ofx z sx wr.heap.size 1 (k : Int) rfl rfl c4 hlt hr4 hf4 ?_)
                  go_roundw
                  case rel => exact ⟨j + 1, by omega, by go_num, CN, BN⟩
                  case measure => simp [intOf]; omega
                · obtain rfl : ml = j := by omega
                  have j1 : ¬ (ml : Int) < (ml : Int) := by omega
                  have CN : Hid (Tc wr gc g K S (fun x => colL f (k + 1) x)) := CJ.out.ext (fun x hx => by rw [← colP_full, HML.out])
                  clear CJ
                  go_wp2
                  go_roundw
                  case rel => exact ⟨k + 1, by omega, by go_num, CN, BJ⟩
                  case measure => simp [intOf]; omega
            · obtain rfl : m = k := by omega
              have i1 : ¬ (m : Int) < (m : Int) := by omega
              have CE : Hid (Cols gs wr (.slice (some ⟨gc, 0, none⟩) K K) K (fun x => colL f m x)) := by
                refine ⟨gc, g, rfl, HGc.out, HGg.out, ?_⟩
                have : S = fun x => (colL f m x).length := funext HSx.out
                rw [← this]
                exact CJ.out
              clear CJ
              go_wp2
              go_ret
              rw [HG.out]
              exact HPost.out _ _ CE.out BJ.out
end Go.Proofs.YtmeokhppaekhpaaGreatDoor
