/- Rows of values that a call itself made, and what stays of them; rows of whole numbers and rows of such rows: read, made, compared, marked, held against their marks. -/
import Derived.Test.YtfhpjcojccfcoaaRows
import Derived.WalkKit
import Derived.ProofKit
import Derived.OpenShut
import Derived.WalkLawsBesides
import Derived.Laws.BitsAll
import Derived.Deep.QuietTactic
import Derived.Deep.RegionWith
import Derived.Deep.RegionHeld3
import Derived.Deep.Grids
import Derived.Carry
namespace Go.Proofs.Ytfhpjcojccfcoaa
open Go.ChangeShapes Go.WideShapes Go.ChangeAt Go.RowKit
set_option linter.unusedVariables false

/-- n cells of block o, from its head on: one value each; each may be written. -/
structure Own (w : World) (o n : Nat) (f : Nat → Value) : Prop where
  cell : ∀ i, i < n → w.cell? ⟨o, i, none⟩ = some (f i)
  free : ∀ i, w.frozen? ⟨o, i, none⟩ = false
  hi : o < w.heap.size
theorem Own.set {w : World} {o n : Nat} {f g : Nat → Value} (h : Own w o n f) (j : Nat) (v : Value) (hj : j < n) (hg : ∀ i, i < n → g i = if i = j then v else f i) : Own (w.setCell ⟨o, j, none⟩ v) o n g := by
  refine ⟨fun i hi => ?_, fun i => ?_, by simpa using h.hi⟩
  · rw [hg i hi]
    by_cases e : i = j
    · subst e
      rw [if_pos rfl]
      exact World.cell?_setCell_same' w _ _ (by rw [h.cell i hj]; rfl)
    · rw [if_neg e]
      have hne : (⟨o, j, none⟩ : Addr) ≠ ⟨o, i, none⟩ := by
        intro k; injection k with _ k2; exact e k2.symm
      rw [World.cell?_setCell_other (h := hne)]
      exact h.cell i hi
  · simp [h.free i]
theorem Own.mono {w : World} {o n m : Nat} {f g : Nat → Value} (h : Own w o n f) (hm : m ≤ n) (hg : ∀ i, i < m → g i = f i) : Own w o m g :=
  ⟨fun i hi => by rw [hg i hi]; exact h.cell i (by omega), h.free, h.hi⟩
/-- All blocks but one are as they were. -/
structure Only (o : Nat) (w w' : World) : Prop where
  os : w'.os = w.os
  tape : w'.tape = w.tape
  output : w'.output = w.output
  size : w.heap.size ≤ w'.heap.size
  block : ∀ k, k < w.heap.size → k ≠ o → w'.heap[k]? = w.heap[k]?
theorem Only.refl (o : Nat) (w : World) : Only o w w := ⟨rfl, rfl, rfl, Nat.le_refl _, fun _ _ _ => rfl⟩
theorem Only.trans {o : Nat} {a b c : World} (h : Only o a b) (k : Only o b c) : Only o a c :=
  ⟨k.os.trans h.os, k.tape.trans h.tape, k.output.trans h.output, Nat.le_trans h.size k.size, fun i hi ho => (k.block i (by have := h.size; omega) ho).trans (h.block i hi ho)⟩
theorem Only.setCell {o : Nat} {a w : World} (h : Only o a w) (j : Nat) (v : Value) : Only o a (w.setCell ⟨o, j, none⟩ v) :=
  h.trans ⟨rfl, rfl, rfl, by simp [World.setCell], fun k _ hk => Below.heap_setCell _ _ _ _ hk⟩
theorem Only.drewN {o : Nat} {a w : World} (h : Only o a w) (q : Nat) : Only o a (w.drewN q) := ⟨h.os, h.tape, h.output, h.size, h.block⟩
theorem Only.below {o B : Nat} {a w : World} (h : Only o a w) (hB : B ≤ o) (hs : B ≤ a.heap.size) : Below B a w := ⟨h.os, h.tape, h.output, h.size, fun k hk => h.block k (by omega) (by omega)⟩
theorem Only.ofBelow {o : Nat} {a w : World} (h : Below a.heap.size a w) : Only o a w := ⟨h.os, h.tape, h.output, h.size, fun k hk _ => h.block k hk⟩
theorem below_drewN {B : Nat} {a w : World} (h : Below B a w) (q : Nat) : Below B a (w.drewN q) := ⟨h.os, h.tape, h.output, h.size, h.block⟩
theorem drew2 (w : World) (a b : Nat) : (w.drewN a).drewN b = w.drewN (a + b) := by simp [World.drewN, Nat.add_assoc]
theorem Own.drewN {w : World} {o n : Nat} {f : Nat → Value} (h : Own w o n f) (q : Nat) : Own (w.drewN q) o n f := ⟨fun i hi => (h.cell i hi : w.cell? _ = _), fun i => h.free i, h.hi⟩
theorem Own.next {w w' : World} {o n : Nat} {f : Nat → Value} (h : Own w o n f) (hb : Below w.heap.size w w') : Own w' o n f := by
  have z := hb.size
  have zh := h.hi
  exact ⟨fun i hi => (hb.cell (p := ⟨o, i, none⟩) h.hi).trans (h.cell i hi), fun i => (hb.frozen (p := ⟨o, i, none⟩) h.hi).trans (h.free i), by omega⟩
theorem Own.but {w w' : World} {o p n : Nat} {f : Nat → Value} (h : Own w o n f) (hb : Only p w w') (hne : o ≠ p) : Own w' o n f := by
  have z := hb.size
  have zh := h.hi
  exact ⟨fun i hi => (World.cell?_of_block (w := w) (a := ⟨o, i, none⟩) (hb.block o zh hne)).trans (h.cell i hi), fun i => (World.frozen?_of_block (w := w) (a := ⟨o, i, none⟩) (hb.block o zh hne)).trans (h.free i), by omega⟩
theorem own_made {w : World} {B n t : Nat} {z : Value} {w' : World} (h : w'.ownsRow B t 1 (.slice (some ⟨w.heap.size, 0, none⟩) n n) n (madeCells #[z] (n * 1)).toList) : Own w' w.heap.size n (fun _ => z) := by
  refine ⟨fun i hi => ?_, fun i => h.frozenAt i, (h.lt _ rfl).2⟩
  rw [h.cellAt i (by omega)]
  simp [madeCells, hi, Nat.mod_one]
/-- A row behind appends: at most what is owned. -/
theorem own_owned {w : World} {B t g n cap : Nat} {xs : List Value} (h : w.ownsRow B t 1 (.slice (some ⟨g, 0, none⟩) n cap) n xs) (f : Nat → Value) (hf : ∀ i, i < n → xs[i]? = some (f i)) : Own w g n f :=
  ⟨fun i hi => by rw [h.cellAt i (by omega)]; exact hf i hi, fun i => h.frozenAt i, (h.lt _ rfl).2⟩
theorem Hid.mk {p : Prop} (h : p) : Hid p := h
theorem cell_nx {v v' : World} {p : Addr} {u : Value} (h : v.cell? p = some u) (k : Below v.heap.size v v') : v'.cell? p = some u := (k.cell (World.block_lt_of_cell? _ p h)).trans h
/-- A number put into a rising list. -/
def insU (x : Int) : List Int → List Int
  | [] => [x]
  | y :: r => if y < x then y :: insU x r else if y = x then y :: r else x :: y :: r
def srt : List Int → List Int := List.foldl (fun l x => insU x l) []
theorem srt_snoc (l : List Int) (x : Int) : srt (l ++ [x]) = insU x (srt l) := by simp [srt, List.foldl_append]
theorem insU_len (x : Int) : ∀ l, (insU x l).length ≤ l.length + 1
  | [] => by simp [insU]
  | y :: r => by
    have := insU_len x r
    unfold insU
    repeat' split
    all_goals simp
    all_goals omega
theorem srt_lenA : ∀ (l acc : List Int), (l.foldl (fun l x => insU x l) acc).length ≤ acc.length + l.length
  | [], acc => by simp
  | x :: l, acc => by
    have h1 := srt_lenA l (insU x acc)
    have h2 := insU_len x acc
    simp only [List.foldl_cons, List.length_cons]
    omega
theorem srt_len (l : List Int) : (srt l).length ≤ l.length := by
  have := srt_lenA l []
  simpa [srt] using this
theorem insU_mem (x y : Int) : ∀ l, y ∈ insU x l ↔ y = x ∨ y ∈ l
  | [] => by simp [insU]
  | z :: r => by
    have := insU_mem x y r
    unfold insU
    repeat' split
    · simp [this]
      constructor
      · rintro (h | h | h) <;> simp [h]
      · rintro (h | h | h) <;> simp [h]
    · simp; rename_i h; subst h; intro h; simp [h]
    · simp
theorem srt_memA (y : Int) : ∀ (l acc : List Int), y ∈ l.foldl (fun l x => insU x l) acc ↔ y ∈ acc ∨ y ∈ l
  | [], acc => by simp
  | x :: l, acc => by
    rw [List.foldl_cons, srt_memA y l, insU_mem, List.mem_cons]
    constructor
    · rintro ((h | h) | h) <;> simp [h]
    · rintro (h | h | h) <;> simp [h]
theorem srt_mem (y : Int) (l : List Int) : y ∈ srt l ↔ y ∈ l := by
  have := srt_memA y l []
  simpa [srt] using this
/-- Where the number goes: ahead of p all are less, from p on none is. -/
theorem insU_at (x : Int) : ∀ (l : List Int) (p : Nat), p ≤ l.length → (∀ i, i < p → l.getD i 0 < x) → (p < l.length → x < l.getD p 0) → insU x l = l.take p ++ (x :: l.drop p)
  | [], p, hp, _, _ => by simp at hp; subst hp; rfl
  | y :: r, 0, _, _, h2 => by
    have := h2 (by simp)
    simp at this
    unfold insU
    rw [if_neg (by omega), if_neg (by omega)]
    rfl
  | y :: r, p + 1, hp, h1, h2 => by
    have h0 := h1 0 (by omega)
    simp at h0
    unfold insU
    rw [if_pos h0, insU_at x r p (by simpa using hp) (fun i hi => by simpa using h1 (i + 1) (by omega)) (fun h => by simpa using h2 (by simpa using h))]
    rfl
theorem insU_same (x : Int) : ∀ (l : List Int) (p : Nat), p < l.length → (∀ i, i < p → l.getD i 0 < x) → l.getD p 0 = x → insU x l = l
  | [], p, hp, _, _ => by simp at hp
  | y :: r, 0, _, _, h2 => by
    simp at h2
    unfold insU
    rw [if_neg (by omega), if_pos h2]
  | y :: r, p + 1, hp, h1, h2 => by
    have h0 := h1 0 (by omega)
    simp at h0
    unfold insU
    rw [if_pos h0, insU_same x r p (by simpa using hp) (fun i hi => by simpa using h1 (i + 1) (by omega)) (by simpa using h2)]
def il (L : List Int) : List Value := L.map (Value.int .i64)
theorem il_app (a b : List Int) : il (a ++ b) = il a ++ il b := List.map_append
theorem info3 : (Try.prog.info? 3).map (fun i => (i.zero, i.size, i.bytes)) = some (some (.int .i64 0), 1, 8) := by kernel_rfl
/-- A row of whole numbers that a call is making. -/
def Ri (B : Nat) (w : World) (v : Value) (L : List Int) : Prop := w.ownsRow B 3 1 v L.length (il L) ∧ B ≤ w.heap.size
theorem Ri.next {B : Nat} {w w' : World} {v : Value} {L : List Int} (h : Ri B w v L) (b : Below w.heap.size w w') : Ri B w' v L :=
  ⟨h.1.kept (row := none) ⟨b.os, b.tape, b.output, b.size, fun i hi _ => b.block i hi⟩ (by cases e : v.ownBlock <;> simp), Nat.le_trans h.2 b.size⟩
theorem Ri.alloc {B : Nat} {w : World} {v : Value} {L : List Int} (h : Ri B w v L) (o : Obj) : Ri B (w.alloc o) v L := h.next ((Below.refl _ _).alloc (Nat.le_refl _) _)
theorem Ri.lt {B : Nat} {w : World} {v : Value} {L : List Int} (h : Ri B w v L) : ∀ g, v.ownBlock = some g → B ≤ g ∧ g < w.heap.size := fun g hg => h.1.lt g hg
/-- A slice of whole numbers in memory, or none. -/
def IRow (w : World) (v : Value) (L : List Int) : Prop := (L = [] ∧ v = .slice none 0 0) ∨ ∃ g c, v = .slice (some ⟨g, 0, none⟩) L.length c ∧ L.length ≤ c ∧ Own w g L.length (fun i => .int .i64 (L.getD i 0))
theorem IRow.next {w w' : World} {v : Value} {L : List Int} (h : IRow w v L) (b : Below w.heap.size w w') : IRow w' v L := by
  rcases h with h | ⟨g, c, hv, hc, O⟩
  · exact Or.inl h
  · exact Or.inr ⟨g, c, hv, hc, O.next b⟩
theorem IRow.is {w : World} {v : Value} {L : List Int} (h : IRow w v L) : ∃ a c, v = .slice a L.length c := by
  rcases h with ⟨rfl, rfl⟩ | ⟨g, c, rfl, _, _⟩
  · exact ⟨_, _, rfl⟩
  · exact ⟨_, _, rfl⟩
/-- What operandsOf leaves: a row of its own, made behind B. -/
def IOwn (B : Nat) (w : World) (v : Value) (L : List Int) : Prop := (L = [] ∧ v = .slice none 0 0) ∨ ∃ g c, v = .slice (some ⟨g, 0, none⟩) L.length c ∧ L.length ≤ c ∧ B ≤ g ∧ Own w g L.length (fun i => .int .i64 (L.getD i 0))
theorem IOwn.row {B : Nat} {w : World} {v : Value} {L : List Int} (h : IOwn B w v L) : IRow w v L := by
  rcases h with h | ⟨g, c, h1, h2, _, h3⟩
  · exact Or.inl h
  · exact Or.inr ⟨g, c, h1, h2, h3⟩
theorem alloc_b {v : World} {o : Obj} : Below v.heap.size v (v.alloc o) := (Below.refl _ _).alloc (Nat.le_refl _) _
theorem below_drew {B : Nat} {a w : World} (h : Below B a w) : Below B a w.drew := ⟨h.os, h.tape, h.output, h.size, h.block⟩
theorem srt_take (L : List Int) (k : Nat) (hk : k < L.length) : srt (L.take (k + 1)) = insU (L.getD k 0) (srt (L.take k)) := by
  rw [← srt_snoc]
  congr 1
  rw [List.take_add_one]
  simp [List.getD, hk]
theorem ri_cases {B : Nat} {w : World} {u : Value} {M : List Int} (h : Ri B w u M) : (M = [] ∧ u = .slice none 0 0) ∨ ∃ g c, u = .slice (some ⟨g, 0, none⟩) M.length c ∧ M.length ≤ c ∧ g < w.heap.size ∧ ∀ i, i < M.length → w.cell? ⟨g, i, none⟩ = some (.int .i64 (M.getD i 0)) := by
  have hw := h.1
  rcases h.1.2 with ⟨h1, h2⟩ | ⟨g, c, cur, h1, h2, h3, h4, h5, h6, h7⟩
  · exact Or.inl ⟨List.eq_nil_of_length_eq_zero h2, h1⟩
  · refine Or.inr ⟨g, c, h1, h4, (h.lt g (by rw [h1]; rfl)).2, fun i hi => ?_⟩
    subst h1
    rw [World.ownsRow.cellAt hw i (by omega)]
    simp [il, List.getD, hi]
theorem il_cells {w : World} {g p : Nat} {N : List Int} (h : ∀ i, i < N.length → w.cell? ⟨g, p + i, none⟩ = some (.int .i64 (N.getD i 0))) : ∀ j u, (il N)[j]? = some u → w.cell? ((⟨g, p, none⟩ : Addr).add j) = some u := by
  intro j u hj
  have hl : j < N.length := by
    rcases Nat.lt_or_ge j N.length with h | h
    · exact h
    · rw [List.getElem?_eq_none (by simpa [il] using h)] at hj; cases hj
  have := h j hl
  simp [il, hl] at hj
  have e : (⟨g, p, none⟩ : Addr).add j = ⟨g, p + j, none⟩ := by cases j <;> simp [Addr.add]
  rw [e, this, ← hj]
  simp [List.getD, hl]
theorem cells_take {w : World} {g m p : Nat} {M : List Int} (h : ∀ i, i < m → w.cell? ⟨g, i, none⟩ = some (.int .i64 (M.getD i 0))) (hm : M.length = m) (hp : p ≤ m) : ∀ j u, (il (M.take p))[j]? = some u → w.cell? ((⟨g, 0, none⟩ : Addr).add j) = some u :=
  il_cells fun i hi => by
    simp at hi
    have hp' : i < p := by omega
    rw [Nat.zero_add, h i (by omega)]
    simp [List.getD, hp']
theorem cells_drop {w : World} {g m p : Nat} {M : List Int} (h : ∀ i, i < m → w.cell? ⟨g, i, none⟩ = some (.int .i64 (M.getD i 0))) (hm : M.length = m) : ∀ j u, (il (M.drop p))[j]? = some u → w.cell? ((⟨g, p, none⟩ : Addr).add j) = some u :=
  il_cells fun i hi => by
    simp at hi
    rw [h (p + i) (by omega)]
    simp [List.getD]
theorem cells_none {w : World} {g q p : Nat} {M : List Int} (hm : M.length ≤ p) : ∀ j u, (il (M.drop p))[j]? = some u → w.cell? ((⟨g, q, none⟩ : Addr).add j) = some u := by
  intro j u hj
  rw [List.drop_eq_nil_of_le hm] at hj
  simp [il] at hj
theorem one_new {w : World} (y : Int) : ∀ j u, [Value.int .i64 y][j]? = some u → (w.alloc (.cells #[.int .i64 y] 3)).cell? ((⟨w.heap.size, 0, none⟩ : Addr).add j) = some u := by
  intro j u hj
  match j, hj with
  | 0, hj => simp at hj; subst hj; simp [Addr.add]
theorem one_one (y : Int) : ∀ u ∈ [Value.int .i64 y], u.oneCell' = true := by
  intro u hu
  simp at hu
  subst hu
  rfl
theorem lt_snoc {M : List Int} {p : Nat} {y z : Int} (h : ∀ i, i < p → M.getD i 0 < y) (hz : M.getD p 0 = z) (hzy : z < y) : ∀ i, i < p + 1 → M.getD i 0 < y := by
  intro i hi
  rcases Nat.lt_or_ge i p with k | k
  · exact h i k
  · obtain rfl : i = p := by omega
    rw [hz]
    exact hzy
theorem il_one (N : List Int) : ∀ u ∈ il N, u.oneCell' = true := by
  intro u hu
  simp [il] at hu
  obtain ⟨z, _, rfl⟩ := hu
  rfl
theorem il_len (N : List Int) : (il N).length = N.length * 1 := by simp [il]
theorem ri_of {B b : Nat} {w : World} {u : Value} {n : Nat} {xs : List Value} {M : List Int} (h : w.ownsRow b 3 1 u n xs) (hb : B ≤ b) (hs : b ≤ w.heap.size) (hn : n = M.length) (hx : xs = il M) : Ri B w u M := by
  subst hn hx
  refine ⟨⟨h.1, ?_⟩, Nat.le_trans hb hs⟩
  rcases h.2 with h1 | ⟨g, c, cur, h1, h2, h3⟩
  · exact Or.inl h1
  · exact Or.inr ⟨g, c, cur, h1, Nat.le_trans hb h2, h3⟩
theorem below_grown {b : Nat} {w w1 w2 : World} {r : Option Nat} (h : Below b w w1) (hb : b ≤ w1.heap.size) (k : w1.grownBy w2 r) (hr : ∀ g, r = some g → b ≤ g) : Below b w w2 := h.grown k hb hr
theorem IOwn.next {B : Nat} {w w' : World} {v : Value} {L : List Int} (h : IOwn B w v L) (b : Below w.heap.size w w') : IOwn B w' v L := by
  rcases h with h | ⟨g, c, h1, h2, h3, h4⟩
  · exact Or.inl h
  · exact Or.inr ⟨g, c, h1, h2, h3, h4.next b⟩
theorem IOwn.only {B p : Nat} {w w' : World} {v : Value} {L : List Int} (h : IOwn B w v L) (b : Only p w w') (hp : p < B) : IOwn B w' v L := by
  rcases h with h | ⟨g, c, h1, h2, h3, h4⟩
  · exact Or.inl h
  · exact Or.inr ⟨g, c, h1, h2, h3, h4.but b (by omega)⟩
theorem IOwn.lt {B : Nat} {w : World} {v : Value} {L : List Int} (h : IOwn B w v L) : ∀ q, v.ownBlock = some q → B ≤ q := fun q hq => by
  rcases h with ⟨_, rfl⟩ | ⟨g, c, rfl, _, h3, _⟩
  · simp [Value.ownBlock] at hq
  · simp [Value.ownBlock] at hq
    omega
theorem IOwn.low {B C : Nat} {w : World} {v : Value} {L : List Int} (h : IOwn B w v L) (hC : C ≤ B) : IOwn C w v L := by
  rcases h with h | ⟨g, c, h1, h2, h3, h4⟩
  · exact Or.inl h
  · exact Or.inr ⟨g, c, h1, h2, by omega, h4⟩
/-- A row of whole numbers as it is read, wherever it lies. -/
def ARow (w : World) (v : Value) (L : List Int) : Prop := ∃ ad c, v = .slice ad L.length c ∧ ∀ i, i < L.length → ∃ g o, ad = some ⟨g, o, none⟩ ∧ w.cell? ⟨g, o + i, none⟩ = some (.int .i64 (L.getD i 0))
theorem ARow.next {w w' : World} {v : Value} {L : List Int} (h : ARow w v L) (b : Below w.heap.size w w') : ARow w' v L := by
  obtain ⟨ad, c, h1, h2⟩ := h
  refine ⟨ad, c, h1, fun i hi => ?_⟩
  obtain ⟨g, o, h3, h4⟩ := h2 i hi
  exact ⟨g, o, h3, cell_nx h4 b⟩
theorem IRow.arow {w : World} {v : Value} {L : List Int} (h : IRow w v L) : ARow w v L := by
  rcases h with ⟨rfl, rfl⟩ | ⟨g, c, rfl, _, k⟩
  · exact ⟨none, 0, rfl, fun i hi => absurd hi (by simp)⟩
  · exact ⟨_, c, rfl, fun i hi => ⟨g, 0, rfl, by rw [Nat.zero_add]; exact k.cell i hi⟩⟩
theorem IOwn.arow {B : Nat} {w : World} {v : Value} {L : List Int} (h : IOwn B w v L) : ARow w v L := h.row.arow
/-- m such rows, one behind the other. -/
def ARows (w : World) (v : Value) (m : Nat) (f : Nat → List Int) : Prop := ∃ ad c, v = .slice ad m c ∧ ∀ i, i < m → ∃ q o u, ad = some ⟨q, o, none⟩ ∧ w.cell? ⟨q, o + i, none⟩ = some u ∧ ARow w u (f i)
theorem ARows.next {w w' : World} {v : Value} {m : Nat} {f : Nat → List Int} (h : ARows w v m f) (b : Below w.heap.size w w') : ARows w' v m f := by
  obtain ⟨ad, c, h1, h2⟩ := h
  refine ⟨ad, c, h1, fun i hi => ?_⟩
  obtain ⟨q, o, u, h3, h4, h5⟩ := h2 i hi
  exact ⟨q, o, u, h3, cell_nx h4 b, h5.next b⟩
theorem take_snoc (M : List Int) (j : Nat) (hj : j < M.length) : M.take (j + 1) = M.take j ++ [M.getD j 0] := by
  rw [List.take_add_one]
  simp [List.getD, hj]
/-- Where each begins, by how long they are. -/
def offs (S : Nat → Nat) : Nat → Nat
  | 0 => 0
  | k + 1 => offs S k + S k
theorem offs_ext {S U : Nat → Nat} : ∀ k, (∀ x, x < k → S x = U x) → offs S k = offs U k
  | 0, _ => rfl
  | k + 1, h => by rw [offs, offs, offs_ext k (fun x hx => h x (by omega)), h k (by omega)]
theorem offs_mono (S : Nat → Nat) {x y : Nat} (h : x ≤ y) : offs S x ≤ offs S y := by
  induction y with
  | zero => obtain rfl : x = 0 := by omega
            exact Nat.le_refl _
  | succ y ih =>
    by_cases e : x = y + 1
    · subst e; exact Nat.le_refl _
    · have := ih (by omega)
      rw [offs]
      omega
theorem offs_lt (S : Nat → Nat) {x y : Nat} (h : x < y) : offs S x + S x ≤ offs S y := by
  have := offs_mono S (show x + 1 ≤ y by omega)
  rwa [offs] at this
theorem addr_ne {g o p : Nat} (h : o ≠ p) : (⟨g, o, none⟩ : Addr) ≠ ⟨g, p, none⟩ := fun e => h (by injection e)
theorem addr_ne' {g q o p : Nat} (h : g ≠ q) : (⟨g, o, none⟩ : Addr) ≠ ⟨q, p, none⟩ := fun e => h (by injection e)
set_option maxRecDepth 100000 in
set_option maxHeartbeats 2000000 in
theorem eqI25 (n : Nat) (ada adb : Option Addr) (ca cb : Nat) (f : Nat → Int) (w : World) (hn : n ≤ 1048576) (ha0 : ∀ i, i < n → ∃ g o, ada = some ⟨g, o, none⟩ ∧ w.cell? ⟨g, o + i, none⟩ = some (.int .i64 (f i))) (hb0 : ∀ i, i < n → ∃ g o, adb = some ⟨g, o, none⟩ ∧ w.cell? ⟨g, o + i, none⟩ = some (.int .i64 (f i))) :
    Calls Try.prog 20 #[.slice ada n ca, .slice adb n cb] w fun r w' => r = .returned (.bool true) ∧ ∃ k, w' = w.drewN k := by
  have ha := Hid.mk ha0
  have hb := Hid.mk hb0
  clear ha0 hb0
  go_enter Try.func20, Try.ntmps20
  go_wp2
  go_loopw [5] (fun i wx => ∃ k q : Nat, k ≤ n ∧ i = .int .i64 k ∧ wx = w.drewN q) (fun i _ => n - (intOf i).toNat)
  case atStart => exact ⟨0, 0, by omega, rfl, rfl⟩
  case round =>
    obtain ⟨k, q, hk, rfl, rfl⟩ := hrel
    by_cases hkn : k < n
    · obtain ⟨ga, oa, rfl, c1⟩ := ha.out k hkn
      obtain ⟨gb, ob, rfl, c2⟩ := hb.out k hkn
      have i0 : (0 : Int) ≤ (k : Int) := by omega
      have i1 : (k : Int) < (n : Int) := by omega
      go_wp2
      go_quiet (fail)
      go_wp2
      go_roundw
      case rel => exact ⟨k + 1, _, by omega, by go_num, rfl⟩
      case measure => simp [intOf]; omega
    · have hkk : k = n := by omega
      subst hkk
      go_wp2
      go_ret
      exact ⟨rfl, q, rfl⟩
theorem eqA25 {w : World} {u v : Value} {L : List Int} (hn : L.length ≤ 1048576) (U : ARow w u L) (V : ARow w v L) : Calls Try.prog 20 #[u, v] w fun r w' => r = .returned (.bool true) ∧ ∃ k, w' = w.drewN k := by
  obtain ⟨a, c, rfl, h⟩ := U
  obtain ⟨a', c', rfl, h'⟩ := V
  exact eqI25 L.length a a' c c' (fun i => L.getD i 0) w hn h h'
theorem ARow.drewN {w : World} {v : Value} {L : List Int} (h : ARow w v L) (q : Nat) : ARow (w.drewN q) v L := h.next (below_drewN (Below.refl _ _) q)
set_option maxRecDepth 100000 in
set_option maxHeartbeats 4000000 in
theorem eq10 (m : Nat) (L : Nat → List Int) (u v : Value) (w : World) (hm : m ≤ 1048576) (hl : ∀ i, i < m → (L i).length ≤ 1048576) (U : ARows w u m L) (V : ARows w v m L) : Calls Try.prog 56 #[u, v] w fun r w' => r = .returned (.bool true) ∧ Below w.heap.size w w' := by
  obtain ⟨ada, ca, rfl, ha0⟩ := U
  obtain ⟨adb, cb, rfl, hb0⟩ := V
  have ha := Hid.mk ha0
  have hb := Hid.mk hb0
  have hL := Hid.mk hl
  clear ha0 hb0 hl
  go_enter Try.func56, Try.ntmps56
  go_wp2
  go_loopw [5] (fun i wx => ∃ k : Nat, k ≤ m ∧ i = .int .i64 k ∧ Below w.heap.size w wx) (fun i _ => m - (intOf i).toNat)
  case atStart => exact ⟨0, by omega, rfl, Below.refl _ _⟩
  case round =>
    obtain ⟨k, hk, rfl, B⟩ := hrel
    by_cases hkn : k < m
    · obtain ⟨ga, oa, ua, rfl, c1, U1⟩ := ha.out k hkn
      obtain ⟨gb, ob, ub, rfl, c2, U2⟩ := hb.out k hkn
      have d1 := cell_nx c1 B
      have d2 := cell_nx c2 B
      have h25 : ∀ v, Below w.heap.size w v → Calls Try.prog 20 #[ua, ub] v fun r w' => r = .returned (.bool true) ∧ ∃ k, w' = v.drewN k := fun v b => eqA25 (hL.out k hkn) (U1.next b) (U2.next b)
      have BD : Below w.heap.size w wr.drew := below_drew B
      obtain ⟨xa, ya, rfl, _⟩ := U1
      obtain ⟨xb, yb, rfl, _⟩ := U2
      have i0 : (0 : Int) ≤ (k : Int) := by omega
      have i1 : (k : Int) < (m : Int) := by omega
      clear c1 c2
      go_wp2
      go_region_with (go_at_call 20; refine (h25 _ ?_).mono ?_; (focus (first | with_reducible exact BD | with_reducible exact B)); rintro e w2 ⟨rfl, q2, hw2⟩; (have B3 : Below wr.heap.size wr w2 := by rw [hw2]; first | exact below_drewN (below_drew (Below.refl _ _)) q2 | exact below_drewN (Below.refl _ _) q2); clear hw2)
      all_goals
        go_wp2
        go_roundw
        case rel => exact ⟨k + 1, by omega, by go_num, B.trans (B3.mono B.size)⟩
        case measure => simp [intOf]; omega
    · have hkk : k = m := by omega
      subst hkk
      go_wp2
      go_ret
      exact ⟨rfl, B⟩
/-- m rows of numbers, each of which may be written, no two at one place; their slices stand from ad on. -/
structure Gm (B : Nat) (w : World) (ad : Option Addr) (m : Nat) (S p o : Nat → Nat) (F : Nat → Nat → Int) : Prop where
  ptr : ∀ x, x < m → ∃ gc, ad = some ⟨gc, 0, none⟩ ∧ B ≤ gc ∧ (∃ a2 cp, w.cell? ⟨gc, x, none⟩ = some (.slice a2 (S x) cp) ∧ (0 < S x → a2 = some ⟨p x, o x, none⟩)) ∧ ∀ y i, y < m → i < S y → p y ≠ gc
  cel : ∀ x i, x < m → i < S x → w.cell? ⟨p x, o x + i, none⟩ = some (.int .i64 (F x i))
  fr : ∀ x i, x < m → i < S x → w.frozen? ⟨p x, o x + i, none⟩ = false
  ap : ∀ x y i j, x < m → y < m → i < S x → j < S y → p x = p y → o x + i = o y + j → x = y
  lo : ∀ x i, x < m → i < S x → B ≤ p x
theorem Gm.next {B : Nat} {w w' : World} {ad : Option Addr} {m : Nat} {S p o : Nat → Nat} {F : Nat → Nat → Int} (h : Gm B w ad m S p o F) (b : Below w.heap.size w w') : Gm B w' ad m S p o F := by
  refine ⟨fun x hx => ?_, fun x i hx hi => cell_nx (h.cel x i hx hi) b, fun x i hx hi => ?_, h.ap, h.lo⟩
  · obtain ⟨gc, h1, h2, ⟨a2, cp, h3, h4⟩, h5⟩ := h.ptr x hx
    exact ⟨gc, h1, h2, ⟨a2, cp, cell_nx h3 b, h4⟩, h5⟩
  · rw [b.frozen (p := ⟨p x, o x + i, none⟩) (World.block_lt_of_cell? _ _ (h.cel x i hx hi))]
    exact h.fr x i hx hi
theorem Gm.only {B q : Nat} {w w' : World} {ad : Option Addr} {m : Nat} {S p o : Nat → Nat} {F : Nat → Nat → Int} (h : Gm B w ad m S p o F) (b : Only q w w') (hq : q < B) : Gm B w' ad m S p o F := by
  refine ⟨fun x hx => ?_, fun x i hx hi => ?_, fun x i hx hi => ?_, h.ap, h.lo⟩
  · obtain ⟨gc, h1, h2, ⟨a2, cp, h3, h4⟩, h5⟩ := h.ptr x hx
    exact ⟨gc, h1, h2, ⟨a2, cp, (World.cell?_of_block (w := w) (a := ⟨gc, x, none⟩) (b.block gc (World.block_lt_of_cell? _ _ h3) (by omega))).trans h3, h4⟩, h5⟩
  · have := h.lo x i hx hi
    exact (World.cell?_of_block (w := w) (a := ⟨p x, o x + i, none⟩) (b.block (p x) (World.block_lt_of_cell? _ _ (h.cel x i hx hi)) (by omega))).trans (h.cel x i hx hi)
  · have := h.lo x i hx hi
    exact (World.frozen?_of_block (w := w) (a := ⟨p x, o x + i, none⟩) (b.block (p x) (World.block_lt_of_cell? _ _ (h.cel x i hx hi)) (by omega))).trans (h.fr x i hx hi)
/-- One number is written. -/
def upG (F : Nat → Nat → Int) (x i : Nat) (v : Int) : Nat → Nat → Int := fun y j => if y = x ∧ j = i then v else F y j
theorem Gm.set {B : Nat} {w : World} {ad : Option Addr} {m : Nat} {S p o : Nat → Nat} {F : Nat → Nat → Int} (h : Gm B w ad m S p o F) (x i : Nat) (hx : x < m) (hi : i < S x) (v : Int) : Gm B (w.setCell ⟨p x, o x + i, none⟩ (.int .i64 v)) ad m S p o (upG F x i v) := by
  refine ⟨fun y hy => ?_, fun y j hy hj => ?_, fun y j hy hj => by simp [h.fr y j hy hj], h.ap, h.lo⟩
  · obtain ⟨gc, h1, h2, ⟨a2, cp, h3, h4⟩, h5⟩ := h.ptr y hy
    exact ⟨gc, h1, h2, ⟨a2, cp, by rw [World.cell?_setCell_other (h := addr_ne' (h5 x i hx hi))]; exact h3, h4⟩, h5⟩
  · unfold upG
    by_cases e : y = x ∧ j = i
    · obtain ⟨rfl, rfl⟩ := e
      rw [if_pos ⟨rfl, rfl⟩]
      exact World.cell?_setCell_same' _ _ _ (by rw [h.cel y j hy hj]; rfl)
    · rw [if_neg e]
      have hne : (⟨p x, o x + i, none⟩ : Addr) ≠ ⟨p y, o y + j, none⟩ := fun q => by
        injection q with q1 q2
        have := h.ap x y i j hx hy hi hj q1 q2
        subst this
        exact e ⟨rfl, by omega⟩
      rw [World.cell?_setCell_other (h := hne)]
      exact h.cel y j hy hj
set_option maxRecDepth 100000 in
set_option maxHeartbeats 4000000 in
theorem mark27 {B : Nat} {w : World} {ad : Option Addr} {m : Nat} {S p o : Nat → Nat} {F : Nat → Nat → Int} (G : Gm B w ad m S p o F) (x : Nat) (hx : x < m) (a2 : Option Addr) (cp : Nat) (h2 : 0 < S x → a2 = some ⟨p x, o x, none⟩) (k0 : Nat) (hk0 : k0 ≤ 10000000) (hS : S x ≤ 1048576) : Calls Try.prog 21 #[.slice a2 (S x) cp, .int .i64 (k0 : Int)] w fun r w' => r = .returned (.int .i64 ((k0 + S x : Nat) : Int)) ∧ (∃ F', Gm B w' ad m S p o F' ∧ (∀ i, i < S x → F' x i = ((k0 + i : Nat) : Int)) ∧ ∀ y i, y ≠ x → F' y i = F y i) ∧ Below B w w' := by
  have H2 := Hid.mk h2
  have HG := Hid.mk G
  have HLo : Hid (∀ i, i < S x → B ≤ p x) := fun i hi => G.lo x i hx hi
  obtain ⟨n, hn⟩ : ∃ n, S x = n := ⟨_, rfl⟩
  have HN : Hid (S x = n) := hn
  rw [hn] at hS ⊢
  clear h2 G hn
  go_enter Try.func21, Try.ntmps21
  go_wp2
  go_loopw [1, 5] (fun q i wr => ∃ (k : Nat) (F' : Nat → Nat → Int), k ≤ n ∧ i = .int .i64 k ∧ q = .int .i64 ((k0 + k : Nat) : Int) ∧ Hid (Gm B wr ad m S p o F') ∧ Hid (∀ i, i < k → F' x i = ((k0 + i : Nat) : Int)) ∧ Hid (∀ y i, y ≠ x → F' y i = F y i) ∧ Hid (Below B w wr)) (fun _ i _ => n - (intOf i).toNat)
  case atStart => exact ⟨0, F, by omega, rfl, rfl, HG, fun i hi => by omega, fun _ _ _ => rfl, Below.refl _ _⟩
  case round =>
    obtain ⟨k, F', hk, rfl, rfl, GJ, FJ, OJ, BJ⟩ := hrel
    by_cases hkn : k < n
    · have i1 : (k : Int) < (n : Int) := by omega
      have i0 : (0 : Int) ≤ (k : Int) := by omega
      have hkS : k < S x := by rw [HN.out]; exact hkn
      obtain rfl := H2.out (by omega)
      obtain ⟨s, hs⟩ : ∃ s : Nat, k0 + k = s := ⟨_, rfl⟩
      rw [hs]
      have s1 : (s : Int) < 4294967296 := by omega
      have s0 : (0 : Int) ≤ (s : Int) := by omega
      have HS : Hid (k0 + k = s) := hs
      have f0 := GJ.out.fr x k hx hkS
      have g0 := GJ.out.cel x k hx hkS
      have GN : Hid (Gm B (wr.setCell ⟨p x, o x + k, none⟩ (.int .i64 (s : Int))) ad m S p o (upG F' x k (s : Int))) := GJ.out.set x k hx hkS _
      have FN : Hid (∀ i, i < k + 1 → upG F' x k (s : Int) x i = ((k0 + i : Nat) : Int)) := fun i hi => by
        unfold upG
        by_cases e : i = k
        · subst e; rw [if_pos ⟨rfl, rfl⟩, HS.out]
        · rw [if_neg (fun q => e q.2)]; exact FJ.out i (by omega)
      have ON : Hid (∀ y i, y ≠ x → upG F' x k (s : Int) y i = F y i) := fun y i hy => by
        unfold upG
        rw [if_neg (fun q => hy q.1)]
        exact OJ.out y i hy
      have BN : Hid (Below B w (wr.setCell ⟨p x, o x + k, none⟩ (.int .i64 (s : Int)))) := BJ.out.setCell (p := ⟨p x, _, none⟩) (HLo.out k hkS) _
      clear hs GJ FJ OJ BJ
      go_wp2
      go_roundw
      case rel => exact ⟨k + 1, _, by omega, by go_num, by have := HS.out; rw [show k0 + (k + 1) = s + 1 by omega]; go_num, GN, FN, ON, BN⟩
      case measure => simp [intOf]; omega
    · have hkk : k = n := by omega
      subst hkk
      go_wp2
      go_ret
      exact ⟨rfl, ⟨F', GJ.out, fun i hi => FJ.out i hi, OJ.out⟩, BJ.out⟩
set_option maxRecDepth 100000 in
set_option maxHeartbeats 4000000 in
theorem mark13 {B : Nat} {w : World} {ad : Option Addr} {m : Nat} {S p o : Nat → Nat} {F : Nat → Nat → Int} (G : Gm B w ad m S p o F) (cp : Nat) (hm : m ≤ 1048576) (hT : offs S m ≤ 1000000) : Calls Try.prog 57 #[.slice ad m cp, .int .i64 1] w fun r w' => r = .returned (.int .i64 ((1 + offs S m : Nat) : Int)) ∧ (∃ F', Gm B w' ad m S p o F' ∧ ∀ x i, x < m → i < S x → F' x i = ((1 + offs S x + i : Nat) : Int)) ∧ Below B w w' := by
  have HG := Hid.mk G
  have HT := Hid.mk hT
  clear G hT
  go_enter Try.func57, Try.ntmps57
  go_wp2
  go_loopw [1, 5] (fun q i wr => ∃ (k : Nat) (F' : Nat → Nat → Int), k ≤ m ∧ i = .int .i64 k ∧ q = .int .i64 ((1 + offs S k : Nat) : Int) ∧ Hid (Gm B wr ad m S p o F') ∧ Hid (∀ x i, x < k → i < S x → F' x i = ((1 + offs S x + i : Nat) : Int)) ∧ Hid (Below B w wr)) (fun _ i _ => m - (intOf i).toNat)
  case atStart => exact ⟨0, F, by omega, rfl, rfl, HG, fun x i hx => by omega, Below.refl _ _⟩
  case round =>
    obtain ⟨k, F', hk, rfl, rfl, GJ, FJ, BJ⟩ := hrel
    by_cases hkn : k < m
    · have i1 : (k : Int) < (m : Int) := by omega
      have i0 : (0 : Int) ≤ (k : Int) := by omega
      have hle := offs_lt S hkn
      have hT := HT.out
      obtain ⟨gc, rfl, _, ⟨a2, c2, ck, h2⟩, _⟩ := GJ.out.ptr k hkn
      have h27 := mark27 GJ.out k hkn a2 c2 h2 (1 + offs S k) (by omega) (by omega)
      have HO : Hid (offs S (k + 1) = offs S k + S k) := rfl
      generalize hsk : S k = sk at h27 ck
      have HSK : Hid (S k = sk) := hsk
      generalize hof : offs S k = ok at h27
      have HOK : Hid (offs S k = ok) := hof
      clear hsk hof h2 hle hT
      go_wp2_with (go_at_call 21; refine h27.mono ?_; rintro e w2 ⟨rfl, ⟨F2, G2, F2a, F2b⟩, B2⟩)
      have GN : Hid (Gm B w2 (some ⟨gc, 0, none⟩) m S p o F2) := G2
      have FN : Hid (∀ x i, x < k + 1 → i < S x → F2 x i = ((1 + offs S x + i : Nat) : Int)) := fun x i hx hi => by
        by_cases e : x = k
        · subst e
          rw [F2a i (by rw [← HSK.out]; exact hi), HOK.out]
        · rw [F2b x i e]
          exact FJ.out x i (by omega) hi
      have BN : Hid (Below B w w2) := BJ.out.trans B2
      clear G2 F2a F2b B2 GJ FJ BJ h27
      go_roundw
      case rel => exact ⟨k + 1, F2, by omega, by go_num, by rw [HO.out, HSK.out, HOK.out]; (first | rfl | (congr 2; omega)), GN, FN, BN⟩
      case measure => simp [intOf]; omega
    · have hkk : k = m := by omega
      subst hkk
      go_wp2
      go_ret
      exact ⟨rfl, ⟨F', GJ.out, FJ.out⟩, BJ.out⟩
set_option maxRecDepth 100000 in
set_option maxHeartbeats 4000000 in
theorem held28 (n : Nat) (a2 : Option Addr) (cp g o k0 : Nat) (w : World) (h0 : 0 < n → a2 = some ⟨g, o, none⟩) (hc : ∀ i, i < n → w.cell? ⟨g, o + i, none⟩ = some (.int .i64 ((k0 + i : Nat) : Int))) (hk0 : k0 ≤ 10000000) (hn : n ≤ 1048576) : Calls Try.prog 22 #[.slice a2 n cp, .int .i64 (k0 : Int)] w fun r w' => r = .returned (.int .i64 ((k0 + n : Nat) : Int)) ∧ w' = w := by
  have H0 := Hid.mk h0
  have HC := Hid.mk hc
  clear h0 hc
  go_enter Try.func22, Try.ntmps22
  go_wp2
  go_loop [1, 5] (fun q i => ∃ k : Nat, k ≤ n ∧ i = .int .i64 k ∧ q = .int .i64 ((k0 + k : Nat) : Int)) (fun _ i => n - (intOf i).toNat)
  case atStart => exact ⟨0, by omega, rfl, rfl⟩
  case round =>
    obtain ⟨k, hk, rfl, rfl⟩ := hrel
    by_cases hkn : k < n
    · have i1 : (k : Int) < (n : Int) := by omega
      have i0 : (0 : Int) ≤ (k : Int) := by omega
      obtain rfl := H0.out (by omega)
      have ck := HC.out k hkn
      obtain ⟨s, hs⟩ : ∃ s : Nat, k0 + k = s := ⟨_, rfl⟩
      rw [hs] at ck ⊢
      have s1 : (s : Int) < 4294967296 := by omega
      have s0 : (0 : Int) ≤ (s : Int) := by omega
      have HS : Hid (k0 + k = s) := hs
      clear hs
      go_wp2
      go_round
      case rel => exact ⟨k + 1, by omega, by go_num, by have := HS.out; rw [show k0 + (k + 1) = s + 1 by omega]; go_num⟩
      case measure => simp [intOf]; omega
    · have hkk : k = n := by omega
      subst hkk
      go_wp2
      go_ret
      exact ⟨rfl, rfl⟩
set_option maxRecDepth 100000 in
set_option maxHeartbeats 4000000 in
theorem held14 {B : Nat} {w : World} {ad : Option Addr} {m : Nat} {S p o : Nat → Nat} {F : Nat → Nat → Int} (G : Gm B w ad m S p o F) (hF : ∀ x i, x < m → i < S x → F x i = ((1 + offs S x + i : Nat) : Int)) (cp : Nat) (hm : m ≤ 1048576) (hT : offs S m ≤ 1000000) : Calls Try.prog 58 #[.slice ad m cp, .int .i64 1] w fun r w' => r = .returned (.int .i64 ((1 + offs S m : Nat) : Int)) ∧ w' = w := by
  have HG := Hid.mk G
  have HT := Hid.mk hT
  have HF := Hid.mk hF
  clear G hT hF
  go_enter Try.func58, Try.ntmps58
  go_wp2
  go_loop [1, 5] (fun q i => ∃ k : Nat, k ≤ m ∧ i = .int .i64 k ∧ q = .int .i64 ((1 + offs S k : Nat) : Int)) (fun _ i => m - (intOf i).toNat)
  case atStart => exact ⟨0, by omega, rfl, rfl⟩
  case round =>
    obtain ⟨k, hk, rfl, rfl⟩ := hrel
    by_cases hkn : k < m
    · have i1 : (k : Int) < (m : Int) := by omega
      have i0 : (0 : Int) ≤ (k : Int) := by omega
      have hle := offs_lt S hkn
      have hT := HT.out
      obtain ⟨gc, rfl, _, ⟨a2, c2, ck, h2⟩, _⟩ := HG.out.ptr k hkn
      have h28 := held28 (S k) a2 c2 (p k) (o k) (1 + offs S k) w h2 (fun i hi => by rw [HG.out.cel k i hkn hi, HF.out k i hkn hi]) (by omega) (by omega)
      have HO : Hid (offs S (k + 1) = offs S k + S k) := rfl
      generalize hsk : S k = sk at h28 ck
      have HSK : Hid (S k = sk) := hsk
      generalize hof : offs S k = ok at h28
      have HOK : Hid (offs S k = ok) := hof
      have z0 : ¬ ((1 + ok + sk : Nat) : Int) < 0 := by omega
      obtain ⟨zz, hzz⟩ : ∃ zz : Int, ((1 + ok + sk : Nat) : Int) = zz := ⟨_, rfl⟩
      have HZZ : Hid (((1 + ok + sk : Nat) : Int) = zz) := hzz
      rw [hzz] at h28 z0
      clear hsk hof h2 hle hT hzz
      go_wp2_with (go_at_call 22; refine h28.mono ?_; rintro e w2 ⟨rfl, hw2⟩; subst w2)
      go_round
      case rel => exact ⟨k + 1, by omega, by go_num, by rw [HO.out, HSK.out, HOK.out, ← HZZ.out]; (first | rfl | (congr 2; omega))⟩
      case measure => simp [intOf]; omega
    · have hkk : k = m := by omega
      subst hkk
      go_wp2
      go_ret
      exact ⟨rfl, rfl⟩
/-- What a function answers: rows of its own. -/
def Ans (B : Nat) (w : World) (u : Value) (m : Nat) (L : Nat → List Int) : Prop := ∃ ad cp p o, u = .slice ad m cp ∧ Gm B w ad m (fun x => (L x).length) p o (fun x i => (L x).getD i 0)
theorem Ans.next {B : Nat} {w w' : World} {u : Value} {m : Nat} {L : Nat → List Int} (h : Ans B w u m L) (b : Below w.heap.size w w') : Ans B w' u m L := by
  obtain ⟨ad, cp, p, o, h1, h2⟩ := h
  exact ⟨ad, cp, p, o, h1, h2.next b⟩
theorem Ans.only {B q : Nat} {w w' : World} {u : Value} {m : Nat} {L : Nat → List Int} (h : Ans B w u m L) (b : Only q w w') (hq : q < B) : Ans B w' u m L := by
  obtain ⟨ad, cp, p, o, h1, h2⟩ := h
  exact ⟨ad, cp, p, o, h1, h2.only b hq⟩
theorem Ans.arows {B : Nat} {w : World} {u : Value} {m : Nat} {L : Nat → List Int} (h : Ans B w u m L) : ARows w u m L := by
  obtain ⟨ad, cp, p, o, h1, h2⟩ := h
  refine ⟨ad, cp, h1, fun x hx => ?_⟩
  obtain ⟨gc, a1, _, ⟨a2, c2, a3, a4⟩, _⟩ := h2.ptr x hx
  refine ⟨gc, 0, _, a1, by rw [Nat.zero_add]; exact a3, a2, c2, rfl, fun i hi => ⟨p x, o x, a4 (by show 0 < (L x).length; omega), h2.cel x i hx hi⟩⟩
/-- A slice that came in: n elements at a; of an empty one nothing is asked. -/
def Arg (w : World) (a : Option Addr) (n : Nat) (f : Nat → Value) : Prop := n = 0 ∨ ∃ b off, a = some ⟨b, off, none⟩ ∧ b < w.heap.size ∧ ∀ i, i < n → w.cell? ⟨b, off + i, none⟩ = some (f i)
theorem Arg.next {w w' : World} {a : Option Addr} {n : Nat} {f : Nat → Value} (h : Arg w a n f) (hb : Below w.heap.size w w') : Arg w' a n f := by
  rcases h with h | ⟨b, off, ha, hl, hc⟩
  · exact Or.inl h
  · exact Or.inr ⟨b, off, ha, by have := hb.size; omega, fun i hi => (hb.cell (p := ⟨b, off + i, none⟩) hl).trans (hc i hi)⟩
theorem zero_wf (k : IntKind) : (Lit.int k 0).wf = true := by cases k <;> rfl
section
variable {H : Type} {enc : TypeId × Value → H} {P : Program} {W : World} {base : Nat}
theorem view_ints {t e : TypeId} {k : IntKind} {v : Value} {d : DataW H} {p : List MemPlace} (ht : P.underlying t = some (.slice e)) (he : P.underlying e = some (.int k)) (hc : P.cellsOf e = 1)
    (hok : Value.okWide P W .any base t v) (h : DataW.Trod enc P W 0 (fun _ => true) true t v d p) (hlt : ∀ x ∈ p, x.block < W.heap.size) :
    ∃ (a : Option Addr) (len cap : Nat) (f : Nat → Int), v = .slice a len cap ∧ len ≤ 9223372036854775807 ∧ Arg W a len (fun i => .int k (f i)) ∧ ∀ i, (Lit.int k (f i)).wf = true := by
  obtain ⟨a0, len, cap, rfl⟩ := okWide_slice ht hok
  obtain ⟨fuel, hf⟩ := h
  rcases open_ints ht he hc hf with ⟨hcs, hx⟩ | ⟨a, len', cap', zs, hcs, _, hl, hm, hz, hx, hcell, hwz⟩
  · simp [Value.cells] at hcs
    obtain ⟨rfl, rfl, rfl⟩ := hcs
    exact ⟨_, 0, 0, fun _ => 0, rfl, by omega, Or.inl rfl, fun _ => zero_wf k⟩
  · simp [Value.cells] at hcs
    obtain ⟨rfl, rfl, rfl⟩ := hcs
    simp only [Prod.mk.injEq] at hx
    obtain ⟨rfl, rfl⟩ := hx
    simp only [if_true] at hz
    refine ⟨_, len, cap, fun i => zs.getD i 0, rfl, by unfold maxLen at hm; omega, ?_, fun i => ?_⟩
    · by_cases hl0 : len = 0
      · exact Or.inl hl0
      · obtain ⟨b, off, spot⟩ := a
        have hspot : spot = none := by simpa [Addr.add] using World.cell?_spot (hcell 0 (by omega))
        subst hspot
        have hbW : b < W.heap.size := hlt (.cell b off) (MemPlace.mem_row.2 ⟨0, by omega, by simp⟩)
        exact Or.inr ⟨b, off, rfl, hbW, fun j hj => by rw [← add_plain]; exact hcell j (by omega)⟩
    · show (Lit.int k (zs.getD i 0)).wf = true
      by_cases hi : i < zs.length
      · have e : zs.getD i 0 = zs[i] := by simp [List.getD, hi]
        rw [e]
        exact hwz _ (List.getElem_mem hi)
      · have e : zs.getD i 0 = 0 := by simp [List.getD, List.getElem?_eq_none (Nat.le_of_not_lt hi)]
        rw [e]
        exact zero_wf k
end
def fl (f : Nat → Int) : Nat → List Int
  | 0 => []
  | k + 1 => fl f k ++ [f k]
theorem fl_len (f : Nat → Int) : ∀ k, (fl f k).length = k
  | 0 => rfl
  | k + 1 => by rw [fl, List.length_append, fl_len f k]; rfl
theorem fl_at (f : Nat → Int) : ∀ k i, i < k → (fl f k).getD i 0 = f i
  | 0, i, h => absurd h (Nat.not_lt_zero _)
  | k + 1, i, h => by
    rw [fl]
    by_cases e : i = k
    · subst e
      simp [List.getD, fl_len f i]
    · have := fl_at f k i (by omega)
      rw [← this]
      simp [List.getD, List.getElem?_append_left (show i < (fl f k).length by rw [fl_len]; omega)]
theorem own_arow {w : World} {g n cp : Nat} {f : Nat → Int} (O : Own w g n (fun i => .int .i64 (f i))) : ARow w (.slice (some ⟨g, 0, none⟩) n cp) (fl f n) := by
  refine ⟨some ⟨g, 0, none⟩, cp, by rw [fl_len], fun i hi => ⟨g, 0, rfl, ?_⟩⟩
  rw [fl_len] at hi
  rw [fl_at f n i hi, Nat.zero_add]
  exact O.cell i hi
set_option maxRecDepth 100000 in
set_option maxHeartbeats 2000000 in
theorem toN27 {w : World} {a : Option Addr} {n : Nat} {f : Nat → Int} (h : Arg w a n (fun i => .int .i64 (f i))) (cap : Nat) (hn : n ≤ 1048576) : Calls Try.prog 19 #[.slice a n cap] w fun r w' => r = .returned (.slice (some ⟨w.heap.size, 0, none⟩) n n) ∧ Own w' w.heap.size n (fun i => .int .i64 (f i)) ∧ Below w.heap.size w w' := by
  obtain ⟨i3, hi3, hz30, hz31, hz32⟩ := info_parts info3
  have HA : Hid (∀ v, Below w.heap.size w v → ∀ k, k < n → ∃ b off, a = some ⟨b, off, none⟩ ∧ v.cell? ⟨b, off + k, none⟩ = some (.int .i64 (f k))) := fun v bv k hk => by
    rcases h with h | ⟨b, off, h1, h2, h3⟩
    · omega
    · exact ⟨b, off, h1, cell_nx (h3 k hk) bv⟩
  clear h
  go_enter Try.func19, Try.ntmps19
  go_wp2_with (at_make; refine wpList_make_full _ rfl _ _ 23 rfl w.heap.size 3 i3 (.int .i64 0) 1 Try.underlying23 hi3 hz30 hz31 _ _ _ _ n rfl rfl (by first | rfl | omega) (by first | rfl | omega) (by rw [hz32]; omega) (by unfold maxLen; omega) (by simp) ?_; intro w2 hown2 hgrow2)
  have O2 : Hid (Own w2 w.heap.size n (fun i => .int .i64 (if i < 0 then f i else 0))) := own_made hown2
  have B2 : Hid (Below w.heap.size w w2) := (Below.refl _ _).grown hgrow2 (Nat.le_refl _) (by simp)
  clear hown2 hgrow2
  go_loopw [4] (fun i wr => ∃ k : Nat, k ≤ n ∧ i = .int .i64 k ∧ Hid (Own wr w.heap.size n (fun i => .int .i64 (if i < k then f i else 0))) ∧ Hid (Below w.heap.size w wr)) (fun i _ => n - (intOf i).toNat)
  case atStart => exact ⟨0, Nat.zero_le _, rfl, O2, B2⟩
  case round =>
    obtain ⟨k, hk, rfl, HS, HB⟩ := hrel
    clear O2 B2
    by_cases hkn : k < n
    · have j1 : (k : Int) < (n : Int) := by omega
      have j0 : (0 : Int) ≤ (k : Int) := by omega
      obtain ⟨b, off, rfl, hc⟩ := HA.out wr HB.out k hkn
      have cs := HS.out.cell k hkn
      have fs := HS.out.free k
      have S1 : Hid (Own (wr.setCell ⟨w.heap.size, k, none⟩ (.int .i64 (f k))) w.heap.size n (fun i => .int .i64 (if i < k + 1 then f i else 0))) := HS.out.set k _ hkn (fun i hi => by
        by_cases e : i = k
        · subst e; rw [if_pos rfl, if_pos (by omega)]
        · rw [if_neg e]
          by_cases e2 : i < k
          · rw [if_pos e2, if_pos (by omega)]
          · rw [if_neg e2, if_neg (by omega)])
      have B1 : Hid (Below w.heap.size w (wr.setCell ⟨w.heap.size, k, none⟩ (.int .i64 (f k)))) := HB.out.setCell (p := ⟨w.heap.size, k, none⟩) (Nat.le_refl _) _
      clear HS HB
      go_wp2
      go_roundw
      case rel => exact ⟨k + 1, by omega, by go_num, S1, B1⟩
      case measure => simp [intOf]; omega
    · obtain rfl : n = k := by omega
      have j1 : ¬ (n : Int) < (n : Int) := by omega
      go_wp2
      go_ret
      exact ⟨rfl, HS.out.mono (Nat.le_refl _) (fun i hi => by rw [if_pos hi]), HB.out⟩
end Go.Proofs.Ytfhpjcojccfcoaa
