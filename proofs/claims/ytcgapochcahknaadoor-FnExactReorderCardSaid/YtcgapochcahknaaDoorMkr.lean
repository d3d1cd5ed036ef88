/- Rows of rows of whole numbers in the making; a row of instructions wherever it lies. No function of the program is spoken of here. -/
import Derived.Test.YtcgapochcahknaaDoorNed
import Derived.Test.YtcgapochcahknaaDoorSim
import Derived.Deep.AppendLies
namespace Go.Proofs.YtcgapochcahknaaDoor
open Go.ChangeShapes Go.WideShapes Go.ChangeAt Go.RowKit
set_option linter.unusedVariables false
/-- A row of instructions: its fields by number, and how many there are. -/
structure Rc where
  O : Nat → Int
  D : Nat → Int
  A : Nat → Int
  B : Nat → Int
  C : Nat → Int
  X : Nat → Int
  n : Nat
/-- .. as it lies in memory. -/
structure Ir (w : World) (b off : Nat) (c : Rc) : Prop where
  c0 : ∀ i, i < c.n → w.cell? ⟨b, off + i * 6, none⟩ = some (.int .i64 (c.O i))
  c1 : ∀ i, i < c.n → w.cell? ⟨b, off + i * 6 + 1, none⟩ = some (.int .i64 (c.D i))
  c2 : ∀ i, i < c.n → w.cell? ⟨b, off + i * 6 + 2, none⟩ = some (.int .i64 (c.A i))
  c3 : ∀ i, i < c.n → w.cell? ⟨b, off + i * 6 + 3, none⟩ = some (.int .i64 (c.B i))
  c4 : ∀ i, i < c.n → w.cell? ⟨b, off + i * 6 + 4, none⟩ = some (.int .i64 (c.C i))
  c5 : ∀ i, i < c.n → w.cell? ⟨b, off + i * 6 + 5, none⟩ = some (.int .u32 (c.X i))
  hi : b < w.heap.size
theorem Ir.next {w w' : World} {b off : Nat} {c : Rc} (h : Ir w b off c) (k : Below w.heap.size w w') : Ir w' b off c :=
  ⟨fun i hi => cell_nx (h.c0 i hi) k, fun i hi => cell_nx (h.c1 i hi) k, fun i hi => cell_nx (h.c2 i hi) k, fun i hi => cell_nx (h.c3 i hi) k, fun i hi => cell_nx (h.c4 i hi) k, fun i hi => cell_nx (h.c5 i hi) k, Nat.lt_of_lt_of_le h.hi k.size⟩
theorem RowI.ir {w : World} {a n : Nat} {O D A B C X : Nat → Int} (h : RowI w a n O D A B C X) : Ir w a 0 ⟨O, D, A, B, C, X, n⟩ := by
  refine ⟨fun i hi => ?_, fun i hi => ?_, fun i hi => ?_, fun i hi => ?_, fun i hi => ?_, fun i hi => ?_, h.hi⟩
  · rw [Nat.zero_add]; exact h.c0 i hi
  · rw [Nat.zero_add]; exact h.c1 i hi
  · rw [Nat.zero_add]; exact h.c2 i hi
  · rw [Nat.zero_add]; exact h.c3 i hi
  · rw [Nat.zero_add]; exact h.c4 i hi
  · rw [Nat.zero_add]; exact h.c5 i hi
def Rc.wd (c : Rc) : Prop := ∀ i, i < c.n → 0 ≤ c.X i ∧ c.X i < 4294967296
/-- What may stand in a row. -/
def Rc.gi (c : Rc) (k : Nat) : Bool := goodI (c.O k) (c.D k) (c.A k) (c.B k) (c.C k) (c.X k) 600 && freeB (c.O k)
def Rc.row (c : Rc) : Bool := (decide (1 ≤ c.n) && decide (c.n ≤ 64)) && allB c.gi c.n
theorem Rc.row_n {c : Rc} (h : c.row = true) : 1 ≤ c.n ∧ c.n ≤ 64 := by
  simp only [Rc.row, Bool.and_eq_true, decide_eq_true_eq] at h
  exact h.1
theorem Rc.row_g {c : Rc} (h : c.row = true) (hX : c.wd) (k : Nat) (hk : k < c.n) : GI (c.O k) (c.D k) (c.A k) (c.B k) (c.C k) (c.X k) ∧ freeB (c.O k) = true := by
  simp only [Rc.row, Bool.and_eq_true] at h
  have := allB_at c.gi c.n k h.2 hk
  simp only [Rc.gi, Bool.and_eq_true] at this
  exact ⟨⟨hX k hk, this.1⟩, this.2⟩
def Rc.nd (c : Rc) (i j : Nat) : Bool := ndI (c.O i) (c.D i) (c.A i) (c.B i) (c.C i) (c.X i) (c.O j) (c.D j) (c.A j) (c.B j) (c.C j) (c.X j)
def Rc.fl (c : Rc) (i j : Nat) : Bool := flI (c.O i) (c.D i) (c.O j) (c.A j) (c.B j) (c.C j) (c.X j)
def Rc.la (c : Rc) (i : Nat) : Int := latV (c.O i) (c.X i)
def Rc.wa (c : Rc) (i j : Nat) : Int := waI (c.O i) (c.D i) (c.X i) (c.O j) (c.A j) (c.B j) (c.C j) (c.X j)
/-- What hangs on its order. -/
def Rc.rw (c : Rc) : Rw := ⟨c.n, fun i => (c.la i).toNat, c.fl, c.nd⟩
theorem Rc.la_bd (c : Rc) (i : Nat) : 1 ≤ c.la i ∧ c.la i ≤ 8 := latV_bd _ _
theorem Rc.ok (c : Rc) : c.rw.Ok := ⟨fun i => by have := c.la_bd i; show 1 ≤ (c.la i).toNat; omega, fun i => by have := c.la_bd i; show (c.la i).toNat ≤ 8; omega, fun i j h => fl_nd h, fun i j => ndI_sym _ _ _ _ _ _ _ _ _ _ _ _⟩
theorem Rc.la_rw (c : Rc) (i : Nat) : c.la i = (c.rw.lat i : Int) := by have := c.la_bd i; show _ = ((c.la i).toNat : Int); omega
theorem Rc.wa_rw (c : Rc) (i j : Nat) : c.wa i j = (c.rw.wt i j : Int) := by
  unfold Rc.wa waI Rw.wt
  show (if c.fl i j = true then c.la i else 1) = ((if c.fl i j = true then c.rw.lat i else 1 : Nat) : Int)
  split
  · exact c.la_rw i
  · rfl
/-- Those ahead of j that it needs. -/
def Rc.nl (c : Rc) (j : Nat) : List Int := whL (fun i => c.nd i j) j
theorem Rc.nl_len (c : Rc) (j : Nat) : (c.nl j).length ≤ j := whL_len _ _
theorem allB_all (f : Nat → Bool) : ∀ n, (∀ k, k < n → f k = true) → allB f n = true
  | 0, _ => rfl
  | n + 1, h => by rw [allB, allB_all f n (fun k hk => h k (by omega)), h n (by omega)]; rfl
/-- A row of its own that lies below b. -/
def Ilo (B b : Nat) (w : World) (u : Value) (L : List Int) : Prop := IOwn B w u L ∧ ∀ g, u.ownBlock = some g → g < b
/-- Rows in the making: the first j of n are done. Their slices stand in block q, they lie from B on. -/
structure Mq (B : Nat) (w : World) (q n j : Nat) (L : Nat → List Int) : Prop where
  row : ∀ i, i < j → ∃ u, w.cell? ⟨q, i, none⟩ = some u ∧ IOwn B w u (L i)
  ap : ∀ x y u v g, x < j → y < j → w.cell? ⟨q, x, none⟩ = some u → w.cell? ⟨q, y, none⟩ = some v → u.ownBlock = some g → v.ownBlock = some g → x = y
  nil : ∀ i, j ≤ i → i < n → w.cell? ⟨q, i, none⟩ = some (.slice none 0 0)
  fr : ∀ i, w.frozen? ⟨q, i, none⟩ = false
  hq : q < w.heap.size
  hB : q < B
/-- .. and row j holds M so far, in slice u, from b0 on. -/
structure Mp (B : Nat) (w : World) (q n j b0 : Nat) (L : Nat → List Int) (u : Value) (M : List Int) : Prop where
  row : ∀ i, i < j → ∃ v, w.cell? ⟨q, i, none⟩ = some v ∧ Ilo B b0 w v (L i)
  ap : ∀ x y u v g, x < j → y < j → w.cell? ⟨q, x, none⟩ = some u → w.cell? ⟨q, y, none⟩ = some v → u.ownBlock = some g → v.ownBlock = some g → x = y
  cur : w.cell? ⟨q, j, none⟩ = some u
  ri : Ri b0 w u M
  nil : ∀ i, j < i → i < n → w.cell? ⟨q, i, none⟩ = some (.slice none 0 0)
  fr : ∀ i, w.frozen? ⟨q, i, none⟩ = false
  hq : q < w.heap.size
  hB : q < B
  hb : B ≤ b0
theorem IOwn.next' {B : Nat} {w w' : World} {v : Value} {L : List Int} (h : IOwn B w v L) (b : Below w.heap.size w w') : IOwn B w' v L := by
  rcases h with h | ⟨g, c, h1, h2, h3, h4⟩
  · exact Or.inl h
  · exact Or.inr ⟨g, c, h1, h2, h3, h4.next b⟩
theorem IOwn.blk {B : Nat} {w : World} {v : Value} {L : List Int} (h : IOwn B w v L) : ∀ g, v.ownBlock = some g → B ≤ g ∧ g < w.heap.size := by
  rcases h with ⟨_, rfl⟩ | ⟨g, c, rfl, _, h3, h4⟩
  · intro g hg; simp [Value.ownBlock] at hg
  · intro g' hg
    simp [Value.ownBlock] at hg
    subst hg
    exact ⟨h3, h4.hi⟩
theorem IOwn.grown' {B : Nat} {w w' : World} {v : Value} {L : List Int} {r : Option Nat} (h : IOwn B w v L) (k : w.grownBy w' r) (hn : ∀ g, v.ownBlock = some g → r ≠ some g) : IOwn B w' v L := by
  rcases h with h | ⟨g, c, rfl, h2, h3, h4⟩
  · exact Or.inl h
  · have z := k.block g h4.hi (fun e => hn g rfl e.symm)
    exact Or.inr ⟨g, c, rfl, h2, h3, ⟨fun i hi => (World.cell?_of_block (w := w) (a := ⟨g, i, none⟩) z).trans (h4.cell i hi), fun i => (World.frozen?_of_block (w := w) (a := ⟨g, i, none⟩) z).trans (h4.free i), Nat.lt_of_lt_of_le h4.hi k.size⟩⟩
theorem IOwn.but' {B p : Nat} {w w' : World} {v : Value} {L : List Int} (h : IOwn B w v L) (b : Only p w w') (hp : p < B) : IOwn B w' v L := by
  rcases h with h | ⟨g, c, h1, h2, h3, h4⟩
  · exact Or.inl h
  · exact Or.inr ⟨g, c, h1, h2, h3, h4.but b (by omega)⟩
theorem Mq.next {B : Nat} {w w' : World} {q n j : Nat} {L : Nat → List Int} (h : Mq B w q n j L) (k : Below w.heap.size w w') : Mq B w' q n j L := by
  have kc : ∀ i, w'.cell? ⟨q, i, none⟩ = w.cell? ⟨q, i, none⟩ := fun i => k.cell (p := ⟨q, i, none⟩) h.hq
  refine ⟨fun i hi => ?_, fun x y u v g hx hy h1 h2 => ?_, fun i h1 h2 => (kc i).trans (h.nil i h1 h2), fun i => (k.frozen (p := ⟨q, i, none⟩) h.hq).trans (h.fr i), Nat.lt_of_lt_of_le h.hq k.size, h.hB⟩
  · obtain ⟨u, h1, h2⟩ := h.row i hi
    exact ⟨u, (kc i).trans h1, h2.next' k⟩
  · rw [kc] at h1 h2
    exact h.ap x y u v g hx hy h1 h2
theorem Mp.next {B : Nat} {w w' : World} {q n j b0 : Nat} {L : Nat → List Int} {u : Value} {M : List Int} (h : Mp B w q n j b0 L u M) (k : Below w.heap.size w w') : Mp B w' q n j b0 L u M := by
  have kc : ∀ i, w'.cell? ⟨q, i, none⟩ = w.cell? ⟨q, i, none⟩ := fun i => k.cell (p := ⟨q, i, none⟩) h.hq
  refine ⟨fun i hi => ?_, fun x y u v g hx hy h1 h2 => ?_, (kc j).trans h.cur, h.ri.next k, fun i h1 h2 => (kc i).trans (h.nil i h1 h2), fun i => (k.frozen (p := ⟨q, i, none⟩) h.hq).trans (h.fr i), Nat.lt_of_lt_of_le h.hq k.size, h.hB, h.hb⟩
  · obtain ⟨v, h1, h2, h3⟩ := h.row i hi
    exact ⟨v, (kc i).trans h1, h2.next' k, h3⟩
  · rw [kc] at h1 h2
    exact h.ap x y u v g hx hy h1 h2
theorem Mq.begin {B : Nat} {w : World} {q n j : Nat} {L : Nat → List Int} (h : Mq B w q n j L) (hj : j < n) (hs : B ≤ w.heap.size) : Mp B w q n j w.heap.size L (.slice none 0 0) [] := by
  refine ⟨fun i hi => ?_, h.ap, h.nil j (Nat.le_refl _) hj, ⟨World.ownsRow_nil _ _ _ _, Nat.le_refl _⟩, fun i h1 h2 => h.nil i (by omega) h2, h.fr, h.hq, h.hB, hs⟩
  obtain ⟨u, h1, h2⟩ := h.row i hi
  exact ⟨u, h1, h2, fun g hg => (h2.blk g hg).2⟩
theorem Mp.fin {B : Nat} {w : World} {q n j b0 : Nat} {L : Nat → List Int} {u : Value} {M : List Int} (h : Mp B w q n j b0 L u M) (e : L j = M) : Mq B w q n (j + 1) L := by
  refine ⟨fun i hi => ?_, fun x y a b g hx hy h1 h2 g1 g2 => ?_, fun i h1 h2 => h.nil i (by omega) h2, h.fr, h.hq, h.hB⟩
  · by_cases q : i = j
    · subst q
      refine ⟨u, h.cur, ?_⟩
      rw [e]
      rcases h.ri.own with k | ⟨g, c, k1, k2, k3, k4⟩
      · exact Or.inl k
      · exact Or.inr ⟨g, c, k1, k2, Nat.le_trans h.hb k3, k4⟩
    · obtain ⟨v, h1, h2, _⟩ := h.row i (by omega)
      exact ⟨v, h1, h2⟩
  · by_cases q1 : x = j
    · by_cases q2 : y = j
      · omega
      · subst q1
        obtain ⟨v, h3, h4, h5⟩ := h.row y (by omega)
        rw [h.cur] at h1
        rw [h3] at h2
        injection h1 with h1
        injection h2 with h2
        subst h1 h2
        have := (h.ri.lt g g1).1
        have := h5 g g2
        omega
    · by_cases q2 : y = j
      · subst q2
        obtain ⟨v, h3, h4, h5⟩ := h.row x (by omega)
        rw [h.cur] at h2
        rw [h3] at h1
        injection h1 with h1
        injection h2 with h2
        subst h1 h2
        have := (h.ri.lt g g2).1
        have := h5 g g1
        omega
      · exact h.ap x y a b g (by omega) (by omega) h1 h2 g1 g2
theorem Mp.keep {B : Nat} {w w' : World} {q n j b0 : Nat} {L : Nat → List Int} {u : Value} {M : List Int} (h : Mp B w q n j b0 L u M) (k : w.grownBy w' u.ownBlock) (i : Nat) : w'.cell? ⟨q, i, none⟩ = w.cell? ⟨q, i, none⟩ ∧ w'.frozen? ⟨q, i, none⟩ = false := by
  have qb : q < b0 := Nat.lt_of_lt_of_le h.hB h.hb
  have z := k.block q h.hq (fun e => by have := (h.ri.lt q e.symm).1; omega)
  exact ⟨World.cell?_of_block (w := w) (a := ⟨q, i, none⟩) z, (World.frozen?_of_block (w := w) (a := ⟨q, i, none⟩) z).trans (h.fr i)⟩
/-- One number more in row j: it is appended, and its slice is stored. -/
theorem Mp.push {B : Nat} {w w' : World} {q n j b0 : Nat} {L : Nat → List Int} {u v : Value} {M M' : List Int} (h : Mp B w q n j b0 L u M) (k : w.grownBy w' u.ownBlock) (hv : Ri b0 w' v M') (hu : ∀ g, u.ownBlock = some g → b0 ≤ g) : Mp B (w'.setCell ⟨q, j, none⟩ v) q n j b0 L v M' := by
  have qb : q < b0 := Nat.lt_of_lt_of_le h.hB h.hb
  have hne : ∀ g, g < b0 → some g ≠ u.ownBlock := fun g hg e => by have := hu g e.symm; omega
  have kb : ∀ g, g < b0 → g < w.heap.size → w'.heap[g]? = w.heap[g]? := fun g hg hs => k.block g hs (hne g hg)
  have kc : ∀ i, w'.cell? ⟨q, i, none⟩ = w.cell? ⟨q, i, none⟩ := fun i => World.cell?_of_block (w := w) (a := ⟨q, i, none⟩) (kb q qb h.hq)
  have ks : ∀ i, i ≠ j → (w'.setCell ⟨q, j, none⟩ v).cell? ⟨q, i, none⟩ = w.cell? ⟨q, i, none⟩ := fun i hi => by
    rw [World.cell?_setCell_other (h := addr_ne (fun e => hi e.symm))]
    exact kc i
  have on : Only q w' (w'.setCell ⟨q, j, none⟩ v) := (Only.refl _ _).setCell _ _
  refine ⟨fun i hi => ?_, fun x y a b g hx hy h1 h2 => ?_, World.cell?_setCell_same' _ _ _ (by rw [kc, h.cur]; rfl), ?_, fun i h1 h2 => (ks i (by omega)).trans (h.nil i h1 h2), fun i => ?_, ?_, h.hB, h.hb⟩
  · obtain ⟨a, h1, h2, h3⟩ := h.row i hi
    exact ⟨a, (ks i (by omega)).trans h1, (h2.grown' k (fun g hg => fun e => hne g (h3 g hg) e.symm)).but' on h.hB, h3⟩
  · rw [ks x (by omega)] at h1
    rw [ks y (by omega)] at h2
    exact h.ap x y a b g hx hy h1 h2
  · refine ⟨hv.1.kept (row := some q) ⟨on.os, on.tape, on.output, on.size, fun i hi hn => on.block i hi (fun e => hn (by rw [e]))⟩ (Or.inr (fun e => ?_)), Nat.le_trans hv.2 on.size⟩
    have := (hv.lt q e).1
    omega
  · rw [World.frozen?_setCell]
    exact (World.frozen?_of_block (w := w) (a := ⟨q, i, none⟩) (kb q qb h.hq)).trans (h.fr i)
  · exact Nat.lt_of_lt_of_le (Nat.lt_of_lt_of_le h.hq k.size) on.size
/-- What is made reads as rows of numbers. -/
theorem Mq.arows {B : Nat} {w : World} {q n cp : Nat} {L : Nat → List Int} (h : Mq B w q n n L) : ARows w (.slice (some ⟨q, 0, none⟩) n cp) n L :=
  ⟨_, _, rfl, fun i hi => by
    obtain ⟨u, h1, h2⟩ := h.row i hi
    exact ⟨q, 0, u, rfl, by rw [Nat.zero_add]; exact h1, h2.arow⟩⟩
theorem mq_made {w : World} {q n : Nat} (O : Own w q n (fun _ => .slice none 0 0)) (L : Nat → List Int) : Mq (q + 1) w q n 0 L :=
  ⟨fun i hi => by omega, fun x y u v g hx => by omega, fun i _ hi => O.cell i hi, O.free, O.hi, by omega⟩
end Go.Proofs.YtcgapochcahknaaDoor
