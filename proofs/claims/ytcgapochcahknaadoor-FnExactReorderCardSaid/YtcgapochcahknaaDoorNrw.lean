/- Rows of needs in the making; steps in a row; what rowOf keeps. -/
import Derived.Test.YtcgapochcahknaaDoorStp
namespace Go.Proofs.YtcgapochcahknaaDoor
open Go.ChangeShapes Go.WideShapes Go.ChangeAt Go.RowKit
set_option linter.unusedVariables false
/-- A row of pairs as its cells. -/
def nl2 (L : List (Int × Int)) : List Value := L.flatMap fun p => [.int .i64 p.1, .int .i64 p.2]
theorem nl2_len (L : List (Int × Int)) : (nl2 L).length = L.length * 2 := by
  induction L with
  | nil => rfl
  | cons p L ih => rw [show nl2 (p :: L) = [.int .i64 p.1, .int .i64 p.2] ++ nl2 L from rfl, List.length_append, ih, List.length_cons]; simp; omega
theorem nl2_app (L M : List (Int × Int)) : nl2 (L ++ M) = nl2 L ++ nl2 M := by unfold nl2; rw [List.flatMap_append]
theorem nl2_at : ∀ (L : List (Int × Int)) (i : Nat), i < L.length → (nl2 L)[i * 2]? = some (.int .i64 (L.getD i (0, 0)).1) ∧ (nl2 L)[i * 2 + 1]? = some (.int .i64 (L.getD i (0, 0)).2)
  | [], i, h => absurd h (Nat.not_lt_zero _)
  | p :: L, 0, _ => ⟨rfl, rfl⟩
  | p :: L, i + 1, h => by
    have := nl2_at L i (by simpa using h)
    rw [show nl2 (p :: L) = .int .i64 p.1 :: .int .i64 p.2 :: nl2 L from rfl, show (i + 1) * 2 = i * 2 + 1 + 1 by omega]
    simpa using this
/-- A row of pairs of its own. -/
def NOwn (B : Nat) (w : World) (v : Value) (L : List (Int × Int)) : Prop := (L = [] ∧ v = .slice none 0 0) ∨ ∃ g c, v = .slice (some ⟨g, 0, none⟩) L.length c ∧ L.length ≤ c ∧ B ≤ g ∧ Own w g (L.length * 2) (fun i => (nl2 L).getD i undef)
/-- .. in the making. -/
def Rn (B : Nat) (w : World) (v : Value) (L : List (Int × Int)) : Prop := w.ownsRow B 70 2 v L.length (nl2 L) ∧ B ≤ w.heap.size
theorem Rn.next {B : Nat} {w w' : World} {v : Value} {L : List (Int × Int)} (h : Rn B w v L) (b : Below w.heap.size w w') : Rn B w' v L :=
  ⟨h.1.kept (row := none) ⟨b.os, b.tape, b.output, b.size, fun i hi _ => b.block i hi⟩ (by cases e : v.ownBlock <;> simp), Nat.le_trans h.2 b.size⟩
theorem Rn.alloc {B : Nat} {w : World} {v : Value} {L : List (Int × Int)} (h : Rn B w v L) (o : Obj) : Rn B (w.alloc o) v L := h.next ((Below.refl _ _).alloc (Nat.le_refl _) _)
theorem Rn.lt {B : Nat} {w : World} {v : Value} {L : List (Int × Int)} (h : Rn B w v L) : ∀ g, v.ownBlock = some g → B ≤ g ∧ g < w.heap.size := fun g hg => h.1.lt g hg
theorem Rn.own {B : Nat} {w : World} {v : Value} {L : List (Int × Int)} (h : Rn B w v L) : NOwn B w v L := by
  have hw := h.1
  rcases h.1.2 with ⟨h1, h2⟩ | ⟨g, c, cur, h1, h2, h3, h4, h5, h6, h7⟩
  · exact Or.inl ⟨List.eq_nil_of_length_eq_zero h2, h1⟩
  · refine Or.inr ⟨g, c, h1, h4, h2, ⟨fun i hi => ?_, fun i => by simp [World.frozen?, h3], (hw.lt g (by rw [h1]; rfl)).2⟩⟩
    subst h1
    rw [World.ownsRow.cellAt hw i hi]
    have hl : i < (nl2 L).length := by rw [nl2_len]; exact hi
    simp [List.getD, hl]
/-- A row of its own that lies below b. -/
def Nlo (B b : Nat) (w : World) (u : Value) (L : List (Int × Int)) : Prop := NOwn B w u L ∧ ∀ g, u.ownBlock = some g → g < b
/-- Rows in the making: the first j of n are done. Their slices stand in block q, they lie from B on. -/
structure Nq (B : Nat) (w : World) (q n j : Nat) (L : Nat → List (Int × Int)) : Prop where
  row : ∀ i, i < j → ∃ u, w.cell? ⟨q, i, none⟩ = some u ∧ NOwn B w u (L i)
  ap : ∀ x y u v g, x < j → y < j → w.cell? ⟨q, x, none⟩ = some u → w.cell? ⟨q, y, none⟩ = some v → u.ownBlock = some g → v.ownBlock = some g → x = y
  nil : ∀ i, j ≤ i → i < n → w.cell? ⟨q, i, none⟩ = some (.slice none 0 0)
  fr : ∀ i, w.frozen? ⟨q, i, none⟩ = false
  hq : q < w.heap.size
  hB : q < B
/-- .. and row j holds M so far, in slice u, from b0 on. -/
structure Np (B : Nat) (w : World) (q n j b0 : Nat) (L : Nat → List (Int × Int)) (u : Value) (M : List (Int × Int)) : Prop where
  row : ∀ i, i < j → ∃ v, w.cell? ⟨q, i, none⟩ = some v ∧ Nlo B b0 w v (L i)
  ap : ∀ x y u v g, x < j → y < j → w.cell? ⟨q, x, none⟩ = some u → w.cell? ⟨q, y, none⟩ = some v → u.ownBlock = some g → v.ownBlock = some g → x = y
  cur : w.cell? ⟨q, j, none⟩ = some u
  ri : Rn b0 w u M
  nil : ∀ i, j < i → i < n → w.cell? ⟨q, i, none⟩ = some (.slice none 0 0)
  fr : ∀ i, w.frozen? ⟨q, i, none⟩ = false
  hq : q < w.heap.size
  hB : q < B
  hb : B ≤ b0
theorem NOwn.next' {B : Nat} {w w' : World} {v : Value} {L : List (Int × Int)} (h : NOwn B w v L) (b : Below w.heap.size w w') : NOwn B w' v L := by
  rcases h with h | ⟨g, c, h1, h2, h3, h4⟩
  · exact Or.inl h
  · exact Or.inr ⟨g, c, h1, h2, h3, h4.next b⟩
theorem NOwn.blk {B : Nat} {w : World} {v : Value} {L : List (Int × Int)} (h : NOwn B w v L) : ∀ g, v.ownBlock = some g → B ≤ g ∧ g < w.heap.size := by
  rcases h with ⟨_, rfl⟩ | ⟨g, c, rfl, _, h3, h4⟩
  · intro g hg; simp [Value.ownBlock] at hg
  · intro g' hg
    simp [Value.ownBlock] at hg
    subst hg
    exact ⟨h3, h4.hi⟩
theorem NOwn.grown' {B : Nat} {w w' : World} {v : Value} {L : List (Int × Int)} {r : Option Nat} (h : NOwn B w v L) (k : w.grownBy w' r) (hn : ∀ g, v.ownBlock = some g → r ≠ some g) : NOwn B w' v L := by
  rcases h with h | ⟨g, c, rfl, h2, h3, h4⟩
  · exact Or.inl h
  · have z := k.block g h4.hi (fun e => hn g rfl e.symm)
    exact Or.inr ⟨g, c, rfl, h2, h3, ⟨fun i hi => (World.cell?_of_block (w := w) (a := ⟨g, i, none⟩) z).trans (h4.cell i hi), fun i => (World.frozen?_of_block (w := w) (a := ⟨g, i, none⟩) z).trans (h4.free i), Nat.lt_of_lt_of_le h4.hi k.size⟩⟩
theorem NOwn.but' {B p : Nat} {w w' : World} {v : Value} {L : List (Int × Int)} (h : NOwn B w v L) (b : Only p w w') (hp : p < B) : NOwn B w' v L := by
  rcases h with h | ⟨g, c, h1, h2, h3, h4⟩
  · exact Or.inl h
  · exact Or.inr ⟨g, c, h1, h2, h3, h4.but b (by omega)⟩
theorem Nq.next {B : Nat} {w w' : World} {q n j : Nat} {L : Nat → List (Int × Int)} (h : Nq B w q n j L) (k : Below w.heap.size w w') : Nq B w' q n j L := by
  have kc : ∀ i, w'.cell? ⟨q, i, none⟩ = w.cell? ⟨q, i, none⟩ := fun i => k.cell (p := ⟨q, i, none⟩) h.hq
  refine ⟨fun i hi => ?_, fun x y u v g hx hy h1 h2 => ?_, fun i h1 h2 => (kc i).trans (h.nil i h1 h2), fun i => (k.frozen (p := ⟨q, i, none⟩) h.hq).trans (h.fr i), Nat.lt_of_lt_of_le h.hq k.size, h.hB⟩
  · obtain ⟨u, h1, h2⟩ := h.row i hi
    exact ⟨u, (kc i).trans h1, h2.next' k⟩
  · rw [kc] at h1 h2
    exact h.ap x y u v g hx hy h1 h2
theorem Np.next {B : Nat} {w w' : World} {q n j b0 : Nat} {L : Nat → List (Int × Int)} {u : Value} {M : List (Int × Int)} (h : Np B w q n j b0 L u M) (k : Below w.heap.size w w') : Np B w' q n j b0 L u M := by
  have kc : ∀ i, w'.cell? ⟨q, i, none⟩ = w.cell? ⟨q, i, none⟩ := fun i => k.cell (p := ⟨q, i, none⟩) h.hq
  refine ⟨fun i hi => ?_, fun x y u v g hx hy h1 h2 => ?_, (kc j).trans h.cur, h.ri.next k, fun i h1 h2 => (kc i).trans (h.nil i h1 h2), fun i => (k.frozen (p := ⟨q, i, none⟩) h.hq).trans (h.fr i), Nat.lt_of_lt_of_le h.hq k.size, h.hB, h.hb⟩
  · obtain ⟨v, h1, h2, h3⟩ := h.row i hi
    exact ⟨v, (kc i).trans h1, h2.next' k, h3⟩
  · rw [kc] at h1 h2
    exact h.ap x y u v g hx hy h1 h2
theorem Nq.begin {B : Nat} {w : World} {q n j : Nat} {L : Nat → List (Int × Int)} (h : Nq B w q n j L) (hj : j < n) (hs : B ≤ w.heap.size) : Np B w q n j w.heap.size L (.slice none 0 0) [] := by
  refine ⟨fun i hi => ?_, h.ap, h.nil j (Nat.le_refl _) hj, ⟨World.ownsRow_nil _ _ _ _, Nat.le_refl _⟩, fun i h1 h2 => h.nil i (by omega) h2, h.fr, h.hq, h.hB, hs⟩
  obtain ⟨u, h1, h2⟩ := h.row i hi
  exact ⟨u, h1, h2, fun g hg => (h2.blk g hg).2⟩
theorem Np.fin {B : Nat} {w : World} {q n j b0 : Nat} {L : Nat → List (Int × Int)} {u : Value} {M : List (Int × Int)} (h : Np B w q n j b0 L u M) (e : L j = M) : Nq B w q n (j + 1) L := by
  refine ⟨fun i hi => ?_, fun x y a b g hx hy h1 h2 g1 g2 => ?_, fun i h1 h2 => h.nil i (by omega) h2, h.fr, h.hq, h.hB⟩
  · by_cases q : i = j
    · subst q
      refine ⟨u, h.cur, ?_⟩
      rw [e]
      rcases h.ri.own with k | ⟨g, c, k1, k2, k3, k4⟩
      · exact Or.inl k
      · exact Or.inr ⟨g, c, k1, k2, Nat.le_trans h.hb k3, k4⟩
    · obtain ⟨v, h1, h2, _⟩ := h.row i (by omega)
      exact ⟨v, h1, h2⟩
  · by_cases q1 : x = j
    · by_cases q2 : y = j
      · omega
      · subst q1
        obtain ⟨v, h3, h4, h5⟩ := h.row y (by omega)
        rw [h.cur] at h1
        rw [h3] at h2
        injection h1 with h1
        injection h2 with h2
        subst h1 h2
        have := (h.ri.lt g g1).1
        have := h5 g g2
        omega
    · by_cases q2 : y = j
      · subst q2
        obtain ⟨v, h3, h4, h5⟩ := h.row x (by omega)
        rw [h.cur] at h2
        rw [h3] at h1
        injection h1 with h1
        injection h2 with h2
        subst h1 h2
        have := (h.ri.lt g g2).1
        have := h5 g g1
        omega
      · exact h.ap x y a b g (by omega) (by omega) h1 h2 g1 g2
theorem Np.keep {B : Nat} {w w' : World} {q n j b0 : Nat} {L : Nat → List (Int × Int)} {u : Value} {M : List (Int × Int)} (h : Np B w q n j b0 L u M) (k : w.grownBy w' u.ownBlock) (i : Nat) : w'.cell? ⟨q, i, none⟩ = w.cell? ⟨q, i, none⟩ ∧ w'.frozen? ⟨q, i, none⟩ = false := by
  have qb : q < b0 := Nat.lt_of_lt_of_le h.hB h.hb
  have z := k.block q h.hq (fun e => by have := (h.ri.lt q e.symm).1; omega)
  exact ⟨World.cell?_of_block (w := w) (a := ⟨q, i, none⟩) z, (World.frozen?_of_block (w := w) (a := ⟨q, i, none⟩) z).trans (h.fr i)⟩
/-- One number more in row j: it is appended, and its slice is stored. -/
theorem Np.push {B : Nat} {w w' : World} {q n j b0 : Nat} {L : Nat → List (Int × Int)} {u v : Value} {M M' : List (Int × Int)} (h : Np B w q n j b0 L u M) (k : w.grownBy w' u.ownBlock) (hv : Rn b0 w' v M') (hu : ∀ g, u.ownBlock = some g → b0 ≤ g) : Np B (w'.setCell ⟨q, j, none⟩ v) q n j b0 L v M' := by
  have qb : q < b0 := Nat.lt_of_lt_of_le h.hB h.hb
  have hne : ∀ g, g < b0 → some g ≠ u.ownBlock := fun g hg e => by have := hu g e.symm; omega
  have kb : ∀ g, g < b0 → g < w.heap.size → w'.heap[g]? = w.heap[g]? := fun g hg hs => k.block g hs (hne g hg)
  have kc : ∀ i, w'.cell? ⟨q, i, none⟩ = w.cell? ⟨q, i, none⟩ := fun i => World.cell?_of_block (w := w) (a := ⟨q, i, none⟩) (kb q qb h.hq)
  have ks : ∀ i, i ≠ j → (w'.setCell ⟨q, j, none⟩ v).cell? ⟨q, i, none⟩ = w.cell? ⟨q, i, none⟩ := fun i hi => by
    rw [World.cell?_setCell_other (h := addr_ne (fun e => hi e.symm))]
    exact kc i
  have on : Only q w' (w'.setCell ⟨q, j, none⟩ v) := (Only.refl _ _).setCell _ _
  refine ⟨fun i hi => ?_, fun x y a b g hx hy h1 h2 => ?_, World.cell?_setCell_same' _ _ _ (by rw [kc, h.cur]; rfl), ?_, fun i h1 h2 => (ks i (by omega)).trans (h.nil i h1 h2), fun i => ?_, ?_, h.hB, h.hb⟩
  · obtain ⟨a, h1, h2, h3⟩ := h.row i hi
    exact ⟨a, (ks i (by omega)).trans h1, (h2.grown' k (fun g hg => fun e => hne g (h3 g hg) e.symm)).but' on h.hB, h3⟩
  · rw [ks x (by omega)] at h1
    rw [ks y (by omega)] at h2
    exact h.ap x y a b g hx hy h1 h2
  · refine ⟨hv.1.kept (row := some q) ⟨on.os, on.tape, on.output, on.size, fun i hi hn => on.block i hi (fun e => hn (by rw [e]))⟩ (Or.inr (fun e => ?_)), Nat.le_trans hv.2 on.size⟩
    have := (hv.lt q e).1
    omega
  · rw [World.frozen?_setCell]
    exact (World.frozen?_of_block (w := w) (a := ⟨q, i, none⟩) (kb q qb h.hq)).trans (h.fr i)
  · exact Nat.lt_of_lt_of_le (Nat.lt_of_lt_of_le h.hq k.size) on.size

theorem nq_made {w : World} {q n : Nat} (O : Own w q n (fun _ => .slice none 0 0)) (L : Nat → List (Int × Int)) : Nq (q + 1) w q n 0 L :=
  ⟨fun i hi => by omega, fun x y u v g hx => by omega, fun i _ hi => O.cell i hi, O.free, O.hi, by omega⟩
theorem Nq.raise {B B' : Nat} {w : World} {q n : Nat} {L : Nat → List (Int × Int)} (h : Nq B w q n 0 L) (hb : B ≤ B') : Nq B' w q n 0 L :=
  ⟨fun i hi => absurd hi (Nat.not_lt_zero _), fun x y u v g hx => absurd hx (Nat.not_lt_zero _), h.nil, h.fr, h.hq, Nat.lt_of_lt_of_le h.hB hb⟩
/-- A row of pairs as it is read. -/
def PRow (w : World) (v : Value) (L : List (Int × Int)) : Prop := ∃ ad c, v = .slice ad L.length c ∧ ∀ i, i < L.length → ∃ g o, ad = some ⟨g, o, none⟩ ∧ w.cell? ⟨g, o + i * 2, none⟩ = some (.int .i64 (L.getD i (0, 0)).1) ∧ w.cell? ⟨g, o + i * 2 + 1, none⟩ = some (.int .i64 (L.getD i (0, 0)).2)
theorem PRow.next {w w' : World} {v : Value} {L : List (Int × Int)} (h : PRow w v L) (b : Below w.heap.size w w') : PRow w' v L := by
  obtain ⟨ad, c, h1, h2⟩ := h
  refine ⟨ad, c, h1, fun i hi => ?_⟩
  obtain ⟨g, o, h3, h4, h5⟩ := h2 i hi
  exact ⟨g, o, h3, cell_nx h4 b, cell_nx h5 b⟩
theorem NOwn.prow {B : Nat} {w : World} {v : Value} {L : List (Int × Int)} (h : NOwn B w v L) : PRow w v L := by
  rcases h with ⟨rfl, rfl⟩ | ⟨g, c, rfl, _, _, k⟩
  · exact ⟨none, 0, rfl, fun i hi => absurd hi (Nat.not_lt_zero _)⟩
  · refine ⟨_, c, rfl, fun i hi => ⟨g, 0, rfl, ?_, ?_⟩⟩
    · rw [Nat.zero_add, k.cell (i * 2) (by omega)]
      simp [List.getD, (nl2_at L i hi).1]
    · rw [Nat.zero_add, k.cell (i * 2 + 1) (by omega)]
      simp [List.getD, (nl2_at L i hi).2]
/-- The needs of j, with how long it waits: of those below k. -/
def Rc.npk (c : Rc) (j : Nat) : Nat → List (Int × Int)
  | 0 => []
  | k + 1 => c.npk j k ++ (if c.nd k j then [((k : Int), c.wa k j)] else [])
def Rc.np (c : Rc) (j : Nat) : List (Int × Int) := c.npk j j
theorem Rc.npk_len (c : Rc) (j : Nat) : ∀ k, (c.npk j k).length ≤ k
  | 0 => Nat.le_refl _
  | k + 1 => by
    have := c.npk_len j k
    rw [Rc.npk, List.length_append]
    split <;> simp <;> omega
theorem Rc.npk_map (c : Rc) (j : Nat) : ∀ k, (c.npk j k).map Prod.fst = whL (fun i => c.nd i j) k
  | 0 => rfl
  | k + 1 => by
    rw [Rc.npk, List.map_append, c.npk_map j k, whL]
    congr 1
    cases c.nd k j <;> rfl
theorem wz_nd (c : Rc) (k j : Nat) : wzI (c.O k) (c.D k) (c.A k) (c.B k) (c.C k) (c.X k) (c.O j) (c.D j) (c.A j) (c.B j) (c.C j) (c.X j) = if c.nd k j then c.wa k j else 0 := by
  have hf : c.fl k j = true → c.nd k j = true := fun h => fl_nd h
  unfold wzI Rc.wa waI
  show (if c.fl k j = true then _ else if c.nd k j = true then _ else _) = if c.nd k j = true then (if c.fl k j = true then _ else _) else _
  cases h1 : c.fl k j
  · cases h2 : c.nd k j <;> rfl
  · rw [hf h1]; rfl
theorem Rc.wa_pos (c : Rc) (k j : Nat) : 1 ≤ c.wa k j ∧ c.wa k j ≤ 8 := by
  unfold Rc.wa waI
  split
  · exact latV_bd _ _
  · decide
/-- The latencies of the first k. -/
def Rc.ll (c : Rc) : Nat → List Int
  | 0 => []
  | k + 1 => c.ll k ++ [c.la k]
theorem Rc.ll_len (c : Rc) : ∀ k, (c.ll k).length = k
  | 0 => rfl
  | k + 1 => by rw [Rc.ll, List.length_append, c.ll_len k]; rfl
theorem Rc.ll_at (c : Rc) : ∀ k i, i < k → (c.ll k).getD i 0 = c.la i
  | k + 1, i, h => by
    rw [Rc.ll]
    by_cases e : i = k
    · subst e
      simp [List.getD, c.ll_len i]
    · have := c.ll_at k i (by omega)
      rw [← this]
      simp [List.getD, List.getElem?_append_left (show i < (c.ll k).length by rw [c.ll_len]; omega)]
/-- Steps as their cells. -/
def Rc.s9 (c : Rc) (P Q : Nat → Value) (i : Nat) : List Value := [.int .i64 (c.O i), .int .i64 (c.D i), .int .i64 (c.A i), .int .i64 (c.B i), .int .i64 (c.C i), .int .u32 (c.X i), P i, Q i, .int .i64 (c.la i)]
def Rc.sL (c : Rc) (P Q : Nat → Value) : Nat → List Value
  | 0 => []
  | k + 1 => c.sL P Q k ++ c.s9 P Q k
theorem Rc.sL_len (c : Rc) (P Q : Nat → Value) : ∀ k, (c.sL P Q k).length = k * 9
  | 0 => rfl
  | k + 1 => by rw [Rc.sL, List.length_append, c.sL_len P Q k]; show _ + 9 = _; omega
theorem Rc.sL_at (c : Rc) (P Q : Nat → Value) : ∀ k i f, i < k → f < 9 → (c.sL P Q k)[i * 9 + f]? = (c.s9 P Q i)[f]?
  | k + 1, i, f, h, hf => by
    rw [Rc.sL]
    by_cases e : i = k
    · subst e
      rw [List.getElem?_append_right (by rw [c.sL_len]; omega), c.sL_len]
      congr 1
      omega
    · rw [List.getElem?_append_left (by rw [c.sL_len]; omega)]
      exact c.sL_at P Q k i f (by omega) hf
theorem Rc.sL_ext (c : Rc) {P Q P' Q' : Nat → Value} : ∀ k, (∀ i, i < k → P i = P' i ∧ Q i = Q' i) → c.sL P Q k = c.sL P' Q' k
  | 0, _ => rfl
  | k + 1, h => by
    rw [Rc.sL, Rc.sL, c.sL_ext k (fun i hi => h i (by omega))]
    unfold Rc.s9
    rw [(h k (by omega)).1, (h k (by omega)).2]
/-- Blocks that stay as they are. -/
def FxB (w : World) (nb k j : Nat) (P Q : Nat → Value) (g : Nat) : Prop := (∃ i, i < k ∧ ((P i).ownBlock = some g ∨ (Q i).ownBlock = some g)) ∨ ∃ i v, i < j ∧ w.cell? ⟨nb, i, none⟩ = some v ∧ v.ownBlock = some g
/-- What stays: the rows that steps read and write, the needs that are done, where they stand. -/
structure Fx (c : Rc) (w : World) (rb nb B k j : Nat) (P Q : Nat → Value) : Prop where
  c1 : w.cell? ⟨rb, 1, none⟩ = some (.slice (some ⟨nb, 0, none⟩) c.n c.n)
  fr : ∀ i, w.frozen? ⟨rb, i, none⟩ = false
  rd : ∀ i, i < k → IOwn B w (P i) (srt (opsL (c.O i) (c.A i) (c.B i) (c.C i) (c.X i)))
  wr : ∀ i, i < k → IOwn B w (Q i) (wrL (c.O i) (c.D i))
  nq : Nq B w nb c.n j c.np
  hr : rb < B
  ne : rb ≠ nb
  hs : B ≤ w.heap.size
theorem Fx.next {c : Rc} {w w' : World} {rb nb B k j : Nat} {P Q : Nat → Value} (h : Fx c w rb nb B k j P Q) (b : Below w.heap.size w w') : Fx c w' rb nb B k j P Q :=
  ⟨cell_nx h.c1 b, fun i => (b.frozen (p := ⟨rb, i, none⟩) (Nat.lt_of_lt_of_le h.hr h.hs)).trans (h.fr i), fun i hi => (h.rd i hi).next' b, fun i hi => (h.wr i hi).next' b, h.nq.next b, h.hr, h.ne, Nat.le_trans h.hs b.size⟩
theorem FxB.next {w w' : World} {nb k j g : Nat} {P Q : Nat → Value} (b : Below w.heap.size w w') (hq : nb < w.heap.size) (h : FxB w' nb k j P Q g) : FxB w nb k j P Q g := by
  rcases h with h | ⟨i, v, h1, h2, h3⟩
  · exact Or.inl h
  · exact Or.inr ⟨i, v, h1, by rw [b.cell (p := ⟨nb, i, none⟩) hq] at h2; exact h2, h3⟩
theorem Fx.lt {c : Rc} {w : World} {rb nb B k j g : Nat} {P Q : Nat → Value} (h : Fx c w rb nb B k j P Q) (hg : FxB w nb k j P Q g) : B ≤ g ∧ g < w.heap.size := by
  rcases hg with ⟨i, hi, h1 | h1⟩ | ⟨i, v, h1, h2, h3⟩
  · exact (h.rd i hi).blk g h1
  · exact (h.wr i hi).blk g h1
  · obtain ⟨u, h4, h5⟩ := h.nq.row i h1
    rw [h4] at h2
    injection h2 with h2
    subst h2
    exact h5.blk g h3
/-- A row grows that is none of these. -/
theorem Fx.grown {c : Rc} {w w' : World} {rb nb B k j : Nat} {P Q : Nat → Value} {r : Option Nat} (h : Fx c w rb nb B k j P Q) (gr : w.grownBy w' r) (hB : ∀ g, r = some g → B ≤ g) (hn : ∀ g, r = some g → ¬ FxB w nb k j P Q g) : Fx c w' rb nb B k j P Q ∧ ∀ g, FxB w' nb k j P Q g → FxB w nb k j P Q g := by
  have z : ∀ b, b < B → w'.heap[b]? = w.heap[b]? := fun b hb => gr.block b (Nat.lt_of_lt_of_le hb h.hs) (fun e => by have := hB b e.symm; omega)
  have kc : ∀ i, w'.cell? ⟨nb, i, none⟩ = w.cell? ⟨nb, i, none⟩ := fun i => World.cell?_of_block (w := w) (a := ⟨nb, i, none⟩) (z nb h.nq.hB)
  refine ⟨⟨(World.cell?_of_block (w := w) (a := ⟨rb, 1, none⟩) (z rb h.hr)).trans h.c1, fun i => (World.frozen?_of_block (w := w) (a := ⟨rb, i, none⟩) (z rb h.hr)).trans (h.fr i), fun i hi => (h.rd i hi).grown' gr (fun g hg e => hn g e (Or.inl ⟨i, hi, Or.inl hg⟩)), fun i hi => (h.wr i hi).grown' gr (fun g hg e => hn g e (Or.inl ⟨i, hi, Or.inr hg⟩)), ?_, h.hr, h.ne, Nat.le_trans h.hs gr.size⟩, fun g hg => ?_⟩
  · refine ⟨fun i hi => ?_, fun x y u v g hx hy h1 h2 => ?_, fun i h1 h2 => (kc i).trans (h.nq.nil i h1 h2), fun i => (World.frozen?_of_block (w := w) (a := ⟨nb, i, none⟩) (z nb h.nq.hB)).trans (h.nq.fr i), Nat.lt_of_lt_of_le h.nq.hq gr.size, h.nq.hB⟩
    · obtain ⟨u, h1, h2⟩ := h.nq.row i hi
      exact ⟨u, (kc i).trans h1, h2.grown' gr (fun g hg e => hn g e (Or.inr ⟨i, u, hi, h1, hg⟩))⟩
    · rw [kc] at h1 h2
      exact h.nq.ap x y u v g hx hy h1 h2
  · rcases hg with h1 | ⟨i, v, h1, h2, h3⟩
    · exact Or.inl h1
    · exact Or.inr ⟨i, v, h1, by rw [kc] at h2; exact h2, h3⟩
theorem Fx.set0 {c : Rc} {w : World} {rb nb B k j : Nat} {P Q : Nat → Value} (h : Fx c w rb nb B k j P Q) (v : Value) : Fx c (w.setCell ⟨rb, 0, none⟩ v) rb nb B k j P Q ∧ ∀ g, FxB (w.setCell ⟨rb, 0, none⟩ v) nb k j P Q g → FxB w nb k j P Q g := by
  have on : Only rb w (w.setCell ⟨rb, 0, none⟩ v) := (Only.refl _ _).setCell _ _
  have kc : ∀ i, (w.setCell ⟨rb, 0, none⟩ v).cell? ⟨nb, i, none⟩ = w.cell? ⟨nb, i, none⟩ := fun i => by rw [World.cell?_setCell_other (h := addr_ne' h.ne)]
  refine ⟨⟨by rw [World.cell?_setCell_other (h := addr_ne (by omega))]; exact h.c1, fun i => by rw [World.frozen?_setCell]; exact h.fr i, fun i hi => (h.rd i hi).but' on h.hr, fun i hi => (h.wr i hi).but' on h.hr, ?_, h.hr, h.ne, Nat.le_trans h.hs on.size⟩, fun g hg => ?_⟩
  · refine ⟨fun i hi => ?_, fun x y u v g hx hy h1 h2 => ?_, fun i h1 h2 => (kc i).trans (h.nq.nil i h1 h2), fun i => by rw [World.frozen?_setCell]; exact h.nq.fr i, Nat.lt_of_lt_of_le h.nq.hq on.size, h.nq.hB⟩
    · obtain ⟨u, h1, h2⟩ := h.nq.row i hi
      exact ⟨u, (kc i).trans h1, h2.but' on h.hr⟩
    · rw [kc] at h1 h2
      exact h.nq.ap x y u v g hx hy h1 h2
  · rcases hg with h1 | ⟨i, v, h1, h2, h3⟩
    · exact Or.inl h1
    · exact Or.inr ⟨i, v, h1, by rw [kc] at h2; exact h2, h3⟩
/-- One step more. -/
theorem Fx.more {c : Rc} {w : World} {rb nb B k j : Nat} {P Q : Nat → Value} (h : Fx c w rb nb B k j P Q) {r v : Value} (hr : IOwn B w r (srt (opsL (c.O k) (c.A k) (c.B k) (c.C k) (c.X k)))) (hv : IOwn B w v (wrL (c.O k) (c.D k))) : Fx c w rb nb B (k + 1) j (upN P k r) (upN Q k v) ∧ ∀ g, FxB w nb (k + 1) j (upN P k r) (upN Q k v) g → FxB w nb k j P Q g ∨ r.ownBlock = some g ∨ v.ownBlock = some g := by
  refine ⟨⟨h.c1, h.fr, fun i hi => ?_, fun i hi => ?_, h.nq, h.hr, h.ne, h.hs⟩, fun g hg => ?_⟩
  · by_cases e : i = k
    · subst e; rw [upN_at]; exact hr
    · rw [upN_ne _ _ e]; exact h.rd i (by omega)
  · by_cases e : i = k
    · subst e; rw [upN_at]; exact hv
    · rw [upN_ne _ _ e]; exact h.wr i (by omega)
  · rcases hg with ⟨i, hi, h1⟩ | h1
    · by_cases e : i = k
      · subst e
        rw [upN_at, upN_at] at h1
        exact Or.inr h1
      · rw [upN_ne _ _ e, upN_ne _ _ e] at h1
        exact Or.inl (Or.inl ⟨i, by omega, h1⟩)
    · exact Or.inl (Or.inr h1)
/-- What rowOf keeps at the head of a round. -/
structure Ro (c : Rc) (w : World) (rb nb B k : Nat) (P Q : Nat → Value) (us ul : Value) : Prop where
  fx : Fx c w rb nb B k k P Q
  st : w.ownsRow B 101 9 us k (c.sL P Q k)
  la : Ri B w ul (c.ll k)
  c0 : w.cell? ⟨rb, 0, none⟩ = some ul
  su : ∀ g, us.ownBlock = some g → ¬ FxB w nb k k P Q g
  sl : ∀ g, ul.ownBlock = some g → ¬ FxB w nb k k P Q g
theorem Ro.next {c : Rc} {w w' : World} {rb nb B k : Nat} {P Q : Nat → Value} {us ul : Value} (h : Ro c w rb nb B k P Q us ul) (b : Below w.heap.size w w') : Ro c w' rb nb B k P Q us ul :=
  ⟨h.fx.next b, h.st.kept (row := none) ⟨b.os, b.tape, b.output, b.size, fun i hi _ => b.block i hi⟩ (by cases e : us.ownBlock <;> simp), h.la.next b, cell_nx h.c0 b, fun g hg q => h.su g hg (q.next b h.fx.nq.hq), fun g hg q => h.sl g hg (q.next b h.fx.nq.hq)⟩
theorem rows_apart {w : World} {B B' e e' s s' n n' : Nat} {u v : Value} {xs ys : List Value} (h : w.ownsRow B e s u n xs) (k : w.ownsRow B' e' s' v n' ys) (ne : e ≠ e') : ∀ g, u.ownBlock = some g → v.ownBlock ≠ some g := fun g hg hv => by
  rcases h.2 with ⟨h1, _⟩ | ⟨g1, c, cur, h1, h2, h3, _⟩
  · rw [h1] at hg; simp [Value.ownBlock] at hg
  · rcases k.2 with ⟨k1, _⟩ | ⟨g2, c2, cur2, k1, k2, k3, _⟩
    · rw [k1] at hv; simp [Value.ownBlock] at hv
    · rw [h1] at hg
      rw [k1] at hv
      simp [Value.ownBlock] at hg hv
      subst hg
      subst hv
      rw [h3] at k3
      injection k3 with k3
      injection k3 with _ k4
      exact ne k4
/-- While the needs of one are made: all blocks below b0 but nb stay. -/
structure Bn (b0 nb : Nat) (w w' : World) : Prop where
  os : w'.os = w.os
  tape : w'.tape = w.tape
  output : w'.output = w.output
  size : w.heap.size ≤ w'.heap.size
  block : ∀ i, i < b0 → i ≠ nb → w'.heap[i]? = w.heap[i]?
theorem Bn.refl (b0 nb : Nat) (w : World) : Bn b0 nb w w := ⟨rfl, rfl, rfl, Nat.le_refl _, fun _ _ _ => rfl⟩
theorem Bn.below {b0 nb : Nat} {w u v : World} (h : Bn b0 nb w u) (k : Below u.heap.size u v) (hs : b0 ≤ u.heap.size) : Bn b0 nb w v := ⟨k.os.trans h.os, k.tape.trans h.tape, k.output.trans h.output, Nat.le_trans h.size k.size, fun i hi hn => (k.block i (by omega)).trans (h.block i hi hn)⟩
theorem Bn.grown {b0 nb : Nat} {w u v : World} {r : Option Nat} (h : Bn b0 nb w u) (k : u.grownBy v r) (hs : b0 ≤ u.heap.size) (hr : ∀ g, r = some g → b0 ≤ g) : Bn b0 nb w v := ⟨k.os.trans h.os, k.tape.trans h.tape, k.output.trans h.output, Nat.le_trans h.size k.size, fun i hi hn => (k.block i (by omega) (fun e => by have := hr i e.symm; omega)).trans (h.block i hi hn)⟩
theorem Bn.set {b0 nb : Nat} {w u : World} (h : Bn b0 nb w u) (j : Nat) (v : Value) : Bn b0 nb w (u.setCell ⟨nb, j, none⟩ v) := by
  have on : Only nb u (u.setCell ⟨nb, j, none⟩ v) := (Only.refl _ _).setCell _ _
  have hsz : (u.setCell ⟨nb, j, none⟩ v).heap.size = u.heap.size := by simp
  refine ⟨on.os.trans h.os, on.tape.trans h.tape, on.output.trans h.output, Nat.le_trans h.size on.size, fun i hi hn => ?_⟩
  by_cases e : i < u.heap.size
  · exact (on.block i e hn).trans (h.block i hi hn)
  · rw [Array.getElem?_eq_none (by omega), ← h.block i hi hn, Array.getElem?_eq_none (by omega)]
theorem Bn.cell {b0 nb : Nat} {w u : World} (h : Bn b0 nb w u) {g i : Nat} {v : Value} (hc : w.cell? ⟨g, i, none⟩ = some v) (hg : g < b0) (hn : g ≠ nb) : u.cell? ⟨g, i, none⟩ = some v := (World.cell?_of_block (w := w) (a := ⟨g, i, none⟩) (h.block g hg hn)).trans hc
theorem Bn.fro {b0 nb : Nat} {w u : World} (h : Bn b0 nb w u) {g i : Nat} (hc : w.frozen? ⟨g, i, none⟩ = false) (hg : g < b0) (hn : g ≠ nb) : u.frozen? ⟨g, i, none⟩ = false := (World.frozen?_of_block (w := w) (a := ⟨g, i, none⟩) (h.block g hg hn)).trans hc
theorem Bn.iown {b0 nb B : Nat} {w u : World} (h : Bn b0 nb w u) {v : Value} {L : List Int} (k : IOwn B w v L) (hB : nb < B) (hs : w.heap.size ≤ b0) : IOwn B u v L := by
  rcases k with k | ⟨g, c, rfl, h2, h3, h4⟩
  · exact Or.inl k
  · have hg := h4.hi
    exact Or.inr ⟨g, c, rfl, h2, h3, ⟨fun i hi => h.cell (h4.cell i hi) (by omega) (by omega), fun i => h.fro (h4.free i) (by omega) (by omega), Nat.lt_of_lt_of_le hg h.size⟩⟩
theorem Bn.rows {b0 nb B e s n : Nat} {w u : World} (h : Bn b0 nb w u) {v : Value} {xs : List Value} (k : w.ownsRow B e s v n xs) (hB : nb < B) (hs : w.heap.size ≤ b0) : u.ownsRow B e s v n xs := by
  refine ⟨k.1, ?_⟩
  rcases k.2 with k2 | ⟨g, c, cur, h1, h2, h3, h4⟩
  · exact Or.inl k2
  · have hg := (k.lt g (by rw [h1]; rfl)).2
    exact Or.inr ⟨g, c, cur, h1, h2, by rw [h.block g (by omega) (by omega)]; exact h3, h4⟩
/-- The round is over: its needs are made. -/
theorem Ro.round {c : Rc} {w u : World} {rb nb B k b0 : Nat} {P Q : Nat → Value} {us ul x : Value} (fx : Fx c w rb nb B (k + 1) k P Q) (st : w.ownsRow B 101 9 us (k + 1) (c.sL P Q (k + 1))) (la : Ri B w ul (c.ll (k + 1))) (c0 : w.cell? ⟨rb, 0, none⟩ = some ul) (su : ∀ g, us.ownBlock = some g → ¬ FxB w nb (k + 1) k P Q g) (sl : ∀ g, ul.ownBlock = some g → ¬ FxB w nb (k + 1) k P Q g) (hb : w.heap.size = b0) (h : Bn b0 nb w u) (old : ∀ i, i < k → u.cell? ⟨nb, i, none⟩ = w.cell? ⟨nb, i, none⟩) (np : Np B u nb c.n k b0 c.np x (c.np k)) : Ro c u rb nb B (k + 1) P Q us ul := by
  have hnB := fx.nq.hB
  have hrs : rb < b0 := by have := fx.hs; have := fx.hr; omega
  have key : ∀ g, FxB u nb (k + 1) (k + 1) P Q g → FxB w nb (k + 1) k P Q g ∨ b0 ≤ g := fun g hg => by
    rcases hg with h1 | ⟨i, v, h1, h2, h3⟩
    · exact Or.inl (Or.inl h1)
    · by_cases e : i = k
      · subst e
        rw [np.cur] at h2
        injection h2 with h2
        subst h2
        exact Or.inr (np.ri.lt g h3).1
      · exact Or.inl (Or.inr ⟨i, v, by omega, by rw [← old i (by omega)]; exact h2, h3⟩)
  refine ⟨⟨h.cell fx.c1 hrs fx.ne, fun i => h.fro (fx.fr i) hrs fx.ne, fun i hi => h.iown (fx.rd i hi) hnB (by omega), fun i hi => h.iown (fx.wr i hi) hnB (by omega), np.fin rfl, fx.hr, fx.ne, by have := fx.hs; have := h.size; omega⟩, h.rows st hnB (by omega), ⟨h.rows la.1 hnB (by omega), by have := la.2; have := h.size; omega⟩, h.cell c0 hrs fx.ne, fun g hg q => ?_, fun g hg q => ?_⟩
  · rcases key g q with h1 | h1
    · exact su g hg h1
    · have := (st.lt g hg).2; omega
  · rcases key g q with h1 | h1
    · exact sl g hg h1
    · have := (la.lt g hg).2; omega
end Go.Proofs.YtcgapochcahknaaDoor
