/- A cache's lines in memory, while they are read and changed; no function of the program is spoken of here. -/
import Derived.Test.YtfhpjcojccfcoaaLd
import Derived.Laws.OwnMore
namespace Go.Proofs.Ytfhpjcojccfcoaa
open Go.ChangeShapes Go.WideShapes Go.ChangeAt Go.RowKit
set_option linter.unusedVariables false
def upV (U : Nat → Value) (x : Nat) (u : Value) : Nat → Value := fun y => if y = x then u else U y
def upL (L : Nat → List Int) (x : Nat) (l : List Int) : Nat → List Int := fun y => if y = x then l else L y
/-- m rows of lines, each in a block of its own, their slices in block gm; what heads them is in block hb. -/
structure Kx (B : Nat) (w : World) (hb gm m : Nat) (U : Nat → Value) (L : Nat → List Int) : Prop where
  c : ∀ x, x < m → w.cell? ⟨gm, x, none⟩ = some (U x)
  r : ∀ x, x < m → Ri B w (U x) (L x)
  ap : ∀ x y, x < m → y < m → x ≠ y → ∀ q, (U x).ownBlock = some q → (U y).ownBlock ≠ some q
  ng : ∀ x, x < m → (U x).ownBlock ≠ some gm
  nh : ∀ x, x < m → (U x).ownBlock ≠ some hb
  gh : gm ≠ hb
  f : ∀ i, w.frozen? ⟨gm, i, none⟩ = false
  hg : gm < w.heap.size
  hh : hb < w.heap.size
  bg : B ≤ gm
  bh : B ≤ hb
/-- What has changed: the head, the slices, the rows; and where the rows then are. -/
structure Fr (hb gm m : Nat) (U U' : Nat → Value) (w w' : World) : Prop where
  os : w'.os = w.os
  tape : w'.tape = w.tape
  output : w'.output = w.output
  size : w.heap.size ≤ w'.heap.size
  block : ∀ k, k < w.heap.size → k ≠ hb → k ≠ gm → (∀ x, x < m → (U x).ownBlock ≠ some k) → w'.heap[k]? = w.heap[k]?
  own : ∀ x, x < m → ∀ q, (U' x).ownBlock = some q → (U x).ownBlock = some q ∨ w.heap.size ≤ q
theorem Fr.refl (hb gm m : Nat) (U : Nat → Value) (w : World) : Fr hb gm m U U w w := ⟨rfl, rfl, rfl, Nat.le_refl _, fun _ _ _ _ _ => rfl, fun _ _ _ h => Or.inl h⟩
theorem Fr.trans {hb gm m : Nat} {U U' U'' : Nat → Value} {a b c : World} (h : Fr hb gm m U U' a b) (k : Fr hb gm m U' U'' b c) : Fr hb gm m U U'' a c := by
  refine ⟨k.os.trans h.os, k.tape.trans h.tape, k.output.trans h.output, Nat.le_trans h.size k.size, fun i hi h1 h2 h3 => ?_, fun x hx q hq => ?_⟩
  · refine (k.block i (by have := h.size; omega) h1 h2 (fun x hx e => ?_)).trans (h.block i hi h1 h2 h3)
    rcases h.own x hx i e with q | q
    · exact h3 x hx q
    · omega
  · rcases k.own x hx q hq with e | e
    · exact h.own x hx q e
    · exact Or.inr (by have := h.size; omega)
theorem Fr.ofBelow {hb gm m : Nat} {U : Nat → Value} {w w' : World} (b : Below w.heap.size w w') : Fr hb gm m U U w w' := ⟨b.os, b.tape, b.output, b.size, fun k hk _ _ _ => b.block k hk, fun _ _ _ h => Or.inl h⟩
theorem Kx.lt {B hb gm m : Nat} {w : World} {U : Nat → Value} {L : Nat → List Int} (h : Kx B w hb gm m U L) (x : Nat) (hx : x < m) : ∀ q, (U x).ownBlock = some q → B ≤ q ∧ q < w.heap.size := (h.r x hx).lt
theorem Kx.next {B hb gm m : Nat} {w w' : World} {U : Nat → Value} {L : Nat → List Int} (h : Kx B w hb gm m U L) (b : Below w.heap.size w w') : Kx B w' hb gm m U L :=
  ⟨fun x hx => cell_nx (h.c x hx) b, fun x hx => (h.r x hx).next b, h.ap, h.ng, h.nh, h.gh, fun i => (b.frozen (p := ⟨gm, i, none⟩) h.hg).trans (h.f i), by have := h.hg; have := b.size; omega, by have := h.hh; have := b.size; omega, h.bg, h.bh⟩
theorem Fr.below {B hb gm m : Nat} {U U' : Nat → Value} {L : Nat → List Int} {w w' : World} (f : Fr hb gm m U U' w w') (h : Kx B w hb gm m U L) : Below B w w' :=
  ⟨f.os, f.tape, f.output, f.size, fun k hk => f.block k (by have := h.bg; have := h.hg; omega) (by have := h.bh; omega) (by have := h.bg; omega) (fun x hx e => by have := (h.lt x hx k e).1; omega)⟩
theorem Ri.grown {B : Nat} {w w' : World} {v : Value} {L : List Int} {r : Option Nat} (h : Ri B w v L) (k : w.grownBy w' r) (hr : v.ownBlock = none ∨ v.ownBlock ≠ r) : Ri B w' v L := ⟨h.1.kept k hr, Nat.le_trans h.2 k.size⟩
/-- One row anew: its block has grown, or it lies in another one; its slice is put among the slices. -/
theorem Kx.put {B hb gm m s : Nat} {w w2 : World} {U : Nat → Value} {L : Nat → List Int} {v : Value} {M : List Int} {r : Option Nat} (h : Kx B w hb gm m U L) (hs : s < m) (g : w.grownBy w2 r) (hr : ∀ q, r = some q → (U s).ownBlock = some q ∨ ((∀ x, x < m → (U x).ownBlock ≠ some q) ∧ q ≠ gm ∧ q ≠ hb)) (R : Ri B w2 v M) (hv : ∀ q, v.ownBlock = some q → (U s).ownBlock = some q ∨ ((∀ x, x < m → (U x).ownBlock ≠ some q) ∧ q ≠ gm ∧ q ≠ hb)) : Kx B (w2.setCell ⟨gm, s, none⟩ v) hb gm m (upV U s v) (upL L s M) := by
  have rg : r ≠ some gm := fun e => by
    rcases hr gm e with q | q
    · exact h.ng s hs q
    · exact q.2.1 rfl
  have blk : w2.heap[gm]? = w.heap[gm]? := g.block gm h.hg (fun e => rg e.symm)
  have On : Only gm w2 (w2.setCell ⟨gm, s, none⟩ v) := (Only.refl _ _).setCell _ _
  have cold : ∀ x, x < m → w2.cell? ⟨gm, x, none⟩ = some (U x) := fun x hx => (World.cell?_of_block (w := w) (a := ⟨gm, x, none⟩) blk).trans (h.c x hx)
  have vg : v.ownBlock ≠ some gm := fun e => by
    rcases hv gm e with q | q
    · exact h.ng s hs q
    · exact q.2.1 rfl
  refine ⟨fun x hx => ?_, fun x hx => ?_, fun x y hx hy hne q hq => ?_, fun x hx => ?_, fun x hx => ?_, h.gh, fun i => ?_, ?_, ?_, h.bg, h.bh⟩
  · unfold upV
    by_cases e : x = s
    · subst e
      rw [if_pos rfl]
      exact World.cell?_setCell_same' _ _ _ (by rw [cold x hx]; rfl)
    · rw [if_neg e, World.cell?_setCell_other (h := addr_ne (fun q => e q.symm))]
      exact cold x hx
  · unfold upV upL
    by_cases e : x = s
    · subst e
      rw [if_pos rfl, if_pos rfl]
      exact R.grown (r := some gm) ⟨On.os, On.tape, On.output, On.size, fun k hk hne => On.block k hk (fun q => hne (by rw [q]))⟩ (Or.inr vg)
    · rw [if_neg e, if_neg e]
      refine ((h.r x hx).grown g ?_).grown (r := some gm) ⟨On.os, On.tape, On.output, On.size, fun k hk hne => On.block k hk (fun q => hne (by rw [q]))⟩ (Or.inr (h.ng x hx))
      by_cases q : (U x).ownBlock = none
      · exact Or.inl q
      · refine Or.inr (fun e2 => ?_)
        obtain ⟨q, hq⟩ := Option.ne_none_iff_exists'.1 q
        rcases hr q (by rw [← e2, hq]) with k | k
        · exact h.ap x s hx hs e q hq k
        · exact k.1 x hx hq
  · unfold upV at hq ⊢
    by_cases e1 : x = s
    · rw [if_pos e1] at hq
      rw [if_neg (by omega)]
      rcases hv q hq with k | k
      · exact h.ap s y hs hy (by omega) q k
      · exact k.1 y hy
    · rw [if_neg e1] at hq
      by_cases e2 : y = s
      · rw [if_pos e2]
        intro k
        rcases hv q k with k2 | k2
        · exact h.ap x s hx hs e1 q hq k2
        · exact k2.1 x hx hq
      · rw [if_neg e2]
        exact h.ap x y hx hy hne q hq
  · unfold upV
    by_cases e : x = s
    · rw [if_pos e]; exact vg
    · rw [if_neg e]; exact h.ng x hx
  · unfold upV
    by_cases e : x = s
    · rw [if_pos e]
      intro k
      rcases hv hb k with q | q
      · exact h.nh s hs q
      · exact q.2.2 rfl
    · rw [if_neg e]; exact h.nh x hx
  · simp [(World.frozen?_of_block (w := w) (a := ⟨gm, i, none⟩) blk).trans (h.f i)]
  · have := h.hg; have := g.size; simp; omega
  · have := h.hh; have := g.size; simp; omega
theorem Kx.fr {B hb gm m s : Nat} {w w2 : World} {U : Nat → Value} {L : Nat → List Int} {v : Value} {r : Option Nat} (h : Kx B w hb gm m U L) (hs : s < m) (g : w.grownBy w2 r) (hr : ∀ q, r = some q → (U s).ownBlock = some q ∨ w.heap.size ≤ q) (hv : ∀ q, v.ownBlock = some q → (U s).ownBlock = some q ∨ w.heap.size ≤ q) : Fr hb gm m U (upV U s v) w (w2.setCell ⟨gm, s, none⟩ v) := by
  have On : Only gm w2 (w2.setCell ⟨gm, s, none⟩ v) := (Only.refl _ _).setCell _ _
  refine ⟨On.os.trans g.os, On.tape.trans g.tape, On.output.trans g.output, Nat.le_trans g.size On.size, fun k hk h1 h2 h3 => ?_, fun x hx q hq => ?_⟩
  · refine (On.block k (by have := g.size; omega) h2).trans (g.block k hk (fun e => ?_))
    rcases hr k e.symm with q | q
    · exact h3 s hs q
    · omega
  · unfold upV at hq
    by_cases e : x = s
    · subst e
      rw [if_pos rfl] at hq
      exact hv q hq
    · rw [if_neg e] at hq
      exact Or.inl hq
/-- One more line is laid behind a row; the row may be a new one. -/
theorem Kx.laid {B hb gm m s : Nat} {w0 w w4 : World} {U : Nat → Value} {L0 L : Nat → List Int} {v v4 : Value} {M : List Int} {o : Obj} (K0 : Kx B w0 hb gm m U L0) (F0 : Fr hb gm m U U w0 w) (K : Kx B w hb gm m U L) (hs : s < m) (hvW : ∀ q, v.ownBlock = some q → (U s).ownBlock = some q ∨ w0.heap.size ≤ q) (hvl : ∀ q, v.ownBlock = some q → q < w.heap.size) (G4 : (w.alloc o).grownBy w4 v.ownBlock) (A4 : v4.ownBlock = v.ownBlock ∨ v4.ownBlock = some (w.alloc o).heap.size) (R4 : Ri B w4 v4 M) :
    w4.cell? ⟨gm, s, none⟩ = some (U s) ∧ w4.frozen? ⟨gm, s, none⟩ = false ∧ w4.heap[hb]? = w.heap[hb]? ∧ w.heap.size ≤ w4.heap.size ∧ (w4.setCell ⟨gm, s, none⟩ v4).heap[hb]? = w.heap[hb]? ∧ Kx B (w4.setCell ⟨gm, s, none⟩ v4) hb gm m (upV U s v4) (upL L s M) ∧ Fr hb gm m U (upV U s v4) w0 (w4.setCell ⟨gm, s, none⟩ v4) := by
  have K1 := K.next (alloc_b (o := o))
  have hpp : ∀ q, v.ownBlock = some q → (U s).ownBlock = some q ∨ ((∀ x, x < m → (U x).ownBlock ≠ some q) ∧ q ≠ gm ∧ q ≠ hb) := fun q hq => by
    rcases hvW q hq with e | e
    · exact Or.inl e
    · exact Or.inr ⟨fun x hx e2 => by have := (K0.lt x hx q e2).2; omega, by have := K0.hg; omega, by have := K0.hh; omega⟩
  have hsz : (w.alloc o).heap.size = w.heap.size + 1 := World.size_alloc _ _
  have aa : ∀ q, v4.ownBlock = some q → v.ownBlock = some q ∨ w.heap.size + 1 ≤ q := fun q hq => by
    rcases A4 with e | e
    · rw [e] at hq; exact Or.inl hq
    · rw [e, hsz] at hq; injection hq with hq; exact Or.inr (by omega)
  have ngm : some gm ≠ v.ownBlock := fun e => by
    rcases hpp gm e.symm with q | q
    · exact K.ng s hs q
    · exact q.2.1 rfl
  have nhb : some hb ≠ v.ownBlock := fun e => by
    rcases hpp hb e.symm with q | q
    · exact K.nh s hs q
    · exact q.2.2 rfl
  have b1 := G4.block gm K1.hg ngm
  have b2 := (G4.block hb K1.hh nhb).trans ((alloc_b (v := w) (o := o)).block hb K.hh)
  have b3 : (w4.setCell ⟨gm, s, none⟩ v4).heap[hb]? = w4.heap[hb]? := Below.heap_setCell _ _ _ _ (fun e => K.gh e.symm)
  have sz : w.heap.size ≤ w4.heap.size := by have := G4.size; omega
  refine ⟨(World.cell?_of_block (w := w.alloc o) (a := ⟨gm, s, none⟩) b1).trans (K1.c s hs), (World.frozen?_of_block (w := w.alloc o) (a := ⟨gm, s, none⟩) b1).trans (K1.f s), b2, sz, b3.trans b2, K1.put hs G4 hpp R4 (fun q hq => ?_), ⟨?_, ?_, ?_, ?_, fun k hk h1 h2 h3 => ?_, fun x hx q hq => ?_⟩⟩
  · rcases aa q hq with e | e
    · exact hpp q e
    · exact Or.inr ⟨fun x hx e2 => by have := (K.lt x hx q e2).2; omega, by have := K.hg; omega, by have := K.hh; omega⟩
  · exact G4.os.trans F0.os
  · exact G4.tape.trans F0.tape
  · exact G4.output.trans F0.output
  · have := F0.size; simp; omega
  · have hkw : k < w.heap.size := by have := F0.size; omega
    refine (Below.heap_setCell _ _ _ _ (show k ≠ gm from h2)).trans ((G4.block k (by omega) (fun e => ?_)).trans (((alloc_b (v := w) (o := o)).block k hkw).trans (F0.block k hk h1 h2 h3)))
    rcases hvW k e.symm with q | q
    · exact h3 s hs q
    · omega
  · unfold upV at hq
    by_cases e : x = s
    · subst e
      rw [if_pos rfl] at hq
      rcases aa q hq with e | e
      · exact hvW q e
      · exact Or.inr (by have := F0.size; omega)
    · rw [if_neg e] at hq
      exact Or.inl hq
/-- The head changes alone. -/
theorem Kx.head {B hb gm m : Nat} {w w' : World} {U : Nat → Value} {L : Nat → List Int} (h : Kx B w hb gm m U L) (o : Only hb w w') : Kx B w' hb gm m U L ∧ Fr hb gm m U U w w' := by
  have g : w.grownBy w' (some hb) := ⟨o.os, o.tape, o.output, o.size, fun k hk hne => o.block k hk (fun q => hne (by rw [q]))⟩
  have blk := o.block gm h.hg h.gh
  refine ⟨⟨fun x hx => (World.cell?_of_block (w := w) (a := ⟨gm, x, none⟩) blk).trans (h.c x hx), fun x hx => (h.r x hx).grown g (Or.inr (h.nh x hx)), h.ap, h.ng, h.nh, h.gh, fun i => (World.frozen?_of_block (w := w) (a := ⟨gm, i, none⟩) blk).trans (h.f i), by have := h.hg; have := o.size; omega, by have := h.hh; have := o.size; omega, h.bg, h.bh⟩, ⟨o.os, o.tape, o.output, o.size, fun k hk h1 _ _ => o.block k hk h1, fun _ _ _ e => Or.inl e⟩⟩
theorem Kx.arows {B hb gm m cp : Nat} {w : World} {U : Nat → Value} {L : Nat → List Int} (h : Kx B w hb gm m U L) : ARows w (.slice (some ⟨gm, 0, none⟩) m cp) m L := ⟨_, _, rfl, fun x hx => ⟨gm, 0, U x, rfl, by rw [Nat.zero_add]; exact h.c x hx, (h.r x hx).arow⟩⟩
theorem Kx.ax {B hb gm m cp : Nat} {w : World} {U : Nat → Value} {L : Nat → List Int} (h : Kx B w hb gm m U L) : Ax B w.heap.size w (.slice (some ⟨gm, 0, none⟩) m cp) m L := by
  have key : ∀ x, x < m → 0 < (L x).length → ∃ q c, U x = .slice (some ⟨q, 0, none⟩) (L x).length c ∧ (U x).ownBlock = some q ∧ B ≤ q ∧ q < w.heap.size ∧ Own w q (L x).length (fun i => .int .i64 ((L x).getD i 0)) := fun x hx hl => by
    obtain ⟨q, c, h1, _⟩ := World.ownsRow.form (h.r x hx).1 hl
    have h2 : (U x).ownBlock = some q := by rw [h1]; rfl
    have h3 := h.lt x hx q h2
    have hR := (h.r x hx).1
    rw [h1] at hR
    exact ⟨q, c, h1, h2, h3.1, h3.2, own_owned hR _ (fun i hi => by unfold il; rw [List.getElem?_map]; show _ = some (Value.int .i64 ((L x).getD i 0)); rw [List.getD_eq_getElem?_getD, List.getElem?_eq_getElem hi]; rfl)⟩
  refine ⟨_, cp, fun x => ((U x).ownBlock).getD 0, fun _ => 0, rfl, ⟨fun x hx => ⟨gm, rfl, h.bg, ?_, fun y i hy hi => ?_⟩, fun x i hx hi => ?_, fun x i hx hi => ?_, fun x y i j hx hy hi hj e _ => ?_, fun x i hx hi => ?_⟩, fun gc _ e => ?_, fun x i hx hi => ?_⟩
  · obtain ⟨a2, c2, hu, _⟩ := (h.r x hx).arow
    refine ⟨a2, c2, by rw [h.c x hx, hu], fun hl => ?_⟩
    obtain ⟨q, c, h1, h2, _⟩ := key x hx hl
    rw [h2]
    rw [h1] at hu
    injection hu with hu
    rw [← hu]
    rfl
  · obtain ⟨q, c, h1, h2, _⟩ := key y hy (Nat.lt_of_le_of_lt (Nat.zero_le _) hi)
    show ((U y).ownBlock).getD 0 ≠ gm
    have := h.ng y hy
    rw [h2] at this ⊢
    exact fun e => this (by rw [← e]; rfl)
  · obtain ⟨q, c, h1, h2, h3, h4, h5⟩ := key x hx (Nat.lt_of_le_of_lt (Nat.zero_le _) hi)
    show w.cell? ⟨((U x).ownBlock).getD 0, 0 + i, none⟩ = _
    rw [h2, Nat.zero_add]
    exact h5.cell i hi
  · obtain ⟨q, c, h1, h2, h3, h4, h5⟩ := key x hx (Nat.lt_of_le_of_lt (Nat.zero_le _) hi)
    show w.frozen? ⟨((U x).ownBlock).getD 0, 0 + i, none⟩ = false
    rw [h2, Nat.zero_add]
    exact h5.free i
  · obtain ⟨q, c, h1, h2, _⟩ := key x hx (Nat.lt_of_le_of_lt (Nat.zero_le _) hi)
    obtain ⟨q', c', h1', h2', _⟩ := key y hy (Nat.lt_of_le_of_lt (Nat.zero_le _) hj)
    have e' : ((U x).ownBlock).getD 0 = ((U y).ownBlock).getD 0 := e
    rw [h2, h2'] at e'
    have e2 : q = q' := e'
    subst e2
    by_cases z : x = y
    · exact z
    · exact absurd h2' (h.ap x y hx hy z q h2)
  · obtain ⟨q, c, h1, h2, h3, _⟩ := key x hx (Nat.lt_of_le_of_lt (Nat.zero_le _) hi)
    show B ≤ ((U x).ownBlock).getD 0
    rw [h2]
    exact h3
  · injection e with e
    injection e with e
    have := h.hg
    omega
  · obtain ⟨q, c, h1, h2, _, h4, _⟩ := key x hx (Nat.lt_of_le_of_lt (Nat.zero_le _) hi)
    show ((U x).ownBlock).getD 0 < _
    rw [h2]
    exact h4
/-- A row of the call's own is written over from its head on. -/
theorem ri_set {B g cap : Nat} : ∀ (ys : List Int) (j : Nat) (w : World) (M : List Int), j + ys.length ≤ M.length → Ri B w (.slice (some ⟨g, 0, none⟩) M.length cap) M → Ri B (w.setCells g j (ys.map (Value.int .i64))) (.slice (some ⟨g, 0, none⟩) M.length cap) (M.take j ++ ys ++ M.drop (j + ys.length))
  | [], j, w, M, _, h => by simpa [World.setCells] using h
  | y :: ys, j, w, M, hl, h => by
    have hj : j < M.length := by simp at hl; omega
    have h1 : Ri B (w.setCell ⟨g, j, none⟩ (.int .i64 y)) (.slice (some ⟨g, 0, none⟩) (M.set j y).length cap) (M.set j y) := by
      refine ⟨?_, by have := h.2; simpa using this⟩
      have := (h.1.stored j (.int .i64 y)).1
      rw [List.length_set]
      rw [show il (M.set j y) = (il M).set j (.int .i64 y) by unfold il; rw [List.map_set]]
      exact this
    have h2 := ri_set ys (j + 1) _ (M.set j y) (by simp at hl ⊢; omega) h1
    rw [List.length_set] at h2
    have e : (M.set j y).take (j + 1) ++ ys ++ (M.set j y).drop (j + 1 + ys.length) = M.take j ++ (y :: ys) ++ M.drop (j + (y :: ys).length) := by
      have e1 : ∀ z : Int, (M.take j ++ [z]).set j y = M.take j ++ [y] := fun z => by
        have hlen : (M.take j).length = j := by rw [List.length_take]; omega
        rw [List.set_append, if_neg (by omega), hlen, Nat.sub_self]
        rfl
      rw [List.take_set, List.drop_set_of_lt (by omega), take_snoc M j hj, e1, List.length_cons, show j + (ys.length + 1) = j + 1 + ys.length by omega]
      simp
    rw [e] at h2
    exact h2
theorem Ri.pre {B g cap n : Nat} {w : World} {M : List Int} (h : Ri B w (.slice (some ⟨g, 0, none⟩) n cap) M) (k : Nat) (hk : k ≤ M.length) (hn : n = M.length) : Ri B w (.slice (some ⟨g, 0, none⟩) k cap) (M.take k) := by
  subst hn
  have hl : (M.take k).length = k := by rw [List.length_take]; omega
  refine ⟨?_, h.2⟩
  rw [hl]
  rcases h.1.2 with ⟨e, _⟩ | ⟨g', cap', cur, e, h1, h2, h3, h4, h5, h6⟩
  · cases e
  · injection e with e1 e2 e3
    injection e1 with e1
    injection e1 with e1
    subst e1; subst e3
    refine ⟨by unfold il; simp [hk], Or.inr ⟨g, cap, cur, rfl, h1, h2, by omega, h4, h5, ?_⟩⟩
    have : cur.toList.take (k * 1) = (cur.toList.take (M.length * 1)).take (k * 1) := by rw [List.take_take]; congr 1; omega
    rw [this, h6]
    unfold il
    rw [Nat.mul_one, List.map_take]
end Go.Proofs.Ytfhpjcojccfcoaa
