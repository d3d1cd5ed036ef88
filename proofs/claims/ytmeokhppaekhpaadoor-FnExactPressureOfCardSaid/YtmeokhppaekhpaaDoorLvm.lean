/- Which registers live where: told without a program; two grids of bools in memory. -/
import Derived.Test.YtmeokhppaekhpaaDoorCdm
namespace Go.Proofs.YtmeokhppaekhpaaDoor
open Go.ChangeShapes Go.WideShapes Go.ChangeAt Go.RowKit
set_option linter.unusedVariables false
/-- Whether an instruction writes a register. -/
def Cd.wr (c : Cd) (k r : Nat) : Prop := nmd (c.O k) 0 = true ∧ (c.D k).toNat = r
/-- A register lives ahead of an instruction: it reads it, or it does not write it and it lives ahead of one that may come next. -/
inductive LA (c : Cd) : Nat → Nat → Prop
  | read (k r : Nat) (hk : k < c.n) (h : (r : Int) ∈ opsL (c.O k) (c.A k) (c.B k) (c.C k) (c.X k)) : LA c k r
  | pass (k t r : Nat) (hk : k < c.n) (hs : (t : Int) ∈ sucL (c.O k) (c.A k) (c.B k) (c.C k) k) (hw : ¬ c.wr k r) (h : LA c t r) : LA c k r
/-- .. behind one. -/
def LB (c : Cd) (k r : Nat) : Prop := ∃ t : Nat, (t : Int) ∈ sucL (c.O k) (c.A k) (c.B k) (c.C k) k ∧ LA c t r
theorem LA.lt {c : Cd} {k r : Nat} (h : LA c k r) : k < c.n := by cases h <;> assumption
/-- What is known while it is looked for: no more than what is so. -/
structure LvI (c : Cd) (Ah Bh : Nat → Nat → Bool) : Prop where
  ahead : ∀ k r, Ah k r = true → LA c k r
  behind : ∀ k r, Bh k r = true → LB c k r
/-- What holds of an instruction once nothing is left to do there. -/
def LvC (c : Cd) (R : Nat) (Ah Bh : Nat → Nat → Bool) (k : Nat) : Prop :=
  (∀ t : Nat, (t : Int) ∈ sucL (c.O k) (c.A k) (c.B k) (c.C k) k → t < c.n → ∀ r, r < R → Ah t r = true → Bh k r = true) ∧
  (∀ r, r < R → Bh k r = true → ¬ c.wr k r → Ah k r = true) ∧
  ∀ r : Nat, (r : Int) ∈ opsL (c.O k) (c.A k) (c.B k) (c.C k) (c.X k) → Ah k r = true
theorem lv_ahead {c : Cd} {R : Nat} {Ah Bh : Nat → Nat → Bool} (hc : ∀ k, k < c.n → LvC c R Ah Bh k) {k r : Nat} (hr : r < R) (h : LA c k r) : Ah k r = true := by
  induction h with
  | read k r hk h => exact (hc k hk).2.2 r h
  | pass k t r hk hs hw h ih => exact (hc k hk).2.1 r hr ((hc k hk).1 t hs h.lt r hr (ih hr)) hw
theorem lv_behind {c : Cd} {R : Nat} {Ah Bh : Nat → Nat → Bool} (hc : ∀ k, k < c.n → LvC c R Ah Bh k) {k r : Nat} (hk : k < c.n) (hr : r < R) (h : LB c k r) : Bh k r = true := by
  obtain ⟨t, hs, h⟩ := h
  exact (hc k hk).1 t hs h.lt r hr (lv_ahead hc hr h)
/-- Whether a register lives ahead of, behind an instruction. -/
noncomputable def laB (c : Cd) (k r : Nat) : Bool := @decide (LA c k r) (Classical.propDecidable _)
noncomputable def lbB (c : Cd) (k r : Nat) : Bool := @decide (LB c k r) (Classical.propDecidable _)
theorem lv_end {c : Cd} {R : Nat} {Ah Bh : Nat → Nat → Bool} (hi : LvI c Ah Bh) (hc : ∀ k, k < c.n → LvC c R Ah Bh k) (k r : Nat) (hk : k < c.n) (hr : r < R) : Ah k r = laB c k r ∧ Bh k r = lbB c k r := by
  refine ⟨?_, ?_⟩
  · unfold laB
    by_cases h : LA c k r
    · rw [lv_ahead hc hr h, @decide_eq_true _ (Classical.propDecidable _) h]
    · rw [@decide_eq_false _ (Classical.propDecidable _) h]
      cases e : Ah k r
      · rfl
      · exact absurd (hi.ahead k r e) h
  · unfold lbB
    by_cases h : LB c k r
    · rw [lv_behind hc hk hr h, @decide_eq_true _ (Classical.propDecidable _) h]
    · rw [@decide_eq_false _ (Classical.propDecidable _) h]
      cases e : Bh k r
      · rfl
      · exact absurd (hi.behind k r e) h
/-- One more is known. -/
def put2 (S : Nat → Nat → Bool) (k r : Nat) : Nat → Nat → Bool := fun i j => if i = k ∧ j = r then true else S i j
theorem put2_at (S : Nat → Nat → Bool) (k r : Nat) : put2 S k r k r = true := by unfold put2; rw [if_pos ⟨rfl, rfl⟩]
theorem put2_other (S : Nat → Nat → Bool) (k r i j : Nat) (h : ¬ (i = k ∧ j = r)) : put2 S k r i j = S i j := by unfold put2; rw [if_neg h]
theorem LvI.behind_put {c : Cd} {Ah Bh : Nat → Nat → Bool} (h : LvI c Ah Bh) {k t r : Nat} (hs : (t : Int) ∈ sucL (c.O k) (c.A k) (c.B k) (c.C k) k) (ha : Ah t r = true) : LvI c Ah (put2 Bh k r) :=
  ⟨h.ahead, fun i j e => by
    by_cases q : i = k ∧ j = r
    · obtain ⟨rfl, rfl⟩ := q
      exact ⟨t, hs, h.ahead t j ha⟩
    · rw [put2_other Bh k r i j q] at e
      exact h.behind i j e⟩
theorem LvI.ahead_put {c : Cd} {Ah Bh : Nat → Nat → Bool} (h : LvI c Ah Bh) {k r : Nat} (hk : LA c k r) : LvI c (put2 Ah k r) Bh :=
  ⟨fun i j e => by
    by_cases q : i = k ∧ j = r
    · obtain ⟨rfl, rfl⟩ := q
      exact hk
    · rw [put2_other Ah k r i j q] at e
      exact h.ahead i j e, h.behind⟩
theorem LA.of_behind {c : Cd} {k r : Nat} (hk : k < c.n) (h : LB c k r) (hw : ¬ c.wr k r) : LA c k r := by
  obtain ⟨t, hs, h⟩ := h
  exact .pass k t r hk hs hw h
/-- How many pairs are not known. -/
def cnt2 (S : Nat → Nat → Bool) (R : Nat) : Nat → Nat
  | 0 => 0
  | n + 1 => cnt2 S R n + cntF (S n) R
theorem cnt2_put (S : Nat → Nat → Bool) (R k r : Nat) (hr : r < R) (h : S k r = false) : ∀ n, k < n → cnt2 (put2 S k r) R n + 1 = cnt2 S R n
  | 0, hn => by omega
  | n + 1, hn => by
    rw [cnt2, cnt2]
    have same : ∀ m, m ≤ k → cnt2 (put2 S k r) R m = cnt2 S R m := fun m hm => by
      induction m with
      | zero => rfl
      | succ m ih =>
        rw [cnt2, cnt2, ih (by omega)]
        congr 1
        have : put2 S k r m = S m := by funext j; exact put2_other S k r m j (by omega)
        rw [this]
    by_cases e : k = n
    · subst e
      rw [same k (Nat.le_refl _)]
      have : put2 S k r k = putB (S k) r := by
        funext j
        unfold put2 putB
        by_cases q : j = r
        · rw [if_pos ⟨rfl, q⟩, if_pos q]
        · rw [if_neg (fun x => q x.2), if_neg q]
      rw [this]
      have := cnt_put (S k) r h R hr
      omega
    · have ih := cnt2_put S R k r hr h n (by omega)
      have : put2 S k r n = S n := by funext j; exact put2_other S k r n j (by omega)
      rw [this]
      omega
/-- n rows of R bools; the rows' slices stand in block q. -/
structure Gr2 (w : World) (q n R : Nat) (p : Nat → Nat) (S : Nat → Nat → Bool) : Prop where
  ptr : ∀ k, k < n → w.cell? ⟨q, k, none⟩ = some (.slice (some ⟨p k, 0, none⟩) R R)
  row : ∀ k, k < n → Own w (p k) R (fun r => .bool (S k r))
  hi : q < w.heap.size
theorem Gr2.next {w w' : World} {q n R : Nat} {p : Nat → Nat} {S : Nat → Nat → Bool} (h : Gr2 w q n R p S) (b : Below w.heap.size w w') : Gr2 w' q n R p S :=
  ⟨fun k hk => (b.cell (p := ⟨q, k, none⟩) h.hi).trans (h.ptr k hk), fun k hk => (h.row k hk).next b, by have := h.hi; have := b.size; omega⟩
theorem Gr2.but {w w' : World} {q n R o : Nat} {p : Nat → Nat} {S : Nat → Nat → Bool} (h : Gr2 w q n R p S) (b : Only o w w') (hq : q ≠ o) (hp : ∀ k, k < n → p k ≠ o) : Gr2 w' q n R p S :=
  ⟨fun k hk => (World.cell?_of_block (w := w) (a := ⟨q, k, none⟩) (b.block q h.hi hq)).trans (h.ptr k hk), fun k hk => (h.row k hk).but b (hp k hk), by have := h.hi; have := b.size; omega⟩
/-- Two such grids of rows that are all apart. -/
structure Lv2 (w : World) (qa qb n R : Nat) (pa pb : Nat → Nat) (Ah Bh : Nat → Nat → Bool) : Prop where
  a : Gr2 w qa n R pa Ah
  b : Gr2 w qb n R pb Bh
  ia : ∀ i j, i < n → j < n → pa i = pa j → i = j
  ib : ∀ i j, i < n → j < n → pb i = pb j → i = j
  ab : ∀ i j, i < n → j < n → pa i ≠ pb j
  qs : ∀ i, i < n → pa i ≠ qa ∧ pa i ≠ qb ∧ pb i ≠ qa ∧ pb i ≠ qb
theorem Lv2.next {w w' : World} {qa qb n R : Nat} {pa pb : Nat → Nat} {Ah Bh : Nat → Nat → Bool} (h : Lv2 w qa qb n R pa pb Ah Bh) (b : Below w.heap.size w w') : Lv2 w' qa qb n R pa pb Ah Bh := ⟨h.a.next b, h.b.next b, h.ia, h.ib, h.ab, h.qs⟩
theorem Lv2.putB {w : World} {qa qb n R : Nat} {pa pb : Nat → Nat} {Ah Bh : Nat → Nat → Bool} (h : Lv2 w qa qb n R pa pb Ah Bh) (k r : Nat) (hk : k < n) (hr : r < R) : Lv2 (w.setCell ⟨pb k, r, none⟩ (.bool true)) qa qb n R pa pb Ah (put2 Bh k r) := by
  have K : Only (pb k) w (w.setCell ⟨pb k, r, none⟩ (.bool true)) := (Only.refl _ _).setCell _ _
  refine ⟨h.a.but K (h.qs k hk).2.2.1.symm (fun i hi => h.ab i k hi hk), ⟨fun i hi => ?_, fun i hi => ?_, by have := h.b.hi; have := K.size; omega⟩, h.ia, h.ib, h.ab, h.qs⟩
  · exact (World.cell?_of_block (w := w) (a := ⟨qb, i, none⟩) (K.block qb h.b.hi (h.qs k hk).2.2.2.symm)).trans (h.b.ptr i hi)
  · by_cases e : i = k
    · subst e
      refine (h.b.row i hi).set r _ hr (fun j hj => ?_)
      by_cases q : j = r
      · subst q; rw [if_pos rfl, put2_at]
      · rw [if_neg q, put2_other Bh i r i j (fun x => q x.2)]
    · refine ((h.b.row i hi).but K (fun x => e (h.ib i k hi hk x))).mono (Nat.le_refl _) (fun j hj => ?_)
      rw [put2_other Bh k r i j (fun x => e x.1)]
theorem Lv2.putA {w : World} {qa qb n R : Nat} {pa pb : Nat → Nat} {Ah Bh : Nat → Nat → Bool} (h : Lv2 w qa qb n R pa pb Ah Bh) (k r : Nat) (hk : k < n) (hr : r < R) : Lv2 (w.setCell ⟨pa k, r, none⟩ (.bool true)) qa qb n R pa pb (put2 Ah k r) Bh := by
  have K : Only (pa k) w (w.setCell ⟨pa k, r, none⟩ (.bool true)) := (Only.refl _ _).setCell _ _
  refine ⟨⟨fun i hi => ?_, fun i hi => ?_, by have := h.a.hi; have := K.size; omega⟩, h.b.but K (h.qs k hk).2.1.symm (fun i hi x => h.ab k i hk hi x.symm), h.ia, h.ib, h.ab, h.qs⟩
  · exact (World.cell?_of_block (w := w) (a := ⟨qa, i, none⟩) (K.block qa h.a.hi (h.qs k hk).1.symm)).trans (h.a.ptr i hi)
  · by_cases e : i = k
    · subst e
      refine (h.a.row i hi).set r _ hr (fun j hj => ?_)
      by_cases q : j = r
      · subst q; rw [if_pos rfl, put2_at]
      · rw [if_neg q, put2_other Ah i r i j (fun x => q x.2)]
    · refine ((h.a.row i hi).but K (fun x => e (h.ia i k hi hk x))).mono (Nat.le_refl _) (fun j hj => ?_)
      rw [put2_other Ah k r i j (fun x => e x.1)]
end Go.Proofs.YtmeokhppaekhpaaDoor
