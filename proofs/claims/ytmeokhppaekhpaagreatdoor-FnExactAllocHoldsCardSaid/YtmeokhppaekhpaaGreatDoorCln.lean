/- What clashes; the grid in which the model keeps it. -/
import Derived.Test.YtmeokhppaekhpaaGreatDoorLvn
namespace Go.Proofs.YtmeokhppaekhpaaGreatDoor
open Go.ChangeShapes Go.WideShapes Go.ChangeAt Go.RowKit
set_option linter.unusedVariables false
/-- A grid whose rows are apart. -/
structure Gd (w : World) (q n R : Nat) (p : Nat → Nat) (S : Nat → Nat → Bool) : Prop where
  g : Gr2 w q n R p S
  i : ∀ i j, i < n → j < n → p i = p j → i = j
  s : ∀ i, i < n → p i ≠ q
theorem Gd.next {w w' : World} {q n R : Nat} {p : Nat → Nat} {S : Nat → Nat → Bool} (h : Gd w q n R p S) (b : Below w.heap.size w w') : Gd w' q n R p S := ⟨h.g.next b, h.i, h.s⟩
theorem Gd.put {w : World} {q n R : Nat} {p : Nat → Nat} {S : Nat → Nat → Bool} (h : Gd w q n R p S) (k r : Nat) (hk : k < n) (hr : r < R) : Gd (w.setCell ⟨p k, r, none⟩ (.bool true)) q n R p (put2 S k r) := by
  have K : Only (p k) w (w.setCell ⟨p k, r, none⟩ (.bool true)) := (Only.refl _ _).setCell _ _
  refine ⟨⟨fun i hi => ?_, fun i hi => ?_, by have := h.g.hi; have := K.size; omega⟩, h.i, h.s⟩
  · exact (World.cell?_of_block (w := w) (a := ⟨q, i, none⟩) (K.block q h.g.hi (h.s k hk).symm)).trans (h.g.ptr i hi)
  · by_cases e : i = k
    · subst e
      refine (h.g.row i hi).set r _ hr (fun j hj => ?_)
      by_cases q : j = r
      · subst q; rw [if_pos rfl, put2_at]
      · rw [if_neg q, put2_other S i r i j (fun x => q x.2)]
    · refine ((h.g.row i hi).but K (fun x => e (h.i i k hi hk x))).mono (Nat.le_refl _) (fun j hj => ?_)
      rw [put2_other S k r i j (fun x => e x.1)]
/-- The rows of a grid, made as far as k. -/
structure Mk1 (w : World) (q n R k : Nat) (p : Nat → Nat) : Prop where
  oa : Own w q n (fun i => if i < k then .slice (some ⟨p i, 0, none⟩) R R else .slice none 0 0)
  ra : ∀ i, i < k → Own w (p i) R (fun _ => .bool false)
  ia : ∀ i j, i < k → j < k → p i = p j → i = j
  qs : ∀ i, i < k → p i ≠ q
theorem Mk1.begin {w : World} {q n R : Nat} (ha : Own w q n (fun _ => .slice none 0 0)) : Mk1 w q n R 0 (fun _ => 0) :=
  ⟨ha.mono (Nat.le_refl _) (fun i hi => by rw [if_neg (by omega)]), fun i hi => by omega, fun i j hi => by omega, fun i hi => by omega⟩
theorem Mk1.step {w w1 : World} {q n R k x : Nat} {p : Nat → Nat} (h : Mk1 w q n R k p) (hk : k < n) (hx : Own w1 x R (fun _ => .bool false)) (b1 : Below w.heap.size w w1) (x0 : w.heap.size ≤ x) : Mk1 (w1.setCell ⟨q, k, none⟩ (.slice (some ⟨x, 0, none⟩) R R)) q n R (k + 1) (upF p k x) := by
  have K1 : Only q w1 (w1.setCell ⟨q, k, none⟩ (.slice (some ⟨x, 0, none⟩) R R)) := (Only.refl _ _).setCell _ _
  have sa := h.oa.hi
  have la : ∀ i, i < k → p i < w.heap.size := fun i hi => (h.ra i hi).hi
  refine ⟨?_, ?_, ?_, ?_⟩
  · refine (h.oa.next b1).set k (.slice (some ⟨x, 0, none⟩) R R) hk (fun i hi => ?_)
    by_cases e : i = k
    · subst e; simp [upF_at]
    · rw [if_neg e]
      by_cases e2 : i < k
      · rw [if_pos e2, if_pos (show i < k + 1 by omega), upF_lt p k x i e2]
      · rw [if_neg e2, if_neg (show ¬ i < k + 1 by omega)]
  · intro i hi
    by_cases e : i = k
    · subst e
      rw [upF_at]
      exact hx.but K1 (by omega)
    · rw [upF_lt p k x i (by omega)]
      exact ((h.ra i (by omega)).next b1).but K1 (h.qs i (by omega))
  · intro i j hi hj
    by_cases e : i = k <;> by_cases e2 : j = k
    · omega
    · subst e; rw [upF_at, upF_lt p i x j (by omega)]; have := la j (by omega); omega
    · subst e2; rw [upF_at, upF_lt p j x i (by omega)]; have := la i (by omega); omega
    · rw [upF_lt p k x i (by omega), upF_lt p k x j (by omega)]; exact h.ia i j (by omega) (by omega)
  · intro i hi
    by_cases e : i = k
    · subst e; rw [upF_at]; omega
    · rw [upF_lt p k x i (by omega)]; exact h.qs i (by omega)
theorem Mk1.gd {w : World} {q n R : Nat} {p : Nat → Nat} (h : Mk1 w q n R n p) : Gd w q n R p (fun _ _ => false) :=
  ⟨⟨fun k hk => by have := h.oa.cell k hk; rw [if_pos hk] at this; exact this, h.ra, h.oa.hi⟩, h.ia, h.qs⟩
/-- The grid, beside what lives. -/
structure Cg (c : Cd) (w : World) (q n R : Nat) (p : Nat → Nat) (qb : Nat) (pb : Nat → Nat) (p0 : Nat) (S : Nat → Nat → Bool) (wx : World) : Prop where
  g : Gd wx q R R p S
  b : Gr2 wx qb n R pb (lbB c)
  f : Own wx p0 R (fun r => .bool (laB c 0 r))
  l : Below w.heap.size w wx
  lo : ∀ i, i < R → w.heap.size ≤ p i
  s1 : ∀ i, i < R → qb ≠ p i ∧ p0 ≠ p i
  s2 : ∀ i, i < R → ∀ k, k < n → pb k ≠ p i
theorem Cg.next {c : Cd} {w wx wy : World} {q n R qb p0 : Nat} {p pb : Nat → Nat} {S : Nat → Nat → Bool} (h : Cg c w q n R p qb pb p0 S wx) (b : Below wx.heap.size wx wy) : Cg c w q n R p qb pb p0 S wy :=
  ⟨h.g.next b, h.b.next b, h.f.next b, h.l.trans (b.mono h.l.size), h.lo, h.s1, h.s2⟩
theorem Cg.put {c : Cd} {w wx : World} {q n R qb p0 : Nat} {p pb : Nat → Nat} {S : Nat → Nat → Bool} (h : Cg c w q n R p qb pb p0 S wx) (k r : Nat) (hk : k < R) (hr : r < R) : Cg c w q n R p qb pb p0 (put2 S k r) (wx.setCell ⟨p k, r, none⟩ (.bool true)) := by
  have K : Only (p k) wx (wx.setCell ⟨p k, r, none⟩ (.bool true)) := (Only.refl _ _).setCell _ _
  exact ⟨h.g.put k r hk hr, h.b.but K (h.s1 k hk).1 (fun i hi => h.s2 k hk i hi), h.f.but K (h.s1 k hk).2, h.l.setCell (p := ⟨p k, r, none⟩) (h.lo k hk) _, h.lo, h.s1, h.s2⟩
/-- What a grid says. -/
def SI (R : Nat) (S : Nat → Nat → Bool) (P : Nat → Nat → Prop) : Prop := ∀ x y, x < R → y < R → (S x y = true ↔ P x y)
theorem SI.put {R : Nat} {S : Nat → Nat → Bool} {P : Nat → Nat → Prop} (h : SI R S P) (a b : Nat) : SI R (put2 S a b) (fun x y => P x y ∨ (x = a ∧ y = b)) := fun x y hx hy => by
  by_cases e : x = a ∧ y = b
  · obtain ⟨rfl, rfl⟩ := e
    rw [put2_at]
    simp
  · rw [put2_other S a b x y e, h x y hx hy]
    simp [e]
theorem SI.to {R : Nat} {S : Nat → Nat → Bool} {P P' : Nat → Nat → Prop} (h : SI R S P) (e : ∀ x y, x < R → y < R → (P x y ↔ P' x y)) : SI R S P' := fun x y hx hy => (h x y hx hy).trans (e x y hx hy)
/-- Behind instruction k, which writes another one and does not move r there, r lives. -/
def Wk (c : Cd) (k r : Nat) : Prop := LB c k r ∧ (r : Int) ≠ c.D k ∧ ¬ (c.O k = 2 ∧ c.A k = r)
def Ek (c : Cd) (k r x y : Nat) : Prop := nmd (c.O k) 0 = true ∧ (((x : Int) = c.D k ∧ y = r) ∨ (x = r ∧ (y : Int) = c.D k))
/-- Two clash by one of the first k instructions. -/
def Pk (c : Cd) (R k x y : Nat) : Prop := ∃ i, i < k ∧ ∃ r, r < R ∧ Wk c i r ∧ Ek c i r x y
theorem pk_zero (c : Cd) (R x y : Nat) : ¬ Pk c R 0 x y := fun ⟨i, h, _⟩ => by omega
theorem pk_succ (c : Cd) (R k x y : Nat) : Pk c R (k + 1) x y ↔ Pk c R k x y ∨ ∃ r, r < R ∧ Wk c k r ∧ Ek c k r x y := by
  constructor
  · rintro ⟨i, hi, r, hr, h1, h2⟩
    by_cases e : i = k
    · subst e; exact Or.inr ⟨r, hr, h1, h2⟩
    · exact Or.inl ⟨i, by omega, r, hr, h1, h2⟩
  · rintro (⟨i, hi, h⟩ | h)
    · exact ⟨i, by omega, h⟩
    · exact ⟨k, by omega, h⟩
/-- Two clash. -/
def Cl (c : Cd) (R n x y : Nat) : Prop := Pk c R n x y ∨ (x ≠ y ∧ LA c 0 x ∧ LA c 0 y)
noncomputable def clB (c : Cd) (R n x y : Nat) : Bool := @decide (Cl c R n x y) (Classical.propDecidable _)
theorem clB_of {c : Cd} {R n : Nat} {S : Nat → Nat → Bool} (h : SI R S (Cl c R n)) (x y : Nat) (hx : x < R) (hy : y < R) : S x y = clB c R n x y := by
  unfold clB
  by_cases e : Cl c R n x y
  · rw [(h x y hx hy).2 e, @decide_eq_true _ (Classical.propDecidable _) e]
  · rw [@decide_eq_false _ (Classical.propDecidable _) e]
    cases q : S x y
    · rfl
    · exact absurd ((h x y hx hy).1 q) e
theorem lbB_iff (c : Cd) (k r : Nat) : lbB c k r = true ↔ LB c k r := by unfold lbB; simp
theorem laB_iff (c : Cd) (k r : Nat) : laB c k r = true ↔ LA c k r := by unfold laB; simp
end Go.Proofs.YtmeokhppaekhpaaGreatDoor
