/- What the model's l13Live keeps while it runs. -/
import Derived.Test.YtmeokhppaekhpaaGreatDoorNxm
import Derived.Test.YtmeokhppaekhpaaGreatDoorRdt
namespace Go.Proofs.YtmeokhppaekhpaaGreatDoor
open Go.ChangeShapes Go.WideShapes Go.ChangeAt Go.RowKit
set_option linter.unusedVariables false
/-- The rows of two grids, made as far as k. -/
structure Mk2 (w : World) (qa qb n R k : Nat) (pa pb : Nat → Nat) : Prop where
  oa : Own w qa n (fun i => if i < k then .slice (some ⟨pa i, 0, none⟩) R R else .slice none 0 0)
  ob : Own w qb n (fun i => if i < k then .slice (some ⟨pb i, 0, none⟩) R R else .slice none 0 0)
  ra : ∀ i, i < k → Own w (pa i) R (fun _ => .bool false)
  rb : ∀ i, i < k → Own w (pb i) R (fun _ => .bool false)
  ia : ∀ i j, i < k → j < k → pa i = pa j → i = j
  ib : ∀ i j, i < k → j < k → pb i = pb j → i = j
  ab : ∀ i j, i < k → j < k → pa i ≠ pb j
  qs : ∀ i, i < k → pa i ≠ qa ∧ pa i ≠ qb ∧ pb i ≠ qa ∧ pb i ≠ qb
  qq : qa ≠ qb
def upF (p : Nat → Nat) (k x : Nat) : Nat → Nat := fun i => if i = k then x else p i
theorem upF_at (p : Nat → Nat) (k x : Nat) : upF p k x k = x := by unfold upF; rw [if_pos rfl]
theorem upF_lt (p : Nat → Nat) (k x i : Nat) (h : i < k) : upF p k x i = p i := by unfold upF; rw [if_neg (by omega)]
theorem Mk2.begin {w : World} {qa qb n R : Nat} (ha : Own w qa n (fun _ => .slice none 0 0)) (hb : Own w qb n (fun _ => .slice none 0 0)) (hq : qa ≠ qb) : Mk2 w qa qb n R 0 (fun _ => 0) (fun _ => 0) :=
  ⟨ha.mono (Nat.le_refl _) (fun i hi => by rw [if_neg (by omega)]), hb.mono (Nat.le_refl _) (fun i hi => by rw [if_neg (by omega)]), fun i hi => by omega, fun i hi => by omega, fun i j hi => by omega, fun i j hi => by omega, fun i j hi => by omega, fun i hi => by omega, hq⟩
theorem Mk2.step {w w1 w3 : World} {qa qb n R k x y : Nat} {pa pb : Nat → Nat} (h : Mk2 w qa qb n R k pa pb) (hk : k < n) (hx : Own w1 x R (fun _ => .bool false)) (b1 : Below w.heap.size w w1) (x0 : w.heap.size ≤ x)
    (hy : Own w3 y R (fun _ => .bool false)) (b3 : Below (w1.setCell ⟨qa, k, none⟩ (.slice (some ⟨x, 0, none⟩) R R)).heap.size (w1.setCell ⟨qa, k, none⟩ (.slice (some ⟨x, 0, none⟩) R R)) w3) (y0 : (w1.setCell ⟨qa, k, none⟩ (.slice (some ⟨x, 0, none⟩) R R)).heap.size ≤ y) :
    Mk2 (w3.setCell ⟨qb, k, none⟩ (.slice (some ⟨y, 0, none⟩) R R)) qa qb n R (k + 1) (upF pa k x) (upF pb k y) := by
  have K1 : Only qa w1 (w1.setCell ⟨qa, k, none⟩ (.slice (some ⟨x, 0, none⟩) R R)) := (Only.refl _ _).setCell _ _
  have K3 : Only qb w3 (w3.setCell ⟨qb, k, none⟩ (.slice (some ⟨y, 0, none⟩) R R)) := (Only.refl _ _).setCell _ _
  have sa := h.oa.hi
  have sb := h.ob.hi
  have s1 := b1.size
  have s2 := K1.size
  have sx := hx.hi
  have sy := hy.hi
  have la : ∀ i, i < k → pa i < w.heap.size := fun i hi => (h.ra i hi).hi
  have lb : ∀ i, i < k → pb i < w.heap.size := fun i hi => (h.rb i hi).hi
  refine ⟨?_, ?_, ?_, ?_, ?_, ?_, ?_, ?_, h.qq⟩
  · refine Own.but ((((h.oa.next b1).set k (.slice (some ⟨x, 0, none⟩) R R) hk (g := fun i => if i < k + 1 then .slice (some ⟨upF pa k x i, 0, none⟩) R R else .slice none 0 0) (fun i hi => ?_))).next b3) K3 h.qq
    by_cases e : i = k
    · subst e; simp [upF_at]
    · rw [if_neg e]
      by_cases e2 : i < k
      · rw [if_pos e2, if_pos (show i < k + 1 by omega), upF_lt pa k x i e2]
      · rw [if_neg e2, if_neg (show ¬ i < k + 1 by omega)]
  · refine (((h.ob.next b1).but K1 h.qq.symm).next b3).set k (.slice (some ⟨y, 0, none⟩) R R) hk (fun i hi => ?_)
    by_cases e : i = k
    · subst e; simp [upF_at]
    · rw [if_neg e]
      by_cases e2 : i < k
      · rw [if_pos e2, if_pos (show i < k + 1 by omega), upF_lt pb k y i e2]
      · rw [if_neg e2, if_neg (show ¬ i < k + 1 by omega)]
  · intro i hi
    by_cases e : i = k
    · subst e
      rw [upF_at]
      exact ((hx.but K1 (by omega)).next b3).but K3 (by omega)
    · rw [upF_lt pa k x i (by omega)]
      exact ((((h.ra i (by omega)).next b1).but K1 (h.qs i (by omega)).1).next b3).but K3 (h.qs i (by omega)).2.1
  · intro i hi
    by_cases e : i = k
    · subst e
      rw [upF_at]
      exact hy.but K3 (by omega)
    · rw [upF_lt pb k y i (by omega)]
      exact ((((h.rb i (by omega)).next b1).but K1 (h.qs i (by omega)).2.2.1).next b3).but K3 (h.qs i (by omega)).2.2.2
  · intro i j hi hj
    by_cases e : i = k <;> by_cases e2 : j = k
    · omega
    · subst e; rw [upF_at, upF_lt pa i x j (by omega)]; have := la j (by omega); omega
    · subst e2; rw [upF_at, upF_lt pa j x i (by omega)]; have := la i (by omega); omega
    · rw [upF_lt pa k x i (by omega), upF_lt pa k x j (by omega)]; exact h.ia i j (by omega) (by omega)
  · intro i j hi hj
    by_cases e : i = k <;> by_cases e2 : j = k
    · omega
    · subst e; rw [upF_at, upF_lt pb i y j (by omega)]; have := lb j (by omega); omega
    · subst e2; rw [upF_at, upF_lt pb j y i (by omega)]; have := lb i (by omega); omega
    · rw [upF_lt pb k y i (by omega), upF_lt pb k y j (by omega)]; exact h.ib i j (by omega) (by omega)
  · intro i j hi hj
    by_cases e : i = k <;> by_cases e2 : j = k
    · subst e; subst e2; rw [upF_at, upF_at]; omega
    · subst e; rw [upF_at, upF_lt pb i y j (by omega)]; have := lb j (by omega); omega
    · subst e2; rw [upF_at, upF_lt pa j x i (by omega)]; have := la i (by omega); omega
    · rw [upF_lt pa k x i (by omega), upF_lt pb k y j (by omega)]; exact h.ab i j (by omega) (by omega)
  · intro i hi
    by_cases e : i = k
    · subst e; rw [upF_at, upF_at]; omega
    · rw [upF_lt pa k x i (by omega), upF_lt pb k y i (by omega)]; exact h.qs i (by omega)
theorem Mk2.lv {w : World} {qa qb n R : Nat} {pa pb : Nat → Nat} (h : Mk2 w qa qb n R n pa pb) : Lv2 w qa qb n R pa pb (fun _ _ => false) (fun _ _ => false) :=
  ⟨⟨fun k hk => by have := h.oa.cell k hk; rw [if_pos hk] at this; exact this, h.ra, h.oa.hi⟩, ⟨fun k hk => by have := h.ob.cell k hk; rw [if_pos hk] at this; exact this, h.rb, h.ob.hi⟩, h.ia, h.ib, h.ab, h.qs⟩
/-- What is kept within one pass: (A0, B0) is what was known when it began, N0 how much was not; T: whether anything was found; Q: what has been seen to hold of (A0, B0) if nothing was found. -/
structure Lk (c : Cd) (w : World) (qa qb n R : Nat) (pa pb : Nat → Nat) (N0 : Nat) (A0 B0 : Nat → Nat → Bool) (Q : Prop) (T : Bool) (Ah Bh : Nat → Nat → Bool) (wx : World) : Prop where
  g : Lv2 wx qa qb n R pa pb Ah Bh
  i : LvI c Ah Bh
  m : cnt2 Ah R n + cnt2 Bh R n + (if T then 1 else 0) ≤ N0
  f : T = false → Ah = A0 ∧ Bh = B0 ∧ Q
  b : Below w.heap.size w wx
  lo : ∀ k, k < n → w.heap.size ≤ pa k ∧ w.heap.size ≤ pb k
theorem Lk.seen {c : Cd} {w wx : World} {qa qb n R N0 : Nat} {pa pb : Nat → Nat} {A0 B0 Ah Bh : Nat → Nat → Bool} {Q Q' : Prop} {T : Bool} (h : Lk c w qa qb n R pa pb N0 A0 B0 Q T Ah Bh wx) (q : T = false → Ah = A0 → Bh = B0 → Q → Q') : Lk c w qa qb n R pa pb N0 A0 B0 Q' T Ah Bh wx :=
  ⟨h.g, h.i, h.m, fun e => ⟨(h.f e).1, (h.f e).2.1, q e (h.f e).1 (h.f e).2.1 (h.f e).2.2⟩, h.b, h.lo⟩
theorem Lk.next {c : Cd} {w wx wy : World} {qa qb n R N0 : Nat} {pa pb : Nat → Nat} {A0 B0 Ah Bh : Nat → Nat → Bool} {Q : Prop} {T : Bool} (h : Lk c w qa qb n R pa pb N0 A0 B0 Q T Ah Bh wx) (b : Below wx.heap.size wx wy) : Lk c w qa qb n R pa pb N0 A0 B0 Q T Ah Bh wy :=
  ⟨h.g.next b, h.i, h.m, h.f, h.b.trans (b.mono h.b.size), h.lo⟩
theorem Lk.putB {c : Cd} {w wx : World} {qa qb n R N0 k t r : Nat} {pa pb : Nat → Nat} {A0 B0 Ah Bh : Nat → Nat → Bool} {Q : Prop} {T : Bool} (h : Lk c w qa qb n R pa pb N0 A0 B0 Q T Ah Bh wx) (Q' : Prop) (hk : k < n) (hr : r < R) (hs : (t : Int) ∈ sucL (c.O k) (c.A k) (c.B k) (c.C k) k) (ha : Ah t r = true) (hb : Bh k r = false) : Lk c w qa qb n R pa pb N0 A0 B0 Q' true Ah (put2 Bh k r) (wx.setCell ⟨pb k, r, none⟩ (.bool true)) :=
  ⟨h.g.putB k r hk hr, h.i.behind_put hs ha, by
    have := cnt2_put Bh R k r hr hb n hk
    have := h.m
    simp only [if_true]
    omega, fun e => (by cases e), h.b.setCell (p := ⟨pb k, r, none⟩) (h.lo k hk).2 _, h.lo⟩
theorem Lk.putA {c : Cd} {w wx : World} {qa qb n R N0 k r : Nat} {pa pb : Nat → Nat} {A0 B0 Ah Bh : Nat → Nat → Bool} {Q : Prop} {T : Bool} (h : Lk c w qa qb n R pa pb N0 A0 B0 Q T Ah Bh wx) (Q' : Prop) (hk : k < n) (hr : r < R) (hl : LA c k r) (hb : Ah k r = false) : Lk c w qa qb n R pa pb N0 A0 B0 Q' true (put2 Ah k r) Bh (wx.setCell ⟨pa k, r, none⟩ (.bool true)) :=
  ⟨h.g.putA k r hk hr, h.i.ahead_put hl, by
    have := cnt2_put Ah R k r hr hb n hk
    have := h.m
    simp only [if_true]
    omega, fun e => (by cases e), h.b.setCell (p := ⟨pa k, r, none⟩) (h.lo k hk).1 _, h.lo⟩
theorem lvi_false (c : Cd) : LvI c (fun _ _ => false) (fun _ _ => false) := ⟨fun k r h => (by cases h), fun k r h => (by cases h)⟩
/-- A list of numbers in memory that no row of the grids holds. -/
def Tl (w : World) (n : Nat) (pa pb : Nat → Nat) (ad : Option Addr) (M : List Int) : Prop := ∀ i, i < M.length → ∃ g, ad = some ⟨g, 0, none⟩ ∧ (∀ k, k < n → pa k ≠ g ∧ pb k ≠ g) ∧ w.cell? ⟨g, i, none⟩ = some (.int .i64 (M.getD i 0))
theorem Tl.next {w w' : World} {n : Nat} {pa pb : Nat → Nat} {ad : Option Addr} {M : List Int} (h : Tl w n pa pb ad M) (b : Below w.heap.size w w') : Tl w' n pa pb ad M := fun i hi => by
  obtain ⟨g, h1, h2, h3⟩ := h i hi
  exact ⟨g, h1, h2, cell_nx h3 b⟩
theorem Tl.putB {w : World} {n k r : Nat} {pa pb : Nat → Nat} {ad : Option Addr} {M : List Int} (h : Tl w n pa pb ad M) (hk : k < n) (v : Value) : Tl (w.setCell ⟨pb k, r, none⟩ v) n pa pb ad M := fun i hi => by
  obtain ⟨g, h1, h2, h3⟩ := h i hi
  exact ⟨g, h1, h2, only_cell ((Only.refl _ _).setCell _ _) h3 (h2 k hk).2.symm⟩
theorem Tl.putA {w : World} {n k r : Nat} {pa pb : Nat → Nat} {ad : Option Addr} {M : List Int} (h : Tl w n pa pb ad M) (hk : k < n) (v : Value) : Tl (w.setCell ⟨pa k, r, none⟩ v) n pa pb ad M := fun i hi => by
  obtain ⟨g, h1, h2, h3⟩ := h i hi
  exact ⟨g, h1, h2, only_cell ((Only.refl _ _).setCell _ _) h3 (h2 k hk).1.symm⟩
theorem Tl.of {B : Nat} {w : World} {n : Nat} {pa pb : Nat → Nat} {u : Value} {M : List Int} (h : Ri B w u M) (lt : ∀ k, k < n → pa k < B ∧ pb k < B) : ∃ ad cp, u = .slice ad M.length cp ∧ Tl w n pa pb ad M := by
  rcases ri_cases h with ⟨h1, h2⟩ | ⟨g, c, h1, h2, h3, h4⟩
  · subst h1
    exact ⟨none, 0, h2, fun i hi => by simp at hi⟩
  · refine ⟨_, c, h1, fun i hi => ⟨g, rfl, fun k hk => ?_, h4 i hi⟩⟩
    have := lt k hk
    have := (h.lt g (by rw [h1]; rfl)).1
    omega
theorem take_mem {M : List Int} {j : Nat} {x : Int} (hj : j < M.length) (h : x ∈ M.take (j + 1)) : x ∈ M.take j ∨ x = M.getD j 0 := by
  rw [List.take_add_one] at h
  rcases List.mem_append.1 h with h | h
  · exact Or.inl h
  · right
    simp only [List.getD]
    cases e : M[j]? with
    | none => rw [e] at h; simp at h
    | some y => rw [e] at h; simp at h; simp [h]
end Go.Proofs.YtmeokhppaekhpaaGreatDoor
