/- Code as a structure. Which registers live where: told without a program; two grids of bools in memory. The model's l13Next (the numbers that may come next) and l13List (the numbers of those that are true). -/
import Derived.Test.YtmeokhppaekhpaaGreatDoorRch
import Derived.Test.YtmeokhppaekhpaaGreatDoorBgm
namespace Go.Proofs.YtmeokhppaekhpaaGreatDoor
open Go.ChangeShapes Go.WideShapes Go.ChangeAt Go.RowKit
set_option linter.unusedVariables false
/-- Code: its fields by number, and how many instructions there are. -/
structure Cd where
  O : Nat → Int
  D : Nat → Int
  A : Nat → Int
  B : Nat → Int
  C : Nat → Int
  X : Nat → Int
  n : Nat
end Go.Proofs.YtmeokhppaekhpaaGreatDoor
namespace Go.Proofs.YtmeokhppaekhpaaGreatDoor
open Go.ChangeShapes Go.WideShapes Go.ChangeAt Go.RowKit
set_option linter.unusedVariables false
/-- Whether an instruction writes a register. -/
def Cd.wr (c : Cd) (k r : Nat) : Prop := nmd (c.O k) 0 = true ∧ (c.D k).toNat = r
/-- A register lives ahead of an instruction: it reads it, or it does not write it and it lives ahead of one that may come next. -/
inductive LA (c : Cd) : Nat → Nat → Prop
  | read (k r : Nat) (hk : k < c.n) (h : (r : Int) ∈ opsL (c.O k) (c.A k) (c.B k) (c.C k) (c.X k)) : LA c k r
  | pass (k t r : Nat) (hk : k < c.n) (hs : (t : Int) ∈ sucL (c.O k) (c.A k) (c.B k) (c.C k) k) (hw : ¬ c.wr k r) (h : LA c t r) : LA c k r
/-- .. behind one. -/
def LB (c : Cd) (k r : Nat) : Prop := ∃ t : Nat, (t : Int) ∈ sucL (c.O k) (c.A k) (c.B k) (c.C k) k ∧ LA c t r
theorem LA.lt {c : Cd} {k r : Nat} (h : LA c k r) : k < c.n := by cases h <;> assumption
/-- What is known while it is looked for: no more than what is so. -/
structure LvI (c : Cd) (Ah Bh : Nat → Nat → Bool) : Prop where
  ahead : ∀ k r, Ah k r = true → LA c k r
  behind : ∀ k r, Bh k r = true → LB c k r
/-- What holds of an instruction once nothing is left to do there. -/
def LvC (c : Cd) (R : Nat) (Ah Bh : Nat → Nat → Bool) (k : Nat) : Prop :=
  (∀ t : Nat, (t : Int) ∈ sucL (c.O k) (c.A k) (c.B k) (c.C k) k → t < c.n → ∀ r, r < R → Ah t r = true → Bh k r = true) ∧
  (∀ r, r < R → Bh k r = true → ¬ c.wr k r → Ah k r = true) ∧
  ∀ r : Nat, (r : Int) ∈ opsL (c.O k) (c.A k) (c.B k) (c.C k) (c.X k) → Ah k r = true
theorem lv_ahead {c : Cd} {R : Nat} {Ah Bh : Nat → Nat → Bool} (hc : ∀ k, k < c.n → LvC c R Ah Bh k) {k r : Nat} (hr : r < R) (h : LA c k r) : Ah k r = true := by
  induction h with
  | read k r hk h => exact (hc k hk).2.2 r h
  | pass k t r hk hs hw h ih => exact (hc k hk).2.1 r hr ((hc k hk).1 t hs h.lt r hr (ih hr)) hw
theorem lv_behind {c : Cd} {R : Nat} {Ah Bh : Nat → Nat → Bool} (hc : ∀ k, k < c.n → LvC c R Ah Bh k) {k r : Nat} (hk : k < c.n) (hr : r < R) (h : LB c k r) : Bh k r = true := by
  obtain ⟨t, hs, h⟩ := h
  exact (hc k hk).1 t hs h.lt r hr (lv_ahead hc hr h)
/-- Whether a register lives ahead of, behind an instruction. -/
noncomputable def laB (c : Cd) (k r : Nat) : Bool := @decide (LA c k r) (Classical.propDecidable _)
noncomputable def lbB (c : Cd) (k r : Nat) : Bool := @decide (LB c k r) (Classical.propDecidable _)
theorem lv_end {c : Cd} {R : Nat} {Ah Bh : Nat → Nat → Bool} (hi : LvI c Ah Bh) (hc : ∀ k, k < c.n → LvC c R Ah Bh k) (k r : Nat) (hk : k < c.n) (hr : r < R) : Ah k r = laB c k r ∧ Bh k r = lbB c k r := by
  refine ⟨?_, ?_⟩
  · unfold laB
    by_cases h : LA c k r
    · rw [lv_ahead hc hr h, @decide_eq_true _ (Classical.propDecidable _) h]
    · rw [@decide_eq_false _ (Classical.propDecidable _) h]
      cases e : Ah k r
      · rfl
      · exact absurd (hi.ahead k r e) h
  · unfold lbB
    by_cases h : LB c k r
    · rw [lv_behind hc hk hr h, @decide_eq_true _ (Classical.propDecidable _) h]
    · rw [@decide_eq_false _ (Classical.propDecidable _) h]
      cases e : Bh k r
      · rfl
      · exact absurd (hi.behind k r e) h
/-- One more is known. -/
def put2 (S : Nat → Nat → Bool) (k r : Nat) : Nat → Nat → Bool := fun i j => if i = k ∧ j = r then true else S i j
theorem put2_at (S : Nat → Nat → Bool) (k r : Nat) : put2 S k r k r = true := by unfold put2; rw [if_pos ⟨rfl, rfl⟩]
theorem put2_other (S : Nat → Nat → Bool) (k r i j : Nat) (h : ¬ (i = k ∧ j = r)) : put2 S k r i j = S i j := by unfold put2; rw [if_neg h]
theorem LvI.behind_put {c : Cd} {Ah Bh : Nat → Nat → Bool} (h : LvI c Ah Bh) {k t r : Nat} (hs : (t : Int) ∈ sucL (c.O k) (c.A k) (c.B k) (c.C k) k) (ha : Ah t r = true) : LvI c Ah (put2 Bh k r) :=
  ⟨h.ahead, fun i j e => by
    by_cases q : i = k ∧ j = r
    · obtain ⟨rfl, rfl⟩ := q
      exact ⟨t, hs, h.ahead t j ha⟩
    · rw [put2_other Bh k r i j q] at e
      exact h.behind i j e⟩
theorem LvI.ahead_put {c : Cd} {Ah Bh : Nat → Nat → Bool} (h : LvI c Ah Bh) {k r : Nat} (hk : LA c k r) : LvI c (put2 Ah k r) Bh :=
  ⟨fun i j e => by
    by_cases q : i = k ∧ j = r
    · obtain ⟨rfl, rfl⟩ := q
      exact hk
    · rw [put2_other Ah k r i j q] at e
      exact h.ahead i j e, h.behind⟩
theorem LA.of_behind {c : Cd} {k r : Nat} (hk : k < c.n) (h : LB c k r) (hw : ¬ c.wr k r) : LA c k r := by
  obtain ⟨t, hs, h⟩ := h
  exact .pass k t r hk hs hw h
/-- How many pairs are not known. -/
def cnt2 (S : Nat → Nat → Bool) (R : Nat) : Nat → Nat
  | 0 => 0
  | n + 1 => cnt2 S R n + cntF (S n) R
theorem cnt2_put (S : Nat → Nat → Bool) (R k r : Nat) (hr : r < R) (h : S k r = false) : ∀ n, k < n → cnt2 (put2 S k r) R n + 1 = cnt2 S R n
  | 0, hn => by omega
  | n + 1, hn => by
    rw [cnt2, cnt2]
    have same : ∀ m, m ≤ k → cnt2 (put2 S k r) R m = cnt2 S R m := fun m hm => by
      induction m with
      | zero => rfl
      | succ m ih =>
        rw [cnt2, cnt2, ih (by omega)]
        congr 1
        have : put2 S k r m = S m := by funext j; exact put2_other S k r m j (by omega)
        rw [this]
    by_cases e : k = n
    · subst e
      rw [same k (Nat.le_refl _)]
      have : put2 S k r k = putB (S k) r := by
        funext j
        unfold put2 putB
        by_cases q : j = r
        · rw [if_pos ⟨rfl, q⟩, if_pos q]
        · rw [if_neg (fun x => q x.2), if_neg q]
      rw [this]
      have := cnt_put (S k) r h R hr
      omega
    · have ih := cnt2_put S R k r hr h n (by omega)
      have : put2 S k r n = S n := by funext j; exact put2_other S k r n j (by omega)
      rw [this]
      omega
/-- n rows of R bools; the rows' slices stand in block q. -/
structure Gr2 (w : World) (q n R : Nat) (p : Nat → Nat) (S : Nat → Nat → Bool) : Prop where
  ptr : ∀ k, k < n → w.cell? ⟨q, k, none⟩ = some (.slice (some ⟨p k, 0, none⟩) R R)
  row : ∀ k, k < n → Own w (p k) R (fun r => .bool (S k r))
  hi : q < w.heap.size
theorem Gr2.next {w w' : World} {q n R : Nat} {p : Nat → Nat} {S : Nat → Nat → Bool} (h : Gr2 w q n R p S) (b : Below w.heap.size w w') : Gr2 w' q n R p S :=
  ⟨fun k hk => (b.cell (p := ⟨q, k, none⟩) h.hi).trans (h.ptr k hk), fun k hk => (h.row k hk).next b, by have := h.hi; have := b.size; omega⟩
theorem Gr2.but {w w' : World} {q n R o : Nat} {p : Nat → Nat} {S : Nat → Nat → Bool} (h : Gr2 w q n R p S) (b : Only o w w') (hq : q ≠ o) (hp : ∀ k, k < n → p k ≠ o) : Gr2 w' q n R p S :=
  ⟨fun k hk => (World.cell?_of_block (w := w) (a := ⟨q, k, none⟩) (b.block q h.hi hq)).trans (h.ptr k hk), fun k hk => (h.row k hk).but b (hp k hk), by have := h.hi; have := b.size; omega⟩
/-- Two such grids of rows that are all apart. -/
structure Lv2 (w : World) (qa qb n R : Nat) (pa pb : Nat → Nat) (Ah Bh : Nat → Nat → Bool) : Prop where
  a : Gr2 w qa n R pa Ah
  b : Gr2 w qb n R pb Bh
  ia : ∀ i j, i < n → j < n → pa i = pa j → i = j
  ib : ∀ i j, i < n → j < n → pb i = pb j → i = j
  ab : ∀ i j, i < n → j < n → pa i ≠ pb j
  qs : ∀ i, i < n → pa i ≠ qa ∧ pa i ≠ qb ∧ pb i ≠ qa ∧ pb i ≠ qb
theorem Lv2.next {w w' : World} {qa qb n R : Nat} {pa pb : Nat → Nat} {Ah Bh : Nat → Nat → Bool} (h : Lv2 w qa qb n R pa pb Ah Bh) (b : Below w.heap.size w w') : Lv2 w' qa qb n R pa pb Ah Bh := ⟨h.a.next b, h.b.next b, h.ia, h.ib, h.ab, h.qs⟩
theorem Lv2.putB {w : World} {qa qb n R : Nat} {pa pb : Nat → Nat} {Ah Bh : Nat → Nat → Bool} (h : Lv2 w qa qb n R pa pb Ah Bh) (k r : Nat) (hk : k < n) (hr : r < R) : Lv2 (w.setCell ⟨pb k, r, none⟩ (.bool true)) qa qb n R pa pb Ah (put2 Bh k r) := by
  have K : Only (pb k) w (w.setCell ⟨pb k, r, none⟩ (.bool true)) := (Only.refl _ _).setCell _ _
  refine ⟨h.a.but K (h.qs k hk).2.2.1.symm (fun i hi => h.ab i k hi hk), ⟨fun i hi => ?_, fun i hi => ?_, by have := h.b.hi; have := K.size; omega⟩, h.ia, h.ib, h.ab, h.qs⟩
  · exact (World.cell?_of_block (w := w) (a := ⟨qb, i, none⟩) (K.block qb h.b.hi (h.qs k hk).2.2.2.symm)).trans (h.b.ptr i hi)
  · by_cases e : i = k
    · subst e
      refine (h.b.row i hi).set r _ hr (fun j hj => ?_)
      by_cases q : j = r
      · subst q; rw [if_pos rfl, put2_at]
      · rw [if_neg q, put2_other Bh i r i j (fun x => q x.2)]
    · refine ((h.b.row i hi).but K (fun x => e (h.ib i k hi hk x))).mono (Nat.le_refl _) (fun j hj => ?_)
      rw [put2_other Bh k r i j (fun x => e x.1)]
theorem Lv2.putA {w : World} {qa qb n R : Nat} {pa pb : Nat → Nat} {Ah Bh : Nat → Nat → Bool} (h : Lv2 w qa qb n R pa pb Ah Bh) (k r : Nat) (hk : k < n) (hr : r < R) : Lv2 (w.setCell ⟨pa k, r, none⟩ (.bool true)) qa qb n R pa pb (put2 Ah k r) Bh := by
  have K : Only (pa k) w (w.setCell ⟨pa k, r, none⟩ (.bool true)) := (Only.refl _ _).setCell _ _
  refine ⟨⟨fun i hi => ?_, fun i hi => ?_, by have := h.a.hi; have := K.size; omega⟩, h.b.but K (h.qs k hk).2.1.symm (fun i hi x => h.ab k i hk hi x.symm), h.ia, h.ib, h.ab, h.qs⟩
  · exact (World.cell?_of_block (w := w) (a := ⟨qa, i, none⟩) (K.block qa h.a.hi (h.qs k hk).1.symm)).trans (h.a.ptr i hi)
  · by_cases e : i = k
    · subst e
      refine (h.a.row i hi).set r _ hr (fun j hj => ?_)
      by_cases q : j = r
      · subst q; rw [if_pos rfl, put2_at]
      · rw [if_neg q, put2_other Ah i r i j (fun x => q x.2)]
    · refine ((h.a.row i hi).but K (fun x => e (h.ia i k hi hk x))).mono (Nat.le_refl _) (fun j hj => ?_)
      rw [put2_other Ah k r i j (fun x => e x.1)]
end Go.Proofs.YtmeokhppaekhpaaGreatDoor
namespace Go.Proofs.YtmeokhppaekhpaaGreatDoor
open Go.ChangeShapes Go.WideShapes Go.ChangeAt Go.RowKit
set_option linter.unusedVariables false
/-- The numbers that may come next, the one right behind first. -/
def nxL (o a b c : Int) (k n : Nat) : List Int := (if o = 8 ∨ o = 11 ∨ n ≤ k + 1 then [] else [((k + 1 : Nat) : Int)]) ++ tgL o a b c
theorem nx_suc (o a b c : Int) (k n t : Nat) (ht : t < n) : (t : Int) ∈ nxL o a b c k n ↔ (t : Int) ∈ sucL o a b c k := by
  unfold nxL sucL
  by_cases h8 : o = 8
  · rw [if_pos (Or.inl h8), if_pos (Or.inl h8)]; simp
  by_cases h11 : o = 11
  · rw [if_pos (Or.inr (Or.inl h11)), if_pos (Or.inr h11)]; simp
  rw [if_neg (show ¬ (o = 8 ∨ o = 11) by omega)]
  by_cases hn : n ≤ k + 1
  · rw [if_pos (Or.inr (Or.inr hn))]
    simp only [List.nil_append, List.mem_append, List.mem_singleton]
    constructor
    · exact Or.inl
    · rintro (h | h)
      · exact h
      · omega
  · rw [if_neg (show ¬ (o = 8 ∨ o = 11 ∨ n ≤ k + 1) by omega)]
    simp only [List.mem_append, List.mem_singleton]
    exact Or.comm
theorem nx_len (o a b c : Int) (k n : Nat) : (nxL o a b c k n).length ≤ 3 := by
  unfold nxL
  rw [List.length_append]
  have := tg_len o a b c
  split <;> simp <;> omega
set_option maxRecDepth 100000 in
set_option maxHeartbeats 4000000 in
theorem next63 (n a cap k : Nat) (O D A B C X : Nat → Int) (w : World) (R : RowI w a n O D A B C X) (hk : k < n) (n1 : n ≤ 1000) : Calls Tryz.prog 74 #[.slice (some ⟨a, 0, none⟩) n cap, .int .i64 (k : Int)] w fun e w' => ∃ u, e = .returned u ∧ Ri w.heap.size w' u (nxL (O k) (A k) (B k) (C k) k n) ∧ Below w.heap.size w w' := by
  obtain ⟨i3, hi3, hz30, hz31, hz32⟩ := info_parts info3
  have c0 := R.c0 k hk
  have c1 := R.c1 k hk
  have c2 := R.c2 k hk
  have c3 := R.c3 k hk
  have c4 := R.c4 k hk
  have c5 := R.c5 k hk
  have HR : Hid (RowI w a n O D A B C X) := R
  have q0 : (k : Int) < (n : Int) := by omega
  have q1 : (0 : Int) ≤ (k : Int) := by omega
  have wk : wrap64 ((k : Int) + 1) = (k : Int) + 1 := by unfold wrap64; omega
  have R0 : ∀ v : World, w.heap.size ≤ v.heap.size → Ri w.heap.size v (.slice none 0 0) [] := fun v hv => ⟨World.ownsRow_nil v w.heap.size 3 1, hv⟩
  clear R
  by_cases h8 : O k = 8
  · have HL : Hid (nxL (O k) (A k) (B k) (C k) k n = [A k]) := by show _ = _; unfold nxL tgL; rw [if_pos (Or.inl h8), if_pos h8]; rfl
    rw [HL.out]
    have h43 := fun v => tg_jump (D k) (A k) (B k) (C k) (X k) v
    rw [h8] at c0
    clear h8 HL
    go_enter Tryz.func74, Tryz.ntmps74
    go_wp2_with (first | (go_at_call 103; refine (h43 _).mono ?_; rintro e w2 ⟨gt, rfl, ct1, B2⟩) | (at_builtin; refine wpList_append_own _ rfl _ _ 24 rfl w.heap.size 3 i3 (.int .i64 0) 1 8 Tryz.underlying24 hi3 hz30 hz31 hz32 rfl (by decide) _ _ _ rfl (World.ownsRow_nil w2 w.heap.size 3 1) ⟨gt, 0, none⟩ 1 1 [.int .i64 (A k)] rfl rfl ?a1 ?a2 ?a3 ?a4 ?a5 ?_))
    case a1 =>
      intro j u hj
      match j, hj with
      | 0, hj => simp at hj; subst hj; simpa [Addr.add] using ct1
    case a2 => intro u hu; simp at hu; subst hu; rfl
    case a3 => unfold maxLen; simp
    case a4 => simp
    case a5 => have := B2.size; simp at *; omega
    intro v3 w3 hown hgrow _
    have R3 := (R0 w2 B2.size).more (M := [A k]) rfl hown hgrow.size
    have B3 : Below w.heap.size w w3 := B2.grown hgrow B2.size (fun q hq => by cases hq)
    clear hown hgrow B2
    go_wp2
    go_ret
    exact ⟨_, rfl, R3, B3⟩
  by_cases h11 : O k = 11
  · have HL : Hid (nxL (O k) (A k) (B k) (C k) k n = []) := by show _ = _; unfold nxL tgL; rw [if_pos (Or.inr (Or.inl h11)), if_neg h8, if_neg (by omega)]; rfl
    rw [HL.out]
    have h43 := fun v => tg_none 11 (D k) (A k) (B k) (C k) (X k) v (by decide) (by decide)
    rw [h11] at c0
    clear h11 h8 HL
    go_enter Tryz.func74, Tryz.ntmps74
    go_wp2_with (first | (go_at_call 103; refine (h43 _).mono ?_; rintro e w2 ⟨rfl, B2⟩) | (at_builtin; refine wpList_append_own_none rfl _ _ 24 rfl w.heap.size 3 i3 1 Tryz.underlying24 hi3 _ _ _ rfl (World.ownsRow_nil w2 w.heap.size 3 1) rfl ?_))
    go_ret
    exact ⟨_, rfl, R0 w2 B2.size, B2⟩
  have f8 : (O k == 8) = false := by simp [h8]
  have f8' : (O k != 8) = true := by simp [h8]
  have f11 : (O k == 11) = false := by simp [h11]
  have f11' : (O k != 11) = true := by simp [h11]
  by_cases hn : n ≤ k + 1
  · have q2 : ¬ (k : Int) + 1 < (n : Int) := by omega
    by_cases h9 : O k = 9
    · have HL : Hid (nxL (O k) (A k) (B k) (C k) k n = [B k, C k]) := by show _ = _; unfold nxL tgL; rw [if_pos (Or.inr (Or.inr hn)), if_neg h8, if_pos h9]; rfl
      rw [HL.out]
      have h43 := fun v => tg_zer (D k) (A k) (B k) (C k) (X k) v
      rw [h9] at c0
      clear h9 h11 h8 HL f8 f8' f11 f11'
      go_enter Tryz.func74, Tryz.ntmps74
      go_wp2_with (first | (go_at_call 103; refine (h43 _).mono ?_; rintro e w2 ⟨gt, rfl, ⟨ct1, ct2⟩, B2⟩) | (at_builtin; refine wpList_append_own _ rfl _ _ 24 rfl w.heap.size 3 i3 (.int .i64 0) 1 8 Tryz.underlying24 hi3 hz30 hz31 hz32 rfl (by decide) _ _ _ rfl (World.ownsRow_nil w2 w.heap.size 3 1) ⟨gt, 0, none⟩ 2 2 [.int .i64 (B k), .int .i64 (C k)] rfl rfl ?a1 ?a2 ?a3 ?a4 ?a5 ?_))
      case a1 =>
        intro j u hj
        match j, hj with
        | 0, hj => simp at hj; subst hj; simpa [Addr.add] using ct1
        | 1, hj => simp at hj; subst hj; simpa [Addr.add] using ct2
      case a2 => intro u hu; simp at hu; rcases hu with rfl | rfl <;> rfl
      case a3 => unfold maxLen; simp
      case a4 => simp
      case a5 => have := B2.size; simp at *; omega
      intro v3 w3 hown hgrow _
      have R3 := (R0 w2 B2.size).more (M := [B k, C k]) rfl hown hgrow.size
      have B3 : Below w.heap.size w w3 := B2.grown hgrow B2.size (fun q hq => by cases hq)
      clear hown hgrow B2
      go_wp2
      go_ret
      exact ⟨_, rfl, R3, B3⟩
    · have HL : Hid (nxL (O k) (A k) (B k) (C k) k n = []) := by show _ = _; unfold nxL tgL; rw [if_pos (Or.inr (Or.inr hn)), if_neg h8, if_neg h9]; rfl
      rw [HL.out]
      have h43 := fun v => tg_none (O k) (D k) (A k) (B k) (C k) (X k) v h8 h9
      clear HL
      go_enter Tryz.func74, Tryz.ntmps74
      go_wp2_with (first | (go_at_call 103; refine (h43 _).mono ?_; rintro e w2 ⟨rfl, B2⟩) | (at_builtin; refine wpList_append_own_none rfl _ _ 24 rfl w.heap.size 3 i3 1 Tryz.underlying24 hi3 _ _ _ rfl (World.ownsRow_nil w2 w.heap.size 3 1) rfl ?_))
      go_ret
      exact ⟨_, rfl, R0 w2 B2.size, B2⟩
  · have q2 : (k : Int) + 1 < (n : Int) := by omega
    have HL0 : Hid (nxL (O k) (A k) (B k) (C k) k n = [((k : Int) + 1)] ++ tgL (O k) (A k) (B k) (C k)) := by show _ = _; unfold nxL; rw [if_neg (by omega)]; rfl
    have B1 : ∀ o, Below w.heap.size w (w.alloc o) := fun o => (Below.refl _ _).alloc (Nat.le_refl _) o
    by_cases h9 : O k = 9
    · have HL : Hid (nxL (O k) (A k) (B k) (C k) k n = [((k : Int) + 1)] ++ [B k, C k]) := by show _ = _; rw [HL0.out]; unfold tgL; rw [if_neg h8, if_pos h9]
      rw [HL.out]
      have h43 := fun v => tg_zer (D k) (A k) (B k) (C k) (X k) v
      rw [h9] at c0
      have ho := h9
      clear h9 h11 h8 HL HL0 f8 f8' f11 f11'
      go_enter Tryz.func74, Tryz.ntmps74
      go_wp2_with (at_builtin; refine wpList_append_own _ rfl _ _ 24 rfl w.heap.size 3 i3 (.int .i64 0) 1 8 Tryz.underlying24 hi3 hz30 hz31 hz32 rfl (by decide) _ _ _ rfl (World.ownsRow_nil _ w.heap.size 3 1) ⟨w.heap.size, 0, none⟩ 1 1 [.int .i64 ((k : Int) + 1)] rfl rfl ?b1 ?b2 ?b3 ?b4 ?b5 ?_)
      case b1 =>
        intro j u hj
        match j, hj with
        | 0, hj => simp at hj; subst hj; simp [Addr.add]
      case b2 => intro u hu; simp at hu; subst hu; rfl
      case b3 => unfold maxLen; simp
      case b4 => simp
      case b5 => simp
      intro v3 w3 hown hgrow _
      have R3 : Ri w.heap.size w3 v3 [((k : Int) + 1)] := (R0 (w.alloc (.cells #[.int .i64 ((k : Int) + 1)] 3)) (by simp)).more (M := [((k : Int) + 1)]) rfl hown hgrow.size
      have B3 : Below w.heap.size w w3 := (B1 _).grown hgrow (by simp) (fun q hq => by cases hq)
      clear hown hgrow c0 c1 c2 c3 c4 c5
      have RK := HR.out.next B3
      have c0 := RK.c0 k hk
      rw [ho] at c0
      have c1 := RK.c1 k hk
      have c2 := RK.c2 k hk
      have c3 := RK.c3 k hk
      have c4 := RK.c4 k hk
      have c5 := RK.c5 k hk
      clear RK
      go_wp2_with (first | (go_at_call 103; refine (h43 _).mono ?_; rintro e w4 ⟨gt, rfl, ⟨ct1, ct2⟩, B4⟩; (have R4 := R3.next B4)) | (at_builtin; refine wpList_append_own _ rfl _ _ 24 rfl w.heap.size 3 i3 (.int .i64 0) 1 8 Tryz.underlying24 hi3 hz30 hz31 hz32 rfl (by decide) _ _ _ rfl R4.1 ⟨gt, 0, none⟩ 2 2 [.int .i64 (B k), .int .i64 (C k)] rfl rfl ?a1 ?a2 ?a3 ?a4 ?a5 ?_))
      case a1 =>
        intro j u hj
        match j, hj with
        | 0, hj => simp at hj; subst hj; simpa [Addr.add] using ct1
        | 1, hj => simp at hj; subst hj; simpa [Addr.add] using ct2
      case a2 => intro u hu; simp at hu; rcases hu with rfl | rfl <;> rfl
      case a3 => unfold maxLen; simp
      case a4 => simp
      case a5 => have := R4.2; simp at *; omega
      intro v5 w5 hown hgrow _
      have R5 := R4.more (M := [B k, C k]) rfl hown hgrow.size
      have BB := B3.trans (B4.mono B3.size)
      have B5 : Below w.heap.size w w5 := BB.grown hgrow BB.size (fun q hq => (R4.lt q hq).1)
      clear hown hgrow
      go_wp2
      go_ret
      exact ⟨_, rfl, R5, B5⟩
    · have HL : Hid (nxL (O k) (A k) (B k) (C k) k n = [((k : Int) + 1)]) := by show _ = _; rw [HL0.out]; unfold tgL; rw [if_neg h8, if_neg h9]; rfl
      rw [HL.out]
      have h43 := fun v => tg_none (O k) (D k) (A k) (B k) (C k) (X k) v h8 h9
      clear HL HL0
      go_enter Tryz.func74, Tryz.ntmps74
      go_wp2_with (at_builtin; refine wpList_append_own _ rfl _ _ 24 rfl w.heap.size 3 i3 (.int .i64 0) 1 8 Tryz.underlying24 hi3 hz30 hz31 hz32 rfl (by decide) _ _ _ rfl (World.ownsRow_nil _ w.heap.size 3 1) ⟨w.heap.size, 0, none⟩ 1 1 [.int .i64 ((k : Int) + 1)] rfl rfl ?b1 ?b2 ?b3 ?b4 ?b5 ?_)
      case b1 =>
        intro j u hj
        match j, hj with
        | 0, hj => simp at hj; subst hj; simp [Addr.add]
      case b2 => intro u hu; simp at hu; subst hu; rfl
      case b3 => unfold maxLen; simp
      case b4 => simp
      case b5 => simp
      intro v3 w3 hown hgrow _
      have R3 : Ri w.heap.size w3 v3 [((k : Int) + 1)] := (R0 (w.alloc (.cells #[.int .i64 ((k : Int) + 1)] 3)) (by simp)).more (M := [((k : Int) + 1)]) rfl hown hgrow.size
      have B3 : Below w.heap.size w w3 := (B1 _).grown hgrow (by simp) (fun q hq => by cases hq)
      clear hown hgrow c0 c1 c2 c3 c4 c5
      have RK := HR.out.next B3
      have c0 := RK.c0 k hk
      have c1 := RK.c1 k hk
      have c2 := RK.c2 k hk
      have c3 := RK.c3 k hk
      have c4 := RK.c4 k hk
      have c5 := RK.c5 k hk
      clear RK
      go_wp2_with (first | (go_at_call 103; refine (h43 _).mono ?_; rintro e w4 ⟨rfl, B4⟩; (have R4 := R3.next B4)) | (at_builtin; refine wpList_append_own_none rfl _ _ 24 rfl w.heap.size 3 i3 1 Tryz.underlying24 hi3 _ _ _ rfl R4.1 rfl ?_))
      go_ret
      exact ⟨_, rfl, R4, B3.trans (B4.mono B3.size)⟩
/-- The numbers of those that are true. -/
def lsF (S : Nat → Bool) : Nat → List Int
  | 0 => []
  | n + 1 => lsF S n ++ (if S n then [(n : Int)] else [])
theorem ls_len (S : Nat → Bool) : ∀ n, (lsF S n).length ≤ n
  | 0 => Nat.le_refl _
  | n + 1 => by have := ls_len S n; rw [lsF, List.length_append]; split <;> simp <;> omega
end Go.Proofs.YtmeokhppaekhpaaGreatDoor
