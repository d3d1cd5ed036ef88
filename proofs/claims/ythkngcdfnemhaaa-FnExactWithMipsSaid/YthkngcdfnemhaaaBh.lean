/- Appends as the model's WithMips makes them; its first level; the colors that are joined. -/
import Derived.Test.YthkngcdfnemhaaaBg
namespace Go.Proofs.Ythkngcdfnemhaaa
open Go.ChangeShapes Go.WideShapes Go.ChangeAt Go.RowKit
set_option linter.unusedVariables false
theorem wpList_append_y8 {ops : Array Oper} {rest : List Oper} {o : Oper} {a : Act} {w : World} {Q : Exit → Act → World → Prop} (s x : Operand) (hgd : o.guard = Option.none) (ho : o.op = .call { callee := .builtin .append, args := #[s, x], argTypes := #[28, 28] }) {B C : Nat} {v X : Value} {M L : List Int} (hs : a.eval s = v) (hx : a.eval x = X) (hv : Y8 B w v M) (hX : BOwn C w X L) (hl : M.length + L.length ≤ 100000) (h0 : 0 < L.length)
    (h : ∀ g nl cap w', Y8 B w' (.slice (some ⟨g, 0, Option.none⟩) nl cap) (M ++ L) → w.grownBy w' v.ownBlock → wpList Try.prog ops Q rest (a.put o.dst (.slice (some ⟨g, 0, Option.none⟩) nl cap)) w') : wpList Try.prog ops Q (o :: rest) a w := by
  obtain ⟨g, cap, w', e1, e2, e3⟩ := run_append_y8 (ty := o.type) hv hX hl h0
  exact Lib.wpList_append_run w hgd s x 28 28 ho v X hs hx _ w' e1 (h g _ cap w' e2 e3)
theorem wpList_append_t8n {ops : Array Oper} {rest : List Oper} {o : Oper} {a : Act} {w : World} {Q : Exit → Act → World → Prop} (s x : Operand) (hgd : o.guard = Option.none) (ho : o.op = .call { callee := .builtin .append, args := #[s, x], argTypes := #[38, 38] }) {B p c : Nat} {u : Value} (hs : a.eval s = .slice none 0 0) (hx : a.eval x = .slice (some ⟨p, 0, Option.none⟩) 1 c) (hB : B ≤ w.heap.size) (hu : w.cell? ⟨p, 0, Option.none⟩ = some u) (h1 : u.oneCell' = true)
    (h : ∀ g cap w', T8 B w' (.slice (some ⟨g, 0, Option.none⟩) 1 cap) [u] → Below w.heap.size w w' → wpList Try.prog ops Q rest (a.put o.dst (.slice (some ⟨g, 0, Option.none⟩) 1 cap)) w') : wpList Try.prog ops Q (o :: rest) a w := by
  obtain ⟨g, cap, w', e1, e2, e3, e4⟩ := run_append_t8 (ty := o.type) (c := c) (T8.nil B w hB) hu h1 (by simp)
  exact Lib.wpList_append_run w hgd s x 38 38 ho _ _ hs hx _ w' e1 (h g cap w' e2 (below_grown (Below.refl _ _) (Nat.le_refl _) e3 (fun q hq => by simp [Value.ownBlock] at hq)))
theorem Lq.first {tb : Nat} {s y l : Int} {NL : Nat} {MF : Nat → List Int} {w w8 : World} {u : Value} {o : Obj} {g cap : Nat} (TT : C4 w tb (.int .i64 s) (.int .i64 y) (.int .i64 l) (.slice none 0 0)) (Y : Y8 (tb + 1) w u (MF 0)) (b8 : Below (w.alloc o).heap.size (w.alloc o) w8) (HT : T8 (tb + 1) w8 (.slice (some ⟨g, 0, none⟩) 1 cap) [u]) :
    C4 w8 tb (.int .i64 s) (.int .i64 y) (.int .i64 l) (.slice none 0 0) ∧ ∀ (w9 w10 : World) (sv : Value), w8.setCell ⟨tb, 3, none⟩ (.slice (some ⟨g, 0, none⟩) 1 cap) = w9 → Below w9.heap.size w9 w10 → SdF w9.heap.size w10.heap.size w10 sv NL s y → Lq tb w9.heap.size w10.heap.size s y l NL sv MF w10 0 [u] (.slice (some ⟨g, 0, none⟩) 1 cap) w10 ∧ Below tb w w10 := by
  have T8n := (TT.next (alloc_b (o := o))).next b8
  refine ⟨T8n, ?_⟩
  rintro w9 w10 sv rfl b10 S10
  have O9 := (Only.refl tb w8).setCell 3 (.slice (some ⟨g, 0, none⟩) 1 cap)
  have hg := HT.lt g rfl
  have T9 := HT.grown (only_grown O9) (Or.inr (by simp [Value.ownBlock]; omega))
  have Y9 := (((Y.alloc o).next b8).grown (only_grown O9) (by
    cases e : u.ownBlock with
    | none => exact Or.inl rfl
    | some q => exact Or.inr (by have := (Y.lt q e).1; simp; omega))).next b10
  have hz := O9.size
  have hz2 := b10.size
  have a1 : w.heap.size ≤ (w.alloc o).heap.size := alloc_b.size
  have a2 := b8.size
  have htb := TT.hi
  refine ⟨⟨(T8n.s3 _).next b10, T9.next b10, Lv.snoc (Lv.nil _ _ _) (C := tb + 1) Y9 (fun i g hi => absurd hi (by simp)) (Nat.le_refl _), S10, fun q hq => ?_, Below.refl _ _, rfl, Nat.le_refl _, by omega⟩, (((alloc_b.mono (by omega)).trans (b8.mono (by omega))).trans (O9.below (Nat.le_refl _) (by omega))).trans (b10.mono (by omega))⟩
  simp [Value.ownBlock] at hq
  subst hq
  left
  omega
theorem mat_jn {tb B C : Nat} {s y l : Int} {NL : Nat} {sv : Value} {MF : Nat → List Int} {V : World} {j : Nat} {us : List Value} {lv : Value} {w : World} (H : Lq tb B C s y l NL sv MF V j us lv w) (hf : l = 1 ∨ l = 2 ∨ l = 3) (hs : gS s) (hy : gS y) (hMF : ∀ k, k < 5 → ((MF k).length : Int) = sdI s k * sdI y k * (szF l : Int) ∧ ∀ x, x ∈ MF k → 0 ≤ x ∧ x ≤ 255) (hj : j < 4)
    (X Y i d : Nat) (hX : X < (sdI s (j + 1)).toNat) (hY : Y < (sdI y (j + 1)).toNat) (hi : i < mn2 (sdI s j)) (hd : d < mn2 (sdI y j)) (w' : World) (b : Below w.heap.size w w') :
    Calls Try.prog 55 #[.agg #[.int .i64 s, .int .i64 y, .int .i64 l, lv], .int .i64 (j : Int), .int .i64 (sdI s j), .int .i64 (2 * (X : Int) + (i : Int)), .int .i64 (2 * (Y : Int) + (d : Int))] w' fun e w'' => e = .returned (colV (jnC l (sdI s j) (MF j) (2 * (X : Int)) (2 * (Y : Int)) (d * mn2 (sdI s j) + i))) ∧ Below w'.heap.size w' w'' := by
  have gs := gS_sd hs j (by omega)
  have gy := gS_sd hy j (by omega)
  obtain ⟨a0, a1⟩ := gS_bnd gs
  obtain ⟨b0, b1⟩ := gS_bnd gy
  rw [← sd_sd hs j (by omega)] at hX
  rw [← sd_sd hy j (by omega)] at hY
  have hx := half_in gs hX
  have hz := half_in gy hY
  obtain ⟨m1, m2⟩ := hMF j (by omega)
  have hlk : (MF j).length ≤ 1048576 := by
    have z4 : szF l ≤ 4 := by rcases hf with rfl | rfl | rfl <;> decide
    have h5 : sdI s j * sdI y j ≤ 16 * 16 := Int.mul_le_mul a1 b1 (by omega) (by decide)
    have h7 : sdI s j * sdI y j * (szF l : Int) ≤ (16 * 16) * 4 := Int.mul_le_mul h5 (by omega) (by omega) (by decide)
    omega
  have R : BRows w' lv (j + 1) MF := by
    have h1 := (H.o.next b).rows (F := MF) (fun i hi => ((H.r.next b).rows i hi))
    rwa [H.h] at h1
  have na := mn2_pos a0
  obtain ⟨f1, f2, f3, f4, f5⟩ := pt_facts hf a0 a1 b0 b1 m1 (show 0 ≤ 2 * (X : Int) + (i : Int) by omega) (show 2 * (X : Int) + (i : Int) < sdI s j by omega) (show 0 ≤ 2 * (Y : Int) + (d : Int) by omega) (show 2 * (Y : Int) + (d : Int) < sdI y j by omega)
  have h := mat s y l lv (j + 1) j (ptN l (sdI s j) (2 * (X : Int) + (i : Int)) (2 * (Y : Int) + (d : Int))) MF (sdI s j) (2 * (X : Int) + (i : Int)) (2 * (Y : Int) + (d : Int)) w' R (by omega) hf (fun k q hk hq => byte_getD (hMF k (by omega)).2 q hq) f1 f2 f3 f4 (by omega) (by omega) f5 (by omega) hlk
  have e1 : (d * mn2 (sdI s j) + i) % mn2 (sdI s j) = i := by rw [Nat.mul_comm, Nat.mul_add_mod]; exact Nat.mod_eq_of_lt hi
  have e2 : (d * mn2 (sdI s j) + i) / mn2 (sdI s j) = d := by rw [Nat.mul_comm, Nat.mul_add_div (by omega), Nat.div_eq_of_lt hi, Nat.add_zero]
  have e3 : jnC l (sdI s j) (MF j) (2 * (X : Int)) (2 * (Y : Int)) (d * mn2 (sdI s j) + i) = pxC l (MF j) (ptN l (sdI s j) (2 * (X : Int) + (i : Int)) (2 * (Y : Int) + (d : Int))) := by unfold jnC; rw [e1, e2]
  rw [e3]
  exact h
theorem Y8.upto {B C : Nat} {w w' : World} {v : Value} {L : List Int} (h : Y8 B w v L) (b : Below C w w') (hv : ∀ q, v.ownBlock = some q → q < C) : Y8 B w' v L := by
  refine ⟨⟨h.1.1, ?_⟩, Nat.le_trans h.2 b.size⟩
  rcases h.1.2 with h1 | ⟨g, cap, cur, rfl, h2, h3, h4⟩
  · exact Or.inl h1
  · exact Or.inr ⟨g, cap, cur, rfl, h2, (b.block g (hv g rfl)).trans h3, h4⟩
/-- Where the second row or column ends. -/
theorem mn2_end {A : Int} (hA : gS A) {X : Nat} (hX : X < (sdI A 1).toNat) : mn2 A = 2 ∨ mn2 A = 1 ∧ A ≤ 2 * (X : Int) + 1 := by
  rcases hA with rfl | rfl | rfl | rfl | rfl
  · right; exact ⟨by decide, by omega⟩
  all_goals left; decide
/-- A round's color is a quotient that the model takes as it is. -/
theorem bl_div {f : Nat → Int} {N : Nat} (hf : ∀ i, i < N → 0 ≤ f i ∧ f i ≤ 255) (h1 : 1 ≤ N) (h4 : N ≤ 4) : (sm f one N + ((N : Int) / 2)).tdiv (N : Int) = (sm f one N + al one N / 2) / al one N ∧ 0 ≤ sm f one N ∧ sm f one N ≤ 1020 := by
  have hb : ∀ k, k ≤ N → 0 ≤ sm f one k ∧ sm f one k ≤ 255 * k := by
    intro k
    induction k with
    | zero => intro _; simp [sm]
    | succ k ih =>
      intro hk
      have h1 := ih (by omega)
      have h2 := hf k (by omega)
      rw [sm, show one k = 1 from rfl]
      omega
  have h := hb N (Nat.le_refl _)
  rw [al_one]
  refine ⟨Int.tdiv_eq_ediv_of_nonneg (by omega), h.1, by omega⟩
end Go.Proofs.Ythkngcdfnemhaaa
