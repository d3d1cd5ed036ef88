/- What good code gives: targets, what may come next, registers below how many there are. No function of the program is spoken of here. -/
import Derived.Test.YtmeokhppaekhpaaDoorLvc
namespace Go.Proofs.YtmeokhppaekhpaaDoor
open Go.ChangeShapes Go.WideShapes Go.ChangeAt Go.RowKit
set_option linter.unusedVariables false
def Tgs (O A B C : Nat → Int) (n : Nat) : Prop := ∀ k, k < n → (O k = 8 → 0 ≤ A k ∧ A k < n) ∧ (O k = 9 → (0 ≤ B k ∧ B k < n) ∧ 0 ≤ C k ∧ C k < n)
theorem okF_at {o d a b c x n : Int} (h : okF o d a b c x n 5 = true) (f : Nat) (hf : f < 5) : inB (val d a b c x f) (gv o f n) = true := by
  cases hv : inB (val d a b c x f) (gv o f n)
  · rw [okF_stop o d a b c x n f hv 5 hf] at h; cases h
  · rfl
theorem tgs_of {O D A B C X : Nat → Int} {n : Nat} (h : goodC O D A B C X n = true) : Tgs O A B C n := by
  unfold goodC at h
  simp only [Bool.and_eq_true, decide_eq_true_eq] at h
  obtain ⟨⟨h1, h2⟩, h3, _⟩ := h
  intro k hk
  have hg := allB_at _ n k h3 hk
  have hf : okF (O k) (D k) (A k) (B k) (C k) (X k) (n : Int) 5 = true := by
    unfold gdI goodI at hg
    rw [Bool.and_eq_true] at hg
    exact hg.1
  have f1 := okF_at hf 1 (by omega)
  have f2 := okF_at hf 2 (by omega)
  have f3 := okF_at hf 3 (by omega)
  refine ⟨fun h8 => ?_, fun h9 => ?_⟩
  · rw [h8] at f1
    simp [gv, nmd, isN, val, inB] at f1
    omega
  · rw [h9] at f2 f3
    simp [gv, nmd, isN, val, inB] at f2 f3
    omega
theorem sucs_of {O D A B C X : Nat → Int} {n : Nat} (h : goodC O D A B C X n = true) : Sucs O A B C n := by
  have hT := tgs_of h
  have hl : lastB (O (n - 1)) = true := by
    unfold goodC at h
    simp only [Bool.and_eq_true] at h
    exact h.2.2
  have hn : 1 ≤ n := (goodC_bds h).2.1
  intro k hk t ht
  unfold sucL tgL at ht
  rcases List.mem_append.1 ht with h1 | h1
  · split at h1
    · rename_i e
      have := (hT k hk).1 e
      simp at h1
      subst h1
      exact this
    · split at h1
      · rename_i e
        have := (hT k hk).2 e
        simp at h1
        rcases h1 with rfl | rfl
        · exact this.1
        · exact this.2
      · cases h1
  · split at h1
    · cases h1
    · rename_i e
      simp at h1
      subst h1
      refine ⟨by omega, ?_⟩
      by_cases ek : k = n - 1
      · subst ek
        unfold lastB at hl
        simp at hl
        omega
      · omega
theorem okF_of {O D A B C X : Nat → Int} {n : Nat} (h : goodC O D A B C X n = true) (k : Nat) (hk : k < n) : okF (O k) (D k) (A k) (B k) (C k) (X k) (n : Int) 5 = true := by
  unfold goodC at h
  simp only [Bool.and_eq_true, decide_eq_true_eq] at h
  obtain ⟨⟨h1, h2⟩, h3, _⟩ := h
  have hg := allB_at _ n k h3 hk
  unfold gdI goodI at hg
  rw [Bool.and_eq_true] at hg
  exact hg.1
theorem wr_bnd {o d a b c x n : Int} (h : okF o d a b c x n 5 = true) (hw : nmd o 0 = true) : 0 ≤ d ∧ d < 400 := by
  have f0 := okF_at h 0 (by omega)
  unfold gv at f0
  rw [hw] at f0
  simp [isN, val, inB] at f0
  omega
theorem op_bnd {o d a b c x n : Int} (h : okF o d a b c x n 5 = true) : ∀ y, y ∈ opsL o a b c x → 0 ≤ y ∧ y < 400 := by
  have f1 := okF_at h 1 (by omega)
  have f2 := okF_at h 2 (by omega)
  have f3 := okF_at h 3 (by omega)
  intro y hy
  unfold opsL at hy
  split at hy
  · rename_i e
    obtain rfl : y = a := by simpa using hy
    rcases e with e | e | e | e | e <;> subst e <;> simp [gv, nmd, isN, val, inB] at f1 <;> omega
  · split at hy
    · rename_i e
      have : y = a ∨ y = b := by simpa using hy
      rcases e with e | e <;> subst e <;> simp [gv, nmd, isN, val, inB] at f1 f2 <;> omega
    · split at hy
      · rename_i e
        have hm := List.mem_of_mem_take hy
        have : y = a ∨ y = b ∨ y = c := by simpa using hm
        subst e
        simp [gv, nmd, isN, val, inB] at f1 f2 f3
        omega
      · cases hy
theorem lds_ge (o d n : Int) : n ≤ lds o d n ∧ (nmd o 0 = true → d + 1 ≤ lds o d n) := by
  unfold lds
  have := up_ge n d
  split
  · exact ⟨this.1, fun _ => this.2⟩
  · rename_i h
    exact ⟨Int.le_refl _, fun q => absurd q h⟩
theorem rgn_step (O D A B C X : Nat → Int) (k : Nat) : rgn O D A B C X k ≤ rgn O D A B C X (k + 1) ∧ (nmd (O k) 0 = true → D k + 1 ≤ rgn O D A B C X (k + 1)) ∧ ∀ y, y ∈ opsL (O k) (A k) (B k) (C k) (X k) → y + 1 ≤ rgn O D A B C X (k + 1) := by
  have e : rgn O D A B C X (k + 1) = ups (lds (O k) (D k) (rgn O D A B C X k)) (opsL (O k) (A k) (B k) (C k) (X k)) := rfl
  have l := lds_ge (O k) (D k) (rgn O D A B C X k)
  have g := ups_ge (opsL (O k) (A k) (B k) (C k) (X k)) (lds (O k) (D k) (rgn O D A B C X k))
  rw [e]
  exact ⟨by omega, fun q => by have := l.2 q; omega, g.2⟩
theorem rgn_mono (O D A B C X : Nat → Int) {k m : Nat} (h : k ≤ m) : rgn O D A B C X k ≤ rgn O D A B C X m := by
  induction m with
  | zero => obtain rfl : k = 0 := by omega
            exact Int.le_refl _
  | succ m ih =>
    by_cases e : k = m + 1
    · subst e; exact Int.le_refl _
    · have := ih (by omega)
      have := (rgn_step O D A B C X m).1
      omega
theorem rgn_400 {O D A B C X : Nat → Int} {n : Nat} (h : goodC O D A B C X n = true) : ∀ k, k ≤ n → 0 ≤ rgn O D A B C X k ∧ rgn O D A B C X k ≤ 400
  | 0, _ => by unfold rgn; omega
  | k + 1, hk => by
    have ih := rgn_400 h k (by omega)
    have e : rgn O D A B C X (k + 1) = ups (lds (O k) (D k) (rgn O D A B C X k)) (opsL (O k) (A k) (B k) (C k) (X k)) := rfl
    have hf := okF_of h k (by omega)
    have l := lds_ge (O k) (D k) (rgn O D A B C X k)
    have l2 : lds (O k) (D k) (rgn O D A B C X k) ≤ 400 := by
      unfold lds up
      split
      · rename_i q
        have := wr_bnd hf q
        split <;> omega
      · omega
    have g := ups_ge (opsL (O k) (A k) (B k) (C k) (X k)) (lds (O k) (D k) (rgn O D A B C X k))
    have b := ups_bnd (l := opsL (O k) (A k) (B k) (C k) (X k)) l2 (fun y hy => by have := op_bnd hf y hy; omega)
    rw [e]
    omega
/-- How many registers good code has. -/
def Cd.R (c : Cd) : Nat := (rgn c.O c.D c.A c.B c.C c.X c.n).toNat
theorem lvok_of {c : Cd} (h : goodC c.O c.D c.A c.B c.C c.X c.n = true) (hX : Wds c.X c.n) : LvOk c c.R ∧ (∀ k, k < c.n → nmd (c.O k) 0 = true → c.D k < c.R) ∧ (c.R : Int) = rgn c.O c.D c.A c.B c.C c.X c.n := by
  obtain ⟨h6, h1, hb⟩ := goodC_bds h
  have r4 := rgn_400 h c.n (Nat.le_refl _)
  have hr : (c.R : Int) = rgn c.O c.D c.A c.B c.C c.X c.n := by unfold Cd.R; omega
  refine ⟨⟨h1, h6, by omega, fun k hk => (hb k hk).1, good_call h, fun k hk => hX k hk, fun k hk t ht => ?_, fun k hk r hr' => ?_, fun k hk hw => (wr_bnd (okF_of h k hk) hw).1⟩, fun k hk hw => ?_, hr⟩
  · have hs := sucs_of h k hk t (by unfold sucL; exact List.mem_append.2 (Or.inl ht))
    exact hs
  · have h1 := op_bnd (okF_of h k hk) r hr'
    have h2 := (rgn_step c.O c.D c.A c.B c.C c.X k).2.2 r hr'
    have h3 := rgn_mono c.O c.D c.A c.B c.C c.X (show k + 1 ≤ c.n by omega)
    omega
  · have h2 := (rgn_step c.O c.D c.A c.B c.C c.X k).2.1 hw
    have h3 := rgn_mono c.O c.D c.A c.B c.C c.X (show k + 1 ≤ c.n by omega)
    omega
theorem whL_len2 (Z : Nat → Bool) : ∀ n, (whL Z n).length ≤ n := whL_len Z
theorem whL_count (Z : Nat → Bool) (k : Nat) : ∀ n, (whL Z n).count (k : Int) = if k < n ∧ Z k = true then 1 else 0
  | 0 => by simp [whL]
  | n + 1 => by
    rw [whL, List.count_append, whL_count Z k n]
    by_cases e : k = n
    · subst e
      rw [if_neg (by omega)]
      cases h : Z k
      · simp
      · simp
    · have : List.count (k : Int) (if Z n then [(n : Int)] else []) = 0 := by
        rw [List.count_eq_zero]
        split
        · simp; omega
        · simp
      rw [this, Nat.add_zero]
      by_cases q : k < n ∧ Z k = true
      · rw [if_pos q, if_pos ⟨by omega, q.2⟩]
      · rw [if_neg q, if_neg (by intro p; exact q ⟨by omega, p.2⟩)]
/-- What was found for registers, told for an instruction. -/
theorem col_live (F : Nat → Nat → Bool) (n k : Nat) (hk : k < n) : ∀ R, colL (fun r => whL (fun i => F i r) n) R k = lsF (F k) R
  | 0 => rfl
  | R + 1 => by
    rw [colL, lsF, col_live F n k hk R, whL_count]
    congr 1
    cases h : F k R
    · rw [if_neg (by simp)]
      simp
    · rw [if_pos ⟨hk, rfl⟩]
      simp
end Go.Proofs.YtmeokhppaekhpaaDoor
