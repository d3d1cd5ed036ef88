/- Hits in order: the one rising list. -/
import Derived.Test.YtngmaeinehfimaaMc
namespace Go.Proofs.Ytngmaeinehfimaa
open Go.ChangeShapes Go.WideShapes Go.ChangeAt Go.RowKit
set_option linter.unusedVariables false
/-- x comes no earlier than y. -/
def geH (x y : TupH) : Prop := ¬ x.2.1 * y.2.2 < y.2.1 * x.2.2
/-- x lies ahead of y: by when, then by number. -/
def ltH (x y : TupH) : Prop := ¬ geH x y ∨ (geH y x ∧ x.1 < y.1)
def lsB (x y : TupH) : Bool := decide (x.2.1 * y.2.2 < y.2.1 * x.2.2)
theorem lsB_t {x y : TupH} : lsB x y = true ↔ ¬ geH x y := by unfold lsB geH; rw [decide_eq_true_eq]; exact ⟨fun h k => k h, fun h => Decidable.of_not_not h⟩
theorem lsB_f {x y : TupH} : lsB x y = false ↔ geH x y := by unfold lsB geH; rw [decide_eq_false_iff_not]
theorem geH_trans {x y z : TupH} (hx : 0 < x.2.2) (hy : 0 < y.2.2) (hz : 0 < z.2.2) (h : geH x y) (k : geH y z) : geH x z := ge_ge hy hx h hz k
theorem geH_total {x y : TupH} (h : ¬ geH x y) : geH y x := by unfold geH at *; omega
theorem ltH_asymm {x y : TupH} (h : ltH x y) (k : ltH y x) : False := by
  rcases h with h | ⟨h1, h2⟩
  · rcases k with k | ⟨k1, k2⟩
    · exact k (geH_total h)
    · exact h k1
  · rcases k with k | ⟨k1, k2⟩
    · exact k h1
    · omega
theorem ltH_irrefl {x : TupH} (h : ltH x x) : False := ltH_asymm h h
theorem ltH_ge {x y : TupH} (h : ltH x y) : geH y x := by
  rcases h with h | ⟨h, _⟩
  · exact geH_total h
  · exact h
theorem ltH_trans {x y z : TupH} (hx : 0 < x.2.2) (hy : 0 < y.2.2) (hz : 0 < z.2.2) (h : ltH x y) (k : ltH y z) : ltH x z := by
  by_cases hxz : geH x z
  · have h1 : geH x y := geH_trans hx hz hy hxz (ltH_ge k)
    have h2 : geH y z := geH_trans hy hx hz (ltH_ge h) hxz
    have hyx := ltH_ge h
    have hzy := ltH_ge k
    rcases h with h | ⟨_, h3⟩
    · exact absurd h1 h
    rcases k with k | ⟨_, k3⟩
    · exact absurd h2 k
    exact Or.inr ⟨geH_trans hz hy hx hzy hyx, by omega⟩
  · exact Or.inl hxz
/-- How many are not behind it, of the first k. -/
def posH (t : TupH) (l : List TupH) : Nat → Nat
  | 0 => 0
  | k + 1 => if lsB t (l.getD k (0, 0, 0)) = true then posH t l k else k + 1
theorem posH_le (t : TupH) (l : List TupH) : ∀ k, posH t l k ≤ k
  | 0 => Nat.le_refl _
  | k + 1 => by
    rw [posH]
    split
    · have := posH_le t l k; omega
    · omega
theorem posH_gt (t : TupH) (l : List TupH) : ∀ k j, posH t l k ≤ j → j < k → lsB t (l.getD j (0, 0, 0)) = true
  | 0, j, _, h => absurd h (Nat.not_lt_zero _)
  | k + 1, j, h1, h2 => by
    rw [posH] at h1
    split at h1
    · rename_i hc
      by_cases e : j = k
      · subst e; exact hc
      · exact posH_gt t l k j h1 (by omega)
    · omega
theorem posH_at (t : TupH) (l : List TupH) : ∀ k, posH t l k = 0 ∨ lsB t (l.getD (posH t l k - 1) (0, 0, 0)) = false
  | 0 => Or.inl rfl
  | k + 1 => by
    rw [posH]
    split
    · exact posH_at t l k
    · rename_i hc
      exact Or.inr (by rw [Nat.add_sub_cancel]; exact Bool.eq_false_iff.2 hc)
def insH (t : TupH) (l : List TupH) : List TupH := l.take (posH t l l.length) ++ t :: l.drop (posH t l l.length)
theorem insH_mem {t x : TupH} {l : List TupH} : x ∈ insH t l ↔ x = t ∨ x ∈ l := by
  unfold insH
  rw [List.mem_append, List.mem_cons]
  have h : x ∈ l ↔ x ∈ l.take (posH t l l.length) ∨ x ∈ l.drop (posH t l l.length) := by
    rw [← List.mem_append, List.take_append_drop]
  rw [h]
  constructor
  · rintro (h | h | h)
    · exact Or.inr (Or.inl h)
    · exact Or.inl h
    · exact Or.inr (Or.inr h)
  · rintro (h | h | h)
    · exact Or.inr (Or.inl h)
    · exact Or.inl h
    · exact Or.inr (Or.inr h)
theorem insH_len {t : TupH} {l : List TupH} : (insH t l).length = l.length + 1 := by
  have := posH_le t l l.length
  unfold insH
  simp
  omega
theorem insH_pw {t : TupH} {l : List TupH} (hp : l.Pairwise ltH) (hd : ∀ x, x ∈ l → 0 < x.2.2) (ht : 0 < t.2.2) (hn : ∀ x, x ∈ l → x.1 < t.1) : (insH t l).Pairwise ltH := by
  have hle := posH_le t l l.length
  have hgt := posH_gt t l l.length
  have hat := posH_at t l l.length
  unfold insH
  generalize posH t l l.length = p at *
  have hp2 := hp
  rw [← List.take_append_drop p l, List.pairwise_append] at hp2
  have hdr : ∀ y, y ∈ l.drop p → ltH t y := by
    intro y hy
    obtain ⟨j, hj, rfl⟩ := List.getElem_of_mem hy
    rw [List.length_drop] at hj
    have h := hgt (p + j) (by omega) (by omega)
    rw [show l.getD (p + j) (0, 0, 0) = l[p + j] by simp [List.getD, show p + j < l.length by omega]] at h
    rw [List.getElem_drop]
    exact Or.inl (lsB_t.1 h)
  rw [List.pairwise_append, List.pairwise_cons]
  refine ⟨hp2.1, ⟨hdr, hp2.2.1⟩, fun x hx y hy => ?_⟩
  rw [List.mem_cons] at hy
  rcases hy with rfl | hy
  · obtain ⟨j, hj, rfl⟩ := List.getElem_of_mem hx
    rw [List.length_take] at hj
    rcases hat with h0 | h0
    · omega
    rw [show l.getD (p - 1) (0, 0, 0) = l[p - 1]'(by omega) by simp [List.getD, show p - 1 < l.length by omega]] at h0
    have hq : ltH (l[p - 1]'(by omega)) y := Or.inr ⟨lsB_f.1 h0, hn _ (List.getElem_mem _)⟩
    rw [List.getElem_take]
    by_cases e : j = p - 1
    · subst e; exact hq
    · exact ltH_trans (hd _ (List.getElem_mem _)) (hd _ (List.getElem_mem _)) ht (List.pairwise_iff_getElem.1 hp j (p - 1) (by omega) (by omega) (by omega)) hq
  · exact hp2.2.2 x hx y hy
/-- Two rising lists of the same are one. -/
theorem eq_of_pw : ∀ {l m : List TupH}, l.Pairwise ltH → m.Pairwise ltH → (∀ x, x ∈ l ↔ x ∈ m) → l = m
  | [], [], _, _, _ => rfl
  | [], b :: m, _, _, h => absurd ((h b).2 (List.mem_cons_self)) (List.not_mem_nil)
  | a :: l, [], _, _, h => absurd ((h a).1 (List.mem_cons_self)) (List.not_mem_nil)
  | a :: l, b :: m, hl, hm, h => by
    rw [List.pairwise_cons] at hl hm
    have e : a = b := by
      rcases List.mem_cons.1 ((h a).1 List.mem_cons_self) with e | e
      · exact e
      rcases List.mem_cons.1 ((h b).2 List.mem_cons_self) with f | f
      · exact f.symm
      exact (ltH_asymm (hm.1 a e) (hl.1 b f)).elim
    subst e
    have h2 : ∀ x, x ∈ l ↔ x ∈ m := fun x => by
      constructor
      · intro hx
        rcases List.mem_cons.1 ((h x).1 (List.mem_cons_of_mem _ hx)) with e | e
        · subst e; exact (ltH_irrefl (hl.1 x hx)).elim
        · exact e
      · intro hx
        rcases List.mem_cons.1 ((h x).2 (List.mem_cons_of_mem _ hx)) with e | e
        · subst e; exact (ltH_irrefl (hm.1 x hx)).elim
        · exact e
    rw [eq_of_pw hl.2 hm.2 h2]
section
variable (P : Nat → Bool) (A D : Nat → Int)
/-- Hits as they come. -/
def hitsU : Nat → List TupH
  | 0 => []
  | i + 1 => if P i = true then hitsU i ++ [((i : Int), A i, D i)] else hitsU i
/-- Hits, each put in where it stands. -/
def hitsM : Nat → List TupH
  | 0 => []
  | i + 1 => if P i = true then insH ((i : Int), A i, D i) (hitsM i) else hitsM i
end
variable {P : Nat → Bool} {A D : Nat → Int}
theorem hitsU_mem : ∀ {n : Nat} {x : TupH}, x ∈ hitsU P A D n → ∃ i, i < n ∧ P i = true ∧ x = ((i : Int), A i, D i)
  | 0, x, h => absurd h List.not_mem_nil
  | n + 1, x, h => by
    rw [hitsU] at h
    split at h
    · rename_i hc
      rcases List.mem_append.1 h with h | h
      · obtain ⟨i, hi, k⟩ := hitsU_mem h; exact ⟨i, by omega, k⟩
      · exact ⟨n, by omega, hc, by simpa using h⟩
    · obtain ⟨i, hi, k⟩ := hitsU_mem h; exact ⟨i, by omega, k⟩
theorem hitsM_mem : ∀ {n : Nat} {x : TupH}, x ∈ hitsM P A D n ↔ x ∈ hitsU P A D n
  | 0, x => Iff.rfl
  | n + 1, x => by
    rw [hitsU, hitsM]
    split
    · rw [insH_mem, List.mem_append, hitsM_mem, List.mem_singleton, or_comm]
    · exact hitsM_mem
theorem hitsM_len : ∀ n : Nat, (hitsM P A D n).length ≤ n
  | 0 => Nat.le_refl _
  | n + 1 => by
    have := hitsM_len n
    rw [hitsM]
    split
    · rw [insH_len]; omega
    · omega
theorem hitsU_len : ∀ n : Nat, (hitsU P A D n).length ≤ n
  | 0 => Nat.le_refl _
  | n + 1 => by
    have := hitsU_len n
    rw [hitsU]
    split
    · simp; omega
    · omega
theorem hitsM_pw : ∀ {n : Nat}, (∀ i, i < n → P i = true → 0 < D i) → (hitsM P A D n).Pairwise ltH
  | 0, _ => List.Pairwise.nil
  | n + 1, h => by
    have ih := hitsM_pw (n := n) (fun i hi => h i (by omega))
    rw [hitsM]
    split
    · rename_i hc
      refine insH_pw ih (fun x hx => ?_) (h n (by omega) hc) (fun x hx => ?_)
      · obtain ⟨i, hi, hp, rfl⟩ := hitsU_mem (hitsM_mem.1 hx)
        exact h i (by omega) hp
      · obtain ⟨i, hi, hp, rfl⟩ := hitsU_mem (hitsM_mem.1 hx)
        show (i : Int) < (n : Int)
        omega
    · exact ih
theorem hitsU_apart : ∀ n : Nat, (hitsU P A D n).Pairwise (fun x y => x.1 ≠ y.1)
  | 0 => List.Pairwise.nil
  | n + 1 => by
    rw [hitsU]
    split
    · rw [List.pairwise_append]
      refine ⟨hitsU_apart n, List.pairwise_singleton _ _, fun x hx y hy => ?_⟩
      obtain ⟨i, hi, hp, rfl⟩ := hitsU_mem hx
      rw [List.mem_singleton] at hy
      subst hy
      show (i : Int) ≠ (n : Int)
      omega
    · exact hitsU_apart n
/-- What is sorted of the hits as they come is the hits put in. -/
theorem sorted_hits {n : Nat} {m : List TupH} (hD : ∀ i, i < n → P i = true → 0 < D i) (hp : m.Perm (hitsU P A D n)) (hs : ∀ (i j : Nat) (hi : i < m.length) (hj : j < m.length), i < j → ¬ ltH m[j] m[i]) : m = hitsM P A D n := by
  refine eq_of_pw ?_ (hitsM_pw hD) (fun x => by rw [hitsM_mem]; exact hp.mem_iff)
  have hap : m.Pairwise (fun x y => x.1 ≠ y.1) := (List.Perm.pairwise_iff (fun h => Ne.symm h) hp).2 (hitsU_apart n)
  rw [List.pairwise_iff_getElem] at hap ⊢
  intro i j hi hj hij
  have h1 := hs i j hi hj hij
  have h2 := hap i j hi hj hij
  generalize m[i] = x at *
  generalize m[j] = y at *
  by_cases g : geH x y
  · by_cases g2 : geH y x
    · refine Or.inr ⟨g2, ?_⟩
      have h3 : ¬ y.1 < x.1 := fun h => h1 (Or.inr ⟨g, h⟩)
      omega
    · exact absurd (Or.inl g2) h1
  · exact Or.inl g
end Go.Proofs.Ytngmaeinehfimaa
