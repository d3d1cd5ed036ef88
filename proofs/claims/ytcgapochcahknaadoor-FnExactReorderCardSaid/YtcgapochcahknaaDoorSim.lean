/- The order in which a row is issued. No program. -/
import Derived.Test.YtcgapochcahknaaDoorSch
namespace Go.Proofs.YtcgapochcahknaaDoor
set_option linter.unusedVariables false
/-- Heights, with fuel. -/
def Rw.hx (r : Rw) : Nat → Nat → Nat
  | 0, i => r.lat i
  | f + 1, i => mx (fun j => if i < j ∧ r.ned i j = true then r.hx f j + r.wt i j else 0) (r.lat i) r.n
theorem mx_zero (f : Nat → Nat) (b : Nat) : ∀ k, (∀ i, i < k → f i = 0) → mx f b k = b
  | 0, _ => rfl
  | k + 1, h => by rw [mx, mx_zero f b k (fun i hi => h i (by omega)), h k (by omega)]; omega
theorem Rw.hx_stable (r : Rw) : ∀ (f g i : Nat), r.n ≤ i + f → r.n ≤ i + g → r.hx f i = r.hx g i
  | 0, 0, _, _, _ => rfl
  | 0, g + 1, i, h, _ => by
    rw [hx, hx, mx_zero]
    intro j hj
    rw [if_neg (by omega)]
  | f + 1, 0, i, _, h => by
    rw [hx, hx, mx_zero]
    intro j hj
    rw [if_neg (by omega)]
  | f + 1, g + 1, i, h1, h2 => by
    rw [hx, hx]
    refine mx_ext _ _ fun j hj => ?_
    by_cases e : i < j ∧ r.ned i j = true
    · rw [if_pos e, if_pos e, Rw.hx_stable r f g j (by omega) (by omega)]
    · rw [if_neg e, if_neg e]
def Rw.H (r : Rw) (i : Nat) : Nat := r.hx r.n i
/-- What j adds to the height of i. -/
def Rw.hc (r : Rw) (i j : Nat) : Nat := if i < j ∧ r.ned i j = true then r.H j + r.wt i j else 0
theorem Rw.H_eq (r : Rw) (i : Nat) : r.H i = mx (r.hc i) (r.lat i) r.n := by
  show r.hx r.n i = _
  rw [Rw.hx_stable r r.n (r.n + 1) i (by omega) (by omega), hx]
  rfl
theorem Rw.hx_le {r : Rw} (h : r.Ok) : ∀ f i, r.hx f i ≤ 8 * f + 8
  | 0, i => by rw [hx]; exact h.l8 i
  | f + 1, i => by
    rw [hx]
    refine mx_le _ _ _ (by have := h.l8 i; omega) _ fun j _ => ?_
    have h1 := Rw.hx_le h f j
    have h2 := h.wt8 i j
    show (if i < j ∧ r.ned i j = true then r.hx f j + r.wt i j else 0) ≤ _
    split
    · have : r.hx f j + r.wt i j ≤ (8 * f + 8) + 8 := Nat.add_le_add h1 h2
      omega
    · omega
theorem Rw.H_le {r : Rw} (h : r.Ok) (i : Nat) : r.H i ≤ 8 * r.n + 8 := Rw.hx_le h _ _
/-- Of those from d on alone. -/
def Rw.hd (r : Rw) (d i : Nat) : Nat := mx (fun j => if d ≤ j then r.hc i j else 0) (r.lat i) r.n
theorem Rw.hd_top (r : Rw) (i : Nat) : r.hd r.n i = r.lat i := mx_zero _ _ _ fun j hj => if_neg (by omega)
theorem Rw.hd_down (r : Rw) (d i : Nat) (hd : d < r.n) : r.hd d i = max (r.hd (d + 1) i) (r.hc i d) := by
  apply Nat.le_antisymm
  · refine mx_le _ _ _ ?_ _ fun j hj => ?_
    · have := mx_base (fun j => if d + 1 ≤ j then r.hc i j else 0) (r.lat i) r.n
      unfold Rw.hd; omega
    · have h1 := mx_at (fun j => if d + 1 ≤ j then r.hc i j else 0) (r.lat i) r.n j hj
      show (if d ≤ j then _ else _) ≤ max (mx _ _ _) _
      by_cases e : j = d
      · subst e; rw [if_pos (Nat.le_refl _)]; omega
      · by_cases g : d ≤ j
        · rw [if_pos g]
          simp only [show d + 1 ≤ j by omega, if_true] at h1
          omega
        · rw [if_neg g]; omega
  · refine Nat.max_le.2 ⟨mx_le _ _ _ (mx_base _ _ _) _ fun j hj => ?_, ?_⟩
    · have h1 := mx_at (fun j => if d ≤ j then r.hc i j else 0) (r.lat i) r.n j hj
      show (if d + 1 ≤ j then _ else _) ≤ _
      by_cases g : d + 1 ≤ j
      · rw [if_pos g]
        simp only [show d ≤ j by omega, if_true] at h1
        exact h1
      · rw [if_neg g]; omega
    · have h1 := mx_at (fun j => if d ≤ j then r.hc i j else 0) (r.lat i) r.n d hd
      simp only [Nat.le_refl, if_true] at h1
      exact h1
theorem Rw.hd_H (r : Rw) (d i : Nat) (h : d ≤ i + 1) : r.hd d i = r.H i := by
  rw [Rw.H_eq]
  refine mx_ext _ _ fun j hj => ?_
  by_cases e : d ≤ j
  · rw [if_pos e]
  · rw [if_neg e]
    unfold Rw.hc
    rw [if_neg (by omega)]
/-- j can be issued at t. -/
def Rw.can (r : Rw) (out : List Nat) (iss : Nat → Nat) (t j : Nat) : Bool := !(out.contains j) && (List.range j).all fun i => !(r.ned i j) || (out.contains i && decide (iss i + r.wt i j ≤ t))
theorem Rw.can_iff (r : Rw) (out : List Nat) (iss : Nat → Nat) (t j : Nat) : r.can out iss t j = true ↔ j ∉ out ∧ ∀ i, i < j → r.ned i j = true → i ∈ out ∧ iss i + r.wt i j ≤ t := by
  unfold Rw.can
  simp only [Bool.and_eq_true, Bool.not_eq_true', List.all_eq_true, List.mem_range, Bool.or_eq_true, decide_eq_true_eq, List.contains_iff_mem]
  constructor
  · rintro ⟨h1, h2⟩
    refine ⟨fun g => by rw [← List.contains_iff_mem] at g; rw [g] at h1; exact absurd h1 (by decide), fun i hi hn => ?_⟩
    rcases h2 i hi with g | g
    · rw [hn] at g; exact absurd g (by decide)
    · exact g
  · rintro ⟨h1, h2⟩
    refine ⟨?_, fun i hi => ?_⟩
    · cases g : out.contains j
      · rfl
      · exact absurd (List.contains_iff_mem.1 g) h1
    · cases g : r.ned i j
      · exact Or.inl rfl
      · exact Or.inr (h2 i hi g)
/-- The best of those below k. -/
def Rw.bs (r : Rw) (out : List Nat) (iss : Nat → Nat) (t : Nat) : Nat → Option Nat
  | 0 => none
  | k + 1 => if r.can out iss t k then (match r.bs out iss t k with | none => some k | some b => if r.H b < r.H k then some k else some b) else r.bs out iss t k
/-- x goes ahead of y. -/
def Rw.hi (r : Rw) (x y : Nat) : Prop := r.H y < r.H x ∨ (r.H x = r.H y ∧ x ≤ y)
theorem Rw.bs_spec (r : Rw) (out : List Nat) (iss : Nat → Nat) (t : Nat) : ∀ k, (∀ b, r.bs out iss t k = some b → b < k ∧ r.can out iss t b = true ∧ ∀ j, j < k → r.can out iss t j = true → r.hi b j) ∧ (r.bs out iss t k = none → ∀ j, j < k → r.can out iss t j = false)
  | 0 => ⟨fun b h => by simp [bs] at h, fun _ j hj => by omega⟩
  | k + 1 => by
    obtain ⟨h1, h2⟩ := Rw.bs_spec r out iss t k
    rw [bs]
    cases hc : r.can out iss t k
    · simp only [Bool.false_eq_true, if_false]
      refine ⟨fun b hb => ?_, fun hb j hj => ?_⟩
      · obtain ⟨a1, a2, a3⟩ := h1 b hb
        refine ⟨by omega, a2, fun j hj hj2 => ?_⟩
        by_cases e : j = k
        · subst e; rw [hc] at hj2; exact absurd hj2 (by decide)
        · exact a3 j (by omega) hj2
      · by_cases e : j = k
        · subst e; exact hc
        · exact h2 hb j (by omega)
    · simp only [if_true]
      cases hb : r.bs out iss t k with
      | none =>
        refine ⟨fun b hb2 => ?_, fun h => by cases h⟩
        obtain rfl : k = b := by simpa using hb2
        refine ⟨by omega, hc, fun j hj hj2 => ?_⟩
        by_cases e : j = k
        · subst e; exact Or.inr ⟨rfl, Nat.le_refl _⟩
        · rw [h2 hb j (by omega)] at hj2; exact absurd hj2 (by decide)
      | some b0 =>
        obtain ⟨a1, a2, a3⟩ := h1 b0 hb
        show (∀ b, (if r.H b0 < r.H k then some k else some b0) = some b → _) ∧ ((if r.H b0 < r.H k then some k else some b0) = none → _)
        by_cases g : r.H b0 < r.H k
        · rw [if_pos g]
          refine ⟨fun b hb2 => ?_, fun h => by cases h⟩
          obtain rfl : k = b := by simpa using hb2
          refine ⟨by omega, hc, fun j hj hj2 => ?_⟩
          by_cases e : j = k
          · subst e; exact Or.inr ⟨rfl, Nat.le_refl _⟩
          · rcases a3 j (by omega) hj2 with q | q
            · exact Or.inl (by omega)
            · exact Or.inl (by omega)
        · rw [if_neg g]
          refine ⟨fun b hb2 => ?_, fun h => by cases h⟩
          obtain rfl : b0 = b := by simpa using hb2
          refine ⟨by omega, a2, fun j hj hj2 => ?_⟩
          by_cases e : j = k
          · subst e
            unfold Rw.hi
            omega
          · exact a3 j (by omega) hj2
/-- What is chosen, told by what it is. -/
theorem Rw.bs_is (r : Rw) {out : List Nat} {iss : Nat → Nat} {t b : Nat} (hb : b < r.n) (hc : r.can out iss t b = true) (hm : ∀ j, j < r.n → r.can out iss t j = true → r.hi b j) : r.bs out iss t r.n = some b := by
  obtain ⟨h1, h2⟩ := r.bs_spec out iss t r.n
  cases hx : r.bs out iss t r.n with
  | none => rw [h2 hx b hb] at hc; exact absurd hc (by decide)
  | some x =>
    obtain ⟨a1, a2, a3⟩ := h1 x hx
    have g1 := a3 b hb hc
    have g2 := hm x a1 a2
    unfold Rw.hi at g1 g2
    congr 1
    omega
theorem Rw.bs_none (r : Rw) {out : List Nat} {iss : Nat → Nat} {t : Nat} (hm : ∀ j, j < r.n → r.can out iss t j = false) : r.bs out iss t r.n = none := by
  obtain ⟨h1, h2⟩ := r.bs_spec out iss t r.n
  cases hx : r.bs out iss t r.n with
  | none => rfl
  | some x =>
    obtain ⟨a1, a2, _⟩ := h1 x hx
    rw [hm x a1] at a2
    exact absurd a2 (by decide)
def Rw.stp (r : Rw) (t : Nat) (s : List Nat × (Nat → Nat)) : List Nat × (Nat → Nat) := match r.bs s.1 s.2 t r.n with
  | none => s
  | some j => (s.1 ++ [j], upN s.2 j t)
/-- What has been issued ahead of cycle t, and when. -/
def Rw.run (r : Rw) : Nat → List Nat × (Nat → Nat)
  | 0 => ([], fun _ => 0)
  | t + 1 => r.stp t (r.run t)
/-- What holds ahead of cycle t. -/
structure Rw.Inv (r : Rw) (t : Nat) (s : List Nat × (Nat → Nat)) : Prop where
  lt : ∀ j, j ∈ s.1 → j < r.n
  nd : s.1.Nodup
  is : ∀ j, j ∈ s.1 → s.2 j < t
  ie : ∀ j, j ∈ s.1 → s.2 j < 8 * s.1.length
  kp : ∀ k i, k < s.1.length → i < s.1.getD k 0 → r.ned i (s.1.getD k 0) = true → ∃ q, q < k ∧ s.1.getD q 0 = i
theorem getD_mem {l : List Nat} {k : Nat} (h : k < l.length) : l.getD k 0 ∈ l := by simp [List.getD, h]
theorem mem_getD {l : List Nat} {x : Nat} (h : x ∈ l) : ∃ k, k < l.length ∧ l.getD k 0 = x := by
  obtain ⟨k, hk, e⟩ := List.getElem_of_mem h
  exact ⟨k, hk, by simp [List.getD, hk, e]⟩
theorem getD_snoc_lt {l : List Nat} {x k : Nat} (h : k < l.length) : (l ++ [x]).getD k 0 = l.getD k 0 := by simp [List.getD, List.getElem?_append_left h]
theorem getD_snoc_at {l : List Nat} {x : Nat} : (l ++ [x]).getD l.length 0 = x := by simp [List.getD]
theorem sub_len : ∀ {l m : List Nat}, l.Nodup → (∀ x, x ∈ l → x ∈ m) → l.length ≤ m.length
  | [], _, _, _ => Nat.zero_le _
  | a :: l, m, hn, hs => by
    have ha := hs a (by simp)
    obtain ⟨h1, h2⟩ := List.nodup_cons.1 hn
    have := sub_len (l := l) (m := m.erase a) h2 (fun x hx => (List.mem_erase_of_ne (fun (e : x = a) => h1 (by rw [← e]; exact hx))).2 (hs x (by simp [hx])))
    rw [List.length_erase_of_mem ha] at this
    have := List.length_pos_of_mem ha
    simp
    omega
theorem nodup_len {n : Nat} {l : List Nat} (h : l.Nodup) (hl : ∀ x, x ∈ l → x < n) : l.length ≤ n := by
  have := sub_len h (m := List.range n) (fun x hx => List.mem_range.2 (hl x hx))
  simpa using this
theorem nodup_all {n : Nat} {l : List Nat} (h : l.Nodup) (hl : ∀ x, x ∈ l → x < n) (hf : l.length = n) : ∀ x, x < n → x ∈ l := fun x hx => Classical.byContradiction fun g => by
  have := nodup_len (n := n) (l := x :: l) (List.nodup_cons.2 ⟨g, h⟩) (fun y hy => by
    rcases List.mem_cons.1 hy with e | e
    · omega
    · exact hl y e)
  simp at this
  omega
/-- Who is not yet issued, while some are not. -/
theorem short_miss : ∀ {n : Nat} {l : List Nat}, l.length < n → ∃ x, x < n ∧ x ∉ l ∧ ∀ y, y < x → y ∈ l := by
  intro n l h
  have hex : ∃ x, x < n ∧ x ∉ l := by
    apply Classical.byContradiction
    intro hn
    have hall : ∀ x, x < n → x ∈ l := fun x hx => Classical.byContradiction fun g => hn ⟨x, hx, g⟩
    have := sub_len (l := List.range n) (m := l) List.nodup_range (fun x hx => hall x (List.mem_range.1 hx))
    simp at this
    omega
  obtain ⟨x, hx, hm⟩ := hex
  induction x using Nat.strongRecOn with
  | ind x ih =>
    by_cases g : ∃ y, y < x ∧ y ∉ l
    · obtain ⟨y, hy, hy2⟩ := g
      exact ih y hy (by omega) hy2
    · exact ⟨x, hx, hm, fun y hy => Classical.byContradiction fun q => g ⟨y, hy, q⟩⟩
theorem Rw.stp_inv {r : Rw} {t : Nat} {s : List Nat × (Nat → Nat)} (h : r.Inv t s) (ht : t ≤ 8 * s.1.length + 7) : r.Inv (t + 1) (r.stp t s) := by
  unfold Rw.stp
  cases hb : r.bs s.1 s.2 t r.n with
  | none => exact ⟨h.lt, h.nd, fun j hj => Nat.lt_succ_of_lt (h.is j hj), h.ie, h.kp⟩
  | some b =>
    obtain ⟨a1, a2, _⟩ := (r.bs_spec s.1 s.2 t r.n).1 b hb
    obtain ⟨c1, c2⟩ := (r.can_iff s.1 s.2 t b).1 a2
    refine ⟨fun j hj => ?_, ?_, fun j hj => ?_, fun j hj => ?_, fun k i hk hi hn => ?_⟩
    · rcases List.mem_append.1 hj with g | g
      · exact h.lt j g
      · obtain rfl : j = b := by simpa using g
        exact a1
    · exact List.nodup_append.2 ⟨h.nd, by simp, fun x hx y hy => by
        obtain rfl : y = b := by simpa using hy
        exact fun e => c1 (e ▸ hx)⟩
    · show upN s.2 b t j < _
      unfold upN
      split
      · omega
      · rcases List.mem_append.1 hj with g | g
        · have := h.is j g; omega
        · exact absurd (by simpa using g) (by assumption)
    · show upN s.2 b t j < 8 * (s.1 ++ [b]).length
      rw [List.length_append]
      unfold upN
      split
      · simp; omega
      · rcases List.mem_append.1 hj with g | g
        · have := h.ie j g; simp; omega
        · exact absurd (by simpa using g) (by assumption)
    · simp only [List.length_append, List.length_cons, List.length_nil] at hk
      by_cases e : k = s.1.length
      · subst e
        rw [getD_snoc_at] at hi hn
        obtain ⟨m1, _⟩ := c2 i hi hn
        obtain ⟨q, hq, e⟩ := mem_getD m1
        exact ⟨q, hq, by rw [getD_snoc_lt hq]; exact e⟩
      · rw [getD_snoc_lt (by omega)] at hi hn
        obtain ⟨q, hq, e2⟩ := h.kp k i (by omega) hi hn
        exact ⟨q, hq, by rw [getD_snoc_lt (by omega)]; exact e2⟩
theorem Rw.stp_full {r : Rw} {t : Nat} {s : List Nat × (Nat → Nat)} (h : r.Inv t s) (hf : s.1.length = r.n) : r.stp t s = s := by
  have : r.bs s.1 s.2 t r.n = none := r.bs_none fun j hj => by
    cases g : r.can s.1 s.2 t j
    · rfl
    · exfalso
      have m := ((r.can_iff s.1 s.2 t j).1 g).1
      exact m (nodup_all h.nd h.lt hf j hj)
  unfold Rw.stp
  rw [this]
/-- At the last moment one is issued. -/
theorem Rw.late {r : Rw} (ok : r.Ok) {t : Nat} {s : List Nat × (Nat → Nat)} (h : r.Inv t s) (hl : s.1.length < r.n) (ht : 8 * s.1.length + 7 ≤ t) : r.bs s.1 s.2 t r.n ≠ none := fun hn => by
  obtain ⟨x, hx, hm, hall⟩ := short_miss hl
  have := (r.bs_spec s.1 s.2 t r.n).2 hn x hx
  rw [(r.can_iff s.1 s.2 t x).2 ⟨hm, fun i hi _ => ⟨hall i hi, by have := h.ie i (hall i hi); have := ok.wt8 i x; omega⟩⟩] at this
  exact absurd this (by decide)
theorem Rw.run_inv {r : Rw} (ok : r.Ok) : ∀ t, r.Inv t (r.run t) ∧ ((r.run t).1.length < r.n → t ≤ 8 * (r.run t).1.length + 7)
  | 0 => ⟨⟨fun j h => absurd h List.not_mem_nil, List.nodup_nil, fun j h => absurd h List.not_mem_nil, fun j h => absurd h List.not_mem_nil, fun k i h => absurd h (Nat.not_lt_zero _)⟩, fun _ => by omega⟩
  | t + 1 => by
    obtain ⟨h1, h2⟩ := Rw.run_inv ok t
    by_cases hl : (r.run t).1.length < r.n
    · have ht := h2 hl
      refine ⟨Rw.stp_inv h1 ht, fun hl2 => ?_⟩
      show t + 1 ≤ 8 * (r.stp t (r.run t)).1.length + 7
      unfold Rw.stp
      cases hb : r.bs (r.run t).1 (r.run t).2 t r.n with
      | none =>
        show t + 1 ≤ 8 * (r.run t).1.length + 7
        by_cases e : 8 * (r.run t).1.length + 7 ≤ t
        · exact absurd hb (Rw.late ok h1 hl e)
        · omega
      | some b =>
        show t + 1 ≤ 8 * ((r.run t).1 ++ [b]).length + 7
        simp
        omega
    · have hf : (r.run t).1.length = r.n := by have := nodup_len h1.nd h1.lt; omega
      have e : r.run (t + 1) = r.run t := Rw.stp_full h1 hf
      rw [e]
      exact ⟨⟨h1.lt, h1.nd, fun j hj => by have := h1.is j hj; omega, h1.ie, h1.kp⟩, fun g => by omega⟩
theorem Rw.run_stay {r : Rw} (ok : r.Ok) {t : Nat} (hf : (r.run t).1.length = r.n) : ∀ d, r.run (t + d) = r.run t
  | 0 => rfl
  | d + 1 => by
    have ih := Rw.run_stay ok hf d
    show r.stp (t + d) (r.run (t + d)) = _
    rw [Rw.stp_full (Rw.run_inv ok (t + d)).1 (by rw [ih]; exact hf), ih]
/-- The order in which all are issued. -/
def Rw.ord (r : Rw) : List Nat := (r.run (8 * r.n)).1
theorem Rw.ord_len {r : Rw} (ok : r.Ok) : r.ord.length = r.n := by
  obtain ⟨h1, h2⟩ := Rw.run_inv ok (8 * r.n)
  have := nodup_len h1.nd h1.lt
  by_cases e : (r.run (8 * r.n)).1.length < r.n
  · have := h2 e; omega
  · show (r.run (8 * r.n)).1.length = _; omega
theorem Rw.run_end {r : Rw} (ok : r.Ok) {t : Nat} (hf : (r.run t).1.length = r.n) : (r.run t).1 = r.ord := by
  show _ = (r.run (8 * r.n)).1
  rcases Nat.le_total t (8 * r.n) with g | g
  · obtain ⟨d, e⟩ := Nat.exists_eq_add_of_le g
    rw [e, Rw.run_stay ok hf d]
  · obtain ⟨d, e⟩ := Nat.exists_eq_add_of_le g
    rw [e, Rw.run_stay ok (Rw.ord_len ok) d]
theorem Rw.ord_kp {r : Rw} (ok : r.Ok) : r.Kp (fun k => r.ord.getD k 0) := by
  have h := (Rw.run_inv ok (8 * r.n)).1
  have hl := Rw.ord_len ok
  refine ⟨fun k hk => h.lt _ (getD_mem (by show k < r.ord.length; omega)), fun k l hk hl2 e => ?_, fun k i hk hi hn => h.kp k i (by show k < r.ord.length; omega) hi hn⟩
  have e2 : r.ord.getD k 0 = r.ord.getD l 0 := e
  have nd : r.ord.Nodup := h.nd
  simp only [List.getD, List.getElem?_eq_getElem (show k < r.ord.length by omega), List.getElem?_eq_getElem (show l < r.ord.length by omega), Option.getD_some] at e2
  have pw := List.pairwise_iff_getElem.1 nd
  rcases Nat.lt_trichotomy k l with g | g | g
  · exact absurd e2 (pw k l _ _ g)
  · exact g
  · exact absurd e2.symm (pw l k _ _ g)
theorem Rw.ord_lt {r : Rw} (ok : r.Ok) : ∀ x, x ∈ r.ord → x < r.n := (Rw.run_inv ok (8 * r.n)).1.lt
/-- What OrderOf answers. -/
def Rw.best (r : Rw) : List Nat := if r.cyc id < r.cyc (fun k => r.ord.getD k 0) then List.range r.n else r.ord
end Go.Proofs.YtcgapochcahknaaDoor
