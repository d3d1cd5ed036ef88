/- Rows of instructions: issues and cycles. No program. -/
import Derived.Test.YtcgapochcahknaaDoorBase
namespace Go.Proofs.YtcgapochcahknaaDoor
set_option linter.unusedVariables false
/-- The greatest of b and of f at all numbers below k. -/
def mx (f : Nat → Nat) (b : Nat) : Nat → Nat
  | 0 => b
  | k + 1 => max (mx f b k) (f k)
theorem mx_base (f : Nat → Nat) (b : Nat) : ∀ k, b ≤ mx f b k
  | 0 => Nat.le_refl _
  | k + 1 => by have := mx_base f b k; rw [mx]; omega
theorem mx_at (f : Nat → Nat) (b : Nat) : ∀ k i, i < k → f i ≤ mx f b k
  | k + 1, i, h => by
    rw [mx]
    by_cases e : i = k
    · subst e; omega
    · have := mx_at f b k i (by omega); omega
theorem mx_le (f : Nat → Nat) (b m : Nat) (hb : b ≤ m) : ∀ k, (∀ i, i < k → f i ≤ m) → mx f b k ≤ m
  | 0, _ => hb
  | k + 1, h => by
    have := mx_le f b m hb k (fun i hi => h i (by omega))
    have := h k (by omega)
    rw [mx]; omega
theorem mx_ext {f g : Nat → Nat} (b : Nat) : ∀ k, (∀ i, i < k → f i = g i) → mx f b k = mx g b k
  | 0, _ => rfl
  | k + 1, h => by rw [mx, mx, mx_ext b k (fun i hi => h i (by omega)), h k (by omega)]
/-- One value of a function told anew. -/
def upN {α : Type} (f : Nat → α) (x : Nat) (v : α) : Nat → α := fun y => if y = x then v else f y
theorem upN_at {α : Type} (f : Nat → α) (x : Nat) (v : α) : upN f x v x = v := if_pos rfl
theorem upN_ne {α : Type} (f : Nat → α) {x y : Nat} (v : α) (h : y ≠ x) : upN f x v y = f y := if_neg h
/-- What hangs on the order of a row's instructions: how long each takes, who reads what another one writes, who needs whom. -/
structure Rw where
  n : Nat
  lat : Nat → Nat
  flow : Nat → Nat → Bool
  ned : Nat → Nat → Bool
structure Rw.Ok (r : Rw) : Prop where
  l1 : ∀ i, 1 ≤ r.lat i
  l8 : ∀ i, r.lat i ≤ 8
  fl : ∀ i j, r.flow i j = true → r.ned i j = true
  sy : ∀ i j, r.ned i j = r.ned j i
/-- How long j waits behind i. -/
def Rw.wt (r : Rw) (i j : Nat) : Nat := if r.flow i j then r.lat i else 1
/-- .. nought where it does not need it. -/
def Rw.wz (r : Rw) (i j : Nat) : Nat := if r.ned i j then r.wt i j else 0
theorem Rw.Ok.wt1 {r : Rw} (h : r.Ok) (i j : Nat) : 1 ≤ r.wt i j := by unfold Rw.wt; split; exact h.l1 i; omega
theorem Rw.Ok.wt8 {r : Rw} (h : r.Ok) (i j : Nat) : r.wt i j ≤ 8 := by unfold Rw.wt; split; exact h.l8 i; omega
/-- An order: position, number. -/
def Rw.tm (r : Rw) (I : Nat → Nat) (nx m : Nat) : Nat := mx (fun i => if r.ned i m then I i + r.wt i m else 0) nx m
/-- By numbers: issues, the next cycle, the end. -/
def Rw.cP (r : Rw) (p : Nat → Nat) : Nat → (Nat → Nat) × Nat × Nat
  | 0 => (fun _ => 0, 0, 0)
  | k + 1 => let s := r.cP p k; let t := r.tm s.1 s.2.1 (p k); (upN s.1 (p k) t, t + 1, max s.2.2 (t + r.lat (p k)))
/-- By positions. -/
def Rw.cM (r : Rw) (p : Nat → Nat) : Nat → (Nat → Nat) × Nat
  | 0 => (fun _ => 0, 0)
  | k + 1 => let s := r.cM p k; let t := mx (fun q => if r.ned (p q) (p k) then s.1 q + r.wt (p q) (p k) else 0) (if k = 0 then 0 else s.1 (k - 1) + 1) k; (upN s.1 k t, max s.2 (t + r.lat (p k)))
/-- p is an order of the numbers below n in which each stands behind all that it needs. -/
structure Rw.Kp (r : Rw) (p : Nat → Nat) : Prop where
  lt : ∀ k, k < r.n → p k < r.n
  inj : ∀ k l, k < r.n → l < r.n → p k = p l → k = l
  kept : ∀ k i, k < r.n → i < p k → r.ned i (p k) = true → ∃ q, q < k ∧ p q = i
theorem Rw.c_same {r : Rw} (h : r.Ok) {p : Nat → Nat} (K : r.Kp p) : ∀ k, k ≤ r.n → (∀ q, q < k → (r.cP p k).1 (p q) = (r.cM p k).1 q) ∧ (r.cP p k).2.1 = (if k = 0 then 0 else (r.cM p k).1 (k - 1) + 1) ∧ (r.cP p k).2.2 = (r.cM p k).2
  | 0, _ => ⟨fun q hq => by omega, rfl, rfl⟩
  | k + 1, hk => by
    obtain ⟨h1, h2, h3⟩ := Rw.c_same h K k (by omega)
    have ht : r.tm (r.cP p k).1 (r.cP p k).2.1 (p k) = mx (fun q => if r.ned (p q) (p k) then (r.cM p k).1 q + r.wt (p q) (p k) else 0) (if k = 0 then 0 else (r.cM p k).1 (k - 1) + 1) k := by
      apply Nat.le_antisymm
      · refine mx_le _ _ _ (by rw [h2]; exact mx_base _ _ _) _ fun i hi => ?_
        show (if r.ned i (p k) then _ else _) ≤ _
        by_cases e : r.ned i (p k) = true
        · rw [if_pos e]
          obtain ⟨q, hq, rfl⟩ := K.kept k i (by omega) hi e
          have := mx_at (fun q => if r.ned (p q) (p k) then (r.cM p k).1 q + r.wt (p q) (p k) else 0) (if k = 0 then 0 else (r.cM p k).1 (k - 1) + 1) k q hq
          simp only [e, if_true] at this
          rw [h1 q hq]
          exact this
        · rw [if_neg e]; omega
      · refine mx_le _ _ _ (by rw [← h2]; exact mx_base _ _ _) _ fun q hq => ?_
        show (if r.ned (p q) (p k) then _ else _) ≤ _
        by_cases e : r.ned (p q) (p k) = true
        · rw [if_pos e]
          have hlt : p q < p k := by
            rcases Nat.lt_trichotomy (p q) (p k) with g | g | g
            · exact g
            · have := K.inj q k (by omega) (by omega) g; omega
            · obtain ⟨q', hq', e'⟩ := K.kept q (p k) (by omega) g (by rw [h.sy]; exact e)
              have := K.inj q' k (by omega) (by omega) e'
              omega
          have := mx_at (fun i => if r.ned i (p k) then (r.cP p k).1 i + r.wt i (p k) else 0) (r.cP p k).2.1 (p k) (p q) hlt
          simp only [e, if_true] at this
          rw [h1 q hq] at this
          exact this
        · rw [if_neg e]; omega
    refine ⟨fun q hq => ?_, ?_, ?_⟩
    · show upN (r.cP p k).1 (p k) _ (p q) = upN (r.cM p k).1 k _ q
      by_cases e : q = k
      · subst e; rw [upN_at, upN_at]; exact ht
      · rw [upN_ne _ _ e, upN_ne _ _ (fun g => e (K.inj q k (by omega) (by omega) g))]
        exact h1 q (by omega)
    · show r.tm _ _ _ + 1 = _
      rw [if_neg (by omega)]
      show _ = upN (r.cM p k).1 k _ k + 1
      rw [upN_at, ht]
    · show max (r.cP p k).2.2 (r.tm _ _ _ + r.lat (p k)) = max (r.cM p k).2 _
      rw [ht, h3]
def Rw.cyc (r : Rw) (p : Nat → Nat) : Nat := (r.cP p r.n).2.2
theorem Rw.cyc_eq {r : Rw} (h : r.Ok) {p : Nat → Nat} (K : r.Kp p) : (r.cM p r.n).2 = r.cyc p := ((Rw.c_same h K r.n (Nat.le_refl _)).2.2).symm
theorem Rw.kp_id (r : Rw) : r.Kp id := ⟨fun k h => h, fun k l _ _ h => h, fun k i _ hi _ => ⟨i, hi, rfl⟩⟩
/-- Times stay small. -/
theorem Rw.cP_le {r : Rw} (h : r.Ok) (p : Nat → Nat) : ∀ k, (∀ i, (r.cP p k).1 i ≤ 9 * k) ∧ (r.cP p k).2.1 ≤ 9 * k ∧ (r.cP p k).2.2 ≤ 9 * k + 8
  | 0 => ⟨fun _ => Nat.le_refl _, Nat.le_refl _, Nat.zero_le _⟩
  | k + 1 => by
    obtain ⟨h1, h2, h3⟩ := Rw.cP_le h p k
    have ht : r.tm (r.cP p k).1 (r.cP p k).2.1 (p k) ≤ 9 * k + 8 := mx_le _ _ _ (by omega) _ fun i _ => by
      show (if r.ned i (p k) then _ else _) ≤ _
      have := h1 i
      have := h.wt8 i (p k)
      split <;> omega
    have := h.l8 (p k)
    refine ⟨fun i => ?_, ?_, ?_⟩
    · show upN (r.cP p k).1 (p k) _ i ≤ _
      unfold upN
      have := h1 i
      split <;> omega
    · show r.tm _ _ _ + 1 ≤ _
      omega
    · show max (r.cP p k).2.2 (r.tm _ _ _ + r.lat (p k)) ≤ _
      omega
theorem Rw.cM_le {r : Rw} (h : r.Ok) (p : Nat → Nat) : ∀ k, (∀ i, (r.cM p k).1 i ≤ 9 * k) ∧ (r.cM p k).2 ≤ 9 * k + 8
  | 0 => ⟨fun _ => Nat.le_refl _, Nat.zero_le _⟩
  | k + 1 => by
    obtain ⟨h1, h3⟩ := Rw.cM_le h p k
    have ht : mx (fun q => if r.ned (p q) (p k) then (r.cM p k).1 q + r.wt (p q) (p k) else 0) (if k = 0 then 0 else (r.cM p k).1 (k - 1) + 1) k ≤ 9 * k + 8 := mx_le _ _ _ (by have := h1 (k - 1); split <;> omega) _ fun i _ => by
      show (if r.ned (p i) (p k) then _ else _) ≤ _
      have := h1 i
      have := h.wt8 (p i) (p k)
      split <;> omega
    have := h.l8 (p k)
    refine ⟨fun i => ?_, ?_⟩
    · show upN (r.cM p k).1 k _ i ≤ _
      unfold upN
      have := h1 i
      split <;> omega
    · show max (r.cM p k).2 (_ + r.lat (p k)) ≤ _
      omega
end Go.Proofs.YtcgapochcahknaaDoor
