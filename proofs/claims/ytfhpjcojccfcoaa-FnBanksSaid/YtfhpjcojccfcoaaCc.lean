/- Caches, told without a program: a row of lines of which one is read, a cache that is read from, the fewest misses, banks. -/
import Derived.Test.YtfhpjcojccfcoaaRa
import Derived.Lib.Slices
namespace Go.Proofs.Ytfhpjcojccfcoaa
open Go.ChangeShapes Go.WideShapes Go.ChangeAt Go.RowKit
set_option linter.unusedVariables false
set_option linter.unnecessarySimpa false
/-- A list without its number k. -/
def cut (l : List Int) (k : Nat) : List Int := l.take k ++ l.drop (k + 1)
theorem cut_len (l : List Int) (k : Nat) (h : k < l.length) : (cut l k).length = l.length - 1 := by
  unfold cut
  rw [List.length_append, List.length_take, List.length_drop]
  omega
theorem cut_mem {l : List Int} {k : Nat} {x : Int} (h : x ∈ cut l k) : x ∈ l := by
  unfold cut at h
  rw [List.mem_append] at h
  rcases h with h | h
  · exact List.mem_of_mem_take h
  · exact List.mem_of_mem_drop h
theorem cut_nodup {l : List Int} (k : Nat) (h : l.Nodup) : (cut l k).Nodup := by
  have e : cut l k = l.eraseIdx k := by unfold cut; rw [List.eraseIdx_eq_take_drop_succ]
  rw [e]
  exact h.sublist (List.eraseIdx_sublist l k)
/-- A row of lines, one of them read: the row then, the coin, whether it was there, what goes. -/
def step1 (ways : Nat) (pol coin : Int) (l : List Int) (n : Int) : List Int × Int × Bool × Int :=
  if n ∈ l then (if pol = 1 then cut l (l.idxOf n) ++ [n] else l, coin, true, -1)
  else if l.length = ways then
    (if pol = 3 then (cut l ((coin * 25173 + 13849) % 65536 % ways).toNat ++ [n], (coin * 25173 + 13849) % 65536, false, l.getD ((coin * 25173 + 13849) % 65536 % ways).toNat 0)
     else (cut l 0 ++ [n], coin, false, l.getD 0 0))
  else (l ++ [n], coin, false, -1)
/-- What a set may have. -/
def setP (m ways : Nat) (s : Nat) (l : List Int) : Prop := l.length ≤ ways ∧ (∀ x, x ∈ l → 0 ≤ x ∧ x ≤ 1000000 ∧ x % (m : Int) = s) ∧ l.Nodup
theorem step1_setP {m ways s : Nat} {pol coin n : Int} {l : List Int} (h : setP m ways s l) (hw : 0 < ways) (h0 : 0 ≤ n) (h1 : n ≤ 1000000) (h2 : n % (m : Int) = s) : setP m ways s (step1 ways pol coin l n).1 := by
  obtain ⟨g1, g2, g3⟩ := h
  have add : ∀ l' : List Int, l'.length < ways → (∀ x, x ∈ l' → 0 ≤ x ∧ x ≤ 1000000 ∧ x % (m : Int) = s) → l'.Nodup → n ∉ l' → setP m ways s (l' ++ [n]) := fun l' a b c d => by
    refine ⟨by simp; omega, fun x hx => ?_, ?_⟩
    · rw [List.mem_append, List.mem_singleton] at hx
      rcases hx with hx | rfl
      · exact b x hx
      · exact ⟨h0, h1, h2⟩
    · rw [List.nodup_append]
      exact ⟨c, by simp, fun a ha b hb => by
        rw [List.mem_singleton] at hb
        subst hb
        intro e; subst e; exact d ha⟩
  unfold step1
  by_cases hn : n ∈ l
  · rw [if_pos hn]
    show setP m ways s (if pol = 1 then cut l (l.idxOf n) ++ [n] else l)
    by_cases hp : pol = 1
    · rw [if_pos hp]
      have hi : l.idxOf n < l.length := List.idxOf_lt_length_of_mem hn
      refine add _ (by rw [cut_len l _ hi]; omega) (fun x hx => g2 x (cut_mem hx)) (cut_nodup _ g3) (fun hx => ?_)
      unfold cut at hx
      rw [List.mem_append] at hx
      have e : l = l.take (l.idxOf n) ++ n :: l.drop (l.idxOf n + 1) := by
        conv => lhs; rw [← List.take_append_drop (l.idxOf n) l]
        congr 1
        rw [List.drop_eq_getElem_cons hi, List.getElem_idxOf hi]
      rw [e, List.nodup_append] at g3
      obtain ⟨_, k2, k3⟩ := g3
      rw [List.nodup_cons] at k2
      rcases hx with hx | hx
      · exact k3 n hx n (by simp) rfl
      · exact k2.1 hx
    · rw [if_neg hp]; exact ⟨g1, g2, g3⟩
  · rw [if_neg hn]
    by_cases hl : l.length = ways
    · rw [if_pos hl]
      by_cases hp : pol = 3
      · rw [if_pos hp]
        have hk : ((coin * 25173 + 13849) % 65536 % (ways : Int)).toNat < l.length := by
          have a := Int.emod_nonneg ((coin * 25173 + 13849) % 65536) (b := (ways : Int)) (by omega)
          have b := Int.emod_lt_of_pos ((coin * 25173 + 13849) % 65536) (b := (ways : Int)) (by omega)
          omega
        exact add _ (by rw [cut_len l _ hk]; omega) (fun x hx => g2 x (cut_mem hx)) (cut_nodup _ g3) (fun hx => hn (cut_mem hx))
      · rw [if_neg hp]
        exact add _ (by rw [cut_len l _ (by omega)]; omega) (fun x hx => g2 x (cut_mem hx)) (cut_nodup _ g3) (fun hx => hn (cut_mem hx))
    · rw [if_neg hl]
      exact add _ (by omega) g2 g3 hn
/-- A cache's lines and its coin. -/
structure Cs where
  L : Nat → List Int
  coin : Int
/-- A place is read. -/
def Cs.set (s : Cs) (m : Nat) (line p : Int) : Nat := (p / line % (m : Int)).toNat
def Cs.r1 (s : Cs) (m ways : Nat) (line pol p : Int) : List Int × Int × Bool × Int := step1 ways pol s.coin (s.L (s.set m line p)) (p / line)
def Cs.rd (s : Cs) (m ways : Nat) (line pol p : Int) : Cs := ⟨fun x => if x = s.set m line p then (s.r1 m ways line pol p).1 else s.L x, (s.r1 m ways line pol p).2.1⟩
def Cs.hit (s : Cs) (m ways : Nat) (line pol p : Int) : Bool := (s.r1 m ways line pol p).2.2.1
def Cs.out (s : Cs) (m ways : Nat) (line pol p : Int) : Int := (s.r1 m ways line pol p).2.2.2
def Cs.ok (s : Cs) (m ways : Nat) : Prop := (∀ x, x < m → setP m ways x (s.L x)) ∧ 0 ≤ s.coin ∧ s.coin < 65536
theorem place_set {m : Nat} {line p : Int} (hm : 0 < m) (hl : 16 ≤ line) (hp : 0 ≤ p) (hq : p ≤ 1000000) : 0 ≤ p / line ∧ p / line ≤ 1000000 ∧ (p / line % (m : Int)).toNat < m ∧ p / line % (m : Int) = ((p / line % (m : Int)).toNat : Int) := by
  have a : 0 ≤ p / line := Int.ediv_nonneg hp (by omega)
  have b : p / line ≤ p := Int.ediv_le_self _ hp
  have c := Int.emod_nonneg (p / line) (b := (m : Int)) (by omega)
  have d := Int.emod_lt_of_pos (p / line) (b := (m : Int)) (by omega)
  refine ⟨a, by omega, by omega, by omega⟩
theorem coin_step {c : Int} (ways : Nat) (pol : Int) (l : List Int) (n : Int) (h : 0 ≤ c ∧ c < 65536) : 0 ≤ (step1 ways pol c l n).2.1 ∧ (step1 ways pol c l n).2.1 < 65536 := by
  unfold step1
  split
  · exact h
  · split
    · split
      · show 0 ≤ (c * 25173 + 13849) % 65536 ∧ (c * 25173 + 13849) % 65536 < 65536
        omega
      · exact h
    · exact h
theorem Cs.rd_ok {s : Cs} {m ways : Nat} {line pol p : Int} (h : s.ok m ways) (hm : 0 < m) (hw : 0 < ways) (hl : 16 ≤ line) (hp : 0 ≤ p) (hq : p ≤ 1000000) : (s.rd m ways line pol p).ok m ways := by
  obtain ⟨a, b, c, d⟩ := place_set hm hl hp hq
  refine ⟨fun x hx => ?_, coin_step _ _ _ _ h.2⟩
  show setP m ways x (if x = s.set m line p then (s.r1 m ways line pol p).1 else s.L x)
  by_cases e : x = s.set m line p
  · rw [if_pos e]
    subst e
    exact step1_setP (h.1 _ hx) hw a b d
  · rw [if_neg e]; exact h.1 x hx
theorem idx_hit {l : List Int} {n : Int} (h : n ∈ l) : Lib.idxOf l n = (l.idxOf n : Int) ∧ l.idxOf n < l.length ∧ l.getD (l.idxOf n) 0 = n := by
  have hi : l.idxOf n < l.length := List.idxOf_lt_length_of_mem h
  have hg : l.getD (l.idxOf n) 0 = n := by simp [List.getD, List.getElem?_eq_getElem hi, List.getElem_idxOf hi]
  refine ⟨?_, hi, hg⟩
  have := Lib.idxOf_hit l l.length (l.idxOf n) n hi (Nat.le_refl _) hg (fun j hj e => by
    have hjl : j < l.length := by omega
    have e2 : l[j] = n := by rw [← e]; simp [List.getD, hjl]
    have := List.not_of_lt_findIdx (p := (· == n)) (xs := l) (i := j) hj
    simp [e2] at this)
  rwa [List.take_length] at this
theorem idx_miss {l : List Int} {n : Int} (h : n ∉ l) : Lib.idxOf l n = -1 := by
  have := Lib.idxOf_miss l l.length n (fun j hj e => h (by rw [← e]; simp [List.getD, hj]))
  rwa [List.take_length] at this
/-- In a row without twins a number stands at one place alone. -/
theorem idx_at {l : List Int} {n : Int} (h : l.Nodup) {k : Nat} (hk : k < l.length) : l.getD k 0 = n ↔ n ∈ l ∧ l.idxOf n = k := by
  have hg : l.getD k 0 = l[k] := by simp [List.getD, hk]
  rw [hg]
  constructor
  · intro e
    have hm : n ∈ l := by rw [← e]; exact List.getElem_mem hk
    refine ⟨hm, ?_⟩
    obtain ⟨_, hi, hg2⟩ := idx_hit hm
    have e2 : l[l.idxOf n] = l[k] := by rw [e]; simpa [List.getD, hi] using hg2
    exact (List.getElem_inj h).1 e2
  · rintro ⟨hm, e⟩
    obtain ⟨_, hi, hg2⟩ := idx_hit hm
    subst e
    simpa [List.getD, hi] using hg2
/-- A row of lines, one of them read, where one that goes is told: number k, and the coin then c. -/
def stepG (ways : Nat) (mv : Bool) (k : Nat) (c coin : Int) (l : List Int) (n : Int) : List Int × Int × Bool × Int :=
  if n ∈ l then (if mv = true then cut l (l.idxOf n) ++ [n] else l, coin, true, -1)
  else if l.length = ways then (cut l k ++ [n], c, false, l.getD k 0)
  else (l ++ [n], coin, false, -1)
def coinP (pol coin : Int) : Int := if pol = 3 then (coin * 25173 + 13849) % 65536 else coin
def goP (ways : Nat) (pol coin : Int) : Nat := if pol = 3 then ((coin * 25173 + 13849) % 65536 % (ways : Int)).toNat else 0
theorem step1_G (ways : Nat) (pol coin : Int) (l : List Int) (n : Int) : step1 ways pol coin l n = stepG ways (decide (pol = 1)) (goP ways pol coin) (coinP pol coin) coin l n := by
  unfold step1 stepG goP coinP
  by_cases h1 : n ∈ l
  · rw [if_pos h1, if_pos h1]
    by_cases h2 : pol = 1 <;> simp [h2]
  · rw [if_neg h1, if_neg h1]
    by_cases h2 : l.length = ways
    · rw [if_pos h2, if_pos h2]
      by_cases h3 : pol = 3 <;> simp [h3]
    · rw [if_neg h2, if_neg h2]
theorem goP_lt {ways : Nat} (pol coin : Int) (h : 0 < ways) : goP ways pol coin < ways := by
  unfold goP
  split
  · have a := Int.emod_nonneg ((coin * 25173 + 13849) % 65536) (b := (ways : Int)) (by omega)
    have b := Int.emod_lt_of_pos ((coin * 25173 + 13849) % 65536) (b := (ways : Int)) (by omega)
    omega
  · exact h
/-- The first number of those with the greatest value. -/
def pk (f : Nat → Nat) : Nat → Nat
  | 0 => 0
  | k + 1 => if f (pk f k) < f k then k else pk f k
theorem pk_lt (f : Nat → Nat) : ∀ k, 0 < k → pk f k < k
  | 0, h => absurd h (Nat.lt_irrefl _)
  | k + 1, _ => by
    rw [pk]
    split
    · exact Nat.lt_succ_self _
    · cases k with
      | zero => exact Nat.lt_succ_self _
      | succ k => exact Nat.lt_succ_of_lt (pk_lt f (k + 1) (Nat.succ_pos _))
/-- How many are read ahead of a line behind place i; all, where it does not come again. -/
def wt (l : List Int) (i : Nat) (n : Int) : Nat := (l.drop (i + 1)).idxOf n
/-- The lines that are there behind the first k places, of one set that knows what comes; and how many misses there were. -/
def lm (ways : Nat) (l : List Int) : Nat → List Int × Nat
  | 0 => ([], 0)
  | k + 1 =>
    let s := (lm ways l k).1
    let n := l.getD k 0
    if n ∈ s then lm ways l k
    else ((if s.length = ways then cut s (pk (fun j => wt l k (s.getD j 0)) s.length) else s) ++ [n], (lm ways l k).2 + 1)
theorem lm_G (ways : Nat) (l : List Int) (k : Nat) (coin : Int) : (lm ways l (k + 1)).1 = (stepG ways false (pk (fun j => wt l k ((lm ways l k).1.getD j 0)) (lm ways l k).1.length) coin coin (lm ways l k).1 (l.getD k 0)).1 ∧ (lm ways l (k + 1)).2 = (lm ways l k).2 + (if (stepG ways false (pk (fun j => wt l k ((lm ways l k).1.getD j 0)) (lm ways l k).1.length) coin coin (lm ways l k).1 (l.getD k 0)).2.2.1 = true then 0 else 1) := by
  unfold stepG
  rw [lm]
  by_cases h : l.getD k 0 ∈ (lm ways l k).1
  · simp only [if_pos h]
    exact ⟨rfl, rfl⟩
  · simp only [if_neg h]
    by_cases h2 : (lm ways l k).1.length = ways
    · simp [h2]
    · simp [h2]
theorem lm_ok (ways : Nat) (hw : 0 < ways) (l : List Int) : ∀ k, (lm ways l k).1.length ≤ ways ∧ (lm ways l k).1.Nodup ∧ (lm ways l k).2 ≤ k
  | 0 => ⟨Nat.zero_le _, List.nodup_nil, Nat.le_refl _⟩
  | k + 1 => by
    obtain ⟨h1, h2, h3⟩ := lm_ok ways hw l k
    rw [lm]
    generalize lm ways l k = S at h1 h2 h3
    obtain ⟨s, m⟩ := S
    simp only at h1 h2 h3 ⊢
    by_cases h : l.getD k 0 ∈ s
    · rw [if_pos h]; exact ⟨h1, h2, by show m ≤ k + 1; omega⟩
    · rw [if_neg h]
      refine ⟨?_, ?_, by show m + 1 ≤ k + 1; omega⟩
      · show ((if s.length = ways then _ else s) ++ [_]).length ≤ ways
        by_cases e : s.length = ways
        · rw [if_pos e, List.length_append, cut_len s _ (pk_lt _ _ (by omega))]
          simp; omega
        · rw [if_neg e, List.length_append]; simp; omega
      · show ((if s.length = ways then _ else s) ++ [_]).Nodup
        rw [List.nodup_append]
        refine ⟨?_, by simp, fun a ha b hb => ?_⟩
        · split
          · exact cut_nodup _ h2
          · exact h2
        · rw [List.mem_singleton] at hb
          subst hb
          intro e
          subst e
          split at ha
          · exact h (cut_mem ha)
          · exact h ha
/-- The greatest of the first values. -/
def mx (g : Nat → Nat) : Nat → Nat
  | 0 => 0
  | b + 1 => max (mx g b) (g b)
theorem mx_ext {g h : Nat → Nat} : ∀ b, (∀ r, r < b → g r = h r) → mx g b = mx h b
  | 0, _ => rfl
  | b + 1, e => by rw [mx, mx, mx_ext b (fun r hr => e r (by omega)), e b (by omega)]
theorem mx_ge (g : Nat → Nat) : ∀ b r, r < b → g r ≤ mx g b
  | 0, r, h => absurd h (Nat.not_lt_zero _)
  | b + 1, r, h => by
    rw [mx]
    by_cases e : r = b
    · subst e; omega
    · have := mx_ge g b r (by omega); omega
theorem mx_inc (g h : Nat → Nat) (r : Nat) : ∀ b, r < b → (∀ x, x < b → h x = if x = r then g x + 1 else g x) → mx h b = max (mx g b) (g r + 1)
  | 0, hr, _ => absurd hr (Nat.not_lt_zero _)
  | b + 1, hr, e => by
    rw [mx, mx, e b (by omega)]
    by_cases q : b = r
    · subst q
      rw [if_pos rfl, mx_ext (g := h) (h := g) b (fun x hx => by rw [e x (by omega), if_neg (by omega)])]
      omega
    · rw [if_neg q, mx_inc g h r b (by omega) (fun x hx => e x (by omega))]
      omega
theorem mx_more (g : Nat → Nat) (b : Nat) : ∀ c, b ≤ c → (∀ r, b ≤ r → r < c → g r = 0) → mx g c = mx g b
  | 0, h, _ => by obtain rfl : b = 0 := by omega
                  rfl
  | c + 1, h, e => by
    by_cases q : b = c + 1
    · subst q; rfl
    · rw [mx, mx_more g b c (by omega) (fun r h1 h2 => e r h1 (by omega)), e c (by omega) (by omega)]
      omega
/-- How many of a list are in bank r. -/
def cnt (b : Int) (S : List Int) (r : Nat) : Nat := S.countP (fun x => x % b == (r : Int))
theorem cnt_snoc (b : Int) (S : List Int) (x : Int) (r : Nat) : cnt b (S ++ [x]) r = if x % b = (r : Int) then cnt b S r + 1 else cnt b S r := by
  unfold cnt
  rw [List.countP_append, List.countP_singleton]
  by_cases h : x % b = (r : Int)
  · simp [h]
  · simp [h]
/-- Those that come for the first time. -/
def fs (l : List Int) : Nat → List Int
  | 0 => []
  | k + 1 => if l.getD k 0 ∈ fs l k then fs l k else fs l k ++ [l.getD k 0]
theorem fs_mem (l : List Int) (x : Int) : ∀ k, x ∈ fs l k ↔ ∃ j, j < k ∧ l.getD j 0 = x
  | 0 => by simp [fs]
  | k + 1 => by
    rw [fs]
    have ih := fs_mem l x k
    by_cases h : l.getD k 0 ∈ fs l k
    · rw [if_pos h, ih]
      constructor
      · rintro ⟨j, h1, h2⟩; exact ⟨j, by omega, h2⟩
      · rintro ⟨j, h1, h2⟩
        by_cases e : j = k
        · subst e
          rw [h2] at h
          exact ih.1 h
        · exact ⟨j, by omega, h2⟩
    · rw [if_neg h, List.mem_append, ih, List.mem_singleton]
      constructor
      · rintro (⟨j, h1, h2⟩ | h2)
        · exact ⟨j, by omega, h2⟩
        · exact ⟨k, by omega, h2.symm⟩
      · rintro ⟨j, h1, h2⟩
        by_cases e : j = k
        · subst e; exact Or.inr h2.symm
        · exact Or.inl ⟨j, by omega, h2⟩
theorem fs_nodup (l : List Int) : ∀ k, (fs l k).Nodup
  | 0 => List.nodup_nil
  | k + 1 => by
    rw [fs]
    split
    · exact fs_nodup l k
    · rename_i h
      rw [List.nodup_append]
      refine ⟨fs_nodup l k, by simp, fun a ha b hb e => ?_⟩
      rw [List.mem_singleton] at hb
      subst hb; subst e
      exact h ha
theorem fs_len (l : List Int) : ∀ k, (fs l k).length ≤ k
  | 0 => Nat.le_refl _
  | k + 1 => by
    rw [fs]
    have := fs_len l k
    split
    · omega
    · rw [List.length_append, List.length_singleton]; omega
theorem cnt_same {b : Int} {S T : List Int} (h1 : S.Nodup) (h2 : T.Nodup) (h : ∀ x, x ∈ S ↔ x ∈ T) (r : Nat) : cnt b S r = cnt b T r := by
  have p : S.Perm T := by
    rw [List.perm_iff_count]
    intro a
    rw [List.Nodup.count h1, List.Nodup.count h2]
    by_cases e : a ∈ S
    · rw [if_pos e, if_pos ((h a).1 e)]
    · rw [if_neg e, if_neg (fun q => e ((h a).2 q))]
  exact p.countP_eq _
end Go.Proofs.Ytfhpjcojccfcoaa
