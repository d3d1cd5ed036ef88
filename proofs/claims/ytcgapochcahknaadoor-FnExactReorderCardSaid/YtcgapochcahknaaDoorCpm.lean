/- The model's l12Copy; what is taken out of code, told without a program. -/
import Derived.Test.YtcgapochcahknaaDoorRcm
import Derived.Test.YtcgapochcahknaaDoorRwi
namespace Go.Proofs.YtcgapochcahknaaDoor
open Go.ChangeShapes Go.WideShapes Go.ChangeAt Go.RowKit
set_option linter.unusedVariables false
/-- What stays of the first k, where Z says what is taken out. -/
def keepL (Z : Nat → Bool) : Nat → List Nat
  | 0 => []
  | k + 1 => keepL Z k ++ (if Z k then [] else [k])
theorem keepL_len (Z : Nat → Bool) : ∀ k, (keepL Z k).length = cntF Z k
  | 0 => rfl
  | k + 1 => by
    rw [keepL, cntF, List.length_append, keepL_len Z k]
    split <;> simp
theorem keepL_lt (Z : Nat → Bool) : ∀ (k i : Nat), i ∈ keepL Z k → i < k ∧ Z i = false
  | 0, i, h => by cases h
  | k + 1, i, h => by
    rw [keepL] at h
    rcases List.mem_append.1 h with h | h
    · have := keepL_lt Z k i h
      exact ⟨by omega, this.2⟩
    · cases hz : Z k
      · rw [hz] at h
        have : i = k := by simpa using h
        subst this
        exact ⟨by omega, hz⟩
      · rw [hz] at h
        simp at h
theorem keepL_at (Z : Nat → Bool) (k : Nat) (hz : Z k = false) : ∀ n, k < n → (keepL Z n)[cntF Z k]? = some k
  | 0, h => by omega
  | n + 1, h => by
    rw [keepL]
    by_cases e : k = n
    · subst e
      rw [← keepL_len, hz]
      simp
    · have ih := keepL_at Z k hz n (by omega)
      obtain ⟨hl, _⟩ := List.getElem?_eq_some_iff.1 ih
      rw [List.getElem?_append_left hl]
      exact ih
theorem cntF_mono (Z : Nat → Bool) (a : Nat) : ∀ b, a ≤ b → cntF Z a ≤ cntF Z b
  | 0, h => by have : a = 0 := by omega
               subst this; exact Nat.le_refl _
  | b + 1, h => by
    by_cases e : a = b + 1
    · subst e; exact Nat.le_refl _
    · have := cntF_mono Z a b (by omega)
      rw [cntF]
      omega
/-- The i-th that stays. -/
def kpI (Z : Nat → Bool) (n i : Nat) : Nat := (keepL Z n).getD i 0
theorem kpI_lt (Z : Nat → Bool) (n i : Nat) (h : i < cntF Z n) : kpI Z n i < n := by
  have hl : i < (keepL Z n).length := by rw [keepL_len]; exact h
  have : kpI Z n i ∈ keepL Z n := by
    unfold kpI
    simp [List.getD, hl]
  exact (keepL_lt Z n _ this).1
/-- The number of an instruction once some are taken out. -/
def numT (Z : Nat → Bool) (n : Nat) (t : Int) : Int := ((min (cntF Z t.toNat) (cntF Z n - 1) : Nat) : Int)
/-- Whether something may be taken out at all. -/
def takB (O : Nat → Int) (Z : Nat → Bool) (n : Nat) : Bool := decide (0 < cntF Z n) && (O (kpI Z n (cntF Z n - 1)) == 11 || O (kpI Z n (cntF Z n - 1)) == 8)
def tkN (O : Nat → Int) (Z : Nat → Bool) (n : Nat) : Nat := if takB O Z n then cntF Z n else n
def tkP (O : Nat → Int) (Z : Nat → Bool) (n i : Nat) : Nat := if takB O Z n then kpI Z n i else i
def tkT (O : Nat → Int) (Z : Nat → Bool) (n : Nat) (b : Bool) (t : Int) : Int := if takB O Z n && b then numT Z n t else t
/-- The fields of what is left. -/
def tkA (O A : Nat → Int) (Z : Nat → Bool) (n i : Nat) : Int := tkT O Z n (O (tkP O Z n i) == 8) (A (tkP O Z n i))
def tkB (O B : Nat → Int) (Z : Nat → Bool) (n i : Nat) : Int := tkT O Z n (O (tkP O Z n i) == 9) (B (tkP O Z n i))
theorem tkN_le (O : Nat → Int) (Z : Nat → Bool) (n : Nat) : tkN O Z n ≤ n := by
  unfold tkN
  split
  · have h : ∀ m, cntF Z m ≤ m := fun m => by
      induction m with
      | zero => exact Nat.le_refl _
      | succ m ih => rw [cntF]; split <;> omega
    exact h n
  · exact Nat.le_refl _
/-- The cells of the first n instructions, one behind the other. -/
def cellsP (O D A B C X : Nat → Int) : Nat → List Value
  | 0 => []
  | n + 1 => cellsP O D A B C X n ++ [.int .i64 (O n), .int .i64 (D n), .int .i64 (A n), .int .i64 (B n), .int .i64 (C n), .int .u32 (X n)]
theorem cellsP_len (O D A B C X : Nat → Int) : ∀ n, (cellsP O D A B C X n).length = n * 6
  | 0 => rfl
  | n + 1 => by rw [cellsP, List.length_append, cellsP_len O D A B C X n]; simp; omega
theorem cellsP_at (O D A B C X : Nat → Int) : ∀ (n i j : Nat), i < n → j < 6 → (cellsP O D A B C X n)[i * 6 + j]? = ([.int .i64 (O i), .int .i64 (D i), .int .i64 (A i), .int .i64 (B i), .int .i64 (C i), .int .u32 (X i)] : List Value)[j]?
  | 0, i, j, hi, hj => by omega
  | n + 1, i, j, hi, hj => by
    have hl := cellsP_len O D A B C X n
    rw [cellsP]
    by_cases e : i = n
    · subst e
      rw [List.getElem?_append_right (by omega), hl, show i * 6 + j - i * 6 = j by omega]
    · rw [List.getElem?_append_left (by omega)]
      exact cellsP_at O D A B C X n i j (by omega) hj
theorem rowI_of {w : World} {B' g n cap : Nat} {O D A B C X : Nat → Int} (h : w.ownsRow B' 35 6 (.slice (some ⟨g, 0, none⟩) n cap) n (cellsP O D A B C X n)) : RowI w g n O D A B C X := by
  have k := fun (i j : Nat) (hi : i < n) (hj : j < 6) => (h.cellAt (i * 6 + j) (by omega)).trans (cellsP_at O D A B C X n i j hi hj)
  exact ⟨fun i hi => k i 0 hi (by omega), fun i hi => k i 1 hi (by omega), fun i hi => k i 2 hi (by omega), fun i hi => k i 3 hi (by omega), fun i hi => k i 4 hi (by omega), fun i hi => k i 5 hi (by omega), fun i => h.frozenAt i, (h.lt _ rfl).2⟩

theorem cells_row {w : World} {a n : Nat} {O D A B C X : Nat → Int} (R : RowI w a n O D A B C X) (j : Nat) (u : Value) (h : (cellsP O D A B C X n)[j]? = some u) : w.cell? ⟨a, j, none⟩ = some u := by
  have hl : j < n * 6 := by
    have := (List.getElem?_eq_some_iff.1 h).1
    rw [cellsP_len] at this
    exact this
  have hj : j = j / 6 * 6 + j % 6 := by omega
  have hi : j / 6 < n := by omega
  have hr : j % 6 < 6 := by omega
  rw [hj, cellsP_at O D A B C X n (j / 6) (j % 6) hi hr] at h
  rw [hj]
  generalize j / 6 = i at h hi
  rcases (by omega : j % 6 = 0 ∨ j % 6 = 1 ∨ j % 6 = 2 ∨ j % 6 = 3 ∨ j % 6 = 4 ∨ j % 6 = 5) with e | e | e | e | e | e <;> rw [e] at h ⊢ <;> simp at h <;> subst h
  · exact R.c0 i hi
  · exact R.c1 i hi
  · exact R.c2 i hi
  · exact R.c3 i hi
  · exact R.c4 i hi
  · exact R.c5 i hi
theorem cellsP_one (O D A B C X : Nat → Int) : ∀ n u, u ∈ cellsP O D A B C X n → u.oneCell' = true
  | 0, u, h => by cases h
  | n + 1, u, h => by
    rw [cellsP] at h
    rcases List.mem_append.1 h with h | h
    · exact cellsP_one O D A B C X n u h
    · simp at h
      rcases h with rfl | rfl | rfl | rfl | rfl | rfl <;> rfl
set_option maxRecDepth 100000 in
set_option maxHeartbeats 2000000 in
theorem copy32 (n a cap : Nat) (O D A B C X : Nat → Int) (w : World) (R : RowI w a n O D A B C X) (n0 : 1 ≤ n) (n1 : n ≤ 600) : Calls Tryd.prog 58 #[.slice (some ⟨a, 0, none⟩) n cap] w fun e w' => ∃ g c, e = .returned (.slice (some ⟨g, 0, none⟩) n c) ∧ w.heap.size ≤ g ∧ RowI w' g n O D A B C X ∧ Below w.heap.size w w' := by
  obtain ⟨i5, hi5, hz50, hz51, hz52⟩ := info_parts infoI
  have HR : Hid (RowI w a n O D A B C X) := R
  have H0 : Hid ((w.alloc (.cells #[] 35)).ownsRow w.heap.size 35 6 (.slice (some ⟨w.heap.size, 0, none⟩) 0 0) 0 []) := World.ownsRow_lit w #[] 0 (Nat.le_refl _) (by decide) rfl
  have HRA : Hid (RowI (w.alloc (.cells #[] 35)) a n O D A B C X) := R.next ((Below.refl _ _).alloc (Nat.le_refl _) _)
  clear R
  go_enter Tryd.func58, Tryd.ntmps58
  go_wp2_with (at_builtin; refine wpList_append_own _ rfl _ _ 24 rfl w.heap.size 35 i5 (.agg #[.int .i64 0, .int .i64 0, .int .i64 0, .int .i64 0, .int .i64 0, .int .u32 0]) 6 48 Tryd.underlying24 hi5 hz50 hz51 hz52 rfl (by decide) _ _ _ rfl H0.out ⟨a, 0, none⟩ n cap (cellsP O D A B C X n) rfl ?c0 ?c1 ?c2 ?c3 ?c4 ?c5 ?_)
  case c0 => exact cellsP_len O D A B C X n
  case c1 =>
    intro j u hj
    have e : (⟨a, 0, none⟩ : Addr).add j = ⟨a, j, none⟩ := by simp [Addr.add]; intro h; omega
    rw [e]
    exact cells_row HRA.out j u hj
  case c2 => exact cellsP_one O D A B C X n
  case c3 => unfold maxLen; omega
  case c4 => omega
  case c5 => simp
  intro v3 w3 hown hgrow _
  have hown' : w3.ownsRow w.heap.size 35 6 v3 n (cellsP O D A B C X n) := by simpa using hown
  have B3 : Below w.heap.size w w3 := ((Below.refl _ _).alloc (Nat.le_refl _) _).grown hgrow (by simp) (fun q hq => by simp [Value.ownBlock] at hq; omega)
  obtain ⟨g, c, rfl, hg, _⟩ := World.ownsRow.form hown' (by omega)
  have RR : RowI w3 g n O D A B C X := rowI_of hown'
  have hgl := (hown'.lt g rfl).1
  clear hown hgrow hown' H0 HRA
  go_wp2
  go_ret
  exact ⟨g, c, rfl, hgl, RR, B3⟩
end Go.Proofs.YtcgapochcahknaaDoor
