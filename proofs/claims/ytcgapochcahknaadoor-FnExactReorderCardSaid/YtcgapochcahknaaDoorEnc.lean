/- The bytes of code: what EncodeCode writes, told without a program. -/
import Derived.Test.YtcgapochcahknaaDoorGd
import Derived.Test.YtcgapochcahknaaDoorBnr
namespace Go.Proofs.YtcgapochcahknaaDoor
open Go.ChangeShapes Go.WideShapes Go.ChangeAt Go.RowKit
set_option linter.unusedVariables false
def fldW (k : Nat) : Nat := if k = 4 then 4 else 2
def fldB (o d a b c x : Int) : Nat → List Int
  | 0 => []
  | k + 1 => fldB o d a b c x k ++ (if nmd o k then lows (val d a b c x k) (fldW k) else [])
theorem fldB_len (o d a b c x : Int) : ∀ k, (fldB o d a b c x k).length ≤ 4 * k
  | 0 => by simp [fldB]
  | k + 1 => by
    have := fldB_len o d a b c x k
    rw [fldB, List.length_append]
    split
    · rw [lows_len]; unfold fldW; split <;> omega
    · simp; omega
def insB (o d a b c x : Int) : List Int := o :: fldB o d a b c x 5
def codeB (O D A B C X : Nat → Int) (n : Nat) : Nat → List Int
  | 0 => [75, 79, 68, 49] ++ lows n 2
  | k + 1 => codeB O D A B C X n k ++ insB (O k) (D k) (A k) (B k) (C k) (X k)
theorem codeB_len (O D A B C X : Nat → Int) (n : Nat) : ∀ k, (codeB O D A B C X n k).length ≤ 6 + 21 * k
  | 0 => by simp [codeB, lows_len]
  | k + 1 => by
    have := codeB_len O D A B C X n k
    have h2 := fldB_len (O k) (D k) (A k) (B k) (C k) (X k) 5
    rw [codeB, List.length_append]
    unfold insB
    simp only [List.length_cons]
    omega
/-- What is as said lies within these bounds. -/
def Bds (o d a b c x : Int) : Prop := (1 ≤ o ∧ o ≤ 13) ∧ ∀ k, k < 5 → 0 ≤ val d a b c x k ∧ val d a b c x k < 4294967296
theorem bds_of {o d a b c x n : Int} (h : goodI o d a b c x n = true) (n1 : n ≤ 600) : Bds o d a b c x := by
  unfold goodI at h
  rw [Bool.and_eq_true] at h
  obtain ⟨h1, h2⟩ := h
  refine ⟨?_, fun k hk => ?_⟩
  · unfold swOk at h2
    by_cases e3 : o = 3
    · omega
    · by_cases e4 : o = 4
      · omega
      · rw [if_neg e3, if_neg e4] at h2
        simpa using h2
  · have hs := okF_stop o d a b c x n k
    cases hv : inB (val d a b c x k) (gv o k n)
    · rw [hs hv 5 hk] at h1; cases h1
    · unfold inB at hv
      simp only [Bool.and_eq_true, decide_eq_true_eq] at hv
      have hg : gv o k n ≤ 4294967295 := by
        unfold gv
        repeat' split
        all_goals omega
      omega
theorem codeB_at (O D A B C X : Nat → Int) (n k : Nat) : codeB O D A B C X n (k + 1) = codeB O D A B C X n k ++ (O k :: fldB (O k) (D k) (A k) (B k) (C k) (X k) 5) := rfl
/-- The check of a list of bytes. -/
def crcL (L : List Int) : Int := crcF (fun i => L.getD i 0) L.length
def encB (O D A B C X : Nat → Int) (n : Nat) : List Int := codeB O D A B C X n n ++ lows (crcL (codeB O D A B C X n n)) 2
def fN (o : Int) : Int := (if nmd o 0 then 16 else 0) + (if nmd o 1 then 8 else 0) + (if nmd o 2 then 4 else 0) + (if nmd o 3 then 2 else 0) + (if nmd o 4 then 1 else 0)
theorem fields47 (o : Int) (w : World) (h : 1 ≤ o ∧ o ≤ 13) : Calls Tryd.prog 67 #[.int .i64 o] w fun e w' => e = .returned (.int .i64 (fN o)) ∧ w' = w := by
  rcases op_in o h with rfl | rfl | rfl | rfl | rfl | rfl | rfl | rfl | rfl | rfl | rfl | rfl | rfl
  · exact fields47_1 w
  · exact fields47_2 w
  · exact fields47_3 w
  · exact fields47_4 w
  · exact fields47_5 w
  · exact fields47_6 w
  · exact fields47_7 w
  · exact fields47_8 w
  · exact fields47_9 w
  · exact fields47_10 w
  · exact fields47_11 w
  · exact fields47_12 w
  · exact fields47_13 w
theorem fN_bit (o : Int) (h : 1 ≤ o ∧ o ≤ 13) (j : Nat) (hj : j < 4) : (bits .and .i64 (fN o / 2 ^ (4 - j)) 1 == 1) = nmd o j := by
  rcases (by omega : j = 0 ∨ j = 1 ∨ j = 2 ∨ j = 3) with rfl | rfl | rfl | rfl <;> rcases op_in o h with rfl | rfl | rfl | rfl | rfl | rfl | rfl | rfl | rfl | rfl | rfl | rfl | rfl <;> decide +kernel
theorem fN_bit4 (o : Int) (h : 1 ≤ o ∧ o ≤ 13) : (bits .and .i64 (fN o) 1 == 1) = nmd o 4 := by
  rcases op_in o h with rfl | rfl | rfl | rfl | rfl | rfl | rfl | rfl | rfl | rfl | rfl | rfl | rfl <;> decide +kernel
theorem codeB_pos (O D A B C X : Nat → Int) (n : Nat) : ∀ k, 0 < (codeB O D A B C X n k).length
  | 0 => by simp [codeB]
  | k + 1 => by rw [codeB, List.length_append]; have := codeB_pos O D A B C X n k; omega
def Byts (L : List Int) : Prop := ∀ x ∈ L, 0 ≤ x ∧ x < 256
theorem Byts.app {L M : List Int} (h : Byts L) (k : Byts M) : Byts (L ++ M) := fun x hx => by rcases List.mem_append.1 hx with a | a; exact h x a; exact k x a
theorem byts_lows (x : Int) (n : Nat) : Byts (lows x n) := fun y hy => by
  unfold lows at hy
  obtain ⟨i, _, rfl⟩ := List.mem_map.1 hy
  exact byteOf_range x i
theorem byts_fld (o d a b c x : Int) : ∀ k, Byts (fldB o d a b c x k)
  | 0 => fun y hy => by simp [fldB] at hy
  | k + 1 => by
    rw [fldB]
    refine (byts_fld o d a b c x k).app ?_
    split
    · exact byts_lows _ _
    · intro y hy; simp at hy
theorem byts_code (O D A B C X : Nat → Int) (n : Nat) (hb : ∀ k, k < n → Bds (O k) (D k) (A k) (B k) (C k) (X k)) : ∀ k, k ≤ n → Byts (codeB O D A B C X n k)
  | 0, _ => by
    rw [codeB]
    refine Byts.app ?_ (byts_lows _ _)
    intro y hy
    simp at hy
    omega
  | k + 1, hk => by
    rw [codeB]
    refine (byts_code O D A B C X n hb k (by omega)).app ?_
    unfold insB
    intro y hy
    rcases List.mem_cons.1 hy with rfl | hy
    · have := (hb k (by omega)).1; omega
    · exact byts_fld _ _ _ _ _ _ 5 y hy
theorem Byts.at {L : List Int} (h : Byts L) (i : Nat) (hi : i < L.length) : 0 ≤ L.getD i 0 ∧ L.getD i 0 < 256 := by
  rw [List.getD_eq_getElem?_getD, List.getElem?_eq_getElem hi]
  exact h _ (List.getElem_mem hi)
theorem codeB_byte (O D A B C X : Nat → Int) (n : Nat) (hb : ∀ k, k < n → Bds (O k) (D k) (A k) (B k) (C k) (X k)) (k : Nat) (hk : k ≤ n) (i : Nat) (hi : i < (codeB O D A B C X n k).length) : 0 ≤ (codeB O D A B C X n k).getD i 0 ∧ (codeB O D A B C X n k).getD i 0 < 256 := (byts_code O D A B C X n hb k hk).at i hi
end Go.Proofs.YtcgapochcahknaaDoor
