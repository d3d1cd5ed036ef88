/- What chapter 10 says of an instruction, told without a program: which fields an op names, what each may hold, whether all is as said. -/
import Derived.Test.YtcgapochcahknaaDoorStrong
import Derived.Test.YtcgapochcahknaaDoorLit
namespace Go.Proofs.YtcgapochcahknaaDoor
open Go.ChangeShapes Go.WideShapes Go.ChangeAt Go.RowKit
set_option linter.unusedVariables false
def nmd (o : Int) (f : Nat) : Bool :=
  match f with
  | 0 => o == 1 || o == 2 || o == 3 || o == 4 || o == 5 || o == 6 || o == 12 || o == 13
  | 1 => o == 2 || o == 3 || o == 4 || o == 6 || o == 7 || o == 8 || o == 9 || o == 12 || o == 13
  | 2 => o == 3 || o == 4 || o == 7 || o == 9
  | 3 => o == 4 || o == 9
  | 4 => o == 1 || o == 3 || o == 4 || o == 5 || o == 6 || o == 7
  | _ => false
def isN (o : Int) (f : Nat) : Bool := (o == 8 && f == 1) || (o == 9 && (f == 2 || f == 3))
def gv (o : Int) (f : Nat) (n : Int) : Int := if nmd o f then (if isN o f then n - 1 else if f = 4 then (if o = 1 then 4294967295 else 999) else 399) else 0
def val (d a b c w : Int) : Nat → Int
  | 0 => d
  | 1 => a
  | 2 => b
  | 3 => c
  | _ => w
def inB (x g : Int) : Bool := decide (0 ≤ x) && decide (x ≤ g)
def okF (o d a b c w n : Int) : Nat → Bool
  | 0 => true
  | k + 1 => okF o d a b c w n k && inB (val d a b c w k) (gv o k n)
theorem okF_stop (o d a b c w n : Int) (k : Nat) (h : inB (val d a b c w k) (gv o k n) = false) : ∀ m, k < m → okF o d a b c w n m = false
  | 0, hm => by omega
  | m + 1, hm => by
    rw [okF]
    by_cases e : k = m
    · subst e; rw [h]; simp
    · rw [okF_stop o d a b c w n k h m (by omega)]; rfl
/-- The sign and the call that a word numbers; the empty text where there is none. -/
def sgnW (w : Int) : ByteArray := textAt signsL (w / 4).toNat
def calW (w : Int) : ByteArray := textAt callsL (w / 4).toNat
def signOk (w : Int) : Bool := decide (0 < st (sgnW w)) && !(w % 4 == 0)
def callOk (a b c w : Int) : Bool := decide (1 ≤ ar (calW w)) && (w % 4 == 1 || w % 4 == 2) && (decide (1 < ar (calW w)) || b == 0) && (decide (2 < ar (calW w)) || c == 0)
def swOk (o a b c w : Int) : Bool := if o = 3 then signOk w else if o = 4 then callOk a b c w else decide (1 ≤ o) && decide (o ≤ 13)
def goodI (o d a b c w n : Int) : Bool := okF o d a b c w n 5 && swOk o a b c w
theorem ar_le (s : ByteArray) : -1 ≤ ar s ∧ ar s ≤ 3 := by
  unfold ar
  repeat' split
  all_goals decide
theorem ar_empty : ar ⟨#[]⟩ = -1 := by decide +kernel
theorem st_empty : st ⟨#[]⟩ = 0 := by decide +kernel
theorem textAt_beyond (l : List ByteArray) (i : Nat) (h : l.length ≤ i) : textAt l i = ⟨#[]⟩ := by
  unfold textAt
  rw [List.getD_eq_getElem?_getD, List.getElem?_eq_none h]
  rfl
theorem op_cases (o : Int) : (1 ≤ o ∧ o ≤ 13) ∨ o < 1 ∨ 13 < o := by omega
theorem op_in (o : Int) (h : 1 ≤ o ∧ o ≤ 13) : o = 1 ∨ o = 2 ∨ o = 3 ∨ o = 4 ∨ o = 5 ∨ o = 6 ∨ o = 7 ∨ o = 8 ∨ o = 9 ∨ o = 10 ∨ o = 11 ∨ o = 12 ∨ o = 13 := by omega
theorem nmd_off (o : Int) (f : Nat) (h : o < 1 ∨ 13 < o) : nmd o f = false := by
  match f with
  | 0 => simp [nmd]; omega
  | 1 => simp [nmd]; omega
  | 2 => simp [nmd]; omega
  | 3 => simp [nmd]; omega
  | 4 => simp [nmd]; omega
  | (f + 5) => rfl
end Go.Proofs.YtcgapochcahknaaDoor
