/- What an instruction as said is, op by op: no program is spoken of. -/
import Derived.Test.YtcgapochcahknaaDoorGc2
namespace Go.Proofs.YtcgapochcahknaaDoor
open Go.ChangeShapes Go.WideShapes Go.ChangeAt Go.RowKit
set_option linter.unusedVariables false
theorem inB0 (y : Int) : inB y 0 = (y == 0) := by
  unfold inB
  rw [Bool.eq_iff_iff]
  simp
  omega
theorem inB399 (y : Int) : inB y 399 = rg y := by
  unfold inB rg
  rw [Bool.eq_iff_iff]
  simp
  omega
theorem inBx (x g : Int) (x0 : 0 ≤ x) : inB x g = decide (x ≤ g) := by
  unfold inB
  rw [decide_eq_true x0]
  rfl
theorem inBn (y n : Int) : inB y (n - 1) = (decide (0 ≤ y) && decide (y < n)) := by
  unfold inB
  rw [Bool.eq_iff_iff]
  simp
  omega
theorem goodI_1 (d a b c x n : Int) (x0 : 0 ≤ x) (x1 : x < 4294967296) : goodI 1 d a b c x n = (rg d && (a == 0) && (b == 0) && (c == 0)) := by
  have e : goodI 1 d a b c x n = (((((true && inB d (gv 1 0 n)) && inB a (gv 1 1 n)) && inB b (gv 1 2 n)) && inB c (gv 1 3 n)) && inB x (gv 1 4 n) && swOk 1 a b c x) := rfl
  rw [e]
  rw [show gv 1 0 n = 399 from rfl]
  rw [show gv 1 1 n = 0 from rfl]
  rw [show gv 1 2 n = 0 from rfl]
  rw [show gv 1 3 n = 0 from rfl]
  rw [show gv 1 4 n = 4294967295 from rfl]
  rw [show swOk 1 a b c x = true from rfl]
  simp only [inB0, inB399, inBx x 4294967295 x0, Bool.true_and, Bool.and_true, Bool.and_assoc, decide_eq_true (show x ≤ 4294967295 by omega)]
theorem goodI_2 (d a b c x n : Int) (x0 : 0 ≤ x) (x1 : x < 4294967296) : goodI 2 d a b c x n = (rg d && rg a && (b == 0) && (c == 0) && (x == 0)) := by
  have e : goodI 2 d a b c x n = (((((true && inB d (gv 2 0 n)) && inB a (gv 2 1 n)) && inB b (gv 2 2 n)) && inB c (gv 2 3 n)) && inB x (gv 2 4 n) && swOk 2 a b c x) := rfl
  rw [e]
  rw [show gv 2 0 n = 399 from rfl]
  rw [show gv 2 1 n = 399 from rfl]
  rw [show gv 2 2 n = 0 from rfl]
  rw [show gv 2 3 n = 0 from rfl]
  rw [show gv 2 4 n = 0 from rfl]
  rw [show swOk 2 a b c x = true from rfl]
  simp only [inB0, inB399, Bool.true_and, Bool.and_true, Bool.and_assoc]
theorem goodI_3 (d a b c x n : Int) (x0 : 0 ≤ x) (x1 : x < 4294967296) : goodI 3 d a b c x n = (rg d && rg a && rg b && (c == 0) && decide (x ≤ 999) && signOk x) := by
  have e : goodI 3 d a b c x n = (((((true && inB d (gv 3 0 n)) && inB a (gv 3 1 n)) && inB b (gv 3 2 n)) && inB c (gv 3 3 n)) && inB x (gv 3 4 n) && swOk 3 a b c x) := rfl
  rw [e]
  rw [show gv 3 0 n = 399 from rfl]
  rw [show gv 3 1 n = 399 from rfl]
  rw [show gv 3 2 n = 399 from rfl]
  rw [show gv 3 3 n = 0 from rfl]
  rw [show gv 3 4 n = 999 from rfl]
  rw [show swOk 3 a b c x = signOk x from rfl]
  simp only [inB0, inB399, inBx x 999 x0, Bool.true_and, Bool.and_assoc]
theorem goodI_4 (d a b c x n : Int) (x0 : 0 ≤ x) (x1 : x < 4294967296) : goodI 4 d a b c x n = (rg d && rg a && rg b && rg c && decide (x ≤ 999) && callOk a b c x) := by
  have e : goodI 4 d a b c x n = (((((true && inB d (gv 4 0 n)) && inB a (gv 4 1 n)) && inB b (gv 4 2 n)) && inB c (gv 4 3 n)) && inB x (gv 4 4 n) && swOk 4 a b c x) := rfl
  rw [e]
  rw [show gv 4 0 n = 399 from rfl]
  rw [show gv 4 1 n = 399 from rfl]
  rw [show gv 4 2 n = 399 from rfl]
  rw [show gv 4 3 n = 399 from rfl]
  rw [show gv 4 4 n = 999 from rfl]
  rw [show swOk 4 a b c x = callOk a b c x from rfl]
  simp only [inB399, inBx x 999 x0, Bool.true_and, Bool.and_assoc]
theorem goodI_5 (d a b c x n : Int) (x0 : 0 ≤ x) (x1 : x < 4294967296) : goodI 5 d a b c x n = (rg d && (a == 0) && (b == 0) && (c == 0) && decide (x ≤ 999)) := by
  have e : goodI 5 d a b c x n = (((((true && inB d (gv 5 0 n)) && inB a (gv 5 1 n)) && inB b (gv 5 2 n)) && inB c (gv 5 3 n)) && inB x (gv 5 4 n) && swOk 5 a b c x) := rfl
  rw [e]
  rw [show gv 5 0 n = 399 from rfl]
  rw [show gv 5 1 n = 0 from rfl]
  rw [show gv 5 2 n = 0 from rfl]
  rw [show gv 5 3 n = 0 from rfl]
  rw [show gv 5 4 n = 999 from rfl]
  rw [show swOk 5 a b c x = true from rfl]
  simp only [inB0, inB399, inBx x 999 x0, Bool.true_and, Bool.and_true, Bool.and_assoc]
theorem goodI_6 (d a b c x n : Int) (x0 : 0 ≤ x) (x1 : x < 4294967296) : goodI 6 d a b c x n = (rg d && rg a && (b == 0) && (c == 0) && decide (x ≤ 999)) := by
  have e : goodI 6 d a b c x n = (((((true && inB d (gv 6 0 n)) && inB a (gv 6 1 n)) && inB b (gv 6 2 n)) && inB c (gv 6 3 n)) && inB x (gv 6 4 n) && swOk 6 a b c x) := rfl
  rw [e]
  rw [show gv 6 0 n = 399 from rfl]
  rw [show gv 6 1 n = 399 from rfl]
  rw [show gv 6 2 n = 0 from rfl]
  rw [show gv 6 3 n = 0 from rfl]
  rw [show gv 6 4 n = 999 from rfl]
  rw [show swOk 6 a b c x = true from rfl]
  simp only [inB0, inB399, inBx x 999 x0, Bool.true_and, Bool.and_true, Bool.and_assoc]
theorem goodI_7 (d a b c x n : Int) (x0 : 0 ≤ x) (x1 : x < 4294967296) : goodI 7 d a b c x n = ((d == 0) && rg a && rg b && (c == 0) && decide (x ≤ 999)) := by
  have e : goodI 7 d a b c x n = (((((true && inB d (gv 7 0 n)) && inB a (gv 7 1 n)) && inB b (gv 7 2 n)) && inB c (gv 7 3 n)) && inB x (gv 7 4 n) && swOk 7 a b c x) := rfl
  rw [e]
  rw [show gv 7 0 n = 0 from rfl]
  rw [show gv 7 1 n = 399 from rfl]
  rw [show gv 7 2 n = 399 from rfl]
  rw [show gv 7 3 n = 0 from rfl]
  rw [show gv 7 4 n = 999 from rfl]
  rw [show swOk 7 a b c x = true from rfl]
  simp only [inB0, inB399, inBx x 999 x0, Bool.true_and, Bool.and_true, Bool.and_assoc]
theorem goodI_8 (d a b c x n : Int) (x0 : 0 ≤ x) (x1 : x < 4294967296) : goodI 8 d a b c x n = ((d == 0) && inB a (n - 1) && (b == 0) && (c == 0) && (x == 0)) := by
  have e : goodI 8 d a b c x n = (((((true && inB d (gv 8 0 n)) && inB a (gv 8 1 n)) && inB b (gv 8 2 n)) && inB c (gv 8 3 n)) && inB x (gv 8 4 n) && swOk 8 a b c x) := rfl
  rw [e]
  rw [show gv 8 0 n = 0 from rfl]
  rw [show gv 8 1 n = n - 1 from rfl]
  rw [show gv 8 2 n = 0 from rfl]
  rw [show gv 8 3 n = 0 from rfl]
  rw [show gv 8 4 n = 0 from rfl]
  rw [show swOk 8 a b c x = true from rfl]
  simp only [inB0, Bool.true_and, Bool.and_true, Bool.and_assoc]
theorem goodI_9 (d a b c x n : Int) (x0 : 0 ≤ x) (x1 : x < 4294967296) : goodI 9 d a b c x n = ((d == 0) && rg a && inB b (n - 1) && inB c (n - 1) && (x == 0)) := by
  have e : goodI 9 d a b c x n = (((((true && inB d (gv 9 0 n)) && inB a (gv 9 1 n)) && inB b (gv 9 2 n)) && inB c (gv 9 3 n)) && inB x (gv 9 4 n) && swOk 9 a b c x) := rfl
  rw [e]
  rw [show gv 9 0 n = 0 from rfl]
  rw [show gv 9 1 n = 399 from rfl]
  rw [show gv 9 2 n = n - 1 from rfl]
  rw [show gv 9 3 n = n - 1 from rfl]
  rw [show gv 9 4 n = 0 from rfl]
  rw [show swOk 9 a b c x = true from rfl]
  simp only [inB0, inB399, Bool.true_and, Bool.and_true, Bool.and_assoc]
theorem goodI_10 (d a b c x n : Int) (x0 : 0 ≤ x) (x1 : x < 4294967296) : goodI 10 d a b c x n = ((d == 0) && (a == 0) && (b == 0) && (c == 0) && (x == 0)) := by
  have e : goodI 10 d a b c x n = (((((true && inB d (gv 10 0 n)) && inB a (gv 10 1 n)) && inB b (gv 10 2 n)) && inB c (gv 10 3 n)) && inB x (gv 10 4 n) && swOk 10 a b c x) := rfl
  rw [e]
  rw [show gv 10 0 n = 0 from rfl]
  rw [show gv 10 1 n = 0 from rfl]
  rw [show gv 10 2 n = 0 from rfl]
  rw [show gv 10 3 n = 0 from rfl]
  rw [show gv 10 4 n = 0 from rfl]
  rw [show swOk 10 a b c x = true from rfl]
  simp only [inB0, Bool.true_and, Bool.and_true, Bool.and_assoc]
theorem goodI_11 (d a b c x n : Int) (x0 : 0 ≤ x) (x1 : x < 4294967296) : goodI 11 d a b c x n = ((d == 0) && (a == 0) && (b == 0) && (c == 0) && (x == 0)) := by
  have e : goodI 11 d a b c x n = (((((true && inB d (gv 11 0 n)) && inB a (gv 11 1 n)) && inB b (gv 11 2 n)) && inB c (gv 11 3 n)) && inB x (gv 11 4 n) && swOk 11 a b c x) := rfl
  rw [e]
  rw [show gv 11 0 n = 0 from rfl]
  rw [show gv 11 1 n = 0 from rfl]
  rw [show gv 11 2 n = 0 from rfl]
  rw [show gv 11 3 n = 0 from rfl]
  rw [show gv 11 4 n = 0 from rfl]
  rw [show swOk 11 a b c x = true from rfl]
  simp only [inB0, Bool.true_and, Bool.and_true, Bool.and_assoc]
theorem goodI_12 (d a b c x n : Int) (x0 : 0 ≤ x) (x1 : x < 4294967296) : goodI 12 d a b c x n = (rg d && rg a && (b == 0) && (c == 0) && (x == 0)) := by
  have e : goodI 12 d a b c x n = (((((true && inB d (gv 12 0 n)) && inB a (gv 12 1 n)) && inB b (gv 12 2 n)) && inB c (gv 12 3 n)) && inB x (gv 12 4 n) && swOk 12 a b c x) := rfl
  rw [e]
  rw [show gv 12 0 n = 399 from rfl]
  rw [show gv 12 1 n = 399 from rfl]
  rw [show gv 12 2 n = 0 from rfl]
  rw [show gv 12 3 n = 0 from rfl]
  rw [show gv 12 4 n = 0 from rfl]
  rw [show swOk 12 a b c x = true from rfl]
  simp only [inB0, inB399, Bool.true_and, Bool.and_true, Bool.and_assoc]
theorem goodI_13 (d a b c x n : Int) (x0 : 0 ≤ x) (x1 : x < 4294967296) : goodI 13 d a b c x n = (rg d && rg a && (b == 0) && (c == 0) && (x == 0)) := by
  have e : goodI 13 d a b c x n = (((((true && inB d (gv 13 0 n)) && inB a (gv 13 1 n)) && inB b (gv 13 2 n)) && inB c (gv 13 3 n)) && inB x (gv 13 4 n) && swOk 13 a b c x) := rfl
  rw [e]
  rw [show gv 13 0 n = 399 from rfl]
  rw [show gv 13 1 n = 399 from rfl]
  rw [show gv 13 2 n = 0 from rfl]
  rw [show gv 13 3 n = 0 from rfl]
  rw [show gv 13 4 n = 0 from rfl]
  rw [show swOk 13 a b c x = true from rfl]
  simp only [inB0, inB399, Bool.true_and, Bool.and_true, Bool.and_assoc]
theorem goodI_off (o d a b c x n : Int) (h : o < 1 ∨ 13 < o) : goodI o d a b c x n = false := by
  unfold goodI swOk
  rw [if_neg (by omega), if_neg (by omega)]
  rcases h with h | h
  · rw [decide_eq_false (show ¬ 1 ≤ o by omega)]; simp
  · rw [decide_eq_false (show ¬ o ≤ 13 by omega)]; simp
end Go.Proofs.YtcgapochcahknaaDoor
