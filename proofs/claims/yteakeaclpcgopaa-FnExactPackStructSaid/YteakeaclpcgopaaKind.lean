/- The types of fields and what TypeSize answers, the program's and the model's (contracts of shapeOf, extentOfType and their kin, of l7Vec, l7Matrix, l7Array and TypeSize): both answer tsz and tal of the type and the rule; no conditions but a rule that is one where said. -/
import Derived.Test.YteakeaclpcgopaaChecked
import Derived.WalkKit
import Derived.ProofKit
import Derived.Deep.RegionHeld3
import Derived.BigQuiet
namespace Go.Proofs.Yteakeaclpcgopaa
open Go.ChangeShapes Go.WideShapes Go.ChangeAt Go.RowKit
set_option linter.unusedVariables false
/-- Which type a text is; 9 where it is none. -/
def kOf (s : ByteArray) : Nat :=
  if (s.toList == [104, 97, 108, 102]) = true then 0
  else if (s.toList == [105, 110, 116]) = true then 1
  else if (s.toList == [102, 108, 111, 97, 116]) = true then 2
  else if (s.toList == [118, 101, 99, 50]) = true then 3
  else if (s.toList == [118, 101, 99, 51]) = true then 4
  else if (s.toList == [118, 101, 99, 52]) = true then 5
  else if (s.toList == [109, 97, 116, 50]) = true then 6
  else if (s.toList == [109, 97, 116, 51]) = true then 7
  else if (s.toList == [109, 97, 116, 52]) = true then 8
  else 9
structure Is (s : ByteArray) (k : Nat) : Prop where
  b0 : (s.toList == [104, 97, 108, 102]) = decide (k = 0)
  b1 : (s.toList == [105, 110, 116]) = decide (k = 1)
  b2 : (s.toList == [102, 108, 111, 97, 116]) = decide (k = 2)
  b3 : (s.toList == [118, 101, 99, 50]) = decide (k = 3)
  b4 : (s.toList == [118, 101, 99, 51]) = decide (k = 4)
  b5 : (s.toList == [118, 101, 99, 52]) = decide (k = 5)
  b6 : (s.toList == [109, 97, 116, 50]) = decide (k = 6)
  b7 : (s.toList == [109, 97, 116, 51]) = decide (k = 7)
  b8 : (s.toList == [109, 97, 116, 52]) = decide (k = 8)
theorem is_kOf (s : ByteArray) : Is s (kOf s) := by
  unfold kOf
  by_cases h0 : (s.toList == [104, 97, 108, 102]) = true
  · rw [if_pos h0]
    have e := eq_of_beq h0
    constructor <;> rw [e] <;> decide
  rw [if_neg h0]
  by_cases h1 : (s.toList == [105, 110, 116]) = true
  · rw [if_pos h1]
    have e := eq_of_beq h1
    constructor <;> rw [e] <;> decide
  rw [if_neg h1]
  by_cases h2 : (s.toList == [102, 108, 111, 97, 116]) = true
  · rw [if_pos h2]
    have e := eq_of_beq h2
    constructor <;> rw [e] <;> decide
  rw [if_neg h2]
  by_cases h3 : (s.toList == [118, 101, 99, 50]) = true
  · rw [if_pos h3]
    have e := eq_of_beq h3
    constructor <;> rw [e] <;> decide
  rw [if_neg h3]
  by_cases h4 : (s.toList == [118, 101, 99, 51]) = true
  · rw [if_pos h4]
    have e := eq_of_beq h4
    constructor <;> rw [e] <;> decide
  rw [if_neg h4]
  by_cases h5 : (s.toList == [118, 101, 99, 52]) = true
  · rw [if_pos h5]
    have e := eq_of_beq h5
    constructor <;> rw [e] <;> decide
  rw [if_neg h5]
  by_cases h6 : (s.toList == [109, 97, 116, 50]) = true
  · rw [if_pos h6]
    have e := eq_of_beq h6
    constructor <;> rw [e] <;> decide
  rw [if_neg h6]
  by_cases h7 : (s.toList == [109, 97, 116, 51]) = true
  · rw [if_pos h7]
    have e := eq_of_beq h7
    constructor <;> rw [e] <;> decide
  rw [if_neg h7]
  by_cases h8 : (s.toList == [109, 97, 116, 52]) = true
  · rw [if_pos h8]
    have e := eq_of_beq h8
    constructor <;> rw [e] <;> decide
  rw [if_neg h8]
  exact ⟨by simpa using h0, by simpa using h1, by simpa using h2, by simpa using h3, by simpa using h4, by simpa using h5, by simpa using h6, by simpa using h7, by simpa using h8⟩
theorem kOf_le (s : ByteArray) : kOf s ≤ 9 := by
  unfold kOf
  repeat' split
  all_goals omega
/-- One of ten. -/
theorem ten {k : Nat} (h : k ≤ 9) : k = 0 ∨ k = 1 ∨ k = 2 ∨ k = 3 ∨ k = 4 ∨ k = 5 ∨ k = 6 ∨ k = 7 ∨ k = 8 ∨ k = 9 := by omega
def cols (k : Nat) : Int := [1, 1, 1, 1, 1, 1, 2, 3, 4, 0].getD k 0
def nums (k : Nat) : Int := [1, 1, 1, 2, 3, 4, 2, 3, 4, 0].getD k 0
def wid (k : Nat) : Int := [2, 4, 4, 4, 4, 4, 4, 4, 4, 0].getD k 0
def vecN (k : Nat) : Int := [0, 0, 0, 2, 3, 4, 2, 3, 4, 0].getD k 0
def up (n a : Int) : Int := (n + a - 1) / a * a
def many (a r : Int) : Int := if r = 2 then up a 16 else a
def colAl (n wd r : Int) : Int := if r = 0 ∨ n = 1 then wd else if n = 2 then 8 else 16
def tal (k : Nat) (r : Int) : Int := if cols k = 1 then colAl (nums k) (wid k) r else many (colAl (nums k) (wid k) r) r
def tst (k : Nat) (r : Int) : Int := if cols k = 1 then 0 else up (nums k * wid k) (many (colAl (nums k) (wid k) r) r)
def tsz (k : Nat) (r : Int) : Int := if cols k = 1 then nums k * wid k else cols k * tst k r
theorem wrapIn (n : Int) (h : -9223372036854775808 ≤ n ∧ n ≤ 9223372036854775807) : wrap64 n = n := by unfold wrap64; omega
theorem up_bounds (n a : Int) (n0 : 0 ≤ n) (n1 : n ≤ 1048576) (a0 : 1 ≤ a) (a1 : a ≤ 1024) : n ≤ up n a ∧ up n a ≤ n + a - 1 ∧ (n + a - 1).tdiv a = (n + a - 1) / a ∧ 0 ≤ (n + a - 1) / a ∧ (n + a - 1) / a ≤ 1050000 := by
  have e := Int.mul_ediv_add_emod (n + a - 1) a
  have e1 := Int.emod_nonneg (n + a - 1) (show a ≠ 0 by omega)
  have e2 := Int.emod_lt_of_pos (n + a - 1) (show 0 < a by omega)
  have e3 : a * ((n + a - 1) / a) = (n + a - 1) / a * a := Int.mul_comm _ _
  have e4 : 0 ≤ (n + a - 1) / a := Int.ediv_nonneg (by omega) (by omega)
  have e5 : (n + a - 1) / a ≤ n + a - 1 := Int.ediv_le_self _ (by omega)
  unfold up
  exact ⟨by omega, by omega, Int.tdiv_eq_ediv_of_nonneg (by omega), e4, by omega⟩
set_option maxRecDepth 100000 in
set_option maxHeartbeats 4000000 in
theorem shape64 (s : ByteArray) (w : World) : Calls Try.prog 64 #[.string s] w fun e w' => e = .returned (.agg #[.int .i64 (cols (kOf s)), .int .i64 (nums (kOf s)), .int .i64 (wid (kOf s))]) ∧ Below w.heap.size w w' := by
  have hI := is_kOf s
  have hle := kOf_le s
  generalize kOf s = k at hI hle ⊢
  obtain ⟨b0, b1, b2, b3, b4, b5, b6, b7, b8⟩ := hI
  rcases ten hle with rfl | rfl | rfl | rfl | rfl | rfl | rfl | rfl | rfl | rfl
  all_goals
    simp only [decide_true, decide_false, Nat.reduceEqDiff, Nat.zero_ne_one, reduceCtorEq] at b0 b1 b2 b3 b4 b5 b6 b7 b8
    go_enter Try.func64, Try.ntmps64
    go_wp2
    exact bodyPost_ret (by simp [results, Try.results64, go_sem]; exact ⟨by decide, by decide, by decide⟩) rfl ⟨rfl, by repeat (first | (with_reducible refine Below.setCell ?_ (by first | omega | (simp; try omega)) _) | (with_reducible refine Below.alloc ?_ (by first | omega | (simp; try omega)) _) | (with_reducible exact Below.refl _ _))⟩
set_option maxRecDepth 100000 in
set_option maxHeartbeats 4000000 in
theorem vec44 (s : ByteArray) (w : World) : Calls Try.prog 44 #[.string s] w fun e w' => e = .returned (.int .i64 (vecN (kOf s))) ∧ w' = w := by
  have hI := is_kOf s
  have hle := kOf_le s
  generalize kOf s = k at hI hle ⊢
  obtain ⟨b0, b1, b2, b3, b4, b5, b6, b7, b8⟩ := hI
  rcases ten hle with rfl | rfl | rfl | rfl | rfl | rfl | rfl | rfl | rfl | rfl
  all_goals
    simp only [decide_true, decide_false, Nat.reduceEqDiff, Nat.zero_ne_one, reduceCtorEq] at b0 b1 b2 b3 b4 b5 b6 b7 b8
    go_enter Try.func44, Try.ntmps44
    go_wp2
    go_ret
    exact ⟨rfl, rfl⟩
theorem cell_put (w : World) (o i j : Nat) (v u : Value) (h : w.cell? ⟨o, i, none⟩ = some u) : (w.setCell ⟨o, j, none⟩ v).cell? ⟨o, i, none⟩ = some (if i = j then v else u) := by
  by_cases e : i = j
  · subst e
    rw [if_pos rfl]
    exact World.cell?_setCell_same' w _ _ (by rw [h]; rfl)
  · rw [if_neg e]
    have hne : (⟨o, j, none⟩ : Addr) ≠ ⟨o, i, none⟩ := by
      intro k; injection k with _ k2; exact e k2.symm
    rw [World.cell?_setCell_other (h := hne)]
    exact h
theorem put3 {w : World} {o : Nat} {a0 a1 a2 : Value} (b0 b1 b2 : Value) (g0 : w.cell? ⟨o, 0, none⟩ = some a0) (g1 : w.cell? ⟨o, 1, none⟩ = some a1) (g2 : w.cell? ⟨o, 2, none⟩ = some a2) :
    (((w.setCell ⟨o, 0, none⟩ b0).setCell ⟨o, 1, none⟩ b1).setCell ⟨o, 2, none⟩ b2).cell? ⟨o, 0, none⟩ = some b0 ∧ (((w.setCell ⟨o, 0, none⟩ b0).setCell ⟨o, 1, none⟩ b1).setCell ⟨o, 2, none⟩ b2).cell? ⟨o, 1, none⟩ = some b1 ∧ (((w.setCell ⟨o, 0, none⟩ b0).setCell ⟨o, 1, none⟩ b1).setCell ⟨o, 2, none⟩ b2).cell? ⟨o, 2, none⟩ = some b2 :=
  ⟨cell_put _ _ _ _ _ _ (cell_put _ _ _ _ _ _ (cell_put _ _ _ _ _ _ g0)), cell_put _ _ _ _ _ _ (cell_put _ _ _ _ _ _ (cell_put _ _ _ _ _ _ g1)), cell_put _ _ _ _ _ _ (cell_put _ _ _ _ _ _ (cell_put _ _ _ _ _ _ g2))⟩
/-- Three cells from the head of block o on, which may be written. -/
structure C3 (w : World) (o : Nat) (a b c : Value) : Prop where
  c0 : w.cell? ⟨o, 0, none⟩ = some a
  c1 : w.cell? ⟨o, 1, none⟩ = some b
  c2 : w.cell? ⟨o, 2, none⟩ = some c
  f0 : w.frozen? ⟨o, 0, none⟩ = false
  f1 : w.frozen? ⟨o, 1, none⟩ = false
  f2 : w.frozen? ⟨o, 2, none⟩ = false
  hi : o < w.heap.size
theorem C3.next {w w' : World} {o : Nat} {a b c : Value} (h : C3 w o a b c) (B : Below w.heap.size w w') : C3 w' o a b c :=
  ⟨(B.cell (p := ⟨o, 0, none⟩) h.hi).trans h.c0, (B.cell (p := ⟨o, 1, none⟩) h.hi).trans h.c1, (B.cell (p := ⟨o, 2, none⟩) h.hi).trans h.c2, (B.frozen (p := ⟨o, 0, none⟩) h.hi).trans h.f0, (B.frozen (p := ⟨o, 1, none⟩) h.hi).trans h.f1, (B.frozen (p := ⟨o, 2, none⟩) h.hi).trans h.f2, by have := B.size; have := h.hi; omega⟩
theorem C3.new (w : World) (a b c : Value) (t : TypeId) : C3 (w.alloc (.cells #[a, b, c] t)) w.heap.size a b c :=
  ⟨by simp [go_sem], by simp [go_sem], by simp [go_sem], by simp [go_sem], by simp [go_sem], by simp [go_sem], by simp⟩
theorem C3.alloc {w : World} {o : Nat} {a b c : Value} (h : C3 w o a b c) (x : Obj) : C3 (w.alloc x) o a b c :=
  h.next ((Below.refl _ _).alloc (Nat.le_refl _) _)
theorem C3.drew {w : World} {o : Nat} {a b c : Value} (h : C3 w o a b c) : C3 w.drew o a b c := ⟨h.c0, h.c1, h.c2, h.f0, h.f1, h.f2, h.hi⟩
set_option maxRecDepth 100000 in
set_option maxHeartbeats 4000000 in
theorem up51 (n a : Int) (w : World) (n0 : 0 ≤ n) (n1 : n ≤ 1048576) (a0 : 1 ≤ a) (a1 : a ≤ 1024) : Calls Try.prog 51 #[.int .i64 n, .int .i64 a] w fun e w' => e = .returned (.int .i64 (up n a)) ∧ w' = w := by
  have u0 := up_bounds n a n0 n1 a0 a1
  go_enter Try.func51, Try.ntmps51
  go_wp2
  go_ret
  refine ⟨?_, rfl⟩
  unfold up at u0 ⊢
  rw [wrapIn _ (by omega)]
  rfl
set_option maxRecDepth 100000 in
set_option maxHeartbeats 4000000 in
theorem up54 (n a : Int) (w : World) (n0 : 0 ≤ n) (n1 : n ≤ 1048576) (a0 : 1 ≤ a) (a1 : a ≤ 1024) : Calls Try.prog 54 #[.int .i64 n, .int .i64 a] w fun e w' => e = .returned (.int .i64 (up n a)) ∧ w' = w := by
  have u0 := up_bounds n a n0 n1 a0 a1
  go_enter Try.func54, Try.ntmps54
  go_wp2
  go_ret
  refine ⟨?_, rfl⟩
  unfold up at u0 ⊢
  rw [wrapIn _ (by omega)]
  rfl
theorem many_bounds (a r : Int) (a0 : 1 ≤ a) (a1 : a ≤ 64) : a ≤ many a r ∧ many a r ≤ a + 15 := by
  have u0 := up_bounds a 16 (by omega) (by omega) (by omega) (by omega)
  unfold many
  split <;> omega
set_option maxRecDepth 100000 in
set_option maxHeartbeats 4000000 in
theorem many55 (a r : Int) (w : World) (a0 : 1 ≤ a) (a1 : a ≤ 64) : Calls Try.prog 55 #[.int .i64 a, .int .i64 r] w fun e w' => e = .returned (.int .i64 (many a r)) ∧ w' = w := by
  have h := up54 a 16 w (by omega) (by omega) (by omega) (by omega)
  have hm : many a r = if r = 2 then up a 16 else a := rfl
  generalize many a r = M at hm ⊢
  by_cases h2 : r = 2
  · subst h2
    rw [if_pos rfl] at hm
    rw [hm]
    clear hm
    go_enter Try.func55, Try.ntmps55
    go_wp2_with (go_at_call 54; refine h.mono ?_; rintro e w' ⟨rfl, hw⟩; subst w')
    go_ret
    exact ⟨rfl, rfl⟩
  · have h2' : (r == 2) = false := by simpa using h2
    rw [if_neg h2] at hm
    rw [hm]
    clear hm h
    go_enter Try.func55, Try.ntmps55
    go_wp2
    go_ret
    exact ⟨rfl, rfl⟩
set_option maxRecDepth 100000 in
set_option maxHeartbeats 4000000 in
theorem array47 (z a r : Int) (w : World) (z0 : 0 ≤ z) (z1 : z ≤ 65536) (a0 : 1 ≤ a) (a1 : a ≤ 64) : Calls Try.prog 47 #[.int .i64 z, .int .i64 a, .int .i64 r] w fun e w' => e = .returned (.tuple #[.int .i64 (many a r), .int .i64 (up z (many a r))]) ∧ w' = w := by
  have mb := many_bounds a r a0 a1
  have h := up51 a 16 w (by omega) (by omega) (by omega) (by omega)
  have h' := up51 z (many a r) w (by omega) (by omega) (by omega) (by omega)
  by_cases h2 : r = 2
  · subst h2
    have hm : many a 2 = up a 16 := rfl
    rw [hm] at h' mb ⊢
    generalize up a 16 = A at h h' mb ⊢
    generalize up z A = Z at h' ⊢
    have H1 : Hid (Calls Try.prog 51 #[.int .i64 a, .int .i64 16] w fun e w' => e = .returned (.int .i64 A) ∧ w' = w) := h
    have H2 : Hid (Calls Try.prog 51 #[.int .i64 z, .int .i64 A] w fun e w' => e = .returned (.int .i64 Z) ∧ w' = w) := h'
    clear h h' hm
    go_enter Try.func47, Try.ntmps47
    go_wp2_with (go_at_call 51; first | (with_reducible refine (Hid.out H1).mono ?_; rintro e w' ⟨rfl, hw⟩; subst w') | (with_reducible refine (Hid.out H2).mono ?_; rintro e w' ⟨rfl, hw⟩; subst w'))
    go_ret2
    exact ⟨rfl, rfl⟩
  · have h2' : (r == 2) = false := by simpa using h2
    have hm : many a r = a := by unfold many; rw [if_neg h2]
    rw [hm] at h' mb ⊢
    generalize up z a = Z at h' ⊢
    have H2 : Hid (Calls Try.prog 51 #[.int .i64 z, .int .i64 a] w fun e w' => e = .returned (.int .i64 Z) ∧ w' = w) := h'
    clear h h' hm
    go_enter Try.func47, Try.ntmps47
    go_wp2_with (go_at_call 51; with_reducible refine (Hid.out H2).mono ?_; rintro e w' ⟨rfl, hw⟩; subst w')
    go_ret2
    exact ⟨rfl, rfl⟩
set_option maxRecDepth 100000 in
set_option maxHeartbeats 4000000 in
theorem rule43 (r : Int) (w : World) : Calls Try.prog 43 #[.int .i64 r] w fun e w' => e = .returned (.bool (decide (0 ≤ r ∧ r ≤ 2))) ∧ w' = w := by
  by_cases h0 : 0 ≤ r
  · by_cases h2 : r ≤ 2
    · rw [decide_eq_true ⟨h0, h2⟩]
      go_enter Try.func43, Try.ntmps43
      go_wp2
      go_ret
      exact ⟨rfl, rfl⟩
    · rw [decide_eq_false (by omega)]
      go_enter Try.func43, Try.ntmps43
      go_wp2
      go_ret
      exact ⟨rfl, rfl⟩
  · rw [decide_eq_false (by omega)]
    go_enter Try.func43, Try.ntmps43
    go_wp2
    go_ret
    exact ⟨rfl, rfl⟩
set_option maxRecDepth 100000 in
set_option maxHeartbeats 4000000 in
theorem rule49 (r : Int) (w : World) : Calls Try.prog 49 #[.int .i64 r] w fun e w' => e = .returned (.bool (decide (0 ≤ r ∧ r ≤ 2))) ∧ w' = w := by
  by_cases h0 : r = 0
  · subst h0
    go_enter Try.func49, Try.ntmps49
    go_wp2
    go_ret
    exact ⟨rfl, rfl⟩
  have h0' : (r == 0) = false := by simpa using h0
  by_cases h1 : r = 1
  · subst h1
    go_enter Try.func49, Try.ntmps49
    go_wp2
    go_ret
    exact ⟨rfl, rfl⟩
  have h1' : (r == 1) = false := by simpa using h1
  by_cases h2 : r = 2
  · subst h2
    go_enter Try.func49, Try.ntmps49
    go_wp2
    go_ret
    exact ⟨rfl, rfl⟩
  have h2' : (r == 2) = false := by simpa using h2
  rw [decide_eq_false (by omega)]
  go_enter Try.func49, Try.ntmps49
  go_wp2
  go_ret
  exact ⟨rfl, rfl⟩
set_option maxRecDepth 100000 in
set_option maxHeartbeats 4000000 in
theorem column45 (n r : Int) (w : World) (n0 : 1 ≤ n) (n1 : n ≤ 4) : Calls Try.prog 45 #[.int .i64 n, .int .i64 r] w fun e w' => e = .returned (.tuple #[.int .i64 (n * 4), .int .i64 (if r = 0 then 4 else if n = 2 then 8 else 16)]) ∧ w' = w := by
  have hn : n = 1 ∨ n = 2 ∨ n = 3 ∨ n = 4 := by omega
  by_cases h0 : r = 0
  · subst h0
    rcases hn with rfl | rfl | rfl | rfl
    all_goals
      go_enter Try.func45, Try.ntmps45
      go_wp2
      go_ret2
      exact ⟨rfl, rfl⟩
  · have h0' : (r == 0) = false := by simpa using h0
    rw [if_neg h0]
    rcases hn with rfl | rfl | rfl | rfl
    all_goals
      go_enter Try.func45, Try.ntmps45
      go_wp2
      go_ret2
      exact ⟨rfl, rfl⟩
set_option maxRecDepth 100000 in
set_option maxHeartbeats 4000000 in
theorem colAl91 (c n wd r : Int) (w : World) : Calls Try.prog 91 #[.agg #[.int .i64 c, .int .i64 n, .int .i64 wd], .int .i64 r] w fun e w' => e = .returned (.int .i64 (colAl n wd r)) ∧ Below w.heap.size w w' := by
  have hc : colAl n wd r = if r = 0 ∨ n = 1 then wd else if n = 2 then 8 else 16 := rfl
  generalize colAl n wd r = C at hc ⊢
  by_cases h0 : r = 0
  · subst h0
    rw [if_pos (Or.inl rfl)] at hc
    subst hc
    go_enter Try.func91, Try.ntmps91
    go_wp2
    go_ret
    exact ⟨rfl, by repeat (first | (with_reducible refine Below.setCell ?_ (by first | omega | (simp; try omega)) _) | (with_reducible refine Below.alloc ?_ (by first | omega | (simp; try omega)) _) | (with_reducible exact Below.refl _ _))⟩
  have h0' : (r == 0) = false := by simpa using h0
  by_cases h1 : n = 1
  · subst h1
    rw [if_pos (Or.inr rfl)] at hc
    subst hc
    go_enter Try.func91, Try.ntmps91
    go_wp2
    go_ret
    exact ⟨rfl, by repeat (first | (with_reducible refine Below.setCell ?_ (by first | omega | (simp; try omega)) _) | (with_reducible refine Below.alloc ?_ (by first | omega | (simp; try omega)) _) | (with_reducible exact Below.refl _ _))⟩
  have h1' : (n == 1) = false := by simpa using h1
  rw [if_neg (by omega)] at hc
  by_cases h2 : n = 2
  · subst h2
    rw [if_pos rfl] at hc
    subst hc
    go_enter Try.func91, Try.ntmps91
    go_wp2
    go_ret
    exact ⟨rfl, by repeat (first | (with_reducible refine Below.setCell ?_ (by first | omega | (simp; try omega)) _) | (with_reducible refine Below.alloc ?_ (by first | omega | (simp; try omega)) _) | (with_reducible exact Below.refl _ _))⟩
  · have h2' : (n == 2) = false := by simpa using h2
    rw [if_neg h2] at hc
    subst hc
    go_enter Try.func91, Try.ntmps91
    go_wp2
    go_ret
    exact ⟨rfl, by repeat (first | (with_reducible refine Below.setCell ?_ (by first | omega | (simp; try omega)) _) | (with_reducible refine Below.alloc ?_ (by first | omega | (simp; try omega)) _) | (with_reducible exact Below.refl _ _))⟩
/-- The first three bytes of a text. -/
theorem take3 (s : ByteArray) (h : s.size = 4) : (s.extract 0 3).toList = s.toList.take 3 := by
  rw [ByteArray.toList_eq, ByteArray.toList_eq]
  simp [ByteArray.data_extract, Array.toList_extract, List.extract_eq_take_drop]
theorem size_of {s : ByteArray} {l : List UInt8} (h : (s.toList == l) = true) : s.size = l.length := by
  rw [← eq_of_beq h, ByteArray.toList_eq]
  simp
set_option maxRecDepth 100000 in
set_option maxHeartbeats 4000000 in
theorem matrix46 (s : ByteArray) (w : World) : Calls Try.prog 46 #[.string s] w fun e w' => e = .returned (.bool (decide (6 ≤ kOf s ∧ kOf s ≤ 8))) ∧ w' = w := by
  have hv := fun w => vec44 s w
  have hI := is_kOf s
  have hle := kOf_le s
  generalize kOf s = k at hv hI hle ⊢
  obtain ⟨b0, b1, b2, b3, b4, b5, b6, b7, b8⟩ := hI
  rcases ten hle with rfl | rfl | rfl | rfl | rfl | rfl | rfl | rfl | rfl | rfl
  · have hz : s.size = 4 := size_of b0
    have HV : Hid (∀ w, Calls Try.prog 44 #[.string s] w fun e w' => e = .returned (.int .i64 (vecN 0)) ∧ w' = w) := hv
    have h3 : ((s.extract 0 3).toList == [109, 97, 116]) = false := by rw [take3 s hz, eq_of_beq b0]; decide
    have hz' : ((s.size : Int) == 4) = true := by rw [hz]; rfl
    clear b0 b1 b2 b3 b4 b5 b6 b7 b8 hv
    go_enter Try.func46, Try.ntmps46
    go_wp2_with (go_at_call 44; refine ((Hid.out HV) w).mono ?_; rintro e w' ⟨rfl, hw⟩; subst w')
    go_ret
    exact ⟨rfl, rfl⟩
  · have hz : s.size = 3 := size_of b1
    have HV : Hid (∀ w, Calls Try.prog 44 #[.string s] w fun e w' => e = .returned (.int .i64 (vecN 1)) ∧ w' = w) := hv
    have hz' : ((s.size : Int) == 4) = false := by rw [hz]; rfl
    clear b0 b1 b2 b3 b4 b5 b6 b7 b8 hv
    go_enter Try.func46, Try.ntmps46
    go_wp2_with (go_at_call 44; refine ((Hid.out HV) w).mono ?_; rintro e w' ⟨rfl, hw⟩; subst w')
    go_ret
    exact ⟨rfl, rfl⟩
  · have hz : s.size = 5 := size_of b2
    have HV : Hid (∀ w, Calls Try.prog 44 #[.string s] w fun e w' => e = .returned (.int .i64 (vecN 2)) ∧ w' = w) := hv
    have hz' : ((s.size : Int) == 4) = false := by rw [hz]; rfl
    clear b0 b1 b2 b3 b4 b5 b6 b7 b8 hv
    go_enter Try.func46, Try.ntmps46
    go_wp2_with (go_at_call 44; refine ((Hid.out HV) w).mono ?_; rintro e w' ⟨rfl, hw⟩; subst w')
    go_ret
    exact ⟨rfl, rfl⟩
  · have hz : s.size = 4 := size_of b3
    have HV : Hid (∀ w, Calls Try.prog 44 #[.string s] w fun e w' => e = .returned (.int .i64 (vecN 3)) ∧ w' = w) := hv
    have h3 : ((s.extract 0 3).toList == [109, 97, 116]) = false := by rw [take3 s hz, eq_of_beq b3]; decide
    have hz' : ((s.size : Int) == 4) = true := by rw [hz]; rfl
    clear b0 b1 b2 b3 b4 b5 b6 b7 b8 hv
    go_enter Try.func46, Try.ntmps46
    go_wp2_with (go_at_call 44; refine ((Hid.out HV) w).mono ?_; rintro e w' ⟨rfl, hw⟩; subst w')
    go_ret
    exact ⟨rfl, rfl⟩
  · have hz : s.size = 4 := size_of b4
    have HV : Hid (∀ w, Calls Try.prog 44 #[.string s] w fun e w' => e = .returned (.int .i64 (vecN 4)) ∧ w' = w) := hv
    have h3 : ((s.extract 0 3).toList == [109, 97, 116]) = false := by rw [take3 s hz, eq_of_beq b4]; decide
    have hz' : ((s.size : Int) == 4) = true := by rw [hz]; rfl
    clear b0 b1 b2 b3 b4 b5 b6 b7 b8 hv
    go_enter Try.func46, Try.ntmps46
    go_wp2_with (go_at_call 44; refine ((Hid.out HV) w).mono ?_; rintro e w' ⟨rfl, hw⟩; subst w')
    go_ret
    exact ⟨rfl, rfl⟩
  · have hz : s.size = 4 := size_of b5
    have HV : Hid (∀ w, Calls Try.prog 44 #[.string s] w fun e w' => e = .returned (.int .i64 (vecN 5)) ∧ w' = w) := hv
    have h3 : ((s.extract 0 3).toList == [109, 97, 116]) = false := by rw [take3 s hz, eq_of_beq b5]; decide
    have hz' : ((s.size : Int) == 4) = true := by rw [hz]; rfl
    clear b0 b1 b2 b3 b4 b5 b6 b7 b8 hv
    go_enter Try.func46, Try.ntmps46
    go_wp2_with (go_at_call 44; refine ((Hid.out HV) w).mono ?_; rintro e w' ⟨rfl, hw⟩; subst w')
    go_ret
    exact ⟨rfl, rfl⟩
  · have hz : s.size = 4 := size_of b6
    have HV : Hid (∀ w, Calls Try.prog 44 #[.string s] w fun e w' => e = .returned (.int .i64 (vecN 6)) ∧ w' = w) := hv
    have h3 : ((s.extract 0 3).toList == [109, 97, 116]) = true := by rw [take3 s hz, eq_of_beq b6]; decide
    have hz' : ((s.size : Int) == 4) = true := by rw [hz]; rfl
    clear b0 b1 b2 b3 b4 b5 b6 b7 b8 hv
    go_enter Try.func46, Try.ntmps46
    go_wp2_with (go_at_call 44; refine ((Hid.out HV) w).mono ?_; rintro e w' ⟨rfl, hw⟩; subst w')
    go_ret
    exact ⟨rfl, rfl⟩
  · have hz : s.size = 4 := size_of b7
    have HV : Hid (∀ w, Calls Try.prog 44 #[.string s] w fun e w' => e = .returned (.int .i64 (vecN 7)) ∧ w' = w) := hv
    have h3 : ((s.extract 0 3).toList == [109, 97, 116]) = true := by rw [take3 s hz, eq_of_beq b7]; decide
    have hz' : ((s.size : Int) == 4) = true := by rw [hz]; rfl
    clear b0 b1 b2 b3 b4 b5 b6 b7 b8 hv
    go_enter Try.func46, Try.ntmps46
    go_wp2_with (go_at_call 44; refine ((Hid.out HV) w).mono ?_; rintro e w' ⟨rfl, hw⟩; subst w')
    go_ret
    exact ⟨rfl, rfl⟩
  · have hz : s.size = 4 := size_of b8
    have HV : Hid (∀ w, Calls Try.prog 44 #[.string s] w fun e w' => e = .returned (.int .i64 (vecN 8)) ∧ w' = w) := hv
    have h3 : ((s.extract 0 3).toList == [109, 97, 116]) = true := by rw [take3 s hz, eq_of_beq b8]; decide
    have hz' : ((s.size : Int) == 4) = true := by rw [hz]; rfl
    clear b0 b1 b2 b3 b4 b5 b6 b7 b8 hv
    go_enter Try.func46, Try.ntmps46
    go_wp2_with (go_at_call 44; refine ((Hid.out HV) w).mono ?_; rintro e w' ⟨rfl, hw⟩; subst w')
    go_ret
    exact ⟨rfl, rfl⟩
  · have HV : Hid (∀ w, Calls Try.prog 44 #[.string s] w fun e w' => e = .returned (.int .i64 (vecN 9)) ∧ w' = w) := hv
    clear b0 b1 b2 b3 b4 b5 b6 b7 b8 hv
    by_cases hz : s.size = 4
    · have hz' : ((s.size : Int) == 4) = true := by rw [hz]; rfl
      cases h3 : ((s.extract 0 3).toList == [109, 97, 116])
      all_goals
        go_enter Try.func46, Try.ntmps46
        go_wp2_with (go_at_call 44; refine ((Hid.out HV) w).mono ?_; rintro e w' ⟨rfl, hw⟩; subst w')
        go_ret
        exact ⟨rfl, rfl⟩
    · have hz' : ((s.size : Int) == 4) = false := by simp; omega
      go_enter Try.func46, Try.ntmps46
      go_wp2_with (go_at_call 44; refine ((Hid.out HV) w).mono ?_; rintro e w' ⟨rfl, hw⟩; subst w')
      go_ret
      exact ⟨rfl, rfl⟩
/-- What TypeSize answers. -/
def tszR (k : Nat) (r : Int) : Int := if (0 ≤ r ∧ r ≤ 2) ∧ k ≤ 8 then tsz k r else 0
def talR (k : Nat) (r : Int) : Int := if (0 ≤ r ∧ r ≤ 2) ∧ k ≤ 8 then tal k r else 0
set_option maxRecDepth 100000 in
set_option maxHeartbeats 4000000 in
theorem size14 (s : ByteArray) (r : Int) (w : World) : Calls Try.prog 14 #[.string s, .int .i64 r] w fun e w' => e = .returned (.tuple #[.int .i64 (tszR (kOf s) r), .int .i64 (talR (kOf s) r)]) ∧ w' = w := by
  by_cases hr : 0 ≤ r ∧ r ≤ 2
  case neg =>
    rw [show tszR (kOf s) r = 0 by unfold tszR; rw [if_neg (by omega)], show talR (kOf s) r = 0 by unfold talR; rw [if_neg (by omega)]]
    have h := rule43 r w
    rw [decide_eq_false hr] at h
    go_enter Try.func14, Try.ntmps14
    go_wp2_with (go_at_call 43; refine h.mono ?_; rintro e w' ⟨rfl, hw⟩; subst w')
    go_ret2
    exact ⟨rfl, rfl⟩
  have hR := rule43 r w
  rw [decide_eq_true hr] at hR
  have hv := fun w => vec44 s w
  have hm := fun w => matrix46 s w
  have hI := is_kOf s
  have hle := kOf_le s
  generalize kOf s = k at hv hm hI hle ⊢
  obtain ⟨b0, b1, b2, b3, b4, b5, b6, b7, b8⟩ := hI
  have hr3 : r = 0 ∨ r = 1 ∨ r = 2 := by omega
  rcases ten hle with rfl | rfl | rfl | rfl | rfl | rfl | rfl | rfl | rfl | rfl
  · skip
    replace b0 : (s.toList == [104, 97, 108, 102]) = true := b0
    replace b1 : (s.toList == [105, 110, 116]) = false := b1
    replace b2 : (s.toList == [102, 108, 111, 97, 116]) = false := b2
    replace b3 : (s.toList == [118, 101, 99, 50]) = false := b3
    replace b4 : (s.toList == [118, 101, 99, 51]) = false := b4
    replace b5 : (s.toList == [118, 101, 99, 52]) = false := b5
    replace b6 : (s.toList == [109, 97, 116, 50]) = false := b6
    replace b7 : (s.toList == [109, 97, 116, 51]) = false := b7
    replace b8 : (s.toList == [109, 97, 116, 52]) = false := b8
    have HV : Hid (∀ w, Calls Try.prog 44 #[.string s] w fun e w' => e = .returned (.int .i64 0) ∧ w' = w) := hv
    have HM : Hid (∀ w, Calls Try.prog 46 #[.string s] w fun e w' => e = .returned (.bool false) ∧ w' = w) := hm
    clear hv hm
    rcases hr3 with rfl | rfl | rfl
    · skip
      go_enter Try.func14, Try.ntmps14
      go_wp2_with (first | (go_at_call 43; refine hR.mono ?_; rintro e w' ⟨rfl, hw⟩; subst w'))
      go_ret2
      exact ⟨rfl, rfl⟩
    · skip
      go_enter Try.func14, Try.ntmps14
      go_wp2_with (first | (go_at_call 43; refine hR.mono ?_; rintro e w' ⟨rfl, hw⟩; subst w'))
      go_ret2
      exact ⟨rfl, rfl⟩
    · skip
      go_enter Try.func14, Try.ntmps14
      go_wp2_with (first | (go_at_call 43; refine hR.mono ?_; rintro e w' ⟨rfl, hw⟩; subst w'))
      go_ret2
      exact ⟨rfl, rfl⟩
  · skip
    replace b0 : (s.toList == [104, 97, 108, 102]) = false := b0
    replace b1 : (s.toList == [105, 110, 116]) = true := b1
    replace b2 : (s.toList == [102, 108, 111, 97, 116]) = false := b2
    replace b3 : (s.toList == [118, 101, 99, 50]) = false := b3
    replace b4 : (s.toList == [118, 101, 99, 51]) = false := b4
    replace b5 : (s.toList == [118, 101, 99, 52]) = false := b5
    replace b6 : (s.toList == [109, 97, 116, 50]) = false := b6
    replace b7 : (s.toList == [109, 97, 116, 51]) = false := b7
    replace b8 : (s.toList == [109, 97, 116, 52]) = false := b8
    have HV : Hid (∀ w, Calls Try.prog 44 #[.string s] w fun e w' => e = .returned (.int .i64 0) ∧ w' = w) := hv
    have HM : Hid (∀ w, Calls Try.prog 46 #[.string s] w fun e w' => e = .returned (.bool false) ∧ w' = w) := hm
    clear hv hm
    rcases hr3 with rfl | rfl | rfl
    · skip
      go_enter Try.func14, Try.ntmps14
      go_wp2_with (first | (go_at_call 43; refine hR.mono ?_; rintro e w' ⟨rfl, hw⟩; subst w'))
      go_ret2
      exact ⟨rfl, rfl⟩
    · skip
      go_enter Try.func14, Try.ntmps14
      go_wp2_with (first | (go_at_call 43; refine hR.mono ?_; rintro e w' ⟨rfl, hw⟩; subst w'))
      go_ret2
      exact ⟨rfl, rfl⟩
    · skip
      go_enter Try.func14, Try.ntmps14
      go_wp2_with (first | (go_at_call 43; refine hR.mono ?_; rintro e w' ⟨rfl, hw⟩; subst w'))
      go_ret2
      exact ⟨rfl, rfl⟩
  · skip
    replace b0 : (s.toList == [104, 97, 108, 102]) = false := b0
    replace b1 : (s.toList == [105, 110, 116]) = false := b1
    replace b2 : (s.toList == [102, 108, 111, 97, 116]) = true := b2
    replace b3 : (s.toList == [118, 101, 99, 50]) = false := b3
    replace b4 : (s.toList == [118, 101, 99, 51]) = false := b4
    replace b5 : (s.toList == [118, 101, 99, 52]) = false := b5
    replace b6 : (s.toList == [109, 97, 116, 50]) = false := b6
    replace b7 : (s.toList == [109, 97, 116, 51]) = false := b7
    replace b8 : (s.toList == [109, 97, 116, 52]) = false := b8
    have HV : Hid (∀ w, Calls Try.prog 44 #[.string s] w fun e w' => e = .returned (.int .i64 0) ∧ w' = w) := hv
    have HM : Hid (∀ w, Calls Try.prog 46 #[.string s] w fun e w' => e = .returned (.bool false) ∧ w' = w) := hm
    clear hv hm
    rcases hr3 with rfl | rfl | rfl
    · skip
      go_enter Try.func14, Try.ntmps14
      go_wp2_with (first | (go_at_call 43; refine hR.mono ?_; rintro e w' ⟨rfl, hw⟩; subst w'))
      go_ret2
      exact ⟨rfl, rfl⟩
    · skip
      go_enter Try.func14, Try.ntmps14
      go_wp2_with (first | (go_at_call 43; refine hR.mono ?_; rintro e w' ⟨rfl, hw⟩; subst w'))
      go_ret2
      exact ⟨rfl, rfl⟩
    · skip
      go_enter Try.func14, Try.ntmps14
      go_wp2_with (first | (go_at_call 43; refine hR.mono ?_; rintro e w' ⟨rfl, hw⟩; subst w'))
      go_ret2
      exact ⟨rfl, rfl⟩
  · skip
    replace b0 : (s.toList == [104, 97, 108, 102]) = false := b0
    replace b1 : (s.toList == [105, 110, 116]) = false := b1
    replace b2 : (s.toList == [102, 108, 111, 97, 116]) = false := b2
    replace b3 : (s.toList == [118, 101, 99, 50]) = true := b3
    replace b4 : (s.toList == [118, 101, 99, 51]) = false := b4
    replace b5 : (s.toList == [118, 101, 99, 52]) = false := b5
    replace b6 : (s.toList == [109, 97, 116, 50]) = false := b6
    replace b7 : (s.toList == [109, 97, 116, 51]) = false := b7
    replace b8 : (s.toList == [109, 97, 116, 52]) = false := b8
    have HV : Hid (∀ w, Calls Try.prog 44 #[.string s] w fun e w' => e = .returned (.int .i64 2) ∧ w' = w) := hv
    have HM : Hid (∀ w, Calls Try.prog 46 #[.string s] w fun e w' => e = .returned (.bool false) ∧ w' = w) := hm
    clear hv hm
    rcases hr3 with rfl | rfl | rfl
    · skip
      have HC : Hid (∀ w, Calls Try.prog 45 #[.int .i64 2, .int .i64 0] w fun e w' => e = .returned (.tuple #[.int .i64 8, .int .i64 4]) ∧ w' = w) := fun w => column45 2 0 w (by omega) (by omega)
      go_enter Try.func14, Try.ntmps14
      go_wp2_with (first | (go_at_call 43; refine hR.mono ?_; rintro e w' ⟨rfl, hw⟩; subst w') | (go_at_call 44; refine ((Hid.out HV) w).mono ?_; rintro e w' ⟨rfl, hw⟩; subst w') | (go_at_call 45; refine ((Hid.out HC) w).mono ?_; rintro e w' ⟨rfl, hw⟩; subst w') | (go_at_call 46; refine ((Hid.out HM) w).mono ?_; rintro e w' ⟨rfl, hw⟩; subst w'))
      go_ret2
      exact ⟨rfl, rfl⟩
    · skip
      have HC : Hid (∀ w, Calls Try.prog 45 #[.int .i64 2, .int .i64 1] w fun e w' => e = .returned (.tuple #[.int .i64 8, .int .i64 8]) ∧ w' = w) := fun w => column45 2 1 w (by omega) (by omega)
      go_enter Try.func14, Try.ntmps14
      go_wp2_with (first | (go_at_call 43; refine hR.mono ?_; rintro e w' ⟨rfl, hw⟩; subst w') | (go_at_call 44; refine ((Hid.out HV) w).mono ?_; rintro e w' ⟨rfl, hw⟩; subst w') | (go_at_call 45; refine ((Hid.out HC) w).mono ?_; rintro e w' ⟨rfl, hw⟩; subst w') | (go_at_call 46; refine ((Hid.out HM) w).mono ?_; rintro e w' ⟨rfl, hw⟩; subst w'))
      go_ret2
      exact ⟨rfl, rfl⟩
    · skip
      have HC : Hid (∀ w, Calls Try.prog 45 #[.int .i64 2, .int .i64 2] w fun e w' => e = .returned (.tuple #[.int .i64 8, .int .i64 8]) ∧ w' = w) := fun w => column45 2 2 w (by omega) (by omega)
      go_enter Try.func14, Try.ntmps14
      go_wp2_with (first | (go_at_call 43; refine hR.mono ?_; rintro e w' ⟨rfl, hw⟩; subst w') | (go_at_call 44; refine ((Hid.out HV) w).mono ?_; rintro e w' ⟨rfl, hw⟩; subst w') | (go_at_call 45; refine ((Hid.out HC) w).mono ?_; rintro e w' ⟨rfl, hw⟩; subst w') | (go_at_call 46; refine ((Hid.out HM) w).mono ?_; rintro e w' ⟨rfl, hw⟩; subst w'))
      go_ret2
      exact ⟨rfl, rfl⟩
  · skip
    replace b0 : (s.toList == [104, 97, 108, 102]) = false := b0
    replace b1 : (s.toList == [105, 110, 116]) = false := b1
    replace b2 : (s.toList == [102, 108, 111, 97, 116]) = false := b2
    replace b3 : (s.toList == [118, 101, 99, 50]) = false := b3
    replace b4 : (s.toList == [118, 101, 99, 51]) = true := b4
    replace b5 : (s.toList == [118, 101, 99, 52]) = false := b5
    replace b6 : (s.toList == [109, 97, 116, 50]) = false := b6
    replace b7 : (s.toList == [109, 97, 116, 51]) = false := b7
    replace b8 : (s.toList == [109, 97, 116, 52]) = false := b8
    have HV : Hid (∀ w, Calls Try.prog 44 #[.string s] w fun e w' => e = .returned (.int .i64 3) ∧ w' = w) := hv
    have HM : Hid (∀ w, Calls Try.prog 46 #[.string s] w fun e w' => e = .returned (.bool false) ∧ w' = w) := hm
    clear hv hm
    rcases hr3 with rfl | rfl | rfl
    · skip
      have HC : Hid (∀ w, Calls Try.prog 45 #[.int .i64 3, .int .i64 0] w fun e w' => e = .returned (.tuple #[.int .i64 12, .int .i64 4]) ∧ w' = w) := fun w => column45 3 0 w (by omega) (by omega)
      go_enter Try.func14, Try.ntmps14
      go_wp2_with (first | (go_at_call 43; refine hR.mono ?_; rintro e w' ⟨rfl, hw⟩; subst w') | (go_at_call 44; refine ((Hid.out HV) w).mono ?_; rintro e w' ⟨rfl, hw⟩; subst w') | (go_at_call 45; refine ((Hid.out HC) w).mono ?_; rintro e w' ⟨rfl, hw⟩; subst w') | (go_at_call 46; refine ((Hid.out HM) w).mono ?_; rintro e w' ⟨rfl, hw⟩; subst w'))
      go_ret2
      exact ⟨rfl, rfl⟩
    · skip
      have HC : Hid (∀ w, Calls Try.prog 45 #[.int .i64 3, .int .i64 1] w fun e w' => e = .returned (.tuple #[.int .i64 12, .int .i64 16]) ∧ w' = w) := fun w => column45 3 1 w (by omega) (by omega)
      go_enter Try.func14, Try.ntmps14
      go_wp2_with (first | (go_at_call 43; refine hR.mono ?_; rintro e w' ⟨rfl, hw⟩; subst w') | (go_at_call 44; refine ((Hid.out HV) w).mono ?_; rintro e w' ⟨rfl, hw⟩; subst w') | (go_at_call 45; refine ((Hid.out HC) w).mono ?_; rintro e w' ⟨rfl, hw⟩; subst w') | (go_at_call 46; refine ((Hid.out HM) w).mono ?_; rintro e w' ⟨rfl, hw⟩; subst w'))
      go_ret2
      exact ⟨rfl, rfl⟩
    · skip
      have HC : Hid (∀ w, Calls Try.prog 45 #[.int .i64 3, .int .i64 2] w fun e w' => e = .returned (.tuple #[.int .i64 12, .int .i64 16]) ∧ w' = w) := fun w => column45 3 2 w (by omega) (by omega)
      go_enter Try.func14, Try.ntmps14
      go_wp2_with (first | (go_at_call 43; refine hR.mono ?_; rintro e w' ⟨rfl, hw⟩; subst w') | (go_at_call 44; refine ((Hid.out HV) w).mono ?_; rintro e w' ⟨rfl, hw⟩; subst w') | (go_at_call 45; refine ((Hid.out HC) w).mono ?_; rintro e w' ⟨rfl, hw⟩; subst w') | (go_at_call 46; refine ((Hid.out HM) w).mono ?_; rintro e w' ⟨rfl, hw⟩; subst w'))
      go_ret2
      exact ⟨rfl, rfl⟩
  · skip
    replace b0 : (s.toList == [104, 97, 108, 102]) = false := b0
    replace b1 : (s.toList == [105, 110, 116]) = false := b1
    replace b2 : (s.toList == [102, 108, 111, 97, 116]) = false := b2
    replace b3 : (s.toList == [118, 101, 99, 50]) = false := b3
    replace b4 : (s.toList == [118, 101, 99, 51]) = false := b4
    replace b5 : (s.toList == [118, 101, 99, 52]) = true := b5
    replace b6 : (s.toList == [109, 97, 116, 50]) = false := b6
    replace b7 : (s.toList == [109, 97, 116, 51]) = false := b7
    replace b8 : (s.toList == [109, 97, 116, 52]) = false := b8
    have HV : Hid (∀ w, Calls Try.prog 44 #[.string s] w fun e w' => e = .returned (.int .i64 4) ∧ w' = w) := hv
    have HM : Hid (∀ w, Calls Try.prog 46 #[.string s] w fun e w' => e = .returned (.bool false) ∧ w' = w) := hm
    clear hv hm
    rcases hr3 with rfl | rfl | rfl
    · skip
      have HC : Hid (∀ w, Calls Try.prog 45 #[.int .i64 4, .int .i64 0] w fun e w' => e = .returned (.tuple #[.int .i64 16, .int .i64 4]) ∧ w' = w) := fun w => column45 4 0 w (by omega) (by omega)
      go_enter Try.func14, Try.ntmps14
      go_wp2_with (first | (go_at_call 43; refine hR.mono ?_; rintro e w' ⟨rfl, hw⟩; subst w') | (go_at_call 44; refine ((Hid.out HV) w).mono ?_; rintro e w' ⟨rfl, hw⟩; subst w') | (go_at_call 45; refine ((Hid.out HC) w).mono ?_; rintro e w' ⟨rfl, hw⟩; subst w') | (go_at_call 46; refine ((Hid.out HM) w).mono ?_; rintro e w' ⟨rfl, hw⟩; subst w'))
      go_ret2
      exact ⟨rfl, rfl⟩
    · skip
      have HC : Hid (∀ w, Calls Try.prog 45 #[.int .i64 4, .int .i64 1] w fun e w' => e = .returned (.tuple #[.int .i64 16, .int .i64 16]) ∧ w' = w) := fun w => column45 4 1 w (by omega) (by omega)
      go_enter Try.func14, Try.ntmps14
      go_wp2_with (first | (go_at_call 43; refine hR.mono ?_; rintro e w' ⟨rfl, hw⟩; subst w') | (go_at_call 44; refine ((Hid.out HV) w).mono ?_; rintro e w' ⟨rfl, hw⟩; subst w') | (go_at_call 45; refine ((Hid.out HC) w).mono ?_; rintro e w' ⟨rfl, hw⟩; subst w') | (go_at_call 46; refine ((Hid.out HM) w).mono ?_; rintro e w' ⟨rfl, hw⟩; subst w'))
      go_ret2
      exact ⟨rfl, rfl⟩
    · skip
      have HC : Hid (∀ w, Calls Try.prog 45 #[.int .i64 4, .int .i64 2] w fun e w' => e = .returned (.tuple #[.int .i64 16, .int .i64 16]) ∧ w' = w) := fun w => column45 4 2 w (by omega) (by omega)
      go_enter Try.func14, Try.ntmps14
      go_wp2_with (first | (go_at_call 43; refine hR.mono ?_; rintro e w' ⟨rfl, hw⟩; subst w') | (go_at_call 44; refine ((Hid.out HV) w).mono ?_; rintro e w' ⟨rfl, hw⟩; subst w') | (go_at_call 45; refine ((Hid.out HC) w).mono ?_; rintro e w' ⟨rfl, hw⟩; subst w') | (go_at_call 46; refine ((Hid.out HM) w).mono ?_; rintro e w' ⟨rfl, hw⟩; subst w'))
      go_ret2
      exact ⟨rfl, rfl⟩
  · skip
    replace b0 : (s.toList == [104, 97, 108, 102]) = false := b0
    replace b1 : (s.toList == [105, 110, 116]) = false := b1
    replace b2 : (s.toList == [102, 108, 111, 97, 116]) = false := b2
    replace b3 : (s.toList == [118, 101, 99, 50]) = false := b3
    replace b4 : (s.toList == [118, 101, 99, 51]) = false := b4
    replace b5 : (s.toList == [118, 101, 99, 52]) = false := b5
    replace b6 : (s.toList == [109, 97, 116, 50]) = true := b6
    replace b7 : (s.toList == [109, 97, 116, 51]) = false := b7
    replace b8 : (s.toList == [109, 97, 116, 52]) = false := b8
    have HV : Hid (∀ w, Calls Try.prog 44 #[.string s] w fun e w' => e = .returned (.int .i64 2) ∧ w' = w) := hv
    have HM : Hid (∀ w, Calls Try.prog 46 #[.string s] w fun e w' => e = .returned (.bool true) ∧ w' = w) := hm
    clear hv hm
    rcases hr3 with rfl | rfl | rfl
    · skip
      have HC : Hid (∀ w, Calls Try.prog 45 #[.int .i64 2, .int .i64 0] w fun e w' => e = .returned (.tuple #[.int .i64 8, .int .i64 4]) ∧ w' = w) := fun w => column45 2 0 w (by omega) (by omega)
      have HA : Hid (∀ w, Calls Try.prog 47 #[.int .i64 8, .int .i64 4, .int .i64 0] w fun e w' => e = .returned (.tuple #[.int .i64 4, .int .i64 8]) ∧ w' = w) := fun w => array47 8 4 0 w (by omega) (by omega) (by omega) (by omega)
      go_enter Try.func14, Try.ntmps14
      go_wp2_with (first | (go_at_call 43; refine hR.mono ?_; rintro e w' ⟨rfl, hw⟩; subst w') | (go_at_call 44; refine ((Hid.out HV) w).mono ?_; rintro e w' ⟨rfl, hw⟩; subst w') | (go_at_call 45; refine ((Hid.out HC) w).mono ?_; rintro e w' ⟨rfl, hw⟩; subst w') | (go_at_call 46; refine ((Hid.out HM) w).mono ?_; rintro e w' ⟨rfl, hw⟩; subst w') | (go_at_call 47; refine ((Hid.out HA) w).mono ?_; rintro e w' ⟨rfl, hw⟩; subst w'))
      go_ret2
      exact ⟨rfl, rfl⟩
    · skip
      have HC : Hid (∀ w, Calls Try.prog 45 #[.int .i64 2, .int .i64 1] w fun e w' => e = .returned (.tuple #[.int .i64 8, .int .i64 8]) ∧ w' = w) := fun w => column45 2 1 w (by omega) (by omega)
      have HA : Hid (∀ w, Calls Try.prog 47 #[.int .i64 8, .int .i64 8, .int .i64 1] w fun e w' => e = .returned (.tuple #[.int .i64 8, .int .i64 8]) ∧ w' = w) := fun w => array47 8 8 1 w (by omega) (by omega) (by omega) (by omega)
      go_enter Try.func14, Try.ntmps14
      go_wp2_with (first | (go_at_call 43; refine hR.mono ?_; rintro e w' ⟨rfl, hw⟩; subst w') | (go_at_call 44; refine ((Hid.out HV) w).mono ?_; rintro e w' ⟨rfl, hw⟩; subst w') | (go_at_call 45; refine ((Hid.out HC) w).mono ?_; rintro e w' ⟨rfl, hw⟩; subst w') | (go_at_call 46; refine ((Hid.out HM) w).mono ?_; rintro e w' ⟨rfl, hw⟩; subst w') | (go_at_call 47; refine ((Hid.out HA) w).mono ?_; rintro e w' ⟨rfl, hw⟩; subst w'))
      go_ret2
      exact ⟨rfl, rfl⟩
    · skip
      have HC : Hid (∀ w, Calls Try.prog 45 #[.int .i64 2, .int .i64 2] w fun e w' => e = .returned (.tuple #[.int .i64 8, .int .i64 8]) ∧ w' = w) := fun w => column45 2 2 w (by omega) (by omega)
      have HA : Hid (∀ w, Calls Try.prog 47 #[.int .i64 8, .int .i64 8, .int .i64 2] w fun e w' => e = .returned (.tuple #[.int .i64 16, .int .i64 16]) ∧ w' = w) := fun w => array47 8 8 2 w (by omega) (by omega) (by omega) (by omega)
      go_enter Try.func14, Try.ntmps14
      go_wp2_with (first | (go_at_call 43; refine hR.mono ?_; rintro e w' ⟨rfl, hw⟩; subst w') | (go_at_call 44; refine ((Hid.out HV) w).mono ?_; rintro e w' ⟨rfl, hw⟩; subst w') | (go_at_call 45; refine ((Hid.out HC) w).mono ?_; rintro e w' ⟨rfl, hw⟩; subst w') | (go_at_call 46; refine ((Hid.out HM) w).mono ?_; rintro e w' ⟨rfl, hw⟩; subst w') | (go_at_call 47; refine ((Hid.out HA) w).mono ?_; rintro e w' ⟨rfl, hw⟩; subst w'))
      go_ret2
      exact ⟨rfl, rfl⟩
  · skip
    replace b0 : (s.toList == [104, 97, 108, 102]) = false := b0
    replace b1 : (s.toList == [105, 110, 116]) = false := b1
    replace b2 : (s.toList == [102, 108, 111, 97, 116]) = false := b2
    replace b3 : (s.toList == [118, 101, 99, 50]) = false := b3
    replace b4 : (s.toList == [118, 101, 99, 51]) = false := b4
    replace b5 : (s.toList == [118, 101, 99, 52]) = false := b5
    replace b6 : (s.toList == [109, 97, 116, 50]) = false := b6
    replace b7 : (s.toList == [109, 97, 116, 51]) = true := b7
    replace b8 : (s.toList == [109, 97, 116, 52]) = false := b8
    have HV : Hid (∀ w, Calls Try.prog 44 #[.string s] w fun e w' => e = .returned (.int .i64 3) ∧ w' = w) := hv
    have HM : Hid (∀ w, Calls Try.prog 46 #[.string s] w fun e w' => e = .returned (.bool true) ∧ w' = w) := hm
    clear hv hm
    rcases hr3 with rfl | rfl | rfl
    · skip
      have HC : Hid (∀ w, Calls Try.prog 45 #[.int .i64 3, .int .i64 0] w fun e w' => e = .returned (.tuple #[.int .i64 12, .int .i64 4]) ∧ w' = w) := fun w => column45 3 0 w (by omega) (by omega)
      have HA : Hid (∀ w, Calls Try.prog 47 #[.int .i64 12, .int .i64 4, .int .i64 0] w fun e w' => e = .returned (.tuple #[.int .i64 4, .int .i64 12]) ∧ w' = w) := fun w => array47 12 4 0 w (by omega) (by omega) (by omega) (by omega)
      go_enter Try.func14, Try.ntmps14
      go_wp2_with (first | (go_at_call 43; refine hR.mono ?_; rintro e w' ⟨rfl, hw⟩; subst w') | (go_at_call 44; refine ((Hid.out HV) w).mono ?_; rintro e w' ⟨rfl, hw⟩; subst w') | (go_at_call 45; refine ((Hid.out HC) w).mono ?_; rintro e w' ⟨rfl, hw⟩; subst w') | (go_at_call 46; refine ((Hid.out HM) w).mono ?_; rintro e w' ⟨rfl, hw⟩; subst w') | (go_at_call 47; refine ((Hid.out HA) w).mono ?_; rintro e w' ⟨rfl, hw⟩; subst w'))
      go_ret2
      exact ⟨rfl, rfl⟩
    · skip
      have HC : Hid (∀ w, Calls Try.prog 45 #[.int .i64 3, .int .i64 1] w fun e w' => e = .returned (.tuple #[.int .i64 12, .int .i64 16]) ∧ w' = w) := fun w => column45 3 1 w (by omega) (by omega)
      have HA : Hid (∀ w, Calls Try.prog 47 #[.int .i64 12, .int .i64 16, .int .i64 1] w fun e w' => e = .returned (.tuple #[.int .i64 16, .int .i64 16]) ∧ w' = w) := fun w => array47 12 16 1 w (by omega) (by omega) (by omega) (by omega)
      go_enter Try.func14, Try.ntmps14
      go_wp2_with (first | (go_at_call 43; refine hR.mono ?_; rintro e w' ⟨rfl, hw⟩; subst w') | (go_at_call 44; refine ((Hid.out HV) w).mono ?_; rintro e w' ⟨rfl, hw⟩; subst w') | (go_at_call 45; refine ((Hid.out HC) w).mono ?_; rintro e w' ⟨rfl, hw⟩; subst w') | (go_at_call 46; refine ((Hid.out HM) w).mono ?_; rintro e w' ⟨rfl, hw⟩; subst w') | (go_at_call 47; refine ((Hid.out HA) w).mono ?_; rintro e w' ⟨rfl, hw⟩; subst w'))
      go_ret2
      exact ⟨rfl, rfl⟩
    · skip
      have HC : Hid (∀ w, Calls Try.prog 45 #[.int .i64 3, .int .i64 2] w fun e w' => e = .returned (.tuple #[.int .i64 12, .int .i64 16]) ∧ w' = w) := fun w => column45 3 2 w (by omega) (by omega)
      have HA : Hid (∀ w, Calls Try.prog 47 #[.int .i64 12, .int .i64 16, .int .i64 2] w fun e w' => e = .returned (.tuple #[.int .i64 16, .int .i64 16]) ∧ w' = w) := fun w => array47 12 16 2 w (by omega) (by omega) (by omega) (by omega)
      go_enter Try.func14, Try.ntmps14
      go_wp2_with (first | (go_at_call 43; refine hR.mono ?_; rintro e w' ⟨rfl, hw⟩; subst w') | (go_at_call 44; refine ((Hid.out HV) w).mono ?_; rintro e w' ⟨rfl, hw⟩; subst w') | (go_at_call 45; refine ((Hid.out HC) w).mono ?_; rintro e w' ⟨rfl, hw⟩; subst w') | (go_at_call 46; refine ((Hid.out HM) w).mono ?_; rintro e w' ⟨rfl, hw⟩; subst w') | (go_at_call 47; refine ((Hid.out HA) w).mono ?_; rintro e w' ⟨rfl, hw⟩; subst w'))
      go_ret2
      exact ⟨rfl, rfl⟩
  · skip
    replace b0 : (s.toList == [104, 97, 108, 102]) = false := b0
    replace b1 : (s.toList == [105, 110, 116]) = false := b1
    replace b2 : (s.toList == [102, 108, 111, 97, 116]) = false := b2
    replace b3 : (s.toList == [118, 101, 99, 50]) = false := b3
    replace b4 : (s.toList == [118, 101, 99, 51]) = false := b4
    replace b5 : (s.toList == [118, 101, 99, 52]) = false := b5
    replace b6 : (s.toList == [109, 97, 116, 50]) = false := b6
    replace b7 : (s.toList == [109, 97, 116, 51]) = false := b7
    replace b8 : (s.toList == [109, 97, 116, 52]) = true := b8
    have HV : Hid (∀ w, Calls Try.prog 44 #[.string s] w fun e w' => e = .returned (.int .i64 4) ∧ w' = w) := hv
    have HM : Hid (∀ w, Calls Try.prog 46 #[.string s] w fun e w' => e = .returned (.bool true) ∧ w' = w) := hm
    clear hv hm
    rcases hr3 with rfl | rfl | rfl
    · skip
      have HC : Hid (∀ w, Calls Try.prog 45 #[.int .i64 4, .int .i64 0] w fun e w' => e = .returned (.tuple #[.int .i64 16, .int .i64 4]) ∧ w' = w) := fun w => column45 4 0 w (by omega) (by omega)
      have HA : Hid (∀ w, Calls Try.prog 47 #[.int .i64 16, .int .i64 4, .int .i64 0] w fun e w' => e = .returned (.tuple #[.int .i64 4, .int .i64 16]) ∧ w' = w) := fun w => array47 16 4 0 w (by omega) (by omega) (by omega) (by omega)
      go_enter Try.func14, Try.ntmps14
      go_wp2_with (first | (go_at_call 43; refine hR.mono ?_; rintro e w' ⟨rfl, hw⟩; subst w') | (go_at_call 44; refine ((Hid.out HV) w).mono ?_; rintro e w' ⟨rfl, hw⟩; subst w') | (go_at_call 45; refine ((Hid.out HC) w).mono ?_; rintro e w' ⟨rfl, hw⟩; subst w') | (go_at_call 46; refine ((Hid.out HM) w).mono ?_; rintro e w' ⟨rfl, hw⟩; subst w') | (go_at_call 47; refine ((Hid.out HA) w).mono ?_; rintro e w' ⟨rfl, hw⟩; subst w'))
      go_ret2
      exact ⟨rfl, rfl⟩
    · skip
      have HC : Hid (∀ w, Calls Try.prog 45 #[.int .i64 4, .int .i64 1] w fun e w' => e = .returned (.tuple #[.int .i64 16, .int .i64 16]) ∧ w' = w) := fun w => column45 4 1 w (by omega) (by omega)
      have HA : Hid (∀ w, Calls Try.prog 47 #[.int .i64 16, .int .i64 16, .int .i64 1] w fun e w' => e = .returned (.tuple #[.int .i64 16, .int .i64 16]) ∧ w' = w) := fun w => array47 16 16 1 w (by omega) (by omega) (by omega) (by omega)
      go_enter Try.func14, Try.ntmps14
      go_wp2_with (first | (go_at_call 43; refine hR.mono ?_; rintro e w' ⟨rfl, hw⟩; subst w') | (go_at_call 44; refine ((Hid.out HV) w).mono ?_; rintro e w' ⟨rfl, hw⟩; subst w') | (go_at_call 45; refine ((Hid.out HC) w).mono ?_; rintro e w' ⟨rfl, hw⟩; subst w') | (go_at_call 46; refine ((Hid.out HM) w).mono ?_; rintro e w' ⟨rfl, hw⟩; subst w') | (go_at_call 47; refine ((Hid.out HA) w).mono ?_; rintro e w' ⟨rfl, hw⟩; subst w'))
      go_ret2
      exact ⟨rfl, rfl⟩
    · skip
      have HC : Hid (∀ w, Calls Try.prog 45 #[.int .i64 4, .int .i64 2] w fun e w' => e = .returned (.tuple #[.int .i64 16, .int .i64 16]) ∧ w' = w) := fun w => column45 4 2 w (by omega) (by omega)
      have HA : Hid (∀ w, Calls Try.prog 47 #[.int .i64 16, .int .i64 16, .int .i64 2] w fun e w' => e = .returned (.tuple #[.int .i64 16, .int .i64 16]) ∧ w' = w) := fun w => array47 16 16 2 w (by omega) (by omega) (by omega) (by omega)
      go_enter Try.func14, Try.ntmps14
      go_wp2_with (first | (go_at_call 43; refine hR.mono ?_; rintro e w' ⟨rfl, hw⟩; subst w') | (go_at_call 44; refine ((Hid.out HV) w).mono ?_; rintro e w' ⟨rfl, hw⟩; subst w') | (go_at_call 45; refine ((Hid.out HC) w).mono ?_; rintro e w' ⟨rfl, hw⟩; subst w') | (go_at_call 46; refine ((Hid.out HM) w).mono ?_; rintro e w' ⟨rfl, hw⟩; subst w') | (go_at_call 47; refine ((Hid.out HA) w).mono ?_; rintro e w' ⟨rfl, hw⟩; subst w'))
      go_ret2
      exact ⟨rfl, rfl⟩
  · skip
    replace b0 : (s.toList == [104, 97, 108, 102]) = false := b0
    replace b1 : (s.toList == [105, 110, 116]) = false := b1
    replace b2 : (s.toList == [102, 108, 111, 97, 116]) = false := b2
    replace b3 : (s.toList == [118, 101, 99, 50]) = false := b3
    replace b4 : (s.toList == [118, 101, 99, 51]) = false := b4
    replace b5 : (s.toList == [118, 101, 99, 52]) = false := b5
    replace b6 : (s.toList == [109, 97, 116, 50]) = false := b6
    replace b7 : (s.toList == [109, 97, 116, 51]) = false := b7
    replace b8 : (s.toList == [109, 97, 116, 52]) = false := b8
    have HV : Hid (∀ w, Calls Try.prog 44 #[.string s] w fun e w' => e = .returned (.int .i64 0) ∧ w' = w) := hv
    have HM : Hid (∀ w, Calls Try.prog 46 #[.string s] w fun e w' => e = .returned (.bool false) ∧ w' = w) := hm
    clear hv hm
    rcases hr3 with rfl | rfl | rfl
    · skip
      go_enter Try.func14, Try.ntmps14
      go_wp2_with (first | (go_at_call 43; refine hR.mono ?_; rintro e w' ⟨rfl, hw⟩; subst w') | (go_at_call 44; refine ((Hid.out HV) w).mono ?_; rintro e w' ⟨rfl, hw⟩; subst w'))
      go_ret2
      exact ⟨rfl, rfl⟩
    · skip
      go_enter Try.func14, Try.ntmps14
      go_wp2_with (first | (go_at_call 43; refine hR.mono ?_; rintro e w' ⟨rfl, hw⟩; subst w') | (go_at_call 44; refine ((Hid.out HV) w).mono ?_; rintro e w' ⟨rfl, hw⟩; subst w'))
      go_ret2
      exact ⟨rfl, rfl⟩
    · skip
      go_enter Try.func14, Try.ntmps14
      go_wp2_with (first | (go_at_call 43; refine hR.mono ?_; rintro e w' ⟨rfl, hw⟩; subst w') | (go_at_call 44; refine ((Hid.out HV) w).mono ?_; rintro e w' ⟨rfl, hw⟩; subst w'))
      go_ret2
      exact ⟨rfl, rfl⟩
set_option maxRecDepth 100000 in
set_option maxHeartbeats 4000000 in
theorem column80 (c n wd r : Int) (w : World) (n0 : 0 ≤ n) (n1 : n ≤ 4) (d0 : 0 ≤ wd) (d1 : wd ≤ 4) : Calls Try.prog 80 #[.agg #[.int .i64 c, .int .i64 n, .int .i64 wd], .int .i64 r] w fun e w' => e = .returned (.agg #[.int .i64 (n * wd), .int .i64 (colAl n wd r), .int .i64 0]) ∧ Below w.heap.size w w' := by
  have p0 : 0 ≤ n * wd := Int.mul_nonneg n0 d0
  have p1 : n * wd ≤ 16 := by
    have := Int.mul_le_mul n1 d1 d0 (by omega)
    omega
  have H9 : Hid (∀ w, Calls Try.prog 91 #[.agg #[.int .i64 c, .int .i64 n, .int .i64 wd], .int .i64 r] w fun e w' => e = .returned (.int .i64 (colAl n wd r)) ∧ Below w.heap.size w w') := fun w => colAl91 c n wd r w
  have HW : Hid (IntKind.i64.wrap (n * wd) = n * wd) := (IntKind.wrap_i64 _).trans (by omega)
  generalize colAl n wd r = C at H9 ⊢
  go_enter Try.func80, Try.ntmps80
  go_wp2
  go_region_held3 (fun v => v.cell? ⟨w.heap.size, 0, none⟩ = some (.int .i64 c) ∧ v.cell? ⟨w.heap.size, 1, none⟩ = some (.int .i64 n) ∧ v.cell? ⟨w.heap.size, 2, none⟩ = some (.int .i64 wd)) (first | with_reducible exact ⟨s0, s1, s2⟩ | (go_keep; done)) (first | (go_at_call 91; (have hh := ‹World.cell? _ ⟨w.heap.size, 0, none⟩ = some (.int .i64 c) ∧ _›); refine ((Hid.out H9) _).mono ?_; rintro e w2 ⟨rfl, B2⟩; (have s0 : w2.cell? ⟨w.heap.size, 0, none⟩ = some (.int .i64 c) := (B2.cell (p := ⟨w.heap.size, 0, none⟩) (by simp; omega)).trans hh.1); (have s1 : w2.cell? ⟨w.heap.size, 1, none⟩ = some (.int .i64 n) := (B2.cell (p := ⟨w.heap.size, 1, none⟩) (by simp; omega)).trans hh.2.1); (have s2 : w2.cell? ⟨w.heap.size, 2, none⟩ = some (.int .i64 wd) := (B2.cell (p := ⟨w.heap.size, 2, none⟩) (by simp; omega)).trans hh.2.2); (have g0 : w2.cell? ⟨w.heap.size + 1, 0, none⟩ = some (.int .i64 0) := (B2.cell (p := ⟨w.heap.size + 1, 0, none⟩) (by simp)).trans (by simp [go_sem])); (have f0 : w2.frozen? ⟨w.heap.size + 1, 0, none⟩ = false := (B2.frozen (p := ⟨w.heap.size + 1, 0, none⟩) (by simp)).trans (by simp [go_sem])); (have g1 : w2.cell? ⟨w.heap.size + 1, 1, none⟩ = some (.int .i64 0) := (B2.cell (p := ⟨w.heap.size + 1, 1, none⟩) (by simp)).trans (by simp [go_sem])); (have f1 : w2.frozen? ⟨w.heap.size + 1, 1, none⟩ = false := (B2.frozen (p := ⟨w.heap.size + 1, 1, none⟩) (by simp)).trans (by simp [go_sem])); (have g2 : w2.cell? ⟨w.heap.size + 1, 2, none⟩ = some (.int .i64 0) := (B2.cell (p := ⟨w.heap.size + 1, 2, none⟩) (by simp)).trans (by simp [go_sem])); (have f2 : w2.frozen? ⟨w.heap.size + 1, 2, none⟩ = false := (B2.frozen (p := ⟨w.heap.size + 1, 2, none⟩) (by simp)).trans (by simp [go_sem]))))
  rw [HW.out]
  obtain ⟨r0, r1, r2⟩ := put3 (.int .i64 (n * wd)) (.int .i64 C) (.int .i64 0) g0 g1 g2
  have B3 : Below w.heap.size w (((w2.setCell ⟨w.heap.size + 1, 0, none⟩ (.int .i64 (n * wd))).setCell ⟨w.heap.size + 1, 1, none⟩ (.int .i64 C)).setCell ⟨w.heap.size + 1, 2, none⟩ (.int .i64 0)) := by
    refine Below.setCell (Below.setCell (Below.setCell ?_ (by simp) _) (by simp) _) (by simp) _
    exact (((Below.refl _ _).alloc (Nat.le_refl _) _).alloc (by simp) _).trans (Below.mono ⟨B2.os, B2.tape, B2.output, B2.size, B2.block⟩ (by simp; omega))
  go_wp2
  exact bodyPost_ret (v := .agg #[.int .i64 (n * wd), .int .i64 C, .int .i64 0]) (by simp [results, Try.results80, go_sem, r0, r1, r2]) rfl ⟨rfl, B3⟩
set_option maxRecDepth 100000 in
set_option maxHeartbeats 4000000 in
theorem array81 (q z a st r : Int) (w : World) (q0 : 0 ≤ q) (q1 : q ≤ 64) (z0 : 0 ≤ z) (z1 : z ≤ 64) (a0 : 1 ≤ a) (a1 : a ≤ 64) : Calls Try.prog 81 #[.int .i64 q, .agg #[.int .i64 z, .int .i64 a, .int .i64 st], .int .i64 r] w fun e w' => e = .returned (.agg #[.int .i64 (q * up z (many a r)), .int .i64 (many a r), .int .i64 (up z (many a r))]) ∧ Below w.heap.size w w' := by
  have mb := many_bounds a r a0 a1
  have ub := up_bounds z (many a r) z0 (by omega) (by omega) (by omega)
  have H5 : Hid (∀ w, Calls Try.prog 55 #[.int .i64 a, .int .i64 r] w fun e w' => e = .returned (.int .i64 (many a r)) ∧ w' = w) := fun w => many55 a r w a0 a1
  have H4 : Hid (∀ w, Calls Try.prog 54 #[.int .i64 z, .int .i64 (many a r)] w fun e w' => e = .returned (.int .i64 (up z (many a r))) ∧ w' = w) := fun w => up54 z (many a r) w z0 (by omega) (by omega) (by omega)
  generalize many a r = M at H5 H4 mb ub ⊢
  generalize up z M = U at H4 ub ⊢
  have u0 : 0 ≤ U := by omega
  have u1 : U ≤ 256 := by omega
  have p0 : 0 ≤ q * U := Int.mul_nonneg q0 u0
  have p1 : q * U ≤ 16384 := by
    have := Int.mul_le_mul q1 u1 u0 (by omega)
    omega
  clear ub mb
  go_enter Try.func81, Try.ntmps81
  go_wp2_with (first | (go_at_call 55; refine ((Hid.out H5) _).mono ?_; rintro e w' ⟨rfl, hw⟩; subst w') | (go_at_call 54; refine ((Hid.out H4) _).mono ?_; rintro e w' ⟨rfl, hw⟩; subst w'))
  exact bodyPost_ret (v := .agg #[.int .i64 (q * U), .int .i64 M, .int .i64 U]) (by simp [results, Try.results81, go_sem]) rfl ⟨rfl, by repeat (first | (with_reducible refine Below.setCell ?_ (by first | omega | (simp; try omega)) _) | (with_reducible refine Below.alloc ?_ (by first | omega | (simp; try omega)) _) | (with_reducible exact Below.refl _ _))⟩
theorem tal_bounds (k : Nat) (r : Int) (h : k ≤ 8) (hr : 0 ≤ r ∧ r ≤ 2) : 1 ≤ tal k r ∧ tal k r ≤ 16 ∧ 1 ≤ tsz k r ∧ tsz k r ≤ 64 ∧ 0 ≤ tst k r ∧ tst k r ≤ 16 := by
  have hr3 : r = 0 ∨ r = 1 ∨ r = 2 := by omega
  rcases ten (show k ≤ 9 by omega) with rfl | rfl | rfl | rfl | rfl | rfl | rfl | rfl | rfl | rfl
  all_goals first | (rcases hr3 with rfl | rfl | rfl <;> decide) | omega
set_option maxRecDepth 100000 in
set_option maxHeartbeats 4000000 in
theorem type50 (s : ByteArray) (r : Int) (w : World) (hk : kOf s ≤ 8) (hr : 0 ≤ r ∧ r ≤ 2) : Calls Try.prog 50 #[.string s, .int .i64 r] w fun e w' => e = .returned (.agg #[.int .i64 (tsz (kOf s) r), .int .i64 (tal (kOf s) r), .int .i64 (tst (kOf s) r)]) ∧ Below w.heap.size w w' := by
  have hs := fun w => shape64 s w
  generalize kOf s = k at hs hk ⊢
  have hc := column80 (cols k) (nums k) (wid k) r
  have ha := array81 (cols k) (nums k * wid k) (colAl (nums k) (wid k) r) 0 r
  have hr3 : r = 0 ∨ r = 1 ∨ r = 2 := by omega
  rcases ten (show k ≤ 9 by omega) with rfl | rfl | rfl | rfl | rfl | rfl | rfl | rfl | rfl | rfl
  · rcases hr3 with rfl | rfl | rfl
    · have HS : Hid (∀ w, Calls Try.prog 64 #[.string s] w fun e w' => e = .returned (.agg #[.int .i64 1, .int .i64 1, .int .i64 2]) ∧ Below w.heap.size w w') := hs
      have HC : Hid (∀ w, Calls Try.prog 80 #[.agg #[.int .i64 1, .int .i64 1, .int .i64 2], .int .i64 0] w fun e w' => e = .returned (.agg #[.int .i64 2, .int .i64 2, .int .i64 0]) ∧ Below w.heap.size w w') := fun w => hc w (by decide) (by decide) (by decide) (by decide)
      clear hs hc ha
      go_enter Try.func50, Try.ntmps50
      go_wp2_with (first | (go_at_call 64; refine ((Hid.out HS) _).mono ?_; rintro e w1 ⟨rfl, B1⟩; (have T4 := (C3.new w (.int .i64 0) (.int .i64 0) (.int .i64 0) 73).next B1)) | (go_at_call 80; refine ((Hid.out HC) _).mono ?_; rintro e w2 ⟨rfl, B2⟩; (have U4 := (T4.alloc _).next B2); (have U5 := (C3.new w1 (.int .i64 1) (.int .i64 1) (.int .i64 2) 89).next B2); (obtain ⟨c0, c1, c2, f0, f1, f2, hi4⟩ := U4.alloc (.cells #[.int .i64 2, .int .i64 2, .int .i64 0] 73)); (obtain ⟨d0, d1, d2, _, _, _, hi5⟩ := U5.alloc (.cells #[.int .i64 2, .int .i64 2, .int .i64 0] 73))))
      obtain ⟨r0, r1, r2⟩ := put3 (.int .i64 2) (.int .i64 2) (.int .i64 0) c0 c1 c2
      exact bodyPost_ret (v := .agg #[.int .i64 2, .int .i64 2, .int .i64 0]) (by simp [results, Try.results50, go_sem, r0, r1, r2]) rfl ⟨rfl, by
        refine Below.setCell (Below.setCell (Below.setCell ?_ (by simp) _) (by simp) _) (by simp) _
        skip
        refine Below.alloc ?_ (by have := B2.size; have := B1.size; simp at *; omega) _
        refine Below.trans ?_ (B2.mono (by have := B1.size; simp at *; omega))
        refine Below.alloc ?_ (by have := B1.size; simp at *; omega) _
        exact ((Below.refl _ _).alloc (Nat.le_refl _) _).trans (B1.mono (by simp))⟩
    · have HS : Hid (∀ w, Calls Try.prog 64 #[.string s] w fun e w' => e = .returned (.agg #[.int .i64 1, .int .i64 1, .int .i64 2]) ∧ Below w.heap.size w w') := hs
      have HC : Hid (∀ w, Calls Try.prog 80 #[.agg #[.int .i64 1, .int .i64 1, .int .i64 2], .int .i64 1] w fun e w' => e = .returned (.agg #[.int .i64 2, .int .i64 2, .int .i64 0]) ∧ Below w.heap.size w w') := fun w => hc w (by decide) (by decide) (by decide) (by decide)
      clear hs hc ha
      go_enter Try.func50, Try.ntmps50
      go_wp2_with (first | (go_at_call 64; refine ((Hid.out HS) _).mono ?_; rintro e w1 ⟨rfl, B1⟩; (have T4 := (C3.new w (.int .i64 0) (.int .i64 0) (.int .i64 0) 73).next B1)) | (go_at_call 80; refine ((Hid.out HC) _).mono ?_; rintro e w2 ⟨rfl, B2⟩; (have U4 := (T4.alloc _).next B2); (have U5 := (C3.new w1 (.int .i64 1) (.int .i64 1) (.int .i64 2) 89).next B2); (obtain ⟨c0, c1, c2, f0, f1, f2, hi4⟩ := U4.alloc (.cells #[.int .i64 2, .int .i64 2, .int .i64 0] 73)); (obtain ⟨d0, d1, d2, _, _, _, hi5⟩ := U5.alloc (.cells #[.int .i64 2, .int .i64 2, .int .i64 0] 73))))
      obtain ⟨r0, r1, r2⟩ := put3 (.int .i64 2) (.int .i64 2) (.int .i64 0) c0 c1 c2
      exact bodyPost_ret (v := .agg #[.int .i64 2, .int .i64 2, .int .i64 0]) (by simp [results, Try.results50, go_sem, r0, r1, r2]) rfl ⟨rfl, by
        refine Below.setCell (Below.setCell (Below.setCell ?_ (by simp) _) (by simp) _) (by simp) _
        skip
        refine Below.alloc ?_ (by have := B2.size; have := B1.size; simp at *; omega) _
        refine Below.trans ?_ (B2.mono (by have := B1.size; simp at *; omega))
        refine Below.alloc ?_ (by have := B1.size; simp at *; omega) _
        exact ((Below.refl _ _).alloc (Nat.le_refl _) _).trans (B1.mono (by simp))⟩
    · have HS : Hid (∀ w, Calls Try.prog 64 #[.string s] w fun e w' => e = .returned (.agg #[.int .i64 1, .int .i64 1, .int .i64 2]) ∧ Below w.heap.size w w') := hs
      have HC : Hid (∀ w, Calls Try.prog 80 #[.agg #[.int .i64 1, .int .i64 1, .int .i64 2], .int .i64 2] w fun e w' => e = .returned (.agg #[.int .i64 2, .int .i64 2, .int .i64 0]) ∧ Below w.heap.size w w') := fun w => hc w (by decide) (by decide) (by decide) (by decide)
      clear hs hc ha
      go_enter Try.func50, Try.ntmps50
      go_wp2_with (first | (go_at_call 64; refine ((Hid.out HS) _).mono ?_; rintro e w1 ⟨rfl, B1⟩; (have T4 := (C3.new w (.int .i64 0) (.int .i64 0) (.int .i64 0) 73).next B1)) | (go_at_call 80; refine ((Hid.out HC) _).mono ?_; rintro e w2 ⟨rfl, B2⟩; (have U4 := (T4.alloc _).next B2); (have U5 := (C3.new w1 (.int .i64 1) (.int .i64 1) (.int .i64 2) 89).next B2); (obtain ⟨c0, c1, c2, f0, f1, f2, hi4⟩ := U4.alloc (.cells #[.int .i64 2, .int .i64 2, .int .i64 0] 73)); (obtain ⟨d0, d1, d2, _, _, _, hi5⟩ := U5.alloc (.cells #[.int .i64 2, .int .i64 2, .int .i64 0] 73))))
      obtain ⟨r0, r1, r2⟩ := put3 (.int .i64 2) (.int .i64 2) (.int .i64 0) c0 c1 c2
      exact bodyPost_ret (v := .agg #[.int .i64 2, .int .i64 2, .int .i64 0]) (by simp [results, Try.results50, go_sem, r0, r1, r2]) rfl ⟨rfl, by
        refine Below.setCell (Below.setCell (Below.setCell ?_ (by simp) _) (by simp) _) (by simp) _
        skip
        refine Below.alloc ?_ (by have := B2.size; have := B1.size; simp at *; omega) _
        refine Below.trans ?_ (B2.mono (by have := B1.size; simp at *; omega))
        refine Below.alloc ?_ (by have := B1.size; simp at *; omega) _
        exact ((Below.refl _ _).alloc (Nat.le_refl _) _).trans (B1.mono (by simp))⟩
  · rcases hr3 with rfl | rfl | rfl
    · have HS : Hid (∀ w, Calls Try.prog 64 #[.string s] w fun e w' => e = .returned (.agg #[.int .i64 1, .int .i64 1, .int .i64 4]) ∧ Below w.heap.size w w') := hs
      have HC : Hid (∀ w, Calls Try.prog 80 #[.agg #[.int .i64 1, .int .i64 1, .int .i64 4], .int .i64 0] w fun e w' => e = .returned (.agg #[.int .i64 4, .int .i64 4, .int .i64 0]) ∧ Below w.heap.size w w') := fun w => hc w (by decide) (by decide) (by decide) (by decide)
      clear hs hc ha
      go_enter Try.func50, Try.ntmps50
      go_wp2_with (first | (go_at_call 64; refine ((Hid.out HS) _).mono ?_; rintro e w1 ⟨rfl, B1⟩; (have T4 := (C3.new w (.int .i64 0) (.int .i64 0) (.int .i64 0) 73).next B1)) | (go_at_call 80; refine ((Hid.out HC) _).mono ?_; rintro e w2 ⟨rfl, B2⟩; (have U4 := (T4.alloc _).next B2); (have U5 := (C3.new w1 (.int .i64 1) (.int .i64 1) (.int .i64 4) 89).next B2); (obtain ⟨c0, c1, c2, f0, f1, f2, hi4⟩ := U4.alloc (.cells #[.int .i64 4, .int .i64 4, .int .i64 0] 73)); (obtain ⟨d0, d1, d2, _, _, _, hi5⟩ := U5.alloc (.cells #[.int .i64 4, .int .i64 4, .int .i64 0] 73))))
      obtain ⟨r0, r1, r2⟩ := put3 (.int .i64 4) (.int .i64 4) (.int .i64 0) c0 c1 c2
      exact bodyPost_ret (v := .agg #[.int .i64 4, .int .i64 4, .int .i64 0]) (by simp [results, Try.results50, go_sem, r0, r1, r2]) rfl ⟨rfl, by
        refine Below.setCell (Below.setCell (Below.setCell ?_ (by simp) _) (by simp) _) (by simp) _
        skip
        refine Below.alloc ?_ (by have := B2.size; have := B1.size; simp at *; omega) _
        refine Below.trans ?_ (B2.mono (by have := B1.size; simp at *; omega))
        refine Below.alloc ?_ (by have := B1.size; simp at *; omega) _
        exact ((Below.refl _ _).alloc (Nat.le_refl _) _).trans (B1.mono (by simp))⟩
    · have HS : Hid (∀ w, Calls Try.prog 64 #[.string s] w fun e w' => e = .returned (.agg #[.int .i64 1, .int .i64 1, .int .i64 4]) ∧ Below w.heap.size w w') := hs
      have HC : Hid (∀ w, Calls Try.prog 80 #[.agg #[.int .i64 1, .int .i64 1, .int .i64 4], .int .i64 1] w fun e w' => e = .returned (.agg #[.int .i64 4, .int .i64 4, .int .i64 0]) ∧ Below w.heap.size w w') := fun w => hc w (by decide) (by decide) (by decide) (by decide)
      clear hs hc ha
      go_enter Try.func50, Try.ntmps50
      go_wp2_with (first | (go_at_call 64; refine ((Hid.out HS) _).mono ?_; rintro e w1 ⟨rfl, B1⟩; (have T4 := (C3.new w (.int .i64 0) (.int .i64 0) (.int .i64 0) 73).next B1)) | (go_at_call 80; refine ((Hid.out HC) _).mono ?_; rintro e w2 ⟨rfl, B2⟩; (have U4 := (T4.alloc _).next B2); (have U5 := (C3.new w1 (.int .i64 1) (.int .i64 1) (.int .i64 4) 89).next B2); (obtain ⟨c0, c1, c2, f0, f1, f2, hi4⟩ := U4.alloc (.cells #[.int .i64 4, .int .i64 4, .int .i64 0] 73)); (obtain ⟨d0, d1, d2, _, _, _, hi5⟩ := U5.alloc (.cells #[.int .i64 4, .int .i64 4, .int .i64 0] 73))))
      obtain ⟨r0, r1, r2⟩ := put3 (.int .i64 4) (.int .i64 4) (.int .i64 0) c0 c1 c2
      exact bodyPost_ret (v := .agg #[.int .i64 4, .int .i64 4, .int .i64 0]) (by simp [results, Try.results50, go_sem, r0, r1, r2]) rfl ⟨rfl, by
        refine Below.setCell (Below.setCell (Below.setCell ?_ (by simp) _) (by simp) _) (by simp) _
        skip
        refine Below.alloc ?_ (by have := B2.size; have := B1.size; simp at *; omega) _
        refine Below.trans ?_ (B2.mono (by have := B1.size; simp at *; omega))
        refine Below.alloc ?_ (by have := B1.size; simp at *; omega) _
        exact ((Below.refl _ _).alloc (Nat.le_refl _) _).trans (B1.mono (by simp))⟩
    · have HS : Hid (∀ w, Calls Try.prog 64 #[.string s] w fun e w' => e = .returned (.agg #[.int .i64 1, .int .i64 1, .int .i64 4]) ∧ Below w.heap.size w w') := hs
      have HC : Hid (∀ w, Calls Try.prog 80 #[.agg #[.int .i64 1, .int .i64 1, .int .i64 4], .int .i64 2] w fun e w' => e = .returned (.agg #[.int .i64 4, .int .i64 4, .int .i64 0]) ∧ Below w.heap.size w w') := fun w => hc w (by decide) (by decide) (by decide) (by decide)
      clear hs hc ha
      go_enter Try.func50, Try.ntmps50
      go_wp2_with (first | (go_at_call 64; refine ((Hid.out HS) _).mono ?_; rintro e w1 ⟨rfl, B1⟩; (have T4 := (C3.new w (.int .i64 0) (.int .i64 0) (.int .i64 0) 73).next B1)) | (go_at_call 80; refine ((Hid.out HC) _).mono ?_; rintro e w2 ⟨rfl, B2⟩; (have U4 := (T4.alloc _).next B2); (have U5 := (C3.new w1 (.int .i64 1) (.int .i64 1) (.int .i64 4) 89).next B2); (obtain ⟨c0, c1, c2, f0, f1, f2, hi4⟩ := U4.alloc (.cells #[.int .i64 4, .int .i64 4, .int .i64 0] 73)); (obtain ⟨d0, d1, d2, _, _, _, hi5⟩ := U5.alloc (.cells #[.int .i64 4, .int .i64 4, .int .i64 0] 73))))
      obtain ⟨r0, r1, r2⟩ := put3 (.int .i64 4) (.int .i64 4) (.int .i64 0) c0 c1 c2
      exact bodyPost_ret (v := .agg #[.int .i64 4, .int .i64 4, .int .i64 0]) (by simp [results, Try.results50, go_sem, r0, r1, r2]) rfl ⟨rfl, by
        refine Below.setCell (Below.setCell (Below.setCell ?_ (by simp) _) (by simp) _) (by simp) _
        skip
        refine Below.alloc ?_ (by have := B2.size; have := B1.size; simp at *; omega) _
        refine Below.trans ?_ (B2.mono (by have := B1.size; simp at *; omega))
        refine Below.alloc ?_ (by have := B1.size; simp at *; omega) _
        exact ((Below.refl _ _).alloc (Nat.le_refl _) _).trans (B1.mono (by simp))⟩
  · rcases hr3 with rfl | rfl | rfl
    · have HS : Hid (∀ w, Calls Try.prog 64 #[.string s] w fun e w' => e = .returned (.agg #[.int .i64 1, .int .i64 1, .int .i64 4]) ∧ Below w.heap.size w w') := hs
      have HC : Hid (∀ w, Calls Try.prog 80 #[.agg #[.int .i64 1, .int .i64 1, .int .i64 4], .int .i64 0] w fun e w' => e = .returned (.agg #[.int .i64 4, .int .i64 4, .int .i64 0]) ∧ Below w.heap.size w w') := fun w => hc w (by decide) (by decide) (by decide) (by decide)
      clear hs hc ha
      go_enter Try.func50, Try.ntmps50
      go_wp2_with (first | (go_at_call 64; refine ((Hid.out HS) _).mono ?_; rintro e w1 ⟨rfl, B1⟩; (have T4 := (C3.new w (.int .i64 0) (.int .i64 0) (.int .i64 0) 73).next B1)) | (go_at_call 80; refine ((Hid.out HC) _).mono ?_; rintro e w2 ⟨rfl, B2⟩; (have U4 := (T4.alloc _).next B2); (have U5 := (C3.new w1 (.int .i64 1) (.int .i64 1) (.int .i64 4) 89).next B2); (obtain ⟨c0, c1, c2, f0, f1, f2, hi4⟩ := U4.alloc (.cells #[.int .i64 4, .int .i64 4, .int .i64 0] 73)); (obtain ⟨d0, d1, d2, _, _, _, hi5⟩ := U5.alloc (.cells #[.int .i64 4, .int .i64 4, .int .i64 0] 73))))
      obtain ⟨r0, r1, r2⟩ := put3 (.int .i64 4) (.int .i64 4) (.int .i64 0) c0 c1 c2
      exact bodyPost_ret (v := .agg #[.int .i64 4, .int .i64 4, .int .i64 0]) (by simp [results, Try.results50, go_sem, r0, r1, r2]) rfl ⟨rfl, by
        refine Below.setCell (Below.setCell (Below.setCell ?_ (by simp) _) (by simp) _) (by simp) _
        skip
        refine Below.alloc ?_ (by have := B2.size; have := B1.size; simp at *; omega) _
        refine Below.trans ?_ (B2.mono (by have := B1.size; simp at *; omega))
        refine Below.alloc ?_ (by have := B1.size; simp at *; omega) _
        exact ((Below.refl _ _).alloc (Nat.le_refl _) _).trans (B1.mono (by simp))⟩
    · have HS : Hid (∀ w, Calls Try.prog 64 #[.string s] w fun e w' => e = .returned (.agg #[.int .i64 1, .int .i64 1, .int .i64 4]) ∧ Below w.heap.size w w') := hs
      have HC : Hid (∀ w, Calls Try.prog 80 #[.agg #[.int .i64 1, .int .i64 1, .int .i64 4], .int .i64 1] w fun e w' => e = .returned (.agg #[.int .i64 4, .int .i64 4, .int .i64 0]) ∧ Below w.heap.size w w') := fun w => hc w (by decide) (by decide) (by decide) (by decide)
      clear hs hc ha
      go_enter Try.func50, Try.ntmps50
      go_wp2_with (first | (go_at_call 64; refine ((Hid.out HS) _).mono ?_; rintro e w1 ⟨rfl, B1⟩; (have T4 := (C3.new w (.int .i64 0) (.int .i64 0) (.int .i64 0) 73).next B1)) | (go_at_call 80; refine ((Hid.out HC) _).mono ?_; rintro e w2 ⟨rfl, B2⟩; (have U4 := (T4.alloc _).next B2); (have U5 := (C3.new w1 (.int .i64 1) (.int .i64 1) (.int .i64 4) 89).next B2); (obtain ⟨c0, c1, c2, f0, f1, f2, hi4⟩ := U4.alloc (.cells #[.int .i64 4, .int .i64 4, .int .i64 0] 73)); (obtain ⟨d0, d1, d2, _, _, _, hi5⟩ := U5.alloc (.cells #[.int .i64 4, .int .i64 4, .int .i64 0] 73))))
      obtain ⟨r0, r1, r2⟩ := put3 (.int .i64 4) (.int .i64 4) (.int .i64 0) c0 c1 c2
      exact bodyPost_ret (v := .agg #[.int .i64 4, .int .i64 4, .int .i64 0]) (by simp [results, Try.results50, go_sem, r0, r1, r2]) rfl ⟨rfl, by
        refine Below.setCell (Below.setCell (Below.setCell ?_ (by simp) _) (by simp) _) (by simp) _
        skip
        refine Below.alloc ?_ (by have := B2.size; have := B1.size; simp at *; omega) _
        refine Below.trans ?_ (B2.mono (by have := B1.size; simp at *; omega))
        refine Below.alloc ?_ (by have := B1.size; simp at *; omega) _
        exact ((Below.refl _ _).alloc (Nat.le_refl _) _).trans (B1.mono (by simp))⟩
    · have HS : Hid (∀ w, Calls Try.prog 64 #[.string s] w fun e w' => e = .returned (.agg #[.int .i64 1, .int .i64 1, .int .i64 4]) ∧ Below w.heap.size w w') := hs
      have HC : Hid (∀ w, Calls Try.prog 80 #[.agg #[.int .i64 1, .int .i64 1, .int .i64 4], .int .i64 2] w fun e w' => e = .returned (.agg #[.int .i64 4, .int .i64 4, .int .i64 0]) ∧ Below w.heap.size w w') := fun w => hc w (by decide) (by decide) (by decide) (by decide)
      clear hs hc ha
      go_enter Try.func50, Try.ntmps50
      go_wp2_with (first | (go_at_call 64; refine ((Hid.out HS) _).mono ?_; rintro e w1 ⟨rfl, B1⟩; (have T4 := (C3.new w (.int .i64 0) (.int .i64 0) (.int .i64 0) 73).next B1)) | (go_at_call 80; refine ((Hid.out HC) _).mono ?_; rintro e w2 ⟨rfl, B2⟩; (have U4 := (T4.alloc _).next B2); (have U5 := (C3.new w1 (.int .i64 1) (.int .i64 1) (.int .i64 4) 89).next B2); (obtain ⟨c0, c1, c2, f0, f1, f2, hi4⟩ := U4.alloc (.cells #[.int .i64 4, .int .i64 4, .int .i64 0] 73)); (obtain ⟨d0, d1, d2, _, _, _, hi5⟩ := U5.alloc (.cells #[.int .i64 4, .int .i64 4, .int .i64 0] 73))))
      obtain ⟨r0, r1, r2⟩ := put3 (.int .i64 4) (.int .i64 4) (.int .i64 0) c0 c1 c2
      exact bodyPost_ret (v := .agg #[.int .i64 4, .int .i64 4, .int .i64 0]) (by simp [results, Try.results50, go_sem, r0, r1, r2]) rfl ⟨rfl, by
        refine Below.setCell (Below.setCell (Below.setCell ?_ (by simp) _) (by simp) _) (by simp) _
        skip
        refine Below.alloc ?_ (by have := B2.size; have := B1.size; simp at *; omega) _
        refine Below.trans ?_ (B2.mono (by have := B1.size; simp at *; omega))
        refine Below.alloc ?_ (by have := B1.size; simp at *; omega) _
        exact ((Below.refl _ _).alloc (Nat.le_refl _) _).trans (B1.mono (by simp))⟩
  · rcases hr3 with rfl | rfl | rfl
    · have HS : Hid (∀ w, Calls Try.prog 64 #[.string s] w fun e w' => e = .returned (.agg #[.int .i64 1, .int .i64 2, .int .i64 4]) ∧ Below w.heap.size w w') := hs
      have HC : Hid (∀ w, Calls Try.prog 80 #[.agg #[.int .i64 1, .int .i64 2, .int .i64 4], .int .i64 0] w fun e w' => e = .returned (.agg #[.int .i64 8, .int .i64 4, .int .i64 0]) ∧ Below w.heap.size w w') := fun w => hc w (by decide) (by decide) (by decide) (by decide)
      clear hs hc ha
      go_enter Try.func50, Try.ntmps50
      go_wp2_with (first | (go_at_call 64; refine ((Hid.out HS) _).mono ?_; rintro e w1 ⟨rfl, B1⟩; (have T4 := (C3.new w (.int .i64 0) (.int .i64 0) (.int .i64 0) 73).next B1)) | (go_at_call 80; refine ((Hid.out HC) _).mono ?_; rintro e w2 ⟨rfl, B2⟩; (have U4 := (T4.alloc _).next B2); (have U5 := (C3.new w1 (.int .i64 1) (.int .i64 2) (.int .i64 4) 89).next B2); (obtain ⟨c0, c1, c2, f0, f1, f2, hi4⟩ := U4.alloc (.cells #[.int .i64 8, .int .i64 4, .int .i64 0] 73)); (obtain ⟨d0, d1, d2, _, _, _, hi5⟩ := U5.alloc (.cells #[.int .i64 8, .int .i64 4, .int .i64 0] 73))))
      obtain ⟨r0, r1, r2⟩ := put3 (.int .i64 8) (.int .i64 4) (.int .i64 0) c0 c1 c2
      exact bodyPost_ret (v := .agg #[.int .i64 8, .int .i64 4, .int .i64 0]) (by simp [results, Try.results50, go_sem, r0, r1, r2]) rfl ⟨rfl, by
        refine Below.setCell (Below.setCell (Below.setCell ?_ (by simp) _) (by simp) _) (by simp) _
        skip
        refine Below.alloc ?_ (by have := B2.size; have := B1.size; simp at *; omega) _
        refine Below.trans ?_ (B2.mono (by have := B1.size; simp at *; omega))
        refine Below.alloc ?_ (by have := B1.size; simp at *; omega) _
        exact ((Below.refl _ _).alloc (Nat.le_refl _) _).trans (B1.mono (by simp))⟩
    · have HS : Hid (∀ w, Calls Try.prog 64 #[.string s] w fun e w' => e = .returned (.agg #[.int .i64 1, .int .i64 2, .int .i64 4]) ∧ Below w.heap.size w w') := hs
      have HC : Hid (∀ w, Calls Try.prog 80 #[.agg #[.int .i64 1, .int .i64 2, .int .i64 4], .int .i64 1] w fun e w' => e = .returned (.agg #[.int .i64 8, .int .i64 8, .int .i64 0]) ∧ Below w.heap.size w w') := fun w => hc w (by decide) (by decide) (by decide) (by decide)
      clear hs hc ha
      go_enter Try.func50, Try.ntmps50
      go_wp2_with (first | (go_at_call 64; refine ((Hid.out HS) _).mono ?_; rintro e w1 ⟨rfl, B1⟩; (have T4 := (C3.new w (.int .i64 0) (.int .i64 0) (.int .i64 0) 73).next B1)) | (go_at_call 80; refine ((Hid.out HC) _).mono ?_; rintro e w2 ⟨rfl, B2⟩; (have U4 := (T4.alloc _).next B2); (have U5 := (C3.new w1 (.int .i64 1) (.int .i64 2) (.int .i64 4) 89).next B2); (obtain ⟨c0, c1, c2, f0, f1, f2, hi4⟩ := U4.alloc (.cells #[.int .i64 8, .int .i64 8, .int .i64 0] 73)); (obtain ⟨d0, d1, d2, _, _, _, hi5⟩ := U5.alloc (.cells #[.int .i64 8, .int .i64 8, .int .i64 0] 73))))
      obtain ⟨r0, r1, r2⟩ := put3 (.int .i64 8) (.int .i64 8) (.int .i64 0) c0 c1 c2
      exact bodyPost_ret (v := .agg #[.int .i64 8, .int .i64 8, .int .i64 0]) (by simp [results, Try.results50, go_sem, r0, r1, r2]) rfl ⟨rfl, by
        refine Below.setCell (Below.setCell (Below.setCell ?_ (by simp) _) (by simp) _) (by simp) _
        skip
        refine Below.alloc ?_ (by have := B2.size; have := B1.size; simp at *; omega) _
        refine Below.trans ?_ (B2.mono (by have := B1.size; simp at *; omega))
        refine Below.alloc ?_ (by have := B1.size; simp at *; omega) _
        exact ((Below.refl _ _).alloc (Nat.le_refl _) _).trans (B1.mono (by simp))⟩
    · have HS : Hid (∀ w, Calls Try.prog 64 #[.string s] w fun e w' => e = .returned (.agg #[.int .i64 1, .int .i64 2, .int .i64 4]) ∧ Below w.heap.size w w') := hs
      have HC : Hid (∀ w, Calls Try.prog 80 #[.agg #[.int .i64 1, .int .i64 2, .int .i64 4], .int .i64 2] w fun e w' => e = .returned (.agg #[.int .i64 8, .int .i64 8, .int .i64 0]) ∧ Below w.heap.size w w') := fun w => hc w (by decide) (by decide) (by decide) (by decide)
      clear hs hc ha
      go_enter Try.func50, Try.ntmps50
      go_wp2_with (first | (go_at_call 64; refine ((Hid.out HS) _).mono ?_; rintro e w1 ⟨rfl, B1⟩; (have T4 := (C3.new w (.int .i64 0) (.int .i64 0) (.int .i64 0) 73).next B1)) | (go_at_call 80; refine ((Hid.out HC) _).mono ?_; rintro e w2 ⟨rfl, B2⟩; (have U4 := (T4.alloc _).next B2); (have U5 := (C3.new w1 (.int .i64 1) (.int .i64 2) (.int .i64 4) 89).next B2); (obtain ⟨c0, c1, c2, f0, f1, f2, hi4⟩ := U4.alloc (.cells #[.int .i64 8, .int .i64 8, .int .i64 0] 73)); (obtain ⟨d0, d1, d2, _, _, _, hi5⟩ := U5.alloc (.cells #[.int .i64 8, .int .i64 8, .int .i64 0] 73))))
      obtain ⟨r0, r1, r2⟩ := put3 (.int .i64 8) (.int .i64 8) (.int .i64 0) c0 c1 c2
      exact bodyPost_ret (v := .agg #[.int .i64 8, .int .i64 8, .int .i64 0]) (by simp [results, Try.results50, go_sem, r0, r1, r2]) rfl ⟨rfl, by
        refine Below.setCell (Below.setCell (Below.setCell ?_ (by simp) _) (by simp) _) (by simp) _
        skip
        refine Below.alloc ?_ (by have := B2.size; have := B1.size; simp at *; omega) _
        refine Below.trans ?_ (B2.mono (by have := B1.size; simp at *; omega))
        refine Below.alloc ?_ (by have := B1.size; simp at *; omega) _
        exact ((Below.refl _ _).alloc (Nat.le_refl _) _).trans (B1.mono (by simp))⟩
  · rcases hr3 with rfl | rfl | rfl
    · have HS : Hid (∀ w, Calls Try.prog 64 #[.string s] w fun e w' => e = .returned (.agg #[.int .i64 1, .int .i64 3, .int .i64 4]) ∧ Below w.heap.size w w') := hs
      have HC : Hid (∀ w, Calls Try.prog 80 #[.agg #[.int .i64 1, .int .i64 3, .int .i64 4], .int .i64 0] w fun e w' => e = .returned (.agg #[.int .i64 12, .int .i64 4, .int .i64 0]) ∧ Below w.heap.size w w') := fun w => hc w (by decide) (by decide) (by decide) (by decide)
      clear hs hc ha
      go_enter Try.func50, Try.ntmps50
      go_wp2_with (first | (go_at_call 64; refine ((Hid.out HS) _).mono ?_; rintro e w1 ⟨rfl, B1⟩; (have T4 := (C3.new w (.int .i64 0) (.int .i64 0) (.int .i64 0) 73).next B1)) | (go_at_call 80; refine ((Hid.out HC) _).mono ?_; rintro e w2 ⟨rfl, B2⟩; (have U4 := (T4.alloc _).next B2); (have U5 := (C3.new w1 (.int .i64 1) (.int .i64 3) (.int .i64 4) 89).next B2); (obtain ⟨c0, c1, c2, f0, f1, f2, hi4⟩ := U4.alloc (.cells #[.int .i64 12, .int .i64 4, .int .i64 0] 73)); (obtain ⟨d0, d1, d2, _, _, _, hi5⟩ := U5.alloc (.cells #[.int .i64 12, .int .i64 4, .int .i64 0] 73))))
      obtain ⟨r0, r1, r2⟩ := put3 (.int .i64 12) (.int .i64 4) (.int .i64 0) c0 c1 c2
      exact bodyPost_ret (v := .agg #[.int .i64 12, .int .i64 4, .int .i64 0]) (by simp [results, Try.results50, go_sem, r0, r1, r2]) rfl ⟨rfl, by
        refine Below.setCell (Below.setCell (Below.setCell ?_ (by simp) _) (by simp) _) (by simp) _
        skip
        refine Below.alloc ?_ (by have := B2.size; have := B1.size; simp at *; omega) _
        refine Below.trans ?_ (B2.mono (by have := B1.size; simp at *; omega))
        refine Below.alloc ?_ (by have := B1.size; simp at *; omega) _
        exact ((Below.refl _ _).alloc (Nat.le_refl _) _).trans (B1.mono (by simp))⟩
    · have HS : Hid (∀ w, Calls Try.prog 64 #[.string s] w fun e w' => e = .returned (.agg #[.int .i64 1, .int .i64 3, .int .i64 4]) ∧ Below w.heap.size w w') := hs
      have HC : Hid (∀ w, Calls Try.prog 80 #[.agg #[.int .i64 1, .int .i64 3, .int .i64 4], .int .i64 1] w fun e w' => e = .returned (.agg #[.int .i64 12, .int .i64 16, .int .i64 0]) ∧ Below w.heap.size w w') := fun w => hc w (by decide) (by decide) (by decide) (by decide)
      clear hs hc ha
      go_enter Try.func50, Try.ntmps50
      go_wp2_with (first | (go_at_call 64; refine ((Hid.out HS) _).mono ?_; rintro e w1 ⟨rfl, B1⟩; (have T4 := (C3.new w (.int .i64 0) (.int .i64 0) (.int .i64 0) 73).next B1)) | (go_at_call 80; refine ((Hid.out HC) _).mono ?_; rintro e w2 ⟨rfl, B2⟩; (have U4 := (T4.alloc _).next B2); (have U5 := (C3.new w1 (.int .i64 1) (.int .i64 3) (.int .i64 4) 89).next B2); (obtain ⟨c0, c1, c2, f0, f1, f2, hi4⟩ := U4.alloc (.cells #[.int .i64 12, .int .i64 16, .int .i64 0] 73)); (obtain ⟨d0, d1, d2, _, _, _, hi5⟩ := U5.alloc (.cells #[.int .i64 12, .int .i64 16, .int .i64 0] 73))))
      obtain ⟨r0, r1, r2⟩ := put3 (.int .i64 12) (.int .i64 16) (.int .i64 0) c0 c1 c2
      exact bodyPost_ret (v := .agg #[.int .i64 12, .int .i64 16, .int .i64 0]) (by simp [results, Try.results50, go_sem, r0, r1, r2]) rfl ⟨rfl, by
        refine Below.setCell (Below.setCell (Below.setCell ?_ (by simp) _) (by simp) _) (by simp) _
        skip
        refine Below.alloc ?_ (by have := B2.size; have := B1.size; simp at *; omega) _
        refine Below.trans ?_ (B2.mono (by have := B1.size; simp at *; omega))
        refine Below.alloc ?_ (by have := B1.size; simp at *; omega) _
        exact ((Below.refl _ _).alloc (Nat.le_refl _) _).trans (B1.mono (by simp))⟩
    · have HS : Hid (∀ w, Calls Try.prog 64 #[.string s] w fun e w' => e = .returned (.agg #[.int .i64 1, .int .i64 3, .int .i64 4]) ∧ Below w.heap.size w w') := hs
      have HC : Hid (∀ w, Calls Try.prog 80 #[.agg #[.int .i64 1, .int .i64 3, .int .i64 4], .int .i64 2] w fun e w' => e = .returned (.agg #[.int .i64 12, .int .i64 16, .int .i64 0]) ∧ Below w.heap.size w w') := fun w => hc w (by decide) (by decide) (by decide) (by decide)
      clear hs hc ha
      go_enter Try.func50, Try.ntmps50
      go_wp2_with (first | (go_at_call 64; refine ((Hid.out HS) _).mono ?_; rintro e w1 ⟨rfl, B1⟩; (have T4 := (C3.new w (.int .i64 0) (.int .i64 0) (.int .i64 0) 73).next B1)) | (go_at_call 80; refine ((Hid.out HC) _).mono ?_; rintro e w2 ⟨rfl, B2⟩; (have U4 := (T4.alloc _).next B2); (have U5 := (C3.new w1 (.int .i64 1) (.int .i64 3) (.int .i64 4) 89).next B2); (obtain ⟨c0, c1, c2, f0, f1, f2, hi4⟩ := U4.alloc (.cells #[.int .i64 12, .int .i64 16, .int .i64 0] 73)); (obtain ⟨d0, d1, d2, _, _, _, hi5⟩ := U5.alloc (.cells #[.int .i64 12, .int .i64 16, .int .i64 0] 73))))
      obtain ⟨r0, r1, r2⟩ := put3 (.int .i64 12) (.int .i64 16) (.int .i64 0) c0 c1 c2
      exact bodyPost_ret (v := .agg #[.int .i64 12, .int .i64 16, .int .i64 0]) (by simp [results, Try.results50, go_sem, r0, r1, r2]) rfl ⟨rfl, by
        refine Below.setCell (Below.setCell (Below.setCell ?_ (by simp) _) (by simp) _) (by simp) _
        skip
        refine Below.alloc ?_ (by have := B2.size; have := B1.size; simp at *; omega) _
        refine Below.trans ?_ (B2.mono (by have := B1.size; simp at *; omega))
        refine Below.alloc ?_ (by have := B1.size; simp at *; omega) _
        exact ((Below.refl _ _).alloc (Nat.le_refl _) _).trans (B1.mono (by simp))⟩
  · rcases hr3 with rfl | rfl | rfl
    · have HS : Hid (∀ w, Calls Try.prog 64 #[.string s] w fun e w' => e = .returned (.agg #[.int .i64 1, .int .i64 4, .int .i64 4]) ∧ Below w.heap.size w w') := hs
      have HC : Hid (∀ w, Calls Try.prog 80 #[.agg #[.int .i64 1, .int .i64 4, .int .i64 4], .int .i64 0] w fun e w' => e = .returned (.agg #[.int .i64 16, .int .i64 4, .int .i64 0]) ∧ Below w.heap.size w w') := fun w => hc w (by decide) (by decide) (by decide) (by decide)
      clear hs hc ha
      go_enter Try.func50, Try.ntmps50
      go_wp2_with (first | (go_at_call 64; refine ((Hid.out HS) _).mono ?_; rintro e w1 ⟨rfl, B1⟩; (have T4 := (C3.new w (.int .i64 0) (.int .i64 0) (.int .i64 0) 73).next B1)) | (go_at_call 80; refine ((Hid.out HC) _).mono ?_; rintro e w2 ⟨rfl, B2⟩; (have U4 := (T4.alloc _).next B2); (have U5 := (C3.new w1 (.int .i64 1) (.int .i64 4) (.int .i64 4) 89).next B2); (obtain ⟨c0, c1, c2, f0, f1, f2, hi4⟩ := U4.alloc (.cells #[.int .i64 16, .int .i64 4, .int .i64 0] 73)); (obtain ⟨d0, d1, d2, _, _, _, hi5⟩ := U5.alloc (.cells #[.int .i64 16, .int .i64 4, .int .i64 0] 73))))
      obtain ⟨r0, r1, r2⟩ := put3 (.int .i64 16) (.int .i64 4) (.int .i64 0) c0 c1 c2
      exact bodyPost_ret (v := .agg #[.int .i64 16, .int .i64 4, .int .i64 0]) (by simp [results, Try.results50, go_sem, r0, r1, r2]) rfl ⟨rfl, by
        refine Below.setCell (Below.setCell (Below.setCell ?_ (by simp) _) (by simp) _) (by simp) _
        skip
        refine Below.alloc ?_ (by have := B2.size; have := B1.size; simp at *; omega) _
        refine Below.trans ?_ (B2.mono (by have := B1.size; simp at *; omega))
        refine Below.alloc ?_ (by have := B1.size; simp at *; omega) _
        exact ((Below.refl _ _).alloc (Nat.le_refl _) _).trans (B1.mono (by simp))⟩
    · have HS : Hid (∀ w, Calls Try.prog 64 #[.string s] w fun e w' => e = .returned (.agg #[.int .i64 1, .int .i64 4, .int .i64 4]) ∧ Below w.heap.size w w') := hs
      have HC : Hid (∀ w, Calls Try.prog 80 #[.agg #[.int .i64 1, .int .i64 4, .int .i64 4], .int .i64 1] w fun e w' => e = .returned (.agg #[.int .i64 16, .int .i64 16, .int .i64 0]) ∧ Below w.heap.size w w') := fun w => hc w (by decide) (by decide) (by decide) (by decide)
      clear hs hc ha
      go_enter Try.func50, Try.ntmps50
      go_wp2_with (first | (go_at_call 64; refine ((Hid.out HS) _).mono ?_; rintro e w1 ⟨rfl, B1⟩; (have T4 := (C3.new w (.int .i64 0) (.int .i64 0) (.int .i64 0) 73).next B1)) | (go_at_call 80; refine ((Hid.out HC) _).mono ?_; rintro e w2 ⟨rfl, B2⟩; (have U4 := (T4.alloc _).next B2); (have U5 := (C3.new w1 (.int .i64 1) (.int .i64 4) (.int .i64 4) 89).next B2); (obtain ⟨c0, c1, c2, f0, f1, f2, hi4⟩ := U4.alloc (.cells #[.int .i64 16, .int .i64 16, .int .i64 0] 73)); (obtain ⟨d0, d1, d2, _, _, _, hi5⟩ := U5.alloc (.cells #[.int .i64 16, .int .i64 16, .int .i64 0] 73))))
      obtain ⟨r0, r1, r2⟩ := put3 (.int .i64 16) (.int .i64 16) (.int .i64 0) c0 c1 c2
      exact bodyPost_ret (v := .agg #[.int .i64 16, .int .i64 16, .int .i64 0]) (by simp [results, Try.results50, go_sem, r0, r1, r2]) rfl ⟨rfl, by
        refine Below.setCell (Below.setCell (Below.setCell ?_ (by simp) _) (by simp) _) (by simp) _
        skip
        refine Below.alloc ?_ (by have := B2.size; have := B1.size; simp at *; omega) _
        refine Below.trans ?_ (B2.mono (by have := B1.size; simp at *; omega))
        refine Below.alloc ?_ (by have := B1.size; simp at *; omega) _
        exact ((Below.refl _ _).alloc (Nat.le_refl _) _).trans (B1.mono (by simp))⟩
    · have HS : Hid (∀ w, Calls Try.prog 64 #[.string s] w fun e w' => e = .returned (.agg #[.int .i64 1, .int .i64 4, .int .i64 4]) ∧ Below w.heap.size w w') := hs
      have HC : Hid (∀ w, Calls Try.prog 80 #[.agg #[.int .i64 1, .int .i64 4, .int .i64 4], .int .i64 2] w fun e w' => e = .returned (.agg #[.int .i64 16, .int .i64 16, .int .i64 0]) ∧ Below w.heap.size w w') := fun w => hc w (by decide) (by decide) (by decide) (by decide)
      clear hs hc ha
      go_enter Try.func50, Try.ntmps50
      go_wp2_with (first | (go_at_call 64; refine ((Hid.out HS) _).mono ?_; rintro e w1 ⟨rfl, B1⟩; (have T4 := (C3.new w (.int .i64 0) (.int .i64 0) (.int .i64 0) 73).next B1)) | (go_at_call 80; refine ((Hid.out HC) _).mono ?_; rintro e w2 ⟨rfl, B2⟩; (have U4 := (T4.alloc _).next B2); (have U5 := (C3.new w1 (.int .i64 1) (.int .i64 4) (.int .i64 4) 89).next B2); (obtain ⟨c0, c1, c2, f0, f1, f2, hi4⟩ := U4.alloc (.cells #[.int .i64 16, .int .i64 16, .int .i64 0] 73)); (obtain ⟨d0, d1, d2, _, _, _, hi5⟩ := U5.alloc (.cells #[.int .i64 16, .int .i64 16, .int .i64 0] 73))))
      obtain ⟨r0, r1, r2⟩ := put3 (.int .i64 16) (.int .i64 16) (.int .i64 0) c0 c1 c2
      exact bodyPost_ret (v := .agg #[.int .i64 16, .int .i64 16, .int .i64 0]) (by simp [results, Try.results50, go_sem, r0, r1, r2]) rfl ⟨rfl, by
        refine Below.setCell (Below.setCell (Below.setCell ?_ (by simp) _) (by simp) _) (by simp) _
        skip
        refine Below.alloc ?_ (by have := B2.size; have := B1.size; simp at *; omega) _
        refine Below.trans ?_ (B2.mono (by have := B1.size; simp at *; omega))
        refine Below.alloc ?_ (by have := B1.size; simp at *; omega) _
        exact ((Below.refl _ _).alloc (Nat.le_refl _) _).trans (B1.mono (by simp))⟩
  · rcases hr3 with rfl | rfl | rfl
    · have HS : Hid (∀ w, Calls Try.prog 64 #[.string s] w fun e w' => e = .returned (.agg #[.int .i64 2, .int .i64 2, .int .i64 4]) ∧ Below w.heap.size w w') := hs
      have HC : Hid (∀ w, Calls Try.prog 80 #[.agg #[.int .i64 2, .int .i64 2, .int .i64 4], .int .i64 0] w fun e w' => e = .returned (.agg #[.int .i64 8, .int .i64 4, .int .i64 0]) ∧ Below w.heap.size w w') := fun w => hc w (by decide) (by decide) (by decide) (by decide)
      have HA : Hid (∀ w, Calls Try.prog 81 #[.int .i64 2, .agg #[.int .i64 8, .int .i64 4, .int .i64 0], .int .i64 0] w fun e w' => e = .returned (.agg #[.int .i64 16, .int .i64 4, .int .i64 8]) ∧ Below w.heap.size w w') := fun w => ha w (by decide) (by decide) (by decide) (by decide) (by decide) (by decide)
      clear hs hc ha
      go_enter Try.func50, Try.ntmps50
      go_wp2_with (first | (go_at_call 64; refine ((Hid.out HS) _).mono ?_; rintro e w1 ⟨rfl, B1⟩; (have T4 := (C3.new w (.int .i64 0) (.int .i64 0) (.int .i64 0) 73).next B1)) | (go_at_call 80; refine ((Hid.out HC) _).mono ?_; rintro e w2 ⟨rfl, B2⟩; (have U4 := (T4.alloc _).next B2); (have U5 := (C3.new w1 (.int .i64 2) (.int .i64 2) (.int .i64 4) 89).next B2); (obtain ⟨c0, c1, c2, f0, f1, f2, hi4⟩ := U4.alloc (.cells #[.int .i64 8, .int .i64 4, .int .i64 0] 73)); (obtain ⟨d0, d1, d2, _, _, _, hi5⟩ := U5.alloc (.cells #[.int .i64 8, .int .i64 4, .int .i64 0] 73))) | (go_at_call 81; refine ((Hid.out HA) _).mono ?_; rintro e w3 ⟨rfl, B3⟩; (obtain ⟨e0, e1, e2, h0, h1, h2, hi6⟩ := (U4.alloc (.cells #[.int .i64 8, .int .i64 4, .int .i64 0] 73)).next B3)))
      obtain ⟨r0, r1, r2⟩ := put3 (.int .i64 16) (.int .i64 4) (.int .i64 8) e0 e1 e2
      exact bodyPost_ret (v := .agg #[.int .i64 16, .int .i64 4, .int .i64 8]) (by simp [results, Try.results50, go_sem, r0, r1, r2]) rfl ⟨rfl, by
        refine Below.setCell (Below.setCell (Below.setCell ?_ (by simp) _) (by simp) _) (by simp) _
        refine Below.trans ?_ (B3.mono (by simp; have := B2.size; have := B1.size; simp at *; omega))
        refine Below.alloc ?_ (by have := B2.size; have := B1.size; simp at *; omega) _
        refine Below.trans ?_ (B2.mono (by have := B1.size; simp at *; omega))
        refine Below.alloc ?_ (by have := B1.size; simp at *; omega) _
        exact ((Below.refl _ _).alloc (Nat.le_refl _) _).trans (B1.mono (by simp))⟩
    · have HS : Hid (∀ w, Calls Try.prog 64 #[.string s] w fun e w' => e = .returned (.agg #[.int .i64 2, .int .i64 2, .int .i64 4]) ∧ Below w.heap.size w w') := hs
      have HC : Hid (∀ w, Calls Try.prog 80 #[.agg #[.int .i64 2, .int .i64 2, .int .i64 4], .int .i64 1] w fun e w' => e = .returned (.agg #[.int .i64 8, .int .i64 8, .int .i64 0]) ∧ Below w.heap.size w w') := fun w => hc w (by decide) (by decide) (by decide) (by decide)
      have HA : Hid (∀ w, Calls Try.prog 81 #[.int .i64 2, .agg #[.int .i64 8, .int .i64 8, .int .i64 0], .int .i64 1] w fun e w' => e = .returned (.agg #[.int .i64 16, .int .i64 8, .int .i64 8]) ∧ Below w.heap.size w w') := fun w => ha w (by decide) (by decide) (by decide) (by decide) (by decide) (by decide)
      clear hs hc ha
      go_enter Try.func50, Try.ntmps50
      go_wp2_with (first | (go_at_call 64; refine ((Hid.out HS) _).mono ?_; rintro e w1 ⟨rfl, B1⟩; (have T4 := (C3.new w (.int .i64 0) (.int .i64 0) (.int .i64 0) 73).next B1)) | (go_at_call 80; refine ((Hid.out HC) _).mono ?_; rintro e w2 ⟨rfl, B2⟩; (have U4 := (T4.alloc _).next B2); (have U5 := (C3.new w1 (.int .i64 2) (.int .i64 2) (.int .i64 4) 89).next B2); (obtain ⟨c0, c1, c2, f0, f1, f2, hi4⟩ := U4.alloc (.cells #[.int .i64 8, .int .i64 8, .int .i64 0] 73)); (obtain ⟨d0, d1, d2, _, _, _, hi5⟩ := U5.alloc (.cells #[.int .i64 8, .int .i64 8, .int .i64 0] 73))) | (go_at_call 81; refine ((Hid.out HA) _).mono ?_; rintro e w3 ⟨rfl, B3⟩; (obtain ⟨e0, e1, e2, h0, h1, h2, hi6⟩ := (U4.alloc (.cells #[.int .i64 8, .int .i64 8, .int .i64 0] 73)).next B3)))
      obtain ⟨r0, r1, r2⟩ := put3 (.int .i64 16) (.int .i64 8) (.int .i64 8) e0 e1 e2
      exact bodyPost_ret (v := .agg #[.int .i64 16, .int .i64 8, .int .i64 8]) (by simp [results, Try.results50, go_sem, r0, r1, r2]) rfl ⟨rfl, by
        refine Below.setCell (Below.setCell (Below.setCell ?_ (by simp) _) (by simp) _) (by simp) _
        refine Below.trans ?_ (B3.mono (by simp; have := B2.size; have := B1.size; simp at *; omega))
        refine Below.alloc ?_ (by have := B2.size; have := B1.size; simp at *; omega) _
        refine Below.trans ?_ (B2.mono (by have := B1.size; simp at *; omega))
        refine Below.alloc ?_ (by have := B1.size; simp at *; omega) _
        exact ((Below.refl _ _).alloc (Nat.le_refl _) _).trans (B1.mono (by simp))⟩
    · have HS : Hid (∀ w, Calls Try.prog 64 #[.string s] w fun e w' => e = .returned (.agg #[.int .i64 2, .int .i64 2, .int .i64 4]) ∧ Below w.heap.size w w') := hs
      have HC : Hid (∀ w, Calls Try.prog 80 #[.agg #[.int .i64 2, .int .i64 2, .int .i64 4], .int .i64 2] w fun e w' => e = .returned (.agg #[.int .i64 8, .int .i64 8, .int .i64 0]) ∧ Below w.heap.size w w') := fun w => hc w (by decide) (by decide) (by decide) (by decide)
      have HA : Hid (∀ w, Calls Try.prog 81 #[.int .i64 2, .agg #[.int .i64 8, .int .i64 8, .int .i64 0], .int .i64 2] w fun e w' => e = .returned (.agg #[.int .i64 32, .int .i64 16, .int .i64 16]) ∧ Below w.heap.size w w') := fun w => ha w (by decide) (by decide) (by decide) (by decide) (by decide) (by decide)
      clear hs hc ha
      go_enter Try.func50, Try.ntmps50
      go_wp2_with (first | (go_at_call 64; refine ((Hid.out HS) _).mono ?_; rintro e w1 ⟨rfl, B1⟩; (have T4 := (C3.new w (.int .i64 0) (.int .i64 0) (.int .i64 0) 73).next B1)) | (go_at_call 80; refine ((Hid.out HC) _).mono ?_; rintro e w2 ⟨rfl, B2⟩; (have U4 := (T4.alloc _).next B2); (have U5 := (C3.new w1 (.int .i64 2) (.int .i64 2) (.int .i64 4) 89).next B2); (obtain ⟨c0, c1, c2, f0, f1, f2, hi4⟩ := U4.alloc (.cells #[.int .i64 8, .int .i64 8, .int .i64 0] 73)); (obtain ⟨d0, d1, d2, _, _, _, hi5⟩ := U5.alloc (.cells #[.int .i64 8, .int .i64 8, .int .i64 0] 73))) | (go_at_call 81; refine ((Hid.out HA) _).mono ?_; rintro e w3 ⟨rfl, B3⟩; (obtain ⟨e0, e1, e2, h0, h1, h2, hi6⟩ := (U4.alloc (.cells #[.int .i64 8, .int .i64 8, .int .i64 0] 73)).next B3)))
      obtain ⟨r0, r1, r2⟩ := put3 (.int .i64 32) (.int .i64 16) (.int .i64 16) e0 e1 e2
      exact bodyPost_ret (v := .agg #[.int .i64 32, .int .i64 16, .int .i64 16]) (by simp [results, Try.results50, go_sem, r0, r1, r2]) rfl ⟨rfl, by
        refine Below.setCell (Below.setCell (Below.setCell ?_ (by simp) _) (by simp) _) (by simp) _
        refine Below.trans ?_ (B3.mono (by simp; have := B2.size; have := B1.size; simp at *; omega))
        refine Below.alloc ?_ (by have := B2.size; have := B1.size; simp at *; omega) _
        refine Below.trans ?_ (B2.mono (by have := B1.size; simp at *; omega))
        refine Below.alloc ?_ (by have := B1.size; simp at *; omega) _
        exact ((Below.refl _ _).alloc (Nat.le_refl _) _).trans (B1.mono (by simp))⟩
  · rcases hr3 with rfl | rfl | rfl
    · have HS : Hid (∀ w, Calls Try.prog 64 #[.string s] w fun e w' => e = .returned (.agg #[.int .i64 3, .int .i64 3, .int .i64 4]) ∧ Below w.heap.size w w') := hs
      have HC : Hid (∀ w, Calls Try.prog 80 #[.agg #[.int .i64 3, .int .i64 3, .int .i64 4], .int .i64 0] w fun e w' => e = .returned (.agg #[.int .i64 12, .int .i64 4, .int .i64 0]) ∧ Below w.heap.size w w') := fun w => hc w (by decide) (by decide) (by decide) (by decide)
      have HA : Hid (∀ w, Calls Try.prog 81 #[.int .i64 3, .agg #[.int .i64 12, .int .i64 4, .int .i64 0], .int .i64 0] w fun e w' => e = .returned (.agg #[.int .i64 36, .int .i64 4, .int .i64 12]) ∧ Below w.heap.size w w') := fun w => ha w (by decide) (by decide) (by decide) (by decide) (by decide) (by decide)
      clear hs hc ha
      go_enter Try.func50, Try.ntmps50
      go_wp2_with (first | (go_at_call 64; refine ((Hid.out HS) _).mono ?_; rintro e w1 ⟨rfl, B1⟩; (have T4 := (C3.new w (.int .i64 0) (.int .i64 0) (.int .i64 0) 73).next B1)) | (go_at_call 80; refine ((Hid.out HC) _).mono ?_; rintro e w2 ⟨rfl, B2⟩; (have U4 := (T4.alloc _).next B2); (have U5 := (C3.new w1 (.int .i64 3) (.int .i64 3) (.int .i64 4) 89).next B2); (obtain ⟨c0, c1, c2, f0, f1, f2, hi4⟩ := U4.alloc (.cells #[.int .i64 12, .int .i64 4, .int .i64 0] 73)); (obtain ⟨d0, d1, d2, _, _, _, hi5⟩ := U5.alloc (.cells #[.int .i64 12, .int .i64 4, .int .i64 0] 73))) | (go_at_call 81; refine ((Hid.out HA) _).mono ?_; rintro e w3 ⟨rfl, B3⟩; (obtain ⟨e0, e1, e2, h0, h1, h2, hi6⟩ := (U4.alloc (.cells #[.int .i64 12, .int .i64 4, .int .i64 0] 73)).next B3)))
      obtain ⟨r0, r1, r2⟩ := put3 (.int .i64 36) (.int .i64 4) (.int .i64 12) e0 e1 e2
      exact bodyPost_ret (v := .agg #[.int .i64 36, .int .i64 4, .int .i64 12]) (by simp [results, Try.results50, go_sem, r0, r1, r2]) rfl ⟨rfl, by
        refine Below.setCell (Below.setCell (Below.setCell ?_ (by simp) _) (by simp) _) (by simp) _
        refine Below.trans ?_ (B3.mono (by simp; have := B2.size; have := B1.size; simp at *; omega))
        refine Below.alloc ?_ (by have := B2.size; have := B1.size; simp at *; omega) _
        refine Below.trans ?_ (B2.mono (by have := B1.size; simp at *; omega))
        refine Below.alloc ?_ (by have := B1.size; simp at *; omega) _
        exact ((Below.refl _ _).alloc (Nat.le_refl _) _).trans (B1.mono (by simp))⟩
    · have HS : Hid (∀ w, Calls Try.prog 64 #[.string s] w fun e w' => e = .returned (.agg #[.int .i64 3, .int .i64 3, .int .i64 4]) ∧ Below w.heap.size w w') := hs
      have HC : Hid (∀ w, Calls Try.prog 80 #[.agg #[.int .i64 3, .int .i64 3, .int .i64 4], .int .i64 1] w fun e w' => e = .returned (.agg #[.int .i64 12, .int .i64 16, .int .i64 0]) ∧ Below w.heap.size w w') := fun w => hc w (by decide) (by decide) (by decide) (by decide)
      have HA : Hid (∀ w, Calls Try.prog 81 #[.int .i64 3, .agg #[.int .i64 12, .int .i64 16, .int .i64 0], .int .i64 1] w fun e w' => e = .returned (.agg #[.int .i64 48, .int .i64 16, .int .i64 16]) ∧ Below w.heap.size w w') := fun w => ha w (by decide) (by decide) (by decide) (by decide) (by decide) (by decide)
      clear hs hc ha
      go_enter Try.func50, Try.ntmps50
      go_wp2_with (first | (go_at_call 64; refine ((Hid.out HS) _).mono ?_; rintro e w1 ⟨rfl, B1⟩; (have T4 := (C3.new w (.int .i64 0) (.int .i64 0) (.int .i64 0) 73).next B1)) | (go_at_call 80; refine ((Hid.out HC) _).mono ?_; rintro e w2 ⟨rfl, B2⟩; (have U4 := (T4.alloc _).next B2); (have U5 := (C3.new w1 (.int .i64 3) (.int .i64 3) (.int .i64 4) 89).next B2); (obtain ⟨c0, c1, c2, f0, f1, f2, hi4⟩ := U4.alloc (.cells #[.int .i64 12, .int .i64 16, .int .i64 0] 73)); (obtain ⟨d0, d1, d2, _, _, _, hi5⟩ := U5.alloc (.cells #[.int .i64 12, .int .i64 16, .int .i64 0] 73))) | (go_at_call 81; refine ((Hid.out HA) _).mono ?_; rintro e w3 ⟨rfl, B3⟩; (obtain ⟨e0, e1, e2, h0, h1, h2, hi6⟩ := (U4.alloc (.cells #[.int .i64 12, .int .i64 16, .int .i64 0] 73)).next B3)))
      obtain ⟨r0, r1, r2⟩ := put3 (.int .i64 48) (.int .i64 16) (.int .i64 16) e0 e1 e2
      exact bodyPost_ret (v := .agg #[.int .i64 48, .int .i64 16, .int .i64 16]) (by simp [results, Try.results50, go_sem, r0, r1, r2]) rfl ⟨rfl, by
        refine Below.setCell (Below.setCell (Below.setCell ?_ (by simp) _) (by simp) _) (by simp) _
        refine Below.trans ?_ (B3.mono (by simp; have := B2.size; have := B1.size; simp at *; omega))
        refine Below.alloc ?_ (by have := B2.size; have := B1.size; simp at *; omega) _
        refine Below.trans ?_ (B2.mono (by have := B1.size; simp at *; omega))
        refine Below.alloc ?_ (by have := B1.size; simp at *; omega) _
        exact ((Below.refl _ _).alloc (Nat.le_refl _) _).trans (B1.mono (by simp))⟩
    · have HS : Hid (∀ w, Calls Try.prog 64 #[.string s] w fun e w' => e = .returned (.agg #[.int .i64 3, .int .i64 3, .int .i64 4]) ∧ Below w.heap.size w w') := hs
      have HC : Hid (∀ w, Calls Try.prog 80 #[.agg #[.int .i64 3, .int .i64 3, .int .i64 4], .int .i64 2] w fun e w' => e = .returned (.agg #[.int .i64 12, .int .i64 16, .int .i64 0]) ∧ Below w.heap.size w w') := fun w => hc w (by decide) (by decide) (by decide) (by decide)
      have HA : Hid (∀ w, Calls Try.prog 81 #[.int .i64 3, .agg #[.int .i64 12, .int .i64 16, .int .i64 0], .int .i64 2] w fun e w' => e = .returned (.agg #[.int .i64 48, .int .i64 16, .int .i64 16]) ∧ Below w.heap.size w w') := fun w => ha w (by decide) (by decide) (by decide) (by decide) (by decide) (by decide)
      clear hs hc ha
      go_enter Try.func50, Try.ntmps50
      go_wp2_with (first | (go_at_call 64; refine ((Hid.out HS) _).mono ?_; rintro e w1 ⟨rfl, B1⟩; (have T4 := (C3.new w (.int .i64 0) (.int .i64 0) (.int .i64 0) 73).next B1)) | (go_at_call 80; refine ((Hid.out HC) _).mono ?_; rintro e w2 ⟨rfl, B2⟩; (have U4 := (T4.alloc _).next B2); (have U5 := (C3.new w1 (.int .i64 3) (.int .i64 3) (.int .i64 4) 89).next B2); (obtain ⟨c0, c1, c2, f0, f1, f2, hi4⟩ := U4.alloc (.cells #[.int .i64 12, .int .i64 16, .int .i64 0] 73)); (obtain ⟨d0, d1, d2, _, _, _, hi5⟩ := U5.alloc (.cells #[.int .i64 12, .int .i64 16, .int .i64 0] 73))) | (go_at_call 81; refine ((Hid.out HA) _).mono ?_; rintro e w3 ⟨rfl, B3⟩; (obtain ⟨e0, e1, e2, h0, h1, h2, hi6⟩ := (U4.alloc (.cells #[.int .i64 12, .int .i64 16, .int .i64 0] 73)).next B3)))
      obtain ⟨r0, r1, r2⟩ := put3 (.int .i64 48) (.int .i64 16) (.int .i64 16) e0 e1 e2
      exact bodyPost_ret (v := .agg #[.int .i64 48, .int .i64 16, .int .i64 16]) (by simp [results, Try.results50, go_sem, r0, r1, r2]) rfl ⟨rfl, by
        refine Below.setCell (Below.setCell (Below.setCell ?_ (by simp) _) (by simp) _) (by simp) _
        refine Below.trans ?_ (B3.mono (by simp; have := B2.size; have := B1.size; simp at *; omega))
        refine Below.alloc ?_ (by have := B2.size; have := B1.size; simp at *; omega) _
        refine Below.trans ?_ (B2.mono (by have := B1.size; simp at *; omega))
        refine Below.alloc ?_ (by have := B1.size; simp at *; omega) _
        exact ((Below.refl _ _).alloc (Nat.le_refl _) _).trans (B1.mono (by simp))⟩
  · rcases hr3 with rfl | rfl | rfl
    · have HS : Hid (∀ w, Calls Try.prog 64 #[.string s] w fun e w' => e = .returned (.agg #[.int .i64 4, .int .i64 4, .int .i64 4]) ∧ Below w.heap.size w w') := hs
      have HC : Hid (∀ w, Calls Try.prog 80 #[.agg #[.int .i64 4, .int .i64 4, .int .i64 4], .int .i64 0] w fun e w' => e = .returned (.agg #[.int .i64 16, .int .i64 4, .int .i64 0]) ∧ Below w.heap.size w w') := fun w => hc w (by decide) (by decide) (by decide) (by decide)
      have HA : Hid (∀ w, Calls Try.prog 81 #[.int .i64 4, .agg #[.int .i64 16, .int .i64 4, .int .i64 0], .int .i64 0] w fun e w' => e = .returned (.agg #[.int .i64 64, .int .i64 4, .int .i64 16]) ∧ Below w.heap.size w w') := fun w => ha w (by decide) (by decide) (by decide) (by decide) (by decide) (by decide)
      clear hs hc ha
      go_enter Try.func50, Try.ntmps50
      go_wp2_with (first | (go_at_call 64; refine ((Hid.out HS) _).mono ?_; rintro e w1 ⟨rfl, B1⟩; (have T4 := (C3.new w (.int .i64 0) (.int .i64 0) (.int .i64 0) 73).next B1)) | (go_at_call 80; refine ((Hid.out HC) _).mono ?_; rintro e w2 ⟨rfl, B2⟩; (have U4 := (T4.alloc _).next B2); (have U5 := (C3.new w1 (.int .i64 4) (.int .i64 4) (.int .i64 4) 89).next B2); (obtain ⟨c0, c1, c2, f0, f1, f2, hi4⟩ := U4.alloc (.cells #[.int .i64 16, .int .i64 4, .int .i64 0] 73)); (obtain ⟨d0, d1, d2, _, _, _, hi5⟩ := U5.alloc (.cells #[.int .i64 16, .int .i64 4, .int .i64 0] 73))) | (go_at_call 81; refine ((Hid.out HA) _).mono ?_; rintro e w3 ⟨rfl, B3⟩; (obtain ⟨e0, e1, e2, h0, h1, h2, hi6⟩ := (U4.alloc (.cells #[.int .i64 16, .int .i64 4, .int .i64 0] 73)).next B3)))
      obtain ⟨r0, r1, r2⟩ := put3 (.int .i64 64) (.int .i64 4) (.int .i64 16) e0 e1 e2
      exact bodyPost_ret (v := .agg #[.int .i64 64, .int .i64 4, .int .i64 16]) (by simp [results, Try.results50, go_sem, r0, r1, r2]) rfl ⟨rfl, by
        refine Below.setCell (Below.setCell (Below.setCell ?_ (by simp) _) (by simp) _) (by simp) _
        refine Below.trans ?_ (B3.mono (by simp; have := B2.size; have := B1.size; simp at *; omega))
        refine Below.alloc ?_ (by have := B2.size; have := B1.size; simp at *; omega) _
        refine Below.trans ?_ (B2.mono (by have := B1.size; simp at *; omega))
        refine Below.alloc ?_ (by have := B1.size; simp at *; omega) _
        exact ((Below.refl _ _).alloc (Nat.le_refl _) _).trans (B1.mono (by simp))⟩
    · have HS : Hid (∀ w, Calls Try.prog 64 #[.string s] w fun e w' => e = .returned (.agg #[.int .i64 4, .int .i64 4, .int .i64 4]) ∧ Below w.heap.size w w') := hs
      have HC : Hid (∀ w, Calls Try.prog 80 #[.agg #[.int .i64 4, .int .i64 4, .int .i64 4], .int .i64 1] w fun e w' => e = .returned (.agg #[.int .i64 16, .int .i64 16, .int .i64 0]) ∧ Below w.heap.size w w') := fun w => hc w (by decide) (by decide) (by decide) (by decide)
      have HA : Hid (∀ w, Calls Try.prog 81 #[.int .i64 4, .agg #[.int .i64 16, .int .i64 16, .int .i64 0], .int .i64 1] w fun e w' => e = .returned (.agg #[.int .i64 64, .int .i64 16, .int .i64 16]) ∧ Below w.heap.size w w') := fun w => ha w (by decide) (by decide) (by decide) (by decide) (by decide) (by decide)
      clear hs hc ha
      go_enter Try.func50, Try.ntmps50
      go_wp2_with (first | (go_at_call 64; refine ((Hid.out HS) _).mono ?_; rintro e w1 ⟨rfl, B1⟩; (have T4 := (C3.new w (.int .i64 0) (.int .i64 0) (.int .i64 0) 73).next B1)) | (go_at_call 80; refine ((Hid.out HC) _).mono ?_; rintro e w2 ⟨rfl, B2⟩; (have U4 := (T4.alloc _).next B2); (have U5 := (C3.new w1 (.int .i64 4) (.int .i64 4) (.int .i64 4) 89).next B2); (obtain ⟨c0, c1, c2, f0, f1, f2, hi4⟩ := U4.alloc (.cells #[.int .i64 16, .int .i64 16, .int .i64 0] 73)); (obtain ⟨d0, d1, d2, _, _, _, hi5⟩ := U5.alloc (.cells #[.int .i64 16, .int .i64 16, .int .i64 0] 73))) | (go_at_call 81; refine ((Hid.out HA) _).mono ?_; rintro e w3 ⟨rfl, B3⟩; (obtain ⟨e0, e1, e2, h0, h1, h2, hi6⟩ := (U4.alloc (.cells #[.int .i64 16, .int .i64 16, .int .i64 0] 73)).next B3)))
      obtain ⟨r0, r1, r2⟩ := put3 (.int .i64 64) (.int .i64 16) (.int .i64 16) e0 e1 e2
      exact bodyPost_ret (v := .agg #[.int .i64 64, .int .i64 16, .int .i64 16]) (by simp [results, Try.results50, go_sem, r0, r1, r2]) rfl ⟨rfl, by
        refine Below.setCell (Below.setCell (Below.setCell ?_ (by simp) _) (by simp) _) (by simp) _
        refine Below.trans ?_ (B3.mono (by simp; have := B2.size; have := B1.size; simp at *; omega))
        refine Below.alloc ?_ (by have := B2.size; have := B1.size; simp at *; omega) _
        refine Below.trans ?_ (B2.mono (by have := B1.size; simp at *; omega))
        refine Below.alloc ?_ (by have := B1.size; simp at *; omega) _
        exact ((Below.refl _ _).alloc (Nat.le_refl _) _).trans (B1.mono (by simp))⟩
    · have HS : Hid (∀ w, Calls Try.prog 64 #[.string s] w fun e w' => e = .returned (.agg #[.int .i64 4, .int .i64 4, .int .i64 4]) ∧ Below w.heap.size w w') := hs
      have HC : Hid (∀ w, Calls Try.prog 80 #[.agg #[.int .i64 4, .int .i64 4, .int .i64 4], .int .i64 2] w fun e w' => e = .returned (.agg #[.int .i64 16, .int .i64 16, .int .i64 0]) ∧ Below w.heap.size w w') := fun w => hc w (by decide) (by decide) (by decide) (by decide)
      have HA : Hid (∀ w, Calls Try.prog 81 #[.int .i64 4, .agg #[.int .i64 16, .int .i64 16, .int .i64 0], .int .i64 2] w fun e w' => e = .returned (.agg #[.int .i64 64, .int .i64 16, .int .i64 16]) ∧ Below w.heap.size w w') := fun w => ha w (by decide) (by decide) (by decide) (by decide) (by decide) (by decide)
      clear hs hc ha
      go_enter Try.func50, Try.ntmps50
      go_wp2_with (first | (go_at_call 64; refine ((Hid.out HS) _).mono ?_; rintro e w1 ⟨rfl, B1⟩; (have T4 := (C3.new w (.int .i64 0) (.int .i64 0) (.int .i64 0) 73).next B1)) | (go_at_call 80; refine ((Hid.out HC) _).mono ?_; rintro e w2 ⟨rfl, B2⟩; (have U4 := (T4.alloc _).next B2); (have U5 := (C3.new w1 (.int .i64 4) (.int .i64 4) (.int .i64 4) 89).next B2); (obtain ⟨c0, c1, c2, f0, f1, f2, hi4⟩ := U4.alloc (.cells #[.int .i64 16, .int .i64 16, .int .i64 0] 73)); (obtain ⟨d0, d1, d2, _, _, _, hi5⟩ := U5.alloc (.cells #[.int .i64 16, .int .i64 16, .int .i64 0] 73))) | (go_at_call 81; refine ((Hid.out HA) _).mono ?_; rintro e w3 ⟨rfl, B3⟩; (obtain ⟨e0, e1, e2, h0, h1, h2, hi6⟩ := (U4.alloc (.cells #[.int .i64 16, .int .i64 16, .int .i64 0] 73)).next B3)))
      obtain ⟨r0, r1, r2⟩ := put3 (.int .i64 64) (.int .i64 16) (.int .i64 16) e0 e1 e2
      exact bodyPost_ret (v := .agg #[.int .i64 64, .int .i64 16, .int .i64 16]) (by simp [results, Try.results50, go_sem, r0, r1, r2]) rfl ⟨rfl, by
        refine Below.setCell (Below.setCell (Below.setCell ?_ (by simp) _) (by simp) _) (by simp) _
        refine Below.trans ?_ (B3.mono (by simp; have := B2.size; have := B1.size; simp at *; omega))
        refine Below.alloc ?_ (by have := B2.size; have := B1.size; simp at *; omega) _
        refine Below.trans ?_ (B2.mono (by have := B1.size; simp at *; omega))
        refine Below.alloc ?_ (by have := B1.size; simp at *; omega) _
        exact ((Below.refl _ _).alloc (Nat.le_refl _) _).trans (B1.mono (by simp))⟩
  · omega
set_option maxRecDepth 100000 in
set_option maxHeartbeats 4000000 in
theorem isType48 (s : ByteArray) (w : World) : Calls Try.prog 48 #[.string s] w fun e w' => e = .returned (.bool (decide (kOf s ≤ 8))) ∧ Below w.heap.size w w' := by
  have hs := shape64 s w
  have hle := kOf_le s
  generalize kOf s = k at hs hle ⊢
  rcases ten hle with rfl | rfl | rfl | rfl | rfl | rfl | rfl | rfl | rfl | rfl
  · have HS : Hid (Calls Try.prog 64 #[.string s] w fun e w' => e = .returned (.agg #[.int .i64 1, .int .i64 1, .int .i64 2]) ∧ Below w.heap.size w w') := hs
    clear hs
    go_enter Try.func48, Try.ntmps48
    go_wp2_with (go_at_call 64; refine (Hid.out HS).mono ?_; rintro e w1 ⟨rfl, B1⟩)
    go_ret
    exact ⟨rfl, B1⟩
  · have HS : Hid (Calls Try.prog 64 #[.string s] w fun e w' => e = .returned (.agg #[.int .i64 1, .int .i64 1, .int .i64 4]) ∧ Below w.heap.size w w') := hs
    clear hs
    go_enter Try.func48, Try.ntmps48
    go_wp2_with (go_at_call 64; refine (Hid.out HS).mono ?_; rintro e w1 ⟨rfl, B1⟩)
    go_ret
    exact ⟨rfl, B1⟩
  · have HS : Hid (Calls Try.prog 64 #[.string s] w fun e w' => e = .returned (.agg #[.int .i64 1, .int .i64 1, .int .i64 4]) ∧ Below w.heap.size w w') := hs
    clear hs
    go_enter Try.func48, Try.ntmps48
    go_wp2_with (go_at_call 64; refine (Hid.out HS).mono ?_; rintro e w1 ⟨rfl, B1⟩)
    go_ret
    exact ⟨rfl, B1⟩
  · have HS : Hid (Calls Try.prog 64 #[.string s] w fun e w' => e = .returned (.agg #[.int .i64 1, .int .i64 2, .int .i64 4]) ∧ Below w.heap.size w w') := hs
    clear hs
    go_enter Try.func48, Try.ntmps48
    go_wp2_with (go_at_call 64; refine (Hid.out HS).mono ?_; rintro e w1 ⟨rfl, B1⟩)
    go_ret
    exact ⟨rfl, B1⟩
  · have HS : Hid (Calls Try.prog 64 #[.string s] w fun e w' => e = .returned (.agg #[.int .i64 1, .int .i64 3, .int .i64 4]) ∧ Below w.heap.size w w') := hs
    clear hs
    go_enter Try.func48, Try.ntmps48
    go_wp2_with (go_at_call 64; refine (Hid.out HS).mono ?_; rintro e w1 ⟨rfl, B1⟩)
    go_ret
    exact ⟨rfl, B1⟩
  · have HS : Hid (Calls Try.prog 64 #[.string s] w fun e w' => e = .returned (.agg #[.int .i64 1, .int .i64 4, .int .i64 4]) ∧ Below w.heap.size w w') := hs
    clear hs
    go_enter Try.func48, Try.ntmps48
    go_wp2_with (go_at_call 64; refine (Hid.out HS).mono ?_; rintro e w1 ⟨rfl, B1⟩)
    go_ret
    exact ⟨rfl, B1⟩
  · have HS : Hid (Calls Try.prog 64 #[.string s] w fun e w' => e = .returned (.agg #[.int .i64 2, .int .i64 2, .int .i64 4]) ∧ Below w.heap.size w w') := hs
    clear hs
    go_enter Try.func48, Try.ntmps48
    go_wp2_with (go_at_call 64; refine (Hid.out HS).mono ?_; rintro e w1 ⟨rfl, B1⟩)
    go_ret
    exact ⟨rfl, B1⟩
  · have HS : Hid (Calls Try.prog 64 #[.string s] w fun e w' => e = .returned (.agg #[.int .i64 3, .int .i64 3, .int .i64 4]) ∧ Below w.heap.size w w') := hs
    clear hs
    go_enter Try.func48, Try.ntmps48
    go_wp2_with (go_at_call 64; refine (Hid.out HS).mono ?_; rintro e w1 ⟨rfl, B1⟩)
    go_ret
    exact ⟨rfl, B1⟩
  · have HS : Hid (Calls Try.prog 64 #[.string s] w fun e w' => e = .returned (.agg #[.int .i64 4, .int .i64 4, .int .i64 4]) ∧ Below w.heap.size w w') := hs
    clear hs
    go_enter Try.func48, Try.ntmps48
    go_wp2_with (go_at_call 64; refine (Hid.out HS).mono ?_; rintro e w1 ⟨rfl, B1⟩)
    go_ret
    exact ⟨rfl, B1⟩
  · have HS : Hid (Calls Try.prog 64 #[.string s] w fun e w' => e = .returned (.agg #[.int .i64 0, .int .i64 0, .int .i64 0]) ∧ Below w.heap.size w w') := hs
    clear hs
    go_enter Try.func48, Try.ntmps48
    go_wp2_with (go_at_call 64; refine (Hid.out HS).mono ?_; rintro e w1 ⟨rfl, B1⟩)
    go_ret
    exact ⟨rfl, B1⟩
set_option maxRecDepth 100000 in
set_option maxHeartbeats 4000000 in
theorem size15 (s : ByteArray) (r : Int) (w : World) : Calls Try.prog 15 #[.string s, .int .i64 r] w fun e w' => e = .returned (.tuple #[.int .i64 (tszR (kOf s) r), .int .i64 (talR (kOf s) r)]) ∧ Below w.heap.size w w' := by
  have ht := isType48 s w
  by_cases hk : kOf s ≤ 8
  case neg =>
    rw [show tszR (kOf s) r = 0 by unfold tszR; rw [if_neg (by omega)], show talR (kOf s) r = 0 by unfold talR; rw [if_neg (by omega)]]
    rw [decide_eq_false hk] at ht
    go_enter Try.func15, Try.ntmps15
    go_wp2_with (go_at_call 48; refine ht.mono ?_; rintro e w1 ⟨rfl, B1⟩)
    go_ret2
    exact ⟨rfl, B1⟩
  rw [decide_eq_true hk] at ht
  have hR := fun w => rule49 r w
  by_cases hr : 0 ≤ r ∧ r ≤ 2
  case neg =>
    rw [show tszR (kOf s) r = 0 by unfold tszR; rw [if_neg (by omega)], show talR (kOf s) r = 0 by unfold talR; rw [if_neg (by omega)]]
    rw [decide_eq_false hr] at hR
    go_enter Try.func15, Try.ntmps15
    go_wp2_with (first | (go_at_call 48; refine ht.mono ?_; rintro e w1 ⟨rfl, B1⟩) | (go_at_call 49; refine (hR _).mono ?_; rintro e w' ⟨rfl, hw⟩; subst w'))
    go_ret2
    exact ⟨rfl, B1⟩
  rw [decide_eq_true hr] at hR
  rw [show tszR (kOf s) r = tsz (kOf s) r by unfold tszR; rw [if_pos ⟨hr, hk⟩], show talR (kOf s) r = tal (kOf s) r by unfold talR; rw [if_pos ⟨hr, hk⟩]]
  have h5 := fun w => type50 s r w hk hr
  generalize kOf s = k at h5 ht hk ⊢
  generalize tsz k r = Z at h5 ⊢
  generalize tal k r = A at h5 ⊢
  generalize tst k r = S at h5 ⊢
  go_enter Try.func15, Try.ntmps15
  go_wp2_with (first | (go_at_call 48; refine ht.mono ?_; rintro e w1 ⟨rfl, B1⟩) | (go_at_call 49; refine (hR _).mono ?_; rintro e w' ⟨rfl, hw⟩; subst w') | (go_at_call 50; refine (h5 _).mono ?_; rintro e w2 ⟨rfl, B2⟩))
  go_region
  all_goals
    go_wp2
    go_ret2
    have X := Below.alloc (B1.trans (B2.mono B1.size)) (by have := B1.size; have := B2.size; omega) (Obj.cells #[Value.int IntKind.i64 Z, Value.int IntKind.i64 A, Value.int IntKind.i64 S] 73)
    exact ⟨rfl, ⟨X.os, X.tape, X.output, X.size, X.block⟩⟩
end Go.Proofs.Yteakeaclpcgopaa
