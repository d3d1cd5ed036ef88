/- What the model's DecodeCode leans on: how long code's bytes are, fields by bits. -/
import Derived.Test.YtablacgmedkgjaaDoorDck
namespace Go.Proofs.YtablacgmedkgjaaDoor
open Go.ChangeShapes Go.WideShapes Go.ChangeAt Go.RowKit
set_option linter.unusedVariables false
theorem fld_qs (o d a b c x : Int) (p : Nat) : ∀ j, (fldB o d a b c x j).length + p + 1 = qs o p j
  | 0 => by simp [fldB, qs]
  | j + 1 => by
    have ih := fld_qs o d a b c x p j
    rw [fldB, qs, List.length_append]
    cases h : nmd o j
    · simp; omega
    · simp only [if_true]; rw [lows_len]; omega
theorem code_pp (s : Nat → Int) (n : Nat) : ∀ k, (codeB (pO s) (pF s 0) (pF s 1) (pF s 2) (pF s 3) (pF s 4) n k).length = pp s k
  | 0 => by simp [codeB, lows_len, pp]
  | k + 1 => by
    have ih := code_pp s n k
    have h := fld_qs (pO s k) (pF s 0 k) (pF s 1 k) (pF s 2 k) (pF s 3 k) (pF s 4 k) (pp s k) 5
    rw [codeB, List.length_append, ih]
    unfold insB
    rw [List.length_cons]
    show _ = qs (pO s k) (pp s k) 5
    omega
theorem enP_len (s : Nat → Int) (n : Nat) : (enP s n).length = pp s n + 2 := by
  unfold enP encB
  rw [List.length_append, code_pp, lows_len]
theorem qs5 (o : Int) (p : Nat) : qs o p 5 ≤ p + 13 := by
  have h : ∀ j, (if nmd o j = true then fldW j else 0) ≤ fldW j := fun j => by split <;> omega
  have h0 := h 0
  have h1 := h 1
  have h2 := h 2
  have h3 := h 3
  have h4 := h 4
  simp only [qs]
  rw [show fldW 0 = 2 from rfl] at *
  rw [show fldW 1 = 2 from rfl] at *
  rw [show fldW 2 = 2 from rfl] at *
  rw [show fldW 3 = 2 from rfl] at *
  rw [show fldW 4 = 4 from rfl] at *
  omega
theorem pp_le (s : Nat → Int) : ∀ k, pp s k ≤ 6 + 13 * k
  | 0 => by simp [pp]
  | k + 1 => by
    have := pp_le s k
    have h := qs5 (s (pp s k)) (pp s k)
    rw [pp]
    omega
theorem decOk_len {f : Nat → Int} {N : Nat} (h : decOk f N = true) : N = pp (fz f N) (cnt (fz f N)) + 2 ∧ cnt (fz f N) ≤ 600 := by
  unfold decOk at h
  simp only [Bool.and_eq_true, decide_eq_true_eq] at h
  obtain ⟨h1, _, h2⟩ := h
  have := congrArg List.length h2
  rw [enP_len] at this
  simp [dl] at this
  exact ⟨this.symm, h1⟩
theorem decOk_no {f : Nat → Int} {N : Nat} (h : ¬ (N = pp (fz f N) (cnt (fz f N)) + 2 ∧ cnt (fz f N) ≤ 600)) : decOk f N = false := by
  cases e : decOk f N
  · rfl
  · exact absurd (decOk_len e) h
theorem fields47a (o : Int) (w : World) : Calls Tryd.prog 52 #[.int .i64 o] w fun e w' => e = .returned (.int .i64 (fN o)) ∧ w' = w := by
  rcases op_cases o with h | h
  · exact fields47 o w h
  · have e : fN o = 0 := by unfold fN; simp [nmd_off o _ h]
    rw [e]
    exact fields47_off o w h
theorem fN_range (o : Int) : 0 ≤ fN o ∧ fN o ≤ 31 := by
  unfold fN
  constructor
  · repeat' split
    all_goals omega
  · repeat' split
    all_goals omega
theorem fN_zero (o : Int) (j : Nat) (hj : j < 5) : (bits .and .i64 (fN o / 2 ^ (4 - j)) 1 == 0) = !nmd o j := by
  rcases op_cases o with h | h
  · rcases (by omega : j = 0 ∨ j = 1 ∨ j = 2 ∨ j = 3 ∨ j = 4) with rfl | rfl | rfl | rfl | rfl <;> rcases op_in o h with rfl | rfl | rfl | rfl | rfl | rfl | rfl | rfl | rfl | rfl | rfl | rfl | rfl <;> decide +kernel
  · have e : fN o = 0 := by unfold fN; simp [nmd_off o _ h]
    rw [e, nmd_off o j h]
    rcases (by omega : j = 0 ∨ j = 1 ∨ j = 2 ∨ j = 3 ∨ j = 4) with rfl | rfl | rfl | rfl | rfl <;> decide +kernel
/-- The instruction that is being read: its fields up to j. -/
def ins (s : Nat → Int) (o : Int) (p j i : Nat) : Value := if i = 0 then .int .i64 o else if i = 5 then .int .u32 (if 4 < j then pvl s o p 4 else 0) else .int .i64 (if i - 1 < j then pvl s o p (i - 1) else 0)
theorem ins_off {s : Nat → Int} {o : Int} {p j : Nat} (h : pvl s o p j = 0) (i : Nat) (hi : i < 6) : ins s o p (j + 1) i = ins s o p j i := by
  unfold ins
  by_cases e0 : i = 0
  · rw [if_pos e0, if_pos e0]
  · rw [if_neg e0, if_neg e0]
    by_cases e5 : i = 5
    · rw [if_pos e5, if_pos e5]
      by_cases e : j = 4
      · subst e; rw [if_pos (by omega), if_neg (by omega), h]
      · by_cases e' : 4 < j
        · rw [if_pos e', if_pos (by omega)]
        · rw [if_neg e', if_neg (by omega)]
    · rw [if_neg e5, if_neg e5]
      by_cases e : i - 1 = j
      · rw [if_pos (by omega), if_neg (by omega), e, h]
      · by_cases e' : i - 1 < j
        · rw [if_pos e', if_pos (by omega)]
        · rw [if_neg e', if_neg (by omega)]
theorem ins_on {s : Nat → Int} {o : Int} {p j : Nat} (hj : j < 4) (i : Nat) (hi : i < 6) : ins s o p (j + 1) i = if i = j + 1 then .int .i64 (pvl s o p j) else ins s o p j i := by
  unfold ins
  by_cases e0 : i = 0
  · rw [if_pos e0, if_neg (by omega), if_pos e0]
  · rw [if_neg e0, if_neg e0]
    by_cases e5 : i = 5
    · rw [if_pos e5, if_neg (by omega), if_pos e5, if_neg (by omega), if_neg (by omega)]
    · rw [if_neg e5, if_neg e5]
      by_cases e : i = j + 1
      · rw [if_pos e, if_pos (by omega), show i - 1 = j by omega]
      · rw [if_neg e]
        by_cases e' : i - 1 < j
        · rw [if_pos e', if_pos (by omega)]
        · rw [if_neg e', if_neg (by omega)]
theorem ins_on4 {s : Nat → Int} {o : Int} {p : Nat} (i : Nat) (hi : i < 6) : ins s o p 5 i = if i = 5 then .int .u32 (pvl s o p 4) else ins s o p 4 i := by
  unfold ins
  by_cases e0 : i = 0
  · rw [if_pos e0, if_neg (by omega), if_pos e0]
  · rw [if_neg e0, if_neg e0]
    by_cases e5 : i = 5
    · rw [if_pos e5, if_pos e5, if_pos (by omega)]
    · rw [if_neg e5, if_neg e5, if_neg e5]
      by_cases e' : i - 1 < 4
      · rw [if_pos e', if_pos (by omega)]
      · omega
theorem wr64 (x : Int) (h0 : -9223372036854775808 ≤ x) (h1 : x ≤ 9223372036854775807) : IntKind.i64.wrap x = x := by
  simp [IntKind.wrap, IntKind.bits, IntKind.signed]; omega
theorem num_step (s : Nat → Int) (q t : Nat) : num s q (t + 1) = num s (q + 1) t * 256 + s q := by rw [num]; omega
set_option maxRecDepth 100000 in
set_option maxHeartbeats 2000000 in
theorem good9_nil (w : World) : Calls Tryd.prog 10 #[.slice none 0 0] w fun e w' => e = .returned (.bool false) ∧ Below w.heap.size w w' := by
  go_enter Tryd.func10, Tryd.ntmps10
  go_wp2
  go_ret
  exact ⟨rfl, Below.refl _ _⟩
end Go.Proofs.YtablacgmedkgjaaDoor
