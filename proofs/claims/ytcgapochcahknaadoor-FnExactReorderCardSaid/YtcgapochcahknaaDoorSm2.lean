/- Contracts of greatestValue, of the kind, the sign and the call that a word tells; condition: the table of calls holds its names and numbers (the call). -/
import Derived.Test.YtcgapochcahknaaDoorSml
namespace Go.Proofs.YtcgapochcahknaaDoor
open Go.ChangeShapes Go.WideShapes Go.ChangeAt Go.RowKit
set_option linter.unusedVariables false
theorem ixb0 (B0 B1 B2 B3 B4 : Bool) (w : World) : (Instr.index 113 (.agg #[.bool B0, .bool B1, .bool B2, .bool B3, .bool B4]) (.int .i64 0)).run Tryd.prog w = .ok (.bool B0) w := by kernel_rfl
theorem ixi0 (B0 B1 B2 B3 B4 : Int) (w : World) : (Instr.index 93 (.agg #[.int .i64 B0, .int .i64 B1, .int .i64 B2, .int .i64 B3, .int .i64 B4]) (.int .i64 0)).run Tryd.prog w = .ok (.int .i64 B0) w := by kernel_rfl
theorem ixb1 (B0 B1 B2 B3 B4 : Bool) (w : World) : (Instr.index 113 (.agg #[.bool B0, .bool B1, .bool B2, .bool B3, .bool B4]) (.int .i64 1)).run Tryd.prog w = .ok (.bool B1) w := by kernel_rfl
theorem ixi1 (B0 B1 B2 B3 B4 : Int) (w : World) : (Instr.index 93 (.agg #[.int .i64 B0, .int .i64 B1, .int .i64 B2, .int .i64 B3, .int .i64 B4]) (.int .i64 1)).run Tryd.prog w = .ok (.int .i64 B1) w := by kernel_rfl
theorem ixb2 (B0 B1 B2 B3 B4 : Bool) (w : World) : (Instr.index 113 (.agg #[.bool B0, .bool B1, .bool B2, .bool B3, .bool B4]) (.int .i64 2)).run Tryd.prog w = .ok (.bool B2) w := by kernel_rfl
theorem ixi2 (B0 B1 B2 B3 B4 : Int) (w : World) : (Instr.index 93 (.agg #[.int .i64 B0, .int .i64 B1, .int .i64 B2, .int .i64 B3, .int .i64 B4]) (.int .i64 2)).run Tryd.prog w = .ok (.int .i64 B2) w := by kernel_rfl
theorem ixb3 (B0 B1 B2 B3 B4 : Bool) (w : World) : (Instr.index 113 (.agg #[.bool B0, .bool B1, .bool B2, .bool B3, .bool B4]) (.int .i64 3)).run Tryd.prog w = .ok (.bool B3) w := by kernel_rfl
theorem ixi3 (B0 B1 B2 B3 B4 : Int) (w : World) : (Instr.index 93 (.agg #[.int .i64 B0, .int .i64 B1, .int .i64 B2, .int .i64 B3, .int .i64 B4]) (.int .i64 3)).run Tryd.prog w = .ok (.int .i64 B3) w := by kernel_rfl
theorem ixb4 (B0 B1 B2 B3 B4 : Bool) (w : World) : (Instr.index 113 (.agg #[.bool B0, .bool B1, .bool B2, .bool B3, .bool B4]) (.int .i64 4)).run Tryd.prog w = .ok (.bool B4) w := by kernel_rfl
theorem ixi4 (B0 B1 B2 B3 B4 : Int) (w : World) : (Instr.index 93 (.agg #[.int .i64 B0, .int .i64 B1, .int .i64 B2, .int .i64 B3, .int .i64 B4]) (.int .i64 4)).run Tryd.prog w = .ok (.int .i64 B4) w := by kernel_rfl
set_option maxRecDepth 100000 in
set_option maxHeartbeats 2000000 in
theorem great57_0 (o n : Int) (w : World) (n0 : 1 ≤ n) (n1 : n ≤ 600) : Calls Tryd.prog 73 #[.int .i64 o, .int .i64 0, .int .i64 n] w fun e w' => e = .returned (.int .i64 (gv o 0 n)) ∧ Below w.heap.size w w' := by
  have hf := fun w => fields37 o w
  have hn := fun w => isnum72_0 o w
  unfold gv
  generalize nmd o 0 = B0 at hf ⊢
  generalize nmd o 1 = B1 at hf ⊢
  generalize nmd o 2 = B2 at hf ⊢
  generalize nmd o 3 = B3 at hf ⊢
  generalize nmd o 4 = B4 at hf ⊢
  generalize isN o 0 = M at hn ⊢
  cases B0
  · have ik := fun w => ixb0 false B1 B2 B3 B4 w
    rw [if_neg (by decide)]
    go_enter Tryd.func73, Tryd.ntmps73
    go_wp2_with (go_at_call 99; refine (hf _).mono ?_; rintro e w1 ⟨rfl, b1⟩)
    go_ret
    exact ⟨rfl, b1⟩
  have ik := fun w => ixb0 true B1 B2 B3 B4 w
  rw [if_pos rfl]
  cases M
  case true =>
    rw [if_pos rfl]
    go_enter Tryd.func73, Tryd.ntmps73
    go_wp2_with (first | (go_at_call 99; refine (hf _).mono ?_; rintro e w1 ⟨rfl, b1⟩) | (go_at_call 100; refine (hn _).mono ?_; rintro e w2 ⟨rfl, hw⟩; subst w2))
    go_ret
    exact ⟨rfl, b1⟩
  rw [if_neg (by decide)]
  rw [if_neg (by decide)]
  go_enter Tryd.func73, Tryd.ntmps73
  go_wp2_with (first | (go_at_call 99; refine (hf _).mono ?_; rintro e w1 ⟨rfl, b1⟩) | (go_at_call 100; refine (hn _).mono ?_; rintro e w2 ⟨rfl, hw⟩; subst w2))
  go_ret
  exact ⟨rfl, b1⟩
set_option maxRecDepth 100000 in
set_option maxHeartbeats 2000000 in
theorem great57_1 (o n : Int) (w : World) (n0 : 1 ≤ n) (n1 : n ≤ 600) : Calls Tryd.prog 73 #[.int .i64 o, .int .i64 1, .int .i64 n] w fun e w' => e = .returned (.int .i64 (gv o 1 n)) ∧ Below w.heap.size w w' := by
  have hf := fun w => fields37 o w
  have hn := fun w => isnum72_1 o w
  unfold gv
  generalize nmd o 0 = B0 at hf ⊢
  generalize nmd o 1 = B1 at hf ⊢
  generalize nmd o 2 = B2 at hf ⊢
  generalize nmd o 3 = B3 at hf ⊢
  generalize nmd o 4 = B4 at hf ⊢
  generalize isN o 1 = M at hn ⊢
  cases B1
  · have ik := fun w => ixb1 B0 false B2 B3 B4 w
    rw [if_neg (by decide)]
    go_enter Tryd.func73, Tryd.ntmps73
    go_wp2_with (go_at_call 99; refine (hf _).mono ?_; rintro e w1 ⟨rfl, b1⟩)
    go_ret
    exact ⟨rfl, b1⟩
  have ik := fun w => ixb1 B0 true B2 B3 B4 w
  rw [if_pos rfl]
  cases M
  case true =>
    rw [if_pos rfl]
    go_enter Tryd.func73, Tryd.ntmps73
    go_wp2_with (first | (go_at_call 99; refine (hf _).mono ?_; rintro e w1 ⟨rfl, b1⟩) | (go_at_call 100; refine (hn _).mono ?_; rintro e w2 ⟨rfl, hw⟩; subst w2))
    go_ret
    exact ⟨rfl, b1⟩
  rw [if_neg (by decide)]
  rw [if_neg (by decide)]
  go_enter Tryd.func73, Tryd.ntmps73
  go_wp2_with (first | (go_at_call 99; refine (hf _).mono ?_; rintro e w1 ⟨rfl, b1⟩) | (go_at_call 100; refine (hn _).mono ?_; rintro e w2 ⟨rfl, hw⟩; subst w2))
  go_ret
  exact ⟨rfl, b1⟩
set_option maxRecDepth 100000 in
set_option maxHeartbeats 2000000 in
theorem great57_2 (o n : Int) (w : World) (n0 : 1 ≤ n) (n1 : n ≤ 600) : Calls Tryd.prog 73 #[.int .i64 o, .int .i64 2, .int .i64 n] w fun e w' => e = .returned (.int .i64 (gv o 2 n)) ∧ Below w.heap.size w w' := by
  have hf := fun w => fields37 o w
  have hn := fun w => isnum72_2 o w
  unfold gv
  generalize nmd o 0 = B0 at hf ⊢
  generalize nmd o 1 = B1 at hf ⊢
  generalize nmd o 2 = B2 at hf ⊢
  generalize nmd o 3 = B3 at hf ⊢
  generalize nmd o 4 = B4 at hf ⊢
  generalize isN o 2 = M at hn ⊢
  cases B2
  · have ik := fun w => ixb2 B0 B1 false B3 B4 w
    rw [if_neg (by decide)]
    go_enter Tryd.func73, Tryd.ntmps73
    go_wp2_with (go_at_call 99; refine (hf _).mono ?_; rintro e w1 ⟨rfl, b1⟩)
    go_ret
    exact ⟨rfl, b1⟩
  have ik := fun w => ixb2 B0 B1 true B3 B4 w
  rw [if_pos rfl]
  cases M
  case true =>
    rw [if_pos rfl]
    go_enter Tryd.func73, Tryd.ntmps73
    go_wp2_with (first | (go_at_call 99; refine (hf _).mono ?_; rintro e w1 ⟨rfl, b1⟩) | (go_at_call 100; refine (hn _).mono ?_; rintro e w2 ⟨rfl, hw⟩; subst w2))
    go_ret
    exact ⟨rfl, b1⟩
  rw [if_neg (by decide)]
  rw [if_neg (by decide)]
  go_enter Tryd.func73, Tryd.ntmps73
  go_wp2_with (first | (go_at_call 99; refine (hf _).mono ?_; rintro e w1 ⟨rfl, b1⟩) | (go_at_call 100; refine (hn _).mono ?_; rintro e w2 ⟨rfl, hw⟩; subst w2))
  go_ret
  exact ⟨rfl, b1⟩
set_option maxRecDepth 100000 in
set_option maxHeartbeats 2000000 in
theorem great57_3 (o n : Int) (w : World) (n0 : 1 ≤ n) (n1 : n ≤ 600) : Calls Tryd.prog 73 #[.int .i64 o, .int .i64 3, .int .i64 n] w fun e w' => e = .returned (.int .i64 (gv o 3 n)) ∧ Below w.heap.size w w' := by
  have hf := fun w => fields37 o w
  have hn := fun w => isnum72_3 o w
  unfold gv
  generalize nmd o 0 = B0 at hf ⊢
  generalize nmd o 1 = B1 at hf ⊢
  generalize nmd o 2 = B2 at hf ⊢
  generalize nmd o 3 = B3 at hf ⊢
  generalize nmd o 4 = B4 at hf ⊢
  generalize isN o 3 = M at hn ⊢
  cases B3
  · have ik := fun w => ixb3 B0 B1 B2 false B4 w
    rw [if_neg (by decide)]
    go_enter Tryd.func73, Tryd.ntmps73
    go_wp2_with (go_at_call 99; refine (hf _).mono ?_; rintro e w1 ⟨rfl, b1⟩)
    go_ret
    exact ⟨rfl, b1⟩
  have ik := fun w => ixb3 B0 B1 B2 true B4 w
  rw [if_pos rfl]
  cases M
  case true =>
    rw [if_pos rfl]
    go_enter Tryd.func73, Tryd.ntmps73
    go_wp2_with (first | (go_at_call 99; refine (hf _).mono ?_; rintro e w1 ⟨rfl, b1⟩) | (go_at_call 100; refine (hn _).mono ?_; rintro e w2 ⟨rfl, hw⟩; subst w2))
    go_ret
    exact ⟨rfl, b1⟩
  rw [if_neg (by decide)]
  rw [if_neg (by decide)]
  go_enter Tryd.func73, Tryd.ntmps73
  go_wp2_with (first | (go_at_call 99; refine (hf _).mono ?_; rintro e w1 ⟨rfl, b1⟩) | (go_at_call 100; refine (hn _).mono ?_; rintro e w2 ⟨rfl, hw⟩; subst w2))
  go_ret
  exact ⟨rfl, b1⟩
set_option maxRecDepth 100000 in
set_option maxHeartbeats 2000000 in
theorem great57_4 (o n : Int) (w : World) (n0 : 1 ≤ n) (n1 : n ≤ 600) : Calls Tryd.prog 73 #[.int .i64 o, .int .i64 4, .int .i64 n] w fun e w' => e = .returned (.int .i64 (gv o 4 n)) ∧ Below w.heap.size w w' := by
  have hf := fun w => fields37 o w
  have hn := fun w => isnum72_4 o w
  unfold gv
  generalize nmd o 0 = B0 at hf ⊢
  generalize nmd o 1 = B1 at hf ⊢
  generalize nmd o 2 = B2 at hf ⊢
  generalize nmd o 3 = B3 at hf ⊢
  generalize nmd o 4 = B4 at hf ⊢
  generalize isN o 4 = M at hn ⊢
  cases B4
  · have ik := fun w => ixb4 B0 B1 B2 B3 false w
    rw [if_neg (by decide)]
    go_enter Tryd.func73, Tryd.ntmps73
    go_wp2_with (go_at_call 99; refine (hf _).mono ?_; rintro e w1 ⟨rfl, b1⟩)
    go_ret
    exact ⟨rfl, b1⟩
  have ik := fun w => ixb4 B0 B1 B2 B3 true w
  rw [if_pos rfl]
  cases M
  case true =>
    rw [if_pos rfl]
    go_enter Tryd.func73, Tryd.ntmps73
    go_wp2_with (first | (go_at_call 99; refine (hf _).mono ?_; rintro e w1 ⟨rfl, b1⟩) | (go_at_call 100; refine (hn _).mono ?_; rintro e w2 ⟨rfl, hw⟩; subst w2))
    go_ret
    exact ⟨rfl, b1⟩
  rw [if_neg (by decide)]
  rw [if_pos rfl]
  by_cases e : o = 1
  · rw [if_pos e]
    subst e
    go_enter Tryd.func73, Tryd.ntmps73
    go_wp2_with (first | (go_at_call 99; refine (hf _).mono ?_; rintro e w1 ⟨rfl, b1⟩) | (go_at_call 100; refine (hn _).mono ?_; rintro e w2 ⟨rfl, hw⟩; subst w2))
    go_ret
    exact ⟨rfl, b1⟩
  · rw [if_neg e]
    have e1 : (o == 1) = false := by simp; omega
    clear e
    go_enter Tryd.func73, Tryd.ntmps73
    go_wp2_with (first | (go_at_call 99; refine (hf _).mono ?_; rintro e w1 ⟨rfl, b1⟩) | (go_at_call 100; refine (hn _).mono ?_; rintro e w2 ⟨rfl, hw⟩; subst w2))
    go_ret
    exact ⟨rfl, b1⟩
set_option maxRecDepth 100000 in
set_option maxHeartbeats 2000000 in
theorem kind60 (v : Int) (w : World) (v0 : 0 ≤ v) (v1 : v < 4294967296) : Calls Tryd.prog 41 #[.int .u32 v] w fun e w' => e = .returned (.int .i64 (v % 4)) ∧ w' = w := by
  have h0 : 0 ≤ v % 4 := by omega
  have h1 : v % 4 < 4 := by omega
  go_enter Tryd.func41, Tryd.ntmps41
  go_wp2
  go_ret
  exact ⟨rfl, rfl⟩
set_option maxRecDepth 100000 in
set_option maxHeartbeats 2000000 in
theorem text73 (g n cap : Nat) (f : Nat → ByteArray) (v : Int) (w : World) (v0 : 0 ≤ v) (v1 : v < 4294967296) (hn : n ≤ 1000) (O : Own w g n (fun i => .string (f i))) (hz : ∀ i, n ≤ i → f i = ⟨#[]⟩) : Calls Tryd.prog 76 #[.slice (some ⟨g, 0, none⟩) n cap, .int .u32 v] w fun e w' => e = .returned (.string (f v.toNat)) ∧ w' = w := by
  by_cases h : v < (n : Int)
  · have hc := O.cell v.toNat (by omega)
    have h' : ¬ (n : Int) ≤ v := by omega
    go_enter Tryd.func76, Tryd.ntmps76
    go_wp2
    go_ret
    exact ⟨rfl, rfl⟩
  · rw [hz v.toNat (by omega)]
    have h' : (n : Int) ≤ v := by omega
    go_enter Tryd.func76, Tryd.ntmps76
    go_wp2
    go_ret
    exact ⟨rfl, rfl⟩
theorem div4 (v : Int) (v0 : 0 ≤ v) (v1 : v < 4294967296) : 0 ≤ v / 4 ∧ v / 4 < 4294967296 := by omega
set_option maxRecDepth 100000 in
set_option maxHeartbeats 2000000 in
theorem sign59 (v : Int) (w : World) (v0 : 0 ≤ v) (v1 : v < 4294967296) : Calls Tryd.prog 43 #[.int .u32 v] w fun e w' => e = .returned (.string (sgnW v)) ∧ Below w.heap.size w w' := by
  obtain ⟨d0, d1⟩ := div4 v v0 v1
  unfold sgnW
  go_enter Tryd.func43, Tryd.ntmps43
  go_wp2_with (first | (go_at_call 77; refine (signs74 _).mono ?_; rintro e w1 ⟨rfl, O1, b1⟩) | (go_at_call 76; refine (text73 _ 30 _ (textAt signsL) (v / 4) _ d0 d1 (by decide) O1 (fun i hi => textAt_beyond _ _ hi)).mono ?_; rintro e w2 ⟨rfl, hw⟩; subst w2))
  go_ret
  exact ⟨rfl, b1⟩
set_option maxRecDepth 100000 in
set_option maxHeartbeats 2000000 in
theorem call65 (v : Int) (w : World) (G : Forms w) (v0 : 0 ≤ v) (v1 : v < 4294967296) : Calls Tryd.prog 102 #[.int .u32 v] w fun e w' => e = .returned (.string (calW v)) ∧ Below w.heap.size w w' := by
  obtain ⟨d0, d1⟩ := div4 v v0 v1
  unfold calW
  have HC : Hid (∀ w, Forms w → Calls Tryd.prog 114 #[] w fun r w' => (∃ g cap, r = .returned (.slice (some ⟨g, 0, none⟩) 11 cap) ∧ w.heap.size ≤ g ∧ Own w' g 11 (fun i => .string (textAt callsL i))) ∧ Below w.heap.size w w') := fun w G => calls77 w G
  go_enter Tryd.func102, Tryd.ntmps102
  go_wp2_with (first | (go_at_call 114; refine (HC.out _ G).mono ?_; rintro e w1 ⟨⟨g, cap, rfl, hg, O1⟩, b1⟩) | (go_at_call 76; refine (text73 _ 11 _ (textAt callsL) (v / 4) _ d0 d1 (by decide) O1 (fun i hi => textAt_beyond _ _ hi)).mono ?_; rintro e w2 ⟨rfl, hw⟩; subst w2))
  go_ret
  exact ⟨rfl, b1⟩
end Go.Proofs.YtcgapochcahknaaDoor
