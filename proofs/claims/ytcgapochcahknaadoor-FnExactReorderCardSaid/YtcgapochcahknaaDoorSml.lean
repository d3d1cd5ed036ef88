/- Contracts of chapter 10's small functions, the program's and the model's: which fields an op names, names, registers, words; no conditions but the bounds of a word. -/
import Derived.Test.YtcgapochcahknaaDoorCod
import Derived.Deep.RegionHeld3
namespace Go.Proofs.YtcgapochcahknaaDoor
open Go.ChangeShapes Go.WideShapes Go.ChangeAt Go.RowKit
set_option linter.unusedVariables false
set_option maxRecDepth 100000 in
set_option maxHeartbeats 2000000 in
theorem fields37 (o : Int) (w : World) : Calls Tryd.prog 99 #[.int .i64 o] w fun e w' => e = .returned (.agg #[.bool (nmd o 0), .bool (nmd o 1), .bool (nmd o 2), .bool (nmd o 3), .bool (nmd o 4)]) ∧ Below w.heap.size w w' := by
  rcases op_cases o with h | h
  · rcases op_in o h with rfl | rfl | rfl | rfl | rfl | rfl | rfl | rfl | rfl | rfl | rfl | rfl | rfl
    · clear h
      show Calls _ _ _ _ fun e w' => e = .returned (.agg #[.bool true, .bool false, .bool false, .bool false, .bool true]) ∧ _
      go_enter Tryd.func99, Tryd.ntmps99
      go_wp2
      exact bodyPost_ret (v := .agg #[.bool true, .bool false, .bool false, .bool false, .bool true]) (by simp [results, Tryd.results99, go_sem]) rfl ⟨rfl, by repeat (first | (with_reducible refine Below.setCell ?_ (by first | omega | (simp; try omega)) _) | (with_reducible refine Below.alloc ?_ (by first | omega | (simp; try omega)) _) | (with_reducible exact Below.refl _ _))⟩
    · clear h
      show Calls _ _ _ _ fun e w' => e = .returned (.agg #[.bool true, .bool true, .bool false, .bool false, .bool false]) ∧ _
      go_enter Tryd.func99, Tryd.ntmps99
      go_wp2
      exact bodyPost_ret (v := .agg #[.bool true, .bool true, .bool false, .bool false, .bool false]) (by simp [results, Tryd.results99, go_sem]) rfl ⟨rfl, by repeat (first | (with_reducible refine Below.setCell ?_ (by first | omega | (simp; try omega)) _) | (with_reducible refine Below.alloc ?_ (by first | omega | (simp; try omega)) _) | (with_reducible exact Below.refl _ _))⟩
    · clear h
      show Calls _ _ _ _ fun e w' => e = .returned (.agg #[.bool true, .bool true, .bool true, .bool false, .bool true]) ∧ _
      go_enter Tryd.func99, Tryd.ntmps99
      go_wp2
      exact bodyPost_ret (v := .agg #[.bool true, .bool true, .bool true, .bool false, .bool true]) (by simp [results, Tryd.results99, go_sem]) rfl ⟨rfl, by repeat (first | (with_reducible refine Below.setCell ?_ (by first | omega | (simp; try omega)) _) | (with_reducible refine Below.alloc ?_ (by first | omega | (simp; try omega)) _) | (with_reducible exact Below.refl _ _))⟩
    · clear h
      show Calls _ _ _ _ fun e w' => e = .returned (.agg #[.bool true, .bool true, .bool true, .bool true, .bool true]) ∧ _
      go_enter Tryd.func99, Tryd.ntmps99
      go_wp2
      exact bodyPost_ret (v := .agg #[.bool true, .bool true, .bool true, .bool true, .bool true]) (by simp [results, Tryd.results99, go_sem]) rfl ⟨rfl, by repeat (first | (with_reducible refine Below.setCell ?_ (by first | omega | (simp; try omega)) _) | (with_reducible refine Below.alloc ?_ (by first | omega | (simp; try omega)) _) | (with_reducible exact Below.refl _ _))⟩
    · clear h
      show Calls _ _ _ _ fun e w' => e = .returned (.agg #[.bool true, .bool false, .bool false, .bool false, .bool true]) ∧ _
      go_enter Tryd.func99, Tryd.ntmps99
      go_wp2
      exact bodyPost_ret (v := .agg #[.bool true, .bool false, .bool false, .bool false, .bool true]) (by simp [results, Tryd.results99, go_sem]) rfl ⟨rfl, by repeat (first | (with_reducible refine Below.setCell ?_ (by first | omega | (simp; try omega)) _) | (with_reducible refine Below.alloc ?_ (by first | omega | (simp; try omega)) _) | (with_reducible exact Below.refl _ _))⟩
    · clear h
      show Calls _ _ _ _ fun e w' => e = .returned (.agg #[.bool true, .bool true, .bool false, .bool false, .bool true]) ∧ _
      go_enter Tryd.func99, Tryd.ntmps99
      go_wp2
      exact bodyPost_ret (v := .agg #[.bool true, .bool true, .bool false, .bool false, .bool true]) (by simp [results, Tryd.results99, go_sem]) rfl ⟨rfl, by repeat (first | (with_reducible refine Below.setCell ?_ (by first | omega | (simp; try omega)) _) | (with_reducible refine Below.alloc ?_ (by first | omega | (simp; try omega)) _) | (with_reducible exact Below.refl _ _))⟩
    · clear h
      show Calls _ _ _ _ fun e w' => e = .returned (.agg #[.bool false, .bool true, .bool true, .bool false, .bool true]) ∧ _
      go_enter Tryd.func99, Tryd.ntmps99
      go_wp2
      exact bodyPost_ret (v := .agg #[.bool false, .bool true, .bool true, .bool false, .bool true]) (by simp [results, Tryd.results99, go_sem]) rfl ⟨rfl, by repeat (first | (with_reducible refine Below.setCell ?_ (by first | omega | (simp; try omega)) _) | (with_reducible refine Below.alloc ?_ (by first | omega | (simp; try omega)) _) | (with_reducible exact Below.refl _ _))⟩
    · clear h
      show Calls _ _ _ _ fun e w' => e = .returned (.agg #[.bool false, .bool true, .bool false, .bool false, .bool false]) ∧ _
      go_enter Tryd.func99, Tryd.ntmps99
      go_wp2
      exact bodyPost_ret (v := .agg #[.bool false, .bool true, .bool false, .bool false, .bool false]) (by simp [results, Tryd.results99, go_sem]) rfl ⟨rfl, by repeat (first | (with_reducible refine Below.setCell ?_ (by first | omega | (simp; try omega)) _) | (with_reducible refine Below.alloc ?_ (by first | omega | (simp; try omega)) _) | (with_reducible exact Below.refl _ _))⟩
    · clear h
      show Calls _ _ _ _ fun e w' => e = .returned (.agg #[.bool false, .bool true, .bool true, .bool true, .bool false]) ∧ _
      go_enter Tryd.func99, Tryd.ntmps99
      go_wp2
      exact bodyPost_ret (v := .agg #[.bool false, .bool true, .bool true, .bool true, .bool false]) (by simp [results, Tryd.results99, go_sem]) rfl ⟨rfl, by repeat (first | (with_reducible refine Below.setCell ?_ (by first | omega | (simp; try omega)) _) | (with_reducible refine Below.alloc ?_ (by first | omega | (simp; try omega)) _) | (with_reducible exact Below.refl _ _))⟩
    · clear h
      show Calls _ _ _ _ fun e w' => e = .returned (.agg #[.bool false, .bool false, .bool false, .bool false, .bool false]) ∧ _
      go_enter Tryd.func99, Tryd.ntmps99
      go_wp2
      exact bodyPost_ret (v := .agg #[.bool false, .bool false, .bool false, .bool false, .bool false]) (by simp [results, Tryd.results99, go_sem]) rfl ⟨rfl, by repeat (first | (with_reducible refine Below.setCell ?_ (by first | omega | (simp; try omega)) _) | (with_reducible refine Below.alloc ?_ (by first | omega | (simp; try omega)) _) | (with_reducible exact Below.refl _ _))⟩
    · clear h
      show Calls _ _ _ _ fun e w' => e = .returned (.agg #[.bool false, .bool false, .bool false, .bool false, .bool false]) ∧ _
      go_enter Tryd.func99, Tryd.ntmps99
      go_wp2
      exact bodyPost_ret (v := .agg #[.bool false, .bool false, .bool false, .bool false, .bool false]) (by simp [results, Tryd.results99, go_sem]) rfl ⟨rfl, by repeat (first | (with_reducible refine Below.setCell ?_ (by first | omega | (simp; try omega)) _) | (with_reducible refine Below.alloc ?_ (by first | omega | (simp; try omega)) _) | (with_reducible exact Below.refl _ _))⟩
    · clear h
      show Calls _ _ _ _ fun e w' => e = .returned (.agg #[.bool true, .bool true, .bool false, .bool false, .bool false]) ∧ _
      go_enter Tryd.func99, Tryd.ntmps99
      go_wp2
      exact bodyPost_ret (v := .agg #[.bool true, .bool true, .bool false, .bool false, .bool false]) (by simp [results, Tryd.results99, go_sem]) rfl ⟨rfl, by repeat (first | (with_reducible refine Below.setCell ?_ (by first | omega | (simp; try omega)) _) | (with_reducible refine Below.alloc ?_ (by first | omega | (simp; try omega)) _) | (with_reducible exact Below.refl _ _))⟩
    · clear h
      show Calls _ _ _ _ fun e w' => e = .returned (.agg #[.bool true, .bool true, .bool false, .bool false, .bool false]) ∧ _
      go_enter Tryd.func99, Tryd.ntmps99
      go_wp2
      exact bodyPost_ret (v := .agg #[.bool true, .bool true, .bool false, .bool false, .bool false]) (by simp [results, Tryd.results99, go_sem]) rfl ⟨rfl, by repeat (first | (with_reducible refine Below.setCell ?_ (by first | omega | (simp; try omega)) _) | (with_reducible refine Below.alloc ?_ (by first | omega | (simp; try omega)) _) | (with_reducible exact Below.refl _ _))⟩
  · rw [nmd_off o 0 h, nmd_off o 1 h, nmd_off o 2 h, nmd_off o 3 h, nmd_off o 4 h]
    have f1 : (o == 1) = false := by simp; omega
    have f2 : (o == 2) = false := by simp; omega
    have f3 : (o == 3) = false := by simp; omega
    have f4 : (o == 4) = false := by simp; omega
    have f5 : (o == 5) = false := by simp; omega
    have f6 : (o == 6) = false := by simp; omega
    have f7 : (o == 7) = false := by simp; omega
    have f8 : (o == 8) = false := by simp; omega
    have f9 : (o == 9) = false := by simp; omega
    have f10 : (o == 10) = false := by simp; omega
    have f11 : (o == 11) = false := by simp; omega
    have f12 : (o == 12) = false := by simp; omega
    have f13 : (o == 13) = false := by simp; omega
    clear h
    go_enter Tryd.func99, Tryd.ntmps99
    go_wp2
    exact bodyPost_ret (v := .agg #[.bool false, .bool false, .bool false, .bool false, .bool false]) (by simp [results, Tryd.results99, go_sem]) rfl ⟨rfl, by repeat (first | (with_reducible refine Below.setCell ?_ (by first | omega | (simp; try omega)) _) | (with_reducible refine Below.alloc ?_ (by first | omega | (simp; try omega)) _) | (with_reducible exact Below.refl _ _))⟩
set_option maxRecDepth 100000 in
set_option maxHeartbeats 2000000 in
theorem fields47_1 (w : World) : Calls Tryd.prog 67 #[.int .i64 1] w fun e w' => e = .returned (.int .i64 17) ∧ w' = w := by
  go_enter Tryd.func67, Tryd.ntmps67
  go_wp2
  go_ret
  exact ⟨rfl, rfl⟩
set_option maxRecDepth 100000 in
set_option maxHeartbeats 2000000 in
theorem fields47_2 (w : World) : Calls Tryd.prog 67 #[.int .i64 2] w fun e w' => e = .returned (.int .i64 24) ∧ w' = w := by
  go_enter Tryd.func67, Tryd.ntmps67
  go_wp2
  go_ret
  exact ⟨rfl, rfl⟩
set_option maxRecDepth 100000 in
set_option maxHeartbeats 2000000 in
theorem fields47_3 (w : World) : Calls Tryd.prog 67 #[.int .i64 3] w fun e w' => e = .returned (.int .i64 29) ∧ w' = w := by
  go_enter Tryd.func67, Tryd.ntmps67
  go_wp2
  go_ret
  exact ⟨rfl, rfl⟩
set_option maxRecDepth 100000 in
set_option maxHeartbeats 2000000 in
theorem fields47_4 (w : World) : Calls Tryd.prog 67 #[.int .i64 4] w fun e w' => e = .returned (.int .i64 31) ∧ w' = w := by
  go_enter Tryd.func67, Tryd.ntmps67
  go_wp2
  go_ret
  exact ⟨rfl, rfl⟩
set_option maxRecDepth 100000 in
set_option maxHeartbeats 2000000 in
theorem fields47_5 (w : World) : Calls Tryd.prog 67 #[.int .i64 5] w fun e w' => e = .returned (.int .i64 17) ∧ w' = w := by
  go_enter Tryd.func67, Tryd.ntmps67
  go_wp2
  go_ret
  exact ⟨rfl, rfl⟩
set_option maxRecDepth 100000 in
set_option maxHeartbeats 2000000 in
theorem fields47_6 (w : World) : Calls Tryd.prog 67 #[.int .i64 6] w fun e w' => e = .returned (.int .i64 25) ∧ w' = w := by
  go_enter Tryd.func67, Tryd.ntmps67
  go_wp2
  go_ret
  exact ⟨rfl, rfl⟩
set_option maxRecDepth 100000 in
set_option maxHeartbeats 2000000 in
theorem fields47_7 (w : World) : Calls Tryd.prog 67 #[.int .i64 7] w fun e w' => e = .returned (.int .i64 13) ∧ w' = w := by
  go_enter Tryd.func67, Tryd.ntmps67
  go_wp2
  go_ret
  exact ⟨rfl, rfl⟩
set_option maxRecDepth 100000 in
set_option maxHeartbeats 2000000 in
theorem fields47_8 (w : World) : Calls Tryd.prog 67 #[.int .i64 8] w fun e w' => e = .returned (.int .i64 8) ∧ w' = w := by
  go_enter Tryd.func67, Tryd.ntmps67
  go_wp2
  go_ret
  exact ⟨rfl, rfl⟩
set_option maxRecDepth 100000 in
set_option maxHeartbeats 2000000 in
theorem fields47_9 (w : World) : Calls Tryd.prog 67 #[.int .i64 9] w fun e w' => e = .returned (.int .i64 14) ∧ w' = w := by
  go_enter Tryd.func67, Tryd.ntmps67
  go_wp2
  go_ret
  exact ⟨rfl, rfl⟩
set_option maxRecDepth 100000 in
set_option maxHeartbeats 2000000 in
theorem fields47_10 (w : World) : Calls Tryd.prog 67 #[.int .i64 10] w fun e w' => e = .returned (.int .i64 0) ∧ w' = w := by
  go_enter Tryd.func67, Tryd.ntmps67
  go_wp2
  go_ret
  exact ⟨rfl, rfl⟩
set_option maxRecDepth 100000 in
set_option maxHeartbeats 2000000 in
theorem fields47_11 (w : World) : Calls Tryd.prog 67 #[.int .i64 11] w fun e w' => e = .returned (.int .i64 0) ∧ w' = w := by
  go_enter Tryd.func67, Tryd.ntmps67
  go_wp2
  go_ret
  exact ⟨rfl, rfl⟩
set_option maxRecDepth 100000 in
set_option maxHeartbeats 2000000 in
theorem fields47_12 (w : World) : Calls Tryd.prog 67 #[.int .i64 12] w fun e w' => e = .returned (.int .i64 24) ∧ w' = w := by
  go_enter Tryd.func67, Tryd.ntmps67
  go_wp2
  go_ret
  exact ⟨rfl, rfl⟩
set_option maxRecDepth 100000 in
set_option maxHeartbeats 2000000 in
theorem fields47_13 (w : World) : Calls Tryd.prog 67 #[.int .i64 13] w fun e w' => e = .returned (.int .i64 24) ∧ w' = w := by
  go_enter Tryd.func67, Tryd.ntmps67
  go_wp2
  go_ret
  exact ⟨rfl, rfl⟩
set_option maxRecDepth 100000 in
set_option maxHeartbeats 2000000 in
theorem fields47_off (o : Int) (w : World) (h : o < 1 ∨ 13 < o) : Calls Tryd.prog 67 #[.int .i64 o] w fun e w' => e = .returned (.int .i64 0) ∧ w' = w := by
  have f1 : (o == 1) = false := by simp; omega
  have f2 : (o == 2) = false := by simp; omega
  have f3 : (o == 3) = false := by simp; omega
  have f4 : (o == 4) = false := by simp; omega
  have f5 : (o == 5) = false := by simp; omega
  have f6 : (o == 6) = false := by simp; omega
  have f7 : (o == 7) = false := by simp; omega
  have f8 : (o == 8) = false := by simp; omega
  have f9 : (o == 9) = false := by simp; omega
  have f10 : (o == 10) = false := by simp; omega
  have f11 : (o == 11) = false := by simp; omega
  have f12 : (o == 12) = false := by simp; omega
  have f13 : (o == 13) = false := by simp; omega
  clear h
  go_enter Tryd.func67, Tryd.ntmps67
  go_wp2
  go_ret
  exact ⟨rfl, rfl⟩
set_option maxRecDepth 100000 in
set_option maxHeartbeats 2000000 in
theorem name51_1 (w : World) : Calls Tryd.prog 68 #[.int .i64 1] w fun e w' => e = .returned (.string ⟨#[99, 111, 110, 115, 116]⟩) ∧ Below w.heap.size w w' := by
  go_enter Tryd.func68, Tryd.ntmps68
  go_wp2
  go_ret
  exact ⟨rfl, by repeat (first | (with_reducible refine Below.setCell ?_ (by first | omega | (simp; try omega)) _) | (with_reducible refine Below.alloc ?_ (by first | omega | (simp; try omega)) _) | (with_reducible exact Below.refl _ _))⟩
set_option maxRecDepth 100000 in
set_option maxHeartbeats 2000000 in
theorem name51_2 (w : World) : Calls Tryd.prog 68 #[.int .i64 2] w fun e w' => e = .returned (.string ⟨#[109, 111, 118, 101]⟩) ∧ Below w.heap.size w w' := by
  go_enter Tryd.func68, Tryd.ntmps68
  go_wp2
  go_ret
  exact ⟨rfl, by repeat (first | (with_reducible refine Below.setCell ?_ (by first | omega | (simp; try omega)) _) | (with_reducible refine Below.alloc ?_ (by first | omega | (simp; try omega)) _) | (with_reducible exact Below.refl _ _))⟩
set_option maxRecDepth 100000 in
set_option maxHeartbeats 2000000 in
theorem name51_3 (w : World) : Calls Tryd.prog 68 #[.int .i64 3] w fun e w' => e = .returned (.string ⟨#[111, 112]⟩) ∧ Below w.heap.size w w' := by
  go_enter Tryd.func68, Tryd.ntmps68
  go_wp2
  go_ret
  exact ⟨rfl, by repeat (first | (with_reducible refine Below.setCell ?_ (by first | omega | (simp; try omega)) _) | (with_reducible refine Below.alloc ?_ (by first | omega | (simp; try omega)) _) | (with_reducible exact Below.refl _ _))⟩
set_option maxRecDepth 100000 in
set_option maxHeartbeats 2000000 in
theorem name51_4 (w : World) : Calls Tryd.prog 68 #[.int .i64 4] w fun e w' => e = .returned (.string ⟨#[99, 97, 108, 108]⟩) ∧ Below w.heap.size w w' := by
  go_enter Tryd.func68, Tryd.ntmps68
  go_wp2
  go_ret
  exact ⟨rfl, by repeat (first | (with_reducible refine Below.setCell ?_ (by first | omega | (simp; try omega)) _) | (with_reducible refine Below.alloc ?_ (by first | omega | (simp; try omega)) _) | (with_reducible exact Below.refl _ _))⟩
set_option maxRecDepth 100000 in
set_option maxHeartbeats 2000000 in
theorem name51_5 (w : World) : Calls Tryd.prog 68 #[.int .i64 5] w fun e w' => e = .returned (.string ⟨#[105, 110]⟩) ∧ Below w.heap.size w w' := by
  go_enter Tryd.func68, Tryd.ntmps68
  go_wp2
  go_ret
  exact ⟨rfl, by repeat (first | (with_reducible refine Below.setCell ?_ (by first | omega | (simp; try omega)) _) | (with_reducible refine Below.alloc ?_ (by first | omega | (simp; try omega)) _) | (with_reducible exact Below.refl _ _))⟩
set_option maxRecDepth 100000 in
set_option maxHeartbeats 2000000 in
theorem name51_6 (w : World) : Calls Tryd.prog 68 #[.int .i64 6] w fun e w' => e = .returned (.string ⟨#[108, 111, 97, 100]⟩) ∧ Below w.heap.size w w' := by
  go_enter Tryd.func68, Tryd.ntmps68
  go_wp2
  go_ret
  exact ⟨rfl, by repeat (first | (with_reducible refine Below.setCell ?_ (by first | omega | (simp; try omega)) _) | (with_reducible refine Below.alloc ?_ (by first | omega | (simp; try omega)) _) | (with_reducible exact Below.refl _ _))⟩
set_option maxRecDepth 100000 in
set_option maxHeartbeats 2000000 in
theorem name51_7 (w : World) : Calls Tryd.prog 68 #[.int .i64 7] w fun e w' => e = .returned (.string ⟨#[115, 116, 111, 114, 101]⟩) ∧ Below w.heap.size w w' := by
  go_enter Tryd.func68, Tryd.ntmps68
  go_wp2
  go_ret
  exact ⟨rfl, by repeat (first | (with_reducible refine Below.setCell ?_ (by first | omega | (simp; try omega)) _) | (with_reducible refine Below.alloc ?_ (by first | omega | (simp; try omega)) _) | (with_reducible exact Below.refl _ _))⟩
set_option maxRecDepth 100000 in
set_option maxHeartbeats 2000000 in
theorem name51_8 (w : World) : Calls Tryd.prog 68 #[.int .i64 8] w fun e w' => e = .returned (.string ⟨#[106, 117, 109, 112]⟩) ∧ Below w.heap.size w w' := by
  go_enter Tryd.func68, Tryd.ntmps68
  go_wp2
  go_ret
  exact ⟨rfl, by repeat (first | (with_reducible refine Below.setCell ?_ (by first | omega | (simp; try omega)) _) | (with_reducible refine Below.alloc ?_ (by first | omega | (simp; try omega)) _) | (with_reducible exact Below.refl _ _))⟩
set_option maxRecDepth 100000 in
set_option maxHeartbeats 2000000 in
theorem name51_9 (w : World) : Calls Tryd.prog 68 #[.int .i64 9] w fun e w' => e = .returned (.string ⟨#[122, 101, 114, 111]⟩) ∧ Below w.heap.size w w' := by
  go_enter Tryd.func68, Tryd.ntmps68
  go_wp2
  go_ret
  exact ⟨rfl, by repeat (first | (with_reducible refine Below.setCell ?_ (by first | omega | (simp; try omega)) _) | (with_reducible refine Below.alloc ?_ (by first | omega | (simp; try omega)) _) | (with_reducible exact Below.refl _ _))⟩
set_option maxRecDepth 100000 in
set_option maxHeartbeats 2000000 in
theorem name51_10 (w : World) : Calls Tryd.prog 68 #[.int .i64 10] w fun e w' => e = .returned (.string ⟨#[98, 97, 114, 114, 105, 101, 114]⟩) ∧ Below w.heap.size w w' := by
  go_enter Tryd.func68, Tryd.ntmps68
  go_wp2
  go_ret
  exact ⟨rfl, by repeat (first | (with_reducible refine Below.setCell ?_ (by first | omega | (simp; try omega)) _) | (with_reducible refine Below.alloc ?_ (by first | omega | (simp; try omega)) _) | (with_reducible exact Below.refl _ _))⟩
set_option maxRecDepth 100000 in
set_option maxHeartbeats 2000000 in
theorem name51_11 (w : World) : Calls Tryd.prog 68 #[.int .i64 11] w fun e w' => e = .returned (.string ⟨#[101, 110, 100]⟩) ∧ Below w.heap.size w w' := by
  go_enter Tryd.func68, Tryd.ntmps68
  go_wp2
  go_ret
  exact ⟨rfl, by repeat (first | (with_reducible refine Below.setCell ?_ (by first | omega | (simp; try omega)) _) | (with_reducible refine Below.alloc ?_ (by first | omega | (simp; try omega)) _) | (with_reducible exact Below.refl _ _))⟩
set_option maxRecDepth 100000 in
set_option maxHeartbeats 2000000 in
theorem name51_12 (w : World) : Calls Tryd.prog 68 #[.int .i64 12] w fun e w' => e = .returned (.string ⟨#[110, 111, 116]⟩) ∧ Below w.heap.size w w' := by
  go_enter Tryd.func68, Tryd.ntmps68
  go_wp2
  go_ret
  exact ⟨rfl, by repeat (first | (with_reducible refine Below.setCell ?_ (by first | omega | (simp; try omega)) _) | (with_reducible refine Below.alloc ?_ (by first | omega | (simp; try omega)) _) | (with_reducible exact Below.refl _ _))⟩
set_option maxRecDepth 100000 in
set_option maxHeartbeats 2000000 in
theorem name51_13 (w : World) : Calls Tryd.prog 68 #[.int .i64 13] w fun e w' => e = .returned (.string ⟨#[110, 101, 103]⟩) ∧ Below w.heap.size w w' := by
  go_enter Tryd.func68, Tryd.ntmps68
  go_wp2
  go_ret
  exact ⟨rfl, by repeat (first | (with_reducible refine Below.setCell ?_ (by first | omega | (simp; try omega)) _) | (with_reducible refine Below.alloc ?_ (by first | omega | (simp; try omega)) _) | (with_reducible exact Below.refl _ _))⟩
set_option maxRecDepth 100000 in
set_option maxHeartbeats 2000000 in
theorem name51_off (o : Int) (w : World) (h : o < 1 ∨ 13 < o) : Calls Tryd.prog 68 #[.int .i64 o] w fun e w' => e = .returned (.string ⟨#[]⟩) ∧ Below w.heap.size w w' := by
  rcases h with h | h
  · go_enter Tryd.func68, Tryd.ntmps68
    go_wp2
    go_ret
    exact ⟨rfl, by repeat (first | (with_reducible refine Below.setCell ?_ (by first | omega | (simp; try omega)) _) | (with_reducible refine Below.alloc ?_ (by first | omega | (simp; try omega)) _) | (with_reducible exact Below.refl _ _))⟩
  · have h1 : ¬ o < 1 := by omega
    have h2 : 14 ≤ o := by omega
    clear h
    go_enter Tryd.func68, Tryd.ntmps68
    go_wp2
    go_ret
    exact ⟨rfl, by repeat (first | (with_reducible refine Below.setCell ?_ (by first | omega | (simp; try omega)) _) | (with_reducible refine Below.alloc ?_ (by first | omega | (simp; try omega)) _) | (with_reducible exact Below.refl _ _))⟩
def rg (x : Int) : Bool := decide (0 ≤ x) && decide (x < 400)
set_option maxRecDepth 100000 in
set_option maxHeartbeats 2000000 in
theorem reg52 (x : Int) (w : World) : Calls Tryd.prog 69 #[.int .i64 x] w fun e w' => e = .returned (.bool (rg x)) ∧ w' = w := by
  unfold rg
  by_cases h0 : 0 ≤ x
  · rw [decide_eq_true h0]
    go_enter Tryd.func69, Tryd.ntmps69
    go_wp2
    go_ret
    exact ⟨rfl, rfl⟩
  · rw [decide_eq_false h0]
    have h1 : x < 0 := by omega
    go_enter Tryd.func69, Tryd.ntmps69
    go_wp2
    go_ret
    exact ⟨rfl, rfl⟩
set_option maxRecDepth 100000 in
set_option maxHeartbeats 2000000 in
theorem vals44 (o d a b c v : Int) (w : World) (v0 : 0 ≤ v) (v1 : v < 4294967296) : Calls Tryd.prog 72 #[.agg #[.int .i64 o, .int .i64 d, .int .i64 a, .int .i64 b, .int .i64 c, .int .u32 v]] w fun e w' => e = .returned (.agg #[.int .i64 d, .int .i64 a, .int .i64 b, .int .i64 c, .int .i64 v]) ∧ Below w.heap.size w w' := by
  go_enter Tryd.func72, Tryd.ntmps72
  go_wp2
  exact bodyPost_ret (v := .agg #[.int .i64 d, .int .i64 a, .int .i64 b, .int .i64 c, .int .i64 v]) (by simp [results, Tryd.results72, go_sem]) rfl ⟨rfl, by repeat (first | (with_reducible refine Below.setCell ?_ (by first | omega | (simp; try omega)) _) | (with_reducible refine Below.alloc ?_ (by first | omega | (simp; try omega)) _) | (with_reducible exact Below.refl _ _))⟩
set_option maxRecDepth 100000 in
set_option maxHeartbeats 2000000 in
theorem isnum72_0 (o : Int) (w : World) : Calls Tryd.prog 100 #[.int .i64 o, .int .i64 0] w fun e w' => e = .returned (.bool (isN o 0)) ∧ w' = w := by
  by_cases e8 : o = 8
  · subst e8
    go_enter Tryd.func100, Tryd.ntmps100
    go_wp2
    go_ret
    exact ⟨rfl, rfl⟩
  by_cases e9 : o = 9
  · subst e9
    go_enter Tryd.func100, Tryd.ntmps100
    go_wp2
    go_ret
    exact ⟨rfl, rfl⟩
  have f8 : (o == 8) = false := by simp; omega
  have f9 : (o == 9) = false := by simp; omega
  rw [show isN o 0 = false by unfold isN; rw [f8, f9]; rfl]
  clear e8 e9
  go_enter Tryd.func100, Tryd.ntmps100
  go_wp2
  go_ret
  exact ⟨rfl, rfl⟩
set_option maxRecDepth 100000 in
set_option maxHeartbeats 2000000 in
theorem isnum72_1 (o : Int) (w : World) : Calls Tryd.prog 100 #[.int .i64 o, .int .i64 1] w fun e w' => e = .returned (.bool (isN o 1)) ∧ w' = w := by
  by_cases e8 : o = 8
  · subst e8
    go_enter Tryd.func100, Tryd.ntmps100
    go_wp2
    go_ret
    exact ⟨rfl, rfl⟩
  by_cases e9 : o = 9
  · subst e9
    go_enter Tryd.func100, Tryd.ntmps100
    go_wp2
    go_ret
    exact ⟨rfl, rfl⟩
  have f8 : (o == 8) = false := by simp; omega
  have f9 : (o == 9) = false := by simp; omega
  rw [show isN o 1 = false by unfold isN; rw [f8, f9]; rfl]
  clear e8 e9
  go_enter Tryd.func100, Tryd.ntmps100
  go_wp2
  go_ret
  exact ⟨rfl, rfl⟩
set_option maxRecDepth 100000 in
set_option maxHeartbeats 2000000 in
theorem isnum72_2 (o : Int) (w : World) : Calls Tryd.prog 100 #[.int .i64 o, .int .i64 2] w fun e w' => e = .returned (.bool (isN o 2)) ∧ w' = w := by
  by_cases e8 : o = 8
  · subst e8
    go_enter Tryd.func100, Tryd.ntmps100
    go_wp2
    go_ret
    exact ⟨rfl, rfl⟩
  by_cases e9 : o = 9
  · subst e9
    go_enter Tryd.func100, Tryd.ntmps100
    go_wp2
    go_ret
    exact ⟨rfl, rfl⟩
  have f8 : (o == 8) = false := by simp; omega
  have f9 : (o == 9) = false := by simp; omega
  rw [show isN o 2 = false by unfold isN; rw [f8, f9]; rfl]
  clear e8 e9
  go_enter Tryd.func100, Tryd.ntmps100
  go_wp2
  go_ret
  exact ⟨rfl, rfl⟩
set_option maxRecDepth 100000 in
set_option maxHeartbeats 2000000 in
theorem isnum72_3 (o : Int) (w : World) : Calls Tryd.prog 100 #[.int .i64 o, .int .i64 3] w fun e w' => e = .returned (.bool (isN o 3)) ∧ w' = w := by
  by_cases e8 : o = 8
  · subst e8
    go_enter Tryd.func100, Tryd.ntmps100
    go_wp2
    go_ret
    exact ⟨rfl, rfl⟩
  by_cases e9 : o = 9
  · subst e9
    go_enter Tryd.func100, Tryd.ntmps100
    go_wp2
    go_ret
    exact ⟨rfl, rfl⟩
  have f8 : (o == 8) = false := by simp; omega
  have f9 : (o == 9) = false := by simp; omega
  rw [show isN o 3 = false by unfold isN; rw [f8, f9]; rfl]
  clear e8 e9
  go_enter Tryd.func100, Tryd.ntmps100
  go_wp2
  go_ret
  exact ⟨rfl, rfl⟩
set_option maxRecDepth 100000 in
set_option maxHeartbeats 2000000 in
theorem isnum72_4 (o : Int) (w : World) : Calls Tryd.prog 100 #[.int .i64 o, .int .i64 4] w fun e w' => e = .returned (.bool (isN o 4)) ∧ w' = w := by
  by_cases e8 : o = 8
  · subst e8
    go_enter Tryd.func100, Tryd.ntmps100
    go_wp2
    go_ret
    exact ⟨rfl, rfl⟩
  by_cases e9 : o = 9
  · subst e9
    go_enter Tryd.func100, Tryd.ntmps100
    go_wp2
    go_ret
    exact ⟨rfl, rfl⟩
  have f8 : (o == 8) = false := by simp; omega
  have f9 : (o == 9) = false := by simp; omega
  rw [show isN o 4 = false by unfold isN; rw [f8, f9]; rfl]
  clear e8 e9
  go_enter Tryd.func100, Tryd.ntmps100
  go_wp2
  go_ret
  exact ⟨rfl, rfl⟩
end Go.Proofs.YtcgapochcahknaaDoor
