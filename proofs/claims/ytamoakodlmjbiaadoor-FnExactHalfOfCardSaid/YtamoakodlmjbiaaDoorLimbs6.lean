/- Contracts of the model's l1Limbs, l1IsSmall, l1Zero, l1Neg and l1Minus: of plain numbers of two limbs, of numbers that hold a row of limbs, and of 0. -/
import Derived.Test.YtamoakodlmjbiaaDoorLimbsVal
namespace Go.Proofs.YtamoakodlmjbiaaDoor
open Go.ChangeShapes Go.WideShapes Go.ChangeAt Go.RowKit

theorem zLimbs2 (n v : Int) (hv : v = n ∨ v = -n) (v0 : 1000000000 ≤ v) (v1 : v < 1000000000000000000) (w : World) :
    Calls Tryd.prog 95 #[.agg #[.int .i64 n, .bool false, .slice none 0 0]] w fun e w' => ∃ b, e = .returned (.slice (some ⟨b, 0, none⟩) 2 2) ∧ w'.cell? ⟨b, 0, none⟩ = some (.int .u32 (v % 1000000000)) ∧ w'.cell? ⟨b, 1, none⟩ = some (.int .u32 (v / 1000000000)) ∧ b < w'.heap.size ∧ Below w.heap.size w w' := by
  rcases hv with rfl | hv
  · have k : ¬ v < 0 := by omega
    go_enter Tryd.func95, Tryd.ntmps95
    go_wp2
    go_ret
    exact ⟨_, rfl, by simp, by simp, by simp, by repeat (first | (with_reducible refine Below.setCell ?_ (by first | omega | (simp; try omega)) _) | (with_reducible refine Below.alloc ?_ (by first | omega | (simp; try omega)) _) | (with_reducible apply Below.drew) | (with_reducible apply below_drewN) | (with_reducible exact Below.refl _ _))⟩
  · obtain rfl : n = -v := by omega
    clear hv
    have k : -v < 0 := by omega
    go_enter Tryd.func95, Tryd.ntmps95
    go_wp2
    go_ret
    exact ⟨_, rfl, by simp, by simp, by simp, by repeat (first | (with_reducible refine Below.setCell ?_ (by first | omega | (simp; try omega)) _) | (with_reducible refine Below.alloc ?_ (by first | omega | (simp; try omega)) _) | (with_reducible apply Below.drew) | (with_reducible apply below_drewN) | (with_reducible exact Below.refl _ _))⟩
theorem zLimbs0 (w : World) :
    Calls Tryd.prog 95 #[.agg #[.int .i64 0, .bool false, .slice none 0 0]] w fun e w' => e = .returned (.slice none 0 0) ∧ Below w.heap.size w w' := by
  go_enter Tryd.func95, Tryd.ntmps95
  go_wp2
  go_ret
  exact ⟨rfl, by repeat (first | (with_reducible refine Below.setCell ?_ (by first | omega | (simp; try omega)) _) | (with_reducible refine Below.alloc ?_ (by first | omega | (simp; try omega)) _) | (with_reducible apply Below.drew) | (with_reducible apply below_drewN) | (with_reducible exact Below.refl _ _))⟩
theorem gLimbs (neg : Bool) (b t cb : Nat) (ht : 0 < t) (t1 : t ≤ 1000000) (w : World) :
    Calls Tryd.prog 95 #[.agg #[.int .i64 0, .bool neg, .slice (some ⟨b, 0, none⟩) t cb]] w fun e w' => e = .returned (.slice (some ⟨b, 0, none⟩) t cb) ∧ Below w.heap.size w w' := by
  have h : (0 : Int) < (t : Int) := by omega
  go_enter Tryd.func95, Tryd.ntmps95
  go_wp2
  go_ret
  exact ⟨rfl, by repeat (first | (with_reducible refine Below.setCell ?_ (by first | omega | (simp; try omega)) _) | (with_reducible refine Below.alloc ?_ (by first | omega | (simp; try omega)) _) | (with_reducible apply Below.drew) | (with_reducible apply below_drewN) | (with_reducible exact Below.refl _ _))⟩
theorem gIsSmall (neg : Bool) (b t cb : Nat) (ht : 0 < t) (w : World) :
    Calls Tryd.prog 101 #[.agg #[.int .i64 0, .bool neg, .slice (some ⟨b, 0, none⟩) t cb]] w fun e w' => e = .returned (.bool false) ∧ Below w.heap.size w w' := by
  have h : ((t : Int) == 0) = false := by simp; omega
  have h' : ¬ t = 0 := by omega
  go_enter Tryd.func101, Tryd.ntmps101
  go_wp2
  go_ret
  exact ⟨by first | rfl | (simp; omega), by repeat (first | (with_reducible refine Below.setCell ?_ (by first | omega | (simp; try omega)) _) | (with_reducible refine Below.alloc ?_ (by first | omega | (simp; try omega)) _) | (with_reducible apply Below.drew) | (with_reducible apply below_drewN) | (with_reducible exact Below.refl _ _))⟩
theorem gNeg (neg : Bool) (b t cb : Nat) (ht : 0 < t) (w : World) :
    Calls Tryd.prog 103 #[.agg #[.int .i64 0, .bool neg, .slice (some ⟨b, 0, none⟩) t cb]] w fun e w' => e = .returned (.bool neg) ∧ Below w.heap.size w w' := by
  have h : (0 : Int) < (t : Int) := by omega
  go_enter Tryd.func103, Tryd.ntmps103
  go_wp2
  go_ret
  exact ⟨rfl, by repeat (first | (with_reducible refine Below.setCell ?_ (by first | omega | (simp; try omega)) _) | (with_reducible refine Below.alloc ?_ (by first | omega | (simp; try omega)) _) | (with_reducible apply Below.drew) | (with_reducible apply below_drewN) | (with_reducible exact Below.refl _ _))⟩
theorem zNeg (n : Int) (w : World) :
    Calls Tryd.prog 103 #[.agg #[.int .i64 n, .bool false, .slice none 0 0]] w fun e w' => e = .returned (.bool (decide (n < 0))) ∧ Below w.heap.size w w' := by
  go_enter Tryd.func103, Tryd.ntmps103
  go_wp2
  go_ret
  exact ⟨rfl, by repeat (first | (with_reducible refine Below.setCell ?_ (by first | omega | (simp; try omega)) _) | (with_reducible refine Below.alloc ?_ (by first | omega | (simp; try omega)) _) | (with_reducible apply Below.drew) | (with_reducible apply below_drewN) | (with_reducible exact Below.refl _ _))⟩
theorem gZero (neg : Bool) (b t cb : Nat) (ht : 0 < t) (w : World) :
    Calls Tryd.prog 85 #[.agg #[.int .i64 0, .bool neg, .slice (some ⟨b, 0, none⟩) t cb]] w fun e w' => e = .returned (.bool false) ∧ Below w.heap.size w w' := by
  have h : ((t : Int) == 0) = false := by simp; omega
  have h' : ¬ t = 0 := by omega
  go_enter Tryd.func85, Tryd.ntmps85
  go_wp2
  go_ret
  exact ⟨by first | rfl | (simp; omega), by repeat (first | (with_reducible refine Below.setCell ?_ (by first | omega | (simp; try omega)) _) | (with_reducible refine Below.alloc ?_ (by first | omega | (simp; try omega)) _) | (with_reducible apply Below.drew) | (with_reducible apply below_drewN) | (with_reducible exact Below.refl _ _))⟩
end Go.Proofs.YtamoakodlmjbiaaDoor
