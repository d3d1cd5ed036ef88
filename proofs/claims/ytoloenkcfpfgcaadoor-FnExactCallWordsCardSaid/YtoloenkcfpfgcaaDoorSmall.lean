/- Contracts of the model's whole numbers where they are below 10^18 in size (no limbs): what each function returns, as plain whole numbers. -/
import Derived.Test.YtoloenkcfpfgcaaDoorSpec
import Derived.WalkSmall
import Derived.Deep.RegionHeld3
import Derived.Deep.QuietTactic
import Derived.BigQuiet
namespace Go.Proofs.YtoloenkcfpfgcaaDoor
open Go.ChangeShapes Go.WideShapes Go.ChangeAt Go.RowKit

/-- How two whole numbers stand to each other. -/
def cmpZ (n m : Int) : Int := if n < m then -1 else if m < n then 1 else 0
theorem zIsSmall (n : Int) (w : World) :
    Calls Tryd.prog 61 #[.agg #[.int .i64 n, .bool false, .slice none 0 0]] w fun e w' => e = .returned (.bool true) ∧ w' = w.alloc (.cells #[.int .i64 n, .bool false, .slice none 0 0] 50) := by
  go_enter Tryd.func61, Tryd.ntmps61
  go_wp2
  go_ret
  exact ⟨rfl, rfl⟩
theorem zAbs (v : Int) (h0 : -1000000000000000000 < v) (h1 : v < 1000000000000000000) (w : World) :
    Calls Tryd.prog 62 #[.int .i64 v] w fun e w' => e = .returned (.int .i64 (if v < 0 then -v else v)) ∧ w' = w := by
  by_cases k : v < 0
  · rw [if_pos k]
    go_enter Tryd.func62, Tryd.ntmps62
    go_wp2
    go_ret
    exact ⟨rfl, rfl⟩
  · rw [if_neg k]
    go_enter Tryd.func62, Tryd.ntmps62
    go_wp2
    go_ret
    exact ⟨rfl, rfl⟩
theorem zSmall (v : Int) (h0 : -1000000000000000000 < v) (h1 : v < 1000000000000000000) (w : World) :
    Calls Tryd.prog 38 #[.int .i64 v] w fun e w' => e = .returned (.agg #[.int .i64 v, .bool false, .slice none 0 0]) ∧ Below w.heap.size w w' := by
  go_enter Tryd.func38, Tryd.ntmps38
  go_wp2
  exact bodyPost_ret (v := .agg #[.int .i64 v, .bool false, .slice none 0 0]) (by simp [results, Tryd.results38, go_sem]) rfl ⟨rfl, by repeat (first | (with_reducible refine Below.setCell ?_ (by first | omega | (simp; try omega)) _) | (with_reducible refine Below.alloc ?_ (by first | omega | (simp; try omega)) _) | (with_reducible apply Below.drew) | (with_reducible apply below_drewN) | (with_reducible exact Below.refl _ _))⟩
theorem zZero (n : Int) (w : World) :
    Calls Tryd.prog 34 #[.agg #[.int .i64 n, .bool false, .slice none 0 0]] w fun e w' => e = .returned (.bool (decide (n = 0))) ∧ Below w.heap.size w w' := by
  go_enter Tryd.func34, Tryd.ntmps34
  go_wp2
  go_ret
  exact ⟨by first | rfl | (simp; rfl), by repeat (first | (with_reducible refine Below.setCell ?_ (by first | omega | (simp; try omega)) _) | (with_reducible refine Below.alloc ?_ (by first | omega | (simp; try omega)) _) | (with_reducible apply Below.drew) | (with_reducible apply below_drewN) | (with_reducible exact Below.refl _ _))⟩
set_option maxHeartbeats 1000000 in
theorem zMul (n m : Int) (n0 : -1000000000000000000 < n) (n1 : n < 1000000000000000000) (m0 : -1000000000000000000 < m) (m1 : m < 1000000000000000000)
    (p0 : -1000000000000000000 < n * m) (p1 : n * m < 1000000000000000000) (w : World) :
    Calls Tryd.prog 37 #[.agg #[.int .i64 n, .bool false, .slice none 0 0], .agg #[.int .i64 m, .bool false, .slice none 0 0]] w fun e w' => e = .returned (.agg #[.int .i64 (n * m), .bool false, .slice none 0 0]) ∧ Below w.heap.size w w' := by
  obtain ⟨x, hx⟩ : ∃ x, (if n < 0 then -n else n) = x := ⟨_, rfl⟩
  obtain ⟨y, hy⟩ : ∃ y, (if m < 0 then -m else m) = y := ⟨_, rfl⟩
  have x0 : 0 ≤ x := by rw [← hx]; split <;> omega
  have y0 : 0 ≤ y := by rw [← hy]; split <;> omega
  have xx : x = n ∨ x = -n := by rw [← hx]; split <;> omega
  have yy : y = m ∨ y = -m := by rw [← hy]; split <;> omega
  have xy : x * y ≤ 999999999999999999 := by
    rcases xx with rfl | rfl <;> rcases yy with rfl | rfl <;> first | omega | (simp only [Int.neg_mul, Int.mul_neg, Int.neg_neg]; omega)
  by_cases k : x = 0
  · go_enter Tryd.func37, Tryd.ntmps37
    go_wp2_with (first | (go_at_call 61; refine (zIsSmall _ _).mono ?_; rintro e w' ⟨rfl, rfl⟩) | (go_at_call 62; refine (zAbs _ (by omega) (by omega) _).mono ?_; rintro e w' ⟨rfl, rfl⟩))
    exact bodyPost_ret (v := .agg #[.int .i64 (n * m), .bool false, .slice none 0 0]) (by simp [results, Tryd.results37, go_sem]) rfl ⟨rfl, by repeat (first | (with_reducible refine Below.setCell ?_ (by first | omega | (simp; try omega)) _) | (with_reducible refine Below.alloc ?_ (by first | omega | (simp; try omega)) _) | (with_reducible apply Below.drew) | (with_reducible apply below_drewN) | (with_reducible exact Below.refl _ _))⟩
  · have hq : y ≤ 999999999999999999 / x := by rw [Int.le_ediv_iff_mul_le (by omega)]; rw [Int.mul_comm]; exact xy
    go_enter Tryd.func37, Tryd.ntmps37
    go_wp2_with (first | (go_at_call 61; refine (zIsSmall _ _).mono ?_; rintro e w' ⟨rfl, rfl⟩) | (go_at_call 62; refine (zAbs _ (by omega) (by omega) _).mono ?_; rintro e w' ⟨rfl, rfl⟩))
    exact bodyPost_ret (v := .agg #[.int .i64 (n * m), .bool false, .slice none 0 0]) (by simp [results, Tryd.results37, go_sem]) rfl ⟨rfl, by repeat (first | (with_reducible refine Below.setCell ?_ (by first | omega | (simp; try omega)) _) | (with_reducible refine Below.alloc ?_ (by first | omega | (simp; try omega)) _) | (with_reducible apply Below.drew) | (with_reducible apply below_drewN) | (with_reducible exact Below.refl _ _))⟩
set_option maxHeartbeats 1000000 in
theorem zAdd (n m : Int)
    (p0 : -1000000000000000000 < n + m) (p1 : n + m < 1000000000000000000) (w : World) :
    Calls Tryd.prog 41 #[.agg #[.int .i64 n, .bool false, .slice none 0 0], .agg #[.int .i64 m, .bool false, .slice none 0 0]] w fun e w' => e = .returned (.agg #[.int .i64 (n + m), .bool false, .slice none 0 0]) ∧ Below w.heap.size w w' := by
  go_enter Tryd.func41, Tryd.ntmps41
  go_wp2_with (first | (go_at_call 61; refine (zIsSmall _ _).mono ?_; rintro e w' ⟨rfl, rfl⟩) | (go_at_call 38; refine (zSmall _ (by omega) (by omega) _).mono ?_; rintro e w' ⟨rfl, hb⟩; obtain ⟨hc, hf⟩ := bcell hb; have hz := hb.size; simp at hz))
  exact bodyPost_ret (v := .agg #[.int .i64 (n + m), .bool false, .slice none 0 0]) (by simp [results, Tryd.results41, go_sem, hc]) rfl ⟨rfl, by repeat (first | (with_reducible refine Below.setCell ?_ (by first | omega | (simp; try omega)) _) | (with_reducible refine Below.alloc ?_ (by first | omega | (simp; try omega)) _) | (with_reducible apply Below.drew) | (with_reducible apply below_drewN) | (with_reducible exact Below.refl _ _) | (with_reducible refine Below.trans ?_ (hb.mono (by first | omega | (simp; try omega)))))⟩
set_option maxHeartbeats 1000000 in
theorem zCmp (n m : Int) (w : World) :
    Calls Tryd.prog 42 #[.agg #[.int .i64 n, .bool false, .slice none 0 0], .agg #[.int .i64 m, .bool false, .slice none 0 0]] w fun e w' => e = .returned (.int .i64 (cmpZ n m)) ∧ Below w.heap.size w w' := by
  by_cases k : n < m
  · rw [show cmpZ n m = -1 by unfold cmpZ; rw [if_pos k]]
    go_enter Tryd.func42, Tryd.ntmps42
    go_wp2_with (go_at_call 61; refine (zIsSmall _ _).mono ?_; rintro e w' ⟨rfl, rfl⟩)
    go_ret
    exact ⟨rfl, by repeat (first | (with_reducible refine Below.setCell ?_ (by first | omega | (simp; try omega)) _) | (with_reducible refine Below.alloc ?_ (by first | omega | (simp; try omega)) _) | (with_reducible apply Below.drew) | (with_reducible apply below_drewN) | (with_reducible exact Below.refl _ _))⟩
  by_cases k2 : m < n
  · rw [show cmpZ n m = 1 by unfold cmpZ; rw [if_neg k, if_pos k2]]
    go_enter Tryd.func42, Tryd.ntmps42
    go_wp2_with (go_at_call 61; refine (zIsSmall _ _).mono ?_; rintro e w' ⟨rfl, rfl⟩)
    go_ret
    exact ⟨rfl, by repeat (first | (with_reducible refine Below.setCell ?_ (by first | omega | (simp; try omega)) _) | (with_reducible refine Below.alloc ?_ (by first | omega | (simp; try omega)) _) | (with_reducible apply Below.drew) | (with_reducible apply below_drewN) | (with_reducible exact Below.refl _ _))⟩
  · rw [show cmpZ n m = 0 by unfold cmpZ; rw [if_neg k, if_neg k2]]
    go_enter Tryd.func42, Tryd.ntmps42
    go_wp2_with (go_at_call 61; refine (zIsSmall _ _).mono ?_; rintro e w' ⟨rfl, rfl⟩)
    go_ret
    exact ⟨rfl, by repeat (first | (with_reducible refine Below.setCell ?_ (by first | omega | (simp; try omega)) _) | (with_reducible refine Below.alloc ?_ (by first | omega | (simp; try omega)) _) | (with_reducible apply Below.drew) | (with_reducible apply below_drewN) | (with_reducible exact Below.refl _ _))⟩
theorem zSign (n : Int) (w : World) :
    Calls Tryd.prog 58 #[.agg #[.int .i64 n, .bool false, .slice none 0 0]] w fun e w' => e = .returned (.int .i64 (cmpZ n 0)) ∧ Below w.heap.size w w' := by
  go_enter Tryd.func58, Tryd.ntmps58
  go_wp2_with (go_at_call 42; refine (zCmp _ _ _).mono ?_; rintro e w' ⟨rfl, hb⟩; have hz := hb.size; simp at hz)
  go_ret
  exact ⟨rfl, ((Below.refl _ _).alloc (Nat.le_refl _) _).trans (hb.mono (by simp))⟩
set_option maxHeartbeats 1000000 in
theorem zDiv (a b : Int) (a0 : 0 ≤ a) (a1 : a < 1000000000000000000) (b0 : 0 < b) (b1 : b < 1000000000000000000) (w : World) :
    Calls Tryd.prog 66 #[.agg #[.int .i64 a, .bool false, .slice none 0 0], .agg #[.int .i64 b, .bool false, .slice none 0 0]] w fun e w' =>
      e = .returned (.tuple #[.agg #[.int .i64 (a / b), .bool false, .slice none 0 0], .agg #[.int .i64 (a % b), .bool false, .slice none 0 0]]) ∧ Below w.heap.size w w' := by
  have r0 := Int.emod_nonneg a (Int.ne_of_gt b0)
  have q0 : 0 ≤ a / b := Int.ediv_nonneg a0 (by omega)
  have q1 : a / b ≤ a := Int.ediv_le_self _ a0
  have r1 : a % b ≤ a := by have := Int.emod_lt_of_pos a b0; have := Int.ediv_mul_add_emod a b; have : 0 ≤ a / b * b := Int.mul_nonneg q0 (by omega); omega
  go_enter Tryd.func66, Tryd.ntmps66
  go_wp2_with (go_at_call 61; refine (zIsSmall _ _).mono ?_; rintro e w' ⟨rfl, rfl⟩)
  exact bodyPost_ret (v := .tuple #[.agg #[.int .i64 (a / b), .bool false, .slice none 0 0], .agg #[.int .i64 (a % b), .bool false, .slice none 0 0]]) (by simp [results, Tryd.results66, go_sem]) rfl ⟨rfl, by repeat (first | (with_reducible refine Below.setCell ?_ (by first | omega | (simp; try omega)) _) | (with_reducible refine Below.alloc ?_ (by first | omega | (simp; try omega)) _) | (with_reducible apply Below.drew) | (with_reducible apply below_drewN) | (with_reducible exact Below.refl _ _))⟩
end Go.Proofs.YtoloenkcfpfgcaaDoor
