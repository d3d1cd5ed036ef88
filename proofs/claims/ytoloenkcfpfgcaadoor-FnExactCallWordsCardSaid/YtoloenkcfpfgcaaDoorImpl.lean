/- Contracts of the program's small functions on floats of 32 bits: what each returns, as plain whole numbers, wherever the table of forms holds its numbers. -/
import Derived.Test.YtoloenkcfpfgcaaDoorBase
import Derived.Deep.RegionHeld3
namespace Go.Proofs.YtoloenkcfpfgcaaDoor
open Go.ChangeShapes Go.WideShapes Go.ChangeAt Go.RowKit

theorem bit_sign (a : Int) (h0 : 0 ≤ a) (h1 : a < 4294967296) : bits .and .u32 a 2147483648 = a / 2147483648 * 2147483648 := by go_bits2
theorem bit_rung (a : Int) (h0 : 0 ≤ a) (h1 : a < 4294967296) : bits .andNot .u32 a 2147483648 = a % 2147483648 := by go_bits2

theorem goodMode_any (m : Int) (w : World) : Calls Tryd.prog 48 #[.int .i64 m] w fun e w' => e = .returned (.bool (decide (0 ≤ m ∧ m ≤ 4))) ∧ w' = w := by
  by_cases h1 : (0 : Int) ≤ m
  · by_cases h2 : m ≤ 4
    · go_enter Tryd.func48, Tryd.ntmps48
      go_wp2
      go_ret
      exact ⟨by simp [h1, h2], rfl⟩
    · go_enter Tryd.func48, Tryd.ntmps48
      go_wp2
      go_ret
      exact ⟨by simp; omega, rfl⟩
  · go_enter Tryd.func48, Tryd.ntmps48
    go_wp2
    go_ret
    exact ⟨by simp; omega, rfl⟩

theorem signOf_w (a : Int) (h0 : 0 ≤ a) (h1 : a < 4294967296) (w : World) (c2 : w.cell? ⟨1, 2, none⟩ = some (.int .u32 2147483648)) :
    Calls Tryd.prog 50 #[.int .u32 a, .int .i64 0] w fun e w' => e = .returned (.int .u32 (a / 2147483648 * 2147483648)) ∧ w' = w := by
  have hb := bit_sign a h0 h1
  go_enter Tryd.func50, Tryd.ntmps50
  go_wp2
  go_ret
  exact ⟨rfl, rfl⟩

theorem infiniteOf_w (w : World) (G : Forms w) :
    Calls Tryd.prog 54 #[.int .i64 0] w fun e w' => e = .returned (.int .u32 2139095040) ∧ w' = w := by
  have c3 := G.c3
  go_enter Tryd.func54, Tryd.ntmps54
  go_wp2
  go_ret
  exact ⟨rfl, rfl⟩

/-- What kind of float a rung is: 0 nought, 1 number, 2 infinite, 3 no number. -/
def kindI (r : Int) : Int := if r = 0 then 0 else if r ≤ 2139095039 then 1 else if r = 2139095040 then 2 else 3

theorem kindOf_w (a : Int) (h0 : 0 ≤ a) (h1 : a < 4294967296) (w : World) (G : Forms w) :
    Calls Tryd.prog 46 #[.int .u32 a, .int .i64 0] w fun e w' => e = .returned (.int .i64 (kindI (a % 2147483648))) ∧ w' = w := by
  have hb := bit_rung a h0 h1
  have c2 := G.c2
  have c3 := G.c3
  by_cases k0 : a % 2147483648 = 0
  · go_enter Tryd.func46, Tryd.ntmps46
    go_wp2
    go_ret
    exact ⟨by rw [show kindI (a % 2147483648) = 0 by unfold kindI; rw [if_pos k0]]; rfl, rfl⟩
  by_cases k1 : a % 2147483648 ≤ 2139095039
  · go_enter Tryd.func46, Tryd.ntmps46
    go_wp2
    go_ret
    exact ⟨by rw [show kindI (a % 2147483648) = 1 by unfold kindI; rw [if_neg k0, if_pos k1]]; rfl, rfl⟩
  by_cases k2 : a % 2147483648 = 2139095040
  · have hk : kindI (a % 2147483648) = 2 := by unfold kindI; rw [if_neg k0, if_neg k1, if_pos k2]
    rw [hk]
    go_enter Tryd.func46, Tryd.ntmps46
    go_wp2_with (go_at_call 54; refine (infiniteOf_w _ G).mono ?_; rintro e w' ⟨rfl, rfl⟩)
    go_ret
    exact ⟨rfl, rfl⟩
  · have hk : kindI (a % 2147483648) = 3 := by unfold kindI; rw [if_neg k0, if_neg k1, if_neg k2]
    rw [hk]
    go_enter Tryd.func46, Tryd.ntmps46
    go_wp2_with (go_at_call 54; refine (infiniteOf_w _ G).mono ?_; rintro e w' ⟨rfl, rfl⟩)
    go_ret
    exact ⟨rfl, rfl⟩
/-- The size and the power of a rung that is no NaN. -/
def exS (r : Int) : Int := if 8388608 ≤ r then r % 8388608 + 8388608 else r
def exP (r : Int) : Int := if 8388608 ≤ r then -149 + (r / 8388608 - 1) else -149
set_option maxHeartbeats 1000000 in
theorem exactOf_w (a : Int) (h0 : 0 ≤ a) (h1 : a < 4294967296) (w : World) (G : Forms w) :
    Calls Tryd.prog 53 #[.int .u32 a, .int .i64 0] w fun e w' =>
      e = .returned (.agg #[.bool (decide (2147483648 ≤ a)), .int .u64 (exS (a % 2147483648)), .int .i64 (exP (a % 2147483648)), .bool false]) ∧ Below w.heap.size w w' := by
  have hb := bit_rung a h0 h1
  have c0 := G.c0
  have c1 := G.c1
  have c2 := G.c2
  have hp := G.pos
  have hz : ¬ (0 = w.heap.size) := by omega
  have n1 := World.new_ne w _ c1
  have n2 := World.new_ne w _ c2
  have hn : (a / 2147483648 * 2147483648 != 0) = decide (2147483648 ≤ a) := by rw [Bool.eq_iff_iff]; simp; omega
  by_cases k : 8388608 ≤ a % 2147483648
  · have hs : exS (a % 2147483648) = a % 8388608 + 8388608 := by unfold exS; rw [if_pos k]; omega
    have he : exP (a % 2147483648) = -149 + (a % 2147483648 / 8388608 - 1) := by unfold exP; rw [if_pos k]
    go_enter Tryd.func53, Tryd.ntmps53
    go_wp2
    go_region_held3 (fun w' => w'.cell? ⟨1, 1, none⟩ = some (.int .i64 (-149)) ∧ w'.cell? ⟨1, 2, none⟩ = some (.int .u32 2147483648)) (go_keep)
      (first | (go_at_call 50; refine (signOf_w _ h0 h1 _ ?_).mono ?_; (simp [*]); rintro e w' ⟨rfl, rfl⟩))
    all_goals go_wp2
    all_goals go_region
    all_goals go_wp2
    all_goals exact bodyPost_ret (v := .agg #[.bool (decide (2147483648 ≤ a)), .int .u64 (exS (a % 2147483648)), .int .i64 (exP (a % 2147483648)), .bool false]) (by simp [results, Tryd.results53, go_sem, hs, he]) rfl ⟨rfl, by repeat (first | exact Below.refl _ _ | apply Below.drew | (refine Below.setCell ?_ (by simp) _) | (refine Below.alloc ?_ (by simp) _))⟩
  · have hs : exS (a % 2147483648) = a % 2147483648 := by unfold exS; rw [if_neg k]
    have he : exP (a % 2147483648) = -149 := by unfold exP; rw [if_neg k]
    go_enter Tryd.func53, Tryd.ntmps53
    go_wp2
    go_region_held3 (fun w' => w'.cell? ⟨1, 1, none⟩ = some (.int .i64 (-149)) ∧ w'.cell? ⟨1, 2, none⟩ = some (.int .u32 2147483648)) (go_keep)
      (first | (go_at_call 50; refine (signOf_w _ h0 h1 _ ?_).mono ?_; (simp [*]); rintro e w' ⟨rfl, rfl⟩))
    all_goals go_wp2
    all_goals exact bodyPost_ret (v := .agg #[.bool (decide (2147483648 ≤ a)), .int .u64 (exS (a % 2147483648)), .int .i64 (exP (a % 2147483648)), .bool false]) (by simp [results, Tryd.results53, go_sem, hs, he]) rfl ⟨rfl, by repeat (first | exact Below.refl _ _ | apply Below.drew | (refine Below.setCell ?_ (by simp) _) | (refine Below.alloc ?_ (by simp) _))⟩
end Go.Proofs.YtoloenkcfpfgcaaDoor
