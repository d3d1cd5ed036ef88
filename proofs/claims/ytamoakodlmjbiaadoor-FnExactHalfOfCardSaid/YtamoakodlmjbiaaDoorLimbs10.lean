/- What numbers stand for: those that hold a row of limbs, and plain ones of one or two limbs, 0 left out. -/
import Derived.Test.YtamoakodlmjbiaaDoorLimbs9
namespace Go.Proofs.YtamoakodlmjbiaaDoor
open Go.ChangeShapes Go.WideShapes Go.ChangeAt Go.RowKit

theorem rep_great (neg : Bool) (b t cb : Nat) (f : Nat → Nat) (w : World) (ht : 0 < t) (t1 : t ≤ 100000) (hf : Limbs w b t f) (hb : b < w.heap.size) (f9 : ∀ i, f i < 1000000000) :
    Rep w (.agg #[.int .i64 0, .bool neg, .slice (some ⟨b, 0, none⟩) t cb]) false neg t f where
  sm := fun w' _ => gIsSmall neg b t cb ht w'
  lm := fun w' h => (gLimbs neg b t cb ht (by omega) w').mono fun e w'' => by
    rintro ⟨rfl, h2⟩
    have z1 := h.size
    have z2 := h2.size
    exact ⟨b, cb, rfl, fun i hi => (h2.cell (p := ⟨b, i, none⟩) (by show b < _; omega)).trans ((h.cell (p := ⟨b, i, none⟩) hb).trans (hf i hi)), by omega, h2⟩
  ng := fun w' _ => gNeg neg b t cb ht w'
  lt := f9
  len := t1
/-- The limbs of a plain number. -/
def limb2 (v i : Nat) : Nat := if i = 0 then v % 1000000000 else if i = 1 then v / 1000000000 else 0
theorem limb2_lt (v : Nat) (h : v < 1000000000000000000) (i : Nat) : limb2 v i < 1000000000 := by unfold limb2; split <;> (try split) <;> omega
theorem rep_one (n : Int) (v : Nat) (hv : (v : Int) = n ∨ (v : Int) = -n) (v0 : 0 < v) (v1 : v < 1000000000) (w : World) :
    Rep w (.agg #[.int .i64 n, .bool false, .slice none 0 0]) true (decide (n < 0)) 1 (limb2 v) where
  sm := fun w' _ => (zIsSmall n w').mono fun e w'' => by rintro ⟨rfl, rfl⟩; exact ⟨rfl, (Below.refl _ _).alloc (Nat.le_refl _) _⟩
  lm := fun w' _ => (zLimbs1 n v hv (by omega) (by omega) w').mono fun e w'' => by
    rintro ⟨b, rfl, hc, hs, h2⟩
    refine ⟨b, _, rfl, fun i hi => ?_, hs, h2⟩
    obtain rfl : i = 0 := by omega
    rw [hc]
    have e : limb2 v 0 = v := by unfold limb2; simp; omega
    rw [e]
  ng := fun w' _ => zNeg n w'
  lt := limb2_lt v (by omega)
  len := by decide
theorem rep_two (n : Int) (v : Nat) (hv : (v : Int) = n ∨ (v : Int) = -n) (v0 : 1000000000 ≤ v) (v1 : v < 1000000000000000000) (w : World) :
    Rep w (.agg #[.int .i64 n, .bool false, .slice none 0 0]) true (decide (n < 0)) 2 (limb2 v) where
  sm := fun w' _ => (zIsSmall n w').mono fun e w'' => by rintro ⟨rfl, rfl⟩; exact ⟨rfl, (Below.refl _ _).alloc (Nat.le_refl _) _⟩
  lm := fun w' _ => (zLimbs2 n v hv (by omega) (by omega) w').mono fun e w'' => by
    rintro ⟨b, rfl, hc0, hc1, hs, h2⟩
    refine ⟨b, _, rfl, fun i hi => ?_, hs, h2⟩
    rcases (by omega : i = 0 ∨ i = 1) with rfl | rfl
    · rw [hc0]; rfl
    · rw [hc1]; rfl
  ng := fun w' _ => zNeg n w'
  lt := limb2_lt v v1
  len := by decide
theorem val_one (v : Nat) (h : v < 1000000000) : val (limb2 v) 1 = v := by simp [val, limb2]; omega
theorem val_two (v : Nat) : val (limb2 v) 2 = v := by simp [val, limb2]; omega
end Go.Proofs.YtamoakodlmjbiaaDoor
