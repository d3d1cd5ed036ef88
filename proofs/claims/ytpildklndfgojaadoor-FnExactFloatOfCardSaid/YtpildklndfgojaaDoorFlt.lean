/- A float's value: what the model makes of its digits, and what the program divides. -/
import Derived.Test.YtpildklndfgojaaDoorNumH
import Derived.Test.YtpildklndfgojaaDoorQuot
import Derived.Deep.RegionHeld3
namespace Go.Proofs.YtpildklndfgojaaDoor.Tk
open Go.ChangeShapes Go.WideShapes Go.ChangeAt Go.RowKit
set_option linter.unusedVariables false
/-- The quotient of two whole numbers, rounded by the program and by the model. -/
theorem flt_both (s t : Nat) (s0 : 0 < s) (s1 : s < 1000000000000000000) (t0 : 0 < t) (t1 : t ≤ 1000000000) : ∃ (R z E : Int) (mo : Bool), 0 ≤ R ∧ R < 4294967296 ∧
    (∀ v : World, Calls Tryd.prog 52 #[.agg #[.bool false, .int .u64 (s : Int), .int .i64 0, .bool false], .agg #[.bool false, .int .u64 (t : Int), .int .i64 0, .bool false]] v fun e w' => e = .returned (.agg #[.bool false, .int .u64 z, .int .i64 E, .bool mo]) ∧ Below v.heap.size v w') ∧
    (∀ v : World, Forms v → Calls Tryd.prog 51 #[.agg #[.bool false, .int .u64 z, .int .i64 E, .bool mo], .int .i64 0, .int .i64 0] v fun e w' => e = .returned (.int .u32 R) ∧ Below v.heap.size v w') ∧
    (∀ v : World, Calls Tryd.prog 35 #[.agg #[.int .i64 (s : Int), .bool false, .slice none 0 0, .int .i64 (t : Int), .bool false, .slice none 0 0, .int .i64 0], .agg #[.int .i64 24, .int .i64 (-149), .int .i64 104], .int .i64 0] v fun e w' => e = .returned (.int .i64 R) ∧ Below v.heap.size v w') := by
  obtain ⟨L0, lb0, lb1⟩ := bitLen_spec s (by omega) (by omega)
  have l60 := Lib.bitLen_le s 60 (by decide) (by omega)
  obtain ⟨L, hL⟩ : ∃ L, Lib.bitLen s = L := ⟨_, rfl⟩
  rw [hL] at L0 lb0 lb1 l60
  obtain ⟨k, hk⟩ : ∃ k, L + k = 62 := ⟨62 - L, by omega⟩
  have Zlo : 2 ^ 61 ≤ s * 2 ^ k := by
    have h : 2 ^ (L - 1) * 2 ^ k ≤ s * 2 ^ k := Nat.mul_le_mul_right _ lb0
    rw [← Nat.pow_add, show L - 1 + k = 61 by omega] at h
    exact h
  have Zhi : s * 2 ^ k < 2 ^ 62 := by
    have h : s * 2 ^ k < 2 ^ L * 2 ^ k := Nat.mul_lt_mul_of_pos_right lb1 (p2 _)
    rw [← Nat.pow_add, hk] at h
    exact h
  obtain ⟨Z, hZ⟩ : ∃ Z, s * 2 ^ k = Z := ⟨_, rfl⟩
  rw [hZ] at Zlo Zhi
  obtain ⟨z, hz⟩ : ∃ z, Z / t = z := ⟨_, rfl⟩
  have zlo : 2 ^ 30 ≤ z := by
    rw [← hz, Nat.le_div_iff_mul_le (by omega)]
    omega
  have zhi : z < 18446744073709551616 := by rw [← hz]; exact Nat.lt_of_le_of_lt (Nat.div_le_self _ _) (by omega)
  obtain ⟨mo, hmo⟩ : ∃ mo, decide (Z % t ≠ 0) = mo := ⟨_, rfl⟩
  obtain ⟨qz1, qz2⟩ := quot_z s t 0 k (by omega)
  rw [hZ] at qz1 qz2
  obtain ⟨R, r0, r1, hi, hsp⟩ := both_w false z (0 - (k : Int)) mo 0 (by decide) (by decide) (by omega) zhi (by omega) (by omega) (s : Int) (t : Int) 0 (by omega) (by decide) (by decide) (s * 2 ^ (0 : Int).toNat) (t * 2 ^ (-(0 : Int)).toNat) s t (by omega) rfl rfl rfl (by omega) (big_lt s _ (by omega) (by decide)) (big_lt t _ (by omega) (by decide)) (by simp) (by rw [qz1, hz]) (by
    rw [← hmo]
    have : (Z % t ≠ 0) ↔ (sa (s * 2 ^ (0 : Int).toNat) (0 - (k : Int)) % sb (t * 2 ^ (-(0 : Int)).toNat) (0 - (k : Int)) ≠ 0) := by rw [Ne, Ne, qz2]
    simp only [this]) (fun _ => zlo)
  refine ⟨R, (z : Int), 0 - (k : Int), mo, r0, r1, fun v => ?_, hi, fun v => hsp v 3 3 (s : Int) (t : Int) false false none none 0 0 0 0 (num_small v 3 (s : Int) (by omega) (by omega)) (num_small v 3 (t : Int) (by omega) (by omega)) (by decide) (by decide)⟩
  have := quot52 false false v (s : Int) (t : Int) 0 0 (k : Int) (Z : Int) (L : Int) (z : Int) (0 - (k : Int)) mo (by omega) (by omega) (by omega) (by omega) (by decide) (by decide) (by decide) (by decide) (by rw [show ((s : Nat) : Int).toNat = s by omega, hL]) (by omega) (by omega) (by omega) (by omega) (by omega) (by rw [show ((k : Nat) : Int).toNat = k by omega, ← hZ]; exact (cast_pow s k).symm) (by omega) (by omega) (by rw [← hz]; exact (Int.natCast_ediv _ _).symm) (by rw [← hmo, ← Int.natCast_emod, Bool.eq_iff_iff]; simp; omega) (by omega)
  exact this
theorem mul115 (X Y : Int) (x0 : -1000000000000000000 < X) (x1 : X < 1000000000000000000) (y0 : -1000000000000000000 < Y) (y1 : Y < 1000000000000000000) (p0 : -1000000000000000000 < X * Y) (p1 : X * Y < 1000000000000000000) (w : World) :
    Calls Tryd.prog 115 #[.agg #[.int .i64 X, .bool false, .slice none 0 0], .agg #[.int .i64 Y, .bool false, .slice none 0 0]] w fun e w' => e = .returned (.agg #[.int .i64 (X * Y), .bool false, .slice none 0 0]) ∧ Below w.heap.size w w' :=
  (num_mul_any (num_small w 2 X x0 x1) (num_small w 2 Y y0 y1) (by decide) (by decide) (by decide)).mono fun e w' ⟨v, h1, h2, h3⟩ => ⟨by rw [h1, h2.small p0 p1]; rfl, h3⟩
theorem add114 (X Y : Int) (x0 : -1000000000000000000 < X) (x1 : X < 1000000000000000000) (y0 : -1000000000000000000 < Y) (y1 : Y < 1000000000000000000) (p0 : -1000000000000000000 < X + Y) (p1 : X + Y < 1000000000000000000) (w : World) :
    Calls Tryd.prog 114 #[.agg #[.int .i64 X, .bool false, .slice none 0 0], .agg #[.int .i64 Y, .bool false, .slice none 0 0]] w fun e w' => e = .returned (.agg #[.int .i64 (X + Y), .bool false, .slice none 0 0]) ∧ Below w.heap.size w w' :=
  (num_add (num_small w 2 X x0 x1) (num_small w 2 Y y0 y1) (by decide) (by decide) (by decide)).mono fun e w' ⟨v, h1, h2, h3⟩ => ⟨by rw [h1, h2.small p0 p1]; rfl, h3⟩
theorem zero116 (X : Int) (x0 : -1000000000000000000 < X) (x1 : X < 1000000000000000000) (w : World) :
    Calls Tryd.prog 116 #[.agg #[.int .i64 X, .bool false, .slice none 0 0]] w fun e w' => e = .returned (.bool (decide (X = 0))) ∧ Below w.heap.size w w' :=
  num_zero (num_small w 2 X x0 x1)
end Go.Proofs.YtpildklndfgojaaDoor.Tk
