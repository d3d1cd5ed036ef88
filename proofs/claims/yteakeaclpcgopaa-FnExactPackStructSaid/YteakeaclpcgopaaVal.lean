/- A word out of its bytes, the lowest first: the program's numberOfBytes; conditions: bytes. -/
import Derived.Test.YteakeaclpcgopaaByt
import Derived.Laws.BitsAll
namespace Go.Proofs.Yteakeaclpcgopaa
open Go.ChangeShapes Go.WideShapes Go.ChangeAt Go.RowKit
set_option linter.unusedVariables false
theorem or_low (k : Nat) (x y : Int) (x0 : 0 ≤ x) (x1 : x < 2 ^ k) (y0 : 0 ≤ y) (h : x + y * 2 ^ k < 4294967296) : bits .or .u32 x (y * 2 ^ k) = x + y * 2 ^ k := by
  obtain ⟨a, rfl⟩ := Int.eq_ofNat_of_zero_le x0
  obtain ⟨b, rfl⟩ := Int.eq_ofNat_of_zero_le y0
  have e : ((b : Int) * 2 ^ k) = ((b * 2 ^ k : Nat) : Int) := by push_cast; rfl
  have x1' : a < 2 ^ k := by exact_mod_cast x1
  rw [e] at h ⊢
  have hb : b * 2 ^ k < 4294967296 := by omega
  rw [u32_or_nat a (b * 2 ^ k) (by omega) hb, Nat.or_comm, Nat.mul_comm, ← Nat.two_pow_add_eq_or_of_lt x1' b, Nat.add_comm]
  push_cast
  rfl
theorem or_high (k : Nat) (x y : Int) (x0 : 0 ≤ x) (x1 : x < 2 ^ k) (y0 : 0 ≤ y) (h : x + y * 2 ^ k < 4294967296) : bits .or .u32 (y * 2 ^ k) x = y * 2 ^ k + x := by
  obtain ⟨a, rfl⟩ := Int.eq_ofNat_of_zero_le x0
  obtain ⟨b, rfl⟩ := Int.eq_ofNat_of_zero_le y0
  have e : ((b : Int) * 2 ^ k) = ((b * 2 ^ k : Nat) : Int) := by push_cast; rfl
  have x1' : a < 2 ^ k := by exact_mod_cast x1
  rw [e] at h ⊢
  have hb : b * 2 ^ k < 4294967296 := by omega
  rw [u32_or_nat (b * 2 ^ k) a hb (by omega), Nat.mul_comm, ← Nat.two_pow_add_eq_or_of_lt x1' b]
  push_cast
  rfl
theorem or_zero (x : Int) (x0 : 0 ≤ x) (x1 : x < 4294967296) : bits .or .u32 0 x = x := by
  have h := or_low 0 0 x (by omega) (by decide) x0 (by omega)
  simpa using h
/-- The word of two or four bytes. -/
def word2 (d0 d1 : Int) : Int := d0 + d1 * 256
def word4 (d0 d1 d2 d3 : Int) : Int := d0 + d1 * 256 + d2 * 65536 + d3 * 16777216
set_option maxRecDepth 100000 in
set_option maxHeartbeats 4000000 in
theorem num73two (p off cap : Nat) (d0 d1 : Int) (w : World) (c0 : w.cell? ⟨p, off, none⟩ = some (.int .u8 d0)) (c1 : w.cell? ⟨p, off + 1, none⟩ = some (.int .u8 d1)) (h0 : 0 ≤ d0 ∧ d0 < 256) (h1 : 0 ≤ d1 ∧ d1 < 256) : Calls Try.prog 73 #[.slice (some ⟨p, off, none⟩) 2 cap] w fun e w' => e = .returned (.int .u32 (word2 d0 d1)) ∧ w' = w := by
  have e : Hid (bits .or .u32 (bits .or .u32 0 d0) (d1 * 256) = word2 d0 d1) := by
    show _ = _
    rw [or_zero d0 h0.1 (by omega)]
    exact or_low 8 d0 d1 h0.1 h0.2 h1.1 (by omega)
  go_enter Try.func73, Try.ntmps73
  go_wp2
  refine wp_loop_rounds 3 ?_
  rw [rounds_succ]
  go_wp2
  rw [rounds_succ]
  go_wp2
  rw [rounds_succ]
  go_wp2
  go_ret
  exact ⟨by show Ending.returned (.int .u32 (bits .or .u32 (bits .or .u32 0 d0) (d1 * 256))) = _; rw [e.out], rfl⟩
set_option maxRecDepth 100000 in
set_option maxHeartbeats 4000000 in
theorem num73four (p off cap : Nat) (d0 d1 d2 d3 : Int) (w : World) (c0 : w.cell? ⟨p, off, none⟩ = some (.int .u8 d0)) (c1 : w.cell? ⟨p, off + 1, none⟩ = some (.int .u8 d1)) (c2 : w.cell? ⟨p, off + 2, none⟩ = some (.int .u8 d2)) (c3 : w.cell? ⟨p, off + 3, none⟩ = some (.int .u8 d3)) (h0 : 0 ≤ d0 ∧ d0 < 256) (h1 : 0 ≤ d1 ∧ d1 < 256) (h2 : 0 ≤ d2 ∧ d2 < 256) (h3 : 0 ≤ d3 ∧ d3 < 256) : Calls Try.prog 73 #[.slice (some ⟨p, off, none⟩) 4 cap] w fun e w' => e = .returned (.int .u32 (word4 d0 d1 d2 d3)) ∧ w' = w := by
  have e : Hid (bits .or .u32 (bits .or .u32 (bits .or .u32 (bits .or .u32 0 d0) (d1 * 256)) (d2 * 65536)) (d3 * 16777216) = word4 d0 d1 d2 d3) := by
    show _ = _
    rw [or_zero d0 h0.1 (by omega)]
    have e1 : bits .or .u32 d0 (d1 * 256) = d0 + d1 * 256 := or_low 8 d0 d1 h0.1 h0.2 h1.1 (by omega)
    have e2 : bits .or .u32 (d0 + d1 * 256) (d2 * 65536) = d0 + d1 * 256 + d2 * 65536 := or_low 16 (d0 + d1 * 256) d2 (by omega) (by omega) h2.1 (by omega)
    have e3 : bits .or .u32 (d0 + d1 * 256 + d2 * 65536) (d3 * 16777216) = d0 + d1 * 256 + d2 * 65536 + d3 * 16777216 := or_low 24 (d0 + d1 * 256 + d2 * 65536) d3 (by omega) (by omega) h3.1 (by omega)
    rw [e1, e2, e3]
    rfl
  go_enter Try.func73, Try.ntmps73
  go_wp2
  refine wp_loop_rounds 5 ?_
  rw [rounds_succ]
  go_wp2
  rw [rounds_succ]
  go_wp2
  rw [rounds_succ]
  go_wp2
  rw [rounds_succ]
  go_wp2
  rw [rounds_succ]
  go_wp2
  go_ret
  exact ⟨by show Ending.returned (.int .u32 (bits .or .u32 (bits .or .u32 (bits .or .u32 (bits .or .u32 0 d0) (d1 * 256)) (d2 * 65536)) (d3 * 16777216))) = _; rw [e.out], rfl⟩
/-- The word at a place of a row of bytes. -/
def wordAt (D : Nat → Int) (W : Int) (p : Nat) : Int := if W = 2 then word2 (D p) (D (p + 1)) else word4 (D p) (D (p + 1)) (D (p + 2)) (D (p + 3))
theorem num73 (o off W cap : Nat) (D : Nat → Int) (w : World) (hW : W = 2 ∨ W = 4) (hc : ∀ i, i < W → w.cell? ⟨o, off + i, none⟩ = some (.int .u8 (D (off + i)))) (hD : ∀ i, 0 ≤ D i ∧ D i < 256) : Calls Try.prog 73 #[.slice (some ⟨o, off, none⟩) W cap] w fun e w' => e = .returned (.int .u32 (wordAt D (W : Int) off)) ∧ w' = w := by
  rcases hW with rfl | rfl
  · exact num73two o off cap _ _ w (hc 0 (by omega)) (hc 1 (by omega)) (hD _) (hD _)
  · exact num73four o off cap _ _ _ _ w (hc 0 (by omega)) (hc 1 (by omega)) (hc 2 (by omega)) (hc 3 (by omega)) (hD _) (hD _) (hD _) (hD _)
theorem word_bounds (D : Nat → Int) (W : Int) (p : Nat) (hD : ∀ i, 0 ≤ D i ∧ D i < 256) : 0 ≤ wordAt D W p ∧ wordAt D W p < 4294967296 := by
  have a := hD p
  have b := hD (p + 1)
  have c := hD (p + 2)
  have d := hD (p + 3)
  unfold wordAt word2 word4
  split <;> omega
end Go.Proofs.Yteakeaclpcgopaa
