/- The program's reader of bytes: numberOfBytes, take, instr; conditions: bytes, the reader's block and the data stand in memory. -/
import Derived.Test.YtablacgmedkgjaaDoorDec
import Derived.Laws.BitsAll
namespace Go.Proofs.YtablacgmedkgjaaDoor
open Go.ChangeShapes Go.WideShapes Go.ChangeAt Go.RowKit
set_option linter.unusedVariables false
theorem or_low (k : Nat) (x y : Int) (x0 : 0 ≤ x) (x1 : x < 2 ^ k) (y0 : 0 ≤ y) (h : x + y * 2 ^ k < 4294967296) : bits .or .u32 x (y * 2 ^ k) = x + y * 2 ^ k := by
  obtain ⟨a, rfl⟩ := Int.eq_ofNat_of_zero_le x0
  obtain ⟨b, rfl⟩ := Int.eq_ofNat_of_zero_le y0
  have e : ((b : Int) * 2 ^ k) = ((b * 2 ^ k : Nat) : Int) := by push_cast; rfl
  have x1' : a < 2 ^ k := by exact_mod_cast x1
  rw [e] at h ⊢
  have hb : b * 2 ^ k < 4294967296 := by omega
  rw [u32_or_nat a (b * 2 ^ k) (by omega) hb, Nat.or_comm, Nat.mul_comm, ← Nat.two_pow_add_eq_or_of_lt x1' b, Nat.add_comm]
  push_cast
  rfl
theorem or_high (k : Nat) (x y : Int) (x0 : 0 ≤ x) (x1 : x < 2 ^ k) (y0 : 0 ≤ y) (h : x + y * 2 ^ k < 4294967296) : bits .or .u32 (y * 2 ^ k) x = y * 2 ^ k + x := by
  obtain ⟨a, rfl⟩ := Int.eq_ofNat_of_zero_le x0
  obtain ⟨b, rfl⟩ := Int.eq_ofNat_of_zero_le y0
  have e : ((b : Int) * 2 ^ k) = ((b * 2 ^ k : Nat) : Int) := by push_cast; rfl
  have x1' : a < 2 ^ k := by exact_mod_cast x1
  rw [e] at h ⊢
  have hb : b * 2 ^ k < 4294967296 := by omega
  rw [u32_or_nat (b * 2 ^ k) a hb (by omega), Nat.mul_comm, ← Nat.two_pow_add_eq_or_of_lt x1' b]
  push_cast
  rfl
theorem or_zero (x : Int) (x0 : 0 ≤ x) (x1 : x < 4294967296) : bits .or .u32 0 x = x := by
  have h := or_low 0 0 x (by omega) (by decide) x0 (by omega)
  simpa using h
/-- The word of two or four bytes. -/
def word2 (d0 d1 : Int) : Int := d0 + d1 * 256
def word4 (d0 d1 d2 d3 : Int) : Int := d0 + d1 * 256 + d2 * 65536 + d3 * 16777216
set_option maxRecDepth 100000 in
set_option maxHeartbeats 4000000 in
theorem num70two (p off cap : Nat) (d0 d1 : Int) (w : World) (c0 : w.cell? ⟨p, off, none⟩ = some (.int .u8 d0)) (c1 : w.cell? ⟨p, off + 1, none⟩ = some (.int .u8 d1)) (h0 : 0 ≤ d0 ∧ d0 < 256) (h1 : 0 ≤ d1 ∧ d1 < 256) : Calls Tryd.prog 77 #[.slice (some ⟨p, off, none⟩) 2 cap] w fun e w' => e = .returned (.int .u32 (word2 d0 d1)) ∧ w' = w := by
  have e : Hid (bits .or .u32 (bits .or .u32 0 d0) (d1 * 256) = word2 d0 d1) := by
    show _ = _
    rw [or_zero d0 h0.1 (by omega)]
    exact or_low 8 d0 d1 h0.1 h0.2 h1.1 (by omega)
  go_enter Tryd.func77, Tryd.ntmps77
  go_wp2
  refine wp_loop_rounds 3 ?_
  rw [rounds_succ]
  go_wp2
  rw [rounds_succ]
  go_wp2
  rw [rounds_succ]
  go_wp2
  go_ret
  exact ⟨by show Ending.returned (.int .u32 (bits .or .u32 (bits .or .u32 0 d0) (d1 * 256))) = _; rw [e.out], rfl⟩
set_option maxRecDepth 100000 in
set_option maxHeartbeats 4000000 in
theorem num70four (p off cap : Nat) (d0 d1 d2 d3 : Int) (w : World) (c0 : w.cell? ⟨p, off, none⟩ = some (.int .u8 d0)) (c1 : w.cell? ⟨p, off + 1, none⟩ = some (.int .u8 d1)) (c2 : w.cell? ⟨p, off + 2, none⟩ = some (.int .u8 d2)) (c3 : w.cell? ⟨p, off + 3, none⟩ = some (.int .u8 d3)) (h0 : 0 ≤ d0 ∧ d0 < 256) (h1 : 0 ≤ d1 ∧ d1 < 256) (h2 : 0 ≤ d2 ∧ d2 < 256) (h3 : 0 ≤ d3 ∧ d3 < 256) : Calls Tryd.prog 77 #[.slice (some ⟨p, off, none⟩) 4 cap] w fun e w' => e = .returned (.int .u32 (word4 d0 d1 d2 d3)) ∧ w' = w := by
  have e : Hid (bits .or .u32 (bits .or .u32 (bits .or .u32 (bits .or .u32 0 d0) (d1 * 256)) (d2 * 65536)) (d3 * 16777216) = word4 d0 d1 d2 d3) := by
    show _ = _
    rw [or_zero d0 h0.1 (by omega)]
    have e1 : bits .or .u32 d0 (d1 * 256) = d0 + d1 * 256 := or_low 8 d0 d1 h0.1 h0.2 h1.1 (by omega)
    have e2 : bits .or .u32 (d0 + d1 * 256) (d2 * 65536) = d0 + d1 * 256 + d2 * 65536 := or_low 16 (d0 + d1 * 256) d2 (by omega) (by omega) h2.1 (by omega)
    have e3 : bits .or .u32 (d0 + d1 * 256 + d2 * 65536) (d3 * 16777216) = d0 + d1 * 256 + d2 * 65536 + d3 * 16777216 := or_low 24 (d0 + d1 * 256 + d2 * 65536) d3 (by omega) (by omega) h3.1 (by omega)
    rw [e1, e2, e3]
    rfl
  go_enter Tryd.func77, Tryd.ntmps77
  go_wp2
  refine wp_loop_rounds 5 ?_
  rw [rounds_succ]
  go_wp2
  rw [rounds_succ]
  go_wp2
  rw [rounds_succ]
  go_wp2
  rw [rounds_succ]
  go_wp2
  rw [rounds_succ]
  go_wp2
  go_ret
  exact ⟨by show Ending.returned (.int .u32 (bits .or .u32 (bits .or .u32 (bits .or .u32 (bits .or .u32 0 d0) (d1 * 256)) (d2 * 65536)) (d3 * 16777216))) = _; rw [e.out], rfl⟩
set_option maxRecDepth 100000 in
set_option maxHeartbeats 2000000 in
theorem num70zero (a : Option Addr) (cap : Nat) (w : World) : Calls Tryd.prog 77 #[.slice a 0 cap] w fun e w' => e = .returned (.int .u32 0) ∧ w' = w := by
  go_enter Tryd.func77, Tryd.ntmps77
  go_wp2
  refine wp_loop_rounds 1 ?_
  rw [rounds_succ]
  go_wp2
  go_ret
  exact ⟨rfl, rfl⟩
set_option maxRecDepth 100000 in
set_option maxHeartbeats 4000000 in
theorem num70one (p off cap : Nat) (d0 : Int) (w : World) (c0 : w.cell? ⟨p, off, none⟩ = some (.int .u8 d0)) (h0 : 0 ≤ d0 ∧ d0 < 256) : Calls Tryd.prog 77 #[.slice (some ⟨p, off, none⟩) 1 cap] w fun e w' => e = .returned (.int .u32 d0) ∧ w' = w := by
  have e : Hid (bits .or .u32 0 d0 = d0) := or_zero d0 h0.1 (by omega)
  go_enter Tryd.func77, Tryd.ntmps77
  go_wp2
  refine wp_loop_rounds 2 ?_
  rw [rounds_succ]
  go_wp2
  rw [rounds_succ]
  go_wp2
  go_ret
  exact ⟨by show Ending.returned (.int .u32 (bits .or .u32 0 d0)) = _; rw [e.out], rfl⟩
set_option maxRecDepth 100000 in
set_option maxHeartbeats 4000000 in
theorem num70three (p off cap : Nat) (d0 d1 d2 : Int) (w : World) (c0 : w.cell? ⟨p, off, none⟩ = some (.int .u8 d0)) (c1 : w.cell? ⟨p, off + 1, none⟩ = some (.int .u8 d1)) (c2 : w.cell? ⟨p, off + 2, none⟩ = some (.int .u8 d2)) (h0 : 0 ≤ d0 ∧ d0 < 256) (h1 : 0 ≤ d1 ∧ d1 < 256) (h2 : 0 ≤ d2 ∧ d2 < 256) : Calls Tryd.prog 77 #[.slice (some ⟨p, off, none⟩) 3 cap] w fun e w' => e = .returned (.int .u32 (d0 + d1 * 256 + d2 * 65536)) ∧ w' = w := by
  have e : Hid (bits .or .u32 (bits .or .u32 (bits .or .u32 0 d0) (d1 * 256)) (d2 * 65536) = d0 + d1 * 256 + d2 * 65536) := by
    show _ = _
    rw [or_zero d0 h0.1 (by omega)]
    have e1 : bits .or .u32 d0 (d1 * 256) = d0 + d1 * 256 := or_low 8 d0 d1 h0.1 h0.2 h1.1 (by omega)
    have e2 : bits .or .u32 (d0 + d1 * 256) (d2 * 65536) = d0 + d1 * 256 + d2 * 65536 := or_low 16 (d0 + d1 * 256) d2 (by omega) (by omega) h2.1 (by omega)
    rw [e1, e2]
  go_enter Tryd.func77, Tryd.ntmps77
  go_wp2
  refine wp_loop_rounds 4 ?_
  rw [rounds_succ]
  go_wp2
  rw [rounds_succ]
  go_wp2
  rw [rounds_succ]
  go_wp2
  rw [rounds_succ]
  go_wp2
  go_ret
  exact ⟨by show Ending.returned (.int .u32 (bits .or .u32 (bits .or .u32 (bits .or .u32 0 d0) (d1 * 256)) (d2 * 65536))) = _; rw [e.out], rfl⟩
/-- numberOfBytes of the m bytes from q on. -/
theorem num70 (g q m cap : Nat) (f : Nat → Int) (w : World) (hm : m ≤ 4) (hc : ∀ i, i < m → w.cell? ⟨g, q + i, none⟩ = some (.int .u8 (f (q + i)))) (hf : ∀ i, 0 ≤ f i ∧ f i < 256) : Calls Tryd.prog 77 #[.slice (some ⟨g, q, none⟩) m cap] w fun e w' => e = .returned (.int .u32 (num f q m)) ∧ w' = w := by
  rcases (by omega : m = 0 ∨ m = 1 ∨ m = 2 ∨ m = 3 ∨ m = 4) with rfl | rfl | rfl | rfl | rfl
  · exact num70zero _ cap w
  · refine (num70one g q cap _ w (hc 0 (by omega)) (hf _)).mono ?_
    rintro e w' ⟨rfl, h⟩
    refine ⟨?_, h⟩
    simp [num]
  · refine (num70two g q cap _ _ w (hc 0 (by omega)) (hc 1 (by omega)) (hf _) (hf _)).mono ?_
    rintro e w' ⟨rfl, h⟩
    refine ⟨?_, h⟩
    congr 2
    simp only [num, word2, Nat.add_zero]
    omega
  · refine (num70three g q cap _ _ _ w (hc 0 (by omega)) (hc 1 (by omega)) (hc 2 (by omega)) (hf _) (hf _) (hf _)).mono ?_
    rintro e w' ⟨rfl, h⟩
    refine ⟨?_, h⟩
    congr 2
    simp only [num, Nat.add_zero, Nat.add_assoc, Nat.reduceAdd]
    omega
  · refine (num70four g q cap _ _ _ _ w (hc 0 (by omega)) (hc 1 (by omega)) (hc 2 (by omega)) (hc 3 (by omega)) (hf _) (hf _) (hf _) (hf _)).mono ?_
    rintro e w' ⟨rfl, h⟩
    refine ⟨?_, h⟩
    congr 2
    simp only [num, word4, Nat.add_zero, Nat.add_assoc, Nat.reduceAdd]
    omega
end Go.Proofs.YtablacgmedkgjaaDoor
