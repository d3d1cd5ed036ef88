/- Contracts of the program's liftTo and quotientOf. -/
import Derived.Test.YtamoakodlmjbiaaDoorProd
import Derived.Deep.RegionHeld3
namespace Go.Proofs.YtamoakodlmjbiaaDoor
open Go.ChangeShapes Go.WideShapes Go.ChangeAt Go.RowKit
set_option linter.unusedVariables false
set_option maxHeartbeats 2000000 in
theorem lift86 (neg m : Bool) (z p s Z L len : Int) (w : World) (hL : (Lib.bitLen z.toNat : Int) = L) (l0 : 0 ≤ L) (l1 : L ≤ 64) (z0 : 0 ≤ z) (z1 : z < 18446744073709551616) (hs : len - L = s) (s0 : 0 ≤ s) (s1 : s ≤ 62) (hl : len ≤ 64) (hZ : z * 2 ^ s.toNat = Z) (Z0 : 0 ≤ Z) (Z1 : Z < 18446744073709551616) (p0 : -10000 ≤ p) (p1 : p ≤ 10000) :
    Calls Tryd.prog 86 #[.agg #[.bool neg, .int .u64 z, .int .i64 p, .bool m], .int .i64 len] w fun e w' => e = .returned (.agg #[.bool neg, .int .u64 Z, .int .i64 (p - s), .bool m]) ∧ Below w.heap.size w w' := by
  have hw : IntKind.u64.wrap (z * 2 ^ s.toNat) = Z := by rw [hZ, IntKind.wrap_u64]; exact Int.emod_eq_of_lt Z0 Z1
  have hlen := len64_any z z0 z1
  rw [hL] at hlen
  have HL : Hid (∀ v : World, Calls Tryd.prog 81 #[.int .u64 z] v fun e w' => e = .returned (.int .i64 L) ∧ w' = v) := hlen
  clear hL hlen hZ
  go_enter Tryd.func86, Tryd.ntmps86
  go_wp2_with (go_at_call 81; refine ((Hid.out HL) _).mono ?_; rintro e w' ⟨rfl, hw'⟩; subst w')
  exact bodyPost_ret (v := .agg #[.bool neg, .int .u64 Z, .int .i64 (p - s), .bool m]) (by simp [results, Tryd.results86, go_sem]) rfl ⟨rfl, by repeat (first | (with_reducible refine Below.setCell ?_ (by first | omega | (simp; try omega)) _) | (with_reducible refine Below.alloc ?_ (by first | omega | (simp; try omega)) _) | (with_reducible exact Below.refl _ _))⟩
set_option maxHeartbeats 4000000 in
theorem quot61 (a b : Int) (a0 : 0 ≤ a) (a1 : a < 4294967296) (b0 : 0 ≤ b) (b1 : b < 4294967296) (w : World) (G : Forms w) (S T p q s Z L z E : Int) (m SA SB : Bool)
    (hSA : decide (2147483648 ≤ a) = SA) (hSB : decide (2147483648 ≤ b) = SB) (hS : exS (a % 2147483648) = S) (hT : exS (b % 2147483648) = T) (hp : exP (a % 2147483648) = p) (hq : exP (b % 2147483648) = q)
    (s0 : 0 < S) (s1 : S < 16777216) (t0 : 0 < T) (t1 : T < 16777216) (p0 : -149 ≤ p) (p1 : p ≤ 105) (q0 : -149 ≤ q) (q1 : q ≤ 105) (hL : (Lib.bitLen S.toNat : Int) = L) (l0 : 0 ≤ L) (l1 : L ≤ 64) (hs : 62 - L = s) (sn0 : 0 ≤ s) (sn1 : s ≤ 62) (hZ : S * 2 ^ s.toNat = Z) (Z0 : 0 ≤ Z) (Z1 : Z < 18446744073709551616)
    (hz : Z / T = z) (hm : (Z % T != 0) = m) (hE : p - s - q = E) :
    Calls Tryd.prog 61 #[.int .u32 a, .int .u32 b] w fun e w' => e = .returned (.agg #[.bool (SA != SB), .int .u64 z, .int .i64 E, .bool m]) ∧ Below w.heap.size w w' := by
  have hA := fun v (Gv : Forms v) => exactOf_w a a0 a1 v Gv
  have hB := fun v (Gv : Forms v) => exactOf_w b b0 b1 v Gv
  rw [hSA, hS, hp] at hA
  rw [hSB, hT, hq] at hB
  have HA : Hid (∀ v : World, Forms v → Calls Tryd.prog 64 #[.int .u32 a, .int .i64 0] v fun e w' => e = .returned (.agg #[.bool SA, .int .u64 S, .int .i64 p, .bool false]) ∧ Below v.heap.size v w') := hA
  have HB : Hid (∀ v : World, Forms v → Calls Tryd.prog 64 #[.int .u32 b, .int .i64 0] v fun e w' => e = .returned (.agg #[.bool SB, .int .u64 T, .int .i64 q, .bool false]) ∧ Below v.heap.size v w') := hB
  have HL : Hid (∀ v : World, Calls Tryd.prog 86 #[.agg #[.bool SA, .int .u64 S, .int .i64 p, .bool false], .int .i64 62] v fun e w' => e = .returned (.agg #[.bool SA, .int .u64 Z, .int .i64 (p - s), .bool false]) ∧ Below v.heap.size v w') := fun v => lift86 SA false S p s Z L 62 v hL l0 l1 (by omega) (by omega) hs sn0 sn1 (by decide) hZ Z0 Z1 (by omega) (by omega)
  have HE : Hid (p - s - q = E) := hE
  obtain ⟨r, hr⟩ : ∃ r, p - s = r := ⟨_, rfl⟩
  rw [hr] at HL
  have r0 : -300 ≤ r := by omega
  have r1 : r ≤ 105 := by omega
  have hEr : r - q = E := by omega
  have tn : ¬ T = 0 := by omega
  clear hA hB hSA hSB hS hT hp hq hE hL hs hZ hr
  have G0 : Forms (w.alloc (.cells #[.bool false, .int .u64 0, .int .i64 0, .bool false] 72)) := G.next (al _ _)
  go_enter Tryd.func61, Tryd.ntmps61
  go_upto_region 2 with (first | (go_at_call 64; (with_reducible show Calls Tryd.prog 64 _ (w.alloc _) _); refine ((Hid.out HA) _ G0).mono ?_; rintro e w1 ⟨rfl, hb1⟩; have hz1 := hb1.size; (try simp at hz1)) | (go_at_call 86; refine ((Hid.out HL) w1).mono ?_; rintro e w1' ⟨rfl, hb1'⟩; have hz1' := hb1'.size) | (go_at_call 64; refine ((Hid.out HB) w1' ((G0.next hb1).next hb1')).mono ?_; rintro e w2 ⟨rfl, hb2⟩; have hz2 := hb2.size))
  have X2 : w2.heap[w.heap.size]? = some (.cells #[.bool false, .int .u64 0, .int .i64 0, .bool false] 72 (0, 0)) := (hb2.block w.heap.size (by omega)).trans ((hb1'.block w.heap.size (by omega)).trans ((hb1.block w.heap.size (by simp)).trans (heap_alloc_new _ _)))
  have hlt : w.heap.size < w2.heap.size := by omega
  have bel2 : Below w.heap.size w w2 := (((al w _).trans (hb1.mono (by simp))).trans (hb1'.mono (by omega))).trans (hb2.mono (by omega))
  obtain ⟨W, hW⟩ : ∃ W, W = (w2.alloc (.cells #[.bool SA, .int .u64 Z, .int .i64 r, .bool false] 72)).alloc (.cells #[.bool SB, .int .u64 T, .int .i64 q, .bool false] 72) := ⟨_, rfl⟩
  obtain ⟨k, hk⟩ : ∃ k, k = w2.heap.size := ⟨_, rfl⟩
  have XW : W.heap[w.heap.size]? = some (.cells #[.bool false, .int .u64 0, .int .i64 0, .bool false] 72 (0, 0)) := by rw [hW, Below.heap_alloc _ _ _ (by simp; omega), Below.heap_alloc _ _ _ (by omega)]; exact X2
  have AW : W.heap[k]? = some (.cells #[.bool SA, .int .u64 Z, .int .i64 r, .bool false] 72 (0, 0)) := by rw [hW, hk, Below.heap_alloc _ _ _ (by simp)]; exact heap_alloc_new _ _
  have BW : W.heap[k + 1]? = some (.cells #[.bool SB, .int .u64 T, .int .i64 q, .bool false] 72 (0, 0)) := by rw [hW, hk]; exact heap_alloc_at (by simp)
  have bW : Below w.heap.size w W := by rw [hW]; exact (bel2.alloc (by omega) _).alloc (by simp; omega) _
  have kn : w.heap.size ≠ k := by omega
  have kn1 : w.heap.size ≠ k + 1 := by omega
  rw [← hW, ← hk]
  clear hW hk X2 hb1 hb1' hb2 hz1 hz1' hz2 bel2 hlt HA HB HL
  obtain ⟨⟨x0, x1, x2, x3⟩, y0, y1, y2, y3⟩ := blk4 XW
  obtain ⟨⟨a0', a1', a2', a3'⟩, _⟩ := blk4 AW
  obtain ⟨⟨c0, c1, c2, c3⟩, _⟩ := blk4 BW
  have f1 : IntKind.u64.wrap (Z.tdiv T) = z := by
    have h0 : 0 ≤ Z / T := Int.ediv_nonneg Z0 (by omega)
    have h1 : Z / T ≤ Z := Int.ediv_le_self _ Z0
    rw [Int.tdiv_eq_ediv_of_nonneg Z0, IntKind.wrap_u64, Int.emod_eq_of_lt h0 (by omega), hz]
  have f2 : IntKind.i64.wrap E = E := wr64 _ (by omega) (by omega)
  have f3 : (Z.tmod T != 0) = m := by rw [Int.tmod_eq_emod_of_nonneg Z0]; exact hm
  go_region_held3 (fun v => v.cell? ⟨k, 0, none⟩ = some (.bool SA) ∧ v.cell? ⟨k, 1, none⟩ = some (.int .u64 Z) ∧ v.cell? ⟨k, 2, none⟩ = some (.int .i64 r) ∧ v.cell? ⟨k + 1, 0, none⟩ = some (.bool SB) ∧ v.cell? ⟨k + 1, 1, none⟩ = some (.int .u64 T) ∧ v.cell? ⟨k + 1, 2, none⟩ = some (.int .i64 q)) (first | with_reducible exact ⟨a0', a1', a2', c0, c1, c2⟩ | (go_keep; done)) (fail)
  all_goals go_wp2
  all_goals exact bodyPost_ret (v := .agg #[.bool (SA != SB), .int .u64 z, .int .i64 E, .bool m]) (by simp [results, Tryd.results61, go_sem, x0, x1, x2, x3]; first | exact ⟨by cases SA <;> cases SB <;> rfl, f1, f2, f3⟩ | (cases SA <;> cases SB <;> rfl)) rfl ⟨rfl, by repeat (first | (with_reducible refine Below.setCell ?_ (by first | omega | (simp; try omega)) _) | (with_reducible apply Below.drew) | (with_reducible exact bW))⟩
theorem quot_z (A B : Nat) (E : Int) (s : Nat) (hB : 0 < B) : sa (A * 2 ^ E.toNat) (E - s) / sb (B * 2 ^ (-E).toNat) (E - s) = A * 2 ^ s / B ∧ (sa (A * 2 ^ E.toNat) (E - s) % sb (B * 2 ^ (-E).toNat) (E - s) = 0 ↔ A * 2 ^ s % B = 0) := by
  unfold sa sb
  have e : E.toNat + (-(E - (s : Int))).toNat = s + ((-E).toNat + (E - (s : Int)).toNat) := by omega
  obtain ⟨c, hc⟩ : ∃ c, (-E).toNat + (E - (s : Int)).toNat = c := ⟨_, rfl⟩
  have e1 : A * 2 ^ E.toNat * 2 ^ (-(E - (s : Int))).toNat = A * 2 ^ s * 2 ^ c := by
    rw [Nat.mul_assoc, ← Nat.pow_add, e, hc, Nat.pow_add, Nat.mul_assoc]
  have e2 : B * 2 ^ (-E).toNat * 2 ^ (E - (s : Int)).toNat = B * 2 ^ c := by rw [Nat.mul_assoc, ← Nat.pow_add, hc]
  rw [e1, e2, Nat.mul_div_mul_right _ _ (p2 c), Nat.mul_mod_mul_right]
  refine ⟨rfl, ?_⟩
  rw [Nat.mul_eq_zero]
  have := p2 c
  omega
end Go.Proofs.YtamoakodlmjbiaaDoor
