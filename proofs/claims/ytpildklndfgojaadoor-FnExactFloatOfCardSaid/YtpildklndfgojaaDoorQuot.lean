/- Contracts of the program's liftTo and quotientOf. -/
import Derived.Test.YtpildklndfgojaaDoorProd
import Derived.Deep.RegionHeld3
namespace Go.Proofs.YtpildklndfgojaaDoor
open Go.ChangeShapes Go.WideShapes Go.ChangeAt Go.RowKit
set_option linter.unusedVariables false
set_option maxHeartbeats 2000000 in
theorem lift97 (neg m : Bool) (z p s Z L len : Int) (w : World) (hL : (Lib.bitLen z.toNat : Int) = L) (l0 : 0 ≤ L) (l1 : L ≤ 64) (z0 : 0 ≤ z) (z1 : z < 18446744073709551616) (hs : len - L = s) (s0 : 0 ≤ s) (s1 : s ≤ 62) (hl : len ≤ 64) (hZ : z * 2 ^ s.toNat = Z) (Z0 : 0 ≤ Z) (Z1 : Z < 18446744073709551616) (p0 : -10000 ≤ p) (p1 : p ≤ 10000) :
    Calls Tryd.prog 97 #[.agg #[.bool neg, .int .u64 z, .int .i64 p, .bool m], .int .i64 len] w fun e w' => e = .returned (.agg #[.bool neg, .int .u64 Z, .int .i64 (p - s), .bool m]) ∧ Below w.heap.size w w' := by
  have hw : IntKind.u64.wrap (z * 2 ^ s.toNat) = Z := by rw [hZ, IntKind.wrap_u64]; exact Int.emod_eq_of_lt Z0 Z1
  have hlen := len64_any z z0 z1
  rw [hL] at hlen
  have HL : Hid (∀ v : World, Calls Tryd.prog 93 #[.int .u64 z] v fun e w' => e = .returned (.int .i64 L) ∧ w' = v) := hlen
  clear hL hlen hZ
  go_enter Tryd.func97, Tryd.ntmps97
  go_wp2_with (go_at_call 93; refine ((Hid.out HL) _).mono ?_; rintro e w' ⟨rfl, hw'⟩; subst w')
  exact bodyPost_ret (v := .agg #[.bool neg, .int .u64 Z, .int .i64 (p - s), .bool m]) (by simp [results, Tryd.results97, go_sem]) rfl ⟨rfl, by repeat (first | (with_reducible refine Below.setCell ?_ (by first | omega | (simp; try omega)) _) | (with_reducible refine Below.alloc ?_ (by first | omega | (simp; try omega)) _) | (with_reducible exact Below.refl _ _))⟩
theorem set4h {w : World} {b : Nat} {x0 x1 x2 x3 y0 y1 y2 y3 : Value} {t : TypeId} (h : w.heap[b]? = some (.cells #[x0, x1, x2, x3] t (0, 0))) :
    ((((w.setCell ⟨b, 0, none⟩ y0).setCell ⟨b, 1, none⟩ y1).setCell ⟨b, 2, none⟩ y2).setCell ⟨b, 3, none⟩ y3).heap[b]? = some (.cells #[y0, y1, y2, y3] t (0, 0)) := by
  have hb : b < w.heap.size := lt_of_block h
  have e : w.heap[b] = .cells #[x0, x1, x2, x3] t (0, 0) := by
    have := Array.getElem?_eq_getElem hb
    rw [this] at h; exact Option.some.inj h
  simp [World.setCell, Array.getElem?_modify, h]
theorem set4_ne {w : World} {b k : Nat} {y0 y1 y2 y3 : Value} (hk : k ≠ b) :
    ((((w.setCell ⟨b, 0, none⟩ y0).setCell ⟨b, 1, none⟩ y1).setCell ⟨b, 2, none⟩ y2).setCell ⟨b, 3, none⟩ y3).heap[k]? = w.heap[k]? := by
  rw [Below.heap_setCell _ _ _ _ hk, Below.heap_setCell _ _ _ _ hk, Below.heap_setCell _ _ _ _ hk, Below.heap_setCell _ _ _ _ hk]
theorem ne_dec (q Z : Nat) : ((q : Int) != (Z : Int)) = decide (q ≠ Z) := by
  by_cases h : q = Z
  · subst h; simp
  · have h' : ¬ (q : Int) = (Z : Int) := by omega
    rw [decide_eq_true h]
    simpa using h'
set_option maxHeartbeats 4000000 in
theorem quot52 (SA SB : Bool) (w : World) (S T p q s Z L z E : Int) (m : Bool)
    (s0 : 0 < S) (s1 : S < 4611686018427387904) (t0 : 0 < T) (t1 : T < 4611686018427387904) (p0 : -149 ≤ p) (p1 : p ≤ 105) (q0 : -149 ≤ q) (q1 : q ≤ 105) (hL : (Lib.bitLen S.toNat : Int) = L) (l0 : 0 ≤ L) (l1 : L ≤ 64) (hs : 62 - L = s) (sn0 : 0 ≤ s) (sn1 : s ≤ 62) (hZ : S * 2 ^ s.toNat = Z) (Z0 : 0 ≤ Z) (Z1 : Z < 18446744073709551616)
    (hz : Z / T = z) (hm : (Z % T != 0) = m) (hE : p - s - q = E) :
    Calls Tryd.prog 52 #[.agg #[.bool SA, .int .u64 S, .int .i64 p, .bool false], .agg #[.bool SB, .int .u64 T, .int .i64 q, .bool false]] w fun e w' => e = .returned (.agg #[.bool (SA != SB), .int .u64 z, .int .i64 E, .bool m]) ∧ Below w.heap.size w w' := by
  have HL : Hid (∀ v : World, Calls Tryd.prog 97 #[.agg #[.bool SA, .int .u64 S, .int .i64 p, .bool false], .int .i64 62] v fun e w' => e = .returned (.agg #[.bool SA, .int .u64 Z, .int .i64 (p - s), .bool false]) ∧ Below v.heap.size v w') := fun v => lift97 SA false S p s Z L 62 v hL l0 l1 (by omega) (by omega) hs sn0 sn1 (by decide) hZ Z0 Z1 (by omega) (by omega)
  obtain ⟨r, hr⟩ : ∃ r, p - s = r := ⟨_, rfl⟩
  rw [hr] at HL
  have r0 : -300 ≤ r := by omega
  have r1 : r ≤ 105 := by omega
  have hEr : r - q = E := by omega
  have tn : ¬ T = 0 := by omega
  clear hE hL hs hZ hr
  go_enter Tryd.func52, Tryd.ntmps52
  go_upto_region 2 with (go_at_call 97; refine ((Hid.out HL) _).mono ?_; rintro e w1 ⟨rfl, B1⟩; (have X1 : w1.heap[w.heap.size]? = some (.cells #[.bool SA, .int .u64 S, .int .i64 p, .bool false] 84 (0, 0)) := (B1.block w.heap.size (by first | (simp; done) | (simp; omega))).trans ((Below.heap_alloc _ _ _ (by first | (simp; done) | (simp; omega))).trans ((Below.heap_alloc _ _ _ (by first | (simp; done) | (simp; omega))).trans (heap_alloc_new _ _)))); (have Y1 : w1.heap[w.heap.size + 1]? = some (.cells #[.bool SB, .int .u64 T, .int .i64 q, .bool false] 84 (0, 0)) := (B1.block (w.heap.size + 1) (by first | (simp; done) | (simp; omega))).trans ((Below.heap_alloc _ _ _ (by first | (simp; done) | (simp; omega))).trans (heap_alloc_at (by first | (simp; done) | (simp; omega))))); (have O1 : w1.heap[w.heap.size + 1 + 1]? = some (.cells #[.bool false, .int .u64 0, .int .i64 0, .bool false] 84 (0, 0)) := (B1.block (w.heap.size + 1 + 1) (by first | (simp; done) | (simp; omega))).trans (heap_alloc_at (by first | (simp; done) | (simp; omega)))); (have z1 := B1.size); (try simp at z1); obtain ⟨⟨x0, x1, x2, x3⟩, x4, x5, x6, x7⟩ := blk4 X1)
  obtain ⟨W, hW⟩ : ∃ W, W = (((w1.setCell ⟨w.heap.size, 0, none⟩ (.bool SA)).setCell ⟨w.heap.size, 1, none⟩ (.int .u64 Z)).setCell ⟨w.heap.size, 2, none⟩ (.int .i64 r)).setCell ⟨w.heap.size, 3, none⟩ (.bool false) := ⟨_, rfl⟩
  have bW : Below w.heap.size w W := by
    rw [hW]
    repeat (first | (with_reducible refine Below.setCell ?_ (by first | omega | (simp; try omega)) _) | (with_reducible refine Below.trans ?_ (B1.mono (by first | omega | (simp; try omega)))) | (with_reducible refine Below.alloc ?_ (by first | omega | (simp; try omega)) _) | (with_reducible exact Below.refl _ _))
  have AW : W.heap[w.heap.size]? = some (.cells #[.bool SA, .int .u64 Z, .int .i64 r, .bool false] 84 (0, 0)) := by
    rw [hW]; exact set4h X1
  have BW : W.heap[w.heap.size + 1]? = some (.cells #[.bool SB, .int .u64 T, .int .i64 q, .bool false] 84 (0, 0)) := by
    rw [hW]; exact (set4_ne (by omega)).trans Y1
  have XW : W.heap[w.heap.size + 1 + 1]? = some (.cells #[.bool false, .int .u64 0, .int .i64 0, .bool false] 84 (0, 0)) := by
    rw [hW]; exact (set4_ne (by omega)).trans O1
  rw [← hW]
  clear x0 x1 x2 x3 x4 x5 x6 x7 hW X1 Y1 O1 B1 z1 HL
  obtain ⟨n, hn⟩ : ∃ n, n = w.heap.size := ⟨_, rfl⟩
  rw [← hn] at AW BW XW
  have bW' : Below n w W := by rw [hn]; exact bW
  rw [← hn]
  obtain ⟨o, ho⟩ : ∃ o, o = n + 1 + 1 := ⟨_, rfl⟩
  have hwo : w.heap.size ≤ o := by omega
  clear hn
  rw [← ho] at XW ⊢
  have kn : o ≠ n := by omega
  have kn1 : o ≠ n + 1 := by omega
  have hno : n ≤ o := by omega
  clear ho
  obtain ⟨⟨x0, x1, x2, x3⟩, y0, y1, y2, y3⟩ := blk4 XW
  obtain ⟨⟨a0', a1', a2', a3'⟩, _⟩ := blk4 AW
  obtain ⟨⟨c0, c1, c2, c3⟩, _⟩ := blk4 BW
  have f1 : IntKind.u64.wrap (Z.tdiv T) = z := by
    have h0 : 0 ≤ Z / T := Int.ediv_nonneg Z0 (by omega)
    have h1 : Z / T ≤ Z := Int.ediv_le_self _ Z0
    rw [Int.tdiv_eq_ediv_of_nonneg Z0, IntKind.wrap_u64, Int.emod_eq_of_lt h0 (by omega), hz]
  have f2 : IntKind.i64.wrap E = E := wr64 _ (by omega) (by omega)
  have f3 : (Z.tmod T != 0) = m := by rw [Int.tmod_eq_emod_of_nonneg Z0]; exact hm
  go_region_held3 (fun v => v.cell? ⟨n, 0, none⟩ = some (.bool SA) ∧ v.cell? ⟨n, 1, none⟩ = some (.int .u64 Z) ∧ v.cell? ⟨n, 2, none⟩ = some (.int .i64 r) ∧ v.cell? ⟨n + 1, 0, none⟩ = some (.bool SB) ∧ v.cell? ⟨n + 1, 1, none⟩ = some (.int .u64 T) ∧ v.cell? ⟨n + 1, 2, none⟩ = some (.int .i64 q)) (first | with_reducible exact ⟨a0', a1', a2', c0, c1, c2⟩ | (go_keep; done)) (fail)
  all_goals go_wp2
  all_goals exact bodyPost_ret (v := .agg #[.bool (SA != SB), .int .u64 z, .int .i64 E, .bool m]) (by simp [results, Tryd.results52, go_sem, x0, x1, x2, x3]; first | exact ⟨by cases SA <;> cases SB <;> rfl, f1, f2, f3⟩ | (cases SA <;> cases SB <;> rfl)) rfl ⟨rfl, by repeat (first | (with_reducible refine Below.setCell ?_ (by first | omega | (simp; try omega)) _) | (with_reducible apply Below.drew) | (with_reducible exact bW))⟩
theorem quot_z (A B : Nat) (E : Int) (s : Nat) (hB : 0 < B) : sa (A * 2 ^ E.toNat) (E - s) / sb (B * 2 ^ (-E).toNat) (E - s) = A * 2 ^ s / B ∧ (sa (A * 2 ^ E.toNat) (E - s) % sb (B * 2 ^ (-E).toNat) (E - s) = 0 ↔ A * 2 ^ s % B = 0) := by
  unfold sa sb
  have e : E.toNat + (-(E - (s : Int))).toNat = s + ((-E).toNat + (E - (s : Int)).toNat) := by omega
  obtain ⟨c, hc⟩ : ∃ c, (-E).toNat + (E - (s : Int)).toNat = c := ⟨_, rfl⟩
  have e1 : A * 2 ^ E.toNat * 2 ^ (-(E - (s : Int))).toNat = A * 2 ^ s * 2 ^ c := by
    rw [Nat.mul_assoc, ← Nat.pow_add, e, hc, Nat.pow_add, Nat.mul_assoc]
  have e2 : B * 2 ^ (-E).toNat * 2 ^ (E - (s : Int)).toNat = B * 2 ^ c := by rw [Nat.mul_assoc, ← Nat.pow_add, hc]
  rw [e1, e2, Nat.mul_div_mul_right _ _ (p2 c), Nat.mul_mod_mul_right]
  refine ⟨rfl, ?_⟩
  rw [Nat.mul_eq_zero]
  have := p2 c
  omega
end Go.Proofs.YtpildklndfgojaaDoor
