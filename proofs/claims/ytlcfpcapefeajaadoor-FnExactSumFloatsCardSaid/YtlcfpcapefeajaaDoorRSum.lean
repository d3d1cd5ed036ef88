/- Contract of the program's roundSum, and how it goes together with the model's sum. -/
import Derived.Test.YtlcfpcapefeajaaDoorSumD
namespace Go.Proofs.YtlcfpcapefeajaaDoor
open Go.ChangeShapes Go.WideShapes Go.ChangeAt Go.RowKit
set_option linter.unusedVariables false
section
variable (nx ny rn rm : Bool) (x p y q z P mode R : Int) (w : World) (G : Forms w)
set_option maxHeartbeats 2000000 in
theorem rs_num (z0 : 0 < z) (HS : Hid (∀ v : World, Calls Tryd.prog 94 #[.agg #[.bool nx, .int .u64 x, .int .i64 p, .bool false], .agg #[.bool ny, .int .u64 y, .int .i64 q, .bool false]] v fun e w' => e = .returned (.agg #[.bool rn, .int .u64 z, .int .i64 P, .bool rm]) ∧ Below v.heap.size v w'))
    (HR : Hid (∀ v : World, Forms v → Calls Tryd.prog 56 #[.agg #[.bool rn, .int .u64 z, .int .i64 P, .bool rm], .int .i64 0, .int .i64 mode] v fun e w' => e = .returned (.int .u32 R) ∧ Below v.heap.size v w')) (G : Forms w) :
    Calls Tryd.prog 77 #[.agg #[.bool nx, .int .u64 x, .int .i64 p, .bool false], .agg #[.bool ny, .int .u64 y, .int .i64 q, .bool false], .int .i64 mode] w fun e w' => e = .returned (.int .u32 R) ∧ Below w.heap.size w w' := by
  go_enter Tryd.func77, Tryd.ntmps77
  go_wp2_with (first | (go_at_call 94; refine ((Hid.out HS) _).mono ?_; rintro e w1 ⟨rfl, hb1⟩; (have G1 : Forms w1 := ((G.next (al _ _)).next (al _ _)).next hb1); (have hz1 := hb1.size); (try simp at hz1); (have X1 := (hb1.block w.heap.size (by simp; omega)).trans ((Below.heap_alloc _ _ _ (by simp)).trans (heap_alloc_new _ _))); (have Y1 := (hb1.block (w.heap.size + 1) (by simp)).trans (heap_alloc_at (by simp))); obtain ⟨⟨x0, x1, x2, x3⟩, _⟩ := blk4 X1; obtain ⟨⟨u0, u1, u2, u3⟩, _⟩ := blk4 Y1) | (go_at_call 56; refine ((Hid.out HR) _ (G1.next (al _ _))).mono ?_; rintro e w2 ⟨rfl, hb2⟩))
  go_ret
  exact ⟨rfl, by repeat (first | (with_reducible refine Below.trans ?_ (hb2.mono (by first | omega | (simp; try omega)))) | (with_reducible refine Below.trans ?_ (hb1.mono (by first | omega | (simp; try omega)))) | (with_reducible refine Below.alloc ?_ (by first | omega | (simp; try omega)) _) | (with_reducible exact Below.refl _ _))⟩
set_option maxHeartbeats 2000000 in
theorem rs_same (HS : Hid (∀ v : World, Calls Tryd.prog 94 #[.agg #[.bool nx, .int .u64 x, .int .i64 p, .bool false], .agg #[.bool nx, .int .u64 y, .int .i64 q, .bool false]] v fun e w' => e = .returned (.agg #[.bool rn, .int .u64 0, .int .i64 P, .bool rm]) ∧ Below v.heap.size v w')) (G : Forms w) :
    Calls Tryd.prog 77 #[.agg #[.bool nx, .int .u64 x, .int .i64 p, .bool false], .agg #[.bool nx, .int .u64 y, .int .i64 q, .bool false], .int .i64 mode] w fun e w' => e = .returned (.int .u32 (sgn_w nx 0)) ∧ Below w.heap.size w w' := by
  go_enter Tryd.func77, Tryd.ntmps77
  go_wp2_with (first | (go_at_call 94; refine ((Hid.out HS) _).mono ?_; rintro e w1 ⟨rfl, hb1⟩; (have G1 : Forms w1 := ((G.next (al _ _)).next (al _ _)).next hb1); (have hz1 := hb1.size); (try simp at hz1); (have X1 := (hb1.block w.heap.size (by simp; omega)).trans ((Below.heap_alloc _ _ _ (by simp)).trans (heap_alloc_new _ _))); (have Y1 := (hb1.block (w.heap.size + 1) (by simp)).trans (heap_alloc_at (by simp))); (have X2 := (Below.heap_alloc w1 (.cells #[.bool rn, .int .u64 0, .int .i64 P, .bool rm] 72) w.heap.size (by omega)).trans X1); (have Y2 := (Below.heap_alloc w1 (.cells #[.bool rn, .int .u64 0, .int .i64 P, .bool rm] 72) (w.heap.size + 1) (by omega)).trans Y1); obtain ⟨⟨x0, x1, x2, x3⟩, _⟩ := blk4 X2; obtain ⟨⟨u0, u1, u2, u3⟩, _⟩ := blk4 Y2) | (go_at_call 84; refine (withSign_w 0 _ (by decide) (by decide) _ (G1.next (al _ _)).c2).mono ?_; rintro e w' ⟨rfl, hw⟩; subst w'))
  go_ret
  exact ⟨rfl, by repeat (first | (with_reducible refine Below.trans ?_ (hb1.mono (by first | omega | (simp; try omega)))) | (with_reducible refine Below.alloc ?_ (by first | omega | (simp; try omega)) _) | (with_reducible exact Below.refl _ _))⟩
set_option maxHeartbeats 2000000 in
theorem rs_diff (hn : (nx == ny) = false) (HS : Hid (∀ v : World, Calls Tryd.prog 94 #[.agg #[.bool nx, .int .u64 x, .int .i64 p, .bool false], .agg #[.bool ny, .int .u64 y, .int .i64 q, .bool false]] v fun e w' => e = .returned (.agg #[.bool rn, .int .u64 0, .int .i64 P, .bool rm]) ∧ Below v.heap.size v w')) (G : Forms w) :
    Calls Tryd.prog 77 #[.agg #[.bool nx, .int .u64 x, .int .i64 p, .bool false], .agg #[.bool ny, .int .u64 y, .int .i64 q, .bool false], .int .i64 mode] w fun e w' => e = .returned (.int .u32 (sgn_w (decide (mode = 4)) 0)) ∧ Below w.heap.size w w' := by
  have hd : (mode == 4) = decide (mode = 4) := rfl
  go_enter Tryd.func77, Tryd.ntmps77
  go_wp2_with (first | (go_at_call 94; refine ((Hid.out HS) _).mono ?_; rintro e w1 ⟨rfl, hb1⟩; (have G1 : Forms w1 := ((G.next (al _ _)).next (al _ _)).next hb1); (have hz1 := hb1.size); (try simp at hz1); (have X1 := (hb1.block w.heap.size (by simp; omega)).trans ((Below.heap_alloc _ _ _ (by simp)).trans (heap_alloc_new _ _))); (have Y1 := (hb1.block (w.heap.size + 1) (by simp)).trans (heap_alloc_at (by simp))); (have X2 := (Below.heap_alloc w1 (.cells #[.bool rn, .int .u64 0, .int .i64 P, .bool rm] 72) w.heap.size (by omega)).trans X1); (have Y2 := (Below.heap_alloc w1 (.cells #[.bool rn, .int .u64 0, .int .i64 P, .bool rm] 72) (w.heap.size + 1) (by omega)).trans Y1); obtain ⟨⟨x0, x1, x2, x3⟩, _⟩ := blk4 X2; obtain ⟨⟨u0, u1, u2, u3⟩, _⟩ := blk4 Y2) | (go_at_call 84; refine (withSign_w 0 _ (by decide) (by decide) _ (G1.next (al _ _)).c2).mono ?_; rintro e w' ⟨rfl, hw⟩; subst w'))
  go_ret
  exact ⟨rfl, by repeat (first | (with_reducible refine Below.trans ?_ (hb1.mono (by first | omega | (simp; try omega)))) | (with_reducible refine Below.alloc ?_ (by first | omega | (simp; try omega)) _) | (with_reducible exact Below.refl _ _))⟩
end
/-- The sum's size: how great it can be. -/
theorem T_big (nx ny : Bool) (x y : Nat) (p q F T : Int) (x1 : x < 281474976710656) (y1 : y < 281474976710656) (p0 : -400 ≤ p) (p1 : p ≤ 300) (q0 : -400 ≤ q) (q1 : q ≤ 300) (hF : F = p ∧ p ≤ q ∨ F = q ∧ q ≤ p) (hT : T = sgI nx (x : Int) * 2 ^ (p - F).toNat + sgI ny (y : Int) * 2 ^ (q - F).toNat) : T.natAbs * 2 ^ F.toNat < 1000000000 ^ 60 := by
  obtain ⟨k7, h7⟩ : ∃ k : Nat, k = 700 := ⟨_, rfl⟩
  obtain ⟨k3, h3⟩ : ∃ k : Nat, k = 300 := ⟨_, rfl⟩
  obtain ⟨k10, h10⟩ : ∃ k : Nat, k = 1000 := ⟨_, rfl⟩
  have hx : x * 2 ^ (p - F).toNat ≤ 281474976710656 * 2 ^ k7 := Nat.mul_le_mul (by omega) (Nat.pow_le_pow_right (by decide) (by omega))
  have hy : y * 2 ^ (q - F).toNat ≤ 281474976710656 * 2 ^ k7 := Nat.mul_le_mul (by omega) (Nat.pow_le_pow_right (by decide) (by omega))
  rw [sgI_pow, sgI_pow] at hT
  obtain ⟨A, hA⟩ : ∃ A, x * 2 ^ (p - F).toNat = A := ⟨_, rfl⟩
  obtain ⟨B, hB⟩ : ∃ A, y * 2 ^ (q - F).toNat = A := ⟨_, rfl⟩
  obtain ⟨C, hC⟩ : ∃ C : Nat, 281474976710656 * 2 ^ k7 = C := ⟨_, rfl⟩
  rw [hA] at hT hx
  rw [hB] at hT hy
  rw [hC] at hx hy
  have hle : T.natAbs ≤ 2 * C := by rw [hT]; cases nx <;> cases ny <;> simp only [sgI, Bool.false_eq_true, if_true, if_false] <;> omega
  have h2 : T.natAbs * 2 ^ F.toNat ≤ 2 * C * 2 ^ k3 := Nat.mul_le_mul hle (Nat.pow_le_pow_right (by decide) (by omega))
  have e : 2 * C * 2 ^ k3 = 562949953421312 * 2 ^ k10 := by rw [← hC, show k10 = k7 + k3 by omega, Nat.pow_add, show (562949953421312 : Nat) = 2 * 281474976710656 by decide]; simp only [Nat.mul_assoc]
  rw [e] at h2
  exact Nat.lt_of_le_of_lt h2 (big_lt 562949953421312 k10 (by decide) (by omega))
/-- The sum of two numbers above 0: the program's roundSum and the model's l1Told of the sum answer alike; where the sum is 0 the signs are unlike. -/
theorem sum_both (nx ny : Bool) (x y : Nat) (p q mode : Int) (m0 : 0 ≤ mode) (m4 : mode ≤ 4) (x0 : 0 < x) (x1 : x < 281474976710656) (y0 : 0 < y) (y1 : y < 281474976710656) (p0 : -400 ≤ p) (p1 : p ≤ 300) (q0 : -400 ≤ q) (q1 : q ≤ 300) (F T : Int) (hF : F = p ∧ p ≤ q ∨ F = q ∧ q ≤ p) (hT : T = sgI nx (x : Int) * 2 ^ (p - F).toNat + sgI ny (y : Int) * 2 ^ (q - F).toNat) :
    (T = 0 ∧ ∀ w : World, Forms w → Calls Tryd.prog 77 #[.agg #[.bool nx, .int .u64 (x : Int), .int .i64 p, .bool false], .agg #[.bool ny, .int .u64 (y : Int), .int .i64 q, .bool false], .int .i64 mode] w fun e w' => e = .returned (.int .u32 (sgn_w (decide (mode = 4)) 0)) ∧ Below w.heap.size w w') ∨
    (T ≠ 0 ∧ ∃ R : Int, 0 ≤ R ∧ R < 4294967296 ∧ (∀ w : World, Forms w → Calls Tryd.prog 77 #[.agg #[.bool nx, .int .u64 (x : Int), .int .i64 p, .bool false], .agg #[.bool ny, .int .u64 (y : Int), .int .i64 q, .bool false], .int .i64 mode] w fun e w' => e = .returned (.int .u32 R) ∧ Below w.heap.size w w') ∧
      (∀ (v : World) (K L : Nat) (VP VQ : Int) (gP gQ : Bool) (pP pQ : Option Addr) (lP cP lQ cQ : Nat), Num v K (.agg #[.int .i64 VP, .bool gP, .slice pP lP cP]) T → Num v L (.agg #[.int .i64 VQ, .bool gQ, .slice pQ lQ cQ]) 1 → 2 ≤ K → K ≤ 9000 →
        Calls Tryd.prog 75 #[.agg #[.int .i64 VP, .bool gP, .slice pP lP cP, .int .i64 VQ, .bool gQ, .slice pQ lQ cQ, .int .i64 F], .agg #[.int .i64 24, .int .i64 (-149), .int .i64 104], .int .i64 mode] v fun e w' => e = .returned (.int .i64 R) ∧ Below v.heap.size v w')) := by
  obtain ⟨rn, z, P, rm, r, HS, P0, P1, z1, z30, hrm, hr, hTu, hs, hz⟩ := sum_any nx ny x y p q x0 x1 y0 y1 (by omega) (by omega) (by omega) (by omega) F T hF hT
  have big := T_big nx ny x y p q F T x1 y1 p0 p1 q0 q1 hF hT
  by_cases hz0 : z = 0
  · refine Or.inl ⟨hz hz0, fun w G => ?_⟩
    have hT0 := hz hz0
    have hn : (nx == ny) = false := by
      rw [hT0, sgI_pow, sgI_pow] at hT
      have a1 : 0 < x * 2 ^ (p - F).toNat := Nat.mul_pos x0 (p2 _)
      have a2 : 0 < y * 2 ^ (q - F).toNat := Nat.mul_pos y0 (p2 _)
      obtain ⟨A, hA⟩ : ∃ A, x * 2 ^ (p - F).toNat = A := ⟨_, rfl⟩
      obtain ⟨B, hB⟩ : ∃ A, y * 2 ^ (q - F).toNat = A := ⟨_, rfl⟩
      rw [hA] at hT a1
      rw [hB] at hT a2
      cases nx <;> cases ny <;> first | rfl | (exfalso; simp only [sgI, Bool.false_eq_true, if_true, if_false] at hT; omega)
    subst hz0
    exact rs_diff nx ny rn rm (x : Int) p (y : Int) q P mode w hn HS G
  · have Tn : T ≠ 0 := by
      intro h0
      rw [h0] at hTu
      simp only [Int.natAbs_zero, Nat.zero_mul] at hTu
      have : 0 < z * 2 ^ (P - F).toNat := Nat.mul_pos (by omega) (p2 _)
      omega
    obtain ⟨g1, g2⟩ := quot_g T.natAbs 1 F P
    have hdiv : T.natAbs * 2 ^ (F - P).toNat / (1 * 2 ^ (P - F).toNat) = z := by
      rw [hTu, Nat.one_mul, Nat.add_comm, Nat.add_mul_div_right _ _ (p2 _), Nat.div_eq_of_lt hr, Nat.zero_add]
    have hmod : T.natAbs * 2 ^ (F - P).toNat % (1 * 2 ^ (P - F).toNat) = r := by
      rw [hTu, Nat.one_mul, Nat.add_comm, Nat.add_mul_mod_self_right, Nat.mod_eq_of_lt hr]
    obtain ⟨R, R0, R1, hi, hsp⟩ := both_w rn z P rm mode m0 m4 (by omega) (by omega) (by omega) (by omega) T 1 F Tn (by omega) (by omega) (T.natAbs * 2 ^ F.toNat) (1 * 2 ^ (-F).toNat) T.natAbs 1 rfl rfl rfl rfl (by decide) big (big_lt 1 _ (by decide) (by omega)) (hs hz0) (by rw [g1, hdiv]) (by
      rw [hrm]
      rw [hmod] at g2
      simp only [Ne, g2]) z30
    exact Or.inr ⟨Tn, R, R0, R1, fun w G => rs_num nx ny rn rm (x : Int) p (y : Int) q (z : Int) P mode R w (by omega) HS hi G, hsp⟩
end Go.Proofs.YtlcfpcapefeajaaDoor
