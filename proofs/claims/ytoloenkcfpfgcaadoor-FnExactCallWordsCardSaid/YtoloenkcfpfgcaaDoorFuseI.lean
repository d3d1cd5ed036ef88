/- sumOf, of any two numbers above 0: against the sum of both with the lesser power. Contract of the program's roundSum, and how it goes together with the model's sum. The program's FuseWords by the kinds of the three words; a word rounded is itself; the model's l1Nil. -/
import Derived.Test.YtoloenkcfpfgcaaDoorSumC
namespace Go.Proofs.YtoloenkcfpfgcaaDoor
open Go.ChangeShapes Go.WideShapes Go.ChangeAt Go.RowKit
set_option linter.unusedVariables false
theorem sum_core (nb ns : Bool) (bl kp r BT ST u D : Nat) (P : Int) (more : Bool) (u0 : 0 < u) (D0 : 0 < D) (bl0 : 2 ^ 61 ≤ bl) (bl1 : bl < 2 ^ 62) (kp1 : kp < 2 ^ 62) (hk : more = true → kp < 281474976710656) (hm : more = decide (r ≠ 0)) (hr : r < D) (hB : BT * u = bl * D) (hS : ST * u = kp * D + r) :
    ∃ (rn : Bool) (z : Nat) (rm : Bool) (r' : Nat), (nb = ns → rn = nb ∧ z = bl + kp ∧ rm = more) ∧
      ((nb == ns) = false → ∀ v : World, Calls Tryd.prog 86 #[.agg #[.bool nb, .int .u64 (bl : Int), .int .i64 P, .bool false], .agg #[.bool ns, .int .u64 (kp : Int), .int .i64 P, .bool more]] v fun e w' => e = .returned (.agg #[.bool rn, .int .u64 (z : Int), .int .i64 P, .bool rm]) ∧ Below v.heap.size v w') ∧
      z < 2 ^ 64 ∧ (rm = true → 2 ^ 30 ≤ z) ∧ rm = decide (r' ≠ 0) ∧ r' < D ∧ (sgI nb (BT : Int) + sgI ns (ST : Int)).natAbs * u = z * D + r' ∧ (z ≠ 0 → decide (sgI nb (BT : Int) + sgI ns (ST : Int) < 0) = rn) ∧ (z = 0 → sgI nb (BT : Int) + sgI ns (ST : Int) = 0) := by
  have BT0 : 0 < BT := by
    rcases Nat.eq_zero_or_pos BT with h | h
    · rw [h, Nat.zero_mul] at hB
      have : 0 < bl * D := Nat.mul_pos (by omega) D0
      omega
    · exact h
  by_cases hn : nb = ns
  · subst hn
    refine ⟨nb, bl + kp, more, r, fun _ => ⟨rfl, rfl, rfl⟩, fun h => by simp at h, by omega, fun _ => by omega, hm, hr, ?_, fun _ => ?_, fun h => by omega⟩
    · have e : (sgI nb (BT : Int) + sgI nb (ST : Int)).natAbs = BT + ST := by cases nb <;> simp [sgI] <;> omega
      rw [e, Nat.add_mul, Nat.add_mul, hB, hS]; omega
    · cases nb <;> simp [sgI] <;> omega
  · have hne : (nb == ns) = false := by cases nb <;> cases ns <;> first | rfl | exact absurd rfl hn
    cases hmm : more
    · have hr0 : r = 0 := by rw [hmm] at hm; by_cases z : r = 0; exact z; rw [decide_eq_true z] at hm; cases hm
      subst hr0
      by_cases hle : kp ≤ bl
      · have hle2 : ST ≤ BT := by
          have h : ST * u ≤ BT * u := by rw [hB, hS]; have := Nat.mul_le_mul_right D hle; omega
          exact Nat.le_of_mul_le_mul_right h u0
        have hsub : (BT - ST) * u = (bl - kp) * D := by rw [Nat.sub_mul, Nat.sub_mul, hB, hS]; omega
        refine ⟨nb, bl - kp, false, 0, fun h => absurd h hn, fun _ v => ?_, by omega, (fun h => by cases h), by decide, D0, ?_, fun hz => ?_, fun hz => ?_⟩
        · have h := diff_ge nb ns (bl : Int) (kp : Int) P P false v (by omega) (by omega) (by omega) (fun h => by cases h)
          simp only [Bool.false_eq_true, if_false] at h
          rw [show ((bl - kp : Nat) : Int) = (bl : Int) - kp by omega]
          exact h
        · have e : (sgI nb (BT : Int) + sgI ns (ST : Int)).natAbs = BT - ST := by
            cases nb <;> cases ns <;> first | exact absurd rfl hn | (simp [sgI]; omega)
          rw [e, hsub]; omega
        · have hlt : ST < BT := by
            rcases Nat.lt_or_ge ST BT with h | h
            · exact h
            · have : BT - ST = 0 := by omega
              rw [this, Nat.zero_mul] at hsub
              have : 0 < (bl - kp) * D := Nat.mul_pos (by omega) D0
              omega
          cases nb <;> cases ns <;> first | exact absurd rfl hn | (simp [sgI]; omega)
        · have hz2 : BT - ST = 0 := by
            rw [hz, Nat.zero_mul] at hsub
            rcases Nat.mul_eq_zero.mp hsub with h | h
            · exact h
            · omega
          cases nb <;> cases ns <;> first | exact absurd rfl hn | (simp [sgI]; omega)
      · have hlt2 : BT ≤ ST := by
          have h : BT * u ≤ ST * u := by rw [hB, hS]; have := Nat.mul_le_mul_right D (show bl ≤ kp by omega); omega
          exact Nat.le_of_mul_le_mul_right h u0
        have hsub : (ST - BT) * u = (kp - bl) * D := by rw [Nat.sub_mul, Nat.sub_mul, hB, hS]; omega
        refine ⟨ns, kp - bl, false, 0, fun h => absurd h hn, fun _ v => ?_, by omega, (fun h => by cases h), by decide, D0, ?_, fun hz => ?_, fun hz => by omega⟩
        · have h := diff_lt nb ns (bl : Int) (kp : Int) P P v (by omega) (by omega) (by omega)
          rw [show ((kp - bl : Nat) : Int) = (kp : Int) - bl by omega]
          exact h
        · have e : (sgI nb (BT : Int) + sgI ns (ST : Int)).natAbs = ST - BT := by
            cases nb <;> cases ns <;> first | exact absurd rfl hn | (simp [sgI]; omega)
          rw [e, hsub]; omega
        · have hlt : BT < ST := by
            rcases Nat.lt_or_ge BT ST with h | h
            · exact h
            · have : ST - BT = 0 := by omega
              rw [this, Nat.zero_mul] at hsub
              have : 0 < (kp - bl) * D := Nat.mul_pos (by omega) D0
              omega
          cases nb <;> cases ns <;> first | exact absurd rfl hn | (simp [sgI]; omega)
    · have hk2 := hk hmm
      have hr0 : r ≠ 0 := by rw [hmm] at hm; exact of_decide_eq_true hm.symm
      have hkD : (kp + 1) * D ≤ bl * D := Nat.mul_le_mul_right D (by omega)
      rw [Nat.add_mul, Nat.one_mul] at hkD
      have hle2 : ST ≤ BT := by
        have h : ST * u ≤ BT * u := by rw [hB, hS]; omega
        exact Nat.le_of_mul_le_mul_right h u0
      have hsub : (BT - ST) * u = (bl - kp - 1) * D + (D - r) := by
        rw [Nat.sub_mul, Nat.sub_mul, Nat.sub_mul, Nat.one_mul, hB, hS]; omega
      have hlt : ST < BT := by
        rcases Nat.lt_or_ge ST BT with h | h
        · exact h
        · have : BT - ST = 0 := by omega
          rw [this, Nat.zero_mul] at hsub
          omega
      refine ⟨nb, bl - kp - 1, true, D - r, fun h => absurd h hn, fun _ v => ?_, by omega, fun _ => by omega, by rw [decide_eq_true (by omega : D - r ≠ 0)], by omega, ?_, fun hz => ?_, fun hz => by omega⟩
      · have h := diff_ge nb ns (bl : Int) (kp : Int) P P true v (by omega) (by omega) (by omega) (fun _ => by omega)
        simp only [if_true] at h
        rw [show ((bl - kp - 1 : Nat) : Int) = (bl : Int) - kp - 1 by omega]
        exact h
      · have e : (sgI nb (BT : Int) + sgI ns (ST : Int)).natAbs = BT - ST := by
          cases nb <;> cases ns <;> first | exact absurd rfl hn | (simp [sgI]; omega)
        rw [e, hsub]
      · cases nb <;> cases ns <;> first | exact absurd rfl hn | (simp [sgI]; omega)
theorem sgI_pow (n : Bool) (x a : Nat) : sgI n (x : Int) * 2 ^ a = sgI n ((x * 2 ^ a : Nat) : Int) := by
  cases n <;> simp [sgI, Int.neg_mul]
theorem hlen (x : Nat) (h : x < 281474976710656) : Hid (∀ v : World, Calls Tryd.prog 74 #[.int .u64 (x : Int)] v fun e w' => e = .returned (.int .i64 (Lib.bitLen x : Int)) ∧ w' = v) := by
  intro v
  have h := len64_any (x : Int) (by omega) (by omega) v
  rw [show ((x : Nat) : Int).toNat = x by omega] at h
  exact h
/-- sumOf of two numbers above 0. -/
theorem sum_any (nx ny : Bool) (x y : Nat) (p q : Int) (x0 : 0 < x) (x1 : x < 281474976710656) (y0 : 0 < y) (y1 : y < 281474976710656) (p0 : -1000 ≤ p) (p1 : p ≤ 700) (q0 : -1000 ≤ q) (q1 : q ≤ 700) (F T : Int) (hF : F = p ∧ p ≤ q ∨ F = q ∧ q ≤ p) (hT : T = sgI nx (x : Int) * 2 ^ (p - F).toNat + sgI ny (y : Int) * 2 ^ (q - F).toNat) :
    ∃ (rn : Bool) (z : Nat) (P : Int) (rm : Bool) (r : Nat), (∀ v : World, Calls Tryd.prog 72 #[.agg #[.bool nx, .int .u64 (x : Int), .int .i64 p, .bool false], .agg #[.bool ny, .int .u64 (y : Int), .int .i64 q, .bool false]] v fun e w' => e = .returned (.agg #[.bool rn, .int .u64 (z : Int), .int .i64 P, .bool rm]) ∧ Below v.heap.size v w') ∧
      -2000 ≤ P ∧ P ≤ 700 ∧ z < 2 ^ 64 ∧ (rm = true → 2 ^ 30 ≤ z) ∧ rm = decide (r ≠ 0) ∧ r < 2 ^ (P - F).toNat ∧ T.natAbs * 2 ^ (F - P).toNat = z * 2 ^ (P - F).toNat + r ∧ (z ≠ 0 → decide (T < 0) = rn) ∧ (z = 0 → T = 0) := by
  have lx := Lib.bitLen_le x 64 (by decide) (by omega)
  have ly := Lib.bitLen_le y 64 (by decide) (by omega)
  rw [sgI_pow, sgI_pow] at hT
  by_cases hsw : (Lib.bitLen x : Int) + p < Lib.bitLen y + q
  · obtain ⟨bl, kp, r, P, more, HL, HW, bl0, bl1, kp1, hk, P0, P1, hm, hr, hB, hS⟩ := sum_facts ny nx y x q p y0 y1 x0 x1 (by omega) q0 q1 p0 p1 F (by omega)
    obtain ⟨rn, z, rm, r', hsame, hdiff, z1, z30, hrm, hr', hTu, hs, hz⟩ := sum_core ny nx bl kp r _ _ _ _ P more (p2 _) (p2 _) bl0 bl1 kp1 hk hm hr hB hS
    rw [Int.add_comm, ← hT] at hTu hs hz
    refine ⟨rn, z, P, rm, r', fun v => ?_, P0, P1, z1, z30, hrm, hr', hTu, hs, hz⟩
    by_cases hn : nx = ny
    · subst hn
      obtain ⟨g1, g2, g3⟩ := hsame rfl
      rw [g1, g2, g3]
      have h := sum_swap_same nx (x : Int) p (y : Int) q (Lib.bitLen x : Int) (Lib.bitLen y : Int) (bl : Int) P (kp : Int) more v (by omega) (by omega) (by omega) (by omega) (by omega) (by omega) (by omega) (by omega) (by omega) (by omega) hsw (hlen x x1) (hlen y y1) HL HW (by omega) (by omega)
      rw [show ((bl + kp : Nat) : Int) = (bl : Int) + kp by omega]
      exact h
    · have h1 : (nx == ny) = false := by cases nx <;> cases ny <;> first | rfl | exact absurd rfl hn
      have h2 : (ny == nx) = false := by cases nx <;> cases ny <;> first | rfl | exact absurd rfl hn
      exact sum_swap_diff nx ny rn rm (z : Int) h1 (x : Int) p (y : Int) q (Lib.bitLen x : Int) (Lib.bitLen y : Int) (bl : Int) P (kp : Int) more v (by omega) (by omega) (by omega) (by omega) (by omega) (by omega) (by omega) (by omega) (by omega) (by omega) hsw (hlen x x1) (hlen y y1) HL HW (hdiff h2)
  · obtain ⟨bl, kp, r, P, more, HL, HW, bl0, bl1, kp1, hk, P0, P1, hm, hr, hB, hS⟩ := sum_facts nx ny x y p q x0 x1 y0 y1 (by omega) p0 p1 q0 q1 F hF
    obtain ⟨rn, z, rm, r', hsame, hdiff, z1, z30, hrm, hr', hTu, hs, hz⟩ := sum_core nx ny bl kp r _ _ _ _ P more (p2 _) (p2 _) bl0 bl1 kp1 hk hm hr hB hS
    rw [← hT] at hTu hs hz
    refine ⟨rn, z, P, rm, r', fun v => ?_, P0, P1, z1, z30, hrm, hr', hTu, hs, hz⟩
    by_cases hn : nx = ny
    · subst hn
      obtain ⟨g1, g2, g3⟩ := hsame rfl
      rw [g1, g2, g3]
      have h := sum_keep_same nx (x : Int) p (y : Int) q (Lib.bitLen x : Int) (Lib.bitLen y : Int) (bl : Int) P (kp : Int) more v (by omega) (by omega) (by omega) (by omega) (by omega) (by omega) (by omega) (by omega) (by omega) (by omega) hsw (hlen x x1) (hlen y y1) HL HW (by omega) (by omega)
      rw [show ((bl + kp : Nat) : Int) = (bl : Int) + kp by omega]
      exact h
    · have h1 : (nx == ny) = false := by cases nx <;> cases ny <;> first | rfl | exact absurd rfl hn
      exact sum_keep_diff nx ny rn rm (z : Int) h1 (x : Int) p (y : Int) q (Lib.bitLen x : Int) (Lib.bitLen y : Int) (bl : Int) P (kp : Int) more v (by omega) (by omega) (by omega) (by omega) (by omega) (by omega) (by omega) (by omega) (by omega) (by omega) hsw (hlen x x1) (hlen y y1) HL HW (hdiff h1)
end Go.Proofs.YtoloenkcfpfgcaaDoor
namespace Go.Proofs.YtoloenkcfpfgcaaDoor
open Go.ChangeShapes Go.WideShapes Go.ChangeAt Go.RowKit
set_option linter.unusedVariables false
section
variable (nx ny rn rm : Bool) (x p y q z P mode R : Int) (w : World) (G : Forms w)
set_option maxHeartbeats 2000000 in
theorem rs_num (z0 : 0 < z) (HS : Hid (∀ v : World, Calls Tryd.prog 72 #[.agg #[.bool nx, .int .u64 x, .int .i64 p, .bool false], .agg #[.bool ny, .int .u64 y, .int .i64 q, .bool false]] v fun e w' => e = .returned (.agg #[.bool rn, .int .u64 z, .int .i64 P, .bool rm]) ∧ Below v.heap.size v w'))
    (HR : Hid (∀ v : World, Forms v → Calls Tryd.prog 55 #[.agg #[.bool rn, .int .u64 z, .int .i64 P, .bool rm], .int .i64 0, .int .i64 mode] v fun e w' => e = .returned (.int .u32 R) ∧ Below v.heap.size v w')) (G : Forms w) :
    Calls Tryd.prog 51 #[.agg #[.bool nx, .int .u64 x, .int .i64 p, .bool false], .agg #[.bool ny, .int .u64 y, .int .i64 q, .bool false], .int .i64 mode] w fun e w' => e = .returned (.int .u32 R) ∧ Below w.heap.size w w' := by
  go_enter Tryd.func51, Tryd.ntmps51
  go_wp2_with (first | (go_at_call 72; refine ((Hid.out HS) _).mono ?_; rintro e w1 ⟨rfl, hb1⟩; (have G1 : Forms w1 := ((G.next (al _ _)).next (al _ _)).next hb1); (have hz1 := hb1.size); (try simp at hz1); (have X1 := (hb1.block w.heap.size (by simp; omega)).trans ((Below.heap_alloc _ _ _ (by simp)).trans (heap_alloc_new _ _))); (have Y1 := (hb1.block (w.heap.size + 1) (by simp)).trans (heap_alloc_at (by simp))); obtain ⟨⟨x0, x1, x2, x3⟩, _⟩ := blk4 X1; obtain ⟨⟨u0, u1, u2, u3⟩, _⟩ := blk4 Y1) | (go_at_call 55; refine ((Hid.out HR) _ (G1.next (al _ _))).mono ?_; rintro e w2 ⟨rfl, hb2⟩))
  go_ret
  exact ⟨rfl, by repeat (first | (with_reducible refine Below.trans ?_ (hb2.mono (by first | omega | (simp; try omega)))) | (with_reducible refine Below.trans ?_ (hb1.mono (by first | omega | (simp; try omega)))) | (with_reducible refine Below.alloc ?_ (by first | omega | (simp; try omega)) _) | (with_reducible exact Below.refl _ _))⟩
set_option maxHeartbeats 2000000 in
theorem rs_same (HS : Hid (∀ v : World, Calls Tryd.prog 72 #[.agg #[.bool nx, .int .u64 x, .int .i64 p, .bool false], .agg #[.bool nx, .int .u64 y, .int .i64 q, .bool false]] v fun e w' => e = .returned (.agg #[.bool rn, .int .u64 0, .int .i64 P, .bool rm]) ∧ Below v.heap.size v w')) (G : Forms w) :
    Calls Tryd.prog 51 #[.agg #[.bool nx, .int .u64 x, .int .i64 p, .bool false], .agg #[.bool nx, .int .u64 y, .int .i64 q, .bool false], .int .i64 mode] w fun e w' => e = .returned (.int .u32 (sgn_w nx 0)) ∧ Below w.heap.size w w' := by
  go_enter Tryd.func51, Tryd.ntmps51
  go_wp2_with (first | (go_at_call 72; refine ((Hid.out HS) _).mono ?_; rintro e w1 ⟨rfl, hb1⟩; (have G1 : Forms w1 := ((G.next (al _ _)).next (al _ _)).next hb1); (have hz1 := hb1.size); (try simp at hz1); (have X1 := (hb1.block w.heap.size (by simp; omega)).trans ((Below.heap_alloc _ _ _ (by simp)).trans (heap_alloc_new _ _))); (have Y1 := (hb1.block (w.heap.size + 1) (by simp)).trans (heap_alloc_at (by simp))); (have X2 := (Below.heap_alloc w1 (.cells #[.bool rn, .int .u64 0, .int .i64 P, .bool rm] 72) w.heap.size (by omega)).trans X1); (have Y2 := (Below.heap_alloc w1 (.cells #[.bool rn, .int .u64 0, .int .i64 P, .bool rm] 72) (w.heap.size + 1) (by omega)).trans Y1); obtain ⟨⟨x0, x1, x2, x3⟩, _⟩ := blk4 X2; obtain ⟨⟨u0, u1, u2, u3⟩, _⟩ := blk4 Y2) | (go_at_call 73; refine (withSign_w 0 _ (by decide) (by decide) _ (G1.next (al _ _)).c2).mono ?_; rintro e w' ⟨rfl, hw⟩; subst w'))
  go_ret
  exact ⟨rfl, by repeat (first | (with_reducible refine Below.trans ?_ (hb1.mono (by first | omega | (simp; try omega)))) | (with_reducible refine Below.alloc ?_ (by first | omega | (simp; try omega)) _) | (with_reducible exact Below.refl _ _))⟩
set_option maxHeartbeats 2000000 in
theorem rs_diff (hn : (nx == ny) = false) (HS : Hid (∀ v : World, Calls Tryd.prog 72 #[.agg #[.bool nx, .int .u64 x, .int .i64 p, .bool false], .agg #[.bool ny, .int .u64 y, .int .i64 q, .bool false]] v fun e w' => e = .returned (.agg #[.bool rn, .int .u64 0, .int .i64 P, .bool rm]) ∧ Below v.heap.size v w')) (G : Forms w) :
    Calls Tryd.prog 51 #[.agg #[.bool nx, .int .u64 x, .int .i64 p, .bool false], .agg #[.bool ny, .int .u64 y, .int .i64 q, .bool false], .int .i64 mode] w fun e w' => e = .returned (.int .u32 (sgn_w (decide (mode = 4)) 0)) ∧ Below w.heap.size w w' := by
  have hd : (mode == 4) = decide (mode = 4) := rfl
  go_enter Tryd.func51, Tryd.ntmps51
  go_wp2_with (first | (go_at_call 72; refine ((Hid.out HS) _).mono ?_; rintro e w1 ⟨rfl, hb1⟩; (have G1 : Forms w1 := ((G.next (al _ _)).next (al _ _)).next hb1); (have hz1 := hb1.size); (try simp at hz1); (have X1 := (hb1.block w.heap.size (by simp; omega)).trans ((Below.heap_alloc _ _ _ (by simp)).trans (heap_alloc_new _ _))); (have Y1 := (hb1.block (w.heap.size + 1) (by simp)).trans (heap_alloc_at (by simp))); (have X2 := (Below.heap_alloc w1 (.cells #[.bool rn, .int .u64 0, .int .i64 P, .bool rm] 72) w.heap.size (by omega)).trans X1); (have Y2 := (Below.heap_alloc w1 (.cells #[.bool rn, .int .u64 0, .int .i64 P, .bool rm] 72) (w.heap.size + 1) (by omega)).trans Y1); obtain ⟨⟨x0, x1, x2, x3⟩, _⟩ := blk4 X2; obtain ⟨⟨u0, u1, u2, u3⟩, _⟩ := blk4 Y2) | (go_at_call 73; refine (withSign_w 0 _ (by decide) (by decide) _ (G1.next (al _ _)).c2).mono ?_; rintro e w' ⟨rfl, hw⟩; subst w'))
  go_ret
  exact ⟨rfl, by repeat (first | (with_reducible refine Below.trans ?_ (hb1.mono (by first | omega | (simp; try omega)))) | (with_reducible refine Below.alloc ?_ (by first | omega | (simp; try omega)) _) | (with_reducible exact Below.refl _ _))⟩
end
/-- The sum's size: how great it can be. -/
theorem T_big (nx ny : Bool) (x y : Nat) (p q F T : Int) (x1 : x < 281474976710656) (y1 : y < 281474976710656) (p0 : -400 ≤ p) (p1 : p ≤ 300) (q0 : -400 ≤ q) (q1 : q ≤ 300) (hF : F = p ∧ p ≤ q ∨ F = q ∧ q ≤ p) (hT : T = sgI nx (x : Int) * 2 ^ (p - F).toNat + sgI ny (y : Int) * 2 ^ (q - F).toNat) : T.natAbs * 2 ^ F.toNat < 1000000000 ^ 60 := by
  obtain ⟨k7, h7⟩ : ∃ k : Nat, k = 700 := ⟨_, rfl⟩
  obtain ⟨k3, h3⟩ : ∃ k : Nat, k = 300 := ⟨_, rfl⟩
  obtain ⟨k10, h10⟩ : ∃ k : Nat, k = 1000 := ⟨_, rfl⟩
  have hx : x * 2 ^ (p - F).toNat ≤ 281474976710656 * 2 ^ k7 := Nat.mul_le_mul (by omega) (Nat.pow_le_pow_right (by decide) (by omega))
  have hy : y * 2 ^ (q - F).toNat ≤ 281474976710656 * 2 ^ k7 := Nat.mul_le_mul (by omega) (Nat.pow_le_pow_right (by decide) (by omega))
  rw [sgI_pow, sgI_pow] at hT
  obtain ⟨A, hA⟩ : ∃ A, x * 2 ^ (p - F).toNat = A := ⟨_, rfl⟩
  obtain ⟨B, hB⟩ : ∃ A, y * 2 ^ (q - F).toNat = A := ⟨_, rfl⟩
  obtain ⟨C, hC⟩ : ∃ C : Nat, 281474976710656 * 2 ^ k7 = C := ⟨_, rfl⟩
  rw [hA] at hT hx
  rw [hB] at hT hy
  rw [hC] at hx hy
  have hle : T.natAbs ≤ 2 * C := by rw [hT]; cases nx <;> cases ny <;> simp only [sgI, Bool.false_eq_true, if_true, if_false] <;> omega
  have h2 : T.natAbs * 2 ^ F.toNat ≤ 2 * C * 2 ^ k3 := Nat.mul_le_mul hle (Nat.pow_le_pow_right (by decide) (by omega))
  have e : 2 * C * 2 ^ k3 = 562949953421312 * 2 ^ k10 := by rw [← hC, show k10 = k7 + k3 by omega, Nat.pow_add, show (562949953421312 : Nat) = 2 * 281474976710656 by decide]; simp only [Nat.mul_assoc]
  rw [e] at h2
  exact Nat.lt_of_le_of_lt h2 (big_lt 562949953421312 k10 (by decide) (by omega))
/-- The sum of two numbers above 0: the program's roundSum and the model's l1Told of the sum answer alike; where the sum is 0 the signs are unlike. -/
theorem sum_both (nx ny : Bool) (x y : Nat) (p q mode : Int) (m0 : 0 ≤ mode) (m4 : mode ≤ 4) (x0 : 0 < x) (x1 : x < 281474976710656) (y0 : 0 < y) (y1 : y < 281474976710656) (p0 : -400 ≤ p) (p1 : p ≤ 300) (q0 : -400 ≤ q) (q1 : q ≤ 300) (F T : Int) (hF : F = p ∧ p ≤ q ∨ F = q ∧ q ≤ p) (hT : T = sgI nx (x : Int) * 2 ^ (p - F).toNat + sgI ny (y : Int) * 2 ^ (q - F).toNat) :
    (T = 0 ∧ ∀ w : World, Forms w → Calls Tryd.prog 51 #[.agg #[.bool nx, .int .u64 (x : Int), .int .i64 p, .bool false], .agg #[.bool ny, .int .u64 (y : Int), .int .i64 q, .bool false], .int .i64 mode] w fun e w' => e = .returned (.int .u32 (sgn_w (decide (mode = 4)) 0)) ∧ Below w.heap.size w w') ∨
    (T ≠ 0 ∧ ∃ R : Int, 0 ≤ R ∧ R < 4294967296 ∧ (∀ w : World, Forms w → Calls Tryd.prog 51 #[.agg #[.bool nx, .int .u64 (x : Int), .int .i64 p, .bool false], .agg #[.bool ny, .int .u64 (y : Int), .int .i64 q, .bool false], .int .i64 mode] w fun e w' => e = .returned (.int .u32 R) ∧ Below w.heap.size w w') ∧
      (∀ (v : World) (K L : Nat) (VP VQ : Int) (gP gQ : Bool) (pP pQ : Option Addr) (lP cP lQ cQ : Nat), Num v K (.agg #[.int .i64 VP, .bool gP, .slice pP lP cP]) T → Num v L (.agg #[.int .i64 VQ, .bool gQ, .slice pQ lQ cQ]) 1 → 2 ≤ K → K ≤ 9000 →
        Calls Tryd.prog 35 #[.agg #[.int .i64 VP, .bool gP, .slice pP lP cP, .int .i64 VQ, .bool gQ, .slice pQ lQ cQ, .int .i64 F], .agg #[.int .i64 24, .int .i64 (-149), .int .i64 104], .int .i64 mode] v fun e w' => e = .returned (.int .i64 R) ∧ Below v.heap.size v w')) := by
  obtain ⟨rn, z, P, rm, r, HS, P0, P1, z1, z30, hrm, hr, hTu, hs, hz⟩ := sum_any nx ny x y p q x0 x1 y0 y1 (by omega) (by omega) (by omega) (by omega) F T hF hT
  have big := T_big nx ny x y p q F T x1 y1 p0 p1 q0 q1 hF hT
  by_cases hz0 : z = 0
  · refine Or.inl ⟨hz hz0, fun w G => ?_⟩
    have hT0 := hz hz0
    have hn : (nx == ny) = false := by
      rw [hT0, sgI_pow, sgI_pow] at hT
      have a1 : 0 < x * 2 ^ (p - F).toNat := Nat.mul_pos x0 (p2 _)
      have a2 : 0 < y * 2 ^ (q - F).toNat := Nat.mul_pos y0 (p2 _)
      obtain ⟨A, hA⟩ : ∃ A, x * 2 ^ (p - F).toNat = A := ⟨_, rfl⟩
      obtain ⟨B, hB⟩ : ∃ A, y * 2 ^ (q - F).toNat = A := ⟨_, rfl⟩
      rw [hA] at hT a1
      rw [hB] at hT a2
      cases nx <;> cases ny <;> first | rfl | (exfalso; simp only [sgI, Bool.false_eq_true, if_true, if_false] at hT; omega)
    subst hz0
    exact rs_diff nx ny rn rm (x : Int) p (y : Int) q P mode w hn HS G
  · have Tn : T ≠ 0 := by
      intro h0
      rw [h0] at hTu
      simp only [Int.natAbs_zero, Nat.zero_mul] at hTu
      have : 0 < z * 2 ^ (P - F).toNat := Nat.mul_pos (by omega) (p2 _)
      omega
    obtain ⟨g1, g2⟩ := quot_g T.natAbs 1 F P
    have hdiv : T.natAbs * 2 ^ (F - P).toNat / (1 * 2 ^ (P - F).toNat) = z := by
      rw [hTu, Nat.one_mul, Nat.add_comm, Nat.add_mul_div_right _ _ (p2 _), Nat.div_eq_of_lt hr, Nat.zero_add]
    have hmod : T.natAbs * 2 ^ (F - P).toNat % (1 * 2 ^ (P - F).toNat) = r := by
      rw [hTu, Nat.one_mul, Nat.add_comm, Nat.add_mul_mod_self_right, Nat.mod_eq_of_lt hr]
    obtain ⟨R, R0, R1, hi, hsp⟩ := both_w rn z P rm mode m0 m4 (by omega) (by omega) (by omega) (by omega) T 1 F Tn (by omega) (by omega) (T.natAbs * 2 ^ F.toNat) (1 * 2 ^ (-F).toNat) T.natAbs 1 rfl rfl rfl rfl (by decide) big (big_lt 1 _ (by decide) (by omega)) (hs hz0) (by rw [g1, hdiv]) (by
      rw [hrm]
      rw [hmod] at g2
      simp only [Ne, g2]) z30
    exact Or.inr ⟨Tn, R, R0, R1, fun w G => rs_num nx ny rn rm (x : Int) p (y : Int) q (z : Int) P mode R w (by omega) HS hi G, hsp⟩
end Go.Proofs.YtoloenkcfpfgcaaDoor
namespace Go.Proofs.YtoloenkcfpfgcaaDoor
open Go.ChangeShapes Go.WideShapes Go.ChangeAt Go.RowKit
set_option linter.unusedVariables false
/-- A word's own number, rounded, is that word. -/
theorem word_back (c mode : Int) (c0 : 0 ≤ c) (c1 : c < 4294967296) (k0 : 0 < c % 2147483648) (k1 : c % 2147483648 < 2139095040) (w : World) (G : Forms w) :
    Calls Tryd.prog 55 #[.agg #[.bool (decide (2147483648 ≤ c)), .int .u64 (exS (c % 2147483648)), .int .i64 (exP (c % 2147483648)), .bool false], .int .i64 0, .int .i64 mode] w fun e w' => e = .returned (.int .u32 c) ∧ Below w.heap.size w w' := by
  obtain ⟨r, hr⟩ : ∃ r, c % 2147483648 = r := ⟨_, rfl⟩
  rw [hr] at k0 k1 ⊢
  have hcr : sgn_w (decide (2147483648 ≤ c)) r = c := by
    unfold sgn_w
    by_cases h : 2147483648 ≤ c
    · simp [h]; omega
    · simp [h]; omega
  have sb : 0 < exS r ∧ exS r < 16777216 ∧ exS r + (exP r + 149) * 8388608 = r ∧ -149 ≤ exP r ∧ exP r ≤ 105 ∧ (exP r = -149 ∨ 8388608 ≤ exS r) := by
    clear hcr hr
    unfold exS exP
    (repeat' split) <;> omega
  obtain ⟨S, hS⟩ : ∃ S, exS r = S := ⟨_, rfl⟩
  obtain ⟨p, hp⟩ : ∃ E, exP r = E := ⟨_, rfl⟩
  rw [hS, hp] at sb ⊢
  obtain ⟨s0, s1, s2, p0, p1, s3⟩ := sb
  obtain ⟨s, rfl⟩ := Int.eq_ofNat_of_zero_le (show 0 ≤ S by omega)
  have l24 := Lib.bitLen_le s 24 (by decide) (by omega)
  obtain ⟨L0, lb0, lb1⟩ := bitLen_spec s (by omega) (by omega)
  obtain ⟨L, hL⟩ : ∃ L, Lib.bitLen s = L := ⟨_, rfl⟩
  rw [hL] at l24 L0 lb0 lb1
  have lp : p = -149 ∨ L = 24 := by
    rcases s3 with h | h
    · exact Or.inl h
    · right
      rcases Nat.lt_or_ge L 24 with g | g
      · have : 2 ^ L ≤ 2 ^ 23 := Nat.pow_le_pow_right (by decide) (by omega)
        omega
      · omega
  have h := rx_up_w (decide (2147483648 ≤ c)) (s : Int) p mode false w G (by omega) (by omega) (by omega) (by omega) (L : Int) p (s : Int) (by rw [show ((s : Nat) : Int).toNat = s by omega, hL]) (by omega) (by omega) p0 (by omega) (by omega) (by rw [show p - p = 0 by omega]; simp; omega) (by omega) (by omega)
  have ht : told_w mode (decide (2147483648 ≤ c)) (s : Int) p = c := by
    unfold told_w
    rw [show (s : Int) + (p - (-149)) * 8388608 = r by omega, if_neg (by omega)]
    exact hcr
  rw [ht] at h
  exact h
theorem nil83 (a b : Bool) (mode : Int) (w : World) : Calls Tryd.prog 31 #[.bool a, .bool b, .int .i64 mode] w fun e w' => e = .returned (.int .u32 (sgn_w (if a == b then a else decide (mode = 4)) 0)) ∧ w' = w := by
  have hd : (mode == 4) = decide (mode = 4) := rfl
  cases a <;> cases b
  all_goals
    go_enter Tryd.func31, Tryd.ntmps31
    go_wp2_with (go_at_call 29; refine (sSigned _ 0 (by decide) (by decide) _).mono ?_; rintro e w' ⟨rfl, hw⟩; subst w')
    all_goals go_ret
    all_goals first | exact ⟨rfl, rfl⟩ | (refine ⟨?_, rfl⟩; simp [sgn_w, *])
namespace fnExactFuseWords
theorem i_bad (a b c mode : Int) (hm : ¬ (0 ≤ mode ∧ mode ≤ 4)) (w : World) : Calls Tryd.prog 22 #[.int .u32 a, .int .u32 b, .int .u32 c, .int .i64 mode] w fun e w' => e = .returned (.int .u32 0) ∧ Below w.heap.size w w' := by
  have hg := goodMode_any mode w
  rw [decide_eq_false hm] at hg
  go_enter Tryd.func22, Tryd.ntmps22
  go_wp2_with (go_at_call 48; refine hg.mono ?_; rintro e w' ⟨rfl, hw⟩; subst w')
  go_ret
  exact ⟨rfl, Below.refl _ _⟩
section
variable (a b c mode x y z : Int) (SA SB SC : Bool) (hm : 0 ≤ mode ∧ mode ≤ 4) (a0 : 0 ≤ a) (a1 : a < 4294967296) (b0 : 0 ≤ b) (b1 : b < 4294967296) (c0 : 0 ≤ c) (c1 : c < 4294967296) (hx : kindI (a % 2147483648) = x) (hy : kindI (b % 2147483648) = y) (hz : kindI (c % 2147483648) = z) (hSA : decide (2147483648 ≤ a) = SA) (hSB : decide (2147483648 ≤ b) = SB) (hSC : decide (2147483648 ≤ c) = SC)
include hm a0 a1 b0 b1 c0 c1 hx hy hz in
set_option maxHeartbeats 4000000 in
theorem i_nan (w : World) (G : Forms w) (hc : x = 3 ∨ y = 3 ∨ z = 3 ∨ x = 0 ∧ y = 2 ∨ x = 2 ∧ y = 0) : Calls Tryd.prog 22 #[.int .u32 a, .int .u32 b, .int .u32 c, .int .i64 mode] w fun e w' => e = .returned (.int .u32 2143289344) ∧ Below w.heap.size w w' := by
  have xb := kind_bd (a % 2147483648)
  have yb := kind_bd (b % 2147483648)
  have zb := kind_bd (c % 2147483648)
  rw [hx] at xb
  rw [hy] at yb
  rw [hz] at zb
  have hg := goodMode_any mode w
  rw [decide_eq_true hm] at hg
  have hA := kindOf_w a a0 a1 w G
  have hB := kindOf_w b b0 b1 w G
  have hC := kindOf_w c c0 c1 w G
  rw [hx] at hA
  rw [hy] at hB
  rw [hz] at hC
  have hZI := noughtInf x y xb.1 xb.2 yb.1 yb.2 w
  obtain ⟨zi, hzi⟩ : ∃ zi, decide (x = 0 ∧ y = 2 ∨ x = 2 ∧ y = 0) = zi := ⟨_, rfl⟩
  rw [hzi] at hZI
  clear hx hy hz
  rcases (by omega : x = 0 ∨ x = 1 ∨ x = 2 ∨ x = 3) with rfl | rfl | rfl | rfl <;> rcases (by omega : y = 0 ∨ y = 1 ∨ y = 2 ∨ y = 3) with rfl | rfl | rfl | rfl <;> try (exfalso; omega)
  all_goals cases zi
  all_goals try (exfalso; revert hzi; decide)
  all_goals rcases (by omega : z = 0 ∨ z = 1 ∨ z = 2 ∨ z = 3) with rfl | rfl | rfl | rfl
  all_goals first | (exfalso; omega) | (
    clear hc hzi
    go_enter Tryd.func22, Tryd.ntmps22
    go_wp2_with (first | (go_at_call 48; refine hg.mono ?_; rintro e w' ⟨rfl, hw⟩; subst w') | (go_at_call 46; (with_reducible show Calls Tryd.prog 46 #[Value.int IntKind.u32 a, Value.int IntKind.i64 0] _ _); refine hA.mono ?_; rintro e w' ⟨rfl, hw⟩; subst w') | (go_at_call 46; (with_reducible show Calls Tryd.prog 46 #[Value.int IntKind.u32 b, Value.int IntKind.i64 0] _ _); refine hB.mono ?_; rintro e w' ⟨rfl, hw⟩; subst w') | (go_at_call 46; (with_reducible show Calls Tryd.prog 46 #[Value.int IntKind.u32 c, Value.int IntKind.i64 0] _ _); refine hC.mono ?_; rintro e w' ⟨rfl, hw⟩; subst w') | (go_at_call 50; (with_reducible show Calls Tryd.prog 50 #[Value.int IntKind.u32 c, Value.int IntKind.i64 0] _ _); refine hSc.mono ?_; rintro e w' ⟨rfl, hw⟩; subst w') | (go_at_call 50; (try rw [hxv]); refine hS.mono ?_; rintro e w' ⟨rfl, hw⟩; subst w') | (go_at_call 49; refine hZI.mono ?_; rintro e w' ⟨rfl, hw⟩; subst w') | (go_at_call 54; refine (infiniteOf_w _ G).mono ?_; rintro e w' ⟨rfl, hw⟩; subst w'))
    go_ret
    exact ⟨rfl, Below.refl _ _⟩)
include hm a0 a1 b0 b1 c0 c1 hx hy hz hSA hSB hSC in
set_option maxHeartbeats 4000000 in
theorem i_fin (w : World) (G : Forms w) (R : Int) (ps pp cs cp : Int) (HP : Hid (∀ v : World, Forms v → Calls Tryd.prog 52 #[.int .u32 a, .int .u32 b] v fun e w' => e = .returned (.agg #[.bool (SA != SB), .int .u64 ps, .int .i64 pp, .bool false]) ∧ Below v.heap.size v w')) (HE : Hid (∀ v : World, Forms v → Calls Tryd.prog 53 #[.int .u32 c, .int .i64 0] v fun e w' => e = .returned (.agg #[.bool SC, .int .u64 cs, .int .i64 cp, .bool false]) ∧ Below v.heap.size v w')) (HR : Hid (∀ v : World, Forms v → Calls Tryd.prog 51 #[.agg #[.bool (SA != SB), .int .u64 ps, .int .i64 pp, .bool false], .agg #[.bool SC, .int .u64 cs, .int .i64 cp, .bool false], .int .i64 mode] v fun e w' => e = .returned (.int .u32 R) ∧ Below v.heap.size v w')) (hc : (x = 0 ∨ x = 1) ∧ (y = 0 ∨ y = 1) ∧ (z = 0 ∨ z = 1)) : Calls Tryd.prog 22 #[.int .u32 a, .int .u32 b, .int .u32 c, .int .i64 mode] w fun e w' => e = .returned (.int .u32 R) ∧ Below w.heap.size w w' := by
  have xb := kind_bd (a % 2147483648)
  have yb := kind_bd (b % 2147483648)
  have zb := kind_bd (c % 2147483648)
  rw [hx] at xb
  rw [hy] at yb
  rw [hz] at zb
  have hg := goodMode_any mode w
  rw [decide_eq_true hm] at hg
  have hA := kindOf_w a a0 a1 w G
  have hB := kindOf_w b b0 b1 w G
  have hC := kindOf_w c c0 c1 w G
  rw [hx] at hA
  rw [hy] at hB
  rw [hz] at hC
  obtain ⟨v0, v1, v2⟩ := xor_sign a b a0 a1 b0 b1
  rw [hSA, hSB] at v2
  obtain ⟨xv, hxv⟩ : ∃ xv, bits .xor .u32 a b = xv := ⟨_, rfl⟩
  rw [hxv] at v0 v1 v2
  have hS := signOf_w xv v0 v1 w G.c2
  rw [v2] at hS
  have hO := or_inf (SA != SB)
  obtain ⟨SG, hSG⟩ : ∃ SG : Int, (if (SA != SB) = true then (2147483648 : Int) else 0) = SG := ⟨_, rfl⟩
  rw [hSG] at hS hO
  have hSc := signOf_w c c0 c1 w G.c2
  obtain ⟨SK, hSK⟩ : ∃ SK : Int, c / 2147483648 * 2147483648 = SK := ⟨_, rfl⟩
  rw [hSK] at hSc
  have hsk : SK = if SC = true then 2147483648 else 0 := by rw [← hSK, ← hSC]; by_cases h : 2147483648 ≤ c <;> simp [h] <;> omega
  have hZI := noughtInf x y xb.1 xb.2 yb.1 yb.2 w
  obtain ⟨zi, hzi⟩ : ∃ zi, decide (x = 0 ∧ y = 2 ∨ x = 2 ∧ y = 0) = zi := ⟨_, rfl⟩
  rw [hzi] at hZI
  clear v0 v1 v2 hx hy hz hSK
  rcases (by omega : x = 0 ∨ x = 1 ∨ x = 2 ∨ x = 3) with rfl | rfl | rfl | rfl <;> rcases (by omega : y = 0 ∨ y = 1 ∨ y = 2 ∨ y = 3) with rfl | rfl | rfl | rfl <;> try (exfalso; omega)
  all_goals cases zi
  all_goals try (exfalso; revert hzi; decide)
  all_goals rcases (by omega : z = 0 ∨ z = 1 ∨ z = 2 ∨ z = 3) with rfl | rfl | rfl | rfl
  all_goals first | (exfalso; omega) | (
    clear hc hzi
    go_enter Tryd.func22, Tryd.ntmps22
    go_wp2_with (first | (go_at_call 48; refine hg.mono ?_; rintro e w' ⟨rfl, hw⟩; subst w') | (go_at_call 46; (with_reducible show Calls Tryd.prog 46 #[Value.int IntKind.u32 a, Value.int IntKind.i64 0] _ _); refine hA.mono ?_; rintro e w' ⟨rfl, hw⟩; subst w') | (go_at_call 46; (with_reducible show Calls Tryd.prog 46 #[Value.int IntKind.u32 b, Value.int IntKind.i64 0] _ _); refine hB.mono ?_; rintro e w' ⟨rfl, hw⟩; subst w') | (go_at_call 46; (with_reducible show Calls Tryd.prog 46 #[Value.int IntKind.u32 c, Value.int IntKind.i64 0] _ _); refine hC.mono ?_; rintro e w' ⟨rfl, hw⟩; subst w') | (go_at_call 50; (with_reducible show Calls Tryd.prog 50 #[Value.int IntKind.u32 c, Value.int IntKind.i64 0] _ _); refine hSc.mono ?_; rintro e w' ⟨rfl, hw⟩; subst w') | (go_at_call 50; (try rw [hxv]); refine hS.mono ?_; rintro e w' ⟨rfl, hw⟩; subst w') | (go_at_call 49; refine hZI.mono ?_; rintro e w' ⟨rfl, hw⟩; subst w') | (go_at_call 54; refine (infiniteOf_w _ G).mono ?_; rintro e w' ⟨rfl, hw⟩; subst w') | (go_at_call 52; refine ((Hid.out HP) w G).mono ?_; rintro e w1 ⟨rfl, hb1⟩; (have G1 := G.next hb1)) | (go_at_call 53; refine ((Hid.out HE) w1 G1).mono ?_; rintro e w2 ⟨rfl, hb2⟩; (have G2 := G1.next hb2)) | (go_at_call 51; refine ((Hid.out HR) w2 G2).mono ?_; rintro e w3 ⟨rfl, hb3⟩))
    go_ret
    exact ⟨rfl, (hb1.trans (hb2.mono hb1.size)).trans (hb3.mono (Nat.le_trans hb1.size hb2.size))⟩)
include hm a0 a1 b0 b1 c0 c1 hx hy hz hSA hSB hSC in
set_option maxHeartbeats 4000000 in
theorem i_c (w : World) (G : Forms w) (hc : (x = 0 ∨ x = 1) ∧ (y = 0 ∨ y = 1) ∧ z = 2) : Calls Tryd.prog 22 #[.int .u32 a, .int .u32 b, .int .u32 c, .int .i64 mode] w fun e w' => e = .returned (.int .u32 c) ∧ Below w.heap.size w w' := by
  have xb := kind_bd (a % 2147483648)
  have yb := kind_bd (b % 2147483648)
  have zb := kind_bd (c % 2147483648)
  rw [hx] at xb
  rw [hy] at yb
  rw [hz] at zb
  have hg := goodMode_any mode w
  rw [decide_eq_true hm] at hg
  have hA := kindOf_w a a0 a1 w G
  have hB := kindOf_w b b0 b1 w G
  have hC := kindOf_w c c0 c1 w G
  rw [hx] at hA
  rw [hy] at hB
  rw [hz] at hC
  obtain ⟨v0, v1, v2⟩ := xor_sign a b a0 a1 b0 b1
  rw [hSA, hSB] at v2
  obtain ⟨xv, hxv⟩ : ∃ xv, bits .xor .u32 a b = xv := ⟨_, rfl⟩
  rw [hxv] at v0 v1 v2
  have hS := signOf_w xv v0 v1 w G.c2
  rw [v2] at hS
  have hO := or_inf (SA != SB)
  obtain ⟨SG, hSG⟩ : ∃ SG : Int, (if (SA != SB) = true then (2147483648 : Int) else 0) = SG := ⟨_, rfl⟩
  rw [hSG] at hS hO
  have hSc := signOf_w c c0 c1 w G.c2
  obtain ⟨SK, hSK⟩ : ∃ SK : Int, c / 2147483648 * 2147483648 = SK := ⟨_, rfl⟩
  rw [hSK] at hSc
  have hsk : SK = if SC = true then 2147483648 else 0 := by rw [← hSK, ← hSC]; by_cases h : 2147483648 ≤ c <;> simp [h] <;> omega
  have hZI := noughtInf x y xb.1 xb.2 yb.1 yb.2 w
  obtain ⟨zi, hzi⟩ : ∃ zi, decide (x = 0 ∧ y = 2 ∨ x = 2 ∧ y = 0) = zi := ⟨_, rfl⟩
  rw [hzi] at hZI
  clear v0 v1 v2 hx hy hz hSK
  rcases (by omega : x = 0 ∨ x = 1 ∨ x = 2 ∨ x = 3) with rfl | rfl | rfl | rfl <;> rcases (by omega : y = 0 ∨ y = 1 ∨ y = 2 ∨ y = 3) with rfl | rfl | rfl | rfl <;> try (exfalso; omega)
  all_goals cases zi
  all_goals try (exfalso; revert hzi; decide)
  all_goals rcases (by omega : z = 0 ∨ z = 1 ∨ z = 2 ∨ z = 3) with rfl | rfl | rfl | rfl
  all_goals first | (exfalso; omega) | (
    clear hc hzi
    go_enter Tryd.func22, Tryd.ntmps22
    go_wp2_with (first | (go_at_call 48; refine hg.mono ?_; rintro e w' ⟨rfl, hw⟩; subst w') | (go_at_call 46; (with_reducible show Calls Tryd.prog 46 #[Value.int IntKind.u32 a, Value.int IntKind.i64 0] _ _); refine hA.mono ?_; rintro e w' ⟨rfl, hw⟩; subst w') | (go_at_call 46; (with_reducible show Calls Tryd.prog 46 #[Value.int IntKind.u32 b, Value.int IntKind.i64 0] _ _); refine hB.mono ?_; rintro e w' ⟨rfl, hw⟩; subst w') | (go_at_call 46; (with_reducible show Calls Tryd.prog 46 #[Value.int IntKind.u32 c, Value.int IntKind.i64 0] _ _); refine hC.mono ?_; rintro e w' ⟨rfl, hw⟩; subst w') | (go_at_call 50; (with_reducible show Calls Tryd.prog 50 #[Value.int IntKind.u32 c, Value.int IntKind.i64 0] _ _); refine hSc.mono ?_; rintro e w' ⟨rfl, hw⟩; subst w') | (go_at_call 50; (try rw [hxv]); refine hS.mono ?_; rintro e w' ⟨rfl, hw⟩; subst w') | (go_at_call 49; refine hZI.mono ?_; rintro e w' ⟨rfl, hw⟩; subst w') | (go_at_call 54; refine (infiniteOf_w _ G).mono ?_; rintro e w' ⟨rfl, hw⟩; subst w'))
    go_ret
    exact ⟨rfl, Below.refl _ _⟩)
include hm a0 a1 b0 b1 c0 c1 hx hy hz hSA hSB hSC in
set_option maxHeartbeats 4000000 in
theorem i_infA (w : World) (G : Forms w) (hc : (x = 2 ∧ (y = 1 ∨ y = 2) ∨ x = 1 ∧ y = 2) ∧ (z = 0 ∨ z = 1)) : Calls Tryd.prog 22 #[.int .u32 a, .int .u32 b, .int .u32 c, .int .i64 mode] w fun e w' => e = .returned (.int .u32 (sgn_w (SA != SB) 2139095040)) ∧ Below w.heap.size w w' := by
  have xb := kind_bd (a % 2147483648)
  have yb := kind_bd (b % 2147483648)
  have zb := kind_bd (c % 2147483648)
  rw [hx] at xb
  rw [hy] at yb
  rw [hz] at zb
  have hg := goodMode_any mode w
  rw [decide_eq_true hm] at hg
  have hA := kindOf_w a a0 a1 w G
  have hB := kindOf_w b b0 b1 w G
  have hC := kindOf_w c c0 c1 w G
  rw [hx] at hA
  rw [hy] at hB
  rw [hz] at hC
  obtain ⟨v0, v1, v2⟩ := xor_sign a b a0 a1 b0 b1
  rw [hSA, hSB] at v2
  obtain ⟨xv, hxv⟩ : ∃ xv, bits .xor .u32 a b = xv := ⟨_, rfl⟩
  rw [hxv] at v0 v1 v2
  have hS := signOf_w xv v0 v1 w G.c2
  rw [v2] at hS
  have hO := or_inf (SA != SB)
  obtain ⟨SG, hSG⟩ : ∃ SG : Int, (if (SA != SB) = true then (2147483648 : Int) else 0) = SG := ⟨_, rfl⟩
  rw [hSG] at hS hO
  have hSc := signOf_w c c0 c1 w G.c2
  obtain ⟨SK, hSK⟩ : ∃ SK : Int, c / 2147483648 * 2147483648 = SK := ⟨_, rfl⟩
  rw [hSK] at hSc
  have hsk : SK = if SC = true then 2147483648 else 0 := by rw [← hSK, ← hSC]; by_cases h : 2147483648 ≤ c <;> simp [h] <;> omega
  have hZI := noughtInf x y xb.1 xb.2 yb.1 yb.2 w
  obtain ⟨zi, hzi⟩ : ∃ zi, decide (x = 0 ∧ y = 2 ∨ x = 2 ∧ y = 0) = zi := ⟨_, rfl⟩
  rw [hzi] at hZI
  clear v0 v1 v2 hx hy hz hSK
  rcases (by omega : x = 0 ∨ x = 1 ∨ x = 2 ∨ x = 3) with rfl | rfl | rfl | rfl <;> rcases (by omega : y = 0 ∨ y = 1 ∨ y = 2 ∨ y = 3) with rfl | rfl | rfl | rfl <;> try (exfalso; omega)
  all_goals cases zi
  all_goals try (exfalso; revert hzi; decide)
  all_goals rcases (by omega : z = 0 ∨ z = 1 ∨ z = 2 ∨ z = 3) with rfl | rfl | rfl | rfl
  all_goals first | (exfalso; omega) | (
    clear hc hzi
    go_enter Tryd.func22, Tryd.ntmps22
    go_wp2_with (first | (go_at_call 48; refine hg.mono ?_; rintro e w' ⟨rfl, hw⟩; subst w') | (go_at_call 46; (with_reducible show Calls Tryd.prog 46 #[Value.int IntKind.u32 a, Value.int IntKind.i64 0] _ _); refine hA.mono ?_; rintro e w' ⟨rfl, hw⟩; subst w') | (go_at_call 46; (with_reducible show Calls Tryd.prog 46 #[Value.int IntKind.u32 b, Value.int IntKind.i64 0] _ _); refine hB.mono ?_; rintro e w' ⟨rfl, hw⟩; subst w') | (go_at_call 46; (with_reducible show Calls Tryd.prog 46 #[Value.int IntKind.u32 c, Value.int IntKind.i64 0] _ _); refine hC.mono ?_; rintro e w' ⟨rfl, hw⟩; subst w') | (go_at_call 50; (with_reducible show Calls Tryd.prog 50 #[Value.int IntKind.u32 c, Value.int IntKind.i64 0] _ _); refine hSc.mono ?_; rintro e w' ⟨rfl, hw⟩; subst w') | (go_at_call 50; (try rw [hxv]); refine hS.mono ?_; rintro e w' ⟨rfl, hw⟩; subst w') | (go_at_call 49; refine hZI.mono ?_; rintro e w' ⟨rfl, hw⟩; subst w') | (go_at_call 54; refine (infiniteOf_w _ G).mono ?_; rintro e w' ⟨rfl, hw⟩; subst w'))
    go_ret
    exact ⟨by first | rfl | (rw [← hO]; rfl), Below.refl _ _⟩)
include hm a0 a1 b0 b1 c0 c1 hx hy hz hSA hSB hSC in
set_option maxHeartbeats 4000000 in
theorem i_infB (w : World) (G : Forms w) (hs : SC = (SA != SB)) (hc : (x = 2 ∧ (y = 1 ∨ y = 2) ∨ x = 1 ∧ y = 2) ∧ z = 2) : Calls Tryd.prog 22 #[.int .u32 a, .int .u32 b, .int .u32 c, .int .i64 mode] w fun e w' => e = .returned (.int .u32 (sgn_w (SA != SB) 2139095040)) ∧ Below w.heap.size w w' := by
  have xb := kind_bd (a % 2147483648)
  have yb := kind_bd (b % 2147483648)
  have zb := kind_bd (c % 2147483648)
  rw [hx] at xb
  rw [hy] at yb
  rw [hz] at zb
  have hg := goodMode_any mode w
  rw [decide_eq_true hm] at hg
  have hA := kindOf_w a a0 a1 w G
  have hB := kindOf_w b b0 b1 w G
  have hC := kindOf_w c c0 c1 w G
  rw [hx] at hA
  rw [hy] at hB
  rw [hz] at hC
  obtain ⟨v0, v1, v2⟩ := xor_sign a b a0 a1 b0 b1
  rw [hSA, hSB] at v2
  obtain ⟨xv, hxv⟩ : ∃ xv, bits .xor .u32 a b = xv := ⟨_, rfl⟩
  rw [hxv] at v0 v1 v2
  have hS := signOf_w xv v0 v1 w G.c2
  rw [v2] at hS
  have hO := or_inf (SA != SB)
  obtain ⟨SG, hSG⟩ : ∃ SG : Int, (if (SA != SB) = true then (2147483648 : Int) else 0) = SG := ⟨_, rfl⟩
  rw [hSG] at hS hO
  have hSc := signOf_w c c0 c1 w G.c2
  obtain ⟨SK, hSK⟩ : ∃ SK : Int, c / 2147483648 * 2147483648 = SK := ⟨_, rfl⟩
  rw [hSK] at hSc
  have hsk : SK = if SC = true then 2147483648 else 0 := by rw [← hSK, ← hSC]; by_cases h : 2147483648 ≤ c <;> simp [h] <;> omega
  have hZI := noughtInf x y xb.1 xb.2 yb.1 yb.2 w
  obtain ⟨zi, hzi⟩ : ∃ zi, decide (x = 0 ∧ y = 2 ∨ x = 2 ∧ y = 0) = zi := ⟨_, rfl⟩
  rw [hzi] at hZI
  clear v0 v1 v2 hx hy hz hSK
  have hkk : SK = SG := by rw [hsk, ← hSG, hs]
  subst hkk
  clear hsk hSG hs
  rcases (by omega : x = 0 ∨ x = 1 ∨ x = 2 ∨ x = 3) with rfl | rfl | rfl | rfl <;> rcases (by omega : y = 0 ∨ y = 1 ∨ y = 2 ∨ y = 3) with rfl | rfl | rfl | rfl <;> try (exfalso; omega)
  all_goals cases zi
  all_goals try (exfalso; revert hzi; decide)
  all_goals rcases (by omega : z = 0 ∨ z = 1 ∨ z = 2 ∨ z = 3) with rfl | rfl | rfl | rfl
  all_goals first | (exfalso; omega) | (
    clear hc hzi
    go_enter Tryd.func22, Tryd.ntmps22
    go_wp2_with (first | (go_at_call 48; refine hg.mono ?_; rintro e w' ⟨rfl, hw⟩; subst w') | (go_at_call 46; (with_reducible show Calls Tryd.prog 46 #[Value.int IntKind.u32 a, Value.int IntKind.i64 0] _ _); refine hA.mono ?_; rintro e w' ⟨rfl, hw⟩; subst w') | (go_at_call 46; (with_reducible show Calls Tryd.prog 46 #[Value.int IntKind.u32 b, Value.int IntKind.i64 0] _ _); refine hB.mono ?_; rintro e w' ⟨rfl, hw⟩; subst w') | (go_at_call 46; (with_reducible show Calls Tryd.prog 46 #[Value.int IntKind.u32 c, Value.int IntKind.i64 0] _ _); refine hC.mono ?_; rintro e w' ⟨rfl, hw⟩; subst w') | (go_at_call 50; (with_reducible show Calls Tryd.prog 50 #[Value.int IntKind.u32 c, Value.int IntKind.i64 0] _ _); refine hSc.mono ?_; rintro e w' ⟨rfl, hw⟩; subst w') | (go_at_call 50; (try rw [hxv]); refine hS.mono ?_; rintro e w' ⟨rfl, hw⟩; subst w') | (go_at_call 49; refine hZI.mono ?_; rintro e w' ⟨rfl, hw⟩; subst w') | (go_at_call 54; refine (infiniteOf_w _ G).mono ?_; rintro e w' ⟨rfl, hw⟩; subst w'))
    go_ret
    exact ⟨by first | rfl | (rw [← hO]; rfl), Below.refl _ _⟩)
include hm a0 a1 b0 b1 c0 c1 hx hy hz hSA hSB hSC in
set_option maxHeartbeats 4000000 in
theorem i_infC (w : World) (G : Forms w) (hs : SC ≠ (SA != SB)) (hc : (x = 2 ∧ (y = 1 ∨ y = 2) ∨ x = 1 ∧ y = 2) ∧ z = 2) : Calls Tryd.prog 22 #[.int .u32 a, .int .u32 b, .int .u32 c, .int .i64 mode] w fun e w' => e = .returned (.int .u32 2143289344) ∧ Below w.heap.size w w' := by
  have xb := kind_bd (a % 2147483648)
  have yb := kind_bd (b % 2147483648)
  have zb := kind_bd (c % 2147483648)
  rw [hx] at xb
  rw [hy] at yb
  rw [hz] at zb
  have hg := goodMode_any mode w
  rw [decide_eq_true hm] at hg
  have hA := kindOf_w a a0 a1 w G
  have hB := kindOf_w b b0 b1 w G
  have hC := kindOf_w c c0 c1 w G
  rw [hx] at hA
  rw [hy] at hB
  rw [hz] at hC
  obtain ⟨v0, v1, v2⟩ := xor_sign a b a0 a1 b0 b1
  rw [hSA, hSB] at v2
  obtain ⟨xv, hxv⟩ : ∃ xv, bits .xor .u32 a b = xv := ⟨_, rfl⟩
  rw [hxv] at v0 v1 v2
  have hS := signOf_w xv v0 v1 w G.c2
  rw [v2] at hS
  have hO := or_inf (SA != SB)
  obtain ⟨SG, hSG⟩ : ∃ SG : Int, (if (SA != SB) = true then (2147483648 : Int) else 0) = SG := ⟨_, rfl⟩
  rw [hSG] at hS hO
  have hSc := signOf_w c c0 c1 w G.c2
  obtain ⟨SK, hSK⟩ : ∃ SK : Int, c / 2147483648 * 2147483648 = SK := ⟨_, rfl⟩
  rw [hSK] at hSc
  have hsk : SK = if SC = true then 2147483648 else 0 := by rw [← hSK, ← hSC]; by_cases h : 2147483648 ≤ c <;> simp [h] <;> omega
  have hZI := noughtInf x y xb.1 xb.2 yb.1 yb.2 w
  obtain ⟨zi, hzi⟩ : ∃ zi, decide (x = 0 ∧ y = 2 ∨ x = 2 ∧ y = 0) = zi := ⟨_, rfl⟩
  rw [hzi] at hZI
  clear v0 v1 v2 hx hy hz hSK
  have hkk : ¬ SK = SG := by rw [hsk, ← hSG]; intro h; apply hs; cases hSS : (SA != SB) <;> cases SC <;> simp [hSS] at h <;> rfl
  clear hsk hSG hs
  rcases (by omega : x = 0 ∨ x = 1 ∨ x = 2 ∨ x = 3) with rfl | rfl | rfl | rfl <;> rcases (by omega : y = 0 ∨ y = 1 ∨ y = 2 ∨ y = 3) with rfl | rfl | rfl | rfl <;> try (exfalso; omega)
  all_goals cases zi
  all_goals try (exfalso; revert hzi; decide)
  all_goals rcases (by omega : z = 0 ∨ z = 1 ∨ z = 2 ∨ z = 3) with rfl | rfl | rfl | rfl
  all_goals first | (exfalso; omega) | (
    clear hc hzi
    go_enter Tryd.func22, Tryd.ntmps22
    go_wp2_with (first | (go_at_call 48; refine hg.mono ?_; rintro e w' ⟨rfl, hw⟩; subst w') | (go_at_call 46; (with_reducible show Calls Tryd.prog 46 #[Value.int IntKind.u32 a, Value.int IntKind.i64 0] _ _); refine hA.mono ?_; rintro e w' ⟨rfl, hw⟩; subst w') | (go_at_call 46; (with_reducible show Calls Tryd.prog 46 #[Value.int IntKind.u32 b, Value.int IntKind.i64 0] _ _); refine hB.mono ?_; rintro e w' ⟨rfl, hw⟩; subst w') | (go_at_call 46; (with_reducible show Calls Tryd.prog 46 #[Value.int IntKind.u32 c, Value.int IntKind.i64 0] _ _); refine hC.mono ?_; rintro e w' ⟨rfl, hw⟩; subst w') | (go_at_call 50; (with_reducible show Calls Tryd.prog 50 #[Value.int IntKind.u32 c, Value.int IntKind.i64 0] _ _); refine hSc.mono ?_; rintro e w' ⟨rfl, hw⟩; subst w') | (go_at_call 50; (try rw [hxv]); refine hS.mono ?_; rintro e w' ⟨rfl, hw⟩; subst w') | (go_at_call 49; refine hZI.mono ?_; rintro e w' ⟨rfl, hw⟩; subst w') | (go_at_call 54; refine (infiniteOf_w _ G).mono ?_; rintro e w' ⟨rfl, hw⟩; subst w'))
    go_ret
    exact ⟨rfl, Below.refl _ _⟩)
end
end fnExactFuseWords
end Go.Proofs.YtoloenkcfpfgcaaDoor
