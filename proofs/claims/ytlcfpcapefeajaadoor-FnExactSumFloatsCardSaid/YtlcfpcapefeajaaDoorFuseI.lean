/- The program's FuseWords by the kinds of the three words; a word rounded is itself; the model's l1Nil. -/
import Derived.Test.YtlcfpcapefeajaaDoorRSum
namespace Go.Proofs.YtlcfpcapefeajaaDoor
open Go.ChangeShapes Go.WideShapes Go.ChangeAt Go.RowKit
set_option linter.unusedVariables false
/-- A word's own number, rounded, is that word. -/
theorem word_back (c mode : Int) (c0 : 0 ≤ c) (c1 : c < 4294967296) (k0 : 0 < c % 2147483648) (k1 : c % 2147483648 < 2139095040) (w : World) (G : Forms w) :
    Calls Tryd.prog 56 #[.agg #[.bool (decide (2147483648 ≤ c)), .int .u64 (exS (c % 2147483648)), .int .i64 (exP (c % 2147483648)), .bool false], .int .i64 0, .int .i64 mode] w fun e w' => e = .returned (.int .u32 c) ∧ Below w.heap.size w w' := by
  obtain ⟨r, hr⟩ : ∃ r, c % 2147483648 = r := ⟨_, rfl⟩
  rw [hr] at k0 k1 ⊢
  have hcr : sgn_w (decide (2147483648 ≤ c)) r = c := by
    unfold sgn_w
    by_cases h : 2147483648 ≤ c
    · simp [h]; omega
    · simp [h]; omega
  have sb : 0 < exS r ∧ exS r < 16777216 ∧ exS r + (exP r + 149) * 8388608 = r ∧ -149 ≤ exP r ∧ exP r ≤ 105 ∧ (exP r = -149 ∨ 8388608 ≤ exS r) := by
    clear hcr hr
    unfold exS exP
    (repeat' split) <;> omega
  obtain ⟨S, hS⟩ : ∃ S, exS r = S := ⟨_, rfl⟩
  obtain ⟨p, hp⟩ : ∃ E, exP r = E := ⟨_, rfl⟩
  rw [hS, hp] at sb ⊢
  obtain ⟨s0, s1, s2, p0, p1, s3⟩ := sb
  obtain ⟨s, rfl⟩ := Int.eq_ofNat_of_zero_le (show 0 ≤ S by omega)
  have l24 := Lib.bitLen_le s 24 (by decide) (by omega)
  obtain ⟨L0, lb0, lb1⟩ := bitLen_spec s (by omega) (by omega)
  obtain ⟨L, hL⟩ : ∃ L, Lib.bitLen s = L := ⟨_, rfl⟩
  rw [hL] at l24 L0 lb0 lb1
  have lp : p = -149 ∨ L = 24 := by
    rcases s3 with h | h
    · exact Or.inl h
    · right
      rcases Nat.lt_or_ge L 24 with g | g
      · have : 2 ^ L ≤ 2 ^ 23 := Nat.pow_le_pow_right (by decide) (by omega)
        omega
      · omega
  have h := rx_up_w (decide (2147483648 ≤ c)) (s : Int) p mode false w G (by omega) (by omega) (by omega) (by omega) (L : Int) p (s : Int) (by rw [show ((s : Nat) : Int).toNat = s by omega, hL]) (by omega) (by omega) p0 (by omega) (by omega) (by rw [show p - p = 0 by omega]; simp; omega) (by omega) (by omega)
  have ht : told_w mode (decide (2147483648 ≤ c)) (s : Int) p = c := by
    unfold told_w
    rw [show (s : Int) + (p - (-149)) * 8388608 = r by omega, if_neg (by omega)]
    exact hcr
  rw [ht] at h
  exact h
theorem nil83 (a b : Bool) (mode : Int) (w : World) : Calls Tryd.prog 69 #[.bool a, .bool b, .int .i64 mode] w fun e w' => e = .returned (.int .u32 (sgn_w (if a == b then a else decide (mode = 4)) 0)) ∧ w' = w := by
  have hd : (mode == 4) = decide (mode = 4) := rfl
  cases a <;> cases b
  all_goals
    go_enter Tryd.func69, Tryd.ntmps69
    go_wp2_with (go_at_call 79; refine (sSigned _ 0 (by decide) (by decide) _).mono ?_; rintro e w' ⟨rfl, hw⟩; subst w')
    all_goals go_ret
    all_goals first | exact ⟨rfl, rfl⟩ | (refine ⟨?_, rfl⟩; simp [sgn_w, *])
namespace fnExactFuseWords
theorem i_bad (a b c mode : Int) (hm : ¬ (0 ≤ mode ∧ mode ≤ 4)) (w : World) : Calls Tryd.prog 49 #[.int .u32 a, .int .u32 b, .int .u32 c, .int .i64 mode] w fun e w' => e = .returned (.int .u32 0) ∧ Below w.heap.size w w' := by
  have hg := goodMode_any mode w
  rw [decide_eq_false hm] at hg
  go_enter Tryd.func49, Tryd.ntmps49
  go_wp2_with (go_at_call 51; refine hg.mono ?_; rintro e w' ⟨rfl, hw⟩; subst w')
  go_ret
  exact ⟨rfl, Below.refl _ _⟩
section
variable (a b c mode x y z : Int) (SA SB SC : Bool) (hm : 0 ≤ mode ∧ mode ≤ 4) (a0 : 0 ≤ a) (a1 : a < 4294967296) (b0 : 0 ≤ b) (b1 : b < 4294967296) (c0 : 0 ≤ c) (c1 : c < 4294967296) (hx : kindI (a % 2147483648) = x) (hy : kindI (b % 2147483648) = y) (hz : kindI (c % 2147483648) = z) (hSA : decide (2147483648 ≤ a) = SA) (hSB : decide (2147483648 ≤ b) = SB) (hSC : decide (2147483648 ≤ c) = SC)
include hm a0 a1 b0 b1 c0 c1 hx hy hz in
set_option maxHeartbeats 4000000 in
theorem i_nan (w : World) (G : Forms w) (hc : x = 3 ∨ y = 3 ∨ z = 3 ∨ x = 0 ∧ y = 2 ∨ x = 2 ∧ y = 0) : Calls Tryd.prog 49 #[.int .u32 a, .int .u32 b, .int .u32 c, .int .i64 mode] w fun e w' => e = .returned (.int .u32 2143289344) ∧ Below w.heap.size w w' := by
  have xb := kind_bd (a % 2147483648)
  have yb := kind_bd (b % 2147483648)
  have zb := kind_bd (c % 2147483648)
  rw [hx] at xb
  rw [hy] at yb
  rw [hz] at zb
  have hg := goodMode_any mode w
  rw [decide_eq_true hm] at hg
  have hA := kindOf_w a a0 a1 w G
  have hB := kindOf_w b b0 b1 w G
  have hC := kindOf_w c c0 c1 w G
  rw [hx] at hA
  rw [hy] at hB
  rw [hz] at hC
  have hZI := noughtInf x y xb.1 xb.2 yb.1 yb.2 w
  obtain ⟨zi, hzi⟩ : ∃ zi, decide (x = 0 ∧ y = 2 ∨ x = 2 ∧ y = 0) = zi := ⟨_, rfl⟩
  rw [hzi] at hZI
  clear hx hy hz
  rcases (by omega : x = 0 ∨ x = 1 ∨ x = 2 ∨ x = 3) with rfl | rfl | rfl | rfl <;> rcases (by omega : y = 0 ∨ y = 1 ∨ y = 2 ∨ y = 3) with rfl | rfl | rfl | rfl <;> try (exfalso; omega)
  all_goals cases zi
  all_goals try (exfalso; revert hzi; decide)
  all_goals rcases (by omega : z = 0 ∨ z = 1 ∨ z = 2 ∨ z = 3) with rfl | rfl | rfl | rfl
  all_goals first | (exfalso; omega) | (
    clear hc hzi
    go_enter Tryd.func49, Tryd.ntmps49
    go_wp2_with (first | (go_at_call 51; refine hg.mono ?_; rintro e w' ⟨rfl, hw⟩; subst w') | (go_at_call 52; (with_reducible show Calls Tryd.prog 52 #[Value.int IntKind.u32 a, Value.int IntKind.i64 0] _ _); refine hA.mono ?_; rintro e w' ⟨rfl, hw⟩; subst w') | (go_at_call 52; (with_reducible show Calls Tryd.prog 52 #[Value.int IntKind.u32 b, Value.int IntKind.i64 0] _ _); refine hB.mono ?_; rintro e w' ⟨rfl, hw⟩; subst w') | (go_at_call 52; (with_reducible show Calls Tryd.prog 52 #[Value.int IntKind.u32 c, Value.int IntKind.i64 0] _ _); refine hC.mono ?_; rintro e w' ⟨rfl, hw⟩; subst w') | (go_at_call 53; (with_reducible show Calls Tryd.prog 53 #[Value.int IntKind.u32 c, Value.int IntKind.i64 0] _ _); refine hSc.mono ?_; rintro e w' ⟨rfl, hw⟩; subst w') | (go_at_call 53; (try rw [hxv]); refine hS.mono ?_; rintro e w' ⟨rfl, hw⟩; subst w') | (go_at_call 54; refine hZI.mono ?_; rintro e w' ⟨rfl, hw⟩; subst w') | (go_at_call 55; refine (infiniteOf_w _ G).mono ?_; rintro e w' ⟨rfl, hw⟩; subst w'))
    go_ret
    exact ⟨rfl, Below.refl _ _⟩)
include hm a0 a1 b0 b1 c0 c1 hx hy hz hSA hSB hSC in
set_option maxHeartbeats 4000000 in
theorem i_fin (w : World) (G : Forms w) (R : Int) (ps pp cs cp : Int) (HP : Hid (∀ v : World, Forms v → Calls Tryd.prog 57 #[.int .u32 a, .int .u32 b] v fun e w' => e = .returned (.agg #[.bool (SA != SB), .int .u64 ps, .int .i64 pp, .bool false]) ∧ Below v.heap.size v w')) (HE : Hid (∀ v : World, Forms v → Calls Tryd.prog 78 #[.int .u32 c, .int .i64 0] v fun e w' => e = .returned (.agg #[.bool SC, .int .u64 cs, .int .i64 cp, .bool false]) ∧ Below v.heap.size v w')) (HR : Hid (∀ v : World, Forms v → Calls Tryd.prog 77 #[.agg #[.bool (SA != SB), .int .u64 ps, .int .i64 pp, .bool false], .agg #[.bool SC, .int .u64 cs, .int .i64 cp, .bool false], .int .i64 mode] v fun e w' => e = .returned (.int .u32 R) ∧ Below v.heap.size v w')) (hc : (x = 0 ∨ x = 1) ∧ (y = 0 ∨ y = 1) ∧ (z = 0 ∨ z = 1)) : Calls Tryd.prog 49 #[.int .u32 a, .int .u32 b, .int .u32 c, .int .i64 mode] w fun e w' => e = .returned (.int .u32 R) ∧ Below w.heap.size w w' := by
  have xb := kind_bd (a % 2147483648)
  have yb := kind_bd (b % 2147483648)
  have zb := kind_bd (c % 2147483648)
  rw [hx] at xb
  rw [hy] at yb
  rw [hz] at zb
  have hg := goodMode_any mode w
  rw [decide_eq_true hm] at hg
  have hA := kindOf_w a a0 a1 w G
  have hB := kindOf_w b b0 b1 w G
  have hC := kindOf_w c c0 c1 w G
  rw [hx] at hA
  rw [hy] at hB
  rw [hz] at hC
  obtain ⟨v0, v1, v2⟩ := xor_sign a b a0 a1 b0 b1
  rw [hSA, hSB] at v2
  obtain ⟨xv, hxv⟩ : ∃ xv, bits .xor .u32 a b = xv := ⟨_, rfl⟩
  rw [hxv] at v0 v1 v2
  have hS := signOf_w xv v0 v1 w G.c2
  rw [v2] at hS
  have hO := or_inf (SA != SB)
  obtain ⟨SG, hSG⟩ : ∃ SG : Int, (if (SA != SB) = true then (2147483648 : Int) else 0) = SG := ⟨_, rfl⟩
  rw [hSG] at hS hO
  have hSc := signOf_w c c0 c1 w G.c2
  obtain ⟨SK, hSK⟩ : ∃ SK : Int, c / 2147483648 * 2147483648 = SK := ⟨_, rfl⟩
  rw [hSK] at hSc
  have hsk : SK = if SC = true then 2147483648 else 0 := by rw [← hSK, ← hSC]; by_cases h : 2147483648 ≤ c <;> simp [h] <;> omega
  have hZI := noughtInf x y xb.1 xb.2 yb.1 yb.2 w
  obtain ⟨zi, hzi⟩ : ∃ zi, decide (x = 0 ∧ y = 2 ∨ x = 2 ∧ y = 0) = zi := ⟨_, rfl⟩
  rw [hzi] at hZI
  clear v0 v1 v2 hx hy hz hSK
  rcases (by omega : x = 0 ∨ x = 1 ∨ x = 2 ∨ x = 3) with rfl | rfl | rfl | rfl <;> rcases (by omega : y = 0 ∨ y = 1 ∨ y = 2 ∨ y = 3) with rfl | rfl | rfl | rfl <;> try (exfalso; omega)
  all_goals cases zi
  all_goals try (exfalso; revert hzi; decide)
  all_goals rcases (by omega : z = 0 ∨ z = 1 ∨ z = 2 ∨ z = 3) with rfl | rfl | rfl | rfl
  all_goals first | (exfalso; omega) | (
    clear hc hzi
    go_enter Tryd.func49, Tryd.ntmps49
    go_wp2_with (first | (go_at_call 51; refine hg.mono ?_; rintro e w' ⟨rfl, hw⟩; subst w') | (go_at_call 52; (with_reducible show Calls Tryd.prog 52 #[Value.int IntKind.u32 a, Value.int IntKind.i64 0] _ _); refine hA.mono ?_; rintro e w' ⟨rfl, hw⟩; subst w') | (go_at_call 52; (with_reducible show Calls Tryd.prog 52 #[Value.int IntKind.u32 b, Value.int IntKind.i64 0] _ _); refine hB.mono ?_; rintro e w' ⟨rfl, hw⟩; subst w') | (go_at_call 52; (with_reducible show Calls Tryd.prog 52 #[Value.int IntKind.u32 c, Value.int IntKind.i64 0] _ _); refine hC.mono ?_; rintro e w' ⟨rfl, hw⟩; subst w') | (go_at_call 53; (with_reducible show Calls Tryd.prog 53 #[Value.int IntKind.u32 c, Value.int IntKind.i64 0] _ _); refine hSc.mono ?_; rintro e w' ⟨rfl, hw⟩; subst w') | (go_at_call 53; (try rw [hxv]); refine hS.mono ?_; rintro e w' ⟨rfl, hw⟩; subst w') | (go_at_call 54; refine hZI.mono ?_; rintro e w' ⟨rfl, hw⟩; subst w') | (go_at_call 55; refine (infiniteOf_w _ G).mono ?_; rintro e w' ⟨rfl, hw⟩; subst w') | (go_at_call 57; refine ((Hid.out HP) w G).mono ?_; rintro e w1 ⟨rfl, hb1⟩; (have G1 := G.next hb1)) | (go_at_call 78; refine ((Hid.out HE) w1 G1).mono ?_; rintro e w2 ⟨rfl, hb2⟩; (have G2 := G1.next hb2)) | (go_at_call 77; refine ((Hid.out HR) w2 G2).mono ?_; rintro e w3 ⟨rfl, hb3⟩))
    go_ret
    exact ⟨rfl, (hb1.trans (hb2.mono hb1.size)).trans (hb3.mono (Nat.le_trans hb1.size hb2.size))⟩)
include hm a0 a1 b0 b1 c0 c1 hx hy hz hSA hSB hSC in
set_option maxHeartbeats 4000000 in
theorem i_c (w : World) (G : Forms w) (hc : (x = 0 ∨ x = 1) ∧ (y = 0 ∨ y = 1) ∧ z = 2) : Calls Tryd.prog 49 #[.int .u32 a, .int .u32 b, .int .u32 c, .int .i64 mode] w fun e w' => e = .returned (.int .u32 c) ∧ Below w.heap.size w w' := by
  have xb := kind_bd (a % 2147483648)
  have yb := kind_bd (b % 2147483648)
  have zb := kind_bd (c % 2147483648)
  rw [hx] at xb
  rw [hy] at yb
  rw [hz] at zb
  have hg := goodMode_any mode w
  rw [decide_eq_true hm] at hg
  have hA := kindOf_w a a0 a1 w G
  have hB := kindOf_w b b0 b1 w G
  have hC := kindOf_w c c0 c1 w G
  rw [hx] at hA
  rw [hy] at hB
  rw [hz] at hC
  obtain ⟨v0, v1, v2⟩ := xor_sign a b a0 a1 b0 b1
  rw [hSA, hSB] at v2
  obtain ⟨xv, hxv⟩ : ∃ xv, bits .xor .u32 a b = xv := ⟨_, rfl⟩
  rw [hxv] at v0 v1 v2
  have hS := signOf_w xv v0 v1 w G.c2
  rw [v2] at hS
  have hO := or_inf (SA != SB)
  obtain ⟨SG, hSG⟩ : ∃ SG : Int, (if (SA != SB) = true then (2147483648 : Int) else 0) = SG := ⟨_, rfl⟩
  rw [hSG] at hS hO
  have hSc := signOf_w c c0 c1 w G.c2
  obtain ⟨SK, hSK⟩ : ∃ SK : Int, c / 2147483648 * 2147483648 = SK := ⟨_, rfl⟩
  rw [hSK] at hSc
  have hsk : SK = if SC = true then 2147483648 else 0 := by rw [← hSK, ← hSC]; by_cases h : 2147483648 ≤ c <;> simp [h] <;> omega
  have hZI := noughtInf x y xb.1 xb.2 yb.1 yb.2 w
  obtain ⟨zi, hzi⟩ : ∃ zi, decide (x = 0 ∧ y = 2 ∨ x = 2 ∧ y = 0) = zi := ⟨_, rfl⟩
  rw [hzi] at hZI
  clear v0 v1 v2 hx hy hz hSK
  rcases (by omega : x = 0 ∨ x = 1 ∨ x = 2 ∨ x = 3) with rfl | rfl | rfl | rfl <;> rcases (by omega : y = 0 ∨ y = 1 ∨ y = 2 ∨ y = 3) with rfl | rfl | rfl | rfl <;> try (exfalso; omega)
  all_goals cases zi
  all_goals try (exfalso; revert hzi; decide)
  all_goals rcases (by omega : z = 0 ∨ z = 1 ∨ z = 2 ∨ z = 3) with rfl | rfl | rfl | rfl
  all_goals first | (exfalso; omega) | (
    clear hc hzi
    go_enter Tryd.func49, Tryd.ntmps49
    go_wp2_with (first | (go_at_call 51; refine hg.mono ?_; rintro e w' ⟨rfl, hw⟩; subst w') | (go_at_call 52; (with_reducible show Calls Tryd.prog 52 #[Value.int IntKind.u32 a, Value.int IntKind.i64 0] _ _); refine hA.mono ?_; rintro e w' ⟨rfl, hw⟩; subst w') | (go_at_call 52; (with_reducible show Calls Tryd.prog 52 #[Value.int IntKind.u32 b, Value.int IntKind.i64 0] _ _); refine hB.mono ?_; rintro e w' ⟨rfl, hw⟩; subst w') | (go_at_call 52; (with_reducible show Calls Tryd.prog 52 #[Value.int IntKind.u32 c, Value.int IntKind.i64 0] _ _); refine hC.mono ?_; rintro e w' ⟨rfl, hw⟩; subst w') | (go_at_call 53; (with_reducible show Calls Tryd.prog 53 #[Value.int IntKind.u32 c, Value.int IntKind.i64 0] _ _); refine hSc.mono ?_; rintro e w' ⟨rfl, hw⟩; subst w') | (go_at_call 53; (try rw [hxv]); refine hS.mono ?_; rintro e w' ⟨rfl, hw⟩; subst w') | (go_at_call 54; refine hZI.mono ?_; rintro e w' ⟨rfl, hw⟩; subst w') | (go_at_call 55; refine (infiniteOf_w _ G).mono ?_; rintro e w' ⟨rfl, hw⟩; subst w'))
    go_ret
    exact ⟨rfl, Below.refl _ _⟩)
include hm a0 a1 b0 b1 c0 c1 hx hy hz hSA hSB hSC in
set_option maxHeartbeats 4000000 in
theorem i_infA (w : World) (G : Forms w) (hc : (x = 2 ∧ (y = 1 ∨ y = 2) ∨ x = 1 ∧ y = 2) ∧ (z = 0 ∨ z = 1)) : Calls Tryd.prog 49 #[.int .u32 a, .int .u32 b, .int .u32 c, .int .i64 mode] w fun e w' => e = .returned (.int .u32 (sgn_w (SA != SB) 2139095040)) ∧ Below w.heap.size w w' := by
  have xb := kind_bd (a % 2147483648)
  have yb := kind_bd (b % 2147483648)
  have zb := kind_bd (c % 2147483648)
  rw [hx] at xb
  rw [hy] at yb
  rw [hz] at zb
  have hg := goodMode_any mode w
  rw [decide_eq_true hm] at hg
  have hA := kindOf_w a a0 a1 w G
  have hB := kindOf_w b b0 b1 w G
  have hC := kindOf_w c c0 c1 w G
  rw [hx] at hA
  rw [hy] at hB
  rw [hz] at hC
  obtain ⟨v0, v1, v2⟩ := xor_sign a b a0 a1 b0 b1
  rw [hSA, hSB] at v2
  obtain ⟨xv, hxv⟩ : ∃ xv, bits .xor .u32 a b = xv := ⟨_, rfl⟩
  rw [hxv] at v0 v1 v2
  have hS := signOf_w xv v0 v1 w G.c2
  rw [v2] at hS
  have hO := or_inf (SA != SB)
  obtain ⟨SG, hSG⟩ : ∃ SG : Int, (if (SA != SB) = true then (2147483648 : Int) else 0) = SG := ⟨_, rfl⟩
  rw [hSG] at hS hO
  have hSc := signOf_w c c0 c1 w G.c2
  obtain ⟨SK, hSK⟩ : ∃ SK : Int, c / 2147483648 * 2147483648 = SK := ⟨_, rfl⟩
  rw [hSK] at hSc
  have hsk : SK = if SC = true then 2147483648 else 0 := by rw [← hSK, ← hSC]; by_cases h : 2147483648 ≤ c <;> simp [h] <;> omega
  have hZI := noughtInf x y xb.1 xb.2 yb.1 yb.2 w
  obtain ⟨zi, hzi⟩ : ∃ zi, decide (x = 0 ∧ y = 2 ∨ x = 2 ∧ y = 0) = zi := ⟨_, rfl⟩
  rw [hzi] at hZI
  clear v0 v1 v2 hx hy hz hSK
  rcases (by omega : x = 0 ∨ x = 1 ∨ x = 2 ∨ x = 3) with rfl | rfl | rfl | rfl <;> rcases (by omega : y = 0 ∨ y = 1 ∨ y = 2 ∨ y = 3) with rfl | rfl | rfl | rfl <;> try (exfalso; omega)
  all_goals cases zi
  all_goals try (exfalso; revert hzi; decide)
  all_goals rcases (by omega : z = 0 ∨ z = 1 ∨ z = 2 ∨ z = 3) with rfl | rfl | rfl | rfl
  all_goals first | (exfalso; omega) | (
    clear hc hzi
    go_enter Tryd.func49, Tryd.ntmps49
    go_wp2_with (first | (go_at_call 51; refine hg.mono ?_; rintro e w' ⟨rfl, hw⟩; subst w') | (go_at_call 52; (with_reducible show Calls Tryd.prog 52 #[Value.int IntKind.u32 a, Value.int IntKind.i64 0] _ _); refine hA.mono ?_; rintro e w' ⟨rfl, hw⟩; subst w') | (go_at_call 52; (with_reducible show Calls Tryd.prog 52 #[Value.int IntKind.u32 b, Value.int IntKind.i64 0] _ _); refine hB.mono ?_; rintro e w' ⟨rfl, hw⟩; subst w') | (go_at_call 52; (with_reducible show Calls Tryd.prog 52 #[Value.int IntKind.u32 c, Value.int IntKind.i64 0] _ _); refine hC.mono ?_; rintro e w' ⟨rfl, hw⟩; subst w') | (go_at_call 53; (with_reducible show Calls Tryd.prog 53 #[Value.int IntKind.u32 c, Value.int IntKind.i64 0] _ _); refine hSc.mono ?_; rintro e w' ⟨rfl, hw⟩; subst w') | (go_at_call 53; (try rw [hxv]); refine hS.mono ?_; rintro e w' ⟨rfl, hw⟩; subst w') | (go_at_call 54; refine hZI.mono ?_; rintro e w' ⟨rfl, hw⟩; subst w') | (go_at_call 55; refine (infiniteOf_w _ G).mono ?_; rintro e w' ⟨rfl, hw⟩; subst w'))
    go_ret
    exact ⟨by first | rfl | (rw [← hO]; rfl), Below.refl _ _⟩)
include hm a0 a1 b0 b1 c0 c1 hx hy hz hSA hSB hSC in
set_option maxHeartbeats 4000000 in
theorem i_infB (w : World) (G : Forms w) (hs : SC = (SA != SB)) (hc : (x = 2 ∧ (y = 1 ∨ y = 2) ∨ x = 1 ∧ y = 2) ∧ z = 2) : Calls Tryd.prog 49 #[.int .u32 a, .int .u32 b, .int .u32 c, .int .i64 mode] w fun e w' => e = .returned (.int .u32 (sgn_w (SA != SB) 2139095040)) ∧ Below w.heap.size w w' := by
  have xb := kind_bd (a % 2147483648)
  have yb := kind_bd (b % 2147483648)
  have zb := kind_bd (c % 2147483648)
  rw [hx] at xb
  rw [hy] at yb
  rw [hz] at zb
  have hg := goodMode_any mode w
  rw [decide_eq_true hm] at hg
  have hA := kindOf_w a a0 a1 w G
  have hB := kindOf_w b b0 b1 w G
  have hC := kindOf_w c c0 c1 w G
  rw [hx] at hA
  rw [hy] at hB
  rw [hz] at hC
  obtain ⟨v0, v1, v2⟩ := xor_sign a b a0 a1 b0 b1
  rw [hSA, hSB] at v2
  obtain ⟨xv, hxv⟩ : ∃ xv, bits .xor .u32 a b = xv := ⟨_, rfl⟩
  rw [hxv] at v0 v1 v2
  have hS := signOf_w xv v0 v1 w G.c2
  rw [v2] at hS
  have hO := or_inf (SA != SB)
  obtain ⟨SG, hSG⟩ : ∃ SG : Int, (if (SA != SB) = true then (2147483648 : Int) else 0) = SG := ⟨_, rfl⟩
  rw [hSG] at hS hO
  have hSc := signOf_w c c0 c1 w G.c2
  obtain ⟨SK, hSK⟩ : ∃ SK : Int, c / 2147483648 * 2147483648 = SK := ⟨_, rfl⟩
  rw [hSK] at hSc
  have hsk : SK = if SC = true then 2147483648 else 0 := by rw [← hSK, ← hSC]; by_cases h : 2147483648 ≤ c <;> simp [h] <;> omega
  have hZI := noughtInf x y xb.1 xb.2 yb.1 yb.2 w
  obtain ⟨zi, hzi⟩ : ∃ zi, decide (x = 0 ∧ y = 2 ∨ x = 2 ∧ y = 0) = zi := ⟨_, rfl⟩
  rw [hzi] at hZI
  clear v0 v1 v2 hx hy hz hSK
  have hkk : SK = SG := by rw [hsk, ← hSG, hs]
  subst hkk
  clear hsk hSG hs
  rcases (by omega : x = 0 ∨ x = 1 ∨ x = 2 ∨ x = 3) with rfl | rfl | rfl | rfl <;> rcases (by omega : y = 0 ∨ y = 1 ∨ y = 2 ∨ y = 3) with rfl | rfl | rfl | rfl <;> try (exfalso; omega)
  all_goals cases zi
  all_goals try (exfalso; revert hzi; decide)
  all_goals rcases (by omega : z = 0 ∨ z = 1 ∨ z = 2 ∨ z = 3) with rfl | rfl | rfl | rfl
  all_goals first | (exfalso; omega) | (
    clear hc hzi
    go_enter Tryd.func49, Tryd.ntmps49
    go_wp2_with (first | (go_at_call 51; refine hg.mono ?_; rintro e w' ⟨rfl, hw⟩; subst w') | (go_at_call 52; (with_reducible show Calls Tryd.prog 52 #[Value.int IntKind.u32 a, Value.int IntKind.i64 0] _ _); refine hA.mono ?_; rintro e w' ⟨rfl, hw⟩; subst w') | (go_at_call 52; (with_reducible show Calls Tryd.prog 52 #[Value.int IntKind.u32 b, Value.int IntKind.i64 0] _ _); refine hB.mono ?_; rintro e w' ⟨rfl, hw⟩; subst w') | (go_at_call 52; (with_reducible show Calls Tryd.prog 52 #[Value.int IntKind.u32 c, Value.int IntKind.i64 0] _ _); refine hC.mono ?_; rintro e w' ⟨rfl, hw⟩; subst w') | (go_at_call 53; (with_reducible show Calls Tryd.prog 53 #[Value.int IntKind.u32 c, Value.int IntKind.i64 0] _ _); refine hSc.mono ?_; rintro e w' ⟨rfl, hw⟩; subst w') | (go_at_call 53; (try rw [hxv]); refine hS.mono ?_; rintro e w' ⟨rfl, hw⟩; subst w') | (go_at_call 54; refine hZI.mono ?_; rintro e w' ⟨rfl, hw⟩; subst w') | (go_at_call 55; refine (infiniteOf_w _ G).mono ?_; rintro e w' ⟨rfl, hw⟩; subst w'))
    go_ret
    exact ⟨by first | rfl | (rw [← hO]; rfl), Below.refl _ _⟩)
include hm a0 a1 b0 b1 c0 c1 hx hy hz hSA hSB hSC in
set_option maxHeartbeats 4000000 in
theorem i_infC (w : World) (G : Forms w) (hs : SC ≠ (SA != SB)) (hc : (x = 2 ∧ (y = 1 ∨ y = 2) ∨ x = 1 ∧ y = 2) ∧ z = 2) : Calls Tryd.prog 49 #[.int .u32 a, .int .u32 b, .int .u32 c, .int .i64 mode] w fun e w' => e = .returned (.int .u32 2143289344) ∧ Below w.heap.size w w' := by
  have xb := kind_bd (a % 2147483648)
  have yb := kind_bd (b % 2147483648)
  have zb := kind_bd (c % 2147483648)
  rw [hx] at xb
  rw [hy] at yb
  rw [hz] at zb
  have hg := goodMode_any mode w
  rw [decide_eq_true hm] at hg
  have hA := kindOf_w a a0 a1 w G
  have hB := kindOf_w b b0 b1 w G
  have hC := kindOf_w c c0 c1 w G
  rw [hx] at hA
  rw [hy] at hB
  rw [hz] at hC
  obtain ⟨v0, v1, v2⟩ := xor_sign a b a0 a1 b0 b1
  rw [hSA, hSB] at v2
  obtain ⟨xv, hxv⟩ : ∃ xv, bits .xor .u32 a b = xv := ⟨_, rfl⟩
  rw [hxv] at v0 v1 v2
  have hS := signOf_w xv v0 v1 w G.c2
  rw [v2] at hS
  have hO := or_inf (SA != SB)
  obtain ⟨SG, hSG⟩ : ∃ SG : Int, (if (SA != SB) = true then (2147483648 : Int) else 0) = SG := ⟨_, rfl⟩
  rw [hSG] at hS hO
  have hSc := signOf_w c c0 c1 w G.c2
  obtain ⟨SK, hSK⟩ : ∃ SK : Int, c / 2147483648 * 2147483648 = SK := ⟨_, rfl⟩
  rw [hSK] at hSc
  have hsk : SK = if SC = true then 2147483648 else 0 := by rw [← hSK, ← hSC]; by_cases h : 2147483648 ≤ c <;> simp [h] <;> omega
  have hZI := noughtInf x y xb.1 xb.2 yb.1 yb.2 w
  obtain ⟨zi, hzi⟩ : ∃ zi, decide (x = 0 ∧ y = 2 ∨ x = 2 ∧ y = 0) = zi := ⟨_, rfl⟩
  rw [hzi] at hZI
  clear v0 v1 v2 hx hy hz hSK
  have hkk : ¬ SK = SG := by rw [hsk, ← hSG]; intro h; apply hs; cases hSS : (SA != SB) <;> cases SC <;> simp [hSS] at h <;> rfl
  clear hsk hSG hs
  rcases (by omega : x = 0 ∨ x = 1 ∨ x = 2 ∨ x = 3) with rfl | rfl | rfl | rfl <;> rcases (by omega : y = 0 ∨ y = 1 ∨ y = 2 ∨ y = 3) with rfl | rfl | rfl | rfl <;> try (exfalso; omega)
  all_goals cases zi
  all_goals try (exfalso; revert hzi; decide)
  all_goals rcases (by omega : z = 0 ∨ z = 1 ∨ z = 2 ∨ z = 3) with rfl | rfl | rfl | rfl
  all_goals first | (exfalso; omega) | (
    clear hc hzi
    go_enter Tryd.func49, Tryd.ntmps49
    go_wp2_with (first | (go_at_call 51; refine hg.mono ?_; rintro e w' ⟨rfl, hw⟩; subst w') | (go_at_call 52; (with_reducible show Calls Tryd.prog 52 #[Value.int IntKind.u32 a, Value.int IntKind.i64 0] _ _); refine hA.mono ?_; rintro e w' ⟨rfl, hw⟩; subst w') | (go_at_call 52; (with_reducible show Calls Tryd.prog 52 #[Value.int IntKind.u32 b, Value.int IntKind.i64 0] _ _); refine hB.mono ?_; rintro e w' ⟨rfl, hw⟩; subst w') | (go_at_call 52; (with_reducible show Calls Tryd.prog 52 #[Value.int IntKind.u32 c, Value.int IntKind.i64 0] _ _); refine hC.mono ?_; rintro e w' ⟨rfl, hw⟩; subst w') | (go_at_call 53; (with_reducible show Calls Tryd.prog 53 #[Value.int IntKind.u32 c, Value.int IntKind.i64 0] _ _); refine hSc.mono ?_; rintro e w' ⟨rfl, hw⟩; subst w') | (go_at_call 53; (try rw [hxv]); refine hS.mono ?_; rintro e w' ⟨rfl, hw⟩; subst w') | (go_at_call 54; refine hZI.mono ?_; rintro e w' ⟨rfl, hw⟩; subst w') | (go_at_call 55; refine (infiniteOf_w _ G).mono ?_; rintro e w' ⟨rfl, hw⟩; subst w'))
    go_ret
    exact ⟨rfl, Below.refl _ _⟩)
end
end fnExactFuseWords
end Go.Proofs.YtlcfpcapefeajaaDoor
