/- The products of words of both sides, alike and within 32 bits; MulCw of both sides over what sums and products answer. -/
import Derived.Test.YtlcfpcapefeajaaDoorAddA
import Derived.Test.YtlcfpcapefeajaaDoorProd
namespace Go.Proofs.YtlcfpcapefeajaaDoor.fnExactMulWords
open Go.ChangeShapes Go.WideShapes Go.ChangeAt Go.RowKit
set_option linter.unusedVariables false
theorem i_bad (a b mode : Int) (hm : ¬ (0 ≤ mode ∧ mode ≤ 4)) (w : World) : Calls Tryd.prog 34 #[.int .u32 a, .int .u32 b, .int .i64 mode] w fun e w' => e = .returned (.int .u32 0) ∧ Below w.heap.size w w' := by
  have hg := goodMode_any mode w
  rw [decide_eq_false hm] at hg
  go_enter Tryd.func34, Tryd.ntmps34
  go_wp2_with (go_at_call 51; refine hg.mono ?_; rintro e w' ⟨rfl, hw⟩; subst w')
  go_ret
  exact ⟨rfl, Below.refl _ _⟩
theorem s_of (a b mode R : Int) (hm : 0 ≤ mode ∧ mode ≤ 4) (w : World) (hB : Calls Tryd.prog 50 #[.int .u32 a, .int .u32 b, .int .i64 mode] w fun e w' => e = .returned (.int .u32 R) ∧ Below w.heap.size w w') :
    Calls Tryd.prog 50 #[.int .u32 a, .int .u32 b, .int .i64 mode] w fun e w' => e = .returned (.int .u32 R) ∧ Below w.heap.size w w' := hB
section
variable (a b mode x y : Int) (SA SB : Bool) (hm : 0 ≤ mode ∧ mode ≤ 4) (a0 : 0 ≤ a) (a1 : a < 4294967296) (b0 : 0 ≤ b) (b1 : b < 4294967296) (hx : kindI (a % 2147483648) = x) (hy : kindI (b % 2147483648) = y) (hSA : decide (2147483648 ≤ a) = SA) (hSB : decide (2147483648 ≤ b) = SB)
include hm a0 a1 b0 b1 hx hy hSA hSB in
set_option maxHeartbeats 4000000 in
theorem i_nan (w : World) (G : Forms w) (hc : x = 3 ∨ y = 3 ∨ x = 0 ∧ y = 2 ∨ x = 2 ∧ y = 0) : Calls Tryd.prog 34 #[.int .u32 a, .int .u32 b, .int .i64 mode] w fun e w' => e = .returned (.int .u32 2143289344) ∧ Below w.heap.size w w' := by
  have xb := kind_bd (a % 2147483648)
  have yb := kind_bd (b % 2147483648)
  rw [hx] at xb
  rw [hy] at yb
  have hg := goodMode_any mode w
  rw [decide_eq_true hm] at hg
  have hA := kindOf_w a a0 a1 w G
  have hB := kindOf_w b b0 b1 w G
  rw [hx] at hA
  rw [hy] at hB
  obtain ⟨v0, v1, v2⟩ := xor_sign a b a0 a1 b0 b1
  rw [hSA, hSB] at v2
  obtain ⟨xv, hxv⟩ : ∃ xv, bits .xor .u32 a b = xv := ⟨_, rfl⟩
  rw [hxv] at v0 v1 v2
  have hS := signOf_w xv v0 v1 w G.c2
  rw [v2] at hS
  have hO := or_inf (SA != SB)
  obtain ⟨SG, hSG⟩ : ∃ SG : Int, (if (SA != SB) = true then (2147483648 : Int) else 0) = SG := ⟨_, rfl⟩
  rw [hSG] at hS hO
  have hZI := noughtInf x y xb.1 xb.2 yb.1 yb.2 w
  obtain ⟨zi, hzi⟩ : ∃ zi, decide (x = 0 ∧ y = 2 ∨ x = 2 ∧ y = 0) = zi := ⟨_, rfl⟩
  rw [hzi] at hZI
  clear v0 v1 v2 hx hy
  rcases (by omega : x = 0 ∨ x = 1 ∨ x = 2 ∨ x = 3) with rfl | rfl | rfl | rfl <;> rcases (by omega : y = 0 ∨ y = 1 ∨ y = 2 ∨ y = 3) with rfl | rfl | rfl | rfl
  all_goals cases zi
  all_goals first | (exfalso; omega) | (exfalso; revert hzi; decide) | (
    clear hc hzi
    go_enter Tryd.func34, Tryd.ntmps34
    go_wp2_with (first | (go_at_call 51; refine hg.mono ?_; rintro e w' ⟨rfl, hw⟩; subst w') | (go_at_call 52; (with_reducible show Calls Tryd.prog 52 #[Value.int IntKind.u32 a, Value.int IntKind.i64 0] _ _); refine hA.mono ?_; rintro e w' ⟨rfl, hw⟩; subst w') | (go_at_call 52; refine hB.mono ?_; rintro e w' ⟨rfl, hw⟩; subst w') | (go_at_call 53; (try rw [hxv]); refine hS.mono ?_; rintro e w' ⟨rfl, hw⟩; subst w') | (go_at_call 54; refine hZI.mono ?_; rintro e w' ⟨rfl, hw⟩; subst w') | (go_at_call 55; refine (infiniteOf_w _ G).mono ?_; rintro e w' ⟨rfl, hw⟩; subst w'))
    go_ret
    exact ⟨rfl, Below.refl _ _⟩)
include hm a0 a1 b0 b1 hx hy hSA hSB in
set_option maxHeartbeats 4000000 in
theorem i_inf (w : World) (G : Forms w) (hc : x = 2 ∧ y = 1 ∨ x = 1 ∧ y = 2 ∨ x = 2 ∧ y = 2) : Calls Tryd.prog 34 #[.int .u32 a, .int .u32 b, .int .i64 mode] w fun e w' => e = .returned (.int .u32 (sgn_w (SA != SB) 2139095040)) ∧ Below w.heap.size w w' := by
  have xb := kind_bd (a % 2147483648)
  have yb := kind_bd (b % 2147483648)
  rw [hx] at xb
  rw [hy] at yb
  have hg := goodMode_any mode w
  rw [decide_eq_true hm] at hg
  have hA := kindOf_w a a0 a1 w G
  have hB := kindOf_w b b0 b1 w G
  rw [hx] at hA
  rw [hy] at hB
  obtain ⟨v0, v1, v2⟩ := xor_sign a b a0 a1 b0 b1
  rw [hSA, hSB] at v2
  obtain ⟨xv, hxv⟩ : ∃ xv, bits .xor .u32 a b = xv := ⟨_, rfl⟩
  rw [hxv] at v0 v1 v2
  have hS := signOf_w xv v0 v1 w G.c2
  rw [v2] at hS
  have hO := or_inf (SA != SB)
  obtain ⟨SG, hSG⟩ : ∃ SG : Int, (if (SA != SB) = true then (2147483648 : Int) else 0) = SG := ⟨_, rfl⟩
  rw [hSG] at hS hO
  have hZI := noughtInf x y xb.1 xb.2 yb.1 yb.2 w
  obtain ⟨zi, hzi⟩ : ∃ zi, decide (x = 0 ∧ y = 2 ∨ x = 2 ∧ y = 0) = zi := ⟨_, rfl⟩
  rw [hzi] at hZI
  clear v0 v1 v2 hx hy
  rcases (by omega : x = 0 ∨ x = 1 ∨ x = 2 ∨ x = 3) with rfl | rfl | rfl | rfl <;> rcases (by omega : y = 0 ∨ y = 1 ∨ y = 2 ∨ y = 3) with rfl | rfl | rfl | rfl
  all_goals cases zi
  all_goals first | (exfalso; omega) | (exfalso; revert hzi; decide) | (
    clear hc hzi
    go_enter Tryd.func34, Tryd.ntmps34
    go_wp2_with (first | (go_at_call 51; refine hg.mono ?_; rintro e w' ⟨rfl, hw⟩; subst w') | (go_at_call 52; (with_reducible show Calls Tryd.prog 52 #[Value.int IntKind.u32 a, Value.int IntKind.i64 0] _ _); refine hA.mono ?_; rintro e w' ⟨rfl, hw⟩; subst w') | (go_at_call 52; refine hB.mono ?_; rintro e w' ⟨rfl, hw⟩; subst w') | (go_at_call 53; (try rw [hxv]); refine hS.mono ?_; rintro e w' ⟨rfl, hw⟩; subst w') | (go_at_call 54; refine hZI.mono ?_; rintro e w' ⟨rfl, hw⟩; subst w') | (go_at_call 55; refine (infiniteOf_w _ G).mono ?_; rintro e w' ⟨rfl, hw⟩; subst w'))
    go_ret
    exact ⟨by first | rfl | (rw [← hO]; rfl), Below.refl _ _⟩)
include hm a0 a1 b0 b1 hx hy hSA hSB in
set_option maxHeartbeats 4000000 in
theorem i_nil (w : World) (G : Forms w) (hc : x = 0 ∧ y = 0 ∨ x = 0 ∧ y = 1 ∨ x = 1 ∧ y = 0) : Calls Tryd.prog 34 #[.int .u32 a, .int .u32 b, .int .i64 mode] w fun e w' => e = .returned (.int .u32 (sgn_w (SA != SB) 0)) ∧ Below w.heap.size w w' := by
  have xb := kind_bd (a % 2147483648)
  have yb := kind_bd (b % 2147483648)
  rw [hx] at xb
  rw [hy] at yb
  have hg := goodMode_any mode w
  rw [decide_eq_true hm] at hg
  have hA := kindOf_w a a0 a1 w G
  have hB := kindOf_w b b0 b1 w G
  rw [hx] at hA
  rw [hy] at hB
  obtain ⟨v0, v1, v2⟩ := xor_sign a b a0 a1 b0 b1
  rw [hSA, hSB] at v2
  obtain ⟨xv, hxv⟩ : ∃ xv, bits .xor .u32 a b = xv := ⟨_, rfl⟩
  rw [hxv] at v0 v1 v2
  have hS := signOf_w xv v0 v1 w G.c2
  rw [v2] at hS
  have hO := or_inf (SA != SB)
  obtain ⟨SG, hSG⟩ : ∃ SG : Int, (if (SA != SB) = true then (2147483648 : Int) else 0) = SG := ⟨_, rfl⟩
  rw [hSG] at hS hO
  have hZI := noughtInf x y xb.1 xb.2 yb.1 yb.2 w
  obtain ⟨zi, hzi⟩ : ∃ zi, decide (x = 0 ∧ y = 2 ∨ x = 2 ∧ y = 0) = zi := ⟨_, rfl⟩
  rw [hzi] at hZI
  clear v0 v1 v2 hx hy
  rcases (by omega : x = 0 ∨ x = 1 ∨ x = 2 ∨ x = 3) with rfl | rfl | rfl | rfl <;> rcases (by omega : y = 0 ∨ y = 1 ∨ y = 2 ∨ y = 3) with rfl | rfl | rfl | rfl
  all_goals cases zi
  all_goals first | (exfalso; omega) | (exfalso; revert hzi; decide) | (
    clear hc hzi
    go_enter Tryd.func34, Tryd.ntmps34
    go_wp2_with (first | (go_at_call 51; refine hg.mono ?_; rintro e w' ⟨rfl, hw⟩; subst w') | (go_at_call 52; (with_reducible show Calls Tryd.prog 52 #[Value.int IntKind.u32 a, Value.int IntKind.i64 0] _ _); refine hA.mono ?_; rintro e w' ⟨rfl, hw⟩; subst w') | (go_at_call 52; refine hB.mono ?_; rintro e w' ⟨rfl, hw⟩; subst w') | (go_at_call 53; (try rw [hxv]); refine hS.mono ?_; rintro e w' ⟨rfl, hw⟩; subst w') | (go_at_call 54; refine hZI.mono ?_; rintro e w' ⟨rfl, hw⟩; subst w') | (go_at_call 55; refine (infiniteOf_w _ G).mono ?_; rintro e w' ⟨rfl, hw⟩; subst w'))
    go_ret
    exact ⟨by first | rfl | (unfold sgn_w; rw [← hSG]; cases SA <;> cases SB <;> rfl), Below.refl _ _⟩)
include hm a0 a1 b0 b1 hx hy hSA hSB in
set_option maxHeartbeats 4000000 in
theorem i_num (w : World) (G : Forms w) (R Z E : Int) (hPR : Calls Tryd.prog 57 #[.int .u32 a, .int .u32 b] w fun e w' => e = .returned (.agg #[.bool (SA != SB), .int .u64 Z, .int .i64 E, .bool false]) ∧ Below w.heap.size w w') (hR : ∀ v : World, Forms v → Calls Tryd.prog 56 #[.agg #[.bool (SA != SB), .int .u64 Z, .int .i64 E, .bool false], .int .i64 0, .int .i64 mode] v fun e w' => e = .returned (.int .u32 R) ∧ Below v.heap.size v w') (hc : x = 1 ∧ y = 1) : Calls Tryd.prog 34 #[.int .u32 a, .int .u32 b, .int .i64 mode] w fun e w' => e = .returned (.int .u32 R) ∧ Below w.heap.size w w' := by
  have xb := kind_bd (a % 2147483648)
  have yb := kind_bd (b % 2147483648)
  rw [hx] at xb
  rw [hy] at yb
  have hg := goodMode_any mode w
  rw [decide_eq_true hm] at hg
  have hA := kindOf_w a a0 a1 w G
  have hB := kindOf_w b b0 b1 w G
  rw [hx] at hA
  rw [hy] at hB
  obtain ⟨v0, v1, v2⟩ := xor_sign a b a0 a1 b0 b1
  rw [hSA, hSB] at v2
  obtain ⟨xv, hxv⟩ : ∃ xv, bits .xor .u32 a b = xv := ⟨_, rfl⟩
  rw [hxv] at v0 v1 v2
  have hS := signOf_w xv v0 v1 w G.c2
  rw [v2] at hS
  have hO := or_inf (SA != SB)
  obtain ⟨SG, hSG⟩ : ∃ SG : Int, (if (SA != SB) = true then (2147483648 : Int) else 0) = SG := ⟨_, rfl⟩
  rw [hSG] at hS hO
  have hZI := noughtInf x y xb.1 xb.2 yb.1 yb.2 w
  obtain ⟨zi, hzi⟩ : ∃ zi, decide (x = 0 ∧ y = 2 ∨ x = 2 ∧ y = 0) = zi := ⟨_, rfl⟩
  rw [hzi] at hZI
  clear v0 v1 v2 hx hy
  rcases (by omega : x = 0 ∨ x = 1 ∨ x = 2 ∨ x = 3) with rfl | rfl | rfl | rfl <;> rcases (by omega : y = 0 ∨ y = 1 ∨ y = 2 ∨ y = 3) with rfl | rfl | rfl | rfl
  all_goals cases zi
  all_goals first | (exfalso; omega) | (exfalso; revert hzi; decide) | (
    clear hc hzi
    go_enter Tryd.func34, Tryd.ntmps34
    go_wp2_with (first | (go_at_call 51; refine hg.mono ?_; rintro e w' ⟨rfl, hw⟩; subst w') | (go_at_call 52; (with_reducible show Calls Tryd.prog 52 #[Value.int IntKind.u32 a, Value.int IntKind.i64 0] _ _); refine hA.mono ?_; rintro e w' ⟨rfl, hw⟩; subst w') | (go_at_call 52; refine hB.mono ?_; rintro e w' ⟨rfl, hw⟩; subst w') | (go_at_call 53; (try rw [hxv]); refine hS.mono ?_; rintro e w' ⟨rfl, hw⟩; subst w') | (go_at_call 54; refine hZI.mono ?_; rintro e w' ⟨rfl, hw⟩; subst w') | (go_at_call 55; refine (infiniteOf_w _ G).mono ?_; rintro e w' ⟨rfl, hw⟩; subst w') | (go_at_call 57; refine hPR.mono ?_; rintro e w1 ⟨rfl, hb1⟩) | (go_at_call 56; refine (hR w1 (G.next hb1)).mono ?_; rintro e w2 ⟨rfl, hb2⟩))
    go_ret
    exact ⟨rfl, hb1.trans (hb2.mono hb1.size)⟩)

include a0 a1 b0 b1 hx hy hSA hSB in
set_option maxHeartbeats 4000000 in
theorem s_nan (w : World) (hc : x = 3 ∨ y = 3 ∨ x = 0 ∧ y = 2 ∨ x = 2 ∧ y = 0) : Calls Tryd.prog 50 #[.int .u32 a, .int .u32 b, .int .i64 mode] w fun e w' => e = .returned (.int .u32 2143289344) ∧ Below w.heap.size w w' := by
  have xb := kind_bd (a % 2147483648)
  have yb := kind_bd (b % 2147483648)
  obtain ⟨ka3, ka2, ka0⟩ := kind_tests (a % 2147483648) (by omega)
  obtain ⟨kb3, kb2, kb0⟩ := kind_tests (b % 2147483648) (by omega)
  have nA := sNeg_any a a0 a1 w
  have nB := sNeg_any b b0 b1 w
  have qA := sNaN_any a a0 a1 w
  have qB := sNaN_any b b0 b1 w
  have iA := sInf_any a a0 a1 w
  have iB := sInf_any b b0 b1 w
  have zA := sNil_any a a0 a1 w
  have zB := sNil_any b b0 b1 w
  rw [hSA] at nA
  rw [hSB] at nB
  rw [ka3, hx] at qA
  rw [kb3, hy] at qB
  rw [ka2, hx] at iA
  rw [kb2, hy] at iB
  rw [ka0, hx] at zA
  rw [kb0, hy] at zB
  rw [hx] at xb
  rw [hy] at yb
  clear ka3 ka2 ka0 kb3 kb2 kb0 hx hy
  rcases (by omega : x = 0 ∨ x = 1 ∨ x = 2 ∨ x = 3) with rfl | rfl | rfl | rfl <;> rcases (by omega : y = 0 ∨ y = 1 ∨ y = 2 ∨ y = 3) with rfl | rfl | rfl | rfl
  all_goals first | (exfalso; omega) | (
    simp only [Int.reduceEq, decide_true, decide_false] at qA qB iA iB zA zB
    clear hc
    go_enter Tryd.func50, Tryd.ntmps50
    go_wp2_with (first | (go_at_call 70; (with_reducible show Calls Tryd.prog 70 #[Value.int IntKind.u32 a] _ _); refine nA.mono ?_; rintro e w' ⟨rfl, hw⟩; subst w') | (go_at_call 70; refine nB.mono ?_; rintro e w' ⟨rfl, hw⟩; subst w') | (go_at_call 66; (with_reducible show Calls Tryd.prog 66 #[Value.int IntKind.u32 a] _ _); refine qA.mono ?_; rintro e w' ⟨rfl, hw⟩; subst w') | (go_at_call 66; refine qB.mono ?_; rintro e w' ⟨rfl, hw⟩; subst w') | (go_at_call 67; (with_reducible show Calls Tryd.prog 67 #[Value.int IntKind.u32 a] _ _); refine iA.mono ?_; rintro e w' ⟨rfl, hw⟩; subst w') | (go_at_call 67; refine iB.mono ?_; rintro e w' ⟨rfl, hw⟩; subst w') | (go_at_call 68; (with_reducible show Calls Tryd.prog 68 #[Value.int IntKind.u32 a] _ _); refine zA.mono ?_; rintro e w' ⟨rfl, hw⟩; subst w') | (go_at_call 68; refine zB.mono ?_; rintro e w' ⟨rfl, hw⟩; subst w') | (go_at_call 79; refine (sSigned _ _ (by decide) (by decide) _).mono ?_; rintro e w' ⟨rfl, hw⟩; subst w'))
    all_goals go_ret
    all_goals exact ⟨rfl, Below.refl _ _⟩)
include a0 a1 b0 b1 hx hy hSA hSB in
set_option maxHeartbeats 4000000 in
theorem s_inf (w : World) (hc : x = 2 ∧ y = 1 ∨ x = 1 ∧ y = 2 ∨ x = 2 ∧ y = 2) : Calls Tryd.prog 50 #[.int .u32 a, .int .u32 b, .int .i64 mode] w fun e w' => e = .returned (.int .u32 (sgn_w (SA != SB) 2139095040)) ∧ Below w.heap.size w w' := by
  have xb := kind_bd (a % 2147483648)
  have yb := kind_bd (b % 2147483648)
  obtain ⟨ka3, ka2, ka0⟩ := kind_tests (a % 2147483648) (by omega)
  obtain ⟨kb3, kb2, kb0⟩ := kind_tests (b % 2147483648) (by omega)
  have nA := sNeg_any a a0 a1 w
  have nB := sNeg_any b b0 b1 w
  have qA := sNaN_any a a0 a1 w
  have qB := sNaN_any b b0 b1 w
  have iA := sInf_any a a0 a1 w
  have iB := sInf_any b b0 b1 w
  have zA := sNil_any a a0 a1 w
  have zB := sNil_any b b0 b1 w
  rw [hSA] at nA
  rw [hSB] at nB
  rw [ka3, hx] at qA
  rw [kb3, hy] at qB
  rw [ka2, hx] at iA
  rw [kb2, hy] at iB
  rw [ka0, hx] at zA
  rw [kb0, hy] at zB
  rw [hx] at xb
  rw [hy] at yb
  clear ka3 ka2 ka0 kb3 kb2 kb0 hx hy
  rcases (by omega : x = 0 ∨ x = 1 ∨ x = 2 ∨ x = 3) with rfl | rfl | rfl | rfl <;> rcases (by omega : y = 0 ∨ y = 1 ∨ y = 2 ∨ y = 3) with rfl | rfl | rfl | rfl
  all_goals first | (exfalso; omega) | (
    simp only [Int.reduceEq, decide_true, decide_false] at qA qB iA iB zA zB
    clear hc
    go_enter Tryd.func50, Tryd.ntmps50
    go_wp2_with (first | (go_at_call 70; (with_reducible show Calls Tryd.prog 70 #[Value.int IntKind.u32 a] _ _); refine nA.mono ?_; rintro e w' ⟨rfl, hw⟩; subst w') | (go_at_call 70; refine nB.mono ?_; rintro e w' ⟨rfl, hw⟩; subst w') | (go_at_call 66; (with_reducible show Calls Tryd.prog 66 #[Value.int IntKind.u32 a] _ _); refine qA.mono ?_; rintro e w' ⟨rfl, hw⟩; subst w') | (go_at_call 66; refine qB.mono ?_; rintro e w' ⟨rfl, hw⟩; subst w') | (go_at_call 67; (with_reducible show Calls Tryd.prog 67 #[Value.int IntKind.u32 a] _ _); refine iA.mono ?_; rintro e w' ⟨rfl, hw⟩; subst w') | (go_at_call 67; refine iB.mono ?_; rintro e w' ⟨rfl, hw⟩; subst w') | (go_at_call 68; (with_reducible show Calls Tryd.prog 68 #[Value.int IntKind.u32 a] _ _); refine zA.mono ?_; rintro e w' ⟨rfl, hw⟩; subst w') | (go_at_call 68; refine zB.mono ?_; rintro e w' ⟨rfl, hw⟩; subst w') | (go_at_call 79; refine (sSigned _ _ (by decide) (by decide) _).mono ?_; rintro e w' ⟨rfl, hw⟩; subst w'))
    all_goals go_ret
    all_goals exact ⟨by revert h; clear hSA hSB nA nB; cases SA <;> cases SB <;> intro h <;> first | rfl | exact (h rfl).elim | exact Bool.noConfusion h, Below.refl _ _⟩)
include a0 a1 b0 b1 hx hy hSA hSB in
set_option maxHeartbeats 4000000 in
theorem s_nil (w : World) (hc : x = 0 ∧ y = 0 ∨ x = 0 ∧ y = 1 ∨ x = 1 ∧ y = 0) : Calls Tryd.prog 50 #[.int .u32 a, .int .u32 b, .int .i64 mode] w fun e w' => e = .returned (.int .u32 (sgn_w (SA != SB) 0)) ∧ Below w.heap.size w w' := by
  have xb := kind_bd (a % 2147483648)
  have yb := kind_bd (b % 2147483648)
  obtain ⟨ka3, ka2, ka0⟩ := kind_tests (a % 2147483648) (by omega)
  obtain ⟨kb3, kb2, kb0⟩ := kind_tests (b % 2147483648) (by omega)
  have nA := sNeg_any a a0 a1 w
  have nB := sNeg_any b b0 b1 w
  have qA := sNaN_any a a0 a1 w
  have qB := sNaN_any b b0 b1 w
  have iA := sInf_any a a0 a1 w
  have iB := sInf_any b b0 b1 w
  have zA := sNil_any a a0 a1 w
  have zB := sNil_any b b0 b1 w
  rw [hSA] at nA
  rw [hSB] at nB
  rw [ka3, hx] at qA
  rw [kb3, hy] at qB
  rw [ka2, hx] at iA
  rw [kb2, hy] at iB
  rw [ka0, hx] at zA
  rw [kb0, hy] at zB
  rw [hx] at xb
  rw [hy] at yb
  clear ka3 ka2 ka0 kb3 kb2 kb0 hx hy
  rcases (by omega : x = 0 ∨ x = 1 ∨ x = 2 ∨ x = 3) with rfl | rfl | rfl | rfl <;> rcases (by omega : y = 0 ∨ y = 1 ∨ y = 2 ∨ y = 3) with rfl | rfl | rfl | rfl
  all_goals first | (exfalso; omega) | (
    simp only [Int.reduceEq, decide_true, decide_false] at qA qB iA iB zA zB
    clear hc
    go_enter Tryd.func50, Tryd.ntmps50
    go_wp2_with (first | (go_at_call 70; (with_reducible show Calls Tryd.prog 70 #[Value.int IntKind.u32 a] _ _); refine nA.mono ?_; rintro e w' ⟨rfl, hw⟩; subst w') | (go_at_call 70; refine nB.mono ?_; rintro e w' ⟨rfl, hw⟩; subst w') | (go_at_call 66; (with_reducible show Calls Tryd.prog 66 #[Value.int IntKind.u32 a] _ _); refine qA.mono ?_; rintro e w' ⟨rfl, hw⟩; subst w') | (go_at_call 66; refine qB.mono ?_; rintro e w' ⟨rfl, hw⟩; subst w') | (go_at_call 67; (with_reducible show Calls Tryd.prog 67 #[Value.int IntKind.u32 a] _ _); refine iA.mono ?_; rintro e w' ⟨rfl, hw⟩; subst w') | (go_at_call 67; refine iB.mono ?_; rintro e w' ⟨rfl, hw⟩; subst w') | (go_at_call 68; (with_reducible show Calls Tryd.prog 68 #[Value.int IntKind.u32 a] _ _); refine zA.mono ?_; rintro e w' ⟨rfl, hw⟩; subst w') | (go_at_call 68; refine zB.mono ?_; rintro e w' ⟨rfl, hw⟩; subst w') | (go_at_call 79; refine (sSigned _ _ (by decide) (by decide) _).mono ?_; rintro e w' ⟨rfl, hw⟩; subst w'))
    all_goals go_ret
    all_goals exact ⟨by revert h; clear hSA hSB nA nB; cases SA <;> cases SB <;> intro h <;> first | rfl | exact (h rfl).elim | exact Bool.noConfusion h, Below.refl _ _⟩)
include a0 a1 b0 b1 hx hy hSA hSB in
set_option maxHeartbeats 4000000 in
theorem s_num (w : World) (R m n p q X E : Int) (pA : Calls Tryd.prog 71 #[.int .u32 a] w fun e w' => e = .returned (.tuple #[.int .i64 m, .int .i64 p]) ∧ w' = w) (pB : Calls Tryd.prog 71 #[.int .u32 b] w fun e w' => e = .returned (.tuple #[.int .i64 n, .int .i64 q]) ∧ w' = w) (hX : m * n = X) (X0 : -281474976710656 < X) (X1 : X < 281474976710656) (hE : p + q = E) (p0 : -149 ≤ p) (p1 : p ≤ 105) (q0 : -149 ≤ q) (q1 : q ≤ 105) (r0 : 0 ≤ R) (r1 : R < 4294967296)
    (hT : ∀ v : World, Calls Tryd.prog 75 #[.agg #[.int .i64 X, .bool false, .slice none 0 0, .int .i64 1, .bool false, .slice none 0 0, .int .i64 E], .agg #[.int .i64 24, .int .i64 (-149), .int .i64 104], .int .i64 mode] v fun e w' => e = .returned (.int .i64 R) ∧ Below v.heap.size v w') (hc : x = 1 ∧ y = 1) : Calls Tryd.prog 50 #[.int .u32 a, .int .u32 b, .int .i64 mode] w fun e w' => e = .returned (.int .u32 R) ∧ Below w.heap.size w w' := by
  have xb := kind_bd (a % 2147483648)
  have yb := kind_bd (b % 2147483648)
  obtain ⟨ka3, ka2, ka0⟩ := kind_tests (a % 2147483648) (by omega)
  obtain ⟨kb3, kb2, kb0⟩ := kind_tests (b % 2147483648) (by omega)
  have nA := sNeg_any a a0 a1 w
  have nB := sNeg_any b b0 b1 w
  have qA := sNaN_any a a0 a1 w
  have qB := sNaN_any b b0 b1 w
  have iA := sInf_any a a0 a1 w
  have iB := sInf_any b b0 b1 w
  have zA := sNil_any a a0 a1 w
  have zB := sNil_any b b0 b1 w
  rw [hSA] at nA
  rw [hSB] at nB
  rw [ka3, hx] at qA
  rw [kb3, hy] at qB
  rw [ka2, hx] at iA
  rw [kb2, hy] at iB
  rw [ka0, hx] at zA
  rw [kb0, hy] at zB
  rw [hx] at xb
  rw [hy] at yb
  clear ka3 ka2 ka0 kb3 kb2 kb0 hx hy
  rcases (by omega : x = 0 ∨ x = 1 ∨ x = 2 ∨ x = 3) with rfl | rfl | rfl | rfl <;> rcases (by omega : y = 0 ∨ y = 1 ∨ y = 2 ∨ y = 3) with rfl | rfl | rfl | rfl
  all_goals first | (exfalso; omega) | (
    simp only [Int.reduceEq, decide_false] at qA qB iA iB zA zB
    clear hc
    go_enter Tryd.func50, Tryd.ntmps50
    go_wp2_with (first | (go_at_call 70; (with_reducible show Calls Tryd.prog 70 #[Value.int IntKind.u32 a] _ _); refine nA.mono ?_; rintro e w' ⟨rfl, hw⟩; subst w') | (go_at_call 70; refine nB.mono ?_; rintro e w' ⟨rfl, hw⟩; subst w') | (go_at_call 66; (with_reducible show Calls Tryd.prog 66 #[Value.int IntKind.u32 a] _ _); refine qA.mono ?_; rintro e w' ⟨rfl, hw⟩; subst w') | (go_at_call 66; refine qB.mono ?_; rintro e w' ⟨rfl, hw⟩; subst w') | (go_at_call 67; (with_reducible show Calls Tryd.prog 67 #[Value.int IntKind.u32 a] _ _); refine iA.mono ?_; rintro e w' ⟨rfl, hw⟩; subst w') | (go_at_call 67; refine iB.mono ?_; rintro e w' ⟨rfl, hw⟩; subst w') | (go_at_call 68; (with_reducible show Calls Tryd.prog 68 #[Value.int IntKind.u32 a] _ _); refine zA.mono ?_; rintro e w' ⟨rfl, hw⟩; subst w') | (go_at_call 68; refine zB.mono ?_; rintro e w' ⟨rfl, hw⟩; subst w') | (go_at_call 79; refine (sSigned _ _ (by decide) (by decide) _).mono ?_; rintro e w' ⟨rfl, hw⟩; subst w') | (go_at_call 71; (with_reducible show Calls Tryd.prog 71 #[Value.int IntKind.u32 a] _ _); refine pA.mono ?_; rintro e w' ⟨rfl, hw⟩; subst w') | (go_at_call 71; refine pB.mono ?_; rintro e w' ⟨rfl, hw⟩; subst w') | (go_at_call 73; refine (zExact X E (by omega) (by omega) _).mono ?_; rintro e w1 ⟨rfl, hb1⟩) | (go_at_call 76; refine (zWord w1).mono ?_; rintro e w2 ⟨rfl, hb2⟩) | (go_at_call 75; refine (hT w2).mono ?_; rintro e w3 ⟨rfl, hb3⟩))
    all_goals go_ret
    all_goals exact ⟨rfl, (hb1.trans (hb2.mono hb1.size)).trans (hb3.mono (Nat.le_trans hb1.size hb2.size))⟩)

end
/-- Both sides answer alike: one number for each two words and mode. -/
theorem both (a b mode : Int) (hm : 0 ≤ mode ∧ mode ≤ 4) (a0 : 0 ≤ a) (a1 : a < 4294967296) (b0 : 0 ≤ b) (b1 : b < 4294967296) : ∃ R : Int, (0 ≤ R ∧ R < 4294967296) ∧
    (∀ w : World, Calls Tryd.prog 50 #[.int .u32 a, .int .u32 b, .int .i64 mode] w fun e w' => e = .returned (.int .u32 R) ∧ Below w.heap.size w w') ∧
    (∀ w : World, Forms w → Calls Tryd.prog 34 #[.int .u32 a, .int .u32 b, .int .i64 mode] w fun e w' => e = .returned (.int .u32 R) ∧ Below w.heap.size w w') := by
  obtain ⟨x, hx⟩ : ∃ x, kindI (a % 2147483648) = x := ⟨_, rfl⟩
  obtain ⟨y, hy⟩ : ∃ y, kindI (b % 2147483648) = y := ⟨_, rfl⟩
  obtain ⟨SA, hSA⟩ : ∃ s, decide (2147483648 ≤ a) = s := ⟨_, rfl⟩
  obtain ⟨SB, hSB⟩ : ∃ s, decide (2147483648 ≤ b) = s := ⟨_, rfl⟩
  have xb := kind_bd (a % 2147483648)
  have yb := kind_bd (b % 2147483648)
  rw [hx] at xb
  rw [hy] at yb
  by_cases c1 : x = 3 ∨ y = 3 ∨ x = 0 ∧ y = 2 ∨ x = 2 ∧ y = 0
  · exact ⟨_, ⟨by decide, by decide⟩, fun w => s_of a b mode _ hm w (s_nan a b mode x y SA SB a0 a1 b0 b1 hx hy hSA hSB w c1), fun w G => i_nan a b mode x y SA SB hm a0 a1 b0 b1 hx hy hSA hSB w G c1⟩
  by_cases c2 : x = 2 ∧ y = 1 ∨ x = 1 ∧ y = 2 ∨ x = 2 ∧ y = 2
  · exact ⟨_, (by cases SA <;> cases SB <;> exact ⟨by decide, by decide⟩), fun w => s_of a b mode _ hm w (s_inf a b mode x y SA SB a0 a1 b0 b1 hx hy hSA hSB w c2), fun w G => i_inf a b mode x y SA SB hm a0 a1 b0 b1 hx hy hSA hSB w G c2⟩
  by_cases c3 : x = 0 ∧ y = 0 ∨ x = 0 ∧ y = 1 ∨ x = 1 ∧ y = 0
  · exact ⟨_, (by cases SA <;> cases SB <;> exact ⟨by decide, by decide⟩), fun w => s_of a b mode _ hm w (s_nil a b mode x y SA SB a0 a1 b0 b1 hx hy hSA hSB w c3), fun w G => i_nil a b mode x y SA SB hm a0 a1 b0 b1 hx hy hSA hSB w G c3⟩
  have c4 : x = 1 ∧ y = 1 := by omega
  have na : 0 < a % 2147483648 ∧ a % 2147483648 < 2139095040 := by
    have h := hx; rw [c4.1] at h; unfold kindI at h; (repeat' split at h) <;> omega
  have nb : 0 < b % 2147483648 ∧ b % 2147483648 < 2139095040 := by
    have h := hy; rw [c4.2] at h; unfold kindI at h; (repeat' split at h) <;> omega
  have sbA := exS_bd (a % 2147483648) (by omega)
  have pbA := exP_bd (a % 2147483648) (by omega) (by omega)
  have spA : 0 < exS (a % 2147483648) := by unfold exS; split <;> omega
  have sbB := exS_bd (b % 2147483648) (by omega)
  have pbB := exP_bd (b % 2147483648) (by omega) (by omega)
  have spB : 0 < exS (b % 2147483648) := by unfold exS; split <;> omega
  obtain ⟨S, hS⟩ : ∃ S, exS (a % 2147483648) = S := ⟨_, rfl⟩
  obtain ⟨p, hp⟩ : ∃ E, exP (a % 2147483648) = E := ⟨_, rfl⟩
  obtain ⟨T, hT⟩ : ∃ S, exS (b % 2147483648) = S := ⟨_, rfl⟩
  obtain ⟨q, hq⟩ : ∃ E, exP (b % 2147483648) = E := ⟨_, rfl⟩
  rw [hS] at sbA spA
  rw [hp] at pbA
  rw [hT] at sbB spB
  rw [hq] at pbB
  obtain ⟨s, rfl⟩ := Int.eq_ofNat_of_zero_le sbA.1
  obtain ⟨t, rfl⟩ := Int.eq_ofNat_of_zero_le sbB.1
  obtain ⟨z, hz⟩ : ∃ z, s * t = z := ⟨_, rfl⟩
  have z0 : 0 < z := by rw [← hz]; exact Nat.mul_pos (by omega) (by omega)
  have z1 : z < 281474976710656 := by
    rw [← hz]
    have h : s * t ≤ 16777215 * 16777215 := Nat.mul_le_mul (by omega) (by omega)
    omega
  have hzI : (s : Int) * (t : Int) = (z : Int) := by rw [← hz]; simp
  obtain ⟨X, hX⟩ : ∃ X, sgI SA (s : Int) * sgI SB (t : Int) = X := ⟨_, rfl⟩
  have hXz : X = if (SA != SB) = true then -(z : Int) else z := by
    rw [← hX, ← hzI]; cases SA <;> cases SB <;> simp [sgI, Int.neg_mul, Int.mul_neg]
  have hXa : X.natAbs = z := by rw [hXz]; split <;> omega
  have hXn : decide (X < 0) = (SA != SB) := by rw [hXz]; cases (SA != SB) <;> simp <;> omega
  have X0 : -281474976710656 < X := by omega
  have X1 : X < 281474976710656 := by omega
  obtain ⟨R, r0, r1, hi, hs⟩ := whole_both_w (SA != SB) z (p + q) mode X hm.1 hm.2 z0 (by omega) (by omega) (by omega) hXa hXn
  refine ⟨R, ⟨r0, r1⟩, fun w => ?_, fun w G => ?_⟩
  · have pA := sParts_any a a0 a1 w
    have pB := sParts_any b b0 b1 w
    rw [hSA, hS, hp] at pA
    rw [hSB, hT, hq] at pB
    refine s_of a b mode _ hm w (s_num a b mode x y SA SB a0 a1 b0 b1 hx hy hSA hSB w R _ _ p q X (p + q) pA pB hX X0 X1 rfl pbA.1 pbA.2 pbB.1 pbB.2 r0 r1 (fun v => ?_) c4)
    exact hs v 3 3 X 1 false false none none 0 0 0 0 (num_small v 3 X (by omega) (by omega)) (num_small v 3 1 (by decide) (by decide)) (by decide) (by decide)
  · exact i_num a b mode x y SA SB hm a0 a1 b0 b1 hx hy hSA hSB w G R (z : Int) (p + q) (prod59 a b a0 a1 b0 b1 w G _ _ 0 0 _ _ (z : Int) (p + q) SA SB hSA hSB hS hT hp hq sbA.1 sbA.2 sbB.1 sbB.2 pbA.1 pbA.2 pbB.1 pbB.2 hzI (by omega) (by omega) rfl) hi c4

end Go.Proofs.YtlcfpcapefeajaaDoor.fnExactMulWords
namespace Go.Proofs.YtlcfpcapefeajaaDoor
open Go.ChangeShapes Go.WideShapes Go.ChangeAt Go.RowKit
set_option linter.unusedVariables false
def flip (a : Int) : Int := bits .xor .u32 a 2147483648
theorem flip33 (a : Int) (w : World) : Calls Tryd.prog 33 #[.int .u32 a] w fun e w' => e = .returned (.int .u32 (flip a)) ∧ Below w.heap.size w w' := by
  go_enter Tryd.func33, Tryd.ntmps33
  go_wp2
  go_ret
  exact ⟨rfl, Below.refl _ _⟩
theorem flip35 (a : Int) (w : World) (G : Forms w) : Calls Tryd.prog 35 #[.int .u32 a] w fun e w' => e = .returned (.int .u32 (flip a)) ∧ Below w.heap.size w w' := by
  have c2 := G.c2
  go_enter Tryd.func35, Tryd.ntmps35
  go_wp2
  go_ret
  exact ⟨rfl, Below.refl _ _⟩
theorem flip_bd (a : Int) (a0 : 0 ≤ a) (a1 : a < 4294967296) : 0 ≤ flip a ∧ flip a < 4294967296 := by
  obtain ⟨h0, h1, _⟩ := xor_sign a 2147483648 a0 a1 (by decide) (by decide)
  exact ⟨h0, h1⟩
theorem mul32 (a b R : Int) (h : ∀ v : World, Calls Tryd.prog 50 #[.int .u32 a, .int .u32 b, .int .i64 0] v fun e w' => e = .returned (.int .u32 R) ∧ Below v.heap.size v w') (w : World) : Calls Tryd.prog 32 #[.int .u32 a, .int .u32 b] w fun e w' => e = .returned (.int .u32 R) ∧ Below w.heap.size w w' := by
  go_enter Tryd.func32, Tryd.ntmps32
  go_wp2_with (go_at_call 50; refine (h _).mono ?_; rintro e w1 ⟨rfl, b1⟩)
  go_ret
  exact ⟨rfl, b1⟩
set_option maxRecDepth 100000 in
set_option maxHeartbeats 8000000 in
theorem mulS13 (a0 a1 b0 b1 : Int) (R1 R2 R3 R4 R5 R6 R7 : Int) (H1 : Hid (∀ v : World, Calls Tryd.prog 32 #[.int .u32 a0, .int .u32 b0] v fun e w' => e = .returned (.int .u32 R1) ∧ Below v.heap.size v w')) (H2 : Hid (∀ v : World, Calls Tryd.prog 32 #[.int .u32 a1, .int .u32 b1] v fun e w' => e = .returned (.int .u32 R2) ∧ Below v.heap.size v w')) (H3 : Hid (∀ v : World, Calls Tryd.prog 33 #[.int .u32 R2] v fun e w' => e = .returned (.int .u32 R3) ∧ Below v.heap.size v w')) (H4 : Hid (∀ v : World, Calls Tryd.prog 30 #[.int .u32 R1, .int .u32 R3] v fun e w' => e = .returned (.int .u32 R4) ∧ Below v.heap.size v w')) (H5 : Hid (∀ v : World, Calls Tryd.prog 32 #[.int .u32 a0, .int .u32 b1] v fun e w' => e = .returned (.int .u32 R5) ∧ Below v.heap.size v w')) (H6 : Hid (∀ v : World, Calls Tryd.prog 32 #[.int .u32 a1, .int .u32 b0] v fun e w' => e = .returned (.int .u32 R6) ∧ Below v.heap.size v w')) (H7 : Hid (∀ v : World, Calls Tryd.prog 30 #[.int .u32 R5, .int .u32 R6] v fun e w' => e = .returned (.int .u32 R7) ∧ Below v.heap.size v w')) (w : World) :
    Calls Tryd.prog 13 #[.agg #[.int .u32 a0, .int .u32 a1], .agg #[.int .u32 b0, .int .u32 b1]] w fun e w' => e = .returned (.agg #[.int .u32 R4, .int .u32 R7]) ∧ Below w.heap.size w w' := by
  go_enter Tryd.func13, Tryd.ntmps13
  go_wp2
  obtain ⟨W0, hW0⟩ : ∃ W0, W0 = ((w.alloc (.cells #[.int .u32 a0, .int .u32 a1] 25)).alloc (.cells #[.int .u32 b0, .int .u32 b1] 25)).alloc (.cells #[.int .u32 0, .int .u32 0] 25) := ⟨_, rfl⟩
  obtain ⟨k, hk⟩ : ∃ k, k = w.heap.size := ⟨_, rfl⟩
  have A0 : W0.heap[k]? = some (.cells #[.int .u32 a0, .int .u32 a1] 25 (0, 0)) := by rw [hW0, hk, Below.heap_alloc _ _ _ (by first | (simp; done) | (simp; omega)), Below.heap_alloc _ _ _ (by first | (simp; done) | (simp; omega))]; exact heap_alloc_new _ _
  have B0 : W0.heap[k + 1]? = some (.cells #[.int .u32 b0, .int .u32 b1] 25 (0, 0)) := by rw [hW0, hk, Below.heap_alloc _ _ _ (by first | (simp; done) | (simp; omega))]; exact heap_alloc_at (by simp)
  have Z0 : W0.heap[k + 1 + 1]? = some (.cells #[.int .u32 0, .int .u32 0] 25 (0, 0)) := by rw [hW0, hk]; exact heap_alloc_at (by simp)
  have b0' : Below w.heap.size w W0 := by rw [hW0]; exact (((Below.refl _ _).alloc (by omega) _).alloc (by simp) _).alloc (by simp; omega) _
  have z0 : k + 1 + 1 < W0.heap.size := by rw [hW0, hk]; first | (simp; done) | (simp; omega)
  have G0 := True.intro
  rw [← hW0, ← hk]
  have hkw : w.heap.size ≤ k := by omega
  clear hW0 hk
  have bl0 := b0'
  obtain ⟨⟨s00, s01⟩, _⟩ := blk2 A0
  obtain ⟨⟨t00, t01⟩, _⟩ := blk2 B0
  go_region_held3 (fun v => v.cell? ⟨k, 0, none⟩ = some (.int .u32 a0) ∧ v.cell? ⟨k, 1, none⟩ = some (.int .u32 a1) ∧ v.cell? ⟨k + 1, 0, none⟩ = some (.int .u32 b0) ∧ v.cell? ⟨k + 1, 1, none⟩ = some (.int .u32 b1)) (first | with_reducible exact ⟨s00, s01, t00, t01⟩ | with_reducible exact ⟨s10, s11, t10, t11⟩ | with_reducible exact ⟨s20, s21, t20, t21⟩ | with_reducible exact ⟨s30, s31, t30, t31⟩ | with_reducible exact ⟨s40, s41, t40, t41⟩ | with_reducible exact ⟨s50, s51, t50, t51⟩ | with_reducible exact ⟨s60, s61, t60, t61⟩ | with_reducible exact ⟨s70, s71, t70, t71⟩ | (with_reducible refine ⟨cell_set2 ?_ s70, cell_set2 ?_ s71, cell_set2 ?_ t70, cell_set2 ?_ t71⟩ <;> omega) | (go_keep; done)) (first | (go_at_call 32; (with_reducible show Calls Tryd.prog 32 #[Value.int IntKind.u32 a0, Value.int IntKind.u32 b0] _ _); refine ((Hid.out H1) _).mono ?_; rintro e w1 ⟨rfl, hc1⟩; (have hb1 : Below W0.heap.size W0 w1 := ⟨hc1.os, hc1.tape, hc1.output, hc1.size, hc1.block⟩); (have A1 := (hb1.block k (by omega)).trans A0); (have B1 := (hb1.block (k + 1) (by omega)).trans B0); (have Z1 := (hb1.block (k + 1 + 1) (by omega)).trans Z0); (have z1 : k + 1 + 1 < w1.heap.size := Nat.lt_of_lt_of_le z0 hb1.size); (have bl1 := bl0.trans (hb1.mono bl0.size)); obtain ⟨⟨s10, s11⟩, _⟩ := blk2 A1; obtain ⟨⟨t10, t11⟩, _⟩ := blk2 B1; obtain ⟨⟨y10, y11⟩, f10, f11⟩ := blk2 Z1) | (go_at_call 32; (with_reducible show Calls Tryd.prog 32 #[Value.int IntKind.u32 a1, Value.int IntKind.u32 b1] _ _); refine ((Hid.out H2) _).mono ?_; rintro e w2 ⟨rfl, hc2⟩; (have hb2 : Below w1.heap.size w1 w2 := ⟨hc2.os, hc2.tape, hc2.output, hc2.size, hc2.block⟩); (have A2 := (hb2.block k (by omega)).trans A1); (have B2 := (hb2.block (k + 1) (by omega)).trans B1); (have Z2 := (hb2.block (k + 1 + 1) (by omega)).trans Z1); (have z2 : k + 1 + 1 < w2.heap.size := Nat.lt_of_lt_of_le z1 hb2.size); (have bl2 := bl1.trans (hb2.mono bl1.size)); obtain ⟨⟨s20, s21⟩, _⟩ := blk2 A2; obtain ⟨⟨t20, t21⟩, _⟩ := blk2 B2; obtain ⟨⟨y20, y21⟩, f20, f21⟩ := blk2 Z2) | (go_at_call 33; (with_reducible show Calls Tryd.prog 33 #[Value.int IntKind.u32 R2] _ _); refine ((Hid.out H3) _).mono ?_; rintro e w3 ⟨rfl, hc3⟩; (have hb3 : Below w2.heap.size w2 w3 := ⟨hc3.os, hc3.tape, hc3.output, hc3.size, hc3.block⟩); (have A3 := (hb3.block k (by omega)).trans A2); (have B3 := (hb3.block (k + 1) (by omega)).trans B2); (have Z3 := (hb3.block (k + 1 + 1) (by omega)).trans Z2); (have z3 : k + 1 + 1 < w3.heap.size := Nat.lt_of_lt_of_le z2 hb3.size); (have bl3 := bl2.trans (hb3.mono bl2.size)); obtain ⟨⟨s30, s31⟩, _⟩ := blk2 A3; obtain ⟨⟨t30, t31⟩, _⟩ := blk2 B3; obtain ⟨⟨y30, y31⟩, f30, f31⟩ := blk2 Z3) | (go_at_call 30; (with_reducible show Calls Tryd.prog 30 #[Value.int IntKind.u32 R1, Value.int IntKind.u32 R3] _ _); refine ((Hid.out H4) _).mono ?_; rintro e w4 ⟨rfl, hc4⟩; (have hb4 : Below w3.heap.size w3 w4 := ⟨hc4.os, hc4.tape, hc4.output, hc4.size, hc4.block⟩); (have A4 := (hb4.block k (by omega)).trans A3); (have B4 := (hb4.block (k + 1) (by omega)).trans B3); (have Z4 := (hb4.block (k + 1 + 1) (by omega)).trans Z3); (have z4 : k + 1 + 1 < w4.heap.size := Nat.lt_of_lt_of_le z3 hb4.size); (have bl4 := bl3.trans (hb4.mono bl3.size)); obtain ⟨⟨s40, s41⟩, _⟩ := blk2 A4; obtain ⟨⟨t40, t41⟩, _⟩ := blk2 B4; obtain ⟨⟨y40, y41⟩, f40, f41⟩ := blk2 Z4) | (go_at_call 32; (with_reducible show Calls Tryd.prog 32 #[Value.int IntKind.u32 a0, Value.int IntKind.u32 b1] _ _); refine ((Hid.out H5) _).mono ?_; rintro e w5 ⟨rfl, hc5⟩; (have hb5 : Below w4.heap.size w4 w5 := ⟨hc5.os, hc5.tape, hc5.output, hc5.size, hc5.block⟩); (have A5 := (hb5.block k (by omega)).trans A4); (have B5 := (hb5.block (k + 1) (by omega)).trans B4); (have Z5 := (hb5.block (k + 1 + 1) (by omega)).trans Z4); (have z5 : k + 1 + 1 < w5.heap.size := Nat.lt_of_lt_of_le z4 hb5.size); (have bl5 := bl4.trans (hb5.mono bl4.size)); obtain ⟨⟨s50, s51⟩, _⟩ := blk2 A5; obtain ⟨⟨t50, t51⟩, _⟩ := blk2 B5; obtain ⟨⟨y50, y51⟩, f50, f51⟩ := blk2 Z5) | (go_at_call 32; (with_reducible show Calls Tryd.prog 32 #[Value.int IntKind.u32 a1, Value.int IntKind.u32 b0] _ _); refine ((Hid.out H6) _).mono ?_; rintro e w6 ⟨rfl, hc6⟩; (have hb6 : Below w5.heap.size w5 w6 := ⟨hc6.os, hc6.tape, hc6.output, hc6.size, hc6.block⟩); (have A6 := (hb6.block k (by omega)).trans A5); (have B6 := (hb6.block (k + 1) (by omega)).trans B5); (have Z6 := (hb6.block (k + 1 + 1) (by omega)).trans Z5); (have z6 : k + 1 + 1 < w6.heap.size := Nat.lt_of_lt_of_le z5 hb6.size); (have bl6 := bl5.trans (hb6.mono bl5.size)); obtain ⟨⟨s60, s61⟩, _⟩ := blk2 A6; obtain ⟨⟨t60, t61⟩, _⟩ := blk2 B6; obtain ⟨⟨y60, y61⟩, f60, f61⟩ := blk2 Z6) | (go_at_call 30; (with_reducible show Calls Tryd.prog 30 #[Value.int IntKind.u32 R5, Value.int IntKind.u32 R6] _ _); refine ((Hid.out H7) _).mono ?_; rintro e w7 ⟨rfl, hc7⟩; (have hb7 : Below w6.heap.size w6 w7 := ⟨hc7.os, hc7.tape, hc7.output, hc7.size, hc7.block⟩); (have A7 := (hb7.block k (by omega)).trans A6); (have B7 := (hb7.block (k + 1) (by omega)).trans B6); (have Z7 := (hb7.block (k + 1 + 1) (by omega)).trans Z6); (have z7 : k + 1 + 1 < w7.heap.size := Nat.lt_of_lt_of_le z6 hb7.size); (have bl7 := bl6.trans (hb7.mono bl6.size)); obtain ⟨⟨s70, s71⟩, _⟩ := blk2 A7; obtain ⟨⟨t70, t71⟩, _⟩ := blk2 B7; obtain ⟨⟨y70, y71⟩, f70, f71⟩ := blk2 Z7))
  all_goals go_wp2
  all_goals
    exact bodyPost_ret (v := .agg #[.int .u32 R4, .int .u32 R7]) (by simp [results, Tryd.results13, go_sem, y70, y71]) rfl ⟨rfl, by repeat (first | (with_reducible exact bl7) | (with_reducible refine Below.setCell ?_ (by first | omega | (simp; try omega)) _))⟩
set_option maxRecDepth 100000 in
set_option maxHeartbeats 8000000 in
theorem mulI14 (a0 a1 b0 b1 : Int) (R1 R2 R3 R4 R5 R6 R7 : Int) (H1 : Hid (∀ v : World, Forms v → Calls Tryd.prog 34 #[.int .u32 a0, .int .u32 b0, .int .i64 0] v fun e w' => e = .returned (.int .u32 R1) ∧ Below v.heap.size v w')) (H2 : Hid (∀ v : World, Forms v → Calls Tryd.prog 34 #[.int .u32 a1, .int .u32 b1, .int .i64 0] v fun e w' => e = .returned (.int .u32 R2) ∧ Below v.heap.size v w')) (H3 : Hid (∀ v : World, Forms v → Calls Tryd.prog 35 #[.int .u32 R2] v fun e w' => e = .returned (.int .u32 R3) ∧ Below v.heap.size v w')) (H4 : Hid (∀ v : World, Forms v → Calls Tryd.prog 31 #[.int .u32 R1, .int .u32 R3, .int .i64 0] v fun e w' => e = .returned (.int .u32 R4) ∧ Below v.heap.size v w')) (H5 : Hid (∀ v : World, Forms v → Calls Tryd.prog 34 #[.int .u32 a0, .int .u32 b1, .int .i64 0] v fun e w' => e = .returned (.int .u32 R5) ∧ Below v.heap.size v w')) (H6 : Hid (∀ v : World, Forms v → Calls Tryd.prog 34 #[.int .u32 a1, .int .u32 b0, .int .i64 0] v fun e w' => e = .returned (.int .u32 R6) ∧ Below v.heap.size v w')) (H7 : Hid (∀ v : World, Forms v → Calls Tryd.prog 31 #[.int .u32 R5, .int .u32 R6, .int .i64 0] v fun e w' => e = .returned (.int .u32 R7) ∧ Below v.heap.size v w')) (w : World) (G : Forms w) :
    Calls Tryd.prog 14 #[.agg #[.int .u32 a0, .int .u32 a1], .agg #[.int .u32 b0, .int .u32 b1]] w fun e w' => e = .returned (.agg #[.int .u32 R4, .int .u32 R7]) ∧ Below w.heap.size w w' := by
  go_enter Tryd.func14, Tryd.ntmps14
  go_wp2
  obtain ⟨W0, hW0⟩ : ∃ W0, W0 = ((w.alloc (.cells #[.int .u32 a0, .int .u32 a1] 25)).alloc (.cells #[.int .u32 b0, .int .u32 b1] 25)).alloc (.cells #[.int .u32 0, .int .u32 0] 25) := ⟨_, rfl⟩
  obtain ⟨k, hk⟩ : ∃ k, k = w.heap.size := ⟨_, rfl⟩
  have A0 : W0.heap[k]? = some (.cells #[.int .u32 a0, .int .u32 a1] 25 (0, 0)) := by rw [hW0, hk, Below.heap_alloc _ _ _ (by first | (simp; done) | (simp; omega)), Below.heap_alloc _ _ _ (by first | (simp; done) | (simp; omega))]; exact heap_alloc_new _ _
  have B0 : W0.heap[k + 1]? = some (.cells #[.int .u32 b0, .int .u32 b1] 25 (0, 0)) := by rw [hW0, hk, Below.heap_alloc _ _ _ (by first | (simp; done) | (simp; omega))]; exact heap_alloc_at (by simp)
  have Z0 : W0.heap[k + 1 + 1]? = some (.cells #[.int .u32 0, .int .u32 0] 25 (0, 0)) := by rw [hW0, hk]; exact heap_alloc_at (by simp)
  have b0' : Below w.heap.size w W0 := by rw [hW0]; exact (((Below.refl _ _).alloc (by omega) _).alloc (by simp) _).alloc (by simp; omega) _
  have z0 : k + 1 + 1 < W0.heap.size := by rw [hW0, hk]; first | (simp; done) | (simp; omega)
  have G0 : Forms W0 := G.below b0'
  rw [← hW0, ← hk]
  have hkw : w.heap.size ≤ k := by omega
  clear hW0 hk
  have bl0 := b0'
  obtain ⟨⟨s00, s01⟩, _⟩ := blk2 A0
  obtain ⟨⟨t00, t01⟩, _⟩ := blk2 B0
  go_region_held3 (fun v => v.cell? ⟨k, 0, none⟩ = some (.int .u32 a0) ∧ v.cell? ⟨k, 1, none⟩ = some (.int .u32 a1) ∧ v.cell? ⟨k + 1, 0, none⟩ = some (.int .u32 b0) ∧ v.cell? ⟨k + 1, 1, none⟩ = some (.int .u32 b1)) (first | with_reducible exact ⟨s00, s01, t00, t01⟩ | with_reducible exact ⟨s10, s11, t10, t11⟩ | with_reducible exact ⟨s20, s21, t20, t21⟩ | with_reducible exact ⟨s30, s31, t30, t31⟩ | with_reducible exact ⟨s40, s41, t40, t41⟩ | with_reducible exact ⟨s50, s51, t50, t51⟩ | with_reducible exact ⟨s60, s61, t60, t61⟩ | with_reducible exact ⟨s70, s71, t70, t71⟩ | (with_reducible refine ⟨cell_set2 ?_ s70, cell_set2 ?_ s71, cell_set2 ?_ t70, cell_set2 ?_ t71⟩ <;> omega) | (go_keep; done)) (first | (go_at_call 34; (with_reducible show Calls Tryd.prog 34 #[Value.int IntKind.u32 a0, Value.int IntKind.u32 b0, Value.int IntKind.i64 0] _ _); refine ((Hid.out H1) _ (by first | exact G0 | exact formsd G0)).mono ?_; rintro e w1 ⟨rfl, hc1⟩; (have hb1 : Below W0.heap.size W0 w1 := ⟨hc1.os, hc1.tape, hc1.output, hc1.size, hc1.block⟩); (have A1 := (hb1.block k (by omega)).trans A0); (have B1 := (hb1.block (k + 1) (by omega)).trans B0); (have Z1 := (hb1.block (k + 1 + 1) (by omega)).trans Z0); (have z1 : k + 1 + 1 < w1.heap.size := Nat.lt_of_lt_of_le z0 hb1.size); (have bl1 := bl0.trans (hb1.mono bl0.size)); (have G1 := G0.below hb1); obtain ⟨⟨s10, s11⟩, _⟩ := blk2 A1; obtain ⟨⟨t10, t11⟩, _⟩ := blk2 B1; obtain ⟨⟨y10, y11⟩, f10, f11⟩ := blk2 Z1) | (go_at_call 34; (with_reducible show Calls Tryd.prog 34 #[Value.int IntKind.u32 a1, Value.int IntKind.u32 b1, Value.int IntKind.i64 0] _ _); refine ((Hid.out H2) _ (by first | exact G1 | exact formsd G1)).mono ?_; rintro e w2 ⟨rfl, hc2⟩; (have hb2 : Below w1.heap.size w1 w2 := ⟨hc2.os, hc2.tape, hc2.output, hc2.size, hc2.block⟩); (have A2 := (hb2.block k (by omega)).trans A1); (have B2 := (hb2.block (k + 1) (by omega)).trans B1); (have Z2 := (hb2.block (k + 1 + 1) (by omega)).trans Z1); (have z2 : k + 1 + 1 < w2.heap.size := Nat.lt_of_lt_of_le z1 hb2.size); (have bl2 := bl1.trans (hb2.mono bl1.size)); (have G2 := G1.below hb2); obtain ⟨⟨s20, s21⟩, _⟩ := blk2 A2; obtain ⟨⟨t20, t21⟩, _⟩ := blk2 B2; obtain ⟨⟨y20, y21⟩, f20, f21⟩ := blk2 Z2) | (go_at_call 35; (with_reducible show Calls Tryd.prog 35 #[Value.int IntKind.u32 R2] _ _); refine ((Hid.out H3) _ (by first | exact G2 | exact formsd G2)).mono ?_; rintro e w3 ⟨rfl, hc3⟩; (have hb3 : Below w2.heap.size w2 w3 := ⟨hc3.os, hc3.tape, hc3.output, hc3.size, hc3.block⟩); (have A3 := (hb3.block k (by omega)).trans A2); (have B3 := (hb3.block (k + 1) (by omega)).trans B2); (have Z3 := (hb3.block (k + 1 + 1) (by omega)).trans Z2); (have z3 : k + 1 + 1 < w3.heap.size := Nat.lt_of_lt_of_le z2 hb3.size); (have bl3 := bl2.trans (hb3.mono bl2.size)); (have G3 := G2.below hb3); obtain ⟨⟨s30, s31⟩, _⟩ := blk2 A3; obtain ⟨⟨t30, t31⟩, _⟩ := blk2 B3; obtain ⟨⟨y30, y31⟩, f30, f31⟩ := blk2 Z3) | (go_at_call 31; (with_reducible show Calls Tryd.prog 31 #[Value.int IntKind.u32 R1, Value.int IntKind.u32 R3, Value.int IntKind.i64 0] _ _); refine ((Hid.out H4) _ (by first | exact G3 | exact formsd G3)).mono ?_; rintro e w4 ⟨rfl, hc4⟩; (have hb4 : Below w3.heap.size w3 w4 := ⟨hc4.os, hc4.tape, hc4.output, hc4.size, hc4.block⟩); (have A4 := (hb4.block k (by omega)).trans A3); (have B4 := (hb4.block (k + 1) (by omega)).trans B3); (have Z4 := (hb4.block (k + 1 + 1) (by omega)).trans Z3); (have z4 : k + 1 + 1 < w4.heap.size := Nat.lt_of_lt_of_le z3 hb4.size); (have bl4 := bl3.trans (hb4.mono bl3.size)); (have G4 := G3.below hb4); obtain ⟨⟨s40, s41⟩, _⟩ := blk2 A4; obtain ⟨⟨t40, t41⟩, _⟩ := blk2 B4; obtain ⟨⟨y40, y41⟩, f40, f41⟩ := blk2 Z4) | (go_at_call 34; (with_reducible show Calls Tryd.prog 34 #[Value.int IntKind.u32 a0, Value.int IntKind.u32 b1, Value.int IntKind.i64 0] _ _); refine ((Hid.out H5) _ (by first | exact G4 | exact formsd G4)).mono ?_; rintro e w5 ⟨rfl, hc5⟩; (have hb5 : Below w4.heap.size w4 w5 := ⟨hc5.os, hc5.tape, hc5.output, hc5.size, hc5.block⟩); (have A5 := (hb5.block k (by omega)).trans A4); (have B5 := (hb5.block (k + 1) (by omega)).trans B4); (have Z5 := (hb5.block (k + 1 + 1) (by omega)).trans Z4); (have z5 : k + 1 + 1 < w5.heap.size := Nat.lt_of_lt_of_le z4 hb5.size); (have bl5 := bl4.trans (hb5.mono bl4.size)); (have G5 := G4.below hb5); obtain ⟨⟨s50, s51⟩, _⟩ := blk2 A5; obtain ⟨⟨t50, t51⟩, _⟩ := blk2 B5; obtain ⟨⟨y50, y51⟩, f50, f51⟩ := blk2 Z5) | (go_at_call 34; (with_reducible show Calls Tryd.prog 34 #[Value.int IntKind.u32 a1, Value.int IntKind.u32 b0, Value.int IntKind.i64 0] _ _); refine ((Hid.out H6) _ (by first | exact G5 | exact formsd G5)).mono ?_; rintro e w6 ⟨rfl, hc6⟩; (have hb6 : Below w5.heap.size w5 w6 := ⟨hc6.os, hc6.tape, hc6.output, hc6.size, hc6.block⟩); (have A6 := (hb6.block k (by omega)).trans A5); (have B6 := (hb6.block (k + 1) (by omega)).trans B5); (have Z6 := (hb6.block (k + 1 + 1) (by omega)).trans Z5); (have z6 : k + 1 + 1 < w6.heap.size := Nat.lt_of_lt_of_le z5 hb6.size); (have bl6 := bl5.trans (hb6.mono bl5.size)); (have G6 := G5.below hb6); obtain ⟨⟨s60, s61⟩, _⟩ := blk2 A6; obtain ⟨⟨t60, t61⟩, _⟩ := blk2 B6; obtain ⟨⟨y60, y61⟩, f60, f61⟩ := blk2 Z6) | (go_at_call 31; (with_reducible show Calls Tryd.prog 31 #[Value.int IntKind.u32 R5, Value.int IntKind.u32 R6, Value.int IntKind.i64 0] _ _); refine ((Hid.out H7) _ (by first | exact G6 | exact formsd G6)).mono ?_; rintro e w7 ⟨rfl, hc7⟩; (have hb7 : Below w6.heap.size w6 w7 := ⟨hc7.os, hc7.tape, hc7.output, hc7.size, hc7.block⟩); (have A7 := (hb7.block k (by omega)).trans A6); (have B7 := (hb7.block (k + 1) (by omega)).trans B6); (have Z7 := (hb7.block (k + 1 + 1) (by omega)).trans Z6); (have z7 : k + 1 + 1 < w7.heap.size := Nat.lt_of_lt_of_le z6 hb7.size); (have bl7 := bl6.trans (hb7.mono bl6.size)); (have G7 := G6.below hb7); obtain ⟨⟨s70, s71⟩, _⟩ := blk2 A7; obtain ⟨⟨t70, t71⟩, _⟩ := blk2 B7; obtain ⟨⟨y70, y71⟩, f70, f71⟩ := blk2 Z7))
  all_goals go_wp2
  all_goals
    exact bodyPost_ret (v := .agg #[.int .u32 R4, .int .u32 R7]) (by simp [results, Tryd.results14, go_sem, y70, y71]) rfl ⟨rfl, by repeat (first | (with_reducible exact bl7) | (with_reducible refine Below.setCell ?_ (by first | omega | (simp; try omega)) _))⟩
end Go.Proofs.YtlcfpcapefeajaaDoor
