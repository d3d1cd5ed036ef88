/- Proved: for every two words a, b of 32 bits and every int mode the law FnExactDivWords returns true (DivWords answers as its model) and the arguments and the table of forms read afterwards as before; condition: the table of forms reads as the program's text lays it (the card ties it; the pruned copy's other packages are not spoken of). -/
import Derived.Test.YtpildklndfgojaaDoorQuot
import Derived.Test.YtpildklndfgojaaDoorCards
import Derived.Test.YtpildklndfgojaaDoorTie
import Derived.WalkSmall
namespace Go.Proofs.YtpildklndfgojaaDoor.fnExactDivWords
open Go.ChangeShapes Go.WideShapes Go.ChangeAt Go.RowKit
set_option linter.unusedVariables false
theorem i_bad (a b mode : Int) (hm : ¬ (0 ≤ mode ∧ mode ≤ 4)) (w : World) : Calls Tryd.prog 17 #[.int .u32 a, .int .u32 b, .int .i64 mode] w fun e w' => e = .returned (.int .u32 0) ∧ Below w.heap.size w w' := by
  have hg := goodMode_any mode w
  rw [decide_eq_false hm] at hg
  go_enter Tryd.func17, Tryd.ntmps17
  go_wp2_with (go_at_call 40; refine hg.mono ?_; rintro e w' ⟨rfl, hw⟩; subst w')
  go_ret
  exact ⟨rfl, Below.refl _ _⟩
theorem s_bad (a b mode : Int) (hm : ¬ (0 ≤ mode ∧ mode ≤ 4)) (w : World) : Calls Tryd.prog 16 #[.int .u32 a, .int .u32 b, .int .i64 mode] w fun e w' => e = .returned (.int .u32 0) ∧ Below w.heap.size w w' := by
  have hg := sGood_any mode w
  rw [decide_eq_false hm] at hg
  go_enter Tryd.func16, Tryd.ntmps16
  go_wp2_with (go_at_call 12; refine hg.mono ?_; rintro e w' ⟨rfl, hw⟩; subst w')
  go_ret
  exact ⟨rfl, Below.refl _ _⟩
theorem s_of (a b mode R : Int) (hm : 0 ≤ mode ∧ mode ≤ 4) (w : World) (hB : Calls Tryd.prog 47 #[.int .u32 a, .int .u32 b, .int .i64 mode] w fun e w' => e = .returned (.int .u32 R) ∧ Below w.heap.size w w') :
    Calls Tryd.prog 16 #[.int .u32 a, .int .u32 b, .int .i64 mode] w fun e w' => e = .returned (.int .u32 R) ∧ Below w.heap.size w w' := by
  have hg := sGood_any mode w
  rw [decide_eq_true hm] at hg
  go_enter Tryd.func16, Tryd.ntmps16
  go_wp2_with (first | (go_at_call 12; refine hg.mono ?_; rintro e w' ⟨rfl, hw⟩; subst w') | (go_at_call 47; refine hB.mono ?_; rintro e w1 ⟨rfl, hb1⟩))
  go_ret
  exact ⟨rfl, hb1⟩
section
variable (a b mode x y : Int) (SA SB : Bool) (hm : 0 ≤ mode ∧ mode ≤ 4) (a0 : 0 ≤ a) (a1 : a < 4294967296) (b0 : 0 ≤ b) (b1 : b < 4294967296) (hx : kindI (a % 2147483648) = x) (hy : kindI (b % 2147483648) = y) (hSA : decide (2147483648 ≤ a) = SA) (hSB : decide (2147483648 ≤ b) = SB)
include hm a0 a1 b0 b1 hx hy hSA hSB in
set_option maxHeartbeats 4000000 in
theorem i_nan (w : World) (G : Forms w) (hc : x = 3 ∨ y = 3 ∨ x = 0 ∧ y = 0 ∨ x = 2 ∧ y = 2) : Calls Tryd.prog 17 #[.int .u32 a, .int .u32 b, .int .i64 mode] w fun e w' => e = .returned (.int .u32 2143289344) ∧ Below w.heap.size w w' := by
  have xb := kind_bd (a % 2147483648)
  have yb := kind_bd (b % 2147483648)
  rw [hx] at xb
  rw [hy] at yb
  have hg := goodMode_any mode w
  rw [decide_eq_true hm] at hg
  have hA := kindOf_w a a0 a1 w G
  have hB := kindOf_w b b0 b1 w G
  rw [hx] at hA
  rw [hy] at hB
  obtain ⟨v0, v1, v2⟩ := xor_sign a b a0 a1 b0 b1
  rw [hSA, hSB] at v2
  obtain ⟨xv, hxv⟩ : ∃ xv, bits .xor .u32 a b = xv := ⟨_, rfl⟩
  rw [hxv] at v0 v1 v2
  have hS := signOf_w xv v0 v1 w G.c2
  rw [v2] at hS
  have hO := or_inf (SA != SB)
  obtain ⟨SG, hSG⟩ : ∃ SG : Int, (if (SA != SB) = true then (2147483648 : Int) else 0) = SG := ⟨_, rfl⟩
  rw [hSG] at hS hO
  clear v0 v1 v2 hx hy
  rcases (by omega : x = 0 ∨ x = 1 ∨ x = 2 ∨ x = 3) with rfl | rfl | rfl | rfl <;> rcases (by omega : y = 0 ∨ y = 1 ∨ y = 2 ∨ y = 3) with rfl | rfl | rfl | rfl
  all_goals first | (exfalso; omega) | (
    clear hc
    go_enter Tryd.func17, Tryd.ntmps17
    go_wp2_with (first | (go_at_call 40; refine hg.mono ?_; rintro e w' ⟨rfl, hw⟩; subst w') | (go_at_call 48; (with_reducible show Calls Tryd.prog 48 #[Value.int IntKind.u32 a, Value.int IntKind.i64 0] _ _); refine hA.mono ?_; rintro e w' ⟨rfl, hw⟩; subst w') | (go_at_call 48; refine hB.mono ?_; rintro e w' ⟨rfl, hw⟩; subst w') | (go_at_call 49; (try rw [hxv]); refine hS.mono ?_; rintro e w' ⟨rfl, hw⟩; subst w') | (go_at_call 50; refine (infiniteOf_w _ G).mono ?_; rintro e w' ⟨rfl, hw⟩; subst w'))
    go_ret
    exact ⟨rfl, Below.refl _ _⟩)
include hm a0 a1 b0 b1 hx hy hSA hSB in
set_option maxHeartbeats 4000000 in
theorem i_inf (w : World) (G : Forms w) (hc : x = 2 ∧ y = 0 ∨ x = 2 ∧ y = 1 ∨ x = 1 ∧ y = 0) : Calls Tryd.prog 17 #[.int .u32 a, .int .u32 b, .int .i64 mode] w fun e w' => e = .returned (.int .u32 (sgn_w (SA != SB) 2139095040)) ∧ Below w.heap.size w w' := by
  have xb := kind_bd (a % 2147483648)
  have yb := kind_bd (b % 2147483648)
  rw [hx] at xb
  rw [hy] at yb
  have hg := goodMode_any mode w
  rw [decide_eq_true hm] at hg
  have hA := kindOf_w a a0 a1 w G
  have hB := kindOf_w b b0 b1 w G
  rw [hx] at hA
  rw [hy] at hB
  obtain ⟨v0, v1, v2⟩ := xor_sign a b a0 a1 b0 b1
  rw [hSA, hSB] at v2
  obtain ⟨xv, hxv⟩ : ∃ xv, bits .xor .u32 a b = xv := ⟨_, rfl⟩
  rw [hxv] at v0 v1 v2
  have hS := signOf_w xv v0 v1 w G.c2
  rw [v2] at hS
  have hO := or_inf (SA != SB)
  obtain ⟨SG, hSG⟩ : ∃ SG : Int, (if (SA != SB) = true then (2147483648 : Int) else 0) = SG := ⟨_, rfl⟩
  rw [hSG] at hS hO
  clear v0 v1 v2 hx hy
  rcases (by omega : x = 0 ∨ x = 1 ∨ x = 2 ∨ x = 3) with rfl | rfl | rfl | rfl <;> rcases (by omega : y = 0 ∨ y = 1 ∨ y = 2 ∨ y = 3) with rfl | rfl | rfl | rfl
  all_goals first | (exfalso; omega) | (
    clear hc
    go_enter Tryd.func17, Tryd.ntmps17
    go_wp2_with (first | (go_at_call 40; refine hg.mono ?_; rintro e w' ⟨rfl, hw⟩; subst w') | (go_at_call 48; (with_reducible show Calls Tryd.prog 48 #[Value.int IntKind.u32 a, Value.int IntKind.i64 0] _ _); refine hA.mono ?_; rintro e w' ⟨rfl, hw⟩; subst w') | (go_at_call 48; refine hB.mono ?_; rintro e w' ⟨rfl, hw⟩; subst w') | (go_at_call 49; (try rw [hxv]); refine hS.mono ?_; rintro e w' ⟨rfl, hw⟩; subst w') | (go_at_call 50; refine (infiniteOf_w _ G).mono ?_; rintro e w' ⟨rfl, hw⟩; subst w'))
    go_ret
    exact ⟨by first | rfl | (rw [← hO]; rfl), Below.refl _ _⟩)
include hm a0 a1 b0 b1 hx hy hSA hSB in
set_option maxHeartbeats 4000000 in
theorem i_nil (w : World) (G : Forms w) (hc : x = 0 ∧ y = 1 ∨ x = 0 ∧ y = 2 ∨ x = 1 ∧ y = 2) : Calls Tryd.prog 17 #[.int .u32 a, .int .u32 b, .int .i64 mode] w fun e w' => e = .returned (.int .u32 (sgn_w (SA != SB) 0)) ∧ Below w.heap.size w w' := by
  have xb := kind_bd (a % 2147483648)
  have yb := kind_bd (b % 2147483648)
  rw [hx] at xb
  rw [hy] at yb
  have hg := goodMode_any mode w
  rw [decide_eq_true hm] at hg
  have hA := kindOf_w a a0 a1 w G
  have hB := kindOf_w b b0 b1 w G
  rw [hx] at hA
  rw [hy] at hB
  obtain ⟨v0, v1, v2⟩ := xor_sign a b a0 a1 b0 b1
  rw [hSA, hSB] at v2
  obtain ⟨xv, hxv⟩ : ∃ xv, bits .xor .u32 a b = xv := ⟨_, rfl⟩
  rw [hxv] at v0 v1 v2
  have hS := signOf_w xv v0 v1 w G.c2
  rw [v2] at hS
  have hO := or_inf (SA != SB)
  obtain ⟨SG, hSG⟩ : ∃ SG : Int, (if (SA != SB) = true then (2147483648 : Int) else 0) = SG := ⟨_, rfl⟩
  rw [hSG] at hS hO
  clear v0 v1 v2 hx hy
  rcases (by omega : x = 0 ∨ x = 1 ∨ x = 2 ∨ x = 3) with rfl | rfl | rfl | rfl <;> rcases (by omega : y = 0 ∨ y = 1 ∨ y = 2 ∨ y = 3) with rfl | rfl | rfl | rfl
  all_goals first | (exfalso; omega) | (
    clear hc
    go_enter Tryd.func17, Tryd.ntmps17
    go_wp2_with (first | (go_at_call 40; refine hg.mono ?_; rintro e w' ⟨rfl, hw⟩; subst w') | (go_at_call 48; (with_reducible show Calls Tryd.prog 48 #[Value.int IntKind.u32 a, Value.int IntKind.i64 0] _ _); refine hA.mono ?_; rintro e w' ⟨rfl, hw⟩; subst w') | (go_at_call 48; refine hB.mono ?_; rintro e w' ⟨rfl, hw⟩; subst w') | (go_at_call 49; (try rw [hxv]); refine hS.mono ?_; rintro e w' ⟨rfl, hw⟩; subst w') | (go_at_call 50; refine (infiniteOf_w _ G).mono ?_; rintro e w' ⟨rfl, hw⟩; subst w'))
    go_ret
    exact ⟨by first | rfl | (unfold sgn_w; rw [← hSG]; cases SA <;> cases SB <;> rfl), Below.refl _ _⟩)
include hm a0 a1 b0 b1 hx hy hSA hSB in
set_option maxHeartbeats 4000000 in
theorem i_num (w : World) (G : Forms w) (R Z E : Int) (mo : Bool) (S T p q : Int) (hEA : ∀ v : World, Forms v → Calls Tryd.prog 53 #[.int .u32 a, .int .i64 0] v fun e w' => e = .returned (.agg #[.bool SA, .int .u64 S, .int .i64 p, .bool false]) ∧ Below v.heap.size v w') (hEB : ∀ v : World, Forms v → Calls Tryd.prog 53 #[.int .u32 b, .int .i64 0] v fun e w' => e = .returned (.agg #[.bool SB, .int .u64 T, .int .i64 q, .bool false]) ∧ Below v.heap.size v w') (hQ : ∀ v : World, Calls Tryd.prog 52 #[.agg #[.bool SA, .int .u64 S, .int .i64 p, .bool false], .agg #[.bool SB, .int .u64 T, .int .i64 q, .bool false]] v fun e w' => e = .returned (.agg #[.bool (SA != SB), .int .u64 Z, .int .i64 E, .bool mo]) ∧ Below v.heap.size v w') (hR : ∀ v : World, Forms v → Calls Tryd.prog 51 #[.agg #[.bool (SA != SB), .int .u64 Z, .int .i64 E, .bool mo], .int .i64 0, .int .i64 mode] v fun e w' => e = .returned (.int .u32 R) ∧ Below v.heap.size v w') (hc : x = 1 ∧ y = 1) : Calls Tryd.prog 17 #[.int .u32 a, .int .u32 b, .int .i64 mode] w fun e w' => e = .returned (.int .u32 R) ∧ Below w.heap.size w w' := by
  have xb := kind_bd (a % 2147483648)
  have yb := kind_bd (b % 2147483648)
  rw [hx] at xb
  rw [hy] at yb
  have hg := goodMode_any mode w
  rw [decide_eq_true hm] at hg
  have hA := kindOf_w a a0 a1 w G
  have hB := kindOf_w b b0 b1 w G
  rw [hx] at hA
  rw [hy] at hB
  obtain ⟨v0, v1, v2⟩ := xor_sign a b a0 a1 b0 b1
  rw [hSA, hSB] at v2
  obtain ⟨xv, hxv⟩ : ∃ xv, bits .xor .u32 a b = xv := ⟨_, rfl⟩
  rw [hxv] at v0 v1 v2
  have hS := signOf_w xv v0 v1 w G.c2
  rw [v2] at hS
  have hO := or_inf (SA != SB)
  obtain ⟨SG, hSG⟩ : ∃ SG : Int, (if (SA != SB) = true then (2147483648 : Int) else 0) = SG := ⟨_, rfl⟩
  rw [hSG] at hS hO
  clear v0 v1 v2 hx hy
  rcases (by omega : x = 0 ∨ x = 1 ∨ x = 2 ∨ x = 3) with rfl | rfl | rfl | rfl <;> rcases (by omega : y = 0 ∨ y = 1 ∨ y = 2 ∨ y = 3) with rfl | rfl | rfl | rfl
  all_goals first | (exfalso; omega) | (
    clear hc
    go_enter Tryd.func17, Tryd.ntmps17
    go_wp2_with (first | (go_at_call 40; refine hg.mono ?_; rintro e w' ⟨rfl, hw⟩; subst w') | (go_at_call 48; (with_reducible show Calls Tryd.prog 48 #[Value.int IntKind.u32 a, Value.int IntKind.i64 0] _ _); refine hA.mono ?_; rintro e w' ⟨rfl, hw⟩; subst w') | (go_at_call 48; refine hB.mono ?_; rintro e w' ⟨rfl, hw⟩; subst w') | (go_at_call 49; (try rw [hxv]); refine hS.mono ?_; rintro e w' ⟨rfl, hw⟩; subst w') | (go_at_call 50; refine (infiniteOf_w _ G).mono ?_; rintro e w' ⟨rfl, hw⟩; subst w') | (go_at_call 53; (with_reducible show Calls Tryd.prog 53 #[Value.int IntKind.u32 a, _] w _); refine (hEA w G).mono ?_; rintro e w1 ⟨rfl, hb1⟩) | (go_at_call 53; refine (hEB w1 (G.next hb1)).mono ?_; rintro e w2 ⟨rfl, hb2⟩) | (go_at_call 52; refine (hQ w2).mono ?_; rintro e w3 ⟨rfl, hb3⟩) | (go_at_call 51; refine (hR w3 (((G.next hb1).next hb2).next hb3)).mono ?_; rintro e w4 ⟨rfl, hb4⟩))
    go_ret
    exact ⟨rfl, ((hb1.trans (hb2.mono hb1.size)).trans (hb3.mono (Nat.le_trans hb1.size hb2.size))).trans (hb4.mono (Nat.le_trans (Nat.le_trans hb1.size hb2.size) hb3.size))⟩)

include a0 a1 b0 b1 hx hy hSA hSB in
set_option maxHeartbeats 4000000 in
theorem s_nan (w : World) (hc : x = 3 ∨ y = 3 ∨ x = 0 ∧ y = 0 ∨ x = 2 ∧ y = 2) : Calls Tryd.prog 47 #[.int .u32 a, .int .u32 b, .int .i64 mode] w fun e w' => e = .returned (.int .u32 2143289344) ∧ Below w.heap.size w w' := by
  have xb := kind_bd (a % 2147483648)
  have yb := kind_bd (b % 2147483648)
  obtain ⟨ka3, ka2, ka0⟩ := kind_tests (a % 2147483648) (by omega)
  obtain ⟨kb3, kb2, kb0⟩ := kind_tests (b % 2147483648) (by omega)
  have nA := sNeg_any a a0 a1 w
  have nB := sNeg_any b b0 b1 w
  have qA := sNaN_any a a0 a1 w
  have qB := sNaN_any b b0 b1 w
  have iA := sInf_any a a0 a1 w
  have iB := sInf_any b b0 b1 w
  have zA := sNil_any a a0 a1 w
  have zB := sNil_any b b0 b1 w
  rw [hSA] at nA
  rw [hSB] at nB
  rw [ka3, hx] at qA
  rw [kb3, hy] at qB
  rw [ka2, hx] at iA
  rw [kb2, hy] at iB
  rw [ka0, hx] at zA
  rw [kb0, hy] at zB
  rw [hx] at xb
  rw [hy] at yb
  clear ka3 ka2 ka0 kb3 kb2 kb0 hx hy
  rcases (by omega : x = 0 ∨ x = 1 ∨ x = 2 ∨ x = 3) with rfl | rfl | rfl | rfl <;> rcases (by omega : y = 0 ∨ y = 1 ∨ y = 2 ∨ y = 3) with rfl | rfl | rfl | rfl
  all_goals first | (exfalso; omega) | (
    simp only [Int.reduceEq, decide_true, decide_false] at qA qB iA iB zA zB
    clear hc
    go_enter Tryd.func47, Tryd.ntmps47
    go_wp2_with (first | (go_at_call 92; (with_reducible show Calls Tryd.prog 92 #[Value.int IntKind.u32 a] _ _); refine nA.mono ?_; rintro e w' ⟨rfl, hw⟩; subst w') | (go_at_call 92; refine nB.mono ?_; rintro e w' ⟨rfl, hw⟩; subst w') | (go_at_call 42; (with_reducible show Calls Tryd.prog 42 #[Value.int IntKind.u32 a] _ _); refine qA.mono ?_; rintro e w' ⟨rfl, hw⟩; subst w') | (go_at_call 42; refine qB.mono ?_; rintro e w' ⟨rfl, hw⟩; subst w') | (go_at_call 43; (with_reducible show Calls Tryd.prog 43 #[Value.int IntKind.u32 a] _ _); refine iA.mono ?_; rintro e w' ⟨rfl, hw⟩; subst w') | (go_at_call 43; refine iB.mono ?_; rintro e w' ⟨rfl, hw⟩; subst w') | (go_at_call 44; (with_reducible show Calls Tryd.prog 44 #[Value.int IntKind.u32 a] _ _); refine zA.mono ?_; rintro e w' ⟨rfl, hw⟩; subst w') | (go_at_call 44; refine zB.mono ?_; rintro e w' ⟨rfl, hw⟩; subst w') | (go_at_call 34; refine (sSigned _ _ (by decide) (by decide) _).mono ?_; rintro e w' ⟨rfl, hw⟩; subst w'))
    all_goals go_ret
    all_goals exact ⟨rfl, Below.refl _ _⟩)
include a0 a1 b0 b1 hx hy hSA hSB in
set_option maxHeartbeats 4000000 in
theorem s_inf (w : World) (hc : x = 2 ∧ y = 0 ∨ x = 2 ∧ y = 1 ∨ x = 1 ∧ y = 0) : Calls Tryd.prog 47 #[.int .u32 a, .int .u32 b, .int .i64 mode] w fun e w' => e = .returned (.int .u32 (sgn_w (SA != SB) 2139095040)) ∧ Below w.heap.size w w' := by
  have xb := kind_bd (a % 2147483648)
  have yb := kind_bd (b % 2147483648)
  obtain ⟨ka3, ka2, ka0⟩ := kind_tests (a % 2147483648) (by omega)
  obtain ⟨kb3, kb2, kb0⟩ := kind_tests (b % 2147483648) (by omega)
  have nA := sNeg_any a a0 a1 w
  have nB := sNeg_any b b0 b1 w
  have qA := sNaN_any a a0 a1 w
  have qB := sNaN_any b b0 b1 w
  have iA := sInf_any a a0 a1 w
  have iB := sInf_any b b0 b1 w
  have zA := sNil_any a a0 a1 w
  have zB := sNil_any b b0 b1 w
  rw [hSA] at nA
  rw [hSB] at nB
  rw [ka3, hx] at qA
  rw [kb3, hy] at qB
  rw [ka2, hx] at iA
  rw [kb2, hy] at iB
  rw [ka0, hx] at zA
  rw [kb0, hy] at zB
  rw [hx] at xb
  rw [hy] at yb
  clear ka3 ka2 ka0 kb3 kb2 kb0 hx hy
  rcases (by omega : x = 0 ∨ x = 1 ∨ x = 2 ∨ x = 3) with rfl | rfl | rfl | rfl <;> rcases (by omega : y = 0 ∨ y = 1 ∨ y = 2 ∨ y = 3) with rfl | rfl | rfl | rfl
  all_goals first | (exfalso; omega) | (
    simp only [Int.reduceEq, decide_true, decide_false] at qA qB iA iB zA zB
    clear hc
    go_enter Tryd.func47, Tryd.ntmps47
    go_wp2_with (first | (go_at_call 92; (with_reducible show Calls Tryd.prog 92 #[Value.int IntKind.u32 a] _ _); refine nA.mono ?_; rintro e w' ⟨rfl, hw⟩; subst w') | (go_at_call 92; refine nB.mono ?_; rintro e w' ⟨rfl, hw⟩; subst w') | (go_at_call 42; (with_reducible show Calls Tryd.prog 42 #[Value.int IntKind.u32 a] _ _); refine qA.mono ?_; rintro e w' ⟨rfl, hw⟩; subst w') | (go_at_call 42; refine qB.mono ?_; rintro e w' ⟨rfl, hw⟩; subst w') | (go_at_call 43; (with_reducible show Calls Tryd.prog 43 #[Value.int IntKind.u32 a] _ _); refine iA.mono ?_; rintro e w' ⟨rfl, hw⟩; subst w') | (go_at_call 43; refine iB.mono ?_; rintro e w' ⟨rfl, hw⟩; subst w') | (go_at_call 44; (with_reducible show Calls Tryd.prog 44 #[Value.int IntKind.u32 a] _ _); refine zA.mono ?_; rintro e w' ⟨rfl, hw⟩; subst w') | (go_at_call 44; refine zB.mono ?_; rintro e w' ⟨rfl, hw⟩; subst w') | (go_at_call 34; refine (sSigned _ _ (by decide) (by decide) _).mono ?_; rintro e w' ⟨rfl, hw⟩; subst w'))
    all_goals go_ret
    all_goals exact ⟨by revert h; clear hSA hSB nA nB; cases SA <;> cases SB <;> intro h <;> first | rfl | exact (h rfl).elim | exact Bool.noConfusion h, Below.refl _ _⟩)
include a0 a1 b0 b1 hx hy hSA hSB in
set_option maxHeartbeats 4000000 in
theorem s_nil (w : World) (hc : x = 0 ∧ y = 1 ∨ x = 0 ∧ y = 2 ∨ x = 1 ∧ y = 2) : Calls Tryd.prog 47 #[.int .u32 a, .int .u32 b, .int .i64 mode] w fun e w' => e = .returned (.int .u32 (sgn_w (SA != SB) 0)) ∧ Below w.heap.size w w' := by
  have xb := kind_bd (a % 2147483648)
  have yb := kind_bd (b % 2147483648)
  obtain ⟨ka3, ka2, ka0⟩ := kind_tests (a % 2147483648) (by omega)
  obtain ⟨kb3, kb2, kb0⟩ := kind_tests (b % 2147483648) (by omega)
  have nA := sNeg_any a a0 a1 w
  have nB := sNeg_any b b0 b1 w
  have qA := sNaN_any a a0 a1 w
  have qB := sNaN_any b b0 b1 w
  have iA := sInf_any a a0 a1 w
  have iB := sInf_any b b0 b1 w
  have zA := sNil_any a a0 a1 w
  have zB := sNil_any b b0 b1 w
  rw [hSA] at nA
  rw [hSB] at nB
  rw [ka3, hx] at qA
  rw [kb3, hy] at qB
  rw [ka2, hx] at iA
  rw [kb2, hy] at iB
  rw [ka0, hx] at zA
  rw [kb0, hy] at zB
  rw [hx] at xb
  rw [hy] at yb
  clear ka3 ka2 ka0 kb3 kb2 kb0 hx hy
  rcases (by omega : x = 0 ∨ x = 1 ∨ x = 2 ∨ x = 3) with rfl | rfl | rfl | rfl <;> rcases (by omega : y = 0 ∨ y = 1 ∨ y = 2 ∨ y = 3) with rfl | rfl | rfl | rfl
  all_goals first | (exfalso; omega) | (
    simp only [Int.reduceEq, decide_true, decide_false] at qA qB iA iB zA zB
    clear hc
    go_enter Tryd.func47, Tryd.ntmps47
    go_wp2_with (first | (go_at_call 92; (with_reducible show Calls Tryd.prog 92 #[Value.int IntKind.u32 a] _ _); refine nA.mono ?_; rintro e w' ⟨rfl, hw⟩; subst w') | (go_at_call 92; refine nB.mono ?_; rintro e w' ⟨rfl, hw⟩; subst w') | (go_at_call 42; (with_reducible show Calls Tryd.prog 42 #[Value.int IntKind.u32 a] _ _); refine qA.mono ?_; rintro e w' ⟨rfl, hw⟩; subst w') | (go_at_call 42; refine qB.mono ?_; rintro e w' ⟨rfl, hw⟩; subst w') | (go_at_call 43; (with_reducible show Calls Tryd.prog 43 #[Value.int IntKind.u32 a] _ _); refine iA.mono ?_; rintro e w' ⟨rfl, hw⟩; subst w') | (go_at_call 43; refine iB.mono ?_; rintro e w' ⟨rfl, hw⟩; subst w') | (go_at_call 44; (with_reducible show Calls Tryd.prog 44 #[Value.int IntKind.u32 a] _ _); refine zA.mono ?_; rintro e w' ⟨rfl, hw⟩; subst w') | (go_at_call 44; refine zB.mono ?_; rintro e w' ⟨rfl, hw⟩; subst w') | (go_at_call 34; refine (sSigned _ _ (by decide) (by decide) _).mono ?_; rintro e w' ⟨rfl, hw⟩; subst w'))
    all_goals go_ret
    all_goals exact ⟨by revert h; clear hSA hSB nA nB; cases SA <;> cases SB <;> intro h <;> first | rfl | exact (h rfl).elim | exact Bool.noConfusion h, Below.refl _ _⟩)
include a0 a1 b0 b1 hx hy hSA hSB in
set_option maxHeartbeats 4000000 in
theorem s_numP (w : World) (R m n p q X Y E : Int) (pA : Calls Tryd.prog 45 #[.int .u32 a] w fun e w' => e = .returned (.tuple #[.int .i64 m, .int .i64 p]) ∧ w' = w) (pB : Calls Tryd.prog 45 #[.int .u32 b] w fun e w' => e = .returned (.tuple #[.int .i64 n, .int .i64 q]) ∧ w' = w) (hn : ¬ n < 0) (hX : m = X) (hY : n = Y) (X0 : -16777216 < X) (X1 : X < 16777216) (Y0 : -16777216 < Y) (Y1 : Y < 16777216) (hE : p - q = E) (p0 : -149 ≤ p) (p1 : p ≤ 105) (q0 : -149 ≤ q) (q1 : q ≤ 105) (r0 : 0 ≤ R) (r1 : R < 4294967296)
    (hT : ∀ v : World, Calls Tryd.prog 35 #[.agg #[.int .i64 X, .bool false, .slice none 0 0, .int .i64 Y, .bool false, .slice none 0 0, .int .i64 E], .agg #[.int .i64 24, .int .i64 (-149), .int .i64 104], .int .i64 mode] v fun e w' => e = .returned (.int .i64 R) ∧ Below v.heap.size v w') (hc : x = 1 ∧ y = 1) : Calls Tryd.prog 47 #[.int .u32 a, .int .u32 b, .int .i64 mode] w fun e w' => e = .returned (.int .u32 R) ∧ Below w.heap.size w w' := by
  subst hX hY
  have xb := kind_bd (a % 2147483648)
  have yb := kind_bd (b % 2147483648)
  obtain ⟨ka3, ka2, ka0⟩ := kind_tests (a % 2147483648) (by omega)
  obtain ⟨kb3, kb2, kb0⟩ := kind_tests (b % 2147483648) (by omega)
  have nA := sNeg_any a a0 a1 w
  have nB := sNeg_any b b0 b1 w
  have qA := sNaN_any a a0 a1 w
  have qB := sNaN_any b b0 b1 w
  have iA := sInf_any a a0 a1 w
  have iB := sInf_any b b0 b1 w
  have zA := sNil_any a a0 a1 w
  have zB := sNil_any b b0 b1 w
  rw [hSA] at nA
  rw [hSB] at nB
  rw [ka3, hx] at qA
  rw [kb3, hy] at qB
  rw [ka2, hx] at iA
  rw [kb2, hy] at iB
  rw [ka0, hx] at zA
  rw [kb0, hy] at zB
  rw [hx] at xb
  rw [hy] at yb
  clear ka3 ka2 ka0 kb3 kb2 kb0 hx hy
  rcases (by omega : x = 0 ∨ x = 1 ∨ x = 2 ∨ x = 3) with rfl | rfl | rfl | rfl <;> rcases (by omega : y = 0 ∨ y = 1 ∨ y = 2 ∨ y = 3) with rfl | rfl | rfl | rfl
  all_goals first | (exfalso; omega) | (
    simp only [Int.reduceEq, decide_false] at qA qB iA iB zA zB
    clear hc
    go_enter Tryd.func47, Tryd.ntmps47
    go_wp2_with (first | (go_at_call 92; (with_reducible show Calls Tryd.prog 92 #[Value.int IntKind.u32 a] _ _); refine nA.mono ?_; rintro e w' ⟨rfl, hw⟩; subst w') | (go_at_call 92; refine nB.mono ?_; rintro e w' ⟨rfl, hw⟩; subst w') | (go_at_call 42; (with_reducible show Calls Tryd.prog 42 #[Value.int IntKind.u32 a] _ _); refine qA.mono ?_; rintro e w' ⟨rfl, hw⟩; subst w') | (go_at_call 42; refine qB.mono ?_; rintro e w' ⟨rfl, hw⟩; subst w') | (go_at_call 43; (with_reducible show Calls Tryd.prog 43 #[Value.int IntKind.u32 a] _ _); refine iA.mono ?_; rintro e w' ⟨rfl, hw⟩; subst w') | (go_at_call 43; refine iB.mono ?_; rintro e w' ⟨rfl, hw⟩; subst w') | (go_at_call 44; (with_reducible show Calls Tryd.prog 44 #[Value.int IntKind.u32 a] _ _); refine zA.mono ?_; rintro e w' ⟨rfl, hw⟩; subst w') | (go_at_call 44; refine zB.mono ?_; rintro e w' ⟨rfl, hw⟩; subst w') | (go_at_call 34; refine (sSigned _ _ (by decide) (by decide) _).mono ?_; rintro e w' ⟨rfl, hw⟩; subst w') | (go_at_call 45; (with_reducible show Calls Tryd.prog 45 #[Value.int IntKind.u32 a] _ _); refine pA.mono ?_; rintro e w' ⟨rfl, hw⟩; subst w') | (go_at_call 45; refine pB.mono ?_; rintro e w' ⟨rfl, hw⟩; subst w') | (go_at_call 88; (with_reducible show Calls Tryd.prog 88 _ w _); refine (zSmall m (by omega) (by omega) _).mono ?_; rintro e w1 ⟨rfl, hb1⟩) | (go_at_call 88; refine (zSmall n (by omega) (by omega) w1).mono ?_; rintro e w2 ⟨rfl, hb2⟩) | (go_at_call 37; refine (zWord w2).mono ?_; rintro e w3 ⟨rfl, hb3⟩) | (go_at_call 35; refine (hT w3).mono ?_; rintro e w4 ⟨rfl, hb4⟩))
    all_goals go_ret
    all_goals exact ⟨rfl, ((hb1.trans (hb2.mono hb1.size)).trans (hb3.mono (Nat.le_trans hb1.size hb2.size))).trans (hb4.mono (Nat.le_trans (Nat.le_trans hb1.size hb2.size) hb3.size))⟩)
include a0 a1 b0 b1 hx hy hSA hSB in
set_option maxHeartbeats 4000000 in
theorem s_numN (w : World) (R m n p q X Y E : Int) (pA : Calls Tryd.prog 45 #[.int .u32 a] w fun e w' => e = .returned (.tuple #[.int .i64 m, .int .i64 p]) ∧ w' = w) (pB : Calls Tryd.prog 45 #[.int .u32 b] w fun e w' => e = .returned (.tuple #[.int .i64 n, .int .i64 q]) ∧ w' = w) (hn : n < 0) (hX : -m = X) (hY : -n = Y) (X0 : -16777216 < X) (X1 : X < 16777216) (Y0 : -16777216 < Y) (Y1 : Y < 16777216) (hE : p - q = E) (p0 : -149 ≤ p) (p1 : p ≤ 105) (q0 : -149 ≤ q) (q1 : q ≤ 105) (r0 : 0 ≤ R) (r1 : R < 4294967296)
    (hT : ∀ v : World, Calls Tryd.prog 35 #[.agg #[.int .i64 X, .bool false, .slice none 0 0, .int .i64 Y, .bool false, .slice none 0 0, .int .i64 E], .agg #[.int .i64 24, .int .i64 (-149), .int .i64 104], .int .i64 mode] v fun e w' => e = .returned (.int .i64 R) ∧ Below v.heap.size v w') (hc : x = 1 ∧ y = 1) : Calls Tryd.prog 47 #[.int .u32 a, .int .u32 b, .int .i64 mode] w fun e w' => e = .returned (.int .u32 R) ∧ Below w.heap.size w w' := by
  have xb := kind_bd (a % 2147483648)
  have yb := kind_bd (b % 2147483648)
  obtain ⟨ka3, ka2, ka0⟩ := kind_tests (a % 2147483648) (by omega)
  obtain ⟨kb3, kb2, kb0⟩ := kind_tests (b % 2147483648) (by omega)
  have nA := sNeg_any a a0 a1 w
  have nB := sNeg_any b b0 b1 w
  have qA := sNaN_any a a0 a1 w
  have qB := sNaN_any b b0 b1 w
  have iA := sInf_any a a0 a1 w
  have iB := sInf_any b b0 b1 w
  have zA := sNil_any a a0 a1 w
  have zB := sNil_any b b0 b1 w
  rw [hSA] at nA
  rw [hSB] at nB
  rw [ka3, hx] at qA
  rw [kb3, hy] at qB
  rw [ka2, hx] at iA
  rw [kb2, hy] at iB
  rw [ka0, hx] at zA
  rw [kb0, hy] at zB
  rw [hx] at xb
  rw [hy] at yb
  clear ka3 ka2 ka0 kb3 kb2 kb0 hx hy
  rcases (by omega : x = 0 ∨ x = 1 ∨ x = 2 ∨ x = 3) with rfl | rfl | rfl | rfl <;> rcases (by omega : y = 0 ∨ y = 1 ∨ y = 2 ∨ y = 3) with rfl | rfl | rfl | rfl
  all_goals first | (exfalso; omega) | (
    simp only [Int.reduceEq, decide_false] at qA qB iA iB zA zB
    clear hc
    go_enter Tryd.func47, Tryd.ntmps47
    go_wp2_with (first | (go_at_call 92; (with_reducible show Calls Tryd.prog 92 #[Value.int IntKind.u32 a] _ _); refine nA.mono ?_; rintro e w' ⟨rfl, hw⟩; subst w') | (go_at_call 92; refine nB.mono ?_; rintro e w' ⟨rfl, hw⟩; subst w') | (go_at_call 42; (with_reducible show Calls Tryd.prog 42 #[Value.int IntKind.u32 a] _ _); refine qA.mono ?_; rintro e w' ⟨rfl, hw⟩; subst w') | (go_at_call 42; refine qB.mono ?_; rintro e w' ⟨rfl, hw⟩; subst w') | (go_at_call 43; (with_reducible show Calls Tryd.prog 43 #[Value.int IntKind.u32 a] _ _); refine iA.mono ?_; rintro e w' ⟨rfl, hw⟩; subst w') | (go_at_call 43; refine iB.mono ?_; rintro e w' ⟨rfl, hw⟩; subst w') | (go_at_call 44; (with_reducible show Calls Tryd.prog 44 #[Value.int IntKind.u32 a] _ _); refine zA.mono ?_; rintro e w' ⟨rfl, hw⟩; subst w') | (go_at_call 44; refine zB.mono ?_; rintro e w' ⟨rfl, hw⟩; subst w') | (go_at_call 34; refine (sSigned _ _ (by decide) (by decide) _).mono ?_; rintro e w' ⟨rfl, hw⟩; subst w') | (go_at_call 45; (with_reducible show Calls Tryd.prog 45 #[Value.int IntKind.u32 a] _ _); refine pA.mono ?_; rintro e w' ⟨rfl, hw⟩; subst w') | (go_at_call 45; refine pB.mono ?_; rintro e w' ⟨rfl, hw⟩; subst w') | (go_at_call 88; (with_reducible show Calls Tryd.prog 88 _ w _); refine (zSmall X (by omega) (by omega) _).mono ?_; rintro e w1 ⟨rfl, hb1⟩) | (go_at_call 88; refine (zSmall Y (by omega) (by omega) w1).mono ?_; rintro e w2 ⟨rfl, hb2⟩) | (go_at_call 37; refine (zWord w2).mono ?_; rintro e w3 ⟨rfl, hb3⟩) | (go_at_call 35; refine (hT w3).mono ?_; rintro e w4 ⟨rfl, hb4⟩))
    all_goals go_ret
    all_goals exact ⟨rfl, ((hb1.trans (hb2.mono hb1.size)).trans (hb3.mono (Nat.le_trans hb1.size hb2.size))).trans (hb4.mono (Nat.le_trans (Nat.le_trans hb1.size hb2.size) hb3.size))⟩)

end
/-- Both sides answer alike: one number for each two words and mode. -/
theorem both (a b mode : Int) (a0 : 0 ≤ a) (a1 : a < 4294967296) (b0 : 0 ≤ b) (b1 : b < 4294967296) : ∃ R : Int,
    (∀ w : World, Calls Tryd.prog 16 #[.int .u32 a, .int .u32 b, .int .i64 mode] w fun e w' => e = .returned (.int .u32 R) ∧ Below w.heap.size w w') ∧
    (∀ w : World, Forms w → Calls Tryd.prog 17 #[.int .u32 a, .int .u32 b, .int .i64 mode] w fun e w' => e = .returned (.int .u32 R) ∧ Below w.heap.size w w') := by
  by_cases hm : 0 ≤ mode ∧ mode ≤ 4
  case neg => exact ⟨0, fun w => s_bad a b mode hm w, fun w _ => i_bad a b mode hm w⟩
  obtain ⟨x, hx⟩ : ∃ x, kindI (a % 2147483648) = x := ⟨_, rfl⟩
  obtain ⟨y, hy⟩ : ∃ y, kindI (b % 2147483648) = y := ⟨_, rfl⟩
  obtain ⟨SA, hSA⟩ : ∃ s, decide (2147483648 ≤ a) = s := ⟨_, rfl⟩
  obtain ⟨SB, hSB⟩ : ∃ s, decide (2147483648 ≤ b) = s := ⟨_, rfl⟩
  have xb := kind_bd (a % 2147483648)
  have yb := kind_bd (b % 2147483648)
  rw [hx] at xb
  rw [hy] at yb
  by_cases c1 : x = 3 ∨ y = 3 ∨ x = 0 ∧ y = 0 ∨ x = 2 ∧ y = 2
  · exact ⟨_, fun w => s_of a b mode _ hm w (s_nan a b mode x y SA SB a0 a1 b0 b1 hx hy hSA hSB w c1), fun w G => i_nan a b mode x y SA SB hm a0 a1 b0 b1 hx hy hSA hSB w G c1⟩
  by_cases c2 : x = 2 ∧ y = 0 ∨ x = 2 ∧ y = 1 ∨ x = 1 ∧ y = 0
  · exact ⟨_, fun w => s_of a b mode _ hm w (s_inf a b mode x y SA SB a0 a1 b0 b1 hx hy hSA hSB w c2), fun w G => i_inf a b mode x y SA SB hm a0 a1 b0 b1 hx hy hSA hSB w G c2⟩
  by_cases c3 : x = 0 ∧ y = 1 ∨ x = 0 ∧ y = 2 ∨ x = 1 ∧ y = 2
  · exact ⟨_, fun w => s_of a b mode _ hm w (s_nil a b mode x y SA SB a0 a1 b0 b1 hx hy hSA hSB w c3), fun w G => i_nil a b mode x y SA SB hm a0 a1 b0 b1 hx hy hSA hSB w G c3⟩
  have c4 : x = 1 ∧ y = 1 := by omega
  have na : 0 < a % 2147483648 ∧ a % 2147483648 < 2139095040 := by
    have h := hx; rw [c4.1] at h; unfold kindI at h; (repeat' split at h) <;> omega
  have nb : 0 < b % 2147483648 ∧ b % 2147483648 < 2139095040 := by
    have h := hy; rw [c4.2] at h; unfold kindI at h; (repeat' split at h) <;> omega
  have sbA := exS_bd (a % 2147483648) (by omega)
  have pbA := exP_bd (a % 2147483648) (by omega) (by omega)
  have spA : 0 < exS (a % 2147483648) := by unfold exS; split <;> omega
  have sbB := exS_bd (b % 2147483648) (by omega)
  have pbB := exP_bd (b % 2147483648) (by omega) (by omega)
  have spB : 0 < exS (b % 2147483648) := by unfold exS; split <;> omega
  obtain ⟨S, hS⟩ : ∃ S, exS (a % 2147483648) = S := ⟨_, rfl⟩
  obtain ⟨p, hp⟩ : ∃ E, exP (a % 2147483648) = E := ⟨_, rfl⟩
  obtain ⟨T, hT⟩ : ∃ S, exS (b % 2147483648) = S := ⟨_, rfl⟩
  obtain ⟨q, hq⟩ : ∃ E, exP (b % 2147483648) = E := ⟨_, rfl⟩
  rw [hS] at sbA spA
  rw [hp] at pbA
  rw [hT] at sbB spB
  rw [hq] at pbB
  obtain ⟨s, rfl⟩ := Int.eq_ofNat_of_zero_le sbA.1
  obtain ⟨t, rfl⟩ := Int.eq_ofNat_of_zero_le sbB.1
  obtain ⟨L0, lb0, lb1⟩ := bitLen_spec s (by omega) (by omega)
  have l24 := Lib.bitLen_le s 24 (by decide) (by omega)
  obtain ⟨L, hL⟩ : ∃ L, Lib.bitLen s = L := ⟨_, rfl⟩
  rw [hL] at L0 lb0 lb1 l24
  obtain ⟨k, hk⟩ : ∃ k, L + k = 62 := ⟨62 - L, by omega⟩
  have Zlo : 2 ^ 61 ≤ s * 2 ^ k := by
    have h : 2 ^ (L - 1) * 2 ^ k ≤ s * 2 ^ k := Nat.mul_le_mul_right _ lb0
    rw [← Nat.pow_add, show L - 1 + k = 61 by omega] at h
    exact h
  have Zhi : s * 2 ^ k < 2 ^ 62 := by
    have h : s * 2 ^ k < 2 ^ L * 2 ^ k := Nat.mul_lt_mul_of_pos_right lb1 (p2 _)
    rw [← Nat.pow_add, hk] at h
    exact h
  obtain ⟨Z, hZ⟩ : ∃ Z, s * 2 ^ k = Z := ⟨_, rfl⟩
  rw [hZ] at Zlo Zhi
  obtain ⟨z, hz⟩ : ∃ z, Z / t = z := ⟨_, rfl⟩
  have zlo : 2 ^ 30 ≤ z := by
    rw [← hz, Nat.le_div_iff_mul_le (by omega)]
    omega
  have zhi : z < 18446744073709551616 := by rw [← hz]; exact Nat.lt_of_le_of_lt (Nat.div_le_self _ _) (by omega)
  obtain ⟨mo, hmo⟩ : ∃ mo, decide (Z % t ≠ 0) = mo := ⟨_, rfl⟩
  obtain ⟨qz1, qz2⟩ := quot_z s t (p - q) k (by omega)
  rw [hZ] at qz1 qz2
  obtain ⟨X, hX⟩ : ∃ X : Int, (if (SA != SB) = true then -(s : Int) else s) = X := ⟨_, rfl⟩
  have hXa : s = X.natAbs := by rw [← hX]; split <;> omega
  have hXn : decide (X < 0) = (SA != SB) := by rw [← hX]; cases (SA != SB) <;> simp <;> omega
  have X0 : -16777216 < X := by omega
  have X1 : X < 16777216 := by omega
  have ep : p - (k : Int) - q = p - q - (k : Int) := by omega
  obtain ⟨R, r0, r1, hi, hs⟩ := both_w (SA != SB) z (p - q - (k : Int)) mo mode hm.1 hm.2 (by omega) zhi (by omega) (by omega) X (t : Int) (p - q) (by omega) (by omega) (by omega) (s * 2 ^ (p - q).toNat) (t * 2 ^ (-(p - q)).toNat) s t hXa rfl rfl rfl (by omega) (big_lt s _ (by omega) (by omega)) (big_lt t _ (by omega) (by omega)) hXn (by rw [qz1, hz]) (by
    rw [← hmo]
    have : (Z % t ≠ 0) ↔ (sa (s * 2 ^ (p - q).toNat) (p - q - (k : Int)) % sb (t * 2 ^ (-(p - q)).toNat) (p - q - (k : Int)) ≠ 0) := by rw [Ne, Ne, qz2]
    simp only [this]) (fun _ => zlo)
  refine ⟨R, fun w => ?_, fun w G => ?_⟩
  · have pA := sParts_any a a0 a1 w
    have pB := sParts_any b b0 b1 w
    rw [hSA, hS, hp] at pA
    rw [hSB, hT, hq] at pB
    have hTT : ∀ v : World, Calls Tryd.prog 35 #[.agg #[.int .i64 X, .bool false, .slice none 0 0, .int .i64 (t : Int), .bool false, .slice none 0 0, .int .i64 (p - q)], .agg #[.int .i64 24, .int .i64 (-149), .int .i64 104], .int .i64 mode] v fun e w' => e = .returned (.int .i64 R) ∧ Below v.heap.size v w' := fun v => hs v 3 3 X (t : Int) false false none none 0 0 0 0 (num_small v 3 X (by omega) (by omega)) (num_small v 3 (t : Int) (by omega) (by omega)) (by decide) (by decide)
    cases SB
    · exact s_of a b mode _ hm w (s_numP a b mode x y SA false a0 a1 b0 b1 hx hy hSA hSB w R _ _ p q X (t : Int) (p - q) pA pB (by unfold sgI; simp) (by rw [← hX]; unfold sgI; cases SA <;> rfl) (by unfold sgI; rfl) X0 X1 (by omega) (by omega) rfl pbA.1 pbA.2 pbB.1 pbB.2 r0 r1 hTT c4)
    · exact s_of a b mode _ hm w (s_numN a b mode x y SA true a0 a1 b0 b1 hx hy hSA hSB w R _ _ p q X (t : Int) (p - q) pA pB (by unfold sgI; simp; omega) (by rw [← hX]; unfold sgI; cases SA <;> simp) (by unfold sgI; simp) X0 X1 (by omega) (by omega) rfl pbA.1 pbA.2 pbB.1 pbB.2 r0 r1 hTT c4)
  · have EA := fun v (Gv : Forms v) => exactOf_w a a0 a1 v Gv
    have EB := fun v (Gv : Forms v) => exactOf_w b b0 b1 v Gv
    rw [hSA, hS, hp] at EA
    rw [hSB, hT, hq] at EB
    refine i_num a b mode x y SA SB hm a0 a1 b0 b1 hx hy hSA hSB w G R (z : Int) (p - q - (k : Int)) mo (s : Int) (t : Int) p q EA EB (fun v => quot52 SA SB v (s : Int) (t : Int) p q (k : Int) (Z : Int) (L : Int) (z : Int) (p - q - (k : Int)) mo spA (by omega) spB (by omega) pbA.1 pbA.2 pbB.1 pbB.2 (by rw [show ((s : Nat) : Int).toNat = s by omega, hL]) (by omega) (by omega) (by omega) (by omega) (by omega) (by rw [show ((k : Nat) : Int).toNat = k by omega, ← hZ]; exact (cast_pow s k).symm) (by omega) (by omega) (by rw [← hz]; exact (Int.natCast_ediv _ _).symm) ?_ ep) hi c4
    rw [← hmo, ← Int.natCast_emod, Bool.eq_iff_iff]
    simp
    omega

theorem walk (a0 : Int) (a1 : Int) (a2 : Int) (w0 : (Lit.int .u32 a0).wf = true) (w1 : (Lit.int .u32 a1).wf = true) (_w2 : (Lit.int .i64 a2).wf = true) (w : World) (G : Forms w) :
    Calls Tryd.prog 4 #[.int .u32 a0, .int .u32 a1, .int .i64 a2] w fun e w' => e = .returned (.bool true) ∧ Below w.heap.size w w' := by
  have b0 := bounds_u32 w0
  have b1 := bounds_u32 w1
  obtain ⟨R, hs, hi⟩ := both a0 a1 a2 (by omega) (by omega) (by omega) (by omega)
  go_enter Tryd.func4, Tryd.ntmps4
  go_wp2_with (first | (go_at_call 16; refine (hs _).mono ?_; rintro e w1 ⟨rfl, hb1⟩) | (go_at_call 17; refine (hi _ (G.next hb1)).mono ?_; rintro e w2 ⟨rfl, hb2⟩))
  go_ret
  exact ⟨rfl, hb1.trans (hb2.mono hb1.size)⟩
theorem laid_met (os : Os) : laidMet Tryd.prog Rows.fnExactDivWordsRow.laid ((laidWorld os).forCall (fun _ _ => 0) ⟨#[], #[.int .u32 0, .int .u32 0, .int .i64 0], []⟩).memory :=
  laidMet_of_run' 8 (by kernel_rfl) (by kernel_rfl)
set_option maxRecDepth 100000 in
theorem lifted (os : Os) (started : os.Started) (H : Type) (enc : TypeId × Value → H) :
    ReturnsInHanded {} Tryd.checked os 4 .any (fun w args => (Rows.fnExactDivWordsSpec.pre enc Tryd.prog Tryd.f4 [] false w args ∧ laidMetH Tryd.prog Rows.fnExactDivWordsRow.laid w) ∧ sizedMet enc Tryd.prog Tryd.f4 (OpenSpec.ofChange Rows.fnExactDivWordsSpec) false w args)
      (Rows.fnExactDivWordsSpec.post enc Tryd.prog Tryd.f4 false true false false) := by
  refine returnsInHanded_of_change_and (C := Tryd.checked) (X := fun w _ => laidMetH Tryd.prog Rows.fnExactDivWordsRow.laid w) (fun _ _ _ hh h => h.of_heap hh) own started (by kernel_rfl) Tryd.func4
    (ChangeSpec.witness_at (enc := enc) (C := Tryd.checked) (os := os) (X := fun w _ => laidMetH Tryd.prog Rows.fnExactDivWordsRow.laid w) false (laidWorld os) #[.int .u32 0, .int .u32 0, .int .i64 0] 8 rfl (by kernel_rfl) (by kernel_rfl) (by kernel_rfl) (by kernel_rfl) (by kernel_rfl) (laid_met os)) ?_
  intro W base args ds gs before hval0 hW _ _ hL _
  have hval : ∀ (j : Nat) t v, Tryd.f4.params[j]? = some t → args[j]? = some v → Value.okWide Tryd.prog W .any base t v := hval0
  have hW' := hW
  obtain ⟨p, q, hA0, hV0, rfl, hfz, hnd⟩ := hW
  have hA : DataW.TrodAll enc Tryd.prog W 0 (fun _ => true) true Tryd.f4.params.toList args.toList ds p := hA0
  have hV : DataW.TrodVars enc Tryd.prog W (fun _ => true) ["loop.example/g00053/impl.floatForms"] gs q := hV0
  rw [Tryd.params4] at hA hval
  obtain ⟨v0, vs0, d0, ds0, p0, q0, hargs, rfl, rfl, h0, r0⟩ := trodAll_cons hA
  obtain ⟨v1, vs1, d1, ds1, p1, q1, rfl, rfl, rfl, h1, r1⟩ := trodAll_cons r0
  obtain ⟨v2, vs2, d2, ds2, p2, q2, rfl, rfl, rfl, h2, r2⟩ := trodAll_cons r1
  obtain ⟨rfl, rfl, rfl⟩ := trodAll_nil r2
  obtain rfl : args = #[v0, v1, v2] := by cases args; simp_all
  obtain ⟨a0, rfl, rfl, rfl, w0⟩ := open_int Tryd.underlying23 (hval 0 23 v0 rfl rfl) h0
  obtain ⟨a1, rfl, rfl, rfl, w1⟩ := open_int Tryd.underlying23 (hval 1 23 v1 rfl rfl) h1
  obtain ⟨a2, rfl, rfl, rfl, w2⟩ := open_int Tryd.underlying3 (hval 2 3 v2 rfl rfl) h2
  obtain ⟨g, t, cs, fuel, d, p', rfl, hg, ht, hvar, hd, rfl⟩ := trodVars_one hV
  obtain rfl := Option.some.inj (gTab.symm.trans hg)
  obtain rfl := Option.some.inj (gTabType.symm.trans ht)
  obtain rfl : cs = cells8 := Option.some.inj (hvar.symm.trans (cells_of_laid hL))
  obtain ⟨rfl, rfl⟩ := DataW.Trod.unique (v := .agg cells8) ⟨fuel, hd⟩ ⟨4, reads_table enc W _⟩
  clear hA0 hV0 hval0
  refine (walk a0 a1 a2 w0 w1 w2 W (forms_of_laid hL)).mono fun e W' ⟨he, bel⟩ => ?_
  subst he
  have hv' : W'.var? Tryd.prog "loop.example/g00053/impl.floatForms" = some cells8 := var?_below bel gTab (forms_of_laid hL).pos hvar
  exact ⟨_, rfl, _, _, _, [], [], MemPlace.row ⟨0, 0, none⟩ cells8.size ++ [] ++ [], hW', trodAll_cons_mk (shut_bool Tryd.underlying4 _) trodAll_mk0, (trodAll_cons_mk (shut_int Tryd.underlying23 w0) (trodAll_cons_mk (shut_int Tryd.underlying23 w1) (trodAll_cons_mk (shut_int Tryd.underlying3 w2) trodAll_mk0))), ⟨0, 59, cells8, 4, [], [], hg, ht, hv', reads_table enc W' _, rfl, rfl⟩, bel.frame _, fun h => by cases h⟩

theorem said : Rows.FnExactDivWordsSaid :=
  OpenClaim.holds_of_wide 4 Tryd.f4 rfl rfl rfl rfl rfl rfl rfl ⟨rfl, rfl, rfl, rfl, rfl⟩ rfl rfl rfl rfl rfl (by kernel_rfl) Tryd.func4 (by kernel_rfl)
    (of_decide_eq_true (by kernel_rfl)) (by unfold Func.isWrapper; first | (rw [if_pos (by decide +kernel)]; kernel_rfl) | (rw [if_neg (by decide +kernel)]; exact ⟨rfl, rfl⟩))
    (fun os started H enc _ => lifted os started H enc)

theorem plain (f : FuncId) (fn : Func) (hf : Tryd.pinned.checked.prog.funcNamed "loop.example/g00053/laws.FnExactDivWords" = some f) (hfn : Tryd.pinned.checked.prog.funcs[f]? = some fn) :
    true = Tryd.pinned.checked.prog.looks [] ∧ ∀ (j : Nat) t, fn.params[j]? = some t → Tryd.pinned.checked.prog.wantsStandIn t = false := by
  obtain rfl : f = 4 := Option.some.inj ((show Tryd.prog.funcNamed "loop.example/g00053/laws.FnExactDivWords" = some 4 by kernel_rfl).symm.trans hf) |>.symm
  obtain rfl : fn = Tryd.f4 := (Option.some.inj (Tryd.func4.symm.trans hfn)).symm
  refine ⟨by kernel_rfl, fun j t ht => ?_⟩
  rw [Tryd.params4] at ht
  rcases (by simpa using Array.mem_of_getElem? ht : t = 23 ∨ t = 3) with rfl | rfl
  · exact (show Tryd.prog.wantsStandIn 23 = false by kernel_rfl)
  · exact (show Tryd.prog.wantsStandIn 3 = false by kernel_rfl)

theorem card : Rows.FnExactDivWordsCardSaid :=
  Claim7.holds_tied_plain_at .later [] _ _ _ _ said (fun _ h => by cases h) (by kernel_rfl) (fun _ h => by cases h) fnExactDivWords_row_tie rfl ⟨rfl, rfl⟩ (by kernel_rfl) rfl plain (by kernel_rfl)
end Go.Proofs.YtpildklndfgojaaDoor.fnExactDivWords
namespace Go.Proofs.YtpildklndfgojaaDoor
theorem div_words_holds : Rows.FnExactDivWordsCardSaid := fnExactDivWords.card
#print axioms div_words_holds
end Go.Proofs.YtpildklndfgojaaDoor
