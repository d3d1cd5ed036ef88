/- The model's FuseWords by the kinds of the three words. -/
import Derived.Test.YtoloenkcfpfgcaaDoorFuseI
namespace Go.Proofs.YtoloenkcfpfgcaaDoor.fnExactFuseWords
open Go.ChangeShapes Go.WideShapes Go.ChangeAt Go.RowKit
set_option linter.unusedVariables false
theorem s_of (a b c mode R : Int) (hm : 0 ≤ mode ∧ mode ≤ 4) (w : World) (hB : Calls Tryd.prog 15 #[.int .u32 a, .int .u32 b, .int .u32 c, .int .i64 mode] w fun e w' => e = .returned (.int .u32 R) ∧ Below w.heap.size w w') :
    Calls Tryd.prog 15 #[.int .u32 a, .int .u32 b, .int .u32 c, .int .i64 mode] w fun e w' => e = .returned (.int .u32 R) ∧ Below w.heap.size w w' := hB
/-- The sign of a nought that is a sum. -/
def nilB (a b : Bool) (mode : Int) : Bool := if a == b then a else decide (mode = 4)
theorem nil83B (a b : Bool) (mode : Int) (w : World) : Calls Tryd.prog 31 #[.bool a, .bool b, .int .i64 mode] w fun e w' => e = .returned (.int .u32 (sgn_w (nilB a b mode) 0)) ∧ w' = w := nil83 a b mode w
/-- What the model's questions answer of a word, by its kind. -/
structure Tests (a x : Int) (S : Bool) : Prop where
  neg : ∀ v : World, Calls Tryd.prog 26 #[.int .u32 a] v fun e w' => e = .returned (.bool S) ∧ w' = v
  nan : ∀ v : World, Calls Tryd.prog 13 #[.int .u32 a] v fun e w' => e = .returned (.bool (decide (x = 3))) ∧ w' = v
  inf : ∀ v : World, Calls Tryd.prog 28 #[.int .u32 a] v fun e w' => e = .returned (.bool (decide (x = 2))) ∧ w' = v
  nil : ∀ v : World, Calls Tryd.prog 27 #[.int .u32 a] v fun e w' => e = .returned (.bool (decide (x = 0))) ∧ w' = v
theorem tests (a x : Int) (S : Bool) (a0 : 0 ≤ a) (a1 : a < 4294967296) (hx : kindI (a % 2147483648) = x) (hS : decide (2147483648 ≤ a) = S) : Tests a x S := by
  obtain ⟨k3, k2, k0⟩ := kind_tests (a % 2147483648) (by omega)
  refine ⟨fun v => ?_, fun v => ?_, fun v => ?_, fun v => ?_⟩
  · have h := sNeg_any a a0 a1 v; rw [hS] at h; exact h
  · have h := sNaN_any a a0 a1 v; rw [k3, hx] at h; exact h
  · have h := sInf_any a a0 a1 v; rw [k2, hx] at h; exact h
  · have h := sNil_any a a0 a1 v; rw [k0, hx] at h; exact h
section
variable (a b c mode x y z : Int) (SA SB SC : Bool) (xb : 0 ≤ x ∧ x ≤ 3) (yb : 0 ≤ y ∧ y ≤ 3) (zb : 0 ≤ z ∧ z ≤ 3) (TA : Tests a x SA) (TB : Tests b y SB) (TC : Tests c z SC)
include xb yb zb TA TB TC in
set_option maxHeartbeats 4000000 in
theorem s_nan (w : World) (hc : x = 3 ∨ y = 3 ∨ z = 3 ∨ x = 0 ∧ y = 2 ∨ x = 2 ∧ y = 0) : Calls Tryd.prog 15 #[.int .u32 a, .int .u32 b, .int .u32 c, .int .i64 mode] w fun e w' => e = .returned (.int .u32 2143289344) ∧ Below w.heap.size w w' := by
  have nA : Hid (∀ v : World, Calls Tryd.prog 26 #[.int .u32 a] v fun e w' => e = .returned (.bool SA) ∧ w' = v) := TA.neg
  have qA : Hid (∀ v : World, Calls Tryd.prog 13 #[.int .u32 a] v fun e w' => e = .returned (.bool (decide (x = 3))) ∧ w' = v) := TA.nan
  have iA : Hid (∀ v : World, Calls Tryd.prog 28 #[.int .u32 a] v fun e w' => e = .returned (.bool (decide (x = 2))) ∧ w' = v) := TA.inf
  have zA : Hid (∀ v : World, Calls Tryd.prog 27 #[.int .u32 a] v fun e w' => e = .returned (.bool (decide (x = 0))) ∧ w' = v) := TA.nil
  have nB : Hid (∀ v : World, Calls Tryd.prog 26 #[.int .u32 b] v fun e w' => e = .returned (.bool SB) ∧ w' = v) := TB.neg
  have qB : Hid (∀ v : World, Calls Tryd.prog 13 #[.int .u32 b] v fun e w' => e = .returned (.bool (decide (y = 3))) ∧ w' = v) := TB.nan
  have iB : Hid (∀ v : World, Calls Tryd.prog 28 #[.int .u32 b] v fun e w' => e = .returned (.bool (decide (y = 2))) ∧ w' = v) := TB.inf
  have zB : Hid (∀ v : World, Calls Tryd.prog 27 #[.int .u32 b] v fun e w' => e = .returned (.bool (decide (y = 0))) ∧ w' = v) := TB.nil
  have nC : Hid (∀ v : World, Calls Tryd.prog 26 #[.int .u32 c] v fun e w' => e = .returned (.bool SC) ∧ w' = v) := TC.neg
  have qC : Hid (∀ v : World, Calls Tryd.prog 13 #[.int .u32 c] v fun e w' => e = .returned (.bool (decide (z = 3))) ∧ w' = v) := TC.nan
  have iC : Hid (∀ v : World, Calls Tryd.prog 28 #[.int .u32 c] v fun e w' => e = .returned (.bool (decide (z = 2))) ∧ w' = v) := TC.inf
  have zC : Hid (∀ v : World, Calls Tryd.prog 27 #[.int .u32 c] v fun e w' => e = .returned (.bool (decide (z = 0))) ∧ w' = v) := TC.nil
  clear TA TB TC
  all_goals rcases (by omega : x = 0 ∨ x = 1 ∨ x = 2 ∨ x = 3) with rfl | rfl | rfl | rfl <;> rcases (by omega : y = 0 ∨ y = 1 ∨ y = 2 ∨ y = 3) with rfl | rfl | rfl | rfl <;> try (exfalso; omega)
  all_goals rcases (by omega : z = 0 ∨ z = 1 ∨ z = 2 ∨ z = 3) with rfl | rfl | rfl | rfl <;> try (exfalso; omega)
  all_goals
    simp only [Int.reduceEq, decide_true, decide_false] at qA qB qC iA iB iC zA zB zC
    clear hc
    go_enter Tryd.func15, Tryd.ntmps15
    go_wp2_with (first | (go_at_call 26; (with_reducible show Calls Tryd.prog 26 #[Value.int IntKind.u32 a] _ _); refine ((Hid.out nA) _).mono ?_; rintro e w' ⟨rfl, hw⟩; subst w') | (go_at_call 26; (with_reducible show Calls Tryd.prog 26 #[Value.int IntKind.u32 b] _ _); refine ((Hid.out nB) _).mono ?_; rintro e w' ⟨rfl, hw⟩; subst w') | (go_at_call 26; (with_reducible show Calls Tryd.prog 26 #[Value.int IntKind.u32 c] _ _); refine ((Hid.out nC) _).mono ?_; rintro e w' ⟨rfl, hw⟩; subst w') | (go_at_call 13; (with_reducible show Calls Tryd.prog 13 #[Value.int IntKind.u32 a] _ _); refine ((Hid.out qA) _).mono ?_; rintro e w' ⟨rfl, hw⟩; subst w') | (go_at_call 13; (with_reducible show Calls Tryd.prog 13 #[Value.int IntKind.u32 b] _ _); refine ((Hid.out qB) _).mono ?_; rintro e w' ⟨rfl, hw⟩; subst w') | (go_at_call 13; (with_reducible show Calls Tryd.prog 13 #[Value.int IntKind.u32 c] _ _); refine ((Hid.out qC) _).mono ?_; rintro e w' ⟨rfl, hw⟩; subst w') | (go_at_call 28; (with_reducible show Calls Tryd.prog 28 #[Value.int IntKind.u32 a] _ _); refine ((Hid.out iA) _).mono ?_; rintro e w' ⟨rfl, hw⟩; subst w') | (go_at_call 28; (with_reducible show Calls Tryd.prog 28 #[Value.int IntKind.u32 b] _ _); refine ((Hid.out iB) _).mono ?_; rintro e w' ⟨rfl, hw⟩; subst w') | (go_at_call 28; (with_reducible show Calls Tryd.prog 28 #[Value.int IntKind.u32 c] _ _); refine ((Hid.out iC) _).mono ?_; rintro e w' ⟨rfl, hw⟩; subst w') | (go_at_call 27; (with_reducible show Calls Tryd.prog 27 #[Value.int IntKind.u32 a] _ _); refine ((Hid.out zA) _).mono ?_; rintro e w' ⟨rfl, hw⟩; subst w') | (go_at_call 27; (with_reducible show Calls Tryd.prog 27 #[Value.int IntKind.u32 b] _ _); refine ((Hid.out zB) _).mono ?_; rintro e w' ⟨rfl, hw⟩; subst w') | (go_at_call 27; (with_reducible show Calls Tryd.prog 27 #[Value.int IntKind.u32 c] _ _); refine ((Hid.out zC) _).mono ?_; rintro e w' ⟨rfl, hw⟩; subst w') | (go_at_call 29; refine (sSigned _ _ (by decide) (by decide) _).mono ?_; rintro e w' ⟨rfl, hw⟩; subst w'))
    all_goals go_ret
    all_goals exact ⟨rfl, Below.refl _ _⟩
include xb yb zb TA TB TC in
set_option maxHeartbeats 4000000 in
theorem s_c (w : World) (hc : (x = 0 ∨ x = 1) ∧ (y = 0 ∨ y = 1) ∧ z = 2) : Calls Tryd.prog 15 #[.int .u32 a, .int .u32 b, .int .u32 c, .int .i64 mode] w fun e w' => e = .returned (.int .u32 c) ∧ Below w.heap.size w w' := by
  have nA : Hid (∀ v : World, Calls Tryd.prog 26 #[.int .u32 a] v fun e w' => e = .returned (.bool SA) ∧ w' = v) := TA.neg
  have qA : Hid (∀ v : World, Calls Tryd.prog 13 #[.int .u32 a] v fun e w' => e = .returned (.bool (decide (x = 3))) ∧ w' = v) := TA.nan
  have iA : Hid (∀ v : World, Calls Tryd.prog 28 #[.int .u32 a] v fun e w' => e = .returned (.bool (decide (x = 2))) ∧ w' = v) := TA.inf
  have zA : Hid (∀ v : World, Calls Tryd.prog 27 #[.int .u32 a] v fun e w' => e = .returned (.bool (decide (x = 0))) ∧ w' = v) := TA.nil
  have nB : Hid (∀ v : World, Calls Tryd.prog 26 #[.int .u32 b] v fun e w' => e = .returned (.bool SB) ∧ w' = v) := TB.neg
  have qB : Hid (∀ v : World, Calls Tryd.prog 13 #[.int .u32 b] v fun e w' => e = .returned (.bool (decide (y = 3))) ∧ w' = v) := TB.nan
  have iB : Hid (∀ v : World, Calls Tryd.prog 28 #[.int .u32 b] v fun e w' => e = .returned (.bool (decide (y = 2))) ∧ w' = v) := TB.inf
  have zB : Hid (∀ v : World, Calls Tryd.prog 27 #[.int .u32 b] v fun e w' => e = .returned (.bool (decide (y = 0))) ∧ w' = v) := TB.nil
  have nC : Hid (∀ v : World, Calls Tryd.prog 26 #[.int .u32 c] v fun e w' => e = .returned (.bool SC) ∧ w' = v) := TC.neg
  have qC : Hid (∀ v : World, Calls Tryd.prog 13 #[.int .u32 c] v fun e w' => e = .returned (.bool (decide (z = 3))) ∧ w' = v) := TC.nan
  have iC : Hid (∀ v : World, Calls Tryd.prog 28 #[.int .u32 c] v fun e w' => e = .returned (.bool (decide (z = 2))) ∧ w' = v) := TC.inf
  have zC : Hid (∀ v : World, Calls Tryd.prog 27 #[.int .u32 c] v fun e w' => e = .returned (.bool (decide (z = 0))) ∧ w' = v) := TC.nil
  clear TA TB TC
  all_goals rcases (by omega : x = 0 ∨ x = 1 ∨ x = 2 ∨ x = 3) with rfl | rfl | rfl | rfl <;> rcases (by omega : y = 0 ∨ y = 1 ∨ y = 2 ∨ y = 3) with rfl | rfl | rfl | rfl <;> try (exfalso; omega)
  all_goals rcases (by omega : z = 0 ∨ z = 1 ∨ z = 2 ∨ z = 3) with rfl | rfl | rfl | rfl <;> try (exfalso; omega)
  all_goals
    simp only [Int.reduceEq, decide_true, decide_false] at qA qB qC iA iB iC zA zB zC
    clear hc
    go_enter Tryd.func15, Tryd.ntmps15
    go_wp2_with (first | (go_at_call 26; (with_reducible show Calls Tryd.prog 26 #[Value.int IntKind.u32 a] _ _); refine ((Hid.out nA) _).mono ?_; rintro e w' ⟨rfl, hw⟩; subst w') | (go_at_call 26; (with_reducible show Calls Tryd.prog 26 #[Value.int IntKind.u32 b] _ _); refine ((Hid.out nB) _).mono ?_; rintro e w' ⟨rfl, hw⟩; subst w') | (go_at_call 26; (with_reducible show Calls Tryd.prog 26 #[Value.int IntKind.u32 c] _ _); refine ((Hid.out nC) _).mono ?_; rintro e w' ⟨rfl, hw⟩; subst w') | (go_at_call 13; (with_reducible show Calls Tryd.prog 13 #[Value.int IntKind.u32 a] _ _); refine ((Hid.out qA) _).mono ?_; rintro e w' ⟨rfl, hw⟩; subst w') | (go_at_call 13; (with_reducible show Calls Tryd.prog 13 #[Value.int IntKind.u32 b] _ _); refine ((Hid.out qB) _).mono ?_; rintro e w' ⟨rfl, hw⟩; subst w') | (go_at_call 13; (with_reducible show Calls Tryd.prog 13 #[Value.int IntKind.u32 c] _ _); refine ((Hid.out qC) _).mono ?_; rintro e w' ⟨rfl, hw⟩; subst w') | (go_at_call 28; (with_reducible show Calls Tryd.prog 28 #[Value.int IntKind.u32 a] _ _); refine ((Hid.out iA) _).mono ?_; rintro e w' ⟨rfl, hw⟩; subst w') | (go_at_call 28; (with_reducible show Calls Tryd.prog 28 #[Value.int IntKind.u32 b] _ _); refine ((Hid.out iB) _).mono ?_; rintro e w' ⟨rfl, hw⟩; subst w') | (go_at_call 28; (with_reducible show Calls Tryd.prog 28 #[Value.int IntKind.u32 c] _ _); refine ((Hid.out iC) _).mono ?_; rintro e w' ⟨rfl, hw⟩; subst w') | (go_at_call 27; (with_reducible show Calls Tryd.prog 27 #[Value.int IntKind.u32 a] _ _); refine ((Hid.out zA) _).mono ?_; rintro e w' ⟨rfl, hw⟩; subst w') | (go_at_call 27; (with_reducible show Calls Tryd.prog 27 #[Value.int IntKind.u32 b] _ _); refine ((Hid.out zB) _).mono ?_; rintro e w' ⟨rfl, hw⟩; subst w') | (go_at_call 27; (with_reducible show Calls Tryd.prog 27 #[Value.int IntKind.u32 c] _ _); refine ((Hid.out zC) _).mono ?_; rintro e w' ⟨rfl, hw⟩; subst w') | (go_at_call 29; refine (sSigned _ _ (by decide) (by decide) _).mono ?_; rintro e w' ⟨rfl, hw⟩; subst w'))
    all_goals go_ret
    all_goals exact ⟨rfl, Below.refl _ _⟩
include xb yb zb TA TB TC in
set_option maxHeartbeats 4000000 in
theorem s_infA (w : World) (hc : (x = 2 ∧ (y = 1 ∨ y = 2) ∨ x = 1 ∧ y = 2) ∧ (z = 0 ∨ z = 1)) : Calls Tryd.prog 15 #[.int .u32 a, .int .u32 b, .int .u32 c, .int .i64 mode] w fun e w' => e = .returned (.int .u32 (sgn_w (SA != SB) 2139095040)) ∧ Below w.heap.size w w' := by
  have nA : Hid (∀ v : World, Calls Tryd.prog 26 #[.int .u32 a] v fun e w' => e = .returned (.bool SA) ∧ w' = v) := TA.neg
  have qA : Hid (∀ v : World, Calls Tryd.prog 13 #[.int .u32 a] v fun e w' => e = .returned (.bool (decide (x = 3))) ∧ w' = v) := TA.nan
  have iA : Hid (∀ v : World, Calls Tryd.prog 28 #[.int .u32 a] v fun e w' => e = .returned (.bool (decide (x = 2))) ∧ w' = v) := TA.inf
  have zA : Hid (∀ v : World, Calls Tryd.prog 27 #[.int .u32 a] v fun e w' => e = .returned (.bool (decide (x = 0))) ∧ w' = v) := TA.nil
  have nB : Hid (∀ v : World, Calls Tryd.prog 26 #[.int .u32 b] v fun e w' => e = .returned (.bool SB) ∧ w' = v) := TB.neg
  have qB : Hid (∀ v : World, Calls Tryd.prog 13 #[.int .u32 b] v fun e w' => e = .returned (.bool (decide (y = 3))) ∧ w' = v) := TB.nan
  have iB : Hid (∀ v : World, Calls Tryd.prog 28 #[.int .u32 b] v fun e w' => e = .returned (.bool (decide (y = 2))) ∧ w' = v) := TB.inf
  have zB : Hid (∀ v : World, Calls Tryd.prog 27 #[.int .u32 b] v fun e w' => e = .returned (.bool (decide (y = 0))) ∧ w' = v) := TB.nil
  have nC : Hid (∀ v : World, Calls Tryd.prog 26 #[.int .u32 c] v fun e w' => e = .returned (.bool SC) ∧ w' = v) := TC.neg
  have qC : Hid (∀ v : World, Calls Tryd.prog 13 #[.int .u32 c] v fun e w' => e = .returned (.bool (decide (z = 3))) ∧ w' = v) := TC.nan
  have iC : Hid (∀ v : World, Calls Tryd.prog 28 #[.int .u32 c] v fun e w' => e = .returned (.bool (decide (z = 2))) ∧ w' = v) := TC.inf
  have zC : Hid (∀ v : World, Calls Tryd.prog 27 #[.int .u32 c] v fun e w' => e = .returned (.bool (decide (z = 0))) ∧ w' = v) := TC.nil
  clear TA TB TC
  all_goals rcases (by omega : x = 0 ∨ x = 1 ∨ x = 2 ∨ x = 3) with rfl | rfl | rfl | rfl <;> rcases (by omega : y = 0 ∨ y = 1 ∨ y = 2 ∨ y = 3) with rfl | rfl | rfl | rfl <;> try (exfalso; omega)
  all_goals rcases (by omega : z = 0 ∨ z = 1 ∨ z = 2 ∨ z = 3) with rfl | rfl | rfl | rfl <;> try (exfalso; omega)
  all_goals
    simp only [Int.reduceEq, decide_true, decide_false] at qA qB qC iA iB iC zA zB zC
    clear hc
    go_enter Tryd.func15, Tryd.ntmps15
    go_wp2_with (first | (go_at_call 26; (with_reducible show Calls Tryd.prog 26 #[Value.int IntKind.u32 a] _ _); refine ((Hid.out nA) _).mono ?_; rintro e w' ⟨rfl, hw⟩; subst w') | (go_at_call 26; (with_reducible show Calls Tryd.prog 26 #[Value.int IntKind.u32 b] _ _); refine ((Hid.out nB) _).mono ?_; rintro e w' ⟨rfl, hw⟩; subst w') | (go_at_call 26; (with_reducible show Calls Tryd.prog 26 #[Value.int IntKind.u32 c] _ _); refine ((Hid.out nC) _).mono ?_; rintro e w' ⟨rfl, hw⟩; subst w') | (go_at_call 13; (with_reducible show Calls Tryd.prog 13 #[Value.int IntKind.u32 a] _ _); refine ((Hid.out qA) _).mono ?_; rintro e w' ⟨rfl, hw⟩; subst w') | (go_at_call 13; (with_reducible show Calls Tryd.prog 13 #[Value.int IntKind.u32 b] _ _); refine ((Hid.out qB) _).mono ?_; rintro e w' ⟨rfl, hw⟩; subst w') | (go_at_call 13; (with_reducible show Calls Tryd.prog 13 #[Value.int IntKind.u32 c] _ _); refine ((Hid.out qC) _).mono ?_; rintro e w' ⟨rfl, hw⟩; subst w') | (go_at_call 28; (with_reducible show Calls Tryd.prog 28 #[Value.int IntKind.u32 a] _ _); refine ((Hid.out iA) _).mono ?_; rintro e w' ⟨rfl, hw⟩; subst w') | (go_at_call 28; (with_reducible show Calls Tryd.prog 28 #[Value.int IntKind.u32 b] _ _); refine ((Hid.out iB) _).mono ?_; rintro e w' ⟨rfl, hw⟩; subst w') | (go_at_call 28; (with_reducible show Calls Tryd.prog 28 #[Value.int IntKind.u32 c] _ _); refine ((Hid.out iC) _).mono ?_; rintro e w' ⟨rfl, hw⟩; subst w') | (go_at_call 27; (with_reducible show Calls Tryd.prog 27 #[Value.int IntKind.u32 a] _ _); refine ((Hid.out zA) _).mono ?_; rintro e w' ⟨rfl, hw⟩; subst w') | (go_at_call 27; (with_reducible show Calls Tryd.prog 27 #[Value.int IntKind.u32 b] _ _); refine ((Hid.out zB) _).mono ?_; rintro e w' ⟨rfl, hw⟩; subst w') | (go_at_call 27; (with_reducible show Calls Tryd.prog 27 #[Value.int IntKind.u32 c] _ _); refine ((Hid.out zC) _).mono ?_; rintro e w' ⟨rfl, hw⟩; subst w') | (go_at_call 29; refine (sSigned _ _ (by decide) (by decide) _).mono ?_; rintro e w' ⟨rfl, hw⟩; subst w'))
    all_goals go_ret
    all_goals exact ⟨by clear nA nB; first | rfl | (revert h; cases SA <;> cases SB <;> intro h <;> first | rfl | exact (h rfl).elim | exact Bool.noConfusion h), Below.refl _ _⟩
include xb yb zb TA TB TC in
set_option maxHeartbeats 4000000 in
theorem s_infB (w : World) (hs : SC = (SA != SB)) (hc : (x = 2 ∧ (y = 1 ∨ y = 2) ∨ x = 1 ∧ y = 2) ∧ z = 2) : Calls Tryd.prog 15 #[.int .u32 a, .int .u32 b, .int .u32 c, .int .i64 mode] w fun e w' => e = .returned (.int .u32 (sgn_w (SA != SB) 2139095040)) ∧ Below w.heap.size w w' := by
  have nA : Hid (∀ v : World, Calls Tryd.prog 26 #[.int .u32 a] v fun e w' => e = .returned (.bool SA) ∧ w' = v) := TA.neg
  have qA : Hid (∀ v : World, Calls Tryd.prog 13 #[.int .u32 a] v fun e w' => e = .returned (.bool (decide (x = 3))) ∧ w' = v) := TA.nan
  have iA : Hid (∀ v : World, Calls Tryd.prog 28 #[.int .u32 a] v fun e w' => e = .returned (.bool (decide (x = 2))) ∧ w' = v) := TA.inf
  have zA : Hid (∀ v : World, Calls Tryd.prog 27 #[.int .u32 a] v fun e w' => e = .returned (.bool (decide (x = 0))) ∧ w' = v) := TA.nil
  have nB : Hid (∀ v : World, Calls Tryd.prog 26 #[.int .u32 b] v fun e w' => e = .returned (.bool SB) ∧ w' = v) := TB.neg
  have qB : Hid (∀ v : World, Calls Tryd.prog 13 #[.int .u32 b] v fun e w' => e = .returned (.bool (decide (y = 3))) ∧ w' = v) := TB.nan
  have iB : Hid (∀ v : World, Calls Tryd.prog 28 #[.int .u32 b] v fun e w' => e = .returned (.bool (decide (y = 2))) ∧ w' = v) := TB.inf
  have zB : Hid (∀ v : World, Calls Tryd.prog 27 #[.int .u32 b] v fun e w' => e = .returned (.bool (decide (y = 0))) ∧ w' = v) := TB.nil
  have nC : Hid (∀ v : World, Calls Tryd.prog 26 #[.int .u32 c] v fun e w' => e = .returned (.bool SC) ∧ w' = v) := TC.neg
  have qC : Hid (∀ v : World, Calls Tryd.prog 13 #[.int .u32 c] v fun e w' => e = .returned (.bool (decide (z = 3))) ∧ w' = v) := TC.nan
  have iC : Hid (∀ v : World, Calls Tryd.prog 28 #[.int .u32 c] v fun e w' => e = .returned (.bool (decide (z = 2))) ∧ w' = v) := TC.inf
  have zC : Hid (∀ v : World, Calls Tryd.prog 27 #[.int .u32 c] v fun e w' => e = .returned (.bool (decide (z = 0))) ∧ w' = v) := TC.nil
  clear TA TB TC
  cases SA <;> cases SB <;> cases SC <;> first | (exfalso; revert hs; decide) | skip
  all_goals clear hs
  all_goals rcases (by omega : x = 0 ∨ x = 1 ∨ x = 2 ∨ x = 3) with rfl | rfl | rfl | rfl <;> rcases (by omega : y = 0 ∨ y = 1 ∨ y = 2 ∨ y = 3) with rfl | rfl | rfl | rfl <;> try (exfalso; omega)
  all_goals rcases (by omega : z = 0 ∨ z = 1 ∨ z = 2 ∨ z = 3) with rfl | rfl | rfl | rfl <;> try (exfalso; omega)
  all_goals
    simp only [Int.reduceEq, decide_true, decide_false] at qA qB qC iA iB iC zA zB zC
    clear hc
    go_enter Tryd.func15, Tryd.ntmps15
    go_wp2_with (first | (go_at_call 26; (with_reducible show Calls Tryd.prog 26 #[Value.int IntKind.u32 a] _ _); refine ((Hid.out nA) _).mono ?_; rintro e w' ⟨rfl, hw⟩; subst w') | (go_at_call 26; (with_reducible show Calls Tryd.prog 26 #[Value.int IntKind.u32 b] _ _); refine ((Hid.out nB) _).mono ?_; rintro e w' ⟨rfl, hw⟩; subst w') | (go_at_call 26; (with_reducible show Calls Tryd.prog 26 #[Value.int IntKind.u32 c] _ _); refine ((Hid.out nC) _).mono ?_; rintro e w' ⟨rfl, hw⟩; subst w') | (go_at_call 13; (with_reducible show Calls Tryd.prog 13 #[Value.int IntKind.u32 a] _ _); refine ((Hid.out qA) _).mono ?_; rintro e w' ⟨rfl, hw⟩; subst w') | (go_at_call 13; (with_reducible show Calls Tryd.prog 13 #[Value.int IntKind.u32 b] _ _); refine ((Hid.out qB) _).mono ?_; rintro e w' ⟨rfl, hw⟩; subst w') | (go_at_call 13; (with_reducible show Calls Tryd.prog 13 #[Value.int IntKind.u32 c] _ _); refine ((Hid.out qC) _).mono ?_; rintro e w' ⟨rfl, hw⟩; subst w') | (go_at_call 28; (with_reducible show Calls Tryd.prog 28 #[Value.int IntKind.u32 a] _ _); refine ((Hid.out iA) _).mono ?_; rintro e w' ⟨rfl, hw⟩; subst w') | (go_at_call 28; (with_reducible show Calls Tryd.prog 28 #[Value.int IntKind.u32 b] _ _); refine ((Hid.out iB) _).mono ?_; rintro e w' ⟨rfl, hw⟩; subst w') | (go_at_call 28; (with_reducible show Calls Tryd.prog 28 #[Value.int IntKind.u32 c] _ _); refine ((Hid.out iC) _).mono ?_; rintro e w' ⟨rfl, hw⟩; subst w') | (go_at_call 27; (with_reducible show Calls Tryd.prog 27 #[Value.int IntKind.u32 a] _ _); refine ((Hid.out zA) _).mono ?_; rintro e w' ⟨rfl, hw⟩; subst w') | (go_at_call 27; (with_reducible show Calls Tryd.prog 27 #[Value.int IntKind.u32 b] _ _); refine ((Hid.out zB) _).mono ?_; rintro e w' ⟨rfl, hw⟩; subst w') | (go_at_call 27; (with_reducible show Calls Tryd.prog 27 #[Value.int IntKind.u32 c] _ _); refine ((Hid.out zC) _).mono ?_; rintro e w' ⟨rfl, hw⟩; subst w') | (go_at_call 29; refine (sSigned _ _ (by decide) (by decide) _).mono ?_; rintro e w' ⟨rfl, hw⟩; subst w'))
    all_goals go_ret
    all_goals exact ⟨by first | rfl | decide, Below.refl _ _⟩
include xb yb zb TA TB TC in
set_option maxHeartbeats 4000000 in
theorem s_infC (w : World) (hs : SC ≠ (SA != SB)) (hc : (x = 2 ∧ (y = 1 ∨ y = 2) ∨ x = 1 ∧ y = 2) ∧ z = 2) : Calls Tryd.prog 15 #[.int .u32 a, .int .u32 b, .int .u32 c, .int .i64 mode] w fun e w' => e = .returned (.int .u32 2143289344) ∧ Below w.heap.size w w' := by
  have nA : Hid (∀ v : World, Calls Tryd.prog 26 #[.int .u32 a] v fun e w' => e = .returned (.bool SA) ∧ w' = v) := TA.neg
  have qA : Hid (∀ v : World, Calls Tryd.prog 13 #[.int .u32 a] v fun e w' => e = .returned (.bool (decide (x = 3))) ∧ w' = v) := TA.nan
  have iA : Hid (∀ v : World, Calls Tryd.prog 28 #[.int .u32 a] v fun e w' => e = .returned (.bool (decide (x = 2))) ∧ w' = v) := TA.inf
  have zA : Hid (∀ v : World, Calls Tryd.prog 27 #[.int .u32 a] v fun e w' => e = .returned (.bool (decide (x = 0))) ∧ w' = v) := TA.nil
  have nB : Hid (∀ v : World, Calls Tryd.prog 26 #[.int .u32 b] v fun e w' => e = .returned (.bool SB) ∧ w' = v) := TB.neg
  have qB : Hid (∀ v : World, Calls Tryd.prog 13 #[.int .u32 b] v fun e w' => e = .returned (.bool (decide (y = 3))) ∧ w' = v) := TB.nan
  have iB : Hid (∀ v : World, Calls Tryd.prog 28 #[.int .u32 b] v fun e w' => e = .returned (.bool (decide (y = 2))) ∧ w' = v) := TB.inf
  have zB : Hid (∀ v : World, Calls Tryd.prog 27 #[.int .u32 b] v fun e w' => e = .returned (.bool (decide (y = 0))) ∧ w' = v) := TB.nil
  have nC : Hid (∀ v : World, Calls Tryd.prog 26 #[.int .u32 c] v fun e w' => e = .returned (.bool SC) ∧ w' = v) := TC.neg
  have qC : Hid (∀ v : World, Calls Tryd.prog 13 #[.int .u32 c] v fun e w' => e = .returned (.bool (decide (z = 3))) ∧ w' = v) := TC.nan
  have iC : Hid (∀ v : World, Calls Tryd.prog 28 #[.int .u32 c] v fun e w' => e = .returned (.bool (decide (z = 2))) ∧ w' = v) := TC.inf
  have zC : Hid (∀ v : World, Calls Tryd.prog 27 #[.int .u32 c] v fun e w' => e = .returned (.bool (decide (z = 0))) ∧ w' = v) := TC.nil
  clear TA TB TC
  cases SA <;> cases SB <;> cases SC <;> first | (exfalso; revert hs; decide) | skip
  all_goals clear hs
  all_goals rcases (by omega : x = 0 ∨ x = 1 ∨ x = 2 ∨ x = 3) with rfl | rfl | rfl | rfl <;> rcases (by omega : y = 0 ∨ y = 1 ∨ y = 2 ∨ y = 3) with rfl | rfl | rfl | rfl <;> try (exfalso; omega)
  all_goals rcases (by omega : z = 0 ∨ z = 1 ∨ z = 2 ∨ z = 3) with rfl | rfl | rfl | rfl <;> try (exfalso; omega)
  all_goals
    simp only [Int.reduceEq, decide_true, decide_false] at qA qB qC iA iB iC zA zB zC
    clear hc
    go_enter Tryd.func15, Tryd.ntmps15
    go_wp2_with (first | (go_at_call 26; (with_reducible show Calls Tryd.prog 26 #[Value.int IntKind.u32 a] _ _); refine ((Hid.out nA) _).mono ?_; rintro e w' ⟨rfl, hw⟩; subst w') | (go_at_call 26; (with_reducible show Calls Tryd.prog 26 #[Value.int IntKind.u32 b] _ _); refine ((Hid.out nB) _).mono ?_; rintro e w' ⟨rfl, hw⟩; subst w') | (go_at_call 26; (with_reducible show Calls Tryd.prog 26 #[Value.int IntKind.u32 c] _ _); refine ((Hid.out nC) _).mono ?_; rintro e w' ⟨rfl, hw⟩; subst w') | (go_at_call 13; (with_reducible show Calls Tryd.prog 13 #[Value.int IntKind.u32 a] _ _); refine ((Hid.out qA) _).mono ?_; rintro e w' ⟨rfl, hw⟩; subst w') | (go_at_call 13; (with_reducible show Calls Tryd.prog 13 #[Value.int IntKind.u32 b] _ _); refine ((Hid.out qB) _).mono ?_; rintro e w' ⟨rfl, hw⟩; subst w') | (go_at_call 13; (with_reducible show Calls Tryd.prog 13 #[Value.int IntKind.u32 c] _ _); refine ((Hid.out qC) _).mono ?_; rintro e w' ⟨rfl, hw⟩; subst w') | (go_at_call 28; (with_reducible show Calls Tryd.prog 28 #[Value.int IntKind.u32 a] _ _); refine ((Hid.out iA) _).mono ?_; rintro e w' ⟨rfl, hw⟩; subst w') | (go_at_call 28; (with_reducible show Calls Tryd.prog 28 #[Value.int IntKind.u32 b] _ _); refine ((Hid.out iB) _).mono ?_; rintro e w' ⟨rfl, hw⟩; subst w') | (go_at_call 28; (with_reducible show Calls Tryd.prog 28 #[Value.int IntKind.u32 c] _ _); refine ((Hid.out iC) _).mono ?_; rintro e w' ⟨rfl, hw⟩; subst w') | (go_at_call 27; (with_reducible show Calls Tryd.prog 27 #[Value.int IntKind.u32 a] _ _); refine ((Hid.out zA) _).mono ?_; rintro e w' ⟨rfl, hw⟩; subst w') | (go_at_call 27; (with_reducible show Calls Tryd.prog 27 #[Value.int IntKind.u32 b] _ _); refine ((Hid.out zB) _).mono ?_; rintro e w' ⟨rfl, hw⟩; subst w') | (go_at_call 27; (with_reducible show Calls Tryd.prog 27 #[Value.int IntKind.u32 c] _ _); refine ((Hid.out zC) _).mono ?_; rintro e w' ⟨rfl, hw⟩; subst w') | (go_at_call 29; refine (sSigned _ _ (by decide) (by decide) _).mono ?_; rintro e w' ⟨rfl, hw⟩; subst w'))
    all_goals go_ret
    all_goals exact ⟨rfl, Below.refl _ _⟩
include xb yb zb TA TB TC in
set_option maxHeartbeats 4000000 in
theorem s_nn (w : World) (m n e k : Int) (pA : Hid (∀ v : World, Calls Tryd.prog 30 #[.int .u32 a] v fun e' w' => e' = .returned (.tuple #[.int .i64 m, .int .i64 e]) ∧ w' = v)) (pB : Hid (∀ v : World, Calls Tryd.prog 30 #[.int .u32 b] v fun e' w' => e' = .returned (.tuple #[.int .i64 n, .int .i64 k]) ∧ w' = v)) (hmn : m = 0 ∨ ¬ m = 0 ∧ n = 0) (hc : (x = 0 ∨ x = 1) ∧ (y = 0 ∨ y = 1) ∧ z = 0) : Calls Tryd.prog 15 #[.int .u32 a, .int .u32 b, .int .u32 c, .int .i64 mode] w fun e w' => e = .returned (.int .u32 (sgn_w (nilB (SA != SB) SC mode) 0)) ∧ Below w.heap.size w w' := by
  have nA : Hid (∀ v : World, Calls Tryd.prog 26 #[.int .u32 a] v fun e w' => e = .returned (.bool SA) ∧ w' = v) := TA.neg
  have qA : Hid (∀ v : World, Calls Tryd.prog 13 #[.int .u32 a] v fun e w' => e = .returned (.bool (decide (x = 3))) ∧ w' = v) := TA.nan
  have iA : Hid (∀ v : World, Calls Tryd.prog 28 #[.int .u32 a] v fun e w' => e = .returned (.bool (decide (x = 2))) ∧ w' = v) := TA.inf
  have zA : Hid (∀ v : World, Calls Tryd.prog 27 #[.int .u32 a] v fun e w' => e = .returned (.bool (decide (x = 0))) ∧ w' = v) := TA.nil
  have nB : Hid (∀ v : World, Calls Tryd.prog 26 #[.int .u32 b] v fun e w' => e = .returned (.bool SB) ∧ w' = v) := TB.neg
  have qB : Hid (∀ v : World, Calls Tryd.prog 13 #[.int .u32 b] v fun e w' => e = .returned (.bool (decide (y = 3))) ∧ w' = v) := TB.nan
  have iB : Hid (∀ v : World, Calls Tryd.prog 28 #[.int .u32 b] v fun e w' => e = .returned (.bool (decide (y = 2))) ∧ w' = v) := TB.inf
  have zB : Hid (∀ v : World, Calls Tryd.prog 27 #[.int .u32 b] v fun e w' => e = .returned (.bool (decide (y = 0))) ∧ w' = v) := TB.nil
  have nC : Hid (∀ v : World, Calls Tryd.prog 26 #[.int .u32 c] v fun e w' => e = .returned (.bool SC) ∧ w' = v) := TC.neg
  have qC : Hid (∀ v : World, Calls Tryd.prog 13 #[.int .u32 c] v fun e w' => e = .returned (.bool (decide (z = 3))) ∧ w' = v) := TC.nan
  have iC : Hid (∀ v : World, Calls Tryd.prog 28 #[.int .u32 c] v fun e w' => e = .returned (.bool (decide (z = 2))) ∧ w' = v) := TC.inf
  have zC : Hid (∀ v : World, Calls Tryd.prog 27 #[.int .u32 c] v fun e w' => e = .returned (.bool (decide (z = 0))) ∧ w' = v) := TC.nil
  clear TA TB TC
  all_goals rcases (by omega : x = 0 ∨ x = 1 ∨ x = 2 ∨ x = 3) with rfl | rfl | rfl | rfl <;> rcases (by omega : y = 0 ∨ y = 1 ∨ y = 2 ∨ y = 3) with rfl | rfl | rfl | rfl <;> try (exfalso; omega)
  all_goals rcases (by omega : z = 0 ∨ z = 1 ∨ z = 2 ∨ z = 3) with rfl | rfl | rfl | rfl <;> try (exfalso; omega)
  all_goals rcases hmn with rfl | ⟨hm1, rfl⟩
  all_goals
    simp only [Int.reduceEq, decide_true, decide_false] at qA qB qC iA iB iC zA zB zC
    clear hc
    go_enter Tryd.func15, Tryd.ntmps15
    go_wp2_with (first | (go_at_call 26; (with_reducible show Calls Tryd.prog 26 #[Value.int IntKind.u32 a] _ _); refine ((Hid.out nA) _).mono ?_; rintro e w' ⟨rfl, hw⟩; subst w') | (go_at_call 26; (with_reducible show Calls Tryd.prog 26 #[Value.int IntKind.u32 b] _ _); refine ((Hid.out nB) _).mono ?_; rintro e w' ⟨rfl, hw⟩; subst w') | (go_at_call 26; (with_reducible show Calls Tryd.prog 26 #[Value.int IntKind.u32 c] _ _); refine ((Hid.out nC) _).mono ?_; rintro e w' ⟨rfl, hw⟩; subst w') | (go_at_call 13; (with_reducible show Calls Tryd.prog 13 #[Value.int IntKind.u32 a] _ _); refine ((Hid.out qA) _).mono ?_; rintro e w' ⟨rfl, hw⟩; subst w') | (go_at_call 13; (with_reducible show Calls Tryd.prog 13 #[Value.int IntKind.u32 b] _ _); refine ((Hid.out qB) _).mono ?_; rintro e w' ⟨rfl, hw⟩; subst w') | (go_at_call 13; (with_reducible show Calls Tryd.prog 13 #[Value.int IntKind.u32 c] _ _); refine ((Hid.out qC) _).mono ?_; rintro e w' ⟨rfl, hw⟩; subst w') | (go_at_call 28; (with_reducible show Calls Tryd.prog 28 #[Value.int IntKind.u32 a] _ _); refine ((Hid.out iA) _).mono ?_; rintro e w' ⟨rfl, hw⟩; subst w') | (go_at_call 28; (with_reducible show Calls Tryd.prog 28 #[Value.int IntKind.u32 b] _ _); refine ((Hid.out iB) _).mono ?_; rintro e w' ⟨rfl, hw⟩; subst w') | (go_at_call 28; (with_reducible show Calls Tryd.prog 28 #[Value.int IntKind.u32 c] _ _); refine ((Hid.out iC) _).mono ?_; rintro e w' ⟨rfl, hw⟩; subst w') | (go_at_call 27; (with_reducible show Calls Tryd.prog 27 #[Value.int IntKind.u32 a] _ _); refine ((Hid.out zA) _).mono ?_; rintro e w' ⟨rfl, hw⟩; subst w') | (go_at_call 27; (with_reducible show Calls Tryd.prog 27 #[Value.int IntKind.u32 b] _ _); refine ((Hid.out zB) _).mono ?_; rintro e w' ⟨rfl, hw⟩; subst w') | (go_at_call 27; (with_reducible show Calls Tryd.prog 27 #[Value.int IntKind.u32 c] _ _); refine ((Hid.out zC) _).mono ?_; rintro e w' ⟨rfl, hw⟩; subst w') | (go_at_call 29; refine (sSigned _ _ (by decide) (by decide) _).mono ?_; rintro e w' ⟨rfl, hw⟩; subst w') | (go_at_call 30; (with_reducible show Calls Tryd.prog 30 #[Value.int IntKind.u32 a] _ _); refine ((Hid.out pA) _).mono ?_; rintro e w' ⟨rfl, hw⟩; subst w') | (go_at_call 30; (with_reducible show Calls Tryd.prog 30 #[Value.int IntKind.u32 b] _ _); refine ((Hid.out pB) _).mono ?_; rintro e w' ⟨rfl, hw⟩; subst w') | (go_at_call 31; refine (nil83B _ _ _ _).mono ?_; rintro e w' ⟨rfl, hw⟩; subst w'))
    all_goals go_ret
    all_goals exact ⟨by clear nA nB nC; cases SA <;> cases SB <;> rfl, Below.refl _ _⟩
include xb yb zb TA TB TC in
set_option maxHeartbeats 4000000 in
theorem s_nc (w : World) (m n e k : Int) (pA : Hid (∀ v : World, Calls Tryd.prog 30 #[.int .u32 a] v fun e' w' => e' = .returned (.tuple #[.int .i64 m, .int .i64 e]) ∧ w' = v)) (pB : Hid (∀ v : World, Calls Tryd.prog 30 #[.int .u32 b] v fun e' w' => e' = .returned (.tuple #[.int .i64 n, .int .i64 k]) ∧ w' = v)) (hmn : m = 0 ∨ ¬ m = 0 ∧ n = 0) (hc : (x = 0 ∨ x = 1) ∧ (y = 0 ∨ y = 1) ∧ z = 1) : Calls Tryd.prog 15 #[.int .u32 a, .int .u32 b, .int .u32 c, .int .i64 mode] w fun e w' => e = .returned (.int .u32 c) ∧ Below w.heap.size w w' := by
  have nA : Hid (∀ v : World, Calls Tryd.prog 26 #[.int .u32 a] v fun e w' => e = .returned (.bool SA) ∧ w' = v) := TA.neg
  have qA : Hid (∀ v : World, Calls Tryd.prog 13 #[.int .u32 a] v fun e w' => e = .returned (.bool (decide (x = 3))) ∧ w' = v) := TA.nan
  have iA : Hid (∀ v : World, Calls Tryd.prog 28 #[.int .u32 a] v fun e w' => e = .returned (.bool (decide (x = 2))) ∧ w' = v) := TA.inf
  have zA : Hid (∀ v : World, Calls Tryd.prog 27 #[.int .u32 a] v fun e w' => e = .returned (.bool (decide (x = 0))) ∧ w' = v) := TA.nil
  have nB : Hid (∀ v : World, Calls Tryd.prog 26 #[.int .u32 b] v fun e w' => e = .returned (.bool SB) ∧ w' = v) := TB.neg
  have qB : Hid (∀ v : World, Calls Tryd.prog 13 #[.int .u32 b] v fun e w' => e = .returned (.bool (decide (y = 3))) ∧ w' = v) := TB.nan
  have iB : Hid (∀ v : World, Calls Tryd.prog 28 #[.int .u32 b] v fun e w' => e = .returned (.bool (decide (y = 2))) ∧ w' = v) := TB.inf
  have zB : Hid (∀ v : World, Calls Tryd.prog 27 #[.int .u32 b] v fun e w' => e = .returned (.bool (decide (y = 0))) ∧ w' = v) := TB.nil
  have nC : Hid (∀ v : World, Calls Tryd.prog 26 #[.int .u32 c] v fun e w' => e = .returned (.bool SC) ∧ w' = v) := TC.neg
  have qC : Hid (∀ v : World, Calls Tryd.prog 13 #[.int .u32 c] v fun e w' => e = .returned (.bool (decide (z = 3))) ∧ w' = v) := TC.nan
  have iC : Hid (∀ v : World, Calls Tryd.prog 28 #[.int .u32 c] v fun e w' => e = .returned (.bool (decide (z = 2))) ∧ w' = v) := TC.inf
  have zC : Hid (∀ v : World, Calls Tryd.prog 27 #[.int .u32 c] v fun e w' => e = .returned (.bool (decide (z = 0))) ∧ w' = v) := TC.nil
  clear TA TB TC
  all_goals rcases (by omega : x = 0 ∨ x = 1 ∨ x = 2 ∨ x = 3) with rfl | rfl | rfl | rfl <;> rcases (by omega : y = 0 ∨ y = 1 ∨ y = 2 ∨ y = 3) with rfl | rfl | rfl | rfl <;> try (exfalso; omega)
  all_goals rcases (by omega : z = 0 ∨ z = 1 ∨ z = 2 ∨ z = 3) with rfl | rfl | rfl | rfl <;> try (exfalso; omega)
  all_goals rcases hmn with rfl | ⟨hm1, rfl⟩
  all_goals
    simp only [Int.reduceEq, decide_true, decide_false] at qA qB qC iA iB iC zA zB zC
    clear hc
    go_enter Tryd.func15, Tryd.ntmps15
    go_wp2_with (first | (go_at_call 26; (with_reducible show Calls Tryd.prog 26 #[Value.int IntKind.u32 a] _ _); refine ((Hid.out nA) _).mono ?_; rintro e w' ⟨rfl, hw⟩; subst w') | (go_at_call 26; (with_reducible show Calls Tryd.prog 26 #[Value.int IntKind.u32 b] _ _); refine ((Hid.out nB) _).mono ?_; rintro e w' ⟨rfl, hw⟩; subst w') | (go_at_call 26; (with_reducible show Calls Tryd.prog 26 #[Value.int IntKind.u32 c] _ _); refine ((Hid.out nC) _).mono ?_; rintro e w' ⟨rfl, hw⟩; subst w') | (go_at_call 13; (with_reducible show Calls Tryd.prog 13 #[Value.int IntKind.u32 a] _ _); refine ((Hid.out qA) _).mono ?_; rintro e w' ⟨rfl, hw⟩; subst w') | (go_at_call 13; (with_reducible show Calls Tryd.prog 13 #[Value.int IntKind.u32 b] _ _); refine ((Hid.out qB) _).mono ?_; rintro e w' ⟨rfl, hw⟩; subst w') | (go_at_call 13; (with_reducible show Calls Tryd.prog 13 #[Value.int IntKind.u32 c] _ _); refine ((Hid.out qC) _).mono ?_; rintro e w' ⟨rfl, hw⟩; subst w') | (go_at_call 28; (with_reducible show Calls Tryd.prog 28 #[Value.int IntKind.u32 a] _ _); refine ((Hid.out iA) _).mono ?_; rintro e w' ⟨rfl, hw⟩; subst w') | (go_at_call 28; (with_reducible show Calls Tryd.prog 28 #[Value.int IntKind.u32 b] _ _); refine ((Hid.out iB) _).mono ?_; rintro e w' ⟨rfl, hw⟩; subst w') | (go_at_call 28; (with_reducible show Calls Tryd.prog 28 #[Value.int IntKind.u32 c] _ _); refine ((Hid.out iC) _).mono ?_; rintro e w' ⟨rfl, hw⟩; subst w') | (go_at_call 27; (with_reducible show Calls Tryd.prog 27 #[Value.int IntKind.u32 a] _ _); refine ((Hid.out zA) _).mono ?_; rintro e w' ⟨rfl, hw⟩; subst w') | (go_at_call 27; (with_reducible show Calls Tryd.prog 27 #[Value.int IntKind.u32 b] _ _); refine ((Hid.out zB) _).mono ?_; rintro e w' ⟨rfl, hw⟩; subst w') | (go_at_call 27; (with_reducible show Calls Tryd.prog 27 #[Value.int IntKind.u32 c] _ _); refine ((Hid.out zC) _).mono ?_; rintro e w' ⟨rfl, hw⟩; subst w') | (go_at_call 29; refine (sSigned _ _ (by decide) (by decide) _).mono ?_; rintro e w' ⟨rfl, hw⟩; subst w') | (go_at_call 30; (with_reducible show Calls Tryd.prog 30 #[Value.int IntKind.u32 a] _ _); refine ((Hid.out pA) _).mono ?_; rintro e w' ⟨rfl, hw⟩; subst w') | (go_at_call 30; (with_reducible show Calls Tryd.prog 30 #[Value.int IntKind.u32 b] _ _); refine ((Hid.out pB) _).mono ?_; rintro e w' ⟨rfl, hw⟩; subst w'))
    all_goals go_ret
    all_goals exact ⟨rfl, Below.refl _ _⟩
end
end Go.Proofs.YtoloenkcfpfgcaaDoor.fnExactFuseWords
