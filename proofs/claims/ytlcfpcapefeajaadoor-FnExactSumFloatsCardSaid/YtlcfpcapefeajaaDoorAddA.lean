/- The model's sums of words by the kinds of the two words, what the program's sum and the model's round to, both alike; AddCw of both sides over what these answer. -/
import Derived.Test.YtlcfpcapefeajaaDoorFuseS
import Derived.Deep.RegionHeld3
import Derived.BigQuiet
namespace Go.Proofs.YtlcfpcapefeajaaDoor.fnExactAddWords
open Go.ChangeShapes Go.WideShapes Go.ChangeAt Go.RowKit
open fnExactFuseWords (Tests tests nilB nil83B)
set_option linter.unusedVariables false
theorem s_of (a b mode R : Int) (hm : 0 ≤ mode ∧ mode ≤ 4) (w : World) (hB : Calls Tryd.prog 48 #[.int .u32 a, .int .u32 b, .int .i64 mode] w fun e w' => e = .returned (.int .u32 R) ∧ Below w.heap.size w w') :
    Calls Tryd.prog 48 #[.int .u32 a, .int .u32 b, .int .i64 mode] w fun e w' => e = .returned (.int .u32 R) ∧ Below w.heap.size w w' := hB
theorem i_of (a b mode R : Int) (w : World) (hB : Calls Tryd.prog 49 #[.int .u32 a, .int .u32 1065353216, .int .u32 b, .int .i64 mode] w fun e w' => e = .returned (.int .u32 R) ∧ Below w.heap.size w w') :
    Calls Tryd.prog 31 #[.int .u32 a, .int .u32 b, .int .i64 mode] w fun e w' => e = .returned (.int .u32 R) ∧ Below w.heap.size w w' := by
  go_enter Tryd.func31, Tryd.ntmps31
  go_wp2_with (go_at_call 49; refine hB.mono ?_; rintro e w1 ⟨rfl, hb1⟩)
  go_ret
  exact ⟨rfl, hb1⟩
section
variable (a b mode x y : Int) (SA SB : Bool) (xb : 0 ≤ x ∧ x ≤ 3) (yb : 0 ≤ y ∧ y ≤ 3) (TA : Tests a x SA) (TB : Tests b y SB)
include xb yb TA TB in
set_option maxHeartbeats 4000000 in
theorem s_nan (w : World) (hc : x = 3 ∨ y = 3) : Calls Tryd.prog 48 #[.int .u32 a, .int .u32 b, .int .i64 mode] w fun e w' => e = .returned (.int .u32 2143289344) ∧ Below w.heap.size w w' := by
  have nA : Hid (∀ v : World, Calls Tryd.prog 70 #[.int .u32 a] v fun e w' => e = .returned (.bool SA) ∧ w' = v) := TA.neg
  have qA : Hid (∀ v : World, Calls Tryd.prog 66 #[.int .u32 a] v fun e w' => e = .returned (.bool (decide (x = 3))) ∧ w' = v) := TA.nan
  have iA : Hid (∀ v : World, Calls Tryd.prog 67 #[.int .u32 a] v fun e w' => e = .returned (.bool (decide (x = 2))) ∧ w' = v) := TA.inf
  have zA : Hid (∀ v : World, Calls Tryd.prog 68 #[.int .u32 a] v fun e w' => e = .returned (.bool (decide (x = 0))) ∧ w' = v) := TA.nil
  have nB : Hid (∀ v : World, Calls Tryd.prog 70 #[.int .u32 b] v fun e w' => e = .returned (.bool SB) ∧ w' = v) := TB.neg
  have qB : Hid (∀ v : World, Calls Tryd.prog 66 #[.int .u32 b] v fun e w' => e = .returned (.bool (decide (y = 3))) ∧ w' = v) := TB.nan
  have iB : Hid (∀ v : World, Calls Tryd.prog 67 #[.int .u32 b] v fun e w' => e = .returned (.bool (decide (y = 2))) ∧ w' = v) := TB.inf
  have zB : Hid (∀ v : World, Calls Tryd.prog 68 #[.int .u32 b] v fun e w' => e = .returned (.bool (decide (y = 0))) ∧ w' = v) := TB.nil
  clear TA TB
  all_goals rcases (by omega : x = 0 ∨ x = 1 ∨ x = 2 ∨ x = 3) with rfl | rfl | rfl | rfl <;> rcases (by omega : y = 0 ∨ y = 1 ∨ y = 2 ∨ y = 3) with rfl | rfl | rfl | rfl <;> try (exfalso; omega)
  all_goals
    simp only [Int.reduceEq, decide_true, decide_false] at qA qB iA iB zA zB
    clear hc
    go_enter Tryd.func48, Tryd.ntmps48
    go_wp2_with (first | (go_at_call 70; (with_reducible show Calls Tryd.prog 70 #[Value.int IntKind.u32 a] _ _); refine ((Hid.out nA) _).mono ?_; rintro e w' ⟨rfl, hw⟩; subst w') | (go_at_call 70; (with_reducible show Calls Tryd.prog 70 #[Value.int IntKind.u32 b] _ _); refine ((Hid.out nB) _).mono ?_; rintro e w' ⟨rfl, hw⟩; subst w') | (go_at_call 66; (with_reducible show Calls Tryd.prog 66 #[Value.int IntKind.u32 a] _ _); refine ((Hid.out qA) _).mono ?_; rintro e w' ⟨rfl, hw⟩; subst w') | (go_at_call 66; (with_reducible show Calls Tryd.prog 66 #[Value.int IntKind.u32 b] _ _); refine ((Hid.out qB) _).mono ?_; rintro e w' ⟨rfl, hw⟩; subst w') | (go_at_call 67; (with_reducible show Calls Tryd.prog 67 #[Value.int IntKind.u32 a] _ _); refine ((Hid.out iA) _).mono ?_; rintro e w' ⟨rfl, hw⟩; subst w') | (go_at_call 67; (with_reducible show Calls Tryd.prog 67 #[Value.int IntKind.u32 b] _ _); refine ((Hid.out iB) _).mono ?_; rintro e w' ⟨rfl, hw⟩; subst w') | (go_at_call 68; (with_reducible show Calls Tryd.prog 68 #[Value.int IntKind.u32 a] _ _); refine ((Hid.out zA) _).mono ?_; rintro e w' ⟨rfl, hw⟩; subst w') | (go_at_call 68; (with_reducible show Calls Tryd.prog 68 #[Value.int IntKind.u32 b] _ _); refine ((Hid.out zB) _).mono ?_; rintro e w' ⟨rfl, hw⟩; subst w') | (go_at_call 69; refine (nil83B _ _ _ _).mono ?_; rintro e w' ⟨rfl, hw⟩; subst w'))
    all_goals go_ret
    all_goals exact ⟨rfl, Below.refl _ _⟩
include xb yb TA TB in
set_option maxHeartbeats 4000000 in
theorem s_nan2 (w : World) (hab : ¬ a = b) (hc : x = 2 ∧ y = 2) : Calls Tryd.prog 48 #[.int .u32 a, .int .u32 b, .int .i64 mode] w fun e w' => e = .returned (.int .u32 2143289344) ∧ Below w.heap.size w w' := by
  have nA : Hid (∀ v : World, Calls Tryd.prog 70 #[.int .u32 a] v fun e w' => e = .returned (.bool SA) ∧ w' = v) := TA.neg
  have qA : Hid (∀ v : World, Calls Tryd.prog 66 #[.int .u32 a] v fun e w' => e = .returned (.bool (decide (x = 3))) ∧ w' = v) := TA.nan
  have iA : Hid (∀ v : World, Calls Tryd.prog 67 #[.int .u32 a] v fun e w' => e = .returned (.bool (decide (x = 2))) ∧ w' = v) := TA.inf
  have zA : Hid (∀ v : World, Calls Tryd.prog 68 #[.int .u32 a] v fun e w' => e = .returned (.bool (decide (x = 0))) ∧ w' = v) := TA.nil
  have nB : Hid (∀ v : World, Calls Tryd.prog 70 #[.int .u32 b] v fun e w' => e = .returned (.bool SB) ∧ w' = v) := TB.neg
  have qB : Hid (∀ v : World, Calls Tryd.prog 66 #[.int .u32 b] v fun e w' => e = .returned (.bool (decide (y = 3))) ∧ w' = v) := TB.nan
  have iB : Hid (∀ v : World, Calls Tryd.prog 67 #[.int .u32 b] v fun e w' => e = .returned (.bool (decide (y = 2))) ∧ w' = v) := TB.inf
  have zB : Hid (∀ v : World, Calls Tryd.prog 68 #[.int .u32 b] v fun e w' => e = .returned (.bool (decide (y = 0))) ∧ w' = v) := TB.nil
  clear TA TB
  have hab2 : (a == b) = false := by simpa using hab
  all_goals rcases (by omega : x = 0 ∨ x = 1 ∨ x = 2 ∨ x = 3) with rfl | rfl | rfl | rfl <;> rcases (by omega : y = 0 ∨ y = 1 ∨ y = 2 ∨ y = 3) with rfl | rfl | rfl | rfl <;> try (exfalso; omega)
  all_goals
    simp only [Int.reduceEq, decide_true, decide_false] at qA qB iA iB zA zB
    clear hc
    go_enter Tryd.func48, Tryd.ntmps48
    go_wp2_with (first | (go_at_call 70; (with_reducible show Calls Tryd.prog 70 #[Value.int IntKind.u32 a] _ _); refine ((Hid.out nA) _).mono ?_; rintro e w' ⟨rfl, hw⟩; subst w') | (go_at_call 70; (with_reducible show Calls Tryd.prog 70 #[Value.int IntKind.u32 b] _ _); refine ((Hid.out nB) _).mono ?_; rintro e w' ⟨rfl, hw⟩; subst w') | (go_at_call 66; (with_reducible show Calls Tryd.prog 66 #[Value.int IntKind.u32 a] _ _); refine ((Hid.out qA) _).mono ?_; rintro e w' ⟨rfl, hw⟩; subst w') | (go_at_call 66; (with_reducible show Calls Tryd.prog 66 #[Value.int IntKind.u32 b] _ _); refine ((Hid.out qB) _).mono ?_; rintro e w' ⟨rfl, hw⟩; subst w') | (go_at_call 67; (with_reducible show Calls Tryd.prog 67 #[Value.int IntKind.u32 a] _ _); refine ((Hid.out iA) _).mono ?_; rintro e w' ⟨rfl, hw⟩; subst w') | (go_at_call 67; (with_reducible show Calls Tryd.prog 67 #[Value.int IntKind.u32 b] _ _); refine ((Hid.out iB) _).mono ?_; rintro e w' ⟨rfl, hw⟩; subst w') | (go_at_call 68; (with_reducible show Calls Tryd.prog 68 #[Value.int IntKind.u32 a] _ _); refine ((Hid.out zA) _).mono ?_; rintro e w' ⟨rfl, hw⟩; subst w') | (go_at_call 68; (with_reducible show Calls Tryd.prog 68 #[Value.int IntKind.u32 b] _ _); refine ((Hid.out zB) _).mono ?_; rintro e w' ⟨rfl, hw⟩; subst w') | (go_at_call 69; refine (nil83B _ _ _ _).mono ?_; rintro e w' ⟨rfl, hw⟩; subst w'))
    all_goals go_ret
    all_goals exact ⟨rfl, Below.refl _ _⟩
include xb yb TA TB in
set_option maxHeartbeats 4000000 in
theorem s_infa (w : World) (hc : x = 2 ∧ (y = 0 ∨ y = 1)) : Calls Tryd.prog 48 #[.int .u32 a, .int .u32 b, .int .i64 mode] w fun e w' => e = .returned (.int .u32 a) ∧ Below w.heap.size w w' := by
  have nA : Hid (∀ v : World, Calls Tryd.prog 70 #[.int .u32 a] v fun e w' => e = .returned (.bool SA) ∧ w' = v) := TA.neg
  have qA : Hid (∀ v : World, Calls Tryd.prog 66 #[.int .u32 a] v fun e w' => e = .returned (.bool (decide (x = 3))) ∧ w' = v) := TA.nan
  have iA : Hid (∀ v : World, Calls Tryd.prog 67 #[.int .u32 a] v fun e w' => e = .returned (.bool (decide (x = 2))) ∧ w' = v) := TA.inf
  have zA : Hid (∀ v : World, Calls Tryd.prog 68 #[.int .u32 a] v fun e w' => e = .returned (.bool (decide (x = 0))) ∧ w' = v) := TA.nil
  have nB : Hid (∀ v : World, Calls Tryd.prog 70 #[.int .u32 b] v fun e w' => e = .returned (.bool SB) ∧ w' = v) := TB.neg
  have qB : Hid (∀ v : World, Calls Tryd.prog 66 #[.int .u32 b] v fun e w' => e = .returned (.bool (decide (y = 3))) ∧ w' = v) := TB.nan
  have iB : Hid (∀ v : World, Calls Tryd.prog 67 #[.int .u32 b] v fun e w' => e = .returned (.bool (decide (y = 2))) ∧ w' = v) := TB.inf
  have zB : Hid (∀ v : World, Calls Tryd.prog 68 #[.int .u32 b] v fun e w' => e = .returned (.bool (decide (y = 0))) ∧ w' = v) := TB.nil
  clear TA TB
  all_goals rcases (by omega : x = 0 ∨ x = 1 ∨ x = 2 ∨ x = 3) with rfl | rfl | rfl | rfl <;> rcases (by omega : y = 0 ∨ y = 1 ∨ y = 2 ∨ y = 3) with rfl | rfl | rfl | rfl <;> try (exfalso; omega)
  all_goals
    simp only [Int.reduceEq, decide_true, decide_false] at qA qB iA iB zA zB
    clear hc
    go_enter Tryd.func48, Tryd.ntmps48
    go_wp2_with (first | (go_at_call 70; (with_reducible show Calls Tryd.prog 70 #[Value.int IntKind.u32 a] _ _); refine ((Hid.out nA) _).mono ?_; rintro e w' ⟨rfl, hw⟩; subst w') | (go_at_call 70; (with_reducible show Calls Tryd.prog 70 #[Value.int IntKind.u32 b] _ _); refine ((Hid.out nB) _).mono ?_; rintro e w' ⟨rfl, hw⟩; subst w') | (go_at_call 66; (with_reducible show Calls Tryd.prog 66 #[Value.int IntKind.u32 a] _ _); refine ((Hid.out qA) _).mono ?_; rintro e w' ⟨rfl, hw⟩; subst w') | (go_at_call 66; (with_reducible show Calls Tryd.prog 66 #[Value.int IntKind.u32 b] _ _); refine ((Hid.out qB) _).mono ?_; rintro e w' ⟨rfl, hw⟩; subst w') | (go_at_call 67; (with_reducible show Calls Tryd.prog 67 #[Value.int IntKind.u32 a] _ _); refine ((Hid.out iA) _).mono ?_; rintro e w' ⟨rfl, hw⟩; subst w') | (go_at_call 67; (with_reducible show Calls Tryd.prog 67 #[Value.int IntKind.u32 b] _ _); refine ((Hid.out iB) _).mono ?_; rintro e w' ⟨rfl, hw⟩; subst w') | (go_at_call 68; (with_reducible show Calls Tryd.prog 68 #[Value.int IntKind.u32 a] _ _); refine ((Hid.out zA) _).mono ?_; rintro e w' ⟨rfl, hw⟩; subst w') | (go_at_call 68; (with_reducible show Calls Tryd.prog 68 #[Value.int IntKind.u32 b] _ _); refine ((Hid.out zB) _).mono ?_; rintro e w' ⟨rfl, hw⟩; subst w') | (go_at_call 69; refine (nil83B _ _ _ _).mono ?_; rintro e w' ⟨rfl, hw⟩; subst w'))
    all_goals go_ret
    all_goals exact ⟨rfl, Below.refl _ _⟩
include xb yb TA TB in
set_option maxHeartbeats 4000000 in
theorem s_infb (w : World) (hc : (x = 0 ∨ x = 1) ∧ y = 2) : Calls Tryd.prog 48 #[.int .u32 a, .int .u32 b, .int .i64 mode] w fun e w' => e = .returned (.int .u32 b) ∧ Below w.heap.size w w' := by
  have nA : Hid (∀ v : World, Calls Tryd.prog 70 #[.int .u32 a] v fun e w' => e = .returned (.bool SA) ∧ w' = v) := TA.neg
  have qA : Hid (∀ v : World, Calls Tryd.prog 66 #[.int .u32 a] v fun e w' => e = .returned (.bool (decide (x = 3))) ∧ w' = v) := TA.nan
  have iA : Hid (∀ v : World, Calls Tryd.prog 67 #[.int .u32 a] v fun e w' => e = .returned (.bool (decide (x = 2))) ∧ w' = v) := TA.inf
  have zA : Hid (∀ v : World, Calls Tryd.prog 68 #[.int .u32 a] v fun e w' => e = .returned (.bool (decide (x = 0))) ∧ w' = v) := TA.nil
  have nB : Hid (∀ v : World, Calls Tryd.prog 70 #[.int .u32 b] v fun e w' => e = .returned (.bool SB) ∧ w' = v) := TB.neg
  have qB : Hid (∀ v : World, Calls Tryd.prog 66 #[.int .u32 b] v fun e w' => e = .returned (.bool (decide (y = 3))) ∧ w' = v) := TB.nan
  have iB : Hid (∀ v : World, Calls Tryd.prog 67 #[.int .u32 b] v fun e w' => e = .returned (.bool (decide (y = 2))) ∧ w' = v) := TB.inf
  have zB : Hid (∀ v : World, Calls Tryd.prog 68 #[.int .u32 b] v fun e w' => e = .returned (.bool (decide (y = 0))) ∧ w' = v) := TB.nil
  clear TA TB
  all_goals rcases (by omega : x = 0 ∨ x = 1 ∨ x = 2 ∨ x = 3) with rfl | rfl | rfl | rfl <;> rcases (by omega : y = 0 ∨ y = 1 ∨ y = 2 ∨ y = 3) with rfl | rfl | rfl | rfl <;> try (exfalso; omega)
  all_goals
    simp only [Int.reduceEq, decide_true, decide_false] at qA qB iA iB zA zB
    clear hc
    go_enter Tryd.func48, Tryd.ntmps48
    go_wp2_with (first | (go_at_call 70; (with_reducible show Calls Tryd.prog 70 #[Value.int IntKind.u32 a] _ _); refine ((Hid.out nA) _).mono ?_; rintro e w' ⟨rfl, hw⟩; subst w') | (go_at_call 70; (with_reducible show Calls Tryd.prog 70 #[Value.int IntKind.u32 b] _ _); refine ((Hid.out nB) _).mono ?_; rintro e w' ⟨rfl, hw⟩; subst w') | (go_at_call 66; (with_reducible show Calls Tryd.prog 66 #[Value.int IntKind.u32 a] _ _); refine ((Hid.out qA) _).mono ?_; rintro e w' ⟨rfl, hw⟩; subst w') | (go_at_call 66; (with_reducible show Calls Tryd.prog 66 #[Value.int IntKind.u32 b] _ _); refine ((Hid.out qB) _).mono ?_; rintro e w' ⟨rfl, hw⟩; subst w') | (go_at_call 67; (with_reducible show Calls Tryd.prog 67 #[Value.int IntKind.u32 a] _ _); refine ((Hid.out iA) _).mono ?_; rintro e w' ⟨rfl, hw⟩; subst w') | (go_at_call 67; (with_reducible show Calls Tryd.prog 67 #[Value.int IntKind.u32 b] _ _); refine ((Hid.out iB) _).mono ?_; rintro e w' ⟨rfl, hw⟩; subst w') | (go_at_call 68; (with_reducible show Calls Tryd.prog 68 #[Value.int IntKind.u32 a] _ _); refine ((Hid.out zA) _).mono ?_; rintro e w' ⟨rfl, hw⟩; subst w') | (go_at_call 68; (with_reducible show Calls Tryd.prog 68 #[Value.int IntKind.u32 b] _ _); refine ((Hid.out zB) _).mono ?_; rintro e w' ⟨rfl, hw⟩; subst w') | (go_at_call 69; refine (nil83B _ _ _ _).mono ?_; rintro e w' ⟨rfl, hw⟩; subst w'))
    all_goals go_ret
    all_goals exact ⟨rfl, Below.refl _ _⟩
include xb yb TA TB in
set_option maxHeartbeats 4000000 in
theorem s_nn (w : World) (hc : x = 0 ∧ y = 0) : Calls Tryd.prog 48 #[.int .u32 a, .int .u32 b, .int .i64 mode] w fun e w' => e = .returned (.int .u32 (sgn_w (nilB SA SB mode) 0)) ∧ Below w.heap.size w w' := by
  have nA : Hid (∀ v : World, Calls Tryd.prog 70 #[.int .u32 a] v fun e w' => e = .returned (.bool SA) ∧ w' = v) := TA.neg
  have qA : Hid (∀ v : World, Calls Tryd.prog 66 #[.int .u32 a] v fun e w' => e = .returned (.bool (decide (x = 3))) ∧ w' = v) := TA.nan
  have iA : Hid (∀ v : World, Calls Tryd.prog 67 #[.int .u32 a] v fun e w' => e = .returned (.bool (decide (x = 2))) ∧ w' = v) := TA.inf
  have zA : Hid (∀ v : World, Calls Tryd.prog 68 #[.int .u32 a] v fun e w' => e = .returned (.bool (decide (x = 0))) ∧ w' = v) := TA.nil
  have nB : Hid (∀ v : World, Calls Tryd.prog 70 #[.int .u32 b] v fun e w' => e = .returned (.bool SB) ∧ w' = v) := TB.neg
  have qB : Hid (∀ v : World, Calls Tryd.prog 66 #[.int .u32 b] v fun e w' => e = .returned (.bool (decide (y = 3))) ∧ w' = v) := TB.nan
  have iB : Hid (∀ v : World, Calls Tryd.prog 67 #[.int .u32 b] v fun e w' => e = .returned (.bool (decide (y = 2))) ∧ w' = v) := TB.inf
  have zB : Hid (∀ v : World, Calls Tryd.prog 68 #[.int .u32 b] v fun e w' => e = .returned (.bool (decide (y = 0))) ∧ w' = v) := TB.nil
  clear TA TB
  all_goals rcases (by omega : x = 0 ∨ x = 1 ∨ x = 2 ∨ x = 3) with rfl | rfl | rfl | rfl <;> rcases (by omega : y = 0 ∨ y = 1 ∨ y = 2 ∨ y = 3) with rfl | rfl | rfl | rfl <;> try (exfalso; omega)
  all_goals
    simp only [Int.reduceEq, decide_true, decide_false] at qA qB iA iB zA zB
    clear hc
    go_enter Tryd.func48, Tryd.ntmps48
    go_wp2_with (first | (go_at_call 70; (with_reducible show Calls Tryd.prog 70 #[Value.int IntKind.u32 a] _ _); refine ((Hid.out nA) _).mono ?_; rintro e w' ⟨rfl, hw⟩; subst w') | (go_at_call 70; (with_reducible show Calls Tryd.prog 70 #[Value.int IntKind.u32 b] _ _); refine ((Hid.out nB) _).mono ?_; rintro e w' ⟨rfl, hw⟩; subst w') | (go_at_call 66; (with_reducible show Calls Tryd.prog 66 #[Value.int IntKind.u32 a] _ _); refine ((Hid.out qA) _).mono ?_; rintro e w' ⟨rfl, hw⟩; subst w') | (go_at_call 66; (with_reducible show Calls Tryd.prog 66 #[Value.int IntKind.u32 b] _ _); refine ((Hid.out qB) _).mono ?_; rintro e w' ⟨rfl, hw⟩; subst w') | (go_at_call 67; (with_reducible show Calls Tryd.prog 67 #[Value.int IntKind.u32 a] _ _); refine ((Hid.out iA) _).mono ?_; rintro e w' ⟨rfl, hw⟩; subst w') | (go_at_call 67; (with_reducible show Calls Tryd.prog 67 #[Value.int IntKind.u32 b] _ _); refine ((Hid.out iB) _).mono ?_; rintro e w' ⟨rfl, hw⟩; subst w') | (go_at_call 68; (with_reducible show Calls Tryd.prog 68 #[Value.int IntKind.u32 a] _ _); refine ((Hid.out zA) _).mono ?_; rintro e w' ⟨rfl, hw⟩; subst w') | (go_at_call 68; (with_reducible show Calls Tryd.prog 68 #[Value.int IntKind.u32 b] _ _); refine ((Hid.out zB) _).mono ?_; rintro e w' ⟨rfl, hw⟩; subst w') | (go_at_call 69; refine (nil83B _ _ _ _).mono ?_; rintro e w' ⟨rfl, hw⟩; subst w'))
    all_goals go_ret
    all_goals exact ⟨rfl, Below.refl _ _⟩
end
theorem s_infaa (a mode : Int) (SA : Bool) (TA : Tests a 2 SA) (w : World) : Calls Tryd.prog 48 #[.int .u32 a, .int .u32 a, .int .i64 mode] w fun e w' => e = .returned (.int .u32 a) ∧ Below w.heap.size w w' := by
  have qA : Hid (∀ v : World, Calls Tryd.prog 66 #[.int .u32 a] v fun e w' => e = .returned (.bool (decide ((2 : Int) = 3))) ∧ w' = v) := TA.nan
  have iA : Hid (∀ v : World, Calls Tryd.prog 67 #[.int .u32 a] v fun e w' => e = .returned (.bool (decide ((2 : Int) = 2))) ∧ w' = v) := TA.inf
  simp only [Int.reduceEq, decide_true, decide_false] at qA iA
  go_enter Tryd.func48, Tryd.ntmps48
  go_wp2_with (first | (go_at_call 66; refine ((Hid.out qA) _).mono ?_; rintro e w' ⟨rfl, hw⟩; subst w') | (go_at_call 67; refine ((Hid.out iA) _).mono ?_; rintro e w' ⟨rfl, hw⟩; subst w'))
  go_ret
  exact ⟨rfl, Below.refl _ _⟩
section
variable (a b mode x y : Int) (SA SB : Bool) (xb : 0 ≤ x ∧ x ≤ 3) (yb : 0 ≤ y ∧ y ≤ 3) (TA : Tests a x SA) (TB : Tests b y SB)
include xb yb TA TB in
set_option maxHeartbeats 4000000 in
theorem s_sum (w : World) (m n e k : Int) (pA : Hid (∀ v : World, Calls Tryd.prog 71 #[.int .u32 a] v fun e' w' => e' = .returned (.tuple #[.int .i64 m, .int .i64 e]) ∧ w' = v)) (pB : Hid (∀ v : World, Calls Tryd.prog 71 #[.int .u32 b] v fun e' w' => e' = .returned (.tuple #[.int .i64 n, .int .i64 k]) ∧ w' = v)) (F : Int) (X0 : -16777216 < m) (X1 : m < 16777216) (s0 : -16777216 < n) (s1 : n < 16777216) (T : Int)
    (HPl : Hid (∀ v : World, Calls Tryd.prog 72 #[.agg #[.int .i64 m, .bool false, .slice none 0 0, .int .i64 1, .bool false, .slice none 0 0, .int .i64 e], .agg #[.int .i64 n, .bool false, .slice none 0 0, .int .i64 1, .bool false, .slice none 0 0, .int .i64 k]] v fun e w' => ∃ V g pp l c, e = .returned (.agg #[.int .i64 V, .bool g, .slice pp l c, .int .i64 1, .bool false, .slice none 0 0, .int .i64 F]) ∧ Num w' 200 (.agg #[.int .i64 V, .bool g, .slice pp l c]) T ∧ Below v.heap.size v w')) (hT : T ≠ 0) (R : Int) (r0 : 0 ≤ R) (r1 : R < 4294967296)
    (HT : Hid (∀ (v : World) (K : Nat) (VP : Int) (gP : Bool) (pP : Option Addr) (lP cP : Nat), Num v K (.agg #[.int .i64 VP, .bool gP, .slice pP lP cP]) T → 2 ≤ K → K ≤ 9000 → Calls Tryd.prog 75 #[.agg #[.int .i64 VP, .bool gP, .slice pP lP cP, .int .i64 1, .bool false, .slice none 0 0, .int .i64 F], .agg #[.int .i64 24, .int .i64 (-149), .int .i64 104], .int .i64 mode] v fun e w' => e = .returned (.int .i64 R) ∧ Below v.heap.size v w')) (hc : (x = 0 ∨ x = 1) ∧ (y = 0 ∨ y = 1) ∧ ¬ (x = 0 ∧ y = 0)) : Calls Tryd.prog 48 #[.int .u32 a, .int .u32 b, .int .i64 mode] w fun e w' => e = .returned (.int .u32 R) ∧ Below w.heap.size w w' := by
  have nA : Hid (∀ v : World, Calls Tryd.prog 70 #[.int .u32 a] v fun e w' => e = .returned (.bool SA) ∧ w' = v) := TA.neg
  have qA : Hid (∀ v : World, Calls Tryd.prog 66 #[.int .u32 a] v fun e w' => e = .returned (.bool (decide (x = 3))) ∧ w' = v) := TA.nan
  have iA : Hid (∀ v : World, Calls Tryd.prog 67 #[.int .u32 a] v fun e w' => e = .returned (.bool (decide (x = 2))) ∧ w' = v) := TA.inf
  have zA : Hid (∀ v : World, Calls Tryd.prog 68 #[.int .u32 a] v fun e w' => e = .returned (.bool (decide (x = 0))) ∧ w' = v) := TA.nil
  have nB : Hid (∀ v : World, Calls Tryd.prog 70 #[.int .u32 b] v fun e w' => e = .returned (.bool SB) ∧ w' = v) := TB.neg
  have qB : Hid (∀ v : World, Calls Tryd.prog 66 #[.int .u32 b] v fun e w' => e = .returned (.bool (decide (y = 3))) ∧ w' = v) := TB.nan
  have iB : Hid (∀ v : World, Calls Tryd.prog 67 #[.int .u32 b] v fun e w' => e = .returned (.bool (decide (y = 2))) ∧ w' = v) := TB.inf
  have zB : Hid (∀ v : World, Calls Tryd.prog 68 #[.int .u32 b] v fun e w' => e = .returned (.bool (decide (y = 0))) ∧ w' = v) := TB.nil
  clear TA TB
  have hwR : IntKind.u32.wrap R = R := by rw [IntKind.wrap_u32]; exact Int.emod_eq_of_lt r0 r1
  all_goals rcases (by omega : x = 0 ∨ x = 1 ∨ x = 2 ∨ x = 3) with rfl | rfl | rfl | rfl <;> rcases (by omega : y = 0 ∨ y = 1 ∨ y = 2 ∨ y = 3) with rfl | rfl | rfl | rfl <;> try (exfalso; omega)
  all_goals
    simp only [Int.reduceEq, decide_true, decide_false] at qA qB iA iB zA zB
    clear hc
    go_enter Tryd.func48, Tryd.ntmps48
    go_wp2_with (first | (go_at_call 70; (with_reducible show Calls Tryd.prog 70 #[Value.int IntKind.u32 a] _ _); refine ((Hid.out nA) _).mono ?_; rintro e w' ⟨rfl, hw⟩; subst w') | (go_at_call 70; (with_reducible show Calls Tryd.prog 70 #[Value.int IntKind.u32 b] _ _); refine ((Hid.out nB) _).mono ?_; rintro e w' ⟨rfl, hw⟩; subst w') | (go_at_call 66; (with_reducible show Calls Tryd.prog 66 #[Value.int IntKind.u32 a] _ _); refine ((Hid.out qA) _).mono ?_; rintro e w' ⟨rfl, hw⟩; subst w') | (go_at_call 66; (with_reducible show Calls Tryd.prog 66 #[Value.int IntKind.u32 b] _ _); refine ((Hid.out qB) _).mono ?_; rintro e w' ⟨rfl, hw⟩; subst w') | (go_at_call 67; (with_reducible show Calls Tryd.prog 67 #[Value.int IntKind.u32 a] _ _); refine ((Hid.out iA) _).mono ?_; rintro e w' ⟨rfl, hw⟩; subst w') | (go_at_call 67; (with_reducible show Calls Tryd.prog 67 #[Value.int IntKind.u32 b] _ _); refine ((Hid.out iB) _).mono ?_; rintro e w' ⟨rfl, hw⟩; subst w') | (go_at_call 68; (with_reducible show Calls Tryd.prog 68 #[Value.int IntKind.u32 a] _ _); refine ((Hid.out zA) _).mono ?_; rintro e w' ⟨rfl, hw⟩; subst w') | (go_at_call 68; (with_reducible show Calls Tryd.prog 68 #[Value.int IntKind.u32 b] _ _); refine ((Hid.out zB) _).mono ?_; rintro e w' ⟨rfl, hw⟩; subst w') | (go_at_call 69; refine (nil83B _ _ _ _).mono ?_; rintro e w' ⟨rfl, hw⟩; subst w') | (go_at_call 71; (with_reducible show Calls Tryd.prog 71 #[Value.int IntKind.u32 a] _ _); refine ((Hid.out pA) _).mono ?_; rintro e w' ⟨rfl, hw⟩; subst w') | (go_at_call 71; (with_reducible show Calls Tryd.prog 71 #[Value.int IntKind.u32 b] _ _); refine ((Hid.out pB) _).mono ?_; rintro e w' ⟨rfl, hw⟩; subst w') | (go_at_call 73; (with_reducible show Calls Tryd.prog 73 #[Value.int IntKind.i64 m, Value.int IntKind.i64 e] w _); refine (zExact m e (by omega) (by omega) w).mono ?_; rintro e w1 ⟨rfl, hb1⟩) | (go_at_call 73; (with_reducible show Calls Tryd.prog 73 #[Value.int IntKind.i64 n, Value.int IntKind.i64 k] w1 _); refine (zExact n k (by omega) (by omega) w1).mono ?_; rintro e w2 ⟨rfl, hb2⟩) | (go_at_call 72; refine ((Hid.out HPl) w2).mono ?_; rintro e w3 ⟨V, g, pp, l, cc, rfl, N3, hb3⟩; (have q2 := hb1.trans (hb2.mono hb1.size)); (have q3 := q2.trans (hb3.mono q2.size))))
    all_goals
      obtain ⟨W, hW⟩ : ∃ W, W = w3.alloc (.cells #[.int .i64 V, .bool g, .slice pp l cc, .int .i64 1, .bool false, .slice none 0 0, .int .i64 F] 92) := ⟨_, rfl⟩
      have zW : w3.heap.size < W.heap.size := by rw [hW]; simp
      have N3W : Below w3.heap.size w3 W := by rw [hW]; exact (Below.refl _ _).alloc (Nat.le_refl _) _
      have NW : Num W 200 (.agg #[.int .i64 V, .bool g, .slice pp l cc]) T := N3.next N3W
      have PW : W.heap[w3.heap.size]? = some (.cells #[.int .i64 V, .bool g, .slice pp l cc, .int .i64 1, .bool false, .slice none 0 0, .int .i64 F] 92 (0, 0)) := by rw [hW]; exact heap_alloc_new _ _
      have bW : Below w.heap.size w W := q3.trans (N3W.mono q3.size)
      (try rw [← hW])
      have hz85 := num_zero NW
      rw [decide_eq_false hT] at hz85
      obtain ⟨⟨o0, o1, o2, o3, o4, o5, o6⟩, _⟩ := blk7 PW
      clear hW N3 hb1 hb2 hb3 q2 q3 N3W
      go_wp2_with (go_at_call 74; refine hz85.mono ?_; rintro e w6 ⟨rfl, hb6⟩; (have z6 := hb6.size); (have N6 := NW.next hb6); (have P6 := (hb6.block w3.heap.size zW).trans PW); obtain ⟨⟨p0, p1, p2, p3, p4, p5, p6⟩, _⟩ := blk7 P6)
      go_region_held3 (fun v => v.cell? ⟨w3.heap.size, 0, none⟩ = some (.int .i64 V) ∧ v.cell? ⟨w3.heap.size, 1, none⟩ = some (.bool g) ∧ v.cell? ⟨w3.heap.size, 2, none⟩ = some (.slice pp l cc) ∧ v.cell? ⟨w3.heap.size, 3, none⟩ = some (.int .i64 1) ∧ v.cell? ⟨w3.heap.size, 4, none⟩ = some (.bool false) ∧ v.cell? ⟨w3.heap.size, 5, none⟩ = some (.slice none 0 0) ∧ v.cell? ⟨w3.heap.size, 6, none⟩ = some (.int .i64 F)) (first | with_reducible exact ⟨p0, p1, p2, p3, p4, p5, p6⟩ | with_reducible exact ⟨t0, t1, t2, t3, t4, t5, t6⟩ | with_reducible exact ⟨u0, u1, u2, u3, u4, u5, u6⟩ | (go_keep; done)) (first | (go_at_call 76; refine (zWord _).mono ?_; rintro e w7 ⟨rfl, hb7⟩; (have hb7' : Below w6.heap.size w6 w7 := ⟨hb7.os, hb7.tape, hb7.output, hb7.size, hb7.block⟩); (have z7 := hb7'.size); (have N7 := N6.next hb7'); (have P7 := (hb7'.block w3.heap.size (by omega)).trans P6); obtain ⟨⟨t0, t1, t2, t3, t4, t5, t6⟩, _⟩ := blk7 P7) | (go_at_call 75; refine ((Hid.out HT) w7 200 V g pp l cc N7 (by decide) (by decide)).mono ?_; rintro e w8 ⟨rfl, hb8⟩; (have P8 := (hb8.block w3.heap.size (by omega)).trans P7); obtain ⟨⟨u0, u1, u2, u3, u4, u5, u6⟩, _⟩ := blk7 P8))
      all_goals go_wp2
      all_goals go_ret
      all_goals exact ⟨by first | rfl | (show Ending.returned (.int .u32 (IntKind.u32.wrap R)) = _; rw [hwR]), ((bW.trans (hb6.mono bW.size)).trans (hb7'.mono (Nat.le_trans bW.size hb6.size))).trans (hb8.mono (Nat.le_trans bW.size (Nat.le_trans hb6.size hb7'.size)))⟩
include xb yb TA TB in
set_option maxHeartbeats 4000000 in
theorem s_sum0 (w : World) (m n e k : Int) (pA : Hid (∀ v : World, Calls Tryd.prog 71 #[.int .u32 a] v fun e' w' => e' = .returned (.tuple #[.int .i64 m, .int .i64 e]) ∧ w' = v)) (pB : Hid (∀ v : World, Calls Tryd.prog 71 #[.int .u32 b] v fun e' w' => e' = .returned (.tuple #[.int .i64 n, .int .i64 k]) ∧ w' = v)) (F : Int) (X0 : -16777216 < m) (X1 : m < 16777216) (s0 : -16777216 < n) (s1 : n < 16777216) (T : Int)
    (HPl : Hid (∀ v : World, Calls Tryd.prog 72 #[.agg #[.int .i64 m, .bool false, .slice none 0 0, .int .i64 1, .bool false, .slice none 0 0, .int .i64 e], .agg #[.int .i64 n, .bool false, .slice none 0 0, .int .i64 1, .bool false, .slice none 0 0, .int .i64 k]] v fun e w' => ∃ V g pp l c, e = .returned (.agg #[.int .i64 V, .bool g, .slice pp l c, .int .i64 1, .bool false, .slice none 0 0, .int .i64 F]) ∧ Num w' 200 (.agg #[.int .i64 V, .bool g, .slice pp l c]) T ∧ Below v.heap.size v w')) (hT : T = 0) (hc : (x = 0 ∨ x = 1) ∧ (y = 0 ∨ y = 1) ∧ ¬ (x = 0 ∧ y = 0)) : Calls Tryd.prog 48 #[.int .u32 a, .int .u32 b, .int .i64 mode] w fun e w' => e = .returned (.int .u32 (sgn_w (decide (mode = 4)) 0)) ∧ Below w.heap.size w w' := by
  have nA : Hid (∀ v : World, Calls Tryd.prog 70 #[.int .u32 a] v fun e w' => e = .returned (.bool SA) ∧ w' = v) := TA.neg
  have qA : Hid (∀ v : World, Calls Tryd.prog 66 #[.int .u32 a] v fun e w' => e = .returned (.bool (decide (x = 3))) ∧ w' = v) := TA.nan
  have iA : Hid (∀ v : World, Calls Tryd.prog 67 #[.int .u32 a] v fun e w' => e = .returned (.bool (decide (x = 2))) ∧ w' = v) := TA.inf
  have zA : Hid (∀ v : World, Calls Tryd.prog 68 #[.int .u32 a] v fun e w' => e = .returned (.bool (decide (x = 0))) ∧ w' = v) := TA.nil
  have nB : Hid (∀ v : World, Calls Tryd.prog 70 #[.int .u32 b] v fun e w' => e = .returned (.bool SB) ∧ w' = v) := TB.neg
  have qB : Hid (∀ v : World, Calls Tryd.prog 66 #[.int .u32 b] v fun e w' => e = .returned (.bool (decide (y = 3))) ∧ w' = v) := TB.nan
  have iB : Hid (∀ v : World, Calls Tryd.prog 67 #[.int .u32 b] v fun e w' => e = .returned (.bool (decide (y = 2))) ∧ w' = v) := TB.inf
  have zB : Hid (∀ v : World, Calls Tryd.prog 68 #[.int .u32 b] v fun e w' => e = .returned (.bool (decide (y = 0))) ∧ w' = v) := TB.nil
  clear TA TB
  all_goals rcases (by omega : x = 0 ∨ x = 1 ∨ x = 2 ∨ x = 3) with rfl | rfl | rfl | rfl <;> rcases (by omega : y = 0 ∨ y = 1 ∨ y = 2 ∨ y = 3) with rfl | rfl | rfl | rfl <;> try (exfalso; omega)
  all_goals
    simp only [Int.reduceEq, decide_true, decide_false] at qA qB iA iB zA zB
    clear hc
    go_enter Tryd.func48, Tryd.ntmps48
    go_wp2_with (first | (go_at_call 70; (with_reducible show Calls Tryd.prog 70 #[Value.int IntKind.u32 a] _ _); refine ((Hid.out nA) _).mono ?_; rintro e w' ⟨rfl, hw⟩; subst w') | (go_at_call 70; (with_reducible show Calls Tryd.prog 70 #[Value.int IntKind.u32 b] _ _); refine ((Hid.out nB) _).mono ?_; rintro e w' ⟨rfl, hw⟩; subst w') | (go_at_call 66; (with_reducible show Calls Tryd.prog 66 #[Value.int IntKind.u32 a] _ _); refine ((Hid.out qA) _).mono ?_; rintro e w' ⟨rfl, hw⟩; subst w') | (go_at_call 66; (with_reducible show Calls Tryd.prog 66 #[Value.int IntKind.u32 b] _ _); refine ((Hid.out qB) _).mono ?_; rintro e w' ⟨rfl, hw⟩; subst w') | (go_at_call 67; (with_reducible show Calls Tryd.prog 67 #[Value.int IntKind.u32 a] _ _); refine ((Hid.out iA) _).mono ?_; rintro e w' ⟨rfl, hw⟩; subst w') | (go_at_call 67; (with_reducible show Calls Tryd.prog 67 #[Value.int IntKind.u32 b] _ _); refine ((Hid.out iB) _).mono ?_; rintro e w' ⟨rfl, hw⟩; subst w') | (go_at_call 68; (with_reducible show Calls Tryd.prog 68 #[Value.int IntKind.u32 a] _ _); refine ((Hid.out zA) _).mono ?_; rintro e w' ⟨rfl, hw⟩; subst w') | (go_at_call 68; (with_reducible show Calls Tryd.prog 68 #[Value.int IntKind.u32 b] _ _); refine ((Hid.out zB) _).mono ?_; rintro e w' ⟨rfl, hw⟩; subst w') | (go_at_call 69; refine (nil83B _ _ _ _).mono ?_; rintro e w' ⟨rfl, hw⟩; subst w') | (go_at_call 71; (with_reducible show Calls Tryd.prog 71 #[Value.int IntKind.u32 a] _ _); refine ((Hid.out pA) _).mono ?_; rintro e w' ⟨rfl, hw⟩; subst w') | (go_at_call 71; (with_reducible show Calls Tryd.prog 71 #[Value.int IntKind.u32 b] _ _); refine ((Hid.out pB) _).mono ?_; rintro e w' ⟨rfl, hw⟩; subst w') | (go_at_call 73; (with_reducible show Calls Tryd.prog 73 #[Value.int IntKind.i64 m, Value.int IntKind.i64 e] w _); refine (zExact m e (by omega) (by omega) w).mono ?_; rintro e w1 ⟨rfl, hb1⟩) | (go_at_call 73; (with_reducible show Calls Tryd.prog 73 #[Value.int IntKind.i64 n, Value.int IntKind.i64 k] w1 _); refine (zExact n k (by omega) (by omega) w1).mono ?_; rintro e w2 ⟨rfl, hb2⟩) | (go_at_call 72; refine ((Hid.out HPl) w2).mono ?_; rintro e w3 ⟨V, g, pp, l, cc, rfl, N3, hb3⟩; (have q2 := hb1.trans (hb2.mono hb1.size)); (have q3 := q2.trans (hb3.mono q2.size))))
    all_goals
      obtain ⟨W, hW⟩ : ∃ W, W = w3.alloc (.cells #[.int .i64 V, .bool g, .slice pp l cc, .int .i64 1, .bool false, .slice none 0 0, .int .i64 F] 92) := ⟨_, rfl⟩
      have zW : w3.heap.size < W.heap.size := by rw [hW]; simp
      have N3W : Below w3.heap.size w3 W := by rw [hW]; exact (Below.refl _ _).alloc (Nat.le_refl _) _
      have NW : Num W 200 (.agg #[.int .i64 V, .bool g, .slice pp l cc]) T := N3.next N3W
      have PW : W.heap[w3.heap.size]? = some (.cells #[.int .i64 V, .bool g, .slice pp l cc, .int .i64 1, .bool false, .slice none 0 0, .int .i64 F] 92 (0, 0)) := by rw [hW]; exact heap_alloc_new _ _
      have bW : Below w.heap.size w W := q3.trans (N3W.mono q3.size)
      (try rw [← hW])
      have hz85 := num_zero NW
      rw [decide_eq_true hT] at hz85
      obtain ⟨⟨o0, o1, o2, o3, o4, o5, o6⟩, _⟩ := blk7 PW
      clear hW N3 hb1 hb2 hb3 q2 q3 N3W
      go_wp2_with (first | (go_at_call 74; refine hz85.mono ?_; rintro e w6 ⟨rfl, hb6⟩) | (go_at_call 69; refine (nil83B false true mode _).mono ?_; rintro e w' ⟨rfl, hw⟩; subst w'))
      go_ret
      exact ⟨rfl, bW.trans (hb6.mono bW.size)⟩
end
theorem cross_div (a d a' d' : Nat) (h : a * d' = a' * d) (hd : 0 < d) (hd' : 0 < d') : a / d = a' / d' ∧ (a % d = 0 ↔ a' % d' = 0) := by
  have e1 : a / d = (a * d') / (d * d') := (Nat.mul_div_mul_right a d hd').symm
  have e2 : a' / d' = (a' * d) / (d' * d) := (Nat.mul_div_mul_right a' d' hd).symm
  have m1 : (a * d') % (d * d') = (a % d) * d' := Nat.mul_mod_mul_right d' a d
  have m2 : (a' * d) % (d' * d) = (a' % d') * d := Nat.mul_mod_mul_right d a' d'
  refine ⟨by rw [e1, e2, h, Nat.mul_comm d d'], ?_⟩
  rw [h, Nat.mul_comm d d', m2] at m1
  constructor
  · intro h0
    rw [h0, Nat.zero_mul] at m1
    rcases Nat.mul_eq_zero.mp m1 with q | q
    · exact q
    · omega
  · intro h0
    rw [h0, Nat.zero_mul] at m1
    rcases Nat.mul_eq_zero.mp m1.symm with q | q
    · exact q
    · omega
/-- The same fraction in other words: the same quotient, and nothing left over in both or in none. -/
theorem frac_same (N D N' D' : Nat) (p : Int) (h : N * D' = N' * D) (hd : 0 < D) (hd' : 0 < D') : sa N p / sb D p = sa N' p / sb D' p ∧ (sa N p % sb D p = 0 ↔ sa N' p % sb D' p = 0) := by
  refine cross_div _ _ _ _ ?_ ?_ ?_
  · unfold sa sb
    rw [Nat.mul_mul_mul_comm N _ D' _, Nat.mul_mul_mul_comm N' _ D _, h]
  · unfold sb; exact Nat.mul_pos hd (p2 _)
  · unfold sb; exact Nat.mul_pos hd' (p2 _)
/-- A number and a power, and another number and power of the same worth: the program rounds the one as the model tells the other. -/
theorem one_both (n : Bool) (z : Nat) (P mode : Int) (m0 : 0 ≤ mode) (m4 : mode ≤ 4) (z0 : 0 < z) (z1 : z < 18446744073709551616) (p0 : -1000 ≤ P) (p1 : P ≤ 800) (T F : Int) (T0 : T ≠ 0) (f0 : -1000 ≤ F) (f1 : F ≤ 800) (hn : decide (T < 0) = n) (big : T.natAbs * 2 ^ F.toNat < 1000000000 ^ 60)
    (h : T.natAbs * 2 ^ F.toNat * 2 ^ (-P).toNat = z * 2 ^ P.toNat * 2 ^ (-F).toNat) :
    ∃ R : Int, 0 ≤ R ∧ R < 4294967296 ∧
      (∀ v : World, Forms v → Calls Tryd.prog 56 #[.agg #[.bool n, .int .u64 (z : Int), .int .i64 P, .bool false], .int .i64 0, .int .i64 mode] v fun e w' => e = .returned (.int .u32 R) ∧ Below v.heap.size v w') ∧
      (∀ (v : World) (K L : Nat) (VP VQ : Int) (gP gQ : Bool) (pP pQ : Option Addr) (lP cP lQ cQ : Nat), Num v K (.agg #[.int .i64 VP, .bool gP, .slice pP lP cP]) T → Num v L (.agg #[.int .i64 VQ, .bool gQ, .slice pQ lQ cQ]) 1 → 2 ≤ K → K ≤ 9000 →
        Calls Tryd.prog 75 #[.agg #[.int .i64 VP, .bool gP, .slice pP lP cP, .int .i64 VQ, .bool gQ, .slice pQ lQ cQ, .int .i64 F], .agg #[.int .i64 24, .int .i64 (-149), .int .i64 104], .int .i64 mode] v fun e w' => e = .returned (.int .i64 R) ∧ Below v.heap.size v w') := by
  obtain ⟨f1', f2'⟩ := frac_same (T.natAbs * 2 ^ F.toNat) (1 * 2 ^ (-F).toNat) (z * 2 ^ P.toNat) (1 * 2 ^ (-P).toNat) P (by rw [Nat.one_mul, Nat.one_mul]; exact h) (Nat.mul_pos (by decide) (p2 _)) (Nat.mul_pos (by decide) (p2 _))
  obtain ⟨g1, g2⟩ := exact_z z P
  exact both_w n z P false mode m0 m4 z0 z1 (by omega) (by omega) T 1 F T0 f0 (by omega) (T.natAbs * 2 ^ F.toNat) (1 * 2 ^ (-F).toNat) T.natAbs 1 rfl rfl rfl rfl (by decide) big (big_lt 1 _ (by decide) (by omega)) hn (f1'.trans g1) (by rw [f2'.mpr g2]; rfl) (fun h => by cases h)
/-- The sum of two numbers above 0, the first of them taken 2^23 times with a power less by 23: the program's roundSum and the model's l1Told of the plain sum answer alike. -/
theorem add_both (nx ny : Bool) (s t : Nat) (p q mode : Int) (m0 : 0 ≤ mode) (m4 : mode ≤ 4) (s0 : 0 < s) (s1 : s < 16777216) (t0 : 0 < t) (t1 : t < 16777216) (p0 : -149 ≤ p) (p1 : p ≤ 105) (q0 : -149 ≤ q) (q1 : q ≤ 105) (F T : Int) (hF : F = p ∧ p ≤ q ∨ F = q ∧ q ≤ p) (hT : T = sgI nx (s : Int) * 2 ^ (p - F).toNat + sgI ny (t : Int) * 2 ^ (q - F).toNat) (g : Nat) (hg : s * 8388608 = g) :
    (T = 0 ∧ ∀ w : World, Forms w → Calls Tryd.prog 77 #[.agg #[.bool nx, .int .u64 (g : Int), .int .i64 (p + -23), .bool false], .agg #[.bool ny, .int .u64 (t : Int), .int .i64 q, .bool false], .int .i64 mode] w fun e w' => e = .returned (.int .u32 (sgn_w (decide (mode = 4)) 0)) ∧ Below w.heap.size w w') ∨
    (T ≠ 0 ∧ ∃ R : Int, 0 ≤ R ∧ R < 4294967296 ∧ (∀ w : World, Forms w → Calls Tryd.prog 77 #[.agg #[.bool nx, .int .u64 (g : Int), .int .i64 (p + -23), .bool false], .agg #[.bool ny, .int .u64 (t : Int), .int .i64 q, .bool false], .int .i64 mode] w fun e w' => e = .returned (.int .u32 R) ∧ Below w.heap.size w w') ∧
      (∀ (v : World) (K L : Nat) (VP VQ : Int) (gP gQ : Bool) (pP pQ : Option Addr) (lP cP lQ cQ : Nat), Num v K (.agg #[.int .i64 VP, .bool gP, .slice pP lP cP]) T → Num v L (.agg #[.int .i64 VQ, .bool gQ, .slice pQ lQ cQ]) 1 → 2 ≤ K → K ≤ 9000 →
        Calls Tryd.prog 75 #[.agg #[.int .i64 VP, .bool gP, .slice pP lP cP, .int .i64 VQ, .bool gQ, .slice pQ lQ cQ, .int .i64 F], .agg #[.int .i64 24, .int .i64 (-149), .int .i64 104], .int .i64 mode] v fun e w' => e = .returned (.int .i64 R) ∧ Below v.heap.size v w')) := by
  have g0 : 0 < g := by omega
  have g1 : g < 281474976710656 := by omega
  obtain ⟨E, U, d, hE, hU, hd, hTU⟩ : ∃ (E U : Int) (d : Nat), (E = p + -23 ∧ p + -23 ≤ q ∨ E = q ∧ q ≤ p + -23) ∧ U = sgI nx (g : Int) * 2 ^ (p + -23 - E).toNat + sgI ny (t : Int) * 2 ^ (q - E).toNat ∧ F = E + (d : Int) ∧ U = T * 2 ^ d := by
    have key : ∀ E : Int, E ≤ p + -23 → E ≤ q → E ≤ F → sgI nx (g : Int) * 2 ^ (p + -23 - E).toNat + sgI ny (t : Int) * 2 ^ (q - E).toNat = T * 2 ^ (F - E).toNat := by
      intro E h1 h2 h3
      rw [hT, Int.add_mul, Int.mul_assoc, Int.mul_assoc, ← Int.pow_add, ← Int.pow_add]
      rw [show (p - F).toNat + (F - E).toNat = 23 + (p + -23 - E).toNat by omega, show (q - F).toNat + (F - E).toNat = (q - E).toNat by omega, Int.pow_add, ← Int.mul_assoc (sgI nx (s : Int))]
      congr 2
      rw [← hg]
      cases nx <;> simp [sgI] <;> omega
    by_cases h : p + -23 ≤ q
    · exact ⟨p + -23, _, (F - (p + -23)).toNat, Or.inl ⟨rfl, h⟩, rfl, by omega, key (p + -23) (by omega) h (by omega)⟩
    · exact ⟨q, _, (F - q).toNat, Or.inr ⟨rfl, by omega⟩, rfl, by omega, key q (by omega) (by omega) (by omega)⟩
  obtain ⟨rn, z, P, rm, r, HS, P0, P1, z1, z30, hrm, hr, hTu, hs, hz⟩ := sum_any nx ny g t (p + -23) q g0 g1 t0 (by omega) (by omega) (by omega) (by omega) (by omega) E U hE hU
  have big := T_big nx ny s t p q F T (by omega) (by omega) (by omega) (by omega) (by omega) (by omega) hF hT
  have pd : (0 : Int) < 2 ^ d := by have := p2 d; exact_mod_cast this
  have iff0 : U = 0 ↔ T = 0 := by
    rw [hTU]
    constructor
    · intro h
      rcases Int.mul_eq_zero.mp h with q | q
      · exact q
      · omega
    · intro h; rw [h, Int.zero_mul]
  by_cases hz0 : z = 0
  · refine Or.inl ⟨iff0.mp (hz hz0), fun w G => ?_⟩
    have hT0 := hz hz0
    have hn : (nx == ny) = false := by
      rw [hT0, sgI_pow, sgI_pow] at hU
      have a1 : 0 < g * 2 ^ (p + -23 - E).toNat := Nat.mul_pos g0 (p2 _)
      have a2 : 0 < t * 2 ^ (q - E).toNat := Nat.mul_pos t0 (p2 _)
      obtain ⟨A, hA⟩ : ∃ A, g * 2 ^ (p + -23 - E).toNat = A := ⟨_, rfl⟩
      obtain ⟨B, hB⟩ : ∃ A, t * 2 ^ (q - E).toNat = A := ⟨_, rfl⟩
      rw [hA] at hU a1
      rw [hB] at hU a2
      cases nx <;> cases ny <;> first | rfl | (exfalso; simp only [sgI, Bool.false_eq_true, if_true, if_false] at hU; omega)
    subst hz0
    exact rs_diff nx ny rn rm (g : Int) (p + -23) (t : Int) q P mode w hn HS G
  · have Un : U ≠ 0 := by
      intro h0
      rw [h0] at hTu
      simp only [Int.natAbs_zero, Nat.zero_mul] at hTu
      have : 0 < z * 2 ^ (P - E).toNat := Nat.mul_pos (by omega) (p2 _)
      omega
    have Tn : T ≠ 0 := fun h => Un (iff0.mpr h)
    obtain ⟨g1', g2'⟩ := quot_g U.natAbs 1 E P
    have hdiv : U.natAbs * 2 ^ (E - P).toNat / (1 * 2 ^ (P - E).toNat) = z := by
      rw [hTu, Nat.one_mul, Nat.add_comm, Nat.add_mul_div_right _ _ (p2 _), Nat.div_eq_of_lt hr, Nat.zero_add]
    have hmod : U.natAbs * 2 ^ (E - P).toNat % (1 * 2 ^ (P - E).toNat) = r := by
      rw [hTu, Nat.one_mul, Nat.add_comm, Nat.add_mul_mod_self_right, Nat.mod_eq_of_lt hr]
    have hUa : U.natAbs = T.natAbs * 2 ^ d := by rw [hTU, Int.natAbs_mul, Int.natAbs_pow]; rfl
    obtain ⟨f1, f2⟩ := frac_same (T.natAbs * 2 ^ F.toNat) (1 * 2 ^ (-F).toNat) (U.natAbs * 2 ^ E.toNat) (1 * 2 ^ (-E).toNat) P (by
      rw [hUa, Nat.one_mul, Nat.one_mul, Nat.mul_assoc, ← Nat.pow_add, Nat.mul_assoc (T.natAbs), ← Nat.pow_add, Nat.mul_assoc (T.natAbs), ← Nat.pow_add]
      congr 2
      omega) (Nat.mul_pos (by decide) (p2 _)) (Nat.mul_pos (by decide) (p2 _))
    have sgn : decide (T < 0) = rn := by
      rw [← hs hz0]
      have : T < 0 ↔ U < 0 := by
        rw [hTU]
        constructor
        · intro h; exact Int.mul_neg_of_neg_of_pos h pd
        · intro h
          rcases Int.lt_or_le T 0 with q | q
          · exact q
          · have := Int.mul_nonneg q (Int.le_of_lt pd); omega
      simp only [this]
    obtain ⟨R, R0, R1, hi, hsp⟩ := both_w rn z P rm mode m0 m4 (by omega) (by omega) (by omega) (by omega) T 1 F Tn (by omega) (by omega) (T.natAbs * 2 ^ F.toNat) (1 * 2 ^ (-F).toNat) T.natAbs 1 rfl rfl rfl rfl (by decide) big (big_lt 1 _ (by decide) (by omega)) sgn (by rw [f1, g1', hdiv]) (by
      rw [hrm]
      rw [hmod] at g2'
      simp only [Ne, f2, g2']) z30
    exact Or.inr ⟨Tn, R, R0, R1, fun w G => rs_num nx ny rn rm (g : Int) (p + -23) (t : Int) q (z : Int) P mode R w (by omega) HS hi G, hsp⟩
end Go.Proofs.YtlcfpcapefeajaaDoor.fnExactAddWords
namespace Go.Proofs.YtlcfpcapefeajaaDoor.fnExactAddWords
open Go.ChangeShapes Go.WideShapes Go.ChangeAt Go.RowKit
open fnExactFuseWords (Tests tests nilB nil83B i_bad i_nan i_fin i_c i_infA i_infB i_infC)
set_option linter.unusedVariables false
theorem inf_word (a : Int) (a0 : 0 ≤ a) (a1 : a < 4294967296) (S : Bool) (hS : decide (2147483648 ≤ a) = S) (hk : kindI (a % 2147483648) = 2) : sgn_w S 2139095040 = a := by
  subst hS
  have h : a % 2147483648 = 2139095040 := by
    unfold kindI at hk
    (repeat' split at hk) <;> omega
  unfold sgn_w
  by_cases h2 : 2147483648 ≤ a
  · simp [h2]; omega
  · simp [h2]; omega
set_option maxHeartbeats 1000000 in
theorem both (a b mode : Int) (hm : 0 ≤ mode ∧ mode ≤ 4) (a0 : 0 ≤ a) (a1 : a < 4294967296) (b0 : 0 ≤ b) (b1 : b < 4294967296) : ∃ R : Int,
    (∀ w : World, Calls Tryd.prog 48 #[.int .u32 a, .int .u32 b, .int .i64 mode] w fun e w' => e = .returned (.int .u32 R) ∧ Below w.heap.size w w') ∧
    (∀ w : World, Forms w → Calls Tryd.prog 31 #[.int .u32 a, .int .u32 b, .int .i64 mode] w fun e w' => e = .returned (.int .u32 R) ∧ Below w.heap.size w w') := by
  obtain ⟨x, hx⟩ : ∃ x, kindI (a % 2147483648) = x := ⟨_, rfl⟩
  obtain ⟨y, hy⟩ : ∃ y, kindI (b % 2147483648) = y := ⟨_, rfl⟩
  obtain ⟨SA, hSA⟩ : ∃ s, decide (2147483648 ≤ a) = s := ⟨_, rfl⟩
  obtain ⟨SB, hSB⟩ : ∃ s, decide (2147483648 ≤ b) = s := ⟨_, rfl⟩
  have h1 : kindI (1065353216 % 2147483648) = 1 := by decide
  have hS1 : decide ((2147483648 : Int) ≤ 1065353216) = false := by decide
  have o0 : (0 : Int) ≤ 1065353216 := by decide
  have o1 : (1065353216 : Int) < 4294967296 := by decide
  have xb := kind_bd (a % 2147483648)
  have yb := kind_bd (b % 2147483648)
  rw [hx] at xb
  rw [hy] at yb
  have eS : (SA != false) = SA := by cases SA <;> rfl
  have TA := tests a x SA a0 a1 hx hSA
  have TB := tests b y SB b0 b1 hy hSB
  by_cases hn : x = 3 ∨ y = 3
  · exact ⟨_, fun w => s_of a b mode _ hm w (s_nan a b mode x y SA SB xb yb TA TB w hn), fun w G => i_of a b mode _ w (i_nan a 1065353216 b mode x 1 y hm a0 a1 o0 o1 b0 b1 hx h1 hy w G (by omega))⟩
  by_cases x2 : x = 2
  · have ha := inf_word a a0 a1 SA hSA (by rw [hx, x2])
    by_cases y2 : y = 2
    · have hb := inf_word b b0 b1 SB hSB (by rw [hy, y2])
      by_cases hab : a = b
      · have hss : SB = (SA != false) := by rw [eS, ← hSA, ← hSB, hab]
        have hi := fun w G => i_infB a 1065353216 b mode x 1 y SA false SB hm a0 a1 o0 o1 b0 b1 hx h1 hy hSA hS1 hSB w G hss ⟨Or.inl ⟨x2, Or.inl rfl⟩, y2⟩
        rw [eS, ha] at hi
        subst hab
        rw [x2] at TA
        exact ⟨a, fun w => s_of a a mode _ hm w (s_infaa a mode SA TA w), fun w G => i_of a a mode _ w (hi w G)⟩
      · have hss : SB ≠ (SA != false) := by
          rw [eS]; intro h; apply hab; rw [← ha, ← hb, h]
        exact ⟨_, fun w => s_of a b mode _ hm w (s_nan2 a b mode x y SA SB xb yb TA TB w hab ⟨x2, y2⟩), fun w G => i_of a b mode _ w (i_infC a 1065353216 b mode x 1 y SA false SB hm a0 a1 o0 o1 b0 b1 hx h1 hy hSA hS1 hSB w G hss ⟨Or.inl ⟨x2, Or.inl rfl⟩, y2⟩)⟩
    · have hi := fun w G => i_infA a 1065353216 b mode x 1 y SA false SB hm a0 a1 o0 o1 b0 b1 hx h1 hy hSA hS1 hSB w G ⟨Or.inl ⟨x2, Or.inl rfl⟩, by omega⟩
      rw [eS, ha] at hi
      exact ⟨a, fun w => s_of a b mode _ hm w (s_infa a b mode x y SA SB xb yb TA TB w ⟨x2, by omega⟩), fun w G => i_of a b mode _ w (hi w G)⟩
  have hxx : x = 0 ∨ x = 1 := by omega
  by_cases y2 : y = 2
  · exact ⟨b, fun w => s_of a b mode _ hm w (s_infb a b mode x y SA SB xb yb TA TB w ⟨hxx, y2⟩), fun w G => i_of a b mode _ w (i_c a 1065353216 b mode x 1 y SA false SB hm a0 a1 o0 o1 b0 b1 hx h1 hy hSA hS1 hSB w G ⟨hxx, Or.inr rfl, y2⟩)⟩
  have hyy : y = 0 ∨ y = 1 := by omega
  have kd : ∀ (u k : Int), 0 ≤ u → u < 4294967296 → kindI (u % 2147483648) = k → (k = 0 ∨ k = 1) → u % 2147483648 < 2139095040 ∧ (k = 0 → exS (u % 2147483648) = 0 ∧ exP (u % 2147483648) = -149) ∧ (k = 1 → 0 < exS (u % 2147483648) ∧ 0 < u % 2147483648) := by
    intro u k u0 u1 h hk
    unfold kindI at h
    unfold exS exP
    refine ⟨?_, fun h0 => ?_, fun h0 => ?_⟩ <;> (repeat' split at h) <;> (repeat' split) <;> omega
  obtain ⟨la, la0, la1⟩ := kd a x a0 a1 hx hxx
  obtain ⟨lb, lb0, lb1⟩ := kd b y b0 b1 hy hyy
  clear kd
  have sbA := exS_bd (a % 2147483648) (by omega)
  have pbA := exP_bd (a % 2147483648) (by omega) (by omega)
  have sbB := exS_bd (b % 2147483648) (by omega)
  have pbB := exP_bd (b % 2147483648) (by omega) (by omega)
  have HE : ∀ v : World, Forms v → Calls Tryd.prog 78 #[.int .u32 b, .int .i64 0] v fun e w' => e = .returned (.agg #[.bool SB, .int .u64 (exS (b % 2147483648)), .int .i64 (exP (b % 2147483648)), .bool false]) ∧ Below v.heap.size v w' := fun v Gv => by
    have h := exactOf_w b b0 b1 v Gv
    rw [hSB] at h
    exact h
  have pA := fun v : World => sParts_any a a0 a1 v
  have pB := fun v : World => sParts_any b b0 b1 v
  rw [hSA] at pA
  rw [hSB] at pB
  obtain ⟨S, hS⟩ : ∃ S, exS (a % 2147483648) = S := ⟨_, rfl⟩
  obtain ⟨p, hp⟩ : ∃ E, exP (a % 2147483648) = E := ⟨_, rfl⟩
  obtain ⟨T, hT⟩ : ∃ S, exS (b % 2147483648) = S := ⟨_, rfl⟩
  obtain ⟨q, hq⟩ : ∃ E, exP (b % 2147483648) = E := ⟨_, rfl⟩
  rw [hS] at sbA la0 la1 pA
  rw [hp] at pbA la0 pA
  rw [hT] at sbB lb0 lb1 pB HE
  rw [hq] at pbB lb0 pB HE
  obtain ⟨s, rfl⟩ := Int.eq_ofNat_of_zero_le sbA.1
  obtain ⟨t, rfl⟩ := Int.eq_ofNat_of_zero_le sbB.1
  obtain ⟨g, hg⟩ : ∃ z, s * 8388608 = z := ⟨_, rfl⟩
  have g1 : g < 281474976710656 := by omega
  have hgI : (s : Int) * 8388608 = (g : Int) := by omega
  have HP : ∀ v : World, Forms v → Calls Tryd.prog 57 #[.int .u32 a, .int .u32 1065353216] v fun e w' => e = .returned (.agg #[.bool (SA != false), .int .u64 (g : Int), .int .i64 (p + -23), .bool false]) ∧ Below v.heap.size v w' := fun v Gv =>
    prod59 a 1065353216 a0 a1 o0 o1 v Gv (s : Int) 8388608 0 0 p (-23) (g : Int) (p + -23) SA false hSA hS1 hS (by decide) hp (by decide) sbA.1 sbA.2 (by decide) (by decide) pbA.1 pbA.2 (by decide) (by decide) hgI (by omega) (by omega) rfl
  have impl := fun (R : Int) (HR : ∀ v : World, Forms v → Calls Tryd.prog 77 #[.agg #[.bool SA, .int .u64 (g : Int), .int .i64 (p + -23), .bool false], .agg #[.bool SB, .int .u64 (t : Int), .int .i64 q, .bool false], .int .i64 mode] v fun e w' => e = .returned (.int .u32 R) ∧ Below v.heap.size v w') (w : World) (G : Forms w) =>
    i_of a b mode R w (i_fin a 1065353216 b mode x 1 y SA false SB hm a0 a1 o0 o1 b0 b1 hx h1 hy hSA hS1 hSB w G R (g : Int) (p + -23) (t : Int) q HP HE (by rw [eS]; exact HR) ⟨hxx, Or.inr rfl, hyy⟩)
  by_cases nn : x = 0 ∧ y = 0
  · obtain ⟨s0, _⟩ := la0 nn.1
    obtain ⟨t0, _⟩ := lb0 nn.2
    have s0' : s = 0 := by omega
    have t0' : t = 0 := by omega
    have g0' : g = 0 := by omega
    refine ⟨_, fun w => s_of a b mode _ hm w (s_nn a b mode x y SA SB xb yb TA TB w nn), impl _ (fun v Gv => ?_)⟩
    subst g0' t0'
    by_cases hn : SA = SB
    · have h := rs_same SB SB false 0 (p + -23) 0 q q mode v (sum_nilx SB SB (p + -23) 0 q) Gv
      have e : nilB SA SB mode = SB := by unfold nilB; rw [hn]; simp
      rw [e, hn]
      exact h
    · have hn2 : (SA == SB) = false := by cases h : (SA == SB); rfl; exact absurd (eq_of_beq h) hn
      have h := rs_diff SA SB SB false 0 (p + -23) 0 q q mode v hn2 (sum_nilx SA SB (p + -23) 0 q) Gv
      have e : nilB SA SB mode = decide (mode = 4) := by unfold nilB; rw [hn2]; rfl
      rw [e]
      exact h
  have cnd : (x = 0 ∨ x = 1) ∧ (y = 0 ∨ y = 1) ∧ ¬ (x = 0 ∧ y = 0) := ⟨hxx, hyy, nn⟩
  obtain ⟨X, hX⟩ : ∃ X, sgI SA (s : Int) = X := ⟨_, rfl⟩
  obtain ⟨Y, hY⟩ : ∃ Y, sgI SB (t : Int) = Y := ⟨_, rfl⟩
  have X0 : -16777216 < X := by rw [← hX]; cases SA <;> simp [sgI] <;> omega
  have X1 : X < 16777216 := by rw [← hX]; cases SA <;> simp [sgI] <;> omega
  have Y0 : -16777216 < Y := by rw [← hY]; cases SB <;> simp [sgI] <;> omega
  have Y1 : Y < 16777216 := by rw [← hY]; cases SB <;> simp [sgI] <;> omega
  rw [hX] at pA
  rw [hY] at pB
  obtain ⟨F, M, hF, hM, HPl⟩ : ∃ F M : Int, (F = p ∧ p ≤ q ∨ F = q ∧ q ≤ p) ∧ M = sgI SA (s : Int) * 2 ^ (p - F).toNat + sgI SB (t : Int) * 2 ^ (q - F).toNat ∧
      (∀ v : World, Calls Tryd.prog 72 #[.agg #[.int .i64 X, .bool false, .slice none 0 0, .int .i64 1, .bool false, .slice none 0 0, .int .i64 p], .agg #[.int .i64 Y, .bool false, .slice none 0 0, .int .i64 1, .bool false, .slice none 0 0, .int .i64 q]] v fun e w' => ∃ V g pp l c, e = .returned (.agg #[.int .i64 V, .bool g, .slice pp l c, .int .i64 1, .bool false, .slice none 0 0, .int .i64 F]) ∧ Num w' 200 (.agg #[.int .i64 V, .bool g, .slice pp l c]) M ∧ Below v.heap.size v w') := by
    by_cases hle : p ≤ q
    · refine ⟨p, X + Y * 2 ^ (q - p).toNat, Or.inl ⟨rfl, hle⟩, ?_, fun v => plus84_le X Y p q (q - p).toNat (by omega) (by omega) (by omega) (by omega) (by omega) (by omega) (by omega) (by omega) (by omega) (by omega) v⟩
      rw [hX, hY, show (p - p).toNat = 0 by omega]; simp
    · refine ⟨q, Y + X * 2 ^ (p - q).toNat, Or.inr ⟨rfl, by omega⟩, ?_, fun v => plus84_gt X Y p q (p - q).toNat (by omega) (by omega) (by omega) (by omega) (by omega) (by omega) (by omega) (by omega) (by omega) (by omega) (by omega) v⟩
      rw [hX, hY, show (q - q).toNat = 0 by omega]; simp [Int.add_comm]
  have big := T_big SA SB s t p q F M (by omega) (by omega) (by omega) (by omega) (by omega) (by omega) hF hM
  have fin := fun (R : Int) (r0 : 0 ≤ R) (r1 : R < 4294967296) (Mn : M ≠ 0) (hs : ∀ (v : World) (K L : Nat) (VP VQ : Int) (gP gQ : Bool) (pP pQ : Option Addr) (lP cP lQ cQ : Nat), Num v K (.agg #[.int .i64 VP, .bool gP, .slice pP lP cP]) M → Num v L (.agg #[.int .i64 VQ, .bool gQ, .slice pQ lQ cQ]) 1 → 2 ≤ K → K ≤ 9000 →
        Calls Tryd.prog 75 #[.agg #[.int .i64 VP, .bool gP, .slice pP lP cP, .int .i64 VQ, .bool gQ, .slice pQ lQ cQ, .int .i64 F], .agg #[.int .i64 24, .int .i64 (-149), .int .i64 104], .int .i64 mode] v fun e w' => e = .returned (.int .i64 R) ∧ Below v.heap.size v w') (w : World) =>
    s_of a b mode R hm w (s_sum a b mode x y SA SB xb yb TA TB w X Y p q pA pB F X0 X1 Y0 Y1 M HPl Mn R r0 r1 (fun v K VP gP pP lP cP NP k2 k9 => hs v K 3 VP 1 gP false pP none lP cP 0 0 NP (num_small v 3 1 (by decide) (by decide)) k2 k9) cnd)
  by_cases x0 : x = 0
  · obtain ⟨s0, p149⟩ := la0 x0
    have y1 : y = 1 := by omega
    obtain ⟨t0, _⟩ := lb1 y1
    have s0' : s = 0 := by omega
    have g0' : g = 0 := by omega
    have Fp : F = p := by omega
    have hM2 : M = Y * 2 ^ (q - F).toNat := by rw [hM, s0', hY]; cases SA <;> simp [sgI]
    have hMa : M.natAbs = t * 2 ^ (q - F).toNat := by
      rw [hM2, Int.natAbs_mul, Int.natAbs_pow, show Y.natAbs = t by rw [← hY]; cases SB <;> simp [sgI]]; rfl
    have pd : (0 : Int) < 2 ^ (q - F).toNat := by have := p2 (q - F).toNat; exact_mod_cast this
    have Mn : M ≠ 0 := by
      intro h; rw [h] at hMa
      have : 0 < t * 2 ^ (q - F).toNat := Nat.mul_pos (by omega) (p2 _)
      simp at hMa; omega
    have hs : decide (M < 0) = SB := by
      rw [hM2, ← hY]
      cases SB
      · simp only [sgI]
        refine decide_eq_false ?_
        have := Int.mul_nonneg (show (0 : Int) ≤ (t : Int) by omega) (Int.le_of_lt pd)
        simp; omega
      · simp only [sgI]
        refine decide_eq_true ?_
        exact Int.mul_neg_of_neg_of_pos (by simp; omega) pd
    obtain ⟨R, r0, r1, hi, hsp⟩ := one_both SB t q mode hm.1 hm.2 (by omega) (by omega) (by omega) (by omega) M F Mn (by omega) (by omega) hs big (by
      rw [hMa, Nat.mul_assoc, Nat.mul_assoc, ← Nat.pow_add, ← Nat.pow_add, Nat.mul_assoc, ← Nat.pow_add]
      congr 2
      omega)
    refine ⟨R, fin R r0 r1 Mn hsp, impl R (fun v Gv => ?_)⟩
    subst g0'
    exact rs_num SA SB SB false 0 (p + -23) (t : Int) q (t : Int) q mode R v (by omega) (sum_nilx SA SB (p + -23) (t : Int) q) hi Gv
  have x1 : x = 1 := by omega
  obtain ⟨s0, _⟩ := la1 x1
  by_cases y0 : y = 0
  · obtain ⟨t0, q149⟩ := lb0 y0
    have t0' : t = 0 := by omega
    have Fq : F = q := by omega
    have hM2 : M = X * 2 ^ (p - F).toNat := by rw [hM, t0', hX]; cases SB <;> simp [sgI]
    have hMa : M.natAbs = s * 2 ^ (p - F).toNat := by
      rw [hM2, Int.natAbs_mul, Int.natAbs_pow, show X.natAbs = s by rw [← hX]; cases SA <;> simp [sgI]]; rfl
    have pd : (0 : Int) < 2 ^ (p - F).toNat := by have := p2 (p - F).toNat; exact_mod_cast this
    have Mn : M ≠ 0 := by
      intro h; rw [h] at hMa
      have : 0 < s * 2 ^ (p - F).toNat := Nat.mul_pos (by omega) (p2 _)
      simp at hMa; omega
    have hs : decide (M < 0) = SA := by
      rw [hM2, ← hX]
      cases SA
      · simp only [sgI]
        refine decide_eq_false ?_
        have := Int.mul_nonneg (show (0 : Int) ≤ (s : Int) by omega) (Int.le_of_lt pd)
        simp; omega
      · simp only [sgI]
        refine decide_eq_true ?_
        exact Int.mul_neg_of_neg_of_pos (by simp; omega) pd
    obtain ⟨R, r0, r1, hi, hsp⟩ := one_both SA g (p + -23) mode hm.1 hm.2 (by omega) (by omega) (by omega) (by omega) M F Mn (by omega) (by omega) hs big (by
      rw [hMa, ← hg, show (8388608 : Nat) = 2 ^ 23 by decide, Nat.mul_assoc, Nat.mul_assoc, ← Nat.pow_add, ← Nat.pow_add, Nat.mul_assoc, Nat.mul_assoc, ← Nat.pow_add, ← Nat.pow_add]
      congr 2
      omega)
    refine ⟨R, fin R r0 r1 Mn hsp, impl R (fun v Gv => ?_)⟩
    subst t0'
    exact rs_num SA SB SA false (g : Int) (p + -23) 0 q (g : Int) (p + -23) mode R v (by omega) (sum_nily SA SB (g : Int) (p + -23) q (by omega)) hi Gv
  · have y1 : y = 1 := by omega
    obtain ⟨t0, _⟩ := lb1 y1
    rcases add_both SA SB s t p q mode hm.1 hm.2 (by omega) (by omega) (by omega) (by omega) (by omega) (by omega) (by omega) (by omega) F M hF hM g hg with ⟨M0, hi⟩ | ⟨M0, R, r0, r1, hi, hs⟩
    · exact ⟨_, fun w => s_of a b mode _ hm w (s_sum0 a b mode x y SA SB xb yb TA TB w X Y p q pA pB F X0 X1 Y0 Y1 M HPl M0 cnd), impl _ hi⟩
    · exact ⟨R, fin R r0 r1 M0 hs, impl R hi⟩
end Go.Proofs.YtlcfpcapefeajaaDoor.fnExactAddWords
namespace Go.Proofs.YtlcfpcapefeajaaDoor
open Go.ChangeShapes Go.WideShapes Go.ChangeAt Go.RowKit
set_option linter.unusedVariables false
theorem blk2 {w : World} {b : Nat} {x y : Value} {t : TypeId} (h : w.heap[b]? = some (.cells #[x, y] t (0, 0))) :
    (w.cell? ⟨b, 0, none⟩ = some x ∧ w.cell? ⟨b, 1, none⟩ = some y) ∧ (w.frozen? ⟨b, 0, none⟩ = false ∧ w.frozen? ⟨b, 1, none⟩ = false) := by
  refine ⟨⟨?_, ?_⟩, ?_, ?_⟩ <;> simp [World.cell?, World.frozen?, h]
theorem set2h {w : World} {b : Nat} {x0 x1 y0 y1 : Value} {t : TypeId} (h : w.heap[b]? = some (.cells #[x0, x1] t (0, 0))) :
    ((w.setCell ⟨b, 0, none⟩ y0).setCell ⟨b, 1, none⟩ y1).heap[b]? = some (.cells #[y0, y1] t (0, 0)) := by
  have hb : b < w.heap.size := lt_of_block h
  have e : w.heap[b] = .cells #[x0, x1] t (0, 0) := by
    have := Array.getElem?_eq_getElem hb
    rw [this] at h; exact Option.some.inj h
  simp [World.setCell, Array.getElem?_modify, h]
theorem set2_ne {w : World} {b k : Nat} {y0 y1 : Value} (hk : k ≠ b) : ((w.setCell ⟨b, 0, none⟩ y0).setCell ⟨b, 1, none⟩ y1).heap[k]? = w.heap[k]? := by
  rw [Below.heap_setCell _ _ _ _ hk, Below.heap_setCell _ _ _ _ hk]
theorem cell_set2 {w : World} {b k i : Nat} {x y v : Value} (hk : k ≠ b) (h : w.cell? ⟨k, i, none⟩ = some v) : ((w.setCell ⟨b, 0, none⟩ x).setCell ⟨b, 1, none⟩ y).cell? ⟨k, i, none⟩ = some v := by
  rw [← h]
  refine World.cell?_of_block ?_
  rw [Below.heap_setCell _ _ _ _ hk, Below.heap_setCell _ _ _ _ hk]
theorem formsd {w : World} (h : Forms w) : Forms w.drew := ⟨h.c0, h.c1, h.c2, h.c3, h.c4, h.c5, h.c6, h.c7⟩
theorem add30 (a b R : Int) (h : ∀ v : World, Calls Tryd.prog 48 #[.int .u32 a, .int .u32 b, .int .i64 0] v fun e w' => e = .returned (.int .u32 R) ∧ Below v.heap.size v w') (w : World) : Calls Tryd.prog 30 #[.int .u32 a, .int .u32 b] w fun e w' => e = .returned (.int .u32 R) ∧ Below w.heap.size w w' := by
  go_enter Tryd.func30, Tryd.ntmps30
  go_wp2_with (go_at_call 48; refine (h _).mono ?_; rintro e w1 ⟨rfl, b1⟩)
  go_ret
  exact ⟨rfl, b1⟩
set_option maxRecDepth 100000 in
set_option maxHeartbeats 8000000 in
theorem addS9 (a0 a1 b0 b1 : Int) (P Q : Int) (H1 : Hid (∀ v : World, Calls Tryd.prog 30 #[.int .u32 a0, .int .u32 b0] v fun e w' => e = .returned (.int .u32 P) ∧ Below v.heap.size v w')) (H2 : Hid (∀ v : World, Calls Tryd.prog 30 #[.int .u32 a1, .int .u32 b1] v fun e w' => e = .returned (.int .u32 Q) ∧ Below v.heap.size v w')) (w : World) :
    Calls Tryd.prog 9 #[.agg #[.int .u32 a0, .int .u32 a1], .agg #[.int .u32 b0, .int .u32 b1]] w fun e w' => e = .returned (.agg #[.int .u32 P, .int .u32 Q]) ∧ Below w.heap.size w w' := by
  go_enter Tryd.func9, Tryd.ntmps9
  go_wp2
  obtain ⟨W0, hW0⟩ : ∃ W0, W0 = ((w.alloc (.cells #[.int .u32 a0, .int .u32 a1] 25)).alloc (.cells #[.int .u32 b0, .int .u32 b1] 25)).alloc (.cells #[.int .u32 0, .int .u32 0] 25) := ⟨_, rfl⟩
  obtain ⟨k, hk⟩ : ∃ k, k = w.heap.size := ⟨_, rfl⟩
  have A0 : W0.heap[k]? = some (.cells #[.int .u32 a0, .int .u32 a1] 25 (0, 0)) := by rw [hW0, hk, Below.heap_alloc _ _ _ (by first | (simp; done) | (simp; omega)), Below.heap_alloc _ _ _ (by first | (simp; done) | (simp; omega))]; exact heap_alloc_new _ _
  have B0 : W0.heap[k + 1]? = some (.cells #[.int .u32 b0, .int .u32 b1] 25 (0, 0)) := by rw [hW0, hk, Below.heap_alloc _ _ _ (by first | (simp; done) | (simp; omega))]; exact heap_alloc_at (by simp)
  have Z0 : W0.heap[k + 1 + 1]? = some (.cells #[.int .u32 0, .int .u32 0] 25 (0, 0)) := by rw [hW0, hk]; exact heap_alloc_at (by simp)
  have b0' : Below w.heap.size w W0 := by rw [hW0]; exact (((Below.refl _ _).alloc (by omega) _).alloc (by simp) _).alloc (by simp; omega) _
  have z0 : k + 1 + 1 < W0.heap.size := by rw [hW0, hk]; first | (simp; done) | (simp; omega)
  have G0 := True.intro
  rw [← hW0, ← hk]
  have hkw : w.heap.size ≤ k := by omega
  clear hW0 hk
  have bl0 := b0'
  obtain ⟨⟨s00, s01⟩, _⟩ := blk2 A0
  obtain ⟨⟨t00, t01⟩, _⟩ := blk2 B0
  go_region_held3 (fun v => v.cell? ⟨k, 0, none⟩ = some (.int .u32 a0) ∧ v.cell? ⟨k, 1, none⟩ = some (.int .u32 a1) ∧ v.cell? ⟨k + 1, 0, none⟩ = some (.int .u32 b0) ∧ v.cell? ⟨k + 1, 1, none⟩ = some (.int .u32 b1)) (first | with_reducible exact ⟨s00, s01, t00, t01⟩ | with_reducible exact ⟨s10, s11, t10, t11⟩ | with_reducible exact ⟨s20, s21, t20, t21⟩ | (with_reducible refine ⟨cell_set2 ?_ s20, cell_set2 ?_ s21, cell_set2 ?_ t20, cell_set2 ?_ t21⟩ <;> omega) | (go_keep; done)) (first | (go_at_call 30; (with_reducible show Calls Tryd.prog 30 #[Value.int IntKind.u32 a0, Value.int IntKind.u32 b0] _ _); refine ((Hid.out H1) _).mono ?_; rintro e w1 ⟨rfl, hc1⟩; (have hb1 : Below W0.heap.size W0 w1 := ⟨hc1.os, hc1.tape, hc1.output, hc1.size, hc1.block⟩); (have A1 := (hb1.block k (by omega)).trans A0); (have B1 := (hb1.block (k + 1) (by omega)).trans B0); (have Z1 := (hb1.block (k + 1 + 1) (by omega)).trans Z0); (have z1 : k + 1 + 1 < w1.heap.size := Nat.lt_of_lt_of_le z0 hb1.size); (have bl1 := bl0.trans (hb1.mono bl0.size)); obtain ⟨⟨s10, s11⟩, _⟩ := blk2 A1; obtain ⟨⟨t10, t11⟩, _⟩ := blk2 B1; obtain ⟨⟨y10, y11⟩, f10, f11⟩ := blk2 Z1) | (go_at_call 30; (with_reducible show Calls Tryd.prog 30 #[Value.int IntKind.u32 a1, Value.int IntKind.u32 b1] _ _); refine ((Hid.out H2) _).mono ?_; rintro e w2 ⟨rfl, hc2⟩; (have hb2 : Below w1.heap.size w1 w2 := ⟨hc2.os, hc2.tape, hc2.output, hc2.size, hc2.block⟩); (have A2 := (hb2.block k (by omega)).trans A1); (have B2 := (hb2.block (k + 1) (by omega)).trans B1); (have Z2 := (hb2.block (k + 1 + 1) (by omega)).trans Z1); (have z2 : k + 1 + 1 < w2.heap.size := Nat.lt_of_lt_of_le z1 hb2.size); (have bl2 := bl1.trans (hb2.mono bl1.size)); obtain ⟨⟨s20, s21⟩, _⟩ := blk2 A2; obtain ⟨⟨t20, t21⟩, _⟩ := blk2 B2; obtain ⟨⟨y20, y21⟩, f20, f21⟩ := blk2 Z2))
  all_goals go_wp2
  all_goals
    exact bodyPost_ret (v := .agg #[.int .u32 P, .int .u32 Q]) (by simp [results, Tryd.results9, go_sem, y20, y21]) rfl ⟨rfl, by repeat (first | (with_reducible exact bl2) | (with_reducible refine Below.setCell ?_ (by first | omega | (simp; try omega)) _))⟩
set_option maxRecDepth 100000 in
set_option maxHeartbeats 8000000 in
theorem addI11 (a0 a1 b0 b1 : Int) (P Q : Int) (H1 : Hid (∀ v : World, Forms v → Calls Tryd.prog 31 #[.int .u32 a0, .int .u32 b0, .int .i64 0] v fun e w' => e = .returned (.int .u32 P) ∧ Below v.heap.size v w')) (H2 : Hid (∀ v : World, Forms v → Calls Tryd.prog 31 #[.int .u32 a1, .int .u32 b1, .int .i64 0] v fun e w' => e = .returned (.int .u32 Q) ∧ Below v.heap.size v w')) (w : World) (G : Forms w) :
    Calls Tryd.prog 11 #[.agg #[.int .u32 a0, .int .u32 a1], .agg #[.int .u32 b0, .int .u32 b1]] w fun e w' => e = .returned (.agg #[.int .u32 P, .int .u32 Q]) ∧ Below w.heap.size w w' := by
  go_enter Tryd.func11, Tryd.ntmps11
  go_wp2
  obtain ⟨W0, hW0⟩ : ∃ W0, W0 = ((w.alloc (.cells #[.int .u32 a0, .int .u32 a1] 25)).alloc (.cells #[.int .u32 b0, .int .u32 b1] 25)).alloc (.cells #[.int .u32 0, .int .u32 0] 25) := ⟨_, rfl⟩
  obtain ⟨k, hk⟩ : ∃ k, k = w.heap.size := ⟨_, rfl⟩
  have A0 : W0.heap[k]? = some (.cells #[.int .u32 a0, .int .u32 a1] 25 (0, 0)) := by rw [hW0, hk, Below.heap_alloc _ _ _ (by first | (simp; done) | (simp; omega)), Below.heap_alloc _ _ _ (by first | (simp; done) | (simp; omega))]; exact heap_alloc_new _ _
  have B0 : W0.heap[k + 1]? = some (.cells #[.int .u32 b0, .int .u32 b1] 25 (0, 0)) := by rw [hW0, hk, Below.heap_alloc _ _ _ (by first | (simp; done) | (simp; omega))]; exact heap_alloc_at (by simp)
  have Z0 : W0.heap[k + 1 + 1]? = some (.cells #[.int .u32 0, .int .u32 0] 25 (0, 0)) := by rw [hW0, hk]; exact heap_alloc_at (by simp)
  have b0' : Below w.heap.size w W0 := by rw [hW0]; exact (((Below.refl _ _).alloc (by omega) _).alloc (by simp) _).alloc (by simp; omega) _
  have z0 : k + 1 + 1 < W0.heap.size := by rw [hW0, hk]; first | (simp; done) | (simp; omega)
  have G0 : Forms W0 := G.below b0'
  rw [← hW0, ← hk]
  have hkw : w.heap.size ≤ k := by omega
  clear hW0 hk
  have bl0 := b0'
  obtain ⟨⟨s00, s01⟩, _⟩ := blk2 A0
  obtain ⟨⟨t00, t01⟩, _⟩ := blk2 B0
  go_region_held3 (fun v => v.cell? ⟨k, 0, none⟩ = some (.int .u32 a0) ∧ v.cell? ⟨k, 1, none⟩ = some (.int .u32 a1) ∧ v.cell? ⟨k + 1, 0, none⟩ = some (.int .u32 b0) ∧ v.cell? ⟨k + 1, 1, none⟩ = some (.int .u32 b1)) (first | with_reducible exact ⟨s00, s01, t00, t01⟩ | with_reducible exact ⟨s10, s11, t10, t11⟩ | with_reducible exact ⟨s20, s21, t20, t21⟩ | (with_reducible refine ⟨cell_set2 ?_ s20, cell_set2 ?_ s21, cell_set2 ?_ t20, cell_set2 ?_ t21⟩ <;> omega) | (go_keep; done)) (first | (go_at_call 31; (with_reducible show Calls Tryd.prog 31 #[Value.int IntKind.u32 a0, Value.int IntKind.u32 b0, Value.int IntKind.i64 0] _ _); refine ((Hid.out H1) _ (by first | exact G0 | exact formsd G0)).mono ?_; rintro e w1 ⟨rfl, hc1⟩; (have hb1 : Below W0.heap.size W0 w1 := ⟨hc1.os, hc1.tape, hc1.output, hc1.size, hc1.block⟩); (have A1 := (hb1.block k (by omega)).trans A0); (have B1 := (hb1.block (k + 1) (by omega)).trans B0); (have Z1 := (hb1.block (k + 1 + 1) (by omega)).trans Z0); (have z1 : k + 1 + 1 < w1.heap.size := Nat.lt_of_lt_of_le z0 hb1.size); (have bl1 := bl0.trans (hb1.mono bl0.size)); (have G1 := G0.below hb1); obtain ⟨⟨s10, s11⟩, _⟩ := blk2 A1; obtain ⟨⟨t10, t11⟩, _⟩ := blk2 B1; obtain ⟨⟨y10, y11⟩, f10, f11⟩ := blk2 Z1) | (go_at_call 31; (with_reducible show Calls Tryd.prog 31 #[Value.int IntKind.u32 a1, Value.int IntKind.u32 b1, Value.int IntKind.i64 0] _ _); refine ((Hid.out H2) _ (by first | exact G1 | exact formsd G1)).mono ?_; rintro e w2 ⟨rfl, hc2⟩; (have hb2 : Below w1.heap.size w1 w2 := ⟨hc2.os, hc2.tape, hc2.output, hc2.size, hc2.block⟩); (have A2 := (hb2.block k (by omega)).trans A1); (have B2 := (hb2.block (k + 1) (by omega)).trans B1); (have Z2 := (hb2.block (k + 1 + 1) (by omega)).trans Z1); (have z2 : k + 1 + 1 < w2.heap.size := Nat.lt_of_lt_of_le z1 hb2.size); (have bl2 := bl1.trans (hb2.mono bl1.size)); (have G2 := G1.below hb2); obtain ⟨⟨s20, s21⟩, _⟩ := blk2 A2; obtain ⟨⟨t20, t21⟩, _⟩ := blk2 B2; obtain ⟨⟨y20, y21⟩, f20, f21⟩ := blk2 Z2))
  all_goals go_wp2
  all_goals
    exact bodyPost_ret (v := .agg #[.int .u32 P, .int .u32 Q]) (by simp [results, Tryd.results11, go_sem, y20, y21]) rfl ⟨rfl, by repeat (first | (with_reducible exact bl2) | (with_reducible refine Below.setCell ?_ (by first | omega | (simp; try omega)) _))⟩
end Go.Proofs.YtlcfpcapefeajaaDoor
