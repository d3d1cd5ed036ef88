/- The model's AddWords by the kinds of the two words; what the program's sum with 1 and the model's sum round to. -/
import Derived.Test.YtamoakodlmjbiaaDoorFuseS
namespace Go.Proofs.YtamoakodlmjbiaaDoor.fnExactAddWords
open Go.ChangeShapes Go.WideShapes Go.ChangeAt Go.RowKit
open fnExactFuseWords (Tests tests nilB nil83B)
set_option linter.unusedVariables false
theorem s_bad (a b mode : Int) (hm : ¬ (0 ≤ mode ∧ mode ≤ 4)) (w : World) : Calls Tryd.prog 23 #[.int .u32 a, .int .u32 b, .int .i64 mode] w fun e w' => e = .returned (.int .u32 0) ∧ Below w.heap.size w w' := by
  have hg := sGood_any mode w
  rw [decide_eq_false hm] at hg
  go_enter Tryd.func23, Tryd.ntmps23
  go_wp2_with (go_at_call 17; refine hg.mono ?_; rintro e w' ⟨rfl, hw⟩; subst w')
  go_ret
  exact ⟨rfl, Below.refl _ _⟩
theorem s_of (a b mode R : Int) (hm : 0 ≤ mode ∧ mode ≤ 4) (w : World) (hB : Calls Tryd.prog 53 #[.int .u32 a, .int .u32 b, .int .i64 mode] w fun e w' => e = .returned (.int .u32 R) ∧ Below w.heap.size w w') :
    Calls Tryd.prog 23 #[.int .u32 a, .int .u32 b, .int .i64 mode] w fun e w' => e = .returned (.int .u32 R) ∧ Below w.heap.size w w' := by
  have hg := sGood_any mode w
  rw [decide_eq_true hm] at hg
  go_enter Tryd.func23, Tryd.ntmps23
  go_wp2_with (first | (go_at_call 17; refine hg.mono ?_; rintro e w' ⟨rfl, hw⟩; subst w') | (go_at_call 53; refine hB.mono ?_; rintro e w1 ⟨rfl, hb1⟩))
  go_ret
  exact ⟨rfl, hb1⟩
theorem i_of (a b mode R : Int) (w : World) (hB : Calls Tryd.prog 30 #[.int .u32 a, .int .u32 1065353216, .int .u32 b, .int .i64 mode] w fun e w' => e = .returned (.int .u32 R) ∧ Below w.heap.size w w') :
    Calls Tryd.prog 24 #[.int .u32 a, .int .u32 b, .int .i64 mode] w fun e w' => e = .returned (.int .u32 R) ∧ Below w.heap.size w w' := by
  go_enter Tryd.func24, Tryd.ntmps24
  go_wp2_with (go_at_call 30; refine hB.mono ?_; rintro e w1 ⟨rfl, hb1⟩)
  go_ret
  exact ⟨rfl, hb1⟩
section
variable (a b mode x y : Int) (SA SB : Bool) (xb : 0 ≤ x ∧ x ≤ 3) (yb : 0 ≤ y ∧ y ≤ 3) (TA : Tests a x SA) (TB : Tests b y SB)
include xb yb TA TB in
set_option maxHeartbeats 4000000 in
theorem s_nan (w : World) (hc : x = 3 ∨ y = 3) : Calls Tryd.prog 53 #[.int .u32 a, .int .u32 b, .int .i64 mode] w fun e w' => e = .returned (.int .u32 2143289344) ∧ Below w.heap.size w w' := by
  have nA : Hid (∀ v : World, Calls Tryd.prog 67 #[.int .u32 a] v fun e w' => e = .returned (.bool SA) ∧ w' = v) := TA.neg
  have qA : Hid (∀ v : World, Calls Tryd.prog 47 #[.int .u32 a] v fun e w' => e = .returned (.bool (decide (x = 3))) ∧ w' = v) := TA.nan
  have iA : Hid (∀ v : World, Calls Tryd.prog 48 #[.int .u32 a] v fun e w' => e = .returned (.bool (decide (x = 2))) ∧ w' = v) := TA.inf
  have zA : Hid (∀ v : World, Calls Tryd.prog 49 #[.int .u32 a] v fun e w' => e = .returned (.bool (decide (x = 0))) ∧ w' = v) := TA.nil
  have nB : Hid (∀ v : World, Calls Tryd.prog 67 #[.int .u32 b] v fun e w' => e = .returned (.bool SB) ∧ w' = v) := TB.neg
  have qB : Hid (∀ v : World, Calls Tryd.prog 47 #[.int .u32 b] v fun e w' => e = .returned (.bool (decide (y = 3))) ∧ w' = v) := TB.nan
  have iB : Hid (∀ v : World, Calls Tryd.prog 48 #[.int .u32 b] v fun e w' => e = .returned (.bool (decide (y = 2))) ∧ w' = v) := TB.inf
  have zB : Hid (∀ v : World, Calls Tryd.prog 49 #[.int .u32 b] v fun e w' => e = .returned (.bool (decide (y = 0))) ∧ w' = v) := TB.nil
  clear TA TB
  all_goals rcases (by omega : x = 0 ∨ x = 1 ∨ x = 2 ∨ x = 3) with rfl | rfl | rfl | rfl <;> rcases (by omega : y = 0 ∨ y = 1 ∨ y = 2 ∨ y = 3) with rfl | rfl | rfl | rfl <;> try (exfalso; omega)
  all_goals
    simp only [Int.reduceEq, decide_true, decide_false] at qA qB iA iB zA zB
    clear hc
    go_enter Tryd.func53, Tryd.ntmps53
    go_wp2_with (first | (go_at_call 67; (with_reducible show Calls Tryd.prog 67 #[Value.int IntKind.u32 a] _ _); refine ((Hid.out nA) _).mono ?_; rintro e w' ⟨rfl, hw⟩; subst w') | (go_at_call 67; (with_reducible show Calls Tryd.prog 67 #[Value.int IntKind.u32 b] _ _); refine ((Hid.out nB) _).mono ?_; rintro e w' ⟨rfl, hw⟩; subst w') | (go_at_call 47; (with_reducible show Calls Tryd.prog 47 #[Value.int IntKind.u32 a] _ _); refine ((Hid.out qA) _).mono ?_; rintro e w' ⟨rfl, hw⟩; subst w') | (go_at_call 47; (with_reducible show Calls Tryd.prog 47 #[Value.int IntKind.u32 b] _ _); refine ((Hid.out qB) _).mono ?_; rintro e w' ⟨rfl, hw⟩; subst w') | (go_at_call 48; (with_reducible show Calls Tryd.prog 48 #[Value.int IntKind.u32 a] _ _); refine ((Hid.out iA) _).mono ?_; rintro e w' ⟨rfl, hw⟩; subst w') | (go_at_call 48; (with_reducible show Calls Tryd.prog 48 #[Value.int IntKind.u32 b] _ _); refine ((Hid.out iB) _).mono ?_; rintro e w' ⟨rfl, hw⟩; subst w') | (go_at_call 49; (with_reducible show Calls Tryd.prog 49 #[Value.int IntKind.u32 a] _ _); refine ((Hid.out zA) _).mono ?_; rintro e w' ⟨rfl, hw⟩; subst w') | (go_at_call 49; (with_reducible show Calls Tryd.prog 49 #[Value.int IntKind.u32 b] _ _); refine ((Hid.out zB) _).mono ?_; rintro e w' ⟨rfl, hw⟩; subst w') | (go_at_call 83; refine (nil83B _ _ _ _).mono ?_; rintro e w' ⟨rfl, hw⟩; subst w'))
    all_goals go_ret
    all_goals exact ⟨rfl, Below.refl _ _⟩
include xb yb TA TB in
set_option maxHeartbeats 4000000 in
theorem s_nan2 (w : World) (hab : ¬ a = b) (hc : x = 2 ∧ y = 2) : Calls Tryd.prog 53 #[.int .u32 a, .int .u32 b, .int .i64 mode] w fun e w' => e = .returned (.int .u32 2143289344) ∧ Below w.heap.size w w' := by
  have nA : Hid (∀ v : World, Calls Tryd.prog 67 #[.int .u32 a] v fun e w' => e = .returned (.bool SA) ∧ w' = v) := TA.neg
  have qA : Hid (∀ v : World, Calls Tryd.prog 47 #[.int .u32 a] v fun e w' => e = .returned (.bool (decide (x = 3))) ∧ w' = v) := TA.nan
  have iA : Hid (∀ v : World, Calls Tryd.prog 48 #[.int .u32 a] v fun e w' => e = .returned (.bool (decide (x = 2))) ∧ w' = v) := TA.inf
  have zA : Hid (∀ v : World, Calls Tryd.prog 49 #[.int .u32 a] v fun e w' => e = .returned (.bool (decide (x = 0))) ∧ w' = v) := TA.nil
  have nB : Hid (∀ v : World, Calls Tryd.prog 67 #[.int .u32 b] v fun e w' => e = .returned (.bool SB) ∧ w' = v) := TB.neg
  have qB : Hid (∀ v : World, Calls Tryd.prog 47 #[.int .u32 b] v fun e w' => e = .returned (.bool (decide (y = 3))) ∧ w' = v) := TB.nan
  have iB : Hid (∀ v : World, Calls Tryd.prog 48 #[.int .u32 b] v fun e w' => e = .returned (.bool (decide (y = 2))) ∧ w' = v) := TB.inf
  have zB : Hid (∀ v : World, Calls Tryd.prog 49 #[.int .u32 b] v fun e w' => e = .returned (.bool (decide (y = 0))) ∧ w' = v) := TB.nil
  clear TA TB
  have hab2 : (a == b) = false := by simpa using hab
  all_goals rcases (by omega : x = 0 ∨ x = 1 ∨ x = 2 ∨ x = 3) with rfl | rfl | rfl | rfl <;> rcases (by omega : y = 0 ∨ y = 1 ∨ y = 2 ∨ y = 3) with rfl | rfl | rfl | rfl <;> try (exfalso; omega)
  all_goals
    simp only [Int.reduceEq, decide_true, decide_false] at qA qB iA iB zA zB
    clear hc
    go_enter Tryd.func53, Tryd.ntmps53
    go_wp2_with (first | (go_at_call 67; (with_reducible show Calls Tryd.prog 67 #[Value.int IntKind.u32 a] _ _); refine ((Hid.out nA) _).mono ?_; rintro e w' ⟨rfl, hw⟩; subst w') | (go_at_call 67; (with_reducible show Calls Tryd.prog 67 #[Value.int IntKind.u32 b] _ _); refine ((Hid.out nB) _).mono ?_; rintro e w' ⟨rfl, hw⟩; subst w') | (go_at_call 47; (with_reducible show Calls Tryd.prog 47 #[Value.int IntKind.u32 a] _ _); refine ((Hid.out qA) _).mono ?_; rintro e w' ⟨rfl, hw⟩; subst w') | (go_at_call 47; (with_reducible show Calls Tryd.prog 47 #[Value.int IntKind.u32 b] _ _); refine ((Hid.out qB) _).mono ?_; rintro e w' ⟨rfl, hw⟩; subst w') | (go_at_call 48; (with_reducible show Calls Tryd.prog 48 #[Value.int IntKind.u32 a] _ _); refine ((Hid.out iA) _).mono ?_; rintro e w' ⟨rfl, hw⟩; subst w') | (go_at_call 48; (with_reducible show Calls Tryd.prog 48 #[Value.int IntKind.u32 b] _ _); refine ((Hid.out iB) _).mono ?_; rintro e w' ⟨rfl, hw⟩; subst w') | (go_at_call 49; (with_reducible show Calls Tryd.prog 49 #[Value.int IntKind.u32 a] _ _); refine ((Hid.out zA) _).mono ?_; rintro e w' ⟨rfl, hw⟩; subst w') | (go_at_call 49; (with_reducible show Calls Tryd.prog 49 #[Value.int IntKind.u32 b] _ _); refine ((Hid.out zB) _).mono ?_; rintro e w' ⟨rfl, hw⟩; subst w') | (go_at_call 83; refine (nil83B _ _ _ _).mono ?_; rintro e w' ⟨rfl, hw⟩; subst w'))
    all_goals go_ret
    all_goals exact ⟨rfl, Below.refl _ _⟩
include xb yb TA TB in
set_option maxHeartbeats 4000000 in
theorem s_infa (w : World) (hc : x = 2 ∧ (y = 0 ∨ y = 1)) : Calls Tryd.prog 53 #[.int .u32 a, .int .u32 b, .int .i64 mode] w fun e w' => e = .returned (.int .u32 a) ∧ Below w.heap.size w w' := by
  have nA : Hid (∀ v : World, Calls Tryd.prog 67 #[.int .u32 a] v fun e w' => e = .returned (.bool SA) ∧ w' = v) := TA.neg
  have qA : Hid (∀ v : World, Calls Tryd.prog 47 #[.int .u32 a] v fun e w' => e = .returned (.bool (decide (x = 3))) ∧ w' = v) := TA.nan
  have iA : Hid (∀ v : World, Calls Tryd.prog 48 #[.int .u32 a] v fun e w' => e = .returned (.bool (decide (x = 2))) ∧ w' = v) := TA.inf
  have zA : Hid (∀ v : World, Calls Tryd.prog 49 #[.int .u32 a] v fun e w' => e = .returned (.bool (decide (x = 0))) ∧ w' = v) := TA.nil
  have nB : Hid (∀ v : World, Calls Tryd.prog 67 #[.int .u32 b] v fun e w' => e = .returned (.bool SB) ∧ w' = v) := TB.neg
  have qB : Hid (∀ v : World, Calls Tryd.prog 47 #[.int .u32 b] v fun e w' => e = .returned (.bool (decide (y = 3))) ∧ w' = v) := TB.nan
  have iB : Hid (∀ v : World, Calls Tryd.prog 48 #[.int .u32 b] v fun e w' => e = .returned (.bool (decide (y = 2))) ∧ w' = v) := TB.inf
  have zB : Hid (∀ v : World, Calls Tryd.prog 49 #[.int .u32 b] v fun e w' => e = .returned (.bool (decide (y = 0))) ∧ w' = v) := TB.nil
  clear TA TB
  all_goals rcases (by omega : x = 0 ∨ x = 1 ∨ x = 2 ∨ x = 3) with rfl | rfl | rfl | rfl <;> rcases (by omega : y = 0 ∨ y = 1 ∨ y = 2 ∨ y = 3) with rfl | rfl | rfl | rfl <;> try (exfalso; omega)
  all_goals
    simp only [Int.reduceEq, decide_true, decide_false] at qA qB iA iB zA zB
    clear hc
    go_enter Tryd.func53, Tryd.ntmps53
    go_wp2_with (first | (go_at_call 67; (with_reducible show Calls Tryd.prog 67 #[Value.int IntKind.u32 a] _ _); refine ((Hid.out nA) _).mono ?_; rintro e w' ⟨rfl, hw⟩; subst w') | (go_at_call 67; (with_reducible show Calls Tryd.prog 67 #[Value.int IntKind.u32 b] _ _); refine ((Hid.out nB) _).mono ?_; rintro e w' ⟨rfl, hw⟩; subst w') | (go_at_call 47; (with_reducible show Calls Tryd.prog 47 #[Value.int IntKind.u32 a] _ _); refine ((Hid.out qA) _).mono ?_; rintro e w' ⟨rfl, hw⟩; subst w') | (go_at_call 47; (with_reducible show Calls Tryd.prog 47 #[Value.int IntKind.u32 b] _ _); refine ((Hid.out qB) _).mono ?_; rintro e w' ⟨rfl, hw⟩; subst w') | (go_at_call 48; (with_reducible show Calls Tryd.prog 48 #[Value.int IntKind.u32 a] _ _); refine ((Hid.out iA) _).mono ?_; rintro e w' ⟨rfl, hw⟩; subst w') | (go_at_call 48; (with_reducible show Calls Tryd.prog 48 #[Value.int IntKind.u32 b] _ _); refine ((Hid.out iB) _).mono ?_; rintro e w' ⟨rfl, hw⟩; subst w') | (go_at_call 49; (with_reducible show Calls Tryd.prog 49 #[Value.int IntKind.u32 a] _ _); refine ((Hid.out zA) _).mono ?_; rintro e w' ⟨rfl, hw⟩; subst w') | (go_at_call 49; (with_reducible show Calls Tryd.prog 49 #[Value.int IntKind.u32 b] _ _); refine ((Hid.out zB) _).mono ?_; rintro e w' ⟨rfl, hw⟩; subst w') | (go_at_call 83; refine (nil83B _ _ _ _).mono ?_; rintro e w' ⟨rfl, hw⟩; subst w'))
    all_goals go_ret
    all_goals exact ⟨rfl, Below.refl _ _⟩
include xb yb TA TB in
set_option maxHeartbeats 4000000 in
theorem s_infb (w : World) (hc : (x = 0 ∨ x = 1) ∧ y = 2) : Calls Tryd.prog 53 #[.int .u32 a, .int .u32 b, .int .i64 mode] w fun e w' => e = .returned (.int .u32 b) ∧ Below w.heap.size w w' := by
  have nA : Hid (∀ v : World, Calls Tryd.prog 67 #[.int .u32 a] v fun e w' => e = .returned (.bool SA) ∧ w' = v) := TA.neg
  have qA : Hid (∀ v : World, Calls Tryd.prog 47 #[.int .u32 a] v fun e w' => e = .returned (.bool (decide (x = 3))) ∧ w' = v) := TA.nan
  have iA : Hid (∀ v : World, Calls Tryd.prog 48 #[.int .u32 a] v fun e w' => e = .returned (.bool (decide (x = 2))) ∧ w' = v) := TA.inf
  have zA : Hid (∀ v : World, Calls Tryd.prog 49 #[.int .u32 a] v fun e w' => e = .returned (.bool (decide (x = 0))) ∧ w' = v) := TA.nil
  have nB : Hid (∀ v : World, Calls Tryd.prog 67 #[.int .u32 b] v fun e w' => e = .returned (.bool SB) ∧ w' = v) := TB.neg
  have qB : Hid (∀ v : World, Calls Tryd.prog 47 #[.int .u32 b] v fun e w' => e = .returned (.bool (decide (y = 3))) ∧ w' = v) := TB.nan
  have iB : Hid (∀ v : World, Calls Tryd.prog 48 #[.int .u32 b] v fun e w' => e = .returned (.bool (decide (y = 2))) ∧ w' = v) := TB.inf
  have zB : Hid (∀ v : World, Calls Tryd.prog 49 #[.int .u32 b] v fun e w' => e = .returned (.bool (decide (y = 0))) ∧ w' = v) := TB.nil
  clear TA TB
  all_goals rcases (by omega : x = 0 ∨ x = 1 ∨ x = 2 ∨ x = 3) with rfl | rfl | rfl | rfl <;> rcases (by omega : y = 0 ∨ y = 1 ∨ y = 2 ∨ y = 3) with rfl | rfl | rfl | rfl <;> try (exfalso; omega)
  all_goals
    simp only [Int.reduceEq, decide_true, decide_false] at qA qB iA iB zA zB
    clear hc
    go_enter Tryd.func53, Tryd.ntmps53
    go_wp2_with (first | (go_at_call 67; (with_reducible show Calls Tryd.prog 67 #[Value.int IntKind.u32 a] _ _); refine ((Hid.out nA) _).mono ?_; rintro e w' ⟨rfl, hw⟩; subst w') | (go_at_call 67; (with_reducible show Calls Tryd.prog 67 #[Value.int IntKind.u32 b] _ _); refine ((Hid.out nB) _).mono ?_; rintro e w' ⟨rfl, hw⟩; subst w') | (go_at_call 47; (with_reducible show Calls Tryd.prog 47 #[Value.int IntKind.u32 a] _ _); refine ((Hid.out qA) _).mono ?_; rintro e w' ⟨rfl, hw⟩; subst w') | (go_at_call 47; (with_reducible show Calls Tryd.prog 47 #[Value.int IntKind.u32 b] _ _); refine ((Hid.out qB) _).mono ?_; rintro e w' ⟨rfl, hw⟩; subst w') | (go_at_call 48; (with_reducible show Calls Tryd.prog 48 #[Value.int IntKind.u32 a] _ _); refine ((Hid.out iA) _).mono ?_; rintro e w' ⟨rfl, hw⟩; subst w') | (go_at_call 48; (with_reducible show Calls Tryd.prog 48 #[Value.int IntKind.u32 b] _ _); refine ((Hid.out iB) _).mono ?_; rintro e w' ⟨rfl, hw⟩; subst w') | (go_at_call 49; (with_reducible show Calls Tryd.prog 49 #[Value.int IntKind.u32 a] _ _); refine ((Hid.out zA) _).mono ?_; rintro e w' ⟨rfl, hw⟩; subst w') | (go_at_call 49; (with_reducible show Calls Tryd.prog 49 #[Value.int IntKind.u32 b] _ _); refine ((Hid.out zB) _).mono ?_; rintro e w' ⟨rfl, hw⟩; subst w') | (go_at_call 83; refine (nil83B _ _ _ _).mono ?_; rintro e w' ⟨rfl, hw⟩; subst w'))
    all_goals go_ret
    all_goals exact ⟨rfl, Below.refl _ _⟩
include xb yb TA TB in
set_option maxHeartbeats 4000000 in
theorem s_nn (w : World) (hc : x = 0 ∧ y = 0) : Calls Tryd.prog 53 #[.int .u32 a, .int .u32 b, .int .i64 mode] w fun e w' => e = .returned (.int .u32 (sgn_w (nilB SA SB mode) 0)) ∧ Below w.heap.size w w' := by
  have nA : Hid (∀ v : World, Calls Tryd.prog 67 #[.int .u32 a] v fun e w' => e = .returned (.bool SA) ∧ w' = v) := TA.neg
  have qA : Hid (∀ v : World, Calls Tryd.prog 47 #[.int .u32 a] v fun e w' => e = .returned (.bool (decide (x = 3))) ∧ w' = v) := TA.nan
  have iA : Hid (∀ v : World, Calls Tryd.prog 48 #[.int .u32 a] v fun e w' => e = .returned (.bool (decide (x = 2))) ∧ w' = v) := TA.inf
  have zA : Hid (∀ v : World, Calls Tryd.prog 49 #[.int .u32 a] v fun e w' => e = .returned (.bool (decide (x = 0))) ∧ w' = v) := TA.nil
  have nB : Hid (∀ v : World, Calls Tryd.prog 67 #[.int .u32 b] v fun e w' => e = .returned (.bool SB) ∧ w' = v) := TB.neg
  have qB : Hid (∀ v : World, Calls Tryd.prog 47 #[.int .u32 b] v fun e w' => e = .returned (.bool (decide (y = 3))) ∧ w' = v) := TB.nan
  have iB : Hid (∀ v : World, Calls Tryd.prog 48 #[.int .u32 b] v fun e w' => e = .returned (.bool (decide (y = 2))) ∧ w' = v) := TB.inf
  have zB : Hid (∀ v : World, Calls Tryd.prog 49 #[.int .u32 b] v fun e w' => e = .returned (.bool (decide (y = 0))) ∧ w' = v) := TB.nil
  clear TA TB
  all_goals rcases (by omega : x = 0 ∨ x = 1 ∨ x = 2 ∨ x = 3) with rfl | rfl | rfl | rfl <;> rcases (by omega : y = 0 ∨ y = 1 ∨ y = 2 ∨ y = 3) with rfl | rfl | rfl | rfl <;> try (exfalso; omega)
  all_goals
    simp only [Int.reduceEq, decide_true, decide_false] at qA qB iA iB zA zB
    clear hc
    go_enter Tryd.func53, Tryd.ntmps53
    go_wp2_with (first | (go_at_call 67; (with_reducible show Calls Tryd.prog 67 #[Value.int IntKind.u32 a] _ _); refine ((Hid.out nA) _).mono ?_; rintro e w' ⟨rfl, hw⟩; subst w') | (go_at_call 67; (with_reducible show Calls Tryd.prog 67 #[Value.int IntKind.u32 b] _ _); refine ((Hid.out nB) _).mono ?_; rintro e w' ⟨rfl, hw⟩; subst w') | (go_at_call 47; (with_reducible show Calls Tryd.prog 47 #[Value.int IntKind.u32 a] _ _); refine ((Hid.out qA) _).mono ?_; rintro e w' ⟨rfl, hw⟩; subst w') | (go_at_call 47; (with_reducible show Calls Tryd.prog 47 #[Value.int IntKind.u32 b] _ _); refine ((Hid.out qB) _).mono ?_; rintro e w' ⟨rfl, hw⟩; subst w') | (go_at_call 48; (with_reducible show Calls Tryd.prog 48 #[Value.int IntKind.u32 a] _ _); refine ((Hid.out iA) _).mono ?_; rintro e w' ⟨rfl, hw⟩; subst w') | (go_at_call 48; (with_reducible show Calls Tryd.prog 48 #[Value.int IntKind.u32 b] _ _); refine ((Hid.out iB) _).mono ?_; rintro e w' ⟨rfl, hw⟩; subst w') | (go_at_call 49; (with_reducible show Calls Tryd.prog 49 #[Value.int IntKind.u32 a] _ _); refine ((Hid.out zA) _).mono ?_; rintro e w' ⟨rfl, hw⟩; subst w') | (go_at_call 49; (with_reducible show Calls Tryd.prog 49 #[Value.int IntKind.u32 b] _ _); refine ((Hid.out zB) _).mono ?_; rintro e w' ⟨rfl, hw⟩; subst w') | (go_at_call 83; refine (nil83B _ _ _ _).mono ?_; rintro e w' ⟨rfl, hw⟩; subst w'))
    all_goals go_ret
    all_goals exact ⟨rfl, Below.refl _ _⟩
end
theorem s_infaa (a mode : Int) (SA : Bool) (TA : Tests a 2 SA) (w : World) : Calls Tryd.prog 53 #[.int .u32 a, .int .u32 a, .int .i64 mode] w fun e w' => e = .returned (.int .u32 a) ∧ Below w.heap.size w w' := by
  have qA : Hid (∀ v : World, Calls Tryd.prog 47 #[.int .u32 a] v fun e w' => e = .returned (.bool (decide ((2 : Int) = 3))) ∧ w' = v) := TA.nan
  have iA : Hid (∀ v : World, Calls Tryd.prog 48 #[.int .u32 a] v fun e w' => e = .returned (.bool (decide ((2 : Int) = 2))) ∧ w' = v) := TA.inf
  simp only [Int.reduceEq, decide_true, decide_false] at qA iA
  go_enter Tryd.func53, Tryd.ntmps53
  go_wp2_with (first | (go_at_call 47; refine ((Hid.out qA) _).mono ?_; rintro e w' ⟨rfl, hw⟩; subst w') | (go_at_call 48; refine ((Hid.out iA) _).mono ?_; rintro e w' ⟨rfl, hw⟩; subst w'))
  go_ret
  exact ⟨rfl, Below.refl _ _⟩
section
variable (a b mode x y : Int) (SA SB : Bool) (xb : 0 ≤ x ∧ x ≤ 3) (yb : 0 ≤ y ∧ y ≤ 3) (TA : Tests a x SA) (TB : Tests b y SB)
include xb yb TA TB in
set_option maxHeartbeats 4000000 in
theorem s_sum (w : World) (m n e k : Int) (pA : Hid (∀ v : World, Calls Tryd.prog 50 #[.int .u32 a] v fun e' w' => e' = .returned (.tuple #[.int .i64 m, .int .i64 e]) ∧ w' = v)) (pB : Hid (∀ v : World, Calls Tryd.prog 50 #[.int .u32 b] v fun e' w' => e' = .returned (.tuple #[.int .i64 n, .int .i64 k]) ∧ w' = v)) (F : Int) (X0 : -16777216 < m) (X1 : m < 16777216) (s0 : -16777216 < n) (s1 : n < 16777216) (T : Int)
    (HPl : Hid (∀ v : World, Calls Tryd.prog 84 #[.agg #[.int .i64 m, .bool false, .slice none 0 0, .int .i64 1, .bool false, .slice none 0 0, .int .i64 e], .agg #[.int .i64 n, .bool false, .slice none 0 0, .int .i64 1, .bool false, .slice none 0 0, .int .i64 k]] v fun e w' => ∃ V g pp l c, e = .returned (.agg #[.int .i64 V, .bool g, .slice pp l c, .int .i64 1, .bool false, .slice none 0 0, .int .i64 F]) ∧ Num w' 200 (.agg #[.int .i64 V, .bool g, .slice pp l c]) T ∧ Below v.heap.size v w')) (hT : T ≠ 0) (R : Int) (r0 : 0 ≤ R) (r1 : R < 4294967296)
    (HT : Hid (∀ (v : World) (K : Nat) (VP : Int) (gP : Bool) (pP : Option Addr) (lP cP : Nat), Num v K (.agg #[.int .i64 VP, .bool gP, .slice pP lP cP]) T → 2 ≤ K → K ≤ 9000 → Calls Tryd.prog 40 #[.agg #[.int .i64 VP, .bool gP, .slice pP lP cP, .int .i64 1, .bool false, .slice none 0 0, .int .i64 F], .agg #[.int .i64 24, .int .i64 (-149), .int .i64 104], .int .i64 mode] v fun e w' => e = .returned (.int .i64 R) ∧ Below v.heap.size v w')) (hc : (x = 0 ∨ x = 1) ∧ (y = 0 ∨ y = 1) ∧ ¬ (x = 0 ∧ y = 0)) : Calls Tryd.prog 53 #[.int .u32 a, .int .u32 b, .int .i64 mode] w fun e w' => e = .returned (.int .u32 R) ∧ Below w.heap.size w w' := by
  have nA : Hid (∀ v : World, Calls Tryd.prog 67 #[.int .u32 a] v fun e w' => e = .returned (.bool SA) ∧ w' = v) := TA.neg
  have qA : Hid (∀ v : World, Calls Tryd.prog 47 #[.int .u32 a] v fun e w' => e = .returned (.bool (decide (x = 3))) ∧ w' = v) := TA.nan
  have iA : Hid (∀ v : World, Calls Tryd.prog 48 #[.int .u32 a] v fun e w' => e = .returned (.bool (decide (x = 2))) ∧ w' = v) := TA.inf
  have zA : Hid (∀ v : World, Calls Tryd.prog 49 #[.int .u32 a] v fun e w' => e = .returned (.bool (decide (x = 0))) ∧ w' = v) := TA.nil
  have nB : Hid (∀ v : World, Calls Tryd.prog 67 #[.int .u32 b] v fun e w' => e = .returned (.bool SB) ∧ w' = v) := TB.neg
  have qB : Hid (∀ v : World, Calls Tryd.prog 47 #[.int .u32 b] v fun e w' => e = .returned (.bool (decide (y = 3))) ∧ w' = v) := TB.nan
  have iB : Hid (∀ v : World, Calls Tryd.prog 48 #[.int .u32 b] v fun e w' => e = .returned (.bool (decide (y = 2))) ∧ w' = v) := TB.inf
  have zB : Hid (∀ v : World, Calls Tryd.prog 49 #[.int .u32 b] v fun e w' => e = .returned (.bool (decide (y = 0))) ∧ w' = v) := TB.nil
  clear TA TB
  have hwR : IntKind.u32.wrap R = R := by rw [IntKind.wrap_u32]; exact Int.emod_eq_of_lt r0 r1
  all_goals rcases (by omega : x = 0 ∨ x = 1 ∨ x = 2 ∨ x = 3) with rfl | rfl | rfl | rfl <;> rcases (by omega : y = 0 ∨ y = 1 ∨ y = 2 ∨ y = 3) with rfl | rfl | rfl | rfl <;> try (exfalso; omega)
  all_goals
    simp only [Int.reduceEq, decide_true, decide_false] at qA qB iA iB zA zB
    clear hc
    go_enter Tryd.func53, Tryd.ntmps53
    go_wp2_with (first | (go_at_call 67; (with_reducible show Calls Tryd.prog 67 #[Value.int IntKind.u32 a] _ _); refine ((Hid.out nA) _).mono ?_; rintro e w' ⟨rfl, hw⟩; subst w') | (go_at_call 67; (with_reducible show Calls Tryd.prog 67 #[Value.int IntKind.u32 b] _ _); refine ((Hid.out nB) _).mono ?_; rintro e w' ⟨rfl, hw⟩; subst w') | (go_at_call 47; (with_reducible show Calls Tryd.prog 47 #[Value.int IntKind.u32 a] _ _); refine ((Hid.out qA) _).mono ?_; rintro e w' ⟨rfl, hw⟩; subst w') | (go_at_call 47; (with_reducible show Calls Tryd.prog 47 #[Value.int IntKind.u32 b] _ _); refine ((Hid.out qB) _).mono ?_; rintro e w' ⟨rfl, hw⟩; subst w') | (go_at_call 48; (with_reducible show Calls Tryd.prog 48 #[Value.int IntKind.u32 a] _ _); refine ((Hid.out iA) _).mono ?_; rintro e w' ⟨rfl, hw⟩; subst w') | (go_at_call 48; (with_reducible show Calls Tryd.prog 48 #[Value.int IntKind.u32 b] _ _); refine ((Hid.out iB) _).mono ?_; rintro e w' ⟨rfl, hw⟩; subst w') | (go_at_call 49; (with_reducible show Calls Tryd.prog 49 #[Value.int IntKind.u32 a] _ _); refine ((Hid.out zA) _).mono ?_; rintro e w' ⟨rfl, hw⟩; subst w') | (go_at_call 49; (with_reducible show Calls Tryd.prog 49 #[Value.int IntKind.u32 b] _ _); refine ((Hid.out zB) _).mono ?_; rintro e w' ⟨rfl, hw⟩; subst w') | (go_at_call 83; refine (nil83B _ _ _ _).mono ?_; rintro e w' ⟨rfl, hw⟩; subst w') | (go_at_call 50; (with_reducible show Calls Tryd.prog 50 #[Value.int IntKind.u32 a] _ _); refine ((Hid.out pA) _).mono ?_; rintro e w' ⟨rfl, hw⟩; subst w') | (go_at_call 50; (with_reducible show Calls Tryd.prog 50 #[Value.int IntKind.u32 b] _ _); refine ((Hid.out pB) _).mono ?_; rintro e w' ⟨rfl, hw⟩; subst w') | (go_at_call 41; (with_reducible show Calls Tryd.prog 41 #[Value.int IntKind.i64 m, Value.int IntKind.i64 e] w _); refine (zExact m e (by omega) (by omega) w).mono ?_; rintro e w1 ⟨rfl, hb1⟩) | (go_at_call 41; (with_reducible show Calls Tryd.prog 41 #[Value.int IntKind.i64 n, Value.int IntKind.i64 k] w1 _); refine (zExact n k (by omega) (by omega) w1).mono ?_; rintro e w2 ⟨rfl, hb2⟩) | (go_at_call 84; refine ((Hid.out HPl) w2).mono ?_; rintro e w3 ⟨V, g, pp, l, cc, rfl, N3, hb3⟩; (have q2 := hb1.trans (hb2.mono hb1.size)); (have q3 := q2.trans (hb3.mono q2.size))))
    all_goals
      obtain ⟨W, hW⟩ : ∃ W, W = w3.alloc (.cells #[.int .i64 V, .bool g, .slice pp l cc, .int .i64 1, .bool false, .slice none 0 0, .int .i64 F] 59) := ⟨_, rfl⟩
      have zW : w3.heap.size < W.heap.size := by rw [hW]; simp
      have N3W : Below w3.heap.size w3 W := by rw [hW]; exact (Below.refl _ _).alloc (Nat.le_refl _) _
      have NW : Num W 200 (.agg #[.int .i64 V, .bool g, .slice pp l cc]) T := N3.next N3W
      have PW : W.heap[w3.heap.size]? = some (.cells #[.int .i64 V, .bool g, .slice pp l cc, .int .i64 1, .bool false, .slice none 0 0, .int .i64 F] 59 (0, 0)) := by rw [hW]; exact heap_alloc_new _ _
      have bW : Below w.heap.size w W := q3.trans (N3W.mono q3.size)
      (try rw [← hW])
      have hz85 := num_zero NW
      rw [decide_eq_false hT] at hz85
      obtain ⟨⟨o0, o1, o2, o3, o4, o5, o6⟩, _⟩ := blk7 PW
      clear hW N3 hb1 hb2 hb3 q2 q3 N3W
      go_wp2_with (go_at_call 85; refine hz85.mono ?_; rintro e w6 ⟨rfl, hb6⟩; (have z6 := hb6.size); (have N6 := NW.next hb6); (have P6 := (hb6.block w3.heap.size zW).trans PW); obtain ⟨⟨p0, p1, p2, p3, p4, p5, p6⟩, _⟩ := blk7 P6)
      go_region_held3 (fun v => v.cell? ⟨w3.heap.size, 0, none⟩ = some (.int .i64 V) ∧ v.cell? ⟨w3.heap.size, 1, none⟩ = some (.bool g) ∧ v.cell? ⟨w3.heap.size, 2, none⟩ = some (.slice pp l cc) ∧ v.cell? ⟨w3.heap.size, 3, none⟩ = some (.int .i64 1) ∧ v.cell? ⟨w3.heap.size, 4, none⟩ = some (.bool false) ∧ v.cell? ⟨w3.heap.size, 5, none⟩ = some (.slice none 0 0) ∧ v.cell? ⟨w3.heap.size, 6, none⟩ = some (.int .i64 F)) (first | with_reducible exact ⟨p0, p1, p2, p3, p4, p5, p6⟩ | with_reducible exact ⟨t0, t1, t2, t3, t4, t5, t6⟩ | with_reducible exact ⟨u0, u1, u2, u3, u4, u5, u6⟩ | (go_keep; done)) (first | (go_at_call 42; refine (zWord _).mono ?_; rintro e w7 ⟨rfl, hb7⟩; (have hb7' : Below w6.heap.size w6 w7 := ⟨hb7.os, hb7.tape, hb7.output, hb7.size, hb7.block⟩); (have z7 := hb7'.size); (have N7 := N6.next hb7'); (have P7 := (hb7'.block w3.heap.size (by omega)).trans P6); obtain ⟨⟨t0, t1, t2, t3, t4, t5, t6⟩, _⟩ := blk7 P7) | (go_at_call 40; refine ((Hid.out HT) w7 200 V g pp l cc N7 (by decide) (by decide)).mono ?_; rintro e w8 ⟨rfl, hb8⟩; (have P8 := (hb8.block w3.heap.size (by omega)).trans P7); obtain ⟨⟨u0, u1, u2, u3, u4, u5, u6⟩, _⟩ := blk7 P8))
      all_goals go_wp2
      all_goals go_ret
      all_goals exact ⟨by first | rfl | (show Ending.returned (.int .u32 (IntKind.u32.wrap R)) = _; rw [hwR]), ((bW.trans (hb6.mono bW.size)).trans (hb7'.mono (Nat.le_trans bW.size hb6.size))).trans (hb8.mono (Nat.le_trans bW.size (Nat.le_trans hb6.size hb7'.size)))⟩
include xb yb TA TB in
set_option maxHeartbeats 4000000 in
theorem s_sum0 (w : World) (m n e k : Int) (pA : Hid (∀ v : World, Calls Tryd.prog 50 #[.int .u32 a] v fun e' w' => e' = .returned (.tuple #[.int .i64 m, .int .i64 e]) ∧ w' = v)) (pB : Hid (∀ v : World, Calls Tryd.prog 50 #[.int .u32 b] v fun e' w' => e' = .returned (.tuple #[.int .i64 n, .int .i64 k]) ∧ w' = v)) (F : Int) (X0 : -16777216 < m) (X1 : m < 16777216) (s0 : -16777216 < n) (s1 : n < 16777216) (T : Int)
    (HPl : Hid (∀ v : World, Calls Tryd.prog 84 #[.agg #[.int .i64 m, .bool false, .slice none 0 0, .int .i64 1, .bool false, .slice none 0 0, .int .i64 e], .agg #[.int .i64 n, .bool false, .slice none 0 0, .int .i64 1, .bool false, .slice none 0 0, .int .i64 k]] v fun e w' => ∃ V g pp l c, e = .returned (.agg #[.int .i64 V, .bool g, .slice pp l c, .int .i64 1, .bool false, .slice none 0 0, .int .i64 F]) ∧ Num w' 200 (.agg #[.int .i64 V, .bool g, .slice pp l c]) T ∧ Below v.heap.size v w')) (hT : T = 0) (hc : (x = 0 ∨ x = 1) ∧ (y = 0 ∨ y = 1) ∧ ¬ (x = 0 ∧ y = 0)) : Calls Tryd.prog 53 #[.int .u32 a, .int .u32 b, .int .i64 mode] w fun e w' => e = .returned (.int .u32 (sgn_w (decide (mode = 4)) 0)) ∧ Below w.heap.size w w' := by
  have nA : Hid (∀ v : World, Calls Tryd.prog 67 #[.int .u32 a] v fun e w' => e = .returned (.bool SA) ∧ w' = v) := TA.neg
  have qA : Hid (∀ v : World, Calls Tryd.prog 47 #[.int .u32 a] v fun e w' => e = .returned (.bool (decide (x = 3))) ∧ w' = v) := TA.nan
  have iA : Hid (∀ v : World, Calls Tryd.prog 48 #[.int .u32 a] v fun e w' => e = .returned (.bool (decide (x = 2))) ∧ w' = v) := TA.inf
  have zA : Hid (∀ v : World, Calls Tryd.prog 49 #[.int .u32 a] v fun e w' => e = .returned (.bool (decide (x = 0))) ∧ w' = v) := TA.nil
  have nB : Hid (∀ v : World, Calls Tryd.prog 67 #[.int .u32 b] v fun e w' => e = .returned (.bool SB) ∧ w' = v) := TB.neg
  have qB : Hid (∀ v : World, Calls Tryd.prog 47 #[.int .u32 b] v fun e w' => e = .returned (.bool (decide (y = 3))) ∧ w' = v) := TB.nan
  have iB : Hid (∀ v : World, Calls Tryd.prog 48 #[.int .u32 b] v fun e w' => e = .returned (.bool (decide (y = 2))) ∧ w' = v) := TB.inf
  have zB : Hid (∀ v : World, Calls Tryd.prog 49 #[.int .u32 b] v fun e w' => e = .returned (.bool (decide (y = 0))) ∧ w' = v) := TB.nil
  clear TA TB
  all_goals rcases (by omega : x = 0 ∨ x = 1 ∨ x = 2 ∨ x = 3) with rfl | rfl | rfl | rfl <;> rcases (by omega : y = 0 ∨ y = 1 ∨ y = 2 ∨ y = 3) with rfl | rfl | rfl | rfl <;> try (exfalso; omega)
  all_goals
    simp only [Int.reduceEq, decide_true, decide_false] at qA qB iA iB zA zB
    clear hc
    go_enter Tryd.func53, Tryd.ntmps53
    go_wp2_with (first | (go_at_call 67; (with_reducible show Calls Tryd.prog 67 #[Value.int IntKind.u32 a] _ _); refine ((Hid.out nA) _).mono ?_; rintro e w' ⟨rfl, hw⟩; subst w') | (go_at_call 67; (with_reducible show Calls Tryd.prog 67 #[Value.int IntKind.u32 b] _ _); refine ((Hid.out nB) _).mono ?_; rintro e w' ⟨rfl, hw⟩; subst w') | (go_at_call 47; (with_reducible show Calls Tryd.prog 47 #[Value.int IntKind.u32 a] _ _); refine ((Hid.out qA) _).mono ?_; rintro e w' ⟨rfl, hw⟩; subst w') | (go_at_call 47; (with_reducible show Calls Tryd.prog 47 #[Value.int IntKind.u32 b] _ _); refine ((Hid.out qB) _).mono ?_; rintro e w' ⟨rfl, hw⟩; subst w') | (go_at_call 48; (with_reducible show Calls Tryd.prog 48 #[Value.int IntKind.u32 a] _ _); refine ((Hid.out iA) _).mono ?_; rintro e w' ⟨rfl, hw⟩; subst w') | (go_at_call 48; (with_reducible show Calls Tryd.prog 48 #[Value.int IntKind.u32 b] _ _); refine ((Hid.out iB) _).mono ?_; rintro e w' ⟨rfl, hw⟩; subst w') | (go_at_call 49; (with_reducible show Calls Tryd.prog 49 #[Value.int IntKind.u32 a] _ _); refine ((Hid.out zA) _).mono ?_; rintro e w' ⟨rfl, hw⟩; subst w') | (go_at_call 49; (with_reducible show Calls Tryd.prog 49 #[Value.int IntKind.u32 b] _ _); refine ((Hid.out zB) _).mono ?_; rintro e w' ⟨rfl, hw⟩; subst w') | (go_at_call 83; refine (nil83B _ _ _ _).mono ?_; rintro e w' ⟨rfl, hw⟩; subst w') | (go_at_call 50; (with_reducible show Calls Tryd.prog 50 #[Value.int IntKind.u32 a] _ _); refine ((Hid.out pA) _).mono ?_; rintro e w' ⟨rfl, hw⟩; subst w') | (go_at_call 50; (with_reducible show Calls Tryd.prog 50 #[Value.int IntKind.u32 b] _ _); refine ((Hid.out pB) _).mono ?_; rintro e w' ⟨rfl, hw⟩; subst w') | (go_at_call 41; (with_reducible show Calls Tryd.prog 41 #[Value.int IntKind.i64 m, Value.int IntKind.i64 e] w _); refine (zExact m e (by omega) (by omega) w).mono ?_; rintro e w1 ⟨rfl, hb1⟩) | (go_at_call 41; (with_reducible show Calls Tryd.prog 41 #[Value.int IntKind.i64 n, Value.int IntKind.i64 k] w1 _); refine (zExact n k (by omega) (by omega) w1).mono ?_; rintro e w2 ⟨rfl, hb2⟩) | (go_at_call 84; refine ((Hid.out HPl) w2).mono ?_; rintro e w3 ⟨V, g, pp, l, cc, rfl, N3, hb3⟩; (have q2 := hb1.trans (hb2.mono hb1.size)); (have q3 := q2.trans (hb3.mono q2.size))))
    all_goals
      obtain ⟨W, hW⟩ : ∃ W, W = w3.alloc (.cells #[.int .i64 V, .bool g, .slice pp l cc, .int .i64 1, .bool false, .slice none 0 0, .int .i64 F] 59) := ⟨_, rfl⟩
      have zW : w3.heap.size < W.heap.size := by rw [hW]; simp
      have N3W : Below w3.heap.size w3 W := by rw [hW]; exact (Below.refl _ _).alloc (Nat.le_refl _) _
      have NW : Num W 200 (.agg #[.int .i64 V, .bool g, .slice pp l cc]) T := N3.next N3W
      have PW : W.heap[w3.heap.size]? = some (.cells #[.int .i64 V, .bool g, .slice pp l cc, .int .i64 1, .bool false, .slice none 0 0, .int .i64 F] 59 (0, 0)) := by rw [hW]; exact heap_alloc_new _ _
      have bW : Below w.heap.size w W := q3.trans (N3W.mono q3.size)
      (try rw [← hW])
      have hz85 := num_zero NW
      rw [decide_eq_true hT] at hz85
      obtain ⟨⟨o0, o1, o2, o3, o4, o5, o6⟩, _⟩ := blk7 PW
      clear hW N3 hb1 hb2 hb3 q2 q3 N3W
      go_wp2_with (first | (go_at_call 85; refine hz85.mono ?_; rintro e w6 ⟨rfl, hb6⟩) | (go_at_call 83; refine (nil83B false true mode _).mono ?_; rintro e w' ⟨rfl, hw⟩; subst w'))
      go_ret
      exact ⟨rfl, bW.trans (hb6.mono bW.size)⟩
end
theorem cross_div (a d a' d' : Nat) (h : a * d' = a' * d) (hd : 0 < d) (hd' : 0 < d') : a / d = a' / d' ∧ (a % d = 0 ↔ a' % d' = 0) := by
  have e1 : a / d = (a * d') / (d * d') := (Nat.mul_div_mul_right a d hd').symm
  have e2 : a' / d' = (a' * d) / (d' * d) := (Nat.mul_div_mul_right a' d' hd).symm
  have m1 : (a * d') % (d * d') = (a % d) * d' := Nat.mul_mod_mul_right d' a d
  have m2 : (a' * d) % (d' * d) = (a' % d') * d := Nat.mul_mod_mul_right d a' d'
  refine ⟨by rw [e1, e2, h, Nat.mul_comm d d'], ?_⟩
  rw [h, Nat.mul_comm d d', m2] at m1
  constructor
  · intro h0
    rw [h0, Nat.zero_mul] at m1
    rcases Nat.mul_eq_zero.mp m1 with q | q
    · exact q
    · omega
  · intro h0
    rw [h0, Nat.zero_mul] at m1
    rcases Nat.mul_eq_zero.mp m1.symm with q | q
    · exact q
    · omega
/-- The same fraction in other words: the same quotient, and nothing left over in both or in none. -/
theorem frac_same (N D N' D' : Nat) (p : Int) (h : N * D' = N' * D) (hd : 0 < D) (hd' : 0 < D') : sa N p / sb D p = sa N' p / sb D' p ∧ (sa N p % sb D p = 0 ↔ sa N' p % sb D' p = 0) := by
  refine cross_div _ _ _ _ ?_ ?_ ?_
  · unfold sa sb
    rw [Nat.mul_mul_mul_comm N _ D' _, Nat.mul_mul_mul_comm N' _ D _, h]
  · unfold sb; exact Nat.mul_pos hd (p2 _)
  · unfold sb; exact Nat.mul_pos hd' (p2 _)
/-- A number and a power, and another number and power of the same worth: the program rounds the one as the model tells the other. -/
theorem one_both (n : Bool) (z : Nat) (P mode : Int) (m0 : 0 ≤ mode) (m4 : mode ≤ 4) (z0 : 0 < z) (z1 : z < 18446744073709551616) (p0 : -1000 ≤ P) (p1 : P ≤ 800) (T F : Int) (T0 : T ≠ 0) (f0 : -1000 ≤ F) (f1 : F ≤ 800) (hn : decide (T < 0) = n) (big : T.natAbs * 2 ^ F.toNat < 1000000000 ^ 60)
    (h : T.natAbs * 2 ^ F.toNat * 2 ^ (-P).toNat = z * 2 ^ P.toNat * 2 ^ (-F).toNat) :
    ∃ R : Int, 0 ≤ R ∧ R < 4294967296 ∧
      (∀ v : World, Forms v → Calls Tryd.prog 52 #[.agg #[.bool n, .int .u64 (z : Int), .int .i64 P, .bool false], .int .i64 0, .int .i64 mode] v fun e w' => e = .returned (.int .u32 R) ∧ Below v.heap.size v w') ∧
      (∀ (v : World) (K L : Nat) (VP VQ : Int) (gP gQ : Bool) (pP pQ : Option Addr) (lP cP lQ cQ : Nat), Num v K (.agg #[.int .i64 VP, .bool gP, .slice pP lP cP]) T → Num v L (.agg #[.int .i64 VQ, .bool gQ, .slice pQ lQ cQ]) 1 → 2 ≤ K → K ≤ 9000 →
        Calls Tryd.prog 40 #[.agg #[.int .i64 VP, .bool gP, .slice pP lP cP, .int .i64 VQ, .bool gQ, .slice pQ lQ cQ, .int .i64 F], .agg #[.int .i64 24, .int .i64 (-149), .int .i64 104], .int .i64 mode] v fun e w' => e = .returned (.int .i64 R) ∧ Below v.heap.size v w') := by
  obtain ⟨f1', f2'⟩ := frac_same (T.natAbs * 2 ^ F.toNat) (1 * 2 ^ (-F).toNat) (z * 2 ^ P.toNat) (1 * 2 ^ (-P).toNat) P (by rw [Nat.one_mul, Nat.one_mul]; exact h) (Nat.mul_pos (by decide) (p2 _)) (Nat.mul_pos (by decide) (p2 _))
  obtain ⟨g1, g2⟩ := exact_z z P
  exact both_w n z P false mode m0 m4 z0 z1 (by omega) (by omega) T 1 F T0 f0 (by omega) (T.natAbs * 2 ^ F.toNat) (1 * 2 ^ (-F).toNat) T.natAbs 1 rfl rfl rfl rfl (by decide) big (big_lt 1 _ (by decide) (by omega)) hn (f1'.trans g1) (by rw [f2'.mpr g2]; rfl) (fun h => by cases h)
/-- The sum of two numbers above 0, the first of them taken 2^23 times with a power less by 23: the program's roundSum and the model's l1Told of the plain sum answer alike. -/
theorem add_both (nx ny : Bool) (s t : Nat) (p q mode : Int) (m0 : 0 ≤ mode) (m4 : mode ≤ 4) (s0 : 0 < s) (s1 : s < 16777216) (t0 : 0 < t) (t1 : t < 16777216) (p0 : -149 ≤ p) (p1 : p ≤ 105) (q0 : -149 ≤ q) (q1 : q ≤ 105) (F T : Int) (hF : F = p ∧ p ≤ q ∨ F = q ∧ q ≤ p) (hT : T = sgI nx (s : Int) * 2 ^ (p - F).toNat + sgI ny (t : Int) * 2 ^ (q - F).toNat) (g : Nat) (hg : s * 8388608 = g) :
    (T = 0 ∧ ∀ w : World, Forms w → Calls Tryd.prog 63 #[.agg #[.bool nx, .int .u64 (g : Int), .int .i64 (p + -23), .bool false], .agg #[.bool ny, .int .u64 (t : Int), .int .i64 q, .bool false], .int .i64 mode] w fun e w' => e = .returned (.int .u32 (sgn_w (decide (mode = 4)) 0)) ∧ Below w.heap.size w w') ∨
    (T ≠ 0 ∧ ∃ R : Int, 0 ≤ R ∧ R < 4294967296 ∧ (∀ w : World, Forms w → Calls Tryd.prog 63 #[.agg #[.bool nx, .int .u64 (g : Int), .int .i64 (p + -23), .bool false], .agg #[.bool ny, .int .u64 (t : Int), .int .i64 q, .bool false], .int .i64 mode] w fun e w' => e = .returned (.int .u32 R) ∧ Below w.heap.size w w') ∧
      (∀ (v : World) (K L : Nat) (VP VQ : Int) (gP gQ : Bool) (pP pQ : Option Addr) (lP cP lQ cQ : Nat), Num v K (.agg #[.int .i64 VP, .bool gP, .slice pP lP cP]) T → Num v L (.agg #[.int .i64 VQ, .bool gQ, .slice pQ lQ cQ]) 1 → 2 ≤ K → K ≤ 9000 →
        Calls Tryd.prog 40 #[.agg #[.int .i64 VP, .bool gP, .slice pP lP cP, .int .i64 VQ, .bool gQ, .slice pQ lQ cQ, .int .i64 F], .agg #[.int .i64 24, .int .i64 (-149), .int .i64 104], .int .i64 mode] v fun e w' => e = .returned (.int .i64 R) ∧ Below v.heap.size v w')) := by
  have g0 : 0 < g := by omega
  have g1 : g < 281474976710656 := by omega
  obtain ⟨E, U, d, hE, hU, hd, hTU⟩ : ∃ (E U : Int) (d : Nat), (E = p + -23 ∧ p + -23 ≤ q ∨ E = q ∧ q ≤ p + -23) ∧ U = sgI nx (g : Int) * 2 ^ (p + -23 - E).toNat + sgI ny (t : Int) * 2 ^ (q - E).toNat ∧ F = E + (d : Int) ∧ U = T * 2 ^ d := by
    have key : ∀ E : Int, E ≤ p + -23 → E ≤ q → E ≤ F → sgI nx (g : Int) * 2 ^ (p + -23 - E).toNat + sgI ny (t : Int) * 2 ^ (q - E).toNat = T * 2 ^ (F - E).toNat := by
      intro E h1 h2 h3
      rw [hT, Int.add_mul, Int.mul_assoc, Int.mul_assoc, ← Int.pow_add, ← Int.pow_add]
      rw [show (p - F).toNat + (F - E).toNat = 23 + (p + -23 - E).toNat by omega, show (q - F).toNat + (F - E).toNat = (q - E).toNat by omega, Int.pow_add, ← Int.mul_assoc (sgI nx (s : Int))]
      congr 2
      rw [← hg]
      cases nx <;> simp [sgI] <;> omega
    by_cases h : p + -23 ≤ q
    · exact ⟨p + -23, _, (F - (p + -23)).toNat, Or.inl ⟨rfl, h⟩, rfl, by omega, key (p + -23) (by omega) h (by omega)⟩
    · exact ⟨q, _, (F - q).toNat, Or.inr ⟨rfl, by omega⟩, rfl, by omega, key q (by omega) (by omega) (by omega)⟩
  obtain ⟨rn, z, P, rm, r, HS, P0, P1, z1, z30, hrm, hr, hTu, hs, hz⟩ := sum_any nx ny g t (p + -23) q g0 g1 t0 (by omega) (by omega) (by omega) (by omega) (by omega) E U hE hU
  have big := T_big nx ny s t p q F T (by omega) (by omega) (by omega) (by omega) (by omega) (by omega) hF hT
  have pd : (0 : Int) < 2 ^ d := by have := p2 d; exact_mod_cast this
  have iff0 : U = 0 ↔ T = 0 := by
    rw [hTU]
    constructor
    · intro h
      rcases Int.mul_eq_zero.mp h with q | q
      · exact q
      · omega
    · intro h; rw [h, Int.zero_mul]
  by_cases hz0 : z = 0
  · refine Or.inl ⟨iff0.mp (hz hz0), fun w G => ?_⟩
    have hT0 := hz hz0
    have hn : (nx == ny) = false := by
      rw [hT0, sgI_pow, sgI_pow] at hU
      have a1 : 0 < g * 2 ^ (p + -23 - E).toNat := Nat.mul_pos g0 (p2 _)
      have a2 : 0 < t * 2 ^ (q - E).toNat := Nat.mul_pos t0 (p2 _)
      obtain ⟨A, hA⟩ : ∃ A, g * 2 ^ (p + -23 - E).toNat = A := ⟨_, rfl⟩
      obtain ⟨B, hB⟩ : ∃ A, t * 2 ^ (q - E).toNat = A := ⟨_, rfl⟩
      rw [hA] at hU a1
      rw [hB] at hU a2
      cases nx <;> cases ny <;> first | rfl | (exfalso; simp only [sgI, Bool.false_eq_true, if_true, if_false] at hU; omega)
    subst hz0
    exact rs_diff nx ny rn rm (g : Int) (p + -23) (t : Int) q P mode w hn HS G
  · have Un : U ≠ 0 := by
      intro h0
      rw [h0] at hTu
      simp only [Int.natAbs_zero, Nat.zero_mul] at hTu
      have : 0 < z * 2 ^ (P - E).toNat := Nat.mul_pos (by omega) (p2 _)
      omega
    have Tn : T ≠ 0 := fun h => Un (iff0.mpr h)
    obtain ⟨g1', g2'⟩ := quot_g U.natAbs 1 E P
    have hdiv : U.natAbs * 2 ^ (E - P).toNat / (1 * 2 ^ (P - E).toNat) = z := by
      rw [hTu, Nat.one_mul, Nat.add_comm, Nat.add_mul_div_right _ _ (p2 _), Nat.div_eq_of_lt hr, Nat.zero_add]
    have hmod : U.natAbs * 2 ^ (E - P).toNat % (1 * 2 ^ (P - E).toNat) = r := by
      rw [hTu, Nat.one_mul, Nat.add_comm, Nat.add_mul_mod_self_right, Nat.mod_eq_of_lt hr]
    have hUa : U.natAbs = T.natAbs * 2 ^ d := by rw [hTU, Int.natAbs_mul, Int.natAbs_pow]; rfl
    obtain ⟨f1, f2⟩ := frac_same (T.natAbs * 2 ^ F.toNat) (1 * 2 ^ (-F).toNat) (U.natAbs * 2 ^ E.toNat) (1 * 2 ^ (-E).toNat) P (by
      rw [hUa, Nat.one_mul, Nat.one_mul, Nat.mul_assoc, ← Nat.pow_add, Nat.mul_assoc (T.natAbs), ← Nat.pow_add, Nat.mul_assoc (T.natAbs), ← Nat.pow_add]
      congr 2
      omega) (Nat.mul_pos (by decide) (p2 _)) (Nat.mul_pos (by decide) (p2 _))
    have sgn : decide (T < 0) = rn := by
      rw [← hs hz0]
      have : T < 0 ↔ U < 0 := by
        rw [hTU]
        constructor
        · intro h; exact Int.mul_neg_of_neg_of_pos h pd
        · intro h
          rcases Int.lt_or_le T 0 with q | q
          · exact q
          · have := Int.mul_nonneg q (Int.le_of_lt pd); omega
      simp only [this]
    obtain ⟨R, R0, R1, hi, hsp⟩ := both_w rn z P rm mode m0 m4 (by omega) (by omega) (by omega) (by omega) T 1 F Tn (by omega) (by omega) (T.natAbs * 2 ^ F.toNat) (1 * 2 ^ (-F).toNat) T.natAbs 1 rfl rfl rfl rfl (by decide) big (big_lt 1 _ (by decide) (by omega)) sgn (by rw [f1, g1', hdiv]) (by
      rw [hrm]
      rw [hmod] at g2'
      simp only [Ne, f2, g2']) z30
    exact Or.inr ⟨Tn, R, R0, R1, fun w G => rs_num nx ny rn rm (g : Int) (p + -23) (t : Int) q (z : Int) P mode R w (by omega) HS hi G, hsp⟩
end Go.Proofs.YtamoakodlmjbiaaDoor.fnExactAddWords
